/-
  huff.newBook, by its contract.
-/
import Derived.Test.YtmkkhfkfjmfdcaaGreatHuffC
namespace Go.Proofs.YtmkkhfkfjmfdcaaGreat
open Go.RowKit

/-- The cells of a book. -/
def bookL (c f s o : List Int) : List Value := c.map (Value.int .i64) ++ (f.map (Value.int .u64) ++ (s.map (Value.int .i64) ++ o.map (Value.int .i64)))
def book (c f s o : List Int) : Array Value := (bookL c f s o).toArray
theorem bookL_length (c f s o : List Int) : (bookL c f s o).length = c.length + (f.length + (s.length + o.length)) := by simp [bookL]
theorem bookL_c (c f s o : List Int) (i : Nat) (v : Int) (h : c[i]? = some v) : (book c f s o)[i]? = some (.int .i64 v) := by
  have hi := (List.getElem?_eq_some_iff.1 h).1
  simp only [book, bookL, List.getElem?_toArray]
  rw [List.getElem?_append_left (by simpa using hi), List.getElem?_map, h]; rfl
theorem bookL_f (c f s o : List Int) (i j : Nat) (v : Int) (hj : j = c.length + i) (h : f[i]? = some v) : (book c f s o)[j]? = some (.int .u64 v) := by
  have hi := (List.getElem?_eq_some_iff.1 h).1
  subst hj
  simp only [book, bookL, List.getElem?_toArray]
  rw [List.getElem?_append_right (by simp), List.length_map, Nat.add_sub_cancel_left, List.getElem?_append_left (by simpa using hi), List.getElem?_map, h]; rfl
theorem bookL_s (c f s o : List Int) (i j : Nat) (v : Int) (hj : j = c.length + (f.length + i)) (h : s[i]? = some v) : (book c f s o)[j]? = some (.int .i64 v) := by
  have hi := (List.getElem?_eq_some_iff.1 h).1
  subst hj
  simp only [book, bookL, List.getElem?_toArray]
  rw [List.getElem?_append_right (by simp), List.length_map, Nat.add_sub_cancel_left, List.getElem?_append_right (by simp), List.length_map, Nat.add_sub_cancel_left, List.getElem?_append_left (by simpa using hi), List.getElem?_map, h]; rfl
theorem bookL_o (c f s o : List Int) (i j : Nat) (v : Int) (hj : j = c.length + (f.length + (s.length + i))) (h : o[i]? = some v) : (book c f s o)[j]? = some (.int .i64 v) := by
  subst hj
  simp only [book, bookL, List.getElem?_toArray]
  rw [List.getElem?_append_right (by simp), List.length_map, Nat.add_sub_cancel_left, List.getElem?_append_right (by simp), List.length_map, Nat.add_sub_cancel_left, List.getElem?_append_right (by simp), List.length_map, Nat.add_sub_cancel_left, List.getElem?_map, h]; rfl
theorem book_s (c f s o : List Int) (i j : Nat) (v : Int) (hj : j = c.length + (f.length + i)) (hi : i < s.length) : (book c f s o).setIfInBounds j (.int .i64 v) = book c f (s.set i v) o := by
  subst hj
  simp only [book, bookL, List.setIfInBounds_toArray]
  rw [List.set_append_right _ _ (by simp), List.length_map, Nat.add_sub_cancel_left, List.set_append_right _ _ (by simp), List.length_map, Nat.add_sub_cancel_left, List.set_append_left _ _ (by simpa using hi), List.map_set]
theorem book_o (c f s o : List Int) (i j : Nat) (v : Int) (hj : j = c.length + (f.length + (s.length + i))) : (book c f s o).setIfInBounds j (.int .i64 v) = book c f s (o.set i v) := by
  subst hj
  simp only [book, bookL, List.setIfInBounds_toArray]
  rw [List.set_append_right _ _ (by simp), List.length_map, Nat.add_sub_cancel_left, List.set_append_right _ _ (by simp), List.length_map, Nat.add_sub_cancel_left, List.set_append_right _ _ (by simp), List.length_map, Nat.add_sub_cancel_left, List.map_set]

/-- Many cells laid one behind the other. -/
def lay (c : Array Value) (i : Nat) : List Value → Array Value
  | [] => c
  | v :: r => lay (c.setIfInBounds i v) (i + 1) r
theorem Ar.lay {b : Nat} {t : TypeId} (vs : List Value) : ∀ {w : World} {c : Array Value} (i : Nat), Ar w b t c → Ar (w.setCells b i vs) b t (lay c i vs) := by
  induction vs with
  | nil => intro w c i h; exact h
  | cons v r ih => intro w c i h; exact ih (i + 1) (h.set i v)
theorem upd_setCells (b : Nat) (vs : List Value) : ∀ (w : World) (i : Nat), Upd b w (w.setCells b i vs) := by
  induction vs with
  | nil => intro w i; exact ⟨rfl, rfl, rfl, rfl, fun _ _ => rfl⟩
  | cons v r ih =>
    intro w i
    have h1 := upd_setCell w b i v
    have h2 := ih (w.setCell ⟨b, i, none⟩ v) (i + 1)
    exact ⟨h2.os.trans h1.os, h2.tape.trans h1.tape, h2.output.trans h1.output, h2.size.trans h1.size, fun k hk => (h2.block k hk).trans (h1.block k hk)⟩
theorem lay_mid (vs : List Value) : ∀ (a m z : List Value) (i : Nat), a.length = i → m.length = vs.length → lay (a ++ (m ++ z)).toArray i vs = (a ++ (vs ++ z)).toArray := by
  induction vs with
  | nil => intro a m z i _ hm; obtain rfl := List.eq_nil_of_length_eq_zero hm; rfl
  | cons v r ih =>
    intro a m z i ha hm
    cases m with
    | nil => simp at hm
    | cons x m =>
      rw [lay, List.setIfInBounds_toArray, List.set_append_right _ _ (by omega), ha, Nat.sub_self]
      simp only [List.cons_append, List.set_cons_zero]
      have := ih (a ++ [v]) m z (i + 1) (by simp [ha]) (by simpa using hm)
      simpa using this
theorem wpl_store_at {P : Program} {ops : Array Oper} {rest : List Oper} {o : Oper} {a : Act} {w : World} {Q : Exit → Act → World → Prop} (ty : TypeId) (x y : Operand) (ho : o.op = .store ty x y) (hgd : o.guard = none) (b i : Nat) (vs : List Value) (hx : a.eval x = .pointer (some ⟨b, i, none⟩)) (hy : a.eval y = .agg vs.toArray)
    (t : TypeId) (c : Array Value) (hg : Ar w b t c) (hi : (P.info? ty).map (·.size) = some vs.length) (hin : i + vs.length ≤ c.size) (h1 : ∀ v ∈ vs, v.oneCell' = true)
    (h : ∀ w', Ar w' b t (lay c i vs) → Upd b w w' → wpList P ops Q rest (a.put o.dst undef) w') : wpList P ops Q (o :: rest) a w := by
  refine wpList_store_mid hgd ty x y ho b i vs.toArray hx hy ?_ (by simpa using hi) (all_oneCell_toArray h1) (by simpa using h _ (hg.lay vs i) (upd_setCells b vs w i))
  intro j hj
  have hj' : i + j < c.size := by have : j < vs.length := by simpa using hj
                                  omega
  exact ⟨by rw [Lib.cell_of_heap hg, Array.getElem?_eq_getElem hj']; rfl, Lib.frozen_of_heap hg _⟩

theorem wpl_load_at {P : Program} {ops : Array Oper} {rest : List Oper} {o : Oper} {a : Act} {w : World} {Q : Exit → Act → World → Prop} (ty : TypeId) (x : Operand) (ho : o.op = .load ty x) (hgd : o.guard = none) (b i : Nat) (hx : a.eval x = .pointer (some ⟨b, i, none⟩)) (t : TypeId) (c : Array Value) (hc : Ar w b t c)
    (k : IntKind) (l : List Int) (hl : ∀ j v, l[j]? = some v → c[i + j]? = some (.int k v)) (d : TypeDesc) (hu : P.underlying ty = some d) (hd : d.isRow = true) (hi : (P.info? ty).map (·.size) = some l.length)
    (h : wpList P ops Q rest (a.put o.dst (.agg (nums k l))) w) : wpList P ops Q (o :: rest) a w := by
  refine wpList_load_mid hgd ty x ho b i hx (l.map (Value.int k)) d ?_ hu hd (by simpa using hi) h
  intro j v hv
  rw [List.getElem?_map] at hv
  obtain ⟨u, hu', rfl⟩ := Option.map_eq_some_iff.1 hv
  rw [Lib.cell_of_heap hc]; exact hl j u hu'
theorem book_size (c f s o : List Int) : (book c f s o).size = c.length + (f.length + (s.length + o.length)) := by simp [book, bookL]
theorem cnt_length : Hf.cnt.length = 31 := rfl
theorem lay_f : lay (book Hf.cnt Hf.zero31 Hf.zero31 Hf.zero257) 31 (Hf.fsts.map (Value.int .u64)) = book Hf.cnt Hf.fsts Hf.zero31 Hf.zero257 := by
  rw [book, bookL, lay_mid _ _ _ _ _ (by rw [List.length_map, cnt_length]) (by rw [List.length_map, List.length_map, Hf.zero31_length, Hf.fsts_length])]; rfl

theorem book0 : Tryz.prog.built 150 [(0, .agg (nums .i64 Hf.cnt))] = some (book Hf.cnt Hf.zero31 Hf.zero31 Hf.zero257) := by kernel_rfl

set_option maxHeartbeats 1000000 in
set_option maxRecDepth 100000 in
theorem newBook_any (w : World) :
    Calls Tryz.prog 100 #[] w fun e w' => ∃ b, e = .returned (.pointer (some ⟨b, 0, none⟩)) ∧ w.heap.size ≤ b ∧ Ar w' b 150 (book Hf.cnt Hf.fsts Hf.stas Hf.ords) ∧ Below w.heap.size w w' := by
  go_enter Tryz.func100, Tryz.ntmps100
  go_wp2_with fail
  refine (lengths_any _).mono ?_
  rintro e w1 ⟨rfl, hl1⟩
  go_wp2_with (refine wpl_alloc 116 rfl rfl _ zero257i ?_)
  intro b0 w2 hb0 ha2 hl2
  refine wpl_store 116 _ _ rfl rfl b0 (nums .i64 Hf.lens) (by kernel_rfl) (by kernel_rfl) _ _ ha2 (by rw [nums_size, Hf.lens_length]; exact size257i) (by rw [nums_size, nums_size, Hf.lens_length, Hf.zero257_length]) (nums_one _ _) ?_
  intro w3 ha3 hu3
  have HA := hid' ha3
  have HB : Hid (Below w.heap.size w w3 ∧ w.heap.size ≤ b0) := hid' ⟨(below_two hl1 hl2).trans (hu3.below (by have := hl1.size; omega)), by have := hl1.size; omega⟩
  clear hl1 hb0 ha2 hl2 ha3 hu3
  go_wp2_with (refine wpl_load 116 _ rfl rfl b0 (by kernel_rfl) _ _ HA.out _ Tryz.underlying116 rfl (by rw [nums_size, Hf.lens_length]; exact size257i) ?_)
  refine (counts_any _).mono ?_
  rintro e w4 ⟨rfl, hl4⟩
  go_wp2_with (refine wpl_build 150 _ rfl rfl (book Hf.cnt Hf.zero31 Hf.zero31 Hf.zero257) (by kernel_rfl) ?_)
  rintro _ (rfl : _ = _)
  refine wpl_box 150 _ rfl rfl (book Hf.cnt Hf.zero31 Hf.zero31 Hf.zero257) (by kernel_rfl) ?_
  intro b1 w5 hb1 ha5 hl5
  have HS5 : Hid (Ar w5 b0 116 (nums .i64 Hf.lens) ∧ Ar w5 b1 150 (book Hf.cnt Hf.zero31 Hf.zero31 Hf.zero257) ∧ Below w.heap.size w w5 ∧ w.heap.size ≤ b0 ∧ b0 < b1) := hid' (by
    have h45 := below_two hl4 hl5
    have := HA.out.lt
    have := hl4.size
    exact ⟨HA.out.keep h45, ha5, below_from HB.out.1 h45 HB.out.1.size, HB.out.2, by omega⟩)
  clear HA HB hl4 hb1 ha5 hl5
  have H1 := hid' HS5.out.2.1
  go_wp2_with (refine wpl_load_at 134 _ rfl rfl b1 0 (by kernel_rfl) _ _ H1.out .i64 Hf.cnt (fun j v hv => by rw [Nat.zero_add]; exact bookL_c _ _ _ _ j v hv) _ Tryz.underlying134 rfl (by rw [cnt_length]; exact size31i) ?_)
  clear H1
  refine (firsts_any _).mono ?_
  rintro e w6 ⟨rfl, hl6⟩
  have H1 := hid' (HS5.out.2.1.keep hl6)
  go_wp2_with (refine wpl_store_at 132 _ _ rfl rfl b1 31 (Hf.fsts.map (Value.int .u64)) (by kernel_rfl) (by kernel_rfl) _ _ H1.out (by rw [List.length_map, Hf.fsts_length]; exact size31u) (by rw [List.length_map, Hf.fsts_length, book_size, cnt_length, Hf.zero31_length, Hf.zero257_length]; omega) (fun v hv => by obtain ⟨u, _, rfl⟩ := List.mem_map.1 hv; rfl) ?_)
  intro w7 ha7 hu7
  have HS : Hid (Ar w7 b0 116 (nums .i64 Hf.lens) ∧ Ar w7 b1 150 (book Hf.cnt Hf.fsts (Hf.staTo 0) Hf.zero257) ∧ Below w.heap.size w w7 ∧ w.heap.size ≤ b0 ∧ b0 < b1) := hid' (by
    obtain ⟨h0, h1, h2, h3, h4⟩ := HS5.out
    rw [lay_f] at ha7
    exact ⟨hu7.keep (h0.keep hl6) (by omega), ha7, (below_from h2 hl6 h2.size).trans (hu7.below (by omega)), h3, h4⟩)
  clear HS5 H1 hl6 ha7 hu7
  go_wp2
  go_loopw [3] (fun s wr => ∃ i k : Nat, k ≤ 30 ∧ s = .int .i64 (i : Int) ∧ Hid (i = k + 1) ∧ Hid (Ar wr b0 116 (nums .i64 Hf.lens) ∧ Ar wr b1 150 (book Hf.cnt Hf.fsts (Hf.staTo k) Hf.zero257) ∧ Below w.heap.size w wr ∧ w.heap.size ≤ b0 ∧ b0 < b1)) (fun i _ => 31 - (intOf i).toNat)
  case atStart => exact ⟨1, 0, Nat.zero_le _, rfl, hid' rfl, HS⟩
  case round =>
    clear HS
    obtain ⟨i, k, hk, rfl, HI, HS⟩ := hrel
    by_cases hlt : k < 30
    · have hi := HI.out
      have hk2 : (i : Int) ≤ 30 := by omega
      have hk3 : (i : Int) - 1 = (k : Int) := by omega
      have hk4 : (k : Int) < 31 := by omega
      have hk5 : (i : Int) < 31 := by omega
      obtain ⟨x, hx⟩ : ∃ x, (Hf.staTo k).getD k 0 = x := ⟨_, rfl⟩
      obtain ⟨y, hy⟩ : ∃ y, Hf.cnt.getD k 0 = y := ⟨_, rfl⟩
      obtain ⟨z, hz⟩ : ∃ z, (Hf.staTo k).getD i 0 = z := ⟨_, rfl⟩
      have hc0 : wr.cell? ⟨b1, k, none⟩ = some (.int .i64 y) := HS.out.2.1.cell _ _ (bookL_c _ _ _ _ k y (by rw [← hy, List.getD_eq_getElem?_getD, List.getElem?_eq_getElem (by rw [cnt_length]; omega)]; rfl))
      have hc2 : wr.cell? ⟨b1, 62 + k, none⟩ = some (.int .i64 x) := HS.out.2.1.cell _ _ (bookL_s _ _ _ _ k _ x (by rw [cnt_length, Hf.fsts_length]; omega) (by rw [← hx, List.getD_eq_getElem?_getD, List.getElem?_eq_getElem (by rw [Hf.staTo_length]; omega)]; rfl))
      have hc3 : wr.cell? ⟨b1, 62 + i, none⟩ = some (.int .i64 z) := HS.out.2.1.cell _ _ (bookL_s _ _ _ _ i _ z (by rw [cnt_length, Hf.fsts_length]; omega) (by rw [← hz, List.getD_eq_getElem?_getD, List.getElem?_eq_getElem (by rw [Hf.staTo_length]; omega)]; rfl))
      have hf3 := HS.out.2.1.free (62 + i)
      have HX := hid' hx
      have HY := hid' hy
      clear hx hy hi hz
      go_wp2
      go_region
      go_wp2
      go_roundw
      case rel =>
        obtain ⟨h0, h1, h2, h3, h4⟩ := HS.out
        have hi := HI.out
        refine ⟨i + 1, k + 1, by omega, by go_num, hid' (by omega), hid' ⟨(h0.other (by omega) _ _).drew, ?_, (h2.trans ((upd_setCell wr b1 (62 + i) _).below (by omega))).drew, h3, h4⟩⟩
        rw [Hf.staTo, HX.out, HY.out, ← hi, w64, ← book_s _ _ _ _ i (62 + i) _ (by rw [cnt_length, Hf.fsts_length]; omega) (by rw [Hf.staTo_length]; omega)]
        exact (h1.set (62 + i) _).drew
      case measure => simp [intOf]; omega
    · have hk' : k = 30 := by omega
      subst hk'
      have hi := HI.out
      subst hi
      have H1 : Hid (Ar wr b1 150 (book Hf.cnt Hf.fsts Hf.stas Hf.zero257)) := hid' HS.out.2.1
      go_wp2_with (refine wpl_load_at 134 _ rfl rfl b1 62 (by kernel_rfl) _ _ H1.out .i64 Hf.stas (fun j v hv => bookL_s _ _ _ _ j _ v (by rw [cnt_length, Hf.fsts_length]; omega) hv) _ Tryz.underlying134 rfl (by rw [Hf.stas_length]; exact size31i) ?_; refine wpl_alloc 134 rfl rfl _ zero31i ?_)
      intro b2 w8 hb2 ha8 hl8
      refine wpl_store 134 _ _ rfl rfl b2 (nums .i64 Hf.stas) (by kernel_rfl) (by kernel_rfl) _ _ ha8 (by rw [nums_size, Hf.stas_length]; exact size31i) (by rw [nums_size, nums_size, Hf.stas_length, Hf.zero31_length]) (nums_one _ _) ?_
      intro w9 ha9 hu9
      have HS9 : Hid (Ar w9 b0 116 (nums .i64 Hf.lens) ∧ Ar w9 b1 150 (book Hf.cnt Hf.fsts Hf.stas (Hf.ordTo 0)) ∧ Ar w9 b2 134 (nums .i64 (Hf.plcTo 0)) ∧ Below w.heap.size w w9 ∧ w.heap.size ≤ b0 ∧ b0 < b1 ∧ b1 < b2) := hid' (by
        obtain ⟨h0, h1, h2, h3, h4⟩ := HS.out
        have l1 := h1.lt
        exact ⟨hu9.keep (h0.keep hl8) (by omega), hu9.keep (H1.out.keep hl8) (by omega), ha9, (below_from h2 hl8 h2.size).trans (hu9.below (by omega)), h3, h4, by omega⟩)
      clear HS H1 hb2 ha8 hl8 ha9 hu9 HI hlt hk
      go_wp2
      go_loopw [48] (fun s wr => ∃ k : Nat, k ≤ 257 ∧ s = .int .i64 (k : Int) ∧ Hid (Ar wr b0 116 (nums .i64 Hf.lens) ∧ Ar wr b1 150 (book Hf.cnt Hf.fsts Hf.stas (Hf.ordTo k)) ∧ Ar wr b2 134 (nums .i64 (Hf.plcTo k)) ∧ Below w.heap.size w wr ∧ w.heap.size ≤ b0 ∧ b0 < b1 ∧ b1 < b2)) (fun i _ => 257 - (intOf i).toNat)
      case atStart => exact ⟨0, Nat.zero_le _, rfl, HS9⟩
      case round =>
        clear HS9
        obtain ⟨k, hk, rfl, HS⟩ := hrel
        by_cases hlt : k < 257
        · obtain ⟨v, hv, v0, v1⟩ := Hf.lens_at k hlt
          obtain ⟨m, rfl⟩ : ∃ m : Nat, v = m := ⟨v.toNat, by omega⟩
          have hk2 : (k : Int) < 257 := by omega
          have hm : (m : Int) < 31 := by omega
          obtain ⟨p, hp, hp1⟩ := Hf.plc_at k hlt
          have hpx := Hf.plcs_at k m hv
          rw [hp, Int.toNat_natCast] at hpx
          have hx : (Hf.plcTo k).getD m 0 = (p : Int) := (Option.some.inj hpx).symm
          have hp2 : (p : Int) < 257 := by omega
          have hc0 := HS.out.1.val k m hv
          have hc2 := HS.out.2.2.1.num m (by rw [Hf.plcTo_length]; omega)
          have hf2 := HS.out.2.2.1.free m
          rw [hx] at hc2
          obtain ⟨z, hz⟩ : ∃ z, (Hf.ordTo k).getD p 0 = z := ⟨_, rfl⟩
          have hc1 : wr.cell? ⟨b1, 93 + p, none⟩ = some (.int .i64 z) := HS.out.2.1.cell _ _ (bookL_o _ _ _ _ p _ z (by rw [cnt_length, Hf.fsts_length, Hf.stas_length]; omega) (by rw [← hz, List.getD_eq_getElem?_getD, List.getElem?_eq_getElem (by rw [Hf.ordTo_length]; omega)]; rfl))
          have hf1 := HS.out.2.1.free (93 + p)
          have hne : b1 ≠ b2 := by have := HS.out; omega
          have HX := hid' hx
          have HV := hid' hv
          have HP := hid' hp
          clear hv hx hp hpx hz
          go_wp2
          go_region
          go_wp2
          go_roundw
          case rel =>
            obtain ⟨h0, h1, h2, h3, h4, h5, h6⟩ := HS.out
            have u1 := upd_setCell wr b1 (93 + p) (.int .i64 (k : Int))
            refine ⟨k + 1, by omega, by go_num, hid' ⟨(h0.other (by omega) _ _).drew.other (by omega) _ _, ?_, ?_, ((h3.trans (u1.below (by omega))).drew).trans ((upd_setCell _ b2 m _).below (by omega)), h4, h5, h6⟩⟩
            · have e : Hf.ordTo (k + 1) = (Hf.ordTo k).set p k := by
                rw [Hf.ordTo, List.getD_eq_getElem?_getD, HP.out]; rfl
              rw [e, ← book_o _ _ _ _ p (93 + p) _ (by rw [cnt_length, Hf.fsts_length, Hf.stas_length]; omega)]
              exact (h1.set (93 + p) _).drew.other (by omega) _ _
            · rw [Hf.plcTo_step k m HV.out, Hf.bump, Int.toNat_natCast, HX.out, w64, ← nums_set]
              have h2' := (h2.other (b' := b1) (by omega) (93 + p) (.int .i64 (k : Int))).drew
              have := h2'.set m (.int .i64 (wrap64 ((p : Int) + 1)))
              rw [IntWalk.wrap64_in _ (by omega)] at this ⊢
              exact this
          case measure => simp [intOf]; omega
        · have hk' : k = 257 := by omega
          subst hk'
          go_wp2
          go_ret
          obtain ⟨h0, h1, h2, h3, h4, h5, h6⟩ := HS.out
          exact ⟨b1, rfl, by omega, h1, h3⟩

end Go.Proofs.YtmkkhfkfjmfdcaaGreat
