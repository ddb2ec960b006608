/-
  frame.ofSettings, by its contract.
-/
import Derived.Test.YthbidfcfkjamdaaFrUa
import Derived.Test.YthbidfcfkjamdaaFrUc
import Derived.Laws.MakeOwn
namespace Go.Proofs.Ythbidfcfkjamdaa
open Go.RowKit

/-- Settings as cells. -/
def stCells (l : List (Int × Int)) : List Value := l.flatMap fun p => [.int .i64 p.1, .int .i64 p.2]
theorem stCells_nil : stCells [] = [] := rfl
theorem stCells_snoc (l : List (Int × Int)) (i v : Int) : stCells (l ++ [(i, v)]) = stCells l ++ [.int .i64 i, .int .i64 v] := by simp [stCells]
theorem stCells_length (l : List (Int × Int)) : (stCells l).length = l.length * 2 := by
  induction l with
  | nil => rfl
  | cons a r ih => simp [stCells] at *; omega
theorem info_parts' {P : Program} {t : TypeId} {z : Option Value} {s b : Nat} (h : (P.info? t).map (fun i => (i.zero, i.size, i.bytes)) = some (z, s, b)) : ∃ i, P.info? t = some i ∧ i.zero = z ∧ i.size = s ∧ i.bytes = b := by
  cases hq : P.info? t with
  | none => simp [hq] at h
  | some i => simp [hq] at h; exact ⟨i, rfl, h.1, h.2.1, h.2.2⟩
theorem infoSetting : (Try.prog.info? 29).map (fun i => (i.zero, i.size, i.bytes)) = some (some (.agg #[.int .i64 0, .int .i64 0]), 2, 16) := by kernel_rfl
theorem infoByte' : (Try.prog.info? 5).map (fun i => (i.zero, i.size, i.bytes)) = some (some (.int .u8 0), 1, 1) := by kernel_rfl
theorem Below.of_grown {w w' : World} {row : Option Nat} {B : Nat} (hg : w.grownBy w' row) (hr : ∀ k, row = some k → B ≤ k) (hB : B ≤ w.heap.size) : Below B w w' := (Below.refl B w).grown hg hB hr

theorem own_keep {w w' : World} {B : Nat} {e : TypeId} {s : Nat} {v : Value} {n : Nat} {xs : List Value} (h : w.ownsRow B e s v n xs) (hb : Below w.heap.size w w') : w'.ownsRow B e s v n xs := by
  refine ⟨h.1, ?_⟩
  rcases h.2 with h2 | ⟨g, cap, cur, h1, h2, h3, h4⟩
  · exact .inl h2
  · exact .inr ⟨g, cap, cur, h1, h2, (hb.block g (Array.getElem?_eq_some_iff.1 h3).1).trans h3, h4⟩
theorem two_new (w : World) (t : TypeId) (x y : Value) : ∀ j u, ([x, y] : List Value)[j]? = some u → (w.alloc (.cells #[x, y] t)).cell? ((⟨w.heap.size, 0, none⟩ : Addr).add j) = some u := by
  intro j u hj
  match j, hj with
  | 0, hj => simp at hj; subst hj; simp [Addr.add]
  | 1, hj => simp at hj; subst hj; simp [Addr.add]
theorem Fr_alloc {w : World} {o : Obj} {w' : World} {row : Option Nat} (h : (w.alloc o).grownBy w' row) : w.grownBy w' row :=
  ⟨h.os, h.tape, h.output, Nat.le_trans (by simp) h.size, fun k hk hne => by rw [h.block k (by simp; omega) hne]; exact Lib.alloc_old w _ k hk⟩
theorem ar_grown {w w' : World} {b : Nat} {T : TypeId} {c : Array Value} {row : Option Nat} (h : Ar w b T c) (hg : w.grownBy w' row) (hn : ∀ k, row = some k → k ≠ b) : Ar w' b T c := by
  have hl := h.lt
  unfold Ar at *
  rw [hg.block b hl (fun e => hn b e.symm rfl)]; exact h
theorem own_apart {w : World} {B : Nat} {e T : TypeId} {s : Nat} {v : Value} {n : Nat} {xs : List Value} {b : Nat} {c : Array Value} (h : w.ownsRow B e s v n xs) (ha : Ar w b T c) (hne : T ≠ e) : ∀ k, v.ownBlock = some k → k ≠ b := by
  intro k hk e'
  subst e'
  rcases h.2 with ⟨rfl, _⟩ | ⟨g, cap, cur, rfl, _, h3, _⟩
  · simp [Value.ownBlock] at hk
  · simp [Value.ownBlock] at hk
    subst hk
    unfold Ar at ha
    rw [ha] at h3
    injection h3 with h3
    injection h3 with _ h4 _
    exact hne h4
theorem own_same {w w' : World} {B : Nat} {e : TypeId} {s : Nat} {v : Value} {n : Nat} {xs : List Value} (h : w.ownsRow B e s v n xs) (hb : ∀ k, v.ownBlock = some k → w'.heap[k]? = w.heap[k]?) : w'.ownsRow B e s v n xs := by
  refine ⟨h.1, ?_⟩
  rcases h.2 with h2 | ⟨g, cap, cur, h1, h2, h3, h4⟩
  · exact .inl h2
  · exact .inr ⟨g, cap, cur, h1, h2, (hb g (by rw [h1]; rfl)).trans h3, h4⟩
theorem wg_cells {w : World} {b : Nat} {i c : Bool} {e : Int} (h : Ar w b 74 (wgC i c e)) : w.cell? ⟨b, 0, none⟩ = some (.bool i) ∧ w.cell? ⟨b, 1, none⟩ = some (.bool c) ∧ w.cell? ⟨b, 2, none⟩ = some (.int .i64 e) := ⟨h.cell 0 _ rfl, h.cell 1 _ rfl, h.cell 2 _ rfl⟩
def strLen : Value → Nat
  | .string s => s.size
  | _ => 0
section
variable {ops : Array Oper} {rest : List Oper} {o : Oper} {a : Act} {w : World} {Q : Exit → Act → World → Prop}
/-- Both are stored; all other blocks are as they were. -/
theorem wpl_st2k {o' : Oper} (x y x' y' : Operand) (ho : o.op = .store 27 x y) (hgd : o.guard = none) (ho' : o'.op = .store 74 x' y') (hgd' : o'.guard = none) (B b2 b3 : Nat) (p : Fm.Pt) (ao : Option Addr) (n cap : Nat) (i c : Bool) (e : Int)
    (hx : a.eval x = .pointer (some ⟨b2, 0, none⟩)) (hy : a.eval y = .agg (ptC p (.slice ao n cap))) (hx' : (a.put o.dst undef).eval x' = .pointer (some ⟨b3, 0, none⟩)) (hy' : (a.put o.dst undef).eval y' = .agg (wgC i c e))
    (h2 : Ar w b2 27 ptZ) (h3 : Ar w b3 74 wgZ) (hB2 : B ≤ b2) (hB3 : B ≤ b3)
    (h : ∀ w', Ar w' b2 27 (ptC p (.slice ao n cap)) → Ar w' b3 74 (wgC i c e) → Below B w w' → (∀ k, k ≠ b2 → k ≠ b3 → w'.heap[k]? = w.heap[k]?) → wpList Try.prog ops Q rest ((a.put o.dst undef).put o'.dst undef) w') :
    wpList Try.prog ops Q (o :: o' :: rest) a w := by
  have hne : b3 ≠ b2 := h3.apart h2 (by decide)
  refine wpl_stp x y ho hgd b2 p ao n cap hx hy _ h2 rfl ?_
  intro w1 ha1 hu1
  refine wpl_stw x' y' ho' hgd' b3 i c e hx' hy' _ (hu1.keep h3 hne) rfl ?_
  intro w2 ha2 hu2
  exact h w2 (hu2.keep ha1 (Ne.symm hne)) ha2 ((hu1.below hB2).trans (hu2.below hB3)) (fun k h2 h3 => (hu2.block k h3).trans (hu1.block k h2))
/-- make of no element, with room. -/
theorem wpl_make0 (t e : TypeId) (x y : Operand) (ho : o.op = .makeSlice t x y) (hgd : o.guard = none) (base : Nat) (i : TypeInfo) (z : Value) (size : Nat) (ht : Try.prog.underlying t = some (.slice e)) (hi : Try.prog.info? e = some i) (hz : i.zero = some z) (hsize : i.size = size)
    (c : Nat) (hbytes : i.bytes * c ≤ 281474976710656) (h63 : c ≤ maxLen) (hbase : base ≤ w.heap.size) (hx : a.eval x = .int .i64 0) (hy : a.eval y = .int .i64 (c : Int))
    (h : ∀ v w', w'.ownsRow base e size v 0 [] → Below w.heap.size w w' → wpList Try.prog ops Q rest (a.put o.dst v) w') : wpList Try.prog ops Q (o :: rest) a w := by
  refine wpList_plain hgd fun _ hK => ?_
  obtain ⟨w', hr, h1, h2⟩ := run_make_own (P := Try.prog) w base t e i z size ht hi hz hsize .i64 .i64 c hbytes h63 hbase
  unfold Oper.wp execOp
  simp only [ho, hx, hy, Sem.run_bind, Sem.run_pure, hr, Result.andThen_ok]
  exact hK _ _ (h _ _ h1 (Below.of_grown h2 (fun k hk => by cases hk) (Nat.le_refl _)))
end

set_option maxHeartbeats 4000000 in
set_option maxRecDepth 20000 in
theorem cofSettings_any (l : List UInt8) (N : Nat) (r : Fm.Rd) (hN : l.length = 6 * N) (hsz : l.length ≤ 35184372088832) (hr : Fm.sets N l [] = r) (w : World) :
    Calls Try.prog 71 #[.string ⟨l.toArray⟩] w fun e w' => (∃ v, e = .returned (rdV r v) ∧ Hid (∀ p, r = .ok p → w'.ownsRow w.heap.size 29 2 v p.sets.length (stCells p.sets))) ∧ Below w.heap.size w w' := by
  obtain ⟨i0, hi, hz0, hz1, hz2⟩ := info_parts' infoSetting
  have HI := hid' hi
  have HZ0 := hid' hz0
  have HZ1 := hid' hz1
  have HZ2 := hid' hz2
  clear hi hz0 hz1 hz2
  have HR := hid' hr
  have HNL := hid' hN
  have hdiv : (l.length : Int).tdiv 6 = (N : Int) := by rw [Int.tdiv_eq_ediv_of_nonneg (by omega)]; omega
  have hdiv2 : (l.length : Int) / 6 = (N : Int) := by omega
  have hN16 : N ≤ 5864062014806 := by omega
  clear hr hN
  go_enter Try.func71, Try.ntmps71
  go_wp2_with (refine wpl_open2 rfl rfl rfl rfl ?_)
  intro b2 b3 w0 hg2 hg3 ha2 ha3 hb0
  have HA2 := hid' ha2
  have HA3 := hid' ha3
  have HB := hid' hb0
  have HG2 := hid' hg2
  have HG3 := hid' hg3
  clear ha2 ha3 hb0 hg2 hg3
  go_wp2_with (refine wpl_make0 25 29 _ _ rfl rfl w.heap.size i0 _ 2 Try.underlying25 HI.out HZ0.out HZ1.out N (by rw [HZ2.out]; omega) (by unfold maxLen; omega) HB.out.size (by kernel_rfl) (by kernel_rfl) ?_)
  intro v4 w4 hown4 hb4
  have HS4 : Hid (w4.ownsRow w.heap.size 29 2 v4 0 (stCells []) ∧ Ar w4 b2 27 ptZ ∧ Ar w4 b3 74 wgZ ∧ Below w.heap.size w w4) := hid' ⟨hown4, HA2.out.keep hb4, HA3.out.keep hb4, below_two HB.out hb4⟩
  clear hown4 hb4
  go_wp2
  go_loopw [0, 4] (fun s0 s4 wr => ∃ x : List UInt8, s0 = .string ⟨x.toArray⟩ ∧ x.length ≤ 35184372088832 ∧ Hid (∃ n acc, x.length = 6 * n ∧ n + acc.length = N ∧ Fm.sets n x acc = r ∧ wr.ownsRow w.heap.size 29 2 s4 acc.length (stCells acc) ∧ Ar wr b2 27 ptZ ∧ Ar wr b3 74 wgZ ∧ Below w.heap.size w wr)) (fun s0 _ _ => strLen s0)
  case atStart => exact ⟨l, rfl, hsz, hid' ⟨N, [], HNL.out, rfl, HR.out, HS4.out⟩⟩
  case round =>
    clear HS4 HA2 HA3 HB HR HNL hdiv hdiv2 hsz
    obtain ⟨x, rfl, hxs, HX⟩ := hrel
    by_cases hx0 : x.length = 0
    · obtain rfl : x = [] := List.eq_nil_of_length_eq_zero hx0
      obtain ⟨acc, HR, HOW, HA2, HA3, HB⟩ : ∃ acc, Hid (Fm.sets 0 [] acc = r) ∧ Hid (wr.ownsRow w.heap.size 29 2 u4 acc.length (stCells acc)) ∧ Hid (Ar wr b2 27 ptZ) ∧ Hid (Ar wr b3 74 wgZ) ∧ Hid (Below w.heap.size w wr) := by
        obtain ⟨n, acc, h1, h2, h3, h4, h5, h6, h7⟩ := HX.out
        obtain rfl : n = 0 := by simp at h1; omega
        exact ⟨acc, h3, h4, h5, h6, h7⟩
      obtain ⟨ao, m, cap, hu⟩ : ∃ ao m cap, u4 = .slice ao m cap := by
        rcases HOW.out.2 with ⟨h, _⟩ | ⟨g, cap, cur, h, _⟩
        · exact ⟨none, 0, 0, h⟩
        · exact ⟨_, _, _, h⟩
      subst hu
      obtain rfl : r = .ok ⟨[], 0, 0, 0, 0, false, 0, acc⟩ := by rw [← HR.out]; rfl
      clear HX
      go_wp2_with (refine wpl_st2k _ _ _ _ rfl rfl rfl rfl w.heap.size b2 b3 ⟨[], 0, 0, 0, 0, false, 0, acc⟩ ao m cap false false 0 (by kernel_rfl) (by kernel_rfl) (by kernel_rfl) (by kernel_rfl) HA2.out HA3.out HG2.out HG3.out ?_)
      intro w7 hp7 hw7 hb7 hk7
      go_wp2
      refine bodyPost_ret (v := rdV (.ok ⟨[], 0, 0, 0, 0, false, 0, acc⟩) (.slice ao m cap)) (by simp [results, Try.results71, asAddr, ldp hp7, ldw hw7]; rfl) rfl ⟨⟨_, rfl, hid' (fun p hp => ?_)⟩, HB.out.trans hb7⟩
      injection hp with hp
      subst hp
      exact own_same HOW.out (fun k hk => hk7 k (own_apart HOW.out HA2.out (by decide) k hk) (own_apart HOW.out HA3.out (by decide) k hk))
    · obtain ⟨n, acc, HL, HN, HR, HOW, HA2, HA3, HB⟩ : ∃ n acc, Hid (x.length = 6 * (n + 1)) ∧ Hid (n + 1 + acc.length = N) ∧ Hid (Fm.sets (n + 1) x acc = r) ∧ Hid (wr.ownsRow w.heap.size 29 2 u4 acc.length (stCells acc)) ∧ Hid (Ar wr b2 27 ptZ) ∧ Hid (Ar wr b3 74 wgZ) ∧ Hid (Below w.heap.size w wr) := by
        obtain ⟨n, acc, h1, h2, h3, h4, h5, h6, h7⟩ := HX.out
        obtain ⟨n, rfl⟩ : ∃ m, n = m + 1 := ⟨n - 1, by omega⟩
        exact ⟨n, acc, h1, h2, h3, h4, h5, h6, h7⟩
      clear HX
      have hx6 : 6 ≤ x.length := by have := HL.out; omega
      have hx6i : (6 : Int) ≤ (x.length : Int) := by omega
      have hx2i : (2 : Int) ≤ (x.length : Int) := by omega
      have hc1 := cut_ends x 2
      have hc2 := cut_mid x 2 6
      have hc3 := cut_rest x 6
      obtain ⟨y, hy⟩ : ∃ y, x.take 2 = y := ⟨_, rfl⟩
      obtain ⟨z, hz⟩ : ∃ z, (x.drop 2).take 4 = z := ⟨_, rfl⟩
      obtain ⟨t, ht⟩ : ∃ t, x.drop 6 = t := ⟨_, rfl⟩
      have HY : Hid (y.length ≤ 4) := hid' (by rw [← hy, List.length_take]; omega)
      have HZ : Hid (z.length ≤ 4) := hid' (by rw [← hz, List.length_take]; omega)
      have HT : Hid (t.length = 6 * n) := hid' (by rw [← ht, List.length_drop, HL.out]; omega)
      obtain ⟨i, hi⟩ : ∃ i, Fm.num y = i := ⟨_, rfl⟩
      obtain ⟨v, hv⟩ : ∃ v, Fm.num z = v := ⟨_, rfl⟩
      obtain ⟨c, hcc⟩ : ∃ c, Fm.bads (i : Int) (v : Int) = c := ⟨_, rfl⟩
      have HC := hid' hcc
      have HR1 : Hid ((if c = 0 then Fm.sets n t (acc ++ [((i : Int), (v : Int))]) else .bad true c) = r) := hid' (by
        rw [← HR.out, Fm.sets, hy, hz, ht, hi, hv, hcc])
      rw [hy] at hc1
      rw [show 6 - 2 = 4 from rfl, hz] at hc2
      rw [ht] at hc3
      have HI1 := hid' hi
      have HV1 := hid' hv
      have hne : (x == []) = false := by cases x with | nil => simp at hx6 | cons => rfl
      have HL2 : Hid (x.length = 6 * (n + 1)) := HL
      clear hy hz ht hi hv hcc HR HL
      go_wp2
      have HXS := hid' hxs
      have HX6 := hid' hx6
      have H16 := hid' hN16
      clear hxs hN16 hx6 hx0 hne
      by_cases hc0 : c = 0
      · subst hc0
        have HOS : Hid (∀ w : World, Calls Try.prog 80 #[.agg #[.int .i64 (i : Int), .int .i64 (v : Int)]] w fun e w' => e = .returned (.agg (wgC false false 0)) ∧ Below w.heap.size w w') := hid' (fun w => cofSetting_any i v 0 HC.out w)
        have HR2 : Hid (Fm.sets n t (acc ++ [((i : Int), (v : Int))]) = r) := hid' (by have := HR1.out; rwa [if_pos rfl] at this)
        clear HR1 HC
        go_region_with (go_at_call 61; refine (cnumber_any _ ?_ _).mono ?_; (first | exact HY.out | exact HZ.out); rintro e w1 ⟨rfl, hw⟩; subst w1; (first | rw [HI1.out] | rw [HV1.out]))
        all_goals
          go_wp2_with fail
          refine (HOS.out _).mono ?_
          rintro e w1 ⟨rfl, hb1⟩
          have hb1' : Below wr.heap.size wr w1 := below_two (((Below.refl _ _).alloc (Nat.le_refl _) _).drew) hb1
          have hs1 : Ar w1 wr.heap.size 29 #[.int .i64 (i : Int), .int .i64 (v : Int)] := (Ar.drew (heap_alloc_last wr _)).keep hb1
          obtain ⟨bs, hbs⟩ : ∃ bs, wr.heap.size = bs := ⟨_, rfl⟩
          have HBS := hid' hbs
          rw [hbs] at hs1 ⊢
          have HB1 := hid' hb1'
          have HS1 := hid' hs1
          clear hb1 hb1' hs1 hbs
          go_wp2_with (refine wpl_alloc 74 rfl rfl _ zeroWrong ?_)
          intro b6 w5 hg6 ha6 hb5
          refine wpl_stw _ _ rfl rfl b6 false false 0 (by kernel_rfl) (by kernel_rfl) _ ha6 rfl ?_
          intro w6 ha6' hu6
          have hb6 := hb5.trans (hu6.below hg6)
          have HB6 := hid' (below_two HB1.out hb6)
          have hs6 := HS1.out.keep hb6
          obtain ⟨s0, s1⟩ := stC_cells hs6
          obtain ⟨x0, x1, x2⟩ := wg_cells ha6'
          have HA6 := hid' ha6'
          have HS6 := hid' hs6
          clear hb5 ha6 ha6' hu6 hg6 hb6 hs6
          have how6 : w6.ownsRow w.heap.size 29 2 u4 acc.length (stCells acc) := own_keep HOW.out HB6.out
          have HOW6 := hid' how6
          have HB7 := hid' (HB.out.trans (HB6.out.mono HB.out.size))
          clear how6
          obtain ⟨xs, hxs'⟩ : ∃ xs, stCells acc = xs := ⟨_, rfl⟩
          obtain ⟨np, hnp⟩ : ∃ np, acc.length = np := ⟨_, rfl⟩
          rw [hxs', hnp] at HOW6
          have HXX := hid' hxs'
          have HNP := hid' hnp
          have hnb : np ≤ 5864062014806 := by have := H16.out; have := HN.out; omega
          clear hxs' hnp
          go_wp2_with (at_builtin; refine wpList_append_own _ rfl _ _ 25 rfl w.heap.size 29 i0 _ 2 16 Try.underlying25 HI.out HZ0.out HZ1.out HZ2.out rfl (by decide) _ _ _ rfl (World.ownsRow.alloc HOW6.out _) ⟨w6.heap.size, 0, none⟩ 1 1 [.int .i64 (i : Int), .int .i64 (v : Int)] rfl rfl (two_new _ _ _ _) (fun u hu => by simp at hu; rcases hu with rfl | rfl <;> rfl) ?a1 ?a2 ?a3 ?_)
          case a1 => unfold maxLen; omega
          case a2 => omega
          case a3 => have := HB7.out.size; simp; omega
          intro vx w8 hown hgrow _
          have hb8 : Below w.heap.size w w8 := HB7.out.trans (Below.of_grown (Fr_alloc hgrow) (fun k hk => (HOW6.out.lt k hk).1) HB7.out.size)
          have ha2 := ar_grown (HA2.out.keep HB6.out) (Fr_alloc hgrow) (own_apart HOW6.out (HA2.out.keep HB6.out) (by decide))
          have ha3 := ar_grown (HA3.out.keep HB6.out) (Fr_alloc hgrow) (own_apart HOW6.out (HA3.out.keep HB6.out) (by decide))
          have HS8 : Hid (∃ n acc, t.length = 6 * n ∧ n + acc.length = N ∧ Fm.sets n t acc = r ∧ w8.ownsRow w.heap.size 29 2 vx acc.length (stCells acc) ∧ Ar w8 b2 27 ptZ ∧ Ar w8 b3 74 wgZ ∧ Below w.heap.size w w8) := hid' (by
            refine ⟨n, acc ++ [((i : Int), (v : Int))], HT.out, ?_, HR2.out, ?_, ha2, ha3, hb8⟩
            · have := HN.out; simp; omega
            · rw [stCells_snoc, HXX.out, List.length_append, HNP.out]; exact hown)
          clear ha2 ha3 hb8 hown hgrow
          have hxl : t.length < x.length := by have := HT.out; have := HL2.out; omega
          have hts : t.length ≤ 35184372088832 := by have := HXS.out; omega
          have HTL := hid' hxl
          clear hxl
          go_wp2
          go_roundw
          case rel => exact ⟨t, rfl, hts, HS8⟩
          case measure => exact HTL.out
      · have HOS : Hid (∀ w : World, Calls Try.prog 80 #[.agg #[.int .i64 (i : Int), .int .i64 (v : Int)]] w fun e w' => e = .returned (.agg (wgC true true c)) ∧ Below w.heap.size w w') := hid' (fun w => by
          have h := cofSetting_any i v c HC.out w
          rw [show (c != 0) = true from bne_iff_ne.2 hc0] at h
          exact h)
        obtain rfl : r = .bad true c := by have := HR1.out; rw [if_neg hc0] at this; exact this.symm
        clear HR1 HC hc0
        go_region_with (go_at_call 61; refine (cnumber_any _ ?_ _).mono ?_; (first | exact HY.out | exact HZ.out); rintro e w1 ⟨rfl, hw⟩; subst w1; (first | rw [HI1.out] | rw [HV1.out]))
        all_goals
          go_wp2_with fail
          refine (HOS.out _).mono ?_
          rintro e w1 ⟨rfl, hb1⟩
          have hb1' : Below wr.heap.size wr w1 := below_two (((Below.refl _ _).alloc (Nat.le_refl _) _).drew) hb1
          have hs1 : Ar w1 wr.heap.size 29 #[.int .i64 (i : Int), .int .i64 (v : Int)] := (Ar.drew (heap_alloc_last wr _)).keep hb1
          obtain ⟨bs, hbs⟩ : ∃ bs, wr.heap.size = bs := ⟨_, rfl⟩
          have HBS := hid' hbs
          rw [hbs] at hs1 ⊢
          have HB1 := hid' hb1'
          have HS1 := hid' hs1
          clear hb1 hb1' hs1 hbs
          go_wp2_with (refine wpl_alloc 74 rfl rfl _ zeroWrong ?_)
          intro b6 w5 hg6 ha6 hb5
          refine wpl_stw _ _ rfl rfl b6 true true c (by kernel_rfl) (by kernel_rfl) _ ha6 rfl ?_
          intro w6 ha6' hu6
          have hb6 := hb5.trans (hu6.below hg6)
          have HB6 := hid' (below_two HB1.out hb6)
          have hs6 := HS1.out.keep hb6
          obtain ⟨s0, s1⟩ := stC_cells hs6
          obtain ⟨x0, x1, x2⟩ := wg_cells ha6'
          have HA6 := hid' ha6'
          have HS6 := hid' hs6
          clear hb5 ha6 ha6' hu6 hg6 hb6 hs6
          have hA2 := HA2.out.keep HB6.out
          have hA3 := HA3.out.keep HB6.out
          obtain ⟨⟨y0, y1, y2, y3, y4, y5, y6, y7⟩, f0, f1, f2, f3, f4, f5, f6, f7⟩ := ptZ_cells hA2
          obtain ⟨⟨z0, z1, z2⟩, g0, g1, g2⟩ := wgZ_cells hA3
          have hn23 : b3 ≠ b2 := hA3.apart hA2 (by decide)
          have hn32 := Ne.symm hn23
          have hn62 : b6 ≠ b2 := HA6.out.apart hA2 (by decide)
          have HE2 := hid' hA2
          have HE3 := hid' hA3
          have HB7 := hid' (HB.out.trans (HB6.out.mono HB.out.size))
          clear hA2 hA3
          go_upto_region 7 with fail
          go_region
          go_wp2
          obtain ⟨hA1, hU1⟩ := st8 HE2.out (.string ⟨#[]⟩) (.int .i64 0) (.int .i64 0) (.int .i64 0) (.int .i64 0) (.bool false) (.int .i64 0) (.slice none 0 0)
          obtain ⟨hA4, hU4⟩ := st3 (hU1.keep HE3.out hn23) (.bool true) (.bool true) (.int .i64 c)
          have l1 := ld_parts (hU4.keep hA1 hn32).drew
          have l2 := ld_wrong hA4.drew
          refine bodyPost_ret (v := rdV (.bad true c) (.slice none 0 0)) (by simp [results, Try.results71, asAddr, l1, l2]; rfl) rfl ⟨⟨_, rfl, hid' (fun p hp => by cases hp)⟩, ((HB7.out.trans (hU1.below HG2.out)).trans (hU4.below HG3.out)).drew⟩
end Go.Proofs.Ythbidfcfkjamdaa
