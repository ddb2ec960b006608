/-
  ostlerref03.codes, by its contract.
-/
import Derived.Test.YthldbhpkkcoafaaHuffX
namespace Go.Proofs.Ythldbhpkkcoafaa
open Go.RowKit

theorem zeroCode : (Try.prog.info? 67).map (fun i => i.zero) = some (some (.agg #[.slice none 0 0, .slice none 0 0, .slice none 0 0])) := by kernel_rfl
theorem sizeCode : (Try.prog.info? 67).map (·.size) = some 3 := by kernel_rfl
theorem take_more (l : List Int) (m : Nat) (x : Int) (h : l[m]? = some x) : l.take (m + 1) = l.take m ++ [x] := by rw [List.take_add_one, h]; rfl
theorem take_first (l : List Int) (m : Nat) (x : Int) (h : l[0]? = some x) (hne : l.take m ≠ []) : (l.take m)[0]? = some x := by
  cases m with
  | zero => simp at hne
  | succ m => cases l with
    | nil => simp at h
    | cons a r => simpa using h
theorem len_take (l : List Int) (m : Nat) (h : m ≤ l.length) : (l.take m).length = m := by rw [List.length_take]; omega
theorem ord0 : Hf.ordsL[0]? = some 48 := by decide +kernel
theorem oLen0 : Hf.oLen[0]? = some 5 := by decide +kernel
theorem oCod0 : Hf.oCod[0]? = some 0 := by decide +kernel

/-- The code that the loop makes: its struct in block b2, the three slices. -/
structure CodeAt (w : World) (B b2 : Nat) (v0 v1 v2 : Value) (m0 m1 m2 : Nat) : Prop where
  at2 : Ar w b2 67 #[v0, v1, v2]
  lt : b2 < B
  o0 : Own w B v0 (Hf.ordsL.take m0)
  o1 : Own w B v1 (Hf.oLen.take m1)
  o2 : Own w B v2 (Hf.oCod.take m2)
theorem grown_alloc {w : World} {o : Obj} {w' : World} {row : Option Nat} (h : (w.alloc o).grownBy w' row) : w.grownBy w' row :=
  ⟨h.os, h.tape, h.output, by have := h.size; simp at this; omega, fun k hk hne => (h.block k (by simp; omega) hne).trans (Lib.alloc_old w o k hk)⟩
theorem grown_below {w w' : World} {B : Nat} {v : Value} {l : List Int} (h : Own w B v l) (hg : w.grownBy w' v.ownBlock) (hB : B ≤ w.heap.size) : Below B w w' :=
  ⟨hg.os, hg.tape, hg.output, hg.size, fun k hk => hg.block k (by omega) (fun e => by have := (World.ownsRow.lt h.1 k e.symm).1; omega)⟩
theorem flip_apart {a b : Option Nat} (h : a = none ∨ a ≠ b) : b = none ∨ b ≠ a := by
  rcases h with h | h
  · subst h; cases b <;> simp
  · exact .inr fun e => h e.symm
theorem CodeAt.a01 {w : World} {B b2 : Nat} {v0 v1 v2 : Value} {m0 m1 m2 : Nat} (h : CodeAt w B b2 v0 v1 v2 m0 m1 m2) : v0.ownBlock = none ∨ v0.ownBlock ≠ v1.ownBlock := h.o0.apart h.o1 (take_first _ _ _ ord0) (take_first _ _ _ oLen0) (by decide)
theorem CodeAt.a02 {w : World} {B b2 : Nat} {v0 v1 v2 : Value} {m0 m1 m2 : Nat} (h : CodeAt w B b2 v0 v1 v2 m0 m1 m2) : v0.ownBlock = none ∨ v0.ownBlock ≠ v2.ownBlock := h.o0.apart h.o2 (take_first _ _ _ ord0) (take_first _ _ _ oCod0) (by decide)
theorem CodeAt.a12 {w : World} {B b2 : Nat} {v0 v1 v2 : Value} {m0 m1 m2 : Nat} (h : CodeAt w B b2 v0 v1 v2 m0 m1 m2) : v1.ownBlock = none ∨ v1.ownBlock ≠ v2.ownBlock := h.o1.apart h.o2 (take_first _ _ _ oLen0) (take_first _ _ _ oCod0) (by decide)
theorem CodeAt.app0 {w w1 : World} {B b2 n : Nat} {v0 v1 v2 v' : Value} {m0 m1 m2 : Nat} {x : Int} (h : CodeAt w B b2 v0 v1 v2 m0 m1 m2) (hg : w.grownBy w1 v0.ownBlock) (_hB : B ≤ w.heap.size) (hx : Hf.ordsL[m0]? = some x)
    {xs : List Value} (hxs : (Hf.ordsL.take m0).map (Value.int .i64) = xs) (ho : w1.ownsRow B 3 1 v' n (xs ++ [.int .i64 x])) (hn : n = (Hf.ordsL.take m0).length + 1) {w2 : World} (hu : Upd b2 w1 w2) (h2 : Ar w2 b2 67 #[v', v1, v2]) : CodeAt w2 B b2 v' v1 v2 (m0 + 1) m1 m2 := by
  refine ⟨h2, h.lt, ?_, (h.o1.kept hg (flip_apart h.a01)).upd hu h.lt, (h.o2.kept hg (flip_apart h.a02)).upd hu h.lt⟩
  subst hxs
  rw [take_more _ _ _ hx]
  exact (own_more ho hn).upd hu h.lt
theorem CodeAt.app1 {w w1 : World} {B b2 n : Nat} {v0 v1 v2 v' : Value} {m0 m1 m2 : Nat} {x : Int} (h : CodeAt w B b2 v0 v1 v2 m0 m1 m2) (hg : w.grownBy w1 v1.ownBlock) (_hB : B ≤ w.heap.size) (hx : Hf.oLen[m1]? = some x)
    {xs : List Value} (hxs : (Hf.oLen.take m1).map (Value.int .i64) = xs) (ho : w1.ownsRow B 3 1 v' n (xs ++ [.int .i64 x])) (hn : n = (Hf.oLen.take m1).length + 1) {w2 : World} (hu : Upd b2 w1 w2) (h2 : Ar w2 b2 67 #[v0, v', v2]) : CodeAt w2 B b2 v0 v' v2 m0 (m1 + 1) m2 := by
  refine ⟨h2, h.lt, (h.o0.kept hg h.a01).upd hu h.lt, ?_, (h.o2.kept hg (flip_apart h.a12)).upd hu h.lt⟩
  subst hxs
  rw [take_more _ _ _ hx]
  exact (own_more ho hn).upd hu h.lt
theorem CodeAt.app2 {w w1 : World} {B b2 n : Nat} {v0 v1 v2 v' : Value} {m0 m1 m2 : Nat} {x : Int} (h : CodeAt w B b2 v0 v1 v2 m0 m1 m2) (hg : w.grownBy w1 v2.ownBlock) (_hB : B ≤ w.heap.size) (hx : Hf.oCod[m2]? = some x)
    {xs : List Value} (hxs : (Hf.oCod.take m2).map (Value.int .i64) = xs) (ho : w1.ownsRow B 3 1 v' n (xs ++ [.int .i64 x])) (hn : n = (Hf.oCod.take m2).length + 1) {w2 : World} (hu : Upd b2 w1 w2) (h2 : Ar w2 b2 67 #[v0, v1, v']) : CodeAt w2 B b2 v0 v1 v' m0 m1 (m2 + 1) := by
  refine ⟨h2, h.lt, (h.o0.kept hg h.a02).upd hu h.lt, (h.o1.kept hg h.a12).upd hu h.lt, ?_⟩
  subst hxs
  rw [take_more _ _ _ hx]
  exact (own_more ho hn).upd hu h.lt

/-- What else the loop keeps: the table of lengths in block b1, the result's place in block b0. -/
structure Side (w0 w : World) (B b0 b1 b2 : Nat) : Prop where
  a0 : Ar w b0 67 #[.slice none 0 0, .slice none 0 0, .slice none 0 0]
  a1 : Ar w b1 3 (nums .i64 Hf.lens)
  be : Below w0.heap.size w0 w
  g0 : w0.heap.size ≤ b0
  g1 : b0 < b1
  g2 : b1 < b2
  g3 : b2 < B
  sz : B ≤ w.heap.size
theorem Side.app {w0 w w1 w2 : World} {B b0 b1 b2 : Nat} {v : Value} {l : List Int} (h : Side w0 w B b0 b1 b2) (ho : Own w B v l) (hg : w.grownBy w1 v.ownBlock) (hu : Upd b2 w1 w2) : Side w0 w2 B b0 b1 b2 := by
  have hb := grown_below ho hg h.sz
  have g0 := h.g0
  have g1 := h.g1
  have g2 := h.g2
  have g3 := h.g3
  refine ⟨hu.keep (h.a0.below hb (by omega)) (by omega), hu.keep (h.a1.below hb (by omega)) (by omega), (h.be.trans (hb.mono (by omega))).trans (hu.below (by omega)), g0, g1, g2, g3, ?_⟩
  rw [hu.size]
  exact Nat.le_trans h.sz hg.size
theorem store_slice (w : World) (b i n cap : Nat) (ao : Option Addr) (c : Array Value) (t : TypeId) (h : Ar w b t c) (hi : i < c.size) : (Instr.storeAt 65 (.pointer (some ⟨b, i, none⟩)) (.slice ao n cap)).run Try.prog w = .ok () (w.setCell ⟨b, i, none⟩ (.slice ao n cap)) := by
  have h1 : w.cell? ⟨b, i, none⟩ = some c[i] := h.cell i _ (Array.getElem?_eq_getElem hi)
  have h2 := h.free i
  simp [Instr.storeAt, Instr.sureAddr, go_sem, h1, h2]
theorem wpl_store1 {ops : Array Oper} {rest : List Oper} {o : Oper} {a : Act} {w : World} {Q : Exit → Act → World → Prop} (x y : Operand) (ho : o.op = .store 65 x y) (hgd : o.guard = none) (b i n cap : Nat) (ao : Option Addr) (hx : a.eval x = .pointer (some ⟨b, i, none⟩)) (hy : a.eval y = .slice ao n cap)
    (t : TypeId) (c : Array Value) (h : Ar w b t c) (hi : i < c.size) (hK : ∀ w', Ar w' b t (c.setIfInBounds i (.slice ao n cap)) → Upd b w w' → wpList Try.prog ops Q rest (a.put o.dst undef) w') : wpList Try.prog ops Q (o :: rest) a w := by
  refine wpList_plain hgd fun _ hK' => ?_
  unfold Oper.wp execOp
  simp only [ho, hx, hy, Sem.run_bind, store_slice w b i n cap ao c t h hi, Result.andThen_ok]
  exact hK' _ _ (hK _ (h.set i _) (upd_setCell w b i _))
theorem Side.drew {w0 w : World} {B b0 b1 b2 : Nat} (h : Side w0 w B b0 b1 b2) : Side w0 w.drew B b0 b1 b2 := ⟨h.a0, h.a1, h.be.drew, h.g0, h.g1, h.g2, h.g3, h.sz⟩

theorem Own.lower {w : World} {B B' : Nat} {v : Value} {l : List Int} (h : Own w B v l) (hb : B' ≤ B) : Own w B' v l := by
  refine ⟨⟨h.1.1, ?_⟩, h.2⟩
  rcases h.1.2 with hn | ⟨g, cap, cur, hv, hB, rest⟩
  · exact .inl hn
  · exact .inr ⟨g, cap, cur, hv, by omega, rest⟩
theorem one_three {w : World} {B b2 : Nat} {v0 v1 v2 : Value} {m0 m1 m2 : Nat} (h : CodeAt w B b2 v0 v1 v2 m0 m1 m2) : (#[v0, v1, v2] : Array Value).all (·.oneCell') = true := by
  obtain ⟨a, b, rfl⟩ := h.o0.shape
  obtain ⟨a, b, rfl⟩ := h.o1.shape
  obtain ⟨a, b, rfl⟩ := h.o2.shape
  simp [Value.oneCell']

theorem one_new (w : World) (t : TypeId) (x : Value) : ∀ j u, ([x] : List Value)[j]? = some u → (w.alloc (.cells #[x] t)).cell? ((⟨w.heap.size, 0, none⟩ : Addr).add j) = some u := by
  intro j u hj
  match j, hj with
  | 0, hj => simp at hj; subst hj; simp [Addr.add]

set_option maxHeartbeats 2000000 in
set_option maxRecDepth 100000 in
theorem rcodes_any (w : World) : Calls Try.prog 39 #[] w fun e w' => ∃ v0 v1 v2, e = .returned (.agg #[v0, v1, v2]) ∧ Own w' w.heap.size v0 Hf.ordsL ∧ Own w' w.heap.size v1 Hf.oLen ∧ Own w' w.heap.size v2 Hf.oCod ∧ Below w.heap.size w w' := by
  obtain ⟨i0, hi, hz0, hz1, hz2⟩ := info_parts infoInt
  have HI := hid' hi
  have HZ0 := hid' hz0
  have HZ1 := hid' hz1
  have HZ2 := hid' hz2
  clear hi hz0 hz1 hz2
  go_enter Try.func39, Try.ntmps39
  go_wp2_with (refine wpl_alloc 67 rfl rfl _ zeroCode ?_)
  intro b0 w0 hb0 ha0 hl0
  go_wp2_with fail
  refine (rlengths_any _).mono ?_
  rintro e w1 ⟨b1, rfl, hb1, ha1, hl1⟩
  go_wp2_with (refine wpl_alloc 67 rfl rfl _ zeroCode ?_)
  intro b2 w2 hb2 ha2 hl2
  obtain ⟨B, hB⟩ : ∃ B, w2.heap.size = B := ⟨_, rfl⟩
  have HS : Hid (Side w w2 B b0 b1 b2) := hid' (by
    have l0 := ha0.lt
    have l1 := ha1.lt
    have l2 := ha2.lt
    exact ⟨(ha0.keep hl1).keep hl2, ha1.keep hl2, below_two (below_two hl0 hl1) hl2, hb0, by omega, by omega, by omega, by omega⟩)
  have HC : Hid (∃ v0 v1 v2, CodeAt w2 B b2 v0 v1 v2 0 0 0) := hid' ⟨_, _, _, ha2, by have := ha2.lt; omega, own_new _ _, own_new _ _, own_new _ _⟩
  clear hb0 ha0 hl0 hb1 ha1 hl1 hb2 ha2 hl2 hB
  go_wp2
  go_loopw [5, 3, 4] (fun s cd ws wr => ∃ n c u m : Nat, s = .int .i64 (n : Int) ∧ cd = .int .i64 (c : Int) ∧ ws = .int .i64 (u : Int) ∧ 1 ≤ n ∧ n ≤ 31 ∧ Hid (if n ≤ 30 then m = Hf.mm n 0 else m = 257) ∧ Hid (Hf.St m c u) ∧ Hid (Side w wr B b0 b1 b2) ∧ Hid (∃ v0 v1 v2, CodeAt wr B b2 v0 v1 v2 m m m)) (fun s _ _ _ => 31 - (intOf s).toNat)
  case atStart => exact ⟨1, 0, 0, 0, rfl, rfl, rfl, by omega, by omega, hid' (by rw [if_pos (by omega), Hf.mm_first]), hid' (.inl ⟨rfl, rfl, rfl⟩), HS, HC⟩
  case round =>
    clear HS HC
    obtain ⟨n, c, u, m, rfl, rfl, rfl, hn1, hn31, HM, HT, HS, HC⟩ := hrel
    by_cases hn : n ≤ 30
    · have HM' : Hid (m = Hf.mm n 0) := hid' (by have := HM.out; rwa [if_pos hn] at this)
      have hn2 : (n : Int) ≤ 30 := by omega
      clear HM
      go_wp2
      go_loopw [6, 3, 4] (fun s cd ws wr => ∃ k c u m : Nat, s = .int .i64 (k : Int) ∧ cd = .int .i64 (c : Int) ∧ ws = .int .i64 (u : Int) ∧ k ≤ 257 ∧ Hid (m = Hf.mm n k) ∧ Hid (Hf.St m c u) ∧ Hid (Side w wr B b0 b1 b2) ∧ Hid (∃ v0 v1 v2, CodeAt wr B b2 v0 v1 v2 m m m)) (fun s _ _ _ => 257 - (intOf s).toNat)
      case atStart => exact ⟨0, c, u, m, rfl, rfl, rfl, by omega, HM', HT, HS, HC⟩
      case round =>
        clear HM' HT HS HC
        obtain ⟨k, c, u, m, rfl, rfl, rfl, hk, HM, HT, HS, HC⟩ := hrel
        by_cases hk2 : k < 257
        · obtain ⟨v, hv, v0, v1⟩ := Hf.lens_at k hk2
          obtain ⟨y, rfl⟩ : ∃ y : Nat, v = y := ⟨v.toNat, by omega⟩
          have hk3 : (k : Int) < 257 := by omega
          have hc1 := HS.out.a1.val k y hv
          have hst := Hf.mm_step n k y hv
          by_cases hyn : y = n
          · subst hyn
            rw [if_pos rfl] at hst
            obtain ⟨hm1, hm2⟩ := Hf.mm_at y k hk2 hv
            have hoL := Hf.oL_mm y k hk2 hv
            rw [← HM.out] at hm1 hm2 hoL hst
            obtain ⟨o1, o2, o3, o4⟩ := Hf.o_at m hm2
            rw [hoL] at o3
            have HO0 := hid' hm1
            have HO1 := hid' o3
            have HO2 := hid' o4
            have HST := hid' hst
            have HOL := hid' hoL
            obtain ⟨va, vb, vc, hcode⟩ := HC.out
            have HCA := hid' hcode
            obtain ⟨aa, ca, ra⟩ := hcode.o0.shape
            obtain ⟨ab, cb, rb⟩ := hcode.o1.shape
            obtain ⟨ac, cc, rc⟩ := hcode.o2.shape
            rw [len_take _ _ (by rw [Hf.ordsL_length]; omega)] at ra
            rw [len_take _ _ (by rw [Hf.oLen_length]; omega)] at rb
            rw [len_take _ _ (by rw [Hf.oCod_length]; omega)] at rc
            subst ra rb rc
            have hca : wr.cell? ⟨b2, 0, none⟩ = some (.slice aa m ca) := hcode.at2.cell 0 _ rfl
            have hcb : wr.cell? ⟨b2, 1, none⟩ = some (.slice ab m cb) := hcode.at2.cell 1 _ rfl
            have hcc : wr.cell? ⟨b2, 2, none⟩ = some (.slice ac m cc) := hcode.at2.cell 2 _ rfl
            obtain ⟨xs0, hxs0⟩ : ∃ xs, (Hf.ordsL.take m).map (Value.int .i64) = xs := ⟨_, rfl⟩
            obtain ⟨xs1, hxs1⟩ : ∃ xs, (Hf.oLen.take m).map (Value.int .i64) = xs := ⟨_, rfl⟩
            obtain ⟨xs2, hxs2⟩ : ∃ xs, (Hf.oCod.take m).map (Value.int .i64) = xs := ⟨_, rfl⟩
            have hw0 := hcode.o0.1
            have hw1 := hcode.o1.1
            have hw2 := hcode.o2.1
            rw [len_take _ _ (by rw [Hf.ordsL_length]; omega), hxs0] at hw0
            rw [len_take _ _ (by rw [Hf.oLen_length]; omega), hxs1] at hw1
            rw [len_take _ _ (by rw [Hf.oCod_length]; omega), hxs2] at hw2
            have HX0 := hid' hxs0
            have HX1 := hid' hxs1
            have HX2 := hid' hxs2
            have HW0 := hid' hw0
            have HW1 := hid' hw1
            have HW2 := hid' hw2
            have HLM : Hid ((Hf.ordsL.take m).length = m ∧ (Hf.oLen.take m).length = m ∧ (Hf.oCod.take m).length = m) := hid' ⟨len_take _ _ (by rw [Hf.ordsL_length]; omega), len_take _ _ (by rw [Hf.oLen_length]; omega), len_take _ _ (by rw [Hf.oCod_length]; omega)⟩
            clear hcode hv hst hm1 hoL o3 o4 HC hw0 hw1 hw2 hxs0 hxs1 hxs2
            rcases HT.out with ⟨t1, t2, t3⟩ | ⟨p, t1, t2, t3⟩
            · subst t2 t3
              have hm0 : decide (0 < m) = false := by simp; omega
              have hm00 : ¬ 0 < m := by omega
              have hcz : Hf.oC m = 0 := by rw [t1]; exact Hf.oC_zero
              rw [hcz] at HO2
              have HT1 := hid' t1
              clear hcz t1 HT
              have HC0 := HCA
              have HS0 := HS
              clear HW1 HW2 hcb hcc
              go_wp2_with (at_builtin; refine wpList_append_own _ rfl _ _ 65 rfl B 3 i0 (.int .i64 0) 1 8 Try.underlying65 HI.out HZ0.out HZ1.out HZ2.out rfl (by decide) _ _ _ rfl (World.ownsRow.alloc HW0.out _) ⟨wr.heap.size, 0, none⟩ 1 1 [.int .i64 (k : Int)] rfl rfl (one_new _ _ _) (fun u hu => by simp at hu; subst hu; rfl) ?a1 ?a2 ?a3 ?_)
              case a1 => unfold maxLen; omega
              case a2 => omega
              case a3 => have := HS0.out.sz; simp; omega
              intro vx0 w3 hown hgrow _
              have hgrow' := hid' (grown_alloc hgrow)
              have hat := hid' (HC0.out.at2.below (grown_below HC0.out.o0 hgrow'.out HS0.out.sz) HC0.out.lt)
              obtain ⟨g0, k0, rfl⟩ : ∃ g k, vx0 = .slice g (m + 1) k := by
                rcases hown.2 with ⟨_, hz⟩ | ⟨g, k, _, hv, _⟩
                · omega
                · exact ⟨_, _, hv⟩
              have hown' := hid' hown
              clear hown hgrow
              go_wp2_with (refine wpl_store1 _ _ rfl rfl b2 0 (m + 1) k0 g0 (by kernel_rfl) (by kernel_rfl) _ _ hat.out (by simp) ?_)
              intro w3s ha hu
              have HC1 : Hid (CodeAt w3s B b2 (.slice g0 (m + 1) k0) (.slice ab m cb) (.slice ac m cc) (m + 1) m m) := hid' (CodeAt.app0 HC0.out hgrow'.out HS0.out.sz HO0.out HX0.out hown'.out (by have := HLM.out; omega) hu ha)
              have HS1 : Hid (Side w w3s B b0 b1 b2) := hid' (Side.app HS0.out HC0.out.o0 hgrow'.out hu)
              have HW1 : Hid (w3s.ownsRow B 3 1 (.slice ab m cb) m xs1) := hid' (by have hw := HC1.out.o1.1; rwa [len_take _ _ (by rw [Hf.oLen_length]; omega), HX1.out] at hw)
              have hc1 : w3s.cell? ⟨b2, 1, none⟩ = some (.slice ab m cb) := HC1.out.at2.cell 1 _ rfl
              clear ha hu hgrow' hat hown'
              go_wp2_with (at_builtin; refine wpList_append_own _ rfl _ _ 65 rfl B 3 i0 (.int .i64 0) 1 8 Try.underlying65 HI.out HZ0.out HZ1.out HZ2.out rfl (by decide) _ _ _ rfl (World.ownsRow.alloc HW1.out _) ⟨w3s.heap.size, 0, none⟩ 1 1 [.int .i64 (y : Int)] rfl rfl (one_new _ _ _) (fun u hu => by simp at hu; subst hu; rfl) ?a1 ?a2 ?a3 ?_)
              case a1 => unfold maxLen; omega
              case a2 => omega
              case a3 => have := HS1.out.sz; simp; omega
              intro vx1 w4 hown hgrow _
              have hgrow' := hid' (grown_alloc hgrow)
              have hat := hid' (HC1.out.at2.below (grown_below HC1.out.o1 hgrow'.out HS1.out.sz) HC1.out.lt)
              obtain ⟨g1, k1, rfl⟩ : ∃ g k, vx1 = .slice g (m + 1) k := by
                rcases hown.2 with ⟨_, hz⟩ | ⟨g, k, _, hv, _⟩
                · omega
                · exact ⟨_, _, hv⟩
              have hown' := hid' hown
              clear hown hgrow
              go_wp2_with (refine wpl_store1 _ _ rfl rfl b2 1 (m + 1) k1 g1 (by kernel_rfl) (by kernel_rfl) _ _ hat.out (by simp) ?_)
              intro w4s ha hu
              have HC2 : Hid (CodeAt w4s B b2 (.slice g0 (m + 1) k0) (.slice g1 (m + 1) k1) (.slice ac m cc) (m + 1) (m + 1) m) := hid' (CodeAt.app1 HC1.out hgrow'.out HS1.out.sz HO1.out HX1.out hown'.out (by have := HLM.out; omega) hu ha)
              have HS2 : Hid (Side w w4s B b0 b1 b2) := hid' (Side.app HS1.out HC1.out.o1 hgrow'.out hu)
              have HW2 : Hid (w4s.ownsRow B 3 1 (.slice ac m cc) m xs2) := hid' (by have hw := HC2.out.o2.1; rwa [len_take _ _ (by rw [Hf.oCod_length]; omega), HX2.out] at hw)
              have hc2 : w4s.cell? ⟨b2, 2, none⟩ = some (.slice ac m cc) := HC2.out.at2.cell 2 _ rfl
              clear ha hu hgrow' hat hown'
              go_wp2_with (at_builtin; refine wpList_append_own _ rfl _ _ 65 rfl B 3 i0 (.int .i64 0) 1 8 Try.underlying65 HI.out HZ0.out HZ1.out HZ2.out rfl (by decide) _ _ _ rfl (World.ownsRow.alloc HW2.out _) ⟨w4s.heap.size, 0, none⟩ 1 1 [.int .i64 0] rfl rfl (one_new _ _ _) (fun u hu => by simp at hu; subst hu; rfl) ?a1 ?a2 ?a3 ?_)
              case a1 => unfold maxLen; omega
              case a2 => omega
              case a3 => have := HS2.out.sz; simp; omega
              intro vx2 w5 hown hgrow _
              have hgrow' := hid' (grown_alloc hgrow)
              have hat := hid' (HC2.out.at2.below (grown_below HC2.out.o2 hgrow'.out HS2.out.sz) HC2.out.lt)
              obtain ⟨g2, k2, rfl⟩ : ∃ g k, vx2 = .slice g (m + 1) k := by
                rcases hown.2 with ⟨_, hz⟩ | ⟨g, k, _, hv, _⟩
                · omega
                · exact ⟨_, _, hv⟩
              have hown' := hid' hown
              clear hown hgrow
              go_wp2_with (refine wpl_store1 _ _ rfl rfl b2 2 (m + 1) k2 g2 (by kernel_rfl) (by kernel_rfl) _ _ hat.out (by simp) ?_)
              intro w5s ha hu
              have HC3 : Hid (CodeAt w5s B b2 (.slice g0 (m + 1) k0) (.slice g1 (m + 1) k1) (.slice g2 (m + 1) k2) (m + 1) (m + 1) (m + 1)) := hid' (CodeAt.app2 HC2.out hgrow'.out HS2.out.sz HO2.out HX2.out hown'.out (by have := HLM.out; omega) hu ha)
              have HS3 : Hid (Side w w5s B b0 b1 b2) := hid' (Side.app HS2.out HC2.out.o2 hgrow'.out hu)
              clear ha hu hgrow' hat hown'
              go_wp2
              go_roundw
              case rel => exact ⟨k + 1, 0, y, m + 1, by go_num, rfl, rfl, by omega, hid' HST.out.symm, hid' (.inr ⟨m, rfl, (by rw [HT1.out]; exact Hf.oC_zero.symm), HOL.out.symm⟩), HS3, hid' ⟨_, _, _, HC3.out⟩⟩
              case measure => simp [intOf]; omega

            · have hpm : p < 256 := by omega
              obtain ⟨q1, q2⟩ := Hf.o_next p hpm
              rw [← t1] at q1 q2
              rw [HOL.out, ← t3] at q1 q2
              rw [← t2] at q2
              have hm0 : (0 : Int) < (m : Int) := by omega
              have hm00 : 0 < m := by omega
              obtain ⟨c', hc'⟩ : ∃ c', Hf.oC m = c' := ⟨_, rfl⟩
              rw [hc'] at q2 o2 HO2
              have HCE := hid' hc'
              have HQ := hid' q2
              have HT1 := hid' t1
              have hcb30 : c < 1073741824 := by rw [t2]; exact (Hf.o_at p (by omega)).2.1
              clear hc' q2 t1 t2 t3 HT
              go_wp2
              go_loopw [3, 4] (fun cd ws wx => ∃ j e f : Nat, cd = .int .i64 (e : Int) ∧ ws = .int .i64 (f : Int) ∧ f ≤ y ∧ Hid (e = (c + 1) * 2 ^ j ∧ f = u + j) ∧ wr = wx) (fun _ ws _ => y - (intOf ws).toNat)
              case atStart => exact ⟨0, c + 1, u, by go_num, rfl, q1, hid' ⟨by simp, by omega⟩, rfl⟩
              case round =>
                obtain ⟨j, e, f, rfl, rfl, hf, HJ, rfl⟩ := hrel
                by_cases hfy : f < y
                · have hfy2 : (f : Int) < (y : Int) := by omega
                  have hee : e < 1073741824 := by
                    obtain ⟨j1, j2⟩ := HJ.out
                    have h1 := HQ.out
                    have h2 : 2 ^ j ≤ 2 ^ (y - u) := Nat.pow_le_pow_right (by omega) (by omega)
                    have h3 := Nat.mul_le_mul_left (c + 1) h2
                    omega
                  go_wp2
                  go_roundw
                  case rel =>
                    obtain ⟨j1, j2⟩ := HJ.out
                    exact ⟨j + 1, 2 * e, f + 1, by go_num, by go_num, by omega, hid' ⟨by rw [j1, Nat.pow_succ, Nat.mul_comm 2, Nat.mul_assoc], by omega⟩, by first | rfl | trivial⟩
                  case measure => simp [intOf]; omega
                · have hfy2 : (y : Int) ≤ (f : Int) := by omega
                  obtain rfl : e = c' := by
                    obtain ⟨j1, j2⟩ := HJ.out
                    have h1 := HQ.out
                    have : y - u = j := by omega
                    rw [this] at h1
                    omega
                  have hz : True := trivial
                  have HC0 := HCA
                  have HS0 := HS
                  clear HW1 HW2 hcb hcc
                  go_wp2_with (at_builtin; refine wpList_append_own _ rfl _ _ 65 rfl B 3 i0 (.int .i64 0) 1 8 Try.underlying65 HI.out HZ0.out HZ1.out HZ2.out rfl (by decide) _ _ _ rfl (World.ownsRow.alloc HW0.out _) ⟨wr.heap.size, 0, none⟩ 1 1 [.int .i64 (k : Int)] rfl rfl (one_new _ _ _) (fun u hu => by simp at hu; subst hu; rfl) ?a1 ?a2 ?a3 ?_)
                  case a1 => unfold maxLen; omega
                  case a2 => omega
                  case a3 => have := HS0.out.sz; simp; omega
                  intro vx0 w3 hown hgrow _
                  have hgrow' := hid' (grown_alloc hgrow)
                  have hat := hid' (HC0.out.at2.below (grown_below HC0.out.o0 hgrow'.out HS0.out.sz) HC0.out.lt)
                  obtain ⟨g0, k0, rfl⟩ : ∃ g k, vx0 = .slice g (m + 1) k := by
                    rcases hown.2 with ⟨_, hz⟩ | ⟨g, k, _, hv, _⟩
                    · omega
                    · exact ⟨_, _, hv⟩
                  have hown' := hid' hown
                  clear hown hgrow
                  go_wp2_with (refine wpl_store1 _ _ rfl rfl b2 0 (m + 1) k0 g0 (by kernel_rfl) (by kernel_rfl) _ _ hat.out (by simp) ?_)
                  intro w3s ha hu
                  have HC1 : Hid (CodeAt w3s B b2 (.slice g0 (m + 1) k0) (.slice ab m cb) (.slice ac m cc) (m + 1) m m) := hid' (CodeAt.app0 HC0.out hgrow'.out HS0.out.sz HO0.out HX0.out hown'.out (by have := HLM.out; omega) hu ha)
                  have HS1 : Hid (Side w w3s B b0 b1 b2) := hid' (Side.app HS0.out HC0.out.o0 hgrow'.out hu)
                  have HW1 : Hid (w3s.ownsRow B 3 1 (.slice ab m cb) m xs1) := hid' (by have hw := HC1.out.o1.1; rwa [len_take _ _ (by rw [Hf.oLen_length]; omega), HX1.out] at hw)
                  have hc1 : w3s.cell? ⟨b2, 1, none⟩ = some (.slice ab m cb) := HC1.out.at2.cell 1 _ rfl
                  clear ha hu hgrow' hat hown'
                  go_wp2_with (at_builtin; refine wpList_append_own _ rfl _ _ 65 rfl B 3 i0 (.int .i64 0) 1 8 Try.underlying65 HI.out HZ0.out HZ1.out HZ2.out rfl (by decide) _ _ _ rfl (World.ownsRow.alloc HW1.out _) ⟨w3s.heap.size, 0, none⟩ 1 1 [.int .i64 (y : Int)] rfl rfl (one_new _ _ _) (fun u hu => by simp at hu; subst hu; rfl) ?a1 ?a2 ?a3 ?_)
                  case a1 => unfold maxLen; omega
                  case a2 => omega
                  case a3 => have := HS1.out.sz; simp; omega
                  intro vx1 w4 hown hgrow _
                  have hgrow' := hid' (grown_alloc hgrow)
                  have hat := hid' (HC1.out.at2.below (grown_below HC1.out.o1 hgrow'.out HS1.out.sz) HC1.out.lt)
                  obtain ⟨g1, k1, rfl⟩ : ∃ g k, vx1 = .slice g (m + 1) k := by
                    rcases hown.2 with ⟨_, hz⟩ | ⟨g, k, _, hv, _⟩
                    · omega
                    · exact ⟨_, _, hv⟩
                  have hown' := hid' hown
                  clear hown hgrow
                  go_wp2_with (refine wpl_store1 _ _ rfl rfl b2 1 (m + 1) k1 g1 (by kernel_rfl) (by kernel_rfl) _ _ hat.out (by simp) ?_)
                  intro w4s ha hu
                  have HC2 : Hid (CodeAt w4s B b2 (.slice g0 (m + 1) k0) (.slice g1 (m + 1) k1) (.slice ac m cc) (m + 1) (m + 1) m) := hid' (CodeAt.app1 HC1.out hgrow'.out HS1.out.sz HO1.out HX1.out hown'.out (by have := HLM.out; omega) hu ha)
                  have HS2 : Hid (Side w w4s B b0 b1 b2) := hid' (Side.app HS1.out HC1.out.o1 hgrow'.out hu)
                  have HW2 : Hid (w4s.ownsRow B 3 1 (.slice ac m cc) m xs2) := hid' (by have hw := HC2.out.o2.1; rwa [len_take _ _ (by rw [Hf.oCod_length]; omega), HX2.out] at hw)
                  have hc2 : w4s.cell? ⟨b2, 2, none⟩ = some (.slice ac m cc) := HC2.out.at2.cell 2 _ rfl
                  clear ha hu hgrow' hat hown'
                  go_wp2_with (at_builtin; refine wpList_append_own _ rfl _ _ 65 rfl B 3 i0 (.int .i64 0) 1 8 Try.underlying65 HI.out HZ0.out HZ1.out HZ2.out rfl (by decide) _ _ _ rfl (World.ownsRow.alloc HW2.out _) ⟨w4s.heap.size, 0, none⟩ 1 1 [.int .i64 (e : Int)] rfl rfl (one_new _ _ _) (fun u hu => by simp at hu; subst hu; rfl) ?a1 ?a2 ?a3 ?_)
                  case a1 => unfold maxLen; omega
                  case a2 => omega
                  case a3 => have := HS2.out.sz; simp; omega
                  intro vx2 w5 hown hgrow _
                  have hgrow' := hid' (grown_alloc hgrow)
                  have hat := hid' (HC2.out.at2.below (grown_below HC2.out.o2 hgrow'.out HS2.out.sz) HC2.out.lt)
                  obtain ⟨g2, k2, rfl⟩ : ∃ g k, vx2 = .slice g (m + 1) k := by
                    rcases hown.2 with ⟨_, hz⟩ | ⟨g, k, _, hv, _⟩
                    · omega
                    · exact ⟨_, _, hv⟩
                  have hown' := hid' hown
                  clear hown hgrow
                  go_wp2_with (refine wpl_store1 _ _ rfl rfl b2 2 (m + 1) k2 g2 (by kernel_rfl) (by kernel_rfl) _ _ hat.out (by simp) ?_)
                  intro w5s ha hu
                  have HC3 : Hid (CodeAt w5s B b2 (.slice g0 (m + 1) k0) (.slice g1 (m + 1) k1) (.slice g2 (m + 1) k2) (m + 1) (m + 1) (m + 1)) := hid' (CodeAt.app2 HC2.out hgrow'.out HS2.out.sz HO2.out HX2.out hown'.out (by have := HLM.out; omega) hu ha)
                  have HS3 : Hid (Side w w5s B b0 b1 b2) := hid' (Side.app HS2.out HC2.out.o2 hgrow'.out hu)
                  clear ha hu hgrow' hat hown'
                  go_wp2
                  go_roundw
                  case rel => exact ⟨k + 1, e, y, m + 1, by go_num, rfl, rfl, by omega, hid' HST.out.symm, hid' (.inr ⟨m, rfl, HCE.out.symm, HOL.out.symm⟩), HS3, hid' ⟨_, _, _, HC3.out⟩⟩
                  case measure => simp [intOf]; omega

          · have hyn2 : ((y : Int) == (n : Int)) = false := by simp; omega
            have hyn3 : ((y : Int) != (n : Int)) = true := by simp; omega
            rw [if_neg (by omega)] at hst
            have HM2 : Hid (m = Hf.mm n (k + 1)) := hid' (by rw [hst, HM.out]; omega)
            clear hst hv
            go_wp2
            go_roundw
            case rel => exact ⟨k + 1, c, u, m, by go_num, rfl, rfl, by omega, HM2, HT, HS, HC⟩
            case measure => simp [intOf]; omega
        · have hk3 : k = 257 := by omega
          subst hk3
          go_wp2
          go_roundw
          case rel =>
            refine ⟨n + 1, c, u, m, by go_num, rfl, rfl, by omega, by omega, hid' ?_, HT, HS, HC⟩
            have hm := HM.out
            by_cases h30 : n + 1 ≤ 30
            · rw [if_pos h30, hm, Hf.mm_next n (by omega)]
            · rw [if_neg h30, hm, show n = 30 by omega, Hf.mm_last]
          case measure => simp [intOf]; omega
    · have hn2 : n = 31 := by omega
      subst hn2
      have hm : m = 257 := by have := HM.out; rwa [if_neg (by omega)] at this
      subst hm
      obtain ⟨va, vb, vc, hcode⟩ := HC.out
      have HCA := hid' hcode
      have H2 := hid' hcode.at2
      have H0 := hid' HS.out.a0
      clear hcode HC HM HT
      go_wp2_with (first | refine wpl_load 67 _ rfl rfl b2 (by kernel_rfl) _ _ H2.out _ Try.underlying67 rfl (by exact sizeCode) ?_ | refine wpl_store 67 _ _ rfl rfl b0 #[va, vb, vc] (by kernel_rfl) (by kernel_rfl) _ _ H0.out (by exact sizeCode) rfl (one_three HCA.out) ?_)
      intro w5 ha5 hu5
      go_wp2
      have hld := run_loadVar_row (P := Try.prog) w5 b0 67 67 #[va, vb, vc] (0, 0) _ ha5 Try.underlying67 rfl (by exact sizeCode)
      obtain ⟨h1, h2, h3, h4, h5⟩ := HCA.out
      obtain ⟨s1, s2, s3, s4, s5, s6, s7, s8⟩ := HS.out
      have e0 : Hf.ordsL.take 257 = Hf.ordsL := List.take_of_length_le (by rw [Hf.ordsL_length]; exact Nat.le_refl _)
      have e1 : Hf.oLen.take 257 = Hf.oLen := List.take_of_length_le (by rw [Hf.oLen_length]; exact Nat.le_refl _)
      have e2 : Hf.oCod.take 257 = Hf.oCod := List.take_of_length_le (by rw [Hf.oCod_length]; exact Nat.le_refl _)
      rw [e0] at h3
      rw [e1] at h4
      rw [e2] at h5
      refine bodyPost_ret (v := .agg #[va, vb, vc]) ?_ rfl ⟨va, vb, vc, rfl, (h3.upd hu5 (by omega)).lower (by omega), (h4.upd hu5 (by omega)).lower (by omega), (h5.upd hu5 (by omega)).lower (by omega), s3.trans (hu5.below (by omega))⟩
      simp [results, Try.results39, asAddr, hld]

end Go.Proofs.Ythldbhpkkcoafaa
