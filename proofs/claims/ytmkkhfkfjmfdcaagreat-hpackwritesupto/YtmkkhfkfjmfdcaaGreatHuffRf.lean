/-
  ostlerref03.codes, by its contract.
  ostlerref03's place, by its contract.
  ostlerref03.bits, by its contract.
  ostlerref03.Encode, by its contract.
  What ostlerref03.Decode's search finds: the plain facts.
  ostlerref03.Decode, by its contract.
-/
import Derived.Test.YtmkkhfkfjmfdcaaGreatHuffX
namespace Go.Proofs.YtmkkhfkfjmfdcaaGreat
open Go.RowKit

theorem zeroCode : (Tryz.prog.info? 138).map (fun i => i.zero) = some (some (.agg #[.slice none 0 0, .slice none 0 0, .slice none 0 0])) := by kernel_rfl
theorem sizeCode : (Tryz.prog.info? 138).map (·.size) = some 3 := by kernel_rfl
theorem take_more (l : List Int) (m : Nat) (x : Int) (h : l[m]? = some x) : l.take (m + 1) = l.take m ++ [x] := by rw [List.take_add_one, h]; rfl
theorem take_first (l : List Int) (m : Nat) (x : Int) (h : l[0]? = some x) (hne : l.take m ≠ []) : (l.take m)[0]? = some x := by
  cases m with
  | zero => simp at hne
  | succ m => cases l with
    | nil => simp at h
    | cons a r => simpa using h
theorem len_take (l : List Int) (m : Nat) (h : m ≤ l.length) : (l.take m).length = m := by rw [List.length_take]; omega
theorem ord0 : Hf.ordsL[0]? = some 48 := by decide +kernel
theorem oLen0 : Hf.oLen[0]? = some 5 := by decide +kernel
theorem oCod0 : Hf.oCod[0]? = some 0 := by decide +kernel

/-- The code that the loop makes: its struct in block b2, the three slices. -/
structure CodeAt (w : World) (B b2 : Nat) (v0 v1 v2 : Value) (m0 m1 m2 : Nat) : Prop where
  at2 : Ar w b2 138 #[v0, v1, v2]
  lt : b2 < B
  o0 : Own w B v0 (Hf.ordsL.take m0)
  o1 : Own w B v1 (Hf.oLen.take m1)
  o2 : Own w B v2 (Hf.oCod.take m2)
theorem grown_alloc {w : World} {o : Obj} {w' : World} {row : Option Nat} (h : (w.alloc o).grownBy w' row) : w.grownBy w' row :=
  ⟨h.os, h.tape, h.output, by have := h.size; simp at this; omega, fun k hk hne => (h.block k (by simp; omega) hne).trans (Lib.alloc_old w o k hk)⟩
theorem grown_below {w w' : World} {B : Nat} {v : Value} {l : List Int} (h : Own w B v l) (hg : w.grownBy w' v.ownBlock) (hB : B ≤ w.heap.size) : Below B w w' :=
  ⟨hg.os, hg.tape, hg.output, hg.size, fun k hk => hg.block k (by omega) (fun e => by have := (World.ownsRow.lt h.1 k e.symm).1; omega)⟩
theorem flip_apart {a b : Option Nat} (h : a = none ∨ a ≠ b) : b = none ∨ b ≠ a := by
  rcases h with h | h
  · subst h; cases b <;> simp
  · exact .inr fun e => h e.symm
theorem CodeAt.a01 {w : World} {B b2 : Nat} {v0 v1 v2 : Value} {m0 m1 m2 : Nat} (h : CodeAt w B b2 v0 v1 v2 m0 m1 m2) : v0.ownBlock = none ∨ v0.ownBlock ≠ v1.ownBlock := h.o0.apart h.o1 (take_first _ _ _ ord0) (take_first _ _ _ oLen0) (by decide)
theorem CodeAt.a02 {w : World} {B b2 : Nat} {v0 v1 v2 : Value} {m0 m1 m2 : Nat} (h : CodeAt w B b2 v0 v1 v2 m0 m1 m2) : v0.ownBlock = none ∨ v0.ownBlock ≠ v2.ownBlock := h.o0.apart h.o2 (take_first _ _ _ ord0) (take_first _ _ _ oCod0) (by decide)
theorem CodeAt.a12 {w : World} {B b2 : Nat} {v0 v1 v2 : Value} {m0 m1 m2 : Nat} (h : CodeAt w B b2 v0 v1 v2 m0 m1 m2) : v1.ownBlock = none ∨ v1.ownBlock ≠ v2.ownBlock := h.o1.apart h.o2 (take_first _ _ _ oLen0) (take_first _ _ _ oCod0) (by decide)
theorem CodeAt.app0 {w w1 : World} {B b2 n : Nat} {v0 v1 v2 v' : Value} {m0 m1 m2 : Nat} {x : Int} (h : CodeAt w B b2 v0 v1 v2 m0 m1 m2) (hg : w.grownBy w1 v0.ownBlock) (_hB : B ≤ w.heap.size) (hx : Hf.ordsL[m0]? = some x)
    {xs : List Value} (hxs : (Hf.ordsL.take m0).map (Value.int .i64) = xs) (ho : w1.ownsRow B 3 1 v' n (xs ++ [.int .i64 x])) (hn : n = (Hf.ordsL.take m0).length + 1) {w2 : World} (hu : Upd b2 w1 w2) (h2 : Ar w2 b2 138 #[v', v1, v2]) : CodeAt w2 B b2 v' v1 v2 (m0 + 1) m1 m2 := by
  refine ⟨h2, h.lt, ?_, (h.o1.kept hg (flip_apart h.a01)).upd hu h.lt, (h.o2.kept hg (flip_apart h.a02)).upd hu h.lt⟩
  subst hxs
  rw [take_more _ _ _ hx]
  exact (own_more ho hn).upd hu h.lt
theorem CodeAt.app1 {w w1 : World} {B b2 n : Nat} {v0 v1 v2 v' : Value} {m0 m1 m2 : Nat} {x : Int} (h : CodeAt w B b2 v0 v1 v2 m0 m1 m2) (hg : w.grownBy w1 v1.ownBlock) (_hB : B ≤ w.heap.size) (hx : Hf.oLen[m1]? = some x)
    {xs : List Value} (hxs : (Hf.oLen.take m1).map (Value.int .i64) = xs) (ho : w1.ownsRow B 3 1 v' n (xs ++ [.int .i64 x])) (hn : n = (Hf.oLen.take m1).length + 1) {w2 : World} (hu : Upd b2 w1 w2) (h2 : Ar w2 b2 138 #[v0, v', v2]) : CodeAt w2 B b2 v0 v' v2 m0 (m1 + 1) m2 := by
  refine ⟨h2, h.lt, (h.o0.kept hg h.a01).upd hu h.lt, ?_, (h.o2.kept hg (flip_apart h.a12)).upd hu h.lt⟩
  subst hxs
  rw [take_more _ _ _ hx]
  exact (own_more ho hn).upd hu h.lt
theorem CodeAt.app2 {w w1 : World} {B b2 n : Nat} {v0 v1 v2 v' : Value} {m0 m1 m2 : Nat} {x : Int} (h : CodeAt w B b2 v0 v1 v2 m0 m1 m2) (hg : w.grownBy w1 v2.ownBlock) (_hB : B ≤ w.heap.size) (hx : Hf.oCod[m2]? = some x)
    {xs : List Value} (hxs : (Hf.oCod.take m2).map (Value.int .i64) = xs) (ho : w1.ownsRow B 3 1 v' n (xs ++ [.int .i64 x])) (hn : n = (Hf.oCod.take m2).length + 1) {w2 : World} (hu : Upd b2 w1 w2) (h2 : Ar w2 b2 138 #[v0, v1, v']) : CodeAt w2 B b2 v0 v1 v' m0 m1 (m2 + 1) := by
  refine ⟨h2, h.lt, (h.o0.kept hg h.a02).upd hu h.lt, (h.o1.kept hg h.a12).upd hu h.lt, ?_⟩
  subst hxs
  rw [take_more _ _ _ hx]
  exact (own_more ho hn).upd hu h.lt

/-- What else the loop keeps: the table of lengths in block b1, the result's place in block b0. -/
structure Side (w0 w : World) (B b0 b1 b2 : Nat) : Prop where
  a0 : Ar w b0 138 #[.slice none 0 0, .slice none 0 0, .slice none 0 0]
  a1 : Ar w b1 3 (nums .i64 Hf.lens)
  be : Below w0.heap.size w0 w
  g0 : w0.heap.size ≤ b0
  g1 : b0 < b1
  g2 : b1 < b2
  g3 : b2 < B
  sz : B ≤ w.heap.size
theorem Side.app {w0 w w1 w2 : World} {B b0 b1 b2 : Nat} {v : Value} {l : List Int} (h : Side w0 w B b0 b1 b2) (ho : Own w B v l) (hg : w.grownBy w1 v.ownBlock) (hu : Upd b2 w1 w2) : Side w0 w2 B b0 b1 b2 := by
  have hb := grown_below ho hg h.sz
  have g0 := h.g0
  have g1 := h.g1
  have g2 := h.g2
  have g3 := h.g3
  refine ⟨hu.keep (h.a0.below hb (by omega)) (by omega), hu.keep (h.a1.below hb (by omega)) (by omega), (h.be.trans (hb.mono (by omega))).trans (hu.below (by omega)), g0, g1, g2, g3, ?_⟩
  rw [hu.size]
  exact Nat.le_trans h.sz hg.size
theorem store_slice (w : World) (b i n cap : Nat) (ao : Option Addr) (c : Array Value) (t : TypeId) (h : Ar w b t c) (hi : i < c.size) : (Instr.storeAt 136 (.pointer (some ⟨b, i, none⟩)) (.slice ao n cap)).run Tryz.prog w = .ok () (w.setCell ⟨b, i, none⟩ (.slice ao n cap)) := by
  have h1 : w.cell? ⟨b, i, none⟩ = some c[i] := h.cell i _ (Array.getElem?_eq_getElem hi)
  have h2 := h.free i
  simp [Instr.storeAt, Instr.sureAddr, go_sem, h1, h2]
theorem wpl_store1 {ops : Array Oper} {rest : List Oper} {o : Oper} {a : Act} {w : World} {Q : Exit → Act → World → Prop} (x y : Operand) (ho : o.op = .store 136 x y) (hgd : o.guard = none) (b i n cap : Nat) (ao : Option Addr) (hx : a.eval x = .pointer (some ⟨b, i, none⟩)) (hy : a.eval y = .slice ao n cap)
    (t : TypeId) (c : Array Value) (h : Ar w b t c) (hi : i < c.size) (hK : ∀ w', Ar w' b t (c.setIfInBounds i (.slice ao n cap)) → Upd b w w' → wpList Tryz.prog ops Q rest (a.put o.dst undef) w') : wpList Tryz.prog ops Q (o :: rest) a w := by
  refine wpList_plain hgd fun _ hK' => ?_
  unfold Oper.wp execOp
  simp only [ho, hx, hy, Sem.run_bind, store_slice w b i n cap ao c t h hi, Result.andThen_ok]
  exact hK' _ _ (hK _ (h.set i _) (upd_setCell w b i _))
theorem Side.drew {w0 w : World} {B b0 b1 b2 : Nat} (h : Side w0 w B b0 b1 b2) : Side w0 w.drew B b0 b1 b2 := ⟨h.a0, h.a1, h.be.drew, h.g0, h.g1, h.g2, h.g3, h.sz⟩

theorem Own.lower {w : World} {B B' : Nat} {v : Value} {l : List Int} (h : Own w B v l) (hb : B' ≤ B) : Own w B' v l := by
  refine ⟨⟨h.1.1, ?_⟩, h.2⟩
  rcases h.1.2 with hn | ⟨g, cap, cur, hv, hB, rest⟩
  · exact .inl hn
  · exact .inr ⟨g, cap, cur, hv, by omega, rest⟩
theorem one_three {w : World} {B b2 : Nat} {v0 v1 v2 : Value} {m0 m1 m2 : Nat} (h : CodeAt w B b2 v0 v1 v2 m0 m1 m2) : (#[v0, v1, v2] : Array Value).all (·.oneCell') = true := by
  obtain ⟨a, b, rfl⟩ := h.o0.shape
  obtain ⟨a, b, rfl⟩ := h.o1.shape
  obtain ⟨a, b, rfl⟩ := h.o2.shape
  simp [Value.oneCell']

theorem one_new (w : World) (t : TypeId) (x : Value) : ∀ j u, ([x] : List Value)[j]? = some u → (w.alloc (.cells #[x] t)).cell? ((⟨w.heap.size, 0, none⟩ : Addr).add j) = some u := by
  intro j u hj
  match j, hj with
  | 0, hj => simp at hj; subst hj; simp [Addr.add]

set_option maxHeartbeats 2000000 in
set_option maxRecDepth 100000 in
theorem rcodes_any (w : World) : Calls Tryz.prog 94 #[] w fun e w' => ∃ v0 v1 v2, e = .returned (.agg #[v0, v1, v2]) ∧ Own w' w.heap.size v0 Hf.ordsL ∧ Own w' w.heap.size v1 Hf.oLen ∧ Own w' w.heap.size v2 Hf.oCod ∧ Below w.heap.size w w' := by
  obtain ⟨i0, hi, hz0, hz1, hz2⟩ := info_parts infoInt
  have HI := hid' hi
  have HZ0 := hid' hz0
  have HZ1 := hid' hz1
  have HZ2 := hid' hz2
  clear hi hz0 hz1 hz2
  go_enter Tryz.func94, Tryz.ntmps94
  go_wp2_with (refine wpl_alloc 138 rfl rfl _ zeroCode ?_)
  intro b0 w0 hb0 ha0 hl0
  go_wp2_with fail
  refine (rlengths_any _).mono ?_
  rintro e w1 ⟨b1, rfl, hb1, ha1, hl1⟩
  go_wp2_with (refine wpl_alloc 138 rfl rfl _ zeroCode ?_)
  intro b2 w2 hb2 ha2 hl2
  obtain ⟨B, hB⟩ : ∃ B, w2.heap.size = B := ⟨_, rfl⟩
  have HS : Hid (Side w w2 B b0 b1 b2) := hid' (by
    have l0 := ha0.lt
    have l1 := ha1.lt
    have l2 := ha2.lt
    exact ⟨(ha0.keep hl1).keep hl2, ha1.keep hl2, below_two (below_two hl0 hl1) hl2, hb0, by omega, by omega, by omega, by omega⟩)
  have HC : Hid (∃ v0 v1 v2, CodeAt w2 B b2 v0 v1 v2 0 0 0) := hid' ⟨_, _, _, ha2, by have := ha2.lt; omega, own_new _ _, own_new _ _, own_new _ _⟩
  clear hb0 ha0 hl0 hb1 ha1 hl1 hb2 ha2 hl2 hB
  go_wp2
  go_loopw [5, 3, 4] (fun s cd ws wr => ∃ n c u m : Nat, s = .int .i64 (n : Int) ∧ cd = .int .i64 (c : Int) ∧ ws = .int .i64 (u : Int) ∧ 1 ≤ n ∧ n ≤ 31 ∧ Hid (if n ≤ 30 then m = Hf.mm n 0 else m = 257) ∧ Hid (Hf.St m c u) ∧ Hid (Side w wr B b0 b1 b2) ∧ Hid (∃ v0 v1 v2, CodeAt wr B b2 v0 v1 v2 m m m)) (fun s _ _ _ => 31 - (intOf s).toNat)
  case atStart => exact ⟨1, 0, 0, 0, rfl, rfl, rfl, by omega, by omega, hid' (by rw [if_pos (by omega), Hf.mm_first]), hid' (.inl ⟨rfl, rfl, rfl⟩), HS, HC⟩
  case round =>
    clear HS HC
    obtain ⟨n, c, u, m, rfl, rfl, rfl, hn1, hn31, HM, HT, HS, HC⟩ := hrel
    by_cases hn : n ≤ 30
    · have HM' : Hid (m = Hf.mm n 0) := hid' (by have := HM.out; rwa [if_pos hn] at this)
      have hn2 : (n : Int) ≤ 30 := by omega
      clear HM
      go_wp2
      go_loopw [6, 3, 4] (fun s cd ws wr => ∃ k c u m : Nat, s = .int .i64 (k : Int) ∧ cd = .int .i64 (c : Int) ∧ ws = .int .i64 (u : Int) ∧ k ≤ 257 ∧ Hid (m = Hf.mm n k) ∧ Hid (Hf.St m c u) ∧ Hid (Side w wr B b0 b1 b2) ∧ Hid (∃ v0 v1 v2, CodeAt wr B b2 v0 v1 v2 m m m)) (fun s _ _ _ => 257 - (intOf s).toNat)
      case atStart => exact ⟨0, c, u, m, rfl, rfl, rfl, by omega, HM', HT, HS, HC⟩
      case round =>
        clear HM' HT HS HC
        obtain ⟨k, c, u, m, rfl, rfl, rfl, hk, HM, HT, HS, HC⟩ := hrel
        by_cases hk2 : k < 257
        · obtain ⟨v, hv, v0, v1⟩ := Hf.lens_at k hk2
          obtain ⟨y, rfl⟩ : ∃ y : Nat, v = y := ⟨v.toNat, by omega⟩
          have hk3 : (k : Int) < 257 := by omega
          have hc1 := HS.out.a1.val k y hv
          have hst := Hf.mm_step n k y hv
          by_cases hyn : y = n
          · subst hyn
            rw [if_pos rfl] at hst
            obtain ⟨hm1, hm2⟩ := Hf.mm_at y k hk2 hv
            have hoL := Hf.oL_mm y k hk2 hv
            rw [← HM.out] at hm1 hm2 hoL hst
            obtain ⟨o1, o2, o3, o4⟩ := Hf.o_at m hm2
            rw [hoL] at o3
            have HO0 := hid' hm1
            have HO1 := hid' o3
            have HO2 := hid' o4
            have HST := hid' hst
            have HOL := hid' hoL
            obtain ⟨va, vb, vc, hcode⟩ := HC.out
            have HCA := hid' hcode
            obtain ⟨aa, ca, ra⟩ := hcode.o0.shape
            obtain ⟨ab, cb, rb⟩ := hcode.o1.shape
            obtain ⟨ac, cc, rc⟩ := hcode.o2.shape
            rw [len_take _ _ (by rw [Hf.ordsL_length]; omega)] at ra
            rw [len_take _ _ (by rw [Hf.oLen_length]; omega)] at rb
            rw [len_take _ _ (by rw [Hf.oCod_length]; omega)] at rc
            subst ra rb rc
            have hca : wr.cell? ⟨b2, 0, none⟩ = some (.slice aa m ca) := hcode.at2.cell 0 _ rfl
            have hcb : wr.cell? ⟨b2, 1, none⟩ = some (.slice ab m cb) := hcode.at2.cell 1 _ rfl
            have hcc : wr.cell? ⟨b2, 2, none⟩ = some (.slice ac m cc) := hcode.at2.cell 2 _ rfl
            obtain ⟨xs0, hxs0⟩ : ∃ xs, (Hf.ordsL.take m).map (Value.int .i64) = xs := ⟨_, rfl⟩
            obtain ⟨xs1, hxs1⟩ : ∃ xs, (Hf.oLen.take m).map (Value.int .i64) = xs := ⟨_, rfl⟩
            obtain ⟨xs2, hxs2⟩ : ∃ xs, (Hf.oCod.take m).map (Value.int .i64) = xs := ⟨_, rfl⟩
            have hw0 := hcode.o0.1
            have hw1 := hcode.o1.1
            have hw2 := hcode.o2.1
            rw [len_take _ _ (by rw [Hf.ordsL_length]; omega), hxs0] at hw0
            rw [len_take _ _ (by rw [Hf.oLen_length]; omega), hxs1] at hw1
            rw [len_take _ _ (by rw [Hf.oCod_length]; omega), hxs2] at hw2
            have HX0 := hid' hxs0
            have HX1 := hid' hxs1
            have HX2 := hid' hxs2
            have HW0 := hid' hw0
            have HW1 := hid' hw1
            have HW2 := hid' hw2
            have HLM : Hid ((Hf.ordsL.take m).length = m ∧ (Hf.oLen.take m).length = m ∧ (Hf.oCod.take m).length = m) := hid' ⟨len_take _ _ (by rw [Hf.ordsL_length]; omega), len_take _ _ (by rw [Hf.oLen_length]; omega), len_take _ _ (by rw [Hf.oCod_length]; omega)⟩
            clear hcode hv hst hm1 hoL o3 o4 HC hw0 hw1 hw2 hxs0 hxs1 hxs2
            rcases HT.out with ⟨t1, t2, t3⟩ | ⟨p, t1, t2, t3⟩
            · subst t2 t3
              have hm0 : decide (0 < m) = false := by simp; omega
              have hm00 : ¬ 0 < m := by omega
              have hcz : Hf.oC m = 0 := by rw [t1]; exact Hf.oC_zero
              rw [hcz] at HO2
              have HT1 := hid' t1
              clear hcz t1 HT
              have HC0 := HCA
              have HS0 := HS
              clear HW1 HW2 hcb hcc
              go_wp2_with (at_builtin; refine wpList_append_own _ rfl _ _ 136 rfl B 3 i0 (.int .i64 0) 1 8 Tryz.underlying136 HI.out HZ0.out HZ1.out HZ2.out rfl (by decide) _ _ _ rfl (World.ownsRow.alloc HW0.out _) ⟨wr.heap.size, 0, none⟩ 1 1 [.int .i64 (k : Int)] rfl rfl (one_new _ _ _) (fun u hu => by simp at hu; subst hu; rfl) ?a1 ?a2 ?a3 ?_)
              case a1 => unfold maxLen; omega
              case a2 => omega
              case a3 => have := HS0.out.sz; simp; omega
              intro vx0 w3 hown hgrow _
              have hgrow' := hid' (grown_alloc hgrow)
              have hat := hid' (HC0.out.at2.below (grown_below HC0.out.o0 hgrow'.out HS0.out.sz) HC0.out.lt)
              obtain ⟨g0, k0, rfl⟩ : ∃ g k, vx0 = .slice g (m + 1) k := by
                rcases hown.2 with ⟨_, hz⟩ | ⟨g, k, _, hv, _⟩
                · omega
                · exact ⟨_, _, hv⟩
              have hown' := hid' hown
              clear hown hgrow
              go_wp2_with (refine wpl_store1 _ _ rfl rfl b2 0 (m + 1) k0 g0 (by kernel_rfl) (by kernel_rfl) _ _ hat.out (by simp) ?_)
              intro w3s ha hu
              have HC1 : Hid (CodeAt w3s B b2 (.slice g0 (m + 1) k0) (.slice ab m cb) (.slice ac m cc) (m + 1) m m) := hid' (CodeAt.app0 HC0.out hgrow'.out HS0.out.sz HO0.out HX0.out hown'.out (by have := HLM.out; omega) hu ha)
              have HS1 : Hid (Side w w3s B b0 b1 b2) := hid' (Side.app HS0.out HC0.out.o0 hgrow'.out hu)
              have HW1 : Hid (w3s.ownsRow B 3 1 (.slice ab m cb) m xs1) := hid' (by have hw := HC1.out.o1.1; rwa [len_take _ _ (by rw [Hf.oLen_length]; omega), HX1.out] at hw)
              have hc1 : w3s.cell? ⟨b2, 1, none⟩ = some (.slice ab m cb) := HC1.out.at2.cell 1 _ rfl
              clear ha hu hgrow' hat hown'
              go_wp2_with (at_builtin; refine wpList_append_own _ rfl _ _ 136 rfl B 3 i0 (.int .i64 0) 1 8 Tryz.underlying136 HI.out HZ0.out HZ1.out HZ2.out rfl (by decide) _ _ _ rfl (World.ownsRow.alloc HW1.out _) ⟨w3s.heap.size, 0, none⟩ 1 1 [.int .i64 (y : Int)] rfl rfl (one_new _ _ _) (fun u hu => by simp at hu; subst hu; rfl) ?a1 ?a2 ?a3 ?_)
              case a1 => unfold maxLen; omega
              case a2 => omega
              case a3 => have := HS1.out.sz; simp; omega
              intro vx1 w4 hown hgrow _
              have hgrow' := hid' (grown_alloc hgrow)
              have hat := hid' (HC1.out.at2.below (grown_below HC1.out.o1 hgrow'.out HS1.out.sz) HC1.out.lt)
              obtain ⟨g1, k1, rfl⟩ : ∃ g k, vx1 = .slice g (m + 1) k := by
                rcases hown.2 with ⟨_, hz⟩ | ⟨g, k, _, hv, _⟩
                · omega
                · exact ⟨_, _, hv⟩
              have hown' := hid' hown
              clear hown hgrow
              go_wp2_with (refine wpl_store1 _ _ rfl rfl b2 1 (m + 1) k1 g1 (by kernel_rfl) (by kernel_rfl) _ _ hat.out (by simp) ?_)
              intro w4s ha hu
              have HC2 : Hid (CodeAt w4s B b2 (.slice g0 (m + 1) k0) (.slice g1 (m + 1) k1) (.slice ac m cc) (m + 1) (m + 1) m) := hid' (CodeAt.app1 HC1.out hgrow'.out HS1.out.sz HO1.out HX1.out hown'.out (by have := HLM.out; omega) hu ha)
              have HS2 : Hid (Side w w4s B b0 b1 b2) := hid' (Side.app HS1.out HC1.out.o1 hgrow'.out hu)
              have HW2 : Hid (w4s.ownsRow B 3 1 (.slice ac m cc) m xs2) := hid' (by have hw := HC2.out.o2.1; rwa [len_take _ _ (by rw [Hf.oCod_length]; omega), HX2.out] at hw)
              have hc2 : w4s.cell? ⟨b2, 2, none⟩ = some (.slice ac m cc) := HC2.out.at2.cell 2 _ rfl
              clear ha hu hgrow' hat hown'
              go_wp2_with (at_builtin; refine wpList_append_own _ rfl _ _ 136 rfl B 3 i0 (.int .i64 0) 1 8 Tryz.underlying136 HI.out HZ0.out HZ1.out HZ2.out rfl (by decide) _ _ _ rfl (World.ownsRow.alloc HW2.out _) ⟨w4s.heap.size, 0, none⟩ 1 1 [.int .i64 0] rfl rfl (one_new _ _ _) (fun u hu => by simp at hu; subst hu; rfl) ?a1 ?a2 ?a3 ?_)
              case a1 => unfold maxLen; omega
              case a2 => omega
              case a3 => have := HS2.out.sz; simp; omega
              intro vx2 w5 hown hgrow _
              have hgrow' := hid' (grown_alloc hgrow)
              have hat := hid' (HC2.out.at2.below (grown_below HC2.out.o2 hgrow'.out HS2.out.sz) HC2.out.lt)
              obtain ⟨g2, k2, rfl⟩ : ∃ g k, vx2 = .slice g (m + 1) k := by
                rcases hown.2 with ⟨_, hz⟩ | ⟨g, k, _, hv, _⟩
                · omega
                · exact ⟨_, _, hv⟩
              have hown' := hid' hown
              clear hown hgrow
              go_wp2_with (refine wpl_store1 _ _ rfl rfl b2 2 (m + 1) k2 g2 (by kernel_rfl) (by kernel_rfl) _ _ hat.out (by simp) ?_)
              intro w5s ha hu
              have HC3 : Hid (CodeAt w5s B b2 (.slice g0 (m + 1) k0) (.slice g1 (m + 1) k1) (.slice g2 (m + 1) k2) (m + 1) (m + 1) (m + 1)) := hid' (CodeAt.app2 HC2.out hgrow'.out HS2.out.sz HO2.out HX2.out hown'.out (by have := HLM.out; omega) hu ha)
              have HS3 : Hid (Side w w5s B b0 b1 b2) := hid' (Side.app HS2.out HC2.out.o2 hgrow'.out hu)
              clear ha hu hgrow' hat hown'
              go_wp2
              go_roundw
              case rel => exact ⟨k + 1, 0, y, m + 1, by go_num, rfl, rfl, by omega, hid' HST.out.symm, hid' (.inr ⟨m, rfl, (by rw [HT1.out]; exact Hf.oC_zero.symm), HOL.out.symm⟩), HS3, hid' ⟨_, _, _, HC3.out⟩⟩
              case measure => simp [intOf]; omega

            · have hpm : p < 256 := by omega
              obtain ⟨q1, q2⟩ := Hf.o_next p hpm
              rw [← t1] at q1 q2
              rw [HOL.out, ← t3] at q1 q2
              rw [← t2] at q2
              have hm0 : (0 : Int) < (m : Int) := by omega
              have hm00 : 0 < m := by omega
              obtain ⟨c', hc'⟩ : ∃ c', Hf.oC m = c' := ⟨_, rfl⟩
              rw [hc'] at q2 o2 HO2
              have HCE := hid' hc'
              have HQ := hid' q2
              have HT1 := hid' t1
              have hcb30 : c < 1073741824 := by rw [t2]; exact (Hf.o_at p (by omega)).2.1
              clear hc' q2 t1 t2 t3 HT
              go_wp2
              go_loopw [3, 4] (fun cd ws wx => ∃ j e f : Nat, cd = .int .i64 (e : Int) ∧ ws = .int .i64 (f : Int) ∧ f ≤ y ∧ Hid (e = (c + 1) * 2 ^ j ∧ f = u + j) ∧ wr = wx) (fun _ ws _ => y - (intOf ws).toNat)
              case atStart => exact ⟨0, c + 1, u, by go_num, rfl, q1, hid' ⟨by simp, by omega⟩, rfl⟩
              case round =>
                obtain ⟨j, e, f, rfl, rfl, hf, HJ, rfl⟩ := hrel
                by_cases hfy : f < y
                · have hfy2 : (f : Int) < (y : Int) := by omega
                  have hee : e < 1073741824 := by
                    obtain ⟨j1, j2⟩ := HJ.out
                    have h1 := HQ.out
                    have h2 : 2 ^ j ≤ 2 ^ (y - u) := Nat.pow_le_pow_right (by omega) (by omega)
                    have h3 := Nat.mul_le_mul_left (c + 1) h2
                    omega
                  go_wp2
                  go_roundw
                  case rel =>
                    obtain ⟨j1, j2⟩ := HJ.out
                    exact ⟨j + 1, 2 * e, f + 1, by go_num, by go_num, by omega, hid' ⟨by rw [j1, Nat.pow_succ, Nat.mul_comm 2, Nat.mul_assoc], by omega⟩, by first | rfl | trivial⟩
                  case measure => simp [intOf]; omega
                · have hfy2 : (y : Int) ≤ (f : Int) := by omega
                  obtain rfl : e = c' := by
                    obtain ⟨j1, j2⟩ := HJ.out
                    have h1 := HQ.out
                    have : y - u = j := by omega
                    rw [this] at h1
                    omega
                  have hz : True := trivial
                  have HC0 := HCA
                  have HS0 := HS
                  clear HW1 HW2 hcb hcc
                  go_wp2_with (at_builtin; refine wpList_append_own _ rfl _ _ 136 rfl B 3 i0 (.int .i64 0) 1 8 Tryz.underlying136 HI.out HZ0.out HZ1.out HZ2.out rfl (by decide) _ _ _ rfl (World.ownsRow.alloc HW0.out _) ⟨wr.heap.size, 0, none⟩ 1 1 [.int .i64 (k : Int)] rfl rfl (one_new _ _ _) (fun u hu => by simp at hu; subst hu; rfl) ?a1 ?a2 ?a3 ?_)
                  case a1 => unfold maxLen; omega
                  case a2 => omega
                  case a3 => have := HS0.out.sz; simp; omega
                  intro vx0 w3 hown hgrow _
                  have hgrow' := hid' (grown_alloc hgrow)
                  have hat := hid' (HC0.out.at2.below (grown_below HC0.out.o0 hgrow'.out HS0.out.sz) HC0.out.lt)
                  obtain ⟨g0, k0, rfl⟩ : ∃ g k, vx0 = .slice g (m + 1) k := by
                    rcases hown.2 with ⟨_, hz⟩ | ⟨g, k, _, hv, _⟩
                    · omega
                    · exact ⟨_, _, hv⟩
                  have hown' := hid' hown
                  clear hown hgrow
                  go_wp2_with (refine wpl_store1 _ _ rfl rfl b2 0 (m + 1) k0 g0 (by kernel_rfl) (by kernel_rfl) _ _ hat.out (by simp) ?_)
                  intro w3s ha hu
                  have HC1 : Hid (CodeAt w3s B b2 (.slice g0 (m + 1) k0) (.slice ab m cb) (.slice ac m cc) (m + 1) m m) := hid' (CodeAt.app0 HC0.out hgrow'.out HS0.out.sz HO0.out HX0.out hown'.out (by have := HLM.out; omega) hu ha)
                  have HS1 : Hid (Side w w3s B b0 b1 b2) := hid' (Side.app HS0.out HC0.out.o0 hgrow'.out hu)
                  have HW1 : Hid (w3s.ownsRow B 3 1 (.slice ab m cb) m xs1) := hid' (by have hw := HC1.out.o1.1; rwa [len_take _ _ (by rw [Hf.oLen_length]; omega), HX1.out] at hw)
                  have hc1 : w3s.cell? ⟨b2, 1, none⟩ = some (.slice ab m cb) := HC1.out.at2.cell 1 _ rfl
                  clear ha hu hgrow' hat hown'
                  go_wp2_with (at_builtin; refine wpList_append_own _ rfl _ _ 136 rfl B 3 i0 (.int .i64 0) 1 8 Tryz.underlying136 HI.out HZ0.out HZ1.out HZ2.out rfl (by decide) _ _ _ rfl (World.ownsRow.alloc HW1.out _) ⟨w3s.heap.size, 0, none⟩ 1 1 [.int .i64 (y : Int)] rfl rfl (one_new _ _ _) (fun u hu => by simp at hu; subst hu; rfl) ?a1 ?a2 ?a3 ?_)
                  case a1 => unfold maxLen; omega
                  case a2 => omega
                  case a3 => have := HS1.out.sz; simp; omega
                  intro vx1 w4 hown hgrow _
                  have hgrow' := hid' (grown_alloc hgrow)
                  have hat := hid' (HC1.out.at2.below (grown_below HC1.out.o1 hgrow'.out HS1.out.sz) HC1.out.lt)
                  obtain ⟨g1, k1, rfl⟩ : ∃ g k, vx1 = .slice g (m + 1) k := by
                    rcases hown.2 with ⟨_, hz⟩ | ⟨g, k, _, hv, _⟩
                    · omega
                    · exact ⟨_, _, hv⟩
                  have hown' := hid' hown
                  clear hown hgrow
                  go_wp2_with (refine wpl_store1 _ _ rfl rfl b2 1 (m + 1) k1 g1 (by kernel_rfl) (by kernel_rfl) _ _ hat.out (by simp) ?_)
                  intro w4s ha hu
                  have HC2 : Hid (CodeAt w4s B b2 (.slice g0 (m + 1) k0) (.slice g1 (m + 1) k1) (.slice ac m cc) (m + 1) (m + 1) m) := hid' (CodeAt.app1 HC1.out hgrow'.out HS1.out.sz HO1.out HX1.out hown'.out (by have := HLM.out; omega) hu ha)
                  have HS2 : Hid (Side w w4s B b0 b1 b2) := hid' (Side.app HS1.out HC1.out.o1 hgrow'.out hu)
                  have HW2 : Hid (w4s.ownsRow B 3 1 (.slice ac m cc) m xs2) := hid' (by have hw := HC2.out.o2.1; rwa [len_take _ _ (by rw [Hf.oCod_length]; omega), HX2.out] at hw)
                  have hc2 : w4s.cell? ⟨b2, 2, none⟩ = some (.slice ac m cc) := HC2.out.at2.cell 2 _ rfl
                  clear ha hu hgrow' hat hown'
                  go_wp2_with (at_builtin; refine wpList_append_own _ rfl _ _ 136 rfl B 3 i0 (.int .i64 0) 1 8 Tryz.underlying136 HI.out HZ0.out HZ1.out HZ2.out rfl (by decide) _ _ _ rfl (World.ownsRow.alloc HW2.out _) ⟨w4s.heap.size, 0, none⟩ 1 1 [.int .i64 (e : Int)] rfl rfl (one_new _ _ _) (fun u hu => by simp at hu; subst hu; rfl) ?a1 ?a2 ?a3 ?_)
                  case a1 => unfold maxLen; omega
                  case a2 => omega
                  case a3 => have := HS2.out.sz; simp; omega
                  intro vx2 w5 hown hgrow _
                  have hgrow' := hid' (grown_alloc hgrow)
                  have hat := hid' (HC2.out.at2.below (grown_below HC2.out.o2 hgrow'.out HS2.out.sz) HC2.out.lt)
                  obtain ⟨g2, k2, rfl⟩ : ∃ g k, vx2 = .slice g (m + 1) k := by
                    rcases hown.2 with ⟨_, hz⟩ | ⟨g, k, _, hv, _⟩
                    · omega
                    · exact ⟨_, _, hv⟩
                  have hown' := hid' hown
                  clear hown hgrow
                  go_wp2_with (refine wpl_store1 _ _ rfl rfl b2 2 (m + 1) k2 g2 (by kernel_rfl) (by kernel_rfl) _ _ hat.out (by simp) ?_)
                  intro w5s ha hu
                  have HC3 : Hid (CodeAt w5s B b2 (.slice g0 (m + 1) k0) (.slice g1 (m + 1) k1) (.slice g2 (m + 1) k2) (m + 1) (m + 1) (m + 1)) := hid' (CodeAt.app2 HC2.out hgrow'.out HS2.out.sz HO2.out HX2.out hown'.out (by have := HLM.out; omega) hu ha)
                  have HS3 : Hid (Side w w5s B b0 b1 b2) := hid' (Side.app HS2.out HC2.out.o2 hgrow'.out hu)
                  clear ha hu hgrow' hat hown'
                  go_wp2
                  go_roundw
                  case rel => exact ⟨k + 1, e, y, m + 1, by go_num, rfl, rfl, by omega, hid' HST.out.symm, hid' (.inr ⟨m, rfl, HCE.out.symm, HOL.out.symm⟩), HS3, hid' ⟨_, _, _, HC3.out⟩⟩
                  case measure => simp [intOf]; omega

          · have hyn2 : ((y : Int) == (n : Int)) = false := by simp; omega
            have hyn3 : ((y : Int) != (n : Int)) = true := by simp; omega
            rw [if_neg (by omega)] at hst
            have HM2 : Hid (m = Hf.mm n (k + 1)) := hid' (by rw [hst, HM.out]; omega)
            clear hst hv
            go_wp2
            go_roundw
            case rel => exact ⟨k + 1, c, u, m, by go_num, rfl, rfl, by omega, HM2, HT, HS, HC⟩
            case measure => simp [intOf]; omega
        · have hk3 : k = 257 := by omega
          subst hk3
          go_wp2
          go_roundw
          case rel =>
            refine ⟨n + 1, c, u, m, by go_num, rfl, rfl, by omega, by omega, hid' ?_, HT, HS, HC⟩
            have hm := HM.out
            by_cases h30 : n + 1 ≤ 30
            · rw [if_pos h30, hm, Hf.mm_next n (by omega)]
            · rw [if_neg h30, hm, show n = 30 by omega, Hf.mm_last]
          case measure => simp [intOf]; omega
    · have hn2 : n = 31 := by omega
      subst hn2
      have hm : m = 257 := by have := HM.out; rwa [if_neg (by omega)] at this
      subst hm
      obtain ⟨va, vb, vc, hcode⟩ := HC.out
      have HCA := hid' hcode
      have H2 := hid' hcode.at2
      have H0 := hid' HS.out.a0
      clear hcode HC HM HT
      go_wp2_with (first | refine wpl_load 138 _ rfl rfl b2 (by kernel_rfl) _ _ H2.out _ Tryz.underlying138 rfl (by exact sizeCode) ?_ | refine wpl_store 138 _ _ rfl rfl b0 #[va, vb, vc] (by kernel_rfl) (by kernel_rfl) _ _ H0.out (by exact sizeCode) rfl (one_three HCA.out) ?_)
      intro w5 ha5 hu5
      go_wp2
      have hld := run_loadVar_row (P := Tryz.prog) w5 b0 138 138 #[va, vb, vc] (0, 0) _ ha5 Tryz.underlying138 rfl (by exact sizeCode)
      obtain ⟨h1, h2, h3, h4, h5⟩ := HCA.out
      obtain ⟨s1, s2, s3, s4, s5, s6, s7, s8⟩ := HS.out
      have e0 : Hf.ordsL.take 257 = Hf.ordsL := List.take_of_length_le (by rw [Hf.ordsL_length]; exact Nat.le_refl _)
      have e1 : Hf.oLen.take 257 = Hf.oLen := List.take_of_length_le (by rw [Hf.oLen_length]; exact Nat.le_refl _)
      have e2 : Hf.oCod.take 257 = Hf.oCod := List.take_of_length_le (by rw [Hf.oCod_length]; exact Nat.le_refl _)
      rw [e0] at h3
      rw [e1] at h4
      rw [e2] at h5
      refine bodyPost_ret (v := .agg #[va, vb, vc]) ?_ rfl ⟨va, vb, vc, rfl, (h3.upd hu5 (by omega)).lower (by omega), (h4.upd hu5 (by omega)).lower (by omega), (h5.upd hu5 (by omega)).lower (by omega), s3.trans (hu5.below (by omega))⟩
      simp [results, Tryz.results94, asAddr, hld]

end Go.Proofs.YtmkkhfkfjmfdcaaGreat

namespace Go.Proofs.YtmkkhfkfjmfdcaaGreat
namespace Hf
/-- A symbol's place in the order. -/
def pos (x : Nat) : Nat := ordsL.idxOf (x : Int)
theorem pos_ok : (List.range 257).all (fun x => decide (ordsL[pos x]? = some (x : Int)) && decide (oL (pos x) = lenN x) && decide (oC (pos x) = codL x) && decide (pos x < 257)) = true := by decide +kernel
theorem pos_at (x : Nat) (h : x < 257) : ordsL[pos x]? = some (x : Int) ∧ oL (pos x) = lenN x ∧ oC (pos x) = codN x ∧ pos x < 257 := by
  have := List.all_eq_true.1 pos_ok x (List.mem_range.2 h)
  simp only [Bool.and_eq_true, decide_eq_true_eq] at this
  rw [cod_eq]
  exact ⟨this.1.1.1, this.1.1.2, this.1.2, this.2⟩
theorem pos_first (l : List Int) (x : Int) : ∀ (i : Nat) (z : Int), i < l.idxOf x → l[i]? = some z → z ≠ x := by
  induction l with
  | nil => intro i z _ hz; simp at hz
  | cons a r ih =>
    intro i z h hz
    rw [List.idxOf_cons] at h
    by_cases ha : a = x
    · simp [ha] at h
    · cases i with
      | zero => simp at hz; subst hz; exact ha
      | succ i =>
        have : (a == x) = false := by simpa using ha
        simp [this] at h
        exact ih i z h (by simpa using hz)
end Hf
open Go.RowKit

set_option maxHeartbeats 1000000 in
theorem rplace_any (v0 v1 v2 : Value) (x : Nat) (hx : x < 257) (w : World) (B : Nat) (h0 : Own w B v0 Hf.ordsL) :
    Calls Tryz.prog 95 #[.agg #[v0, v1, v2], .int .i64 (x : Int)] w fun e w' => e = .returned (.int .i64 (Hf.pos x : Int)) ∧ Below w.heap.size w w' := by
  obtain ⟨g, cap, rfl⟩ := h0.at (fun e => by have := Hf.ordsL_length; rw [e] at this; simp at this)
  rw [Hf.ordsL_length]
  rw [Hf.ordsL_length] at h0
  obtain ⟨p1, _, _, p4⟩ := Hf.pos_at x hx
  obtain ⟨p, hp⟩ : ∃ p, Hf.pos x = p := ⟨_, rfl⟩
  have HP := hid' hp
  have HO := hid' h0
  rw [hp] at p1 p4
  have HP1 := hid' p1
  clear hp p1 h0
  go_enter Tryz.func95, Tryz.ntmps95
  go_wp2_with (refine wpl_box 138 _ rfl rfl #[.slice (some ⟨g, 0, none⟩) 257 cap, v1, v2] (by kernel_rfl) ?_)
  intro b w1 hb ha hl
  have HO1 := hid' (HO.out.below hl)
  have HB := hid' hl
  have hc0 : w1.cell? ⟨b, 0, none⟩ = some (.slice (some ⟨g, 0, none⟩) 257 cap) := ha.cell 0 _ rfl
  clear hb ha hl HO
  go_wp2
  go_loopw [5] (fun s wr => ∃ k : Nat, s = .int .i64 (k : Int) ∧ k ≤ p ∧ w1 = wr) (fun s _ => 257 - (intOf s).toNat)
  case atStart => exact ⟨0, rfl, Nat.zero_le _, rfl⟩
  case round =>
    obtain ⟨k, rfl, hk, rfl⟩ := hrel
    have hk2 : (k : Int) < 257 := by omega
    by_cases hkp : k = p
    · subst hkp
      have hc1 := HO1.out.val k _ HP1.out
      go_wp2
      go_ret
      refine ⟨?_, HB.out⟩
      rw [HP.out]; rfl
    · obtain ⟨z, hz⟩ : ∃ z, Hf.ordsL[k]? = some z := ⟨_, List.getElem?_eq_getElem (by rw [Hf.ordsL_length]; omega)⟩
      have hzx := Hf.pos_first Hf.ordsL (x : Int) k z (by have := HP.out; unfold Hf.pos at this; omega) hz
      have hc1 := HO1.out.val k _ hz
      have hzx2 : (z == (x : Int)) = false := by simpa using hzx
      clear hz hzx
      go_wp2
      go_roundw
      case rel => exact ⟨k + 1, by go_num, by omega, by first | rfl | trivial⟩
      case measure => simp [intOf]; omega

end Go.Proofs.YtmkkhfkfjmfdcaaGreat

namespace Go.Proofs.YtmkkhfkfjmfdcaaGreat
open Go.RowKit

/-- Bits as bytes of 0 and 1. -/
def bcells (l : List Bool) : List Value := l.map fun b => .int .u8 (b.toNat : Int)
theorem bcells_length (l : List Bool) : (bcells l).length = l.length := by simp [bcells]
theorem bcells_snoc (l : List Bool) (b : Bool) : bcells (l ++ [b]) = bcells l ++ [.int .u8 (b.toNat : Int)] := by simp [bcells]
theorem grown_below8 {w w' : World} {B n : Nat} {e : TypeId} {v : Value} {xs : List Value} (h : w.ownsRow B e 1 v n xs) (hg : w.grownBy w' v.ownBlock) (hB : B ≤ w.heap.size) : Below B w w' :=
  ⟨hg.os, hg.tape, hg.output, hg.size, fun k hk => hg.block k (by omega) (fun e => by have := (World.ownsRow.lt h k e.symm).1; omega)⟩
theorem owns_below {w w' : World} {B n : Nat} {e : TypeId} {v : Value} {xs : List Value} (h : w.ownsRow B e 1 v n xs) (hb : Below w.heap.size w w') : w'.ownsRow B e 1 v n xs :=
  World.ownsRow.kept h (row := none) ⟨hb.os, hb.tape, hb.output, hb.size, fun k hk _ => hb.block k hk⟩ (by cases hv : v.ownBlock <;> simp)
theorem owns_lower {w : World} {B B' n : Nat} {e : TypeId} {v : Value} {xs : List Value} (h : w.ownsRow B e 1 v n xs) (hb : B' ≤ B) : w.ownsRow B' e 1 v n xs := by
  refine ⟨h.1, ?_⟩
  rcases h.2 with hn | ⟨g, cap, cur, hv, hB, rest⟩
  · exact .inl hn
  · exact .inr ⟨g, cap, cur, hv, by omega, rest⟩
theorem own_keep {w w' : World} {B B' : Nat} {v : Value} {l : List Int} (h : Own w B v l) (hb : Below B' w w') (hv : ∀ k, v.ownBlock = some k → k < B') : Own w' B v l := by
  refine ⟨⟨h.1.1, ?_⟩, h.2⟩
  rcases h.1.2 with hn | ⟨g, cap, cur, hv', hB, hg, rest⟩
  · exact .inl hn
  · subst hv'
    exact .inr ⟨g, cap, cur, rfl, hB, by rw [hb.block g (hv g rfl)]; exact hg, rest⟩
theorem own_lt {w : World} {B : Nat} {v : Value} {l : List Int} (h : Own w B v l) : ∀ k, v.ownBlock = some k → k < w.heap.size := fun k hk => (World.ownsRow.lt h.1 k hk).2

/-- What the loops of 'bits' keep: the code in block b, its slices, all ahead of Bo. -/
structure Kept (w0 w : World) (Bo b g0 g1 g2 c0 c1 c2 : Nat) : Prop where
  at3 : Ar w b 138 #[.slice (some ⟨g0, 0, none⟩) 257 c0, .slice (some ⟨g1, 0, none⟩) 257 c1, .slice (some ⟨g2, 0, none⟩) 257 c2]
  o0 : Own w w0.heap.size (.slice (some ⟨g0, 0, none⟩) 257 c0) Hf.ordsL
  o1 : Own w w0.heap.size (.slice (some ⟨g1, 0, none⟩) 257 c1) Hf.oLen
  o2 : Own w w0.heap.size (.slice (some ⟨g2, 0, none⟩) 257 c2) Hf.oCod
  be : Below w0.heap.size w0 w
  lb : b < Bo
  l0 : g0 < Bo
  l1 : g1 < Bo
  l2 : g2 < Bo
  sz : Bo ≤ w.heap.size
  s0 : w0.heap.size ≤ Bo
theorem Kept.below {w0 w w' : World} {Bo b g0 g1 g2 c0 c1 c2 : Nat} (h : Kept w0 w Bo b g0 g1 g2 c0 c1 c2) (hb : Below Bo w w') : Kept w0 w' Bo b g0 g1 g2 c0 c1 c2 :=
  ⟨h.at3.below hb h.lb, own_keep h.o0 hb (fun k e => by simp [Value.ownBlock] at e; subst e; exact h.l0), own_keep h.o1 hb (fun k e => by simp [Value.ownBlock] at e; subst e; exact h.l1), own_keep h.o2 hb (fun k e => by simp [Value.ownBlock] at e; subst e; exact h.l2),
    h.be.trans (hb.mono h.s0), h.lb, h.l0, h.l1, h.l2, Nat.le_trans h.sz hb.size, h.s0⟩
theorem Kept.drew {w0 w : World} {Bo b g0 g1 g2 c0 c1 c2 : Nat} (h : Kept w0 w Bo b g0 g1 g2 c0 c1 c2) : Kept w0 w.drew Bo b g0 g1 g2 c0 c1 c2 := h.below (Below.refl _ _).drew
/-- The code, laid into a variable of the caller's. -/
theorem kept_start {w w1 w2 w3 : World} {b : Nat} {v0 v1 v2 : Value} (h0 : Own w1 w.heap.size v0 Hf.ordsL) (h1 : Own w1 w.heap.size v1 Hf.oLen) (h2 : Own w1 w.heap.size v2 Hf.oCod) (hl1 : Below w.heap.size w w1)
    (hb : w1.heap.size ≤ b) (hl2 : Below w1.heap.size w1 w2) (ha3 : Ar w3 b 138 #[v0, v1, v2]) (hu : Upd b w2 w3) :
    ∃ g0 g1 g2 c0 c1 c2, v0 = .slice (some ⟨g0, 0, none⟩) 257 c0 ∧ v1 = .slice (some ⟨g1, 0, none⟩) 257 c1 ∧ v2 = .slice (some ⟨g2, 0, none⟩) 257 c2 ∧ Kept w w3 w3.heap.size b g0 g1 g2 c0 c1 c2 := by
  have n0 : Hf.ordsL ≠ [] := fun e => by have := Hf.ordsL_length; rw [e] at this; simp at this
  have n1 : Hf.oLen ≠ [] := fun e => by have := Hf.oLen_length; rw [e] at this; simp at this
  have n2 : Hf.oCod ≠ [] := fun e => by have := Hf.oCod_length; rw [e] at this; simp at this
  obtain ⟨g0, c0, rfl⟩ := h0.at n0
  obtain ⟨g1, c1, rfl⟩ := h1.at n1
  obtain ⟨g2, c2, rfl⟩ := h2.at n2
  rw [Hf.ordsL_length] at h0 ha3
  rw [Hf.oLen_length] at h1 ha3
  rw [Hf.oCod_length] at h2 ha3
  have hbe : Below w1.heap.size w1 w3 := hl2.trans (hu.below hb)
  have s := hbe.size
  have s0 := hl1.size
  refine ⟨g0, g1, g2, c0, c1, c2, by rw [Hf.ordsL_length], by rw [Hf.oLen_length], by rw [Hf.oCod_length], ha3, h0.below hbe, h1.below hbe, h2.below hbe, below_two hl1 hbe, ha3.lt, ?_, ?_, ?_, Nat.le_refl _, by omega⟩
  · have := own_lt h0 g0 rfl; omega
  · have := own_lt h1 g1 rfl; omega
  · have := own_lt h2 g2 rfl; omega

set_option maxHeartbeats 2000000 in
set_option maxRecDepth 100000 in
theorem rbits_any (s : ByteArray) (hs : s.size ≤ 2147483648) (w : World) : Calls Tryz.prog 84 #[.string s] w fun e w' => ∃ v, e = .returned v ∧ w'.ownsRow w.heap.size 5 1 v (Hf.bits s.data.toList).length (bcells (Hf.bits s.data.toList)) ∧ Below w.heap.size w w' := by
  obtain ⟨i0, hi, hz0, hz1, hz2⟩ := info_parts infoByte
  have HI := hid' hi
  have HZ0 := hid' hz0
  have HZ1 := hid' hz1
  have HZ2 := hid' hz2
  clear hi hz0 hz1 hz2
  go_enter Tryz.func84, Tryz.ntmps84
  go_wp2_with fail
  refine (rcodes_any _).mono ?_
  rintro e w1 ⟨v0, v1, v2, rfl, ho0, ho1, ho2, hl1⟩
  go_wp2_with (refine wpl_alloc 138 rfl rfl _ zeroCode ?_)
  intro b w2 hb ha2 hl2
  refine wpl_store 138 _ _ rfl rfl b #[v0, v1, v2] (by kernel_rfl) (by kernel_rfl) _ _ ha2 (by exact sizeCode) rfl (by obtain ⟨_, _, rfl⟩ := ho0.shape; obtain ⟨_, _, rfl⟩ := ho1.shape; obtain ⟨_, _, rfl⟩ := ho2.shape; simp [Value.oneCell']) ?_
  intro w3 ha3 hu3
  obtain ⟨g0, g1, g2, c0, c1, c2, rfl, rfl, rfl, hkept⟩ := kept_start ho0 ho1 ho2 hl1 hb hl2 ha3 hu3
  obtain ⟨Bo, hBo⟩ : ∃ Bo, w3.heap.size = Bo := ⟨_, rfl⟩
  rw [hBo] at hkept
  have HK := hid' hkept
  clear ho0 ho1 ho2 hl1 hb ha2 hl2 ha3 hu3 hkept hBo
  go_wp2
  go_loopw [5, 4] (fun s5 ov wr => ∃ k : Nat, s5 = .int .i64 (k : Int) ∧ k ≤ s.size ∧ Hid (wr.ownsRow Bo 5 1 ov (Hf.bits (s.data.toList.take k)).length (bcells (Hf.bits (s.data.toList.take k)))) ∧ Hid (Kept w wr Bo b g0 g1 g2 c0 c1 c2)) (fun s5 _ _ => s.size - (intOf s5).toNat)
  case atStart => exact ⟨0, rfl, Nat.zero_le _, hid' (World.ownsRow_nil _ _ _ _), HK⟩
  case round =>
    clear HK
    obtain ⟨k, rfl, hk, HO, HK⟩ := hrel
    by_cases hlt : k < s.size
    · have hl : k < s.data.toList.length := by rw [← Lib.size_eq]; exact hlt
      obtain ⟨x, hx⟩ : ∃ x : UInt8, s[k] = x := ⟨_, rfl⟩
      have hxl : s.data.toList[k] = x := hx
      have x256 := UInt8.toNat_lt x
      have x257 : x.toNat < 257 := by omega
      have q0 := HK.out.at3.cell 0 _ rfl
      have q1 := HK.out.at3.cell 1 _ rfl
      have q2 := HK.out.at3.cell 2 _ rfl
      have HO0 := hid' HK.out.drew.o0
      go_wp2
      have hxw : IntKind.i64.wrap (x.toNat : Int) = (x.toNat : Int) := by rw [IntKind.wrap_i64]; omega
      go_region_with (go_at_call 95; (try rw [hxw]); refine (rplace_any _ _ _ x.toNat x257 _ w.heap.size HO0.out).mono ?_; rintro e w4 ⟨rfl, hb4⟩)
      all_goals
        obtain ⟨p1, p2, p3, p4⟩ := Hf.pos_at x.toNat x257
        obtain ⟨r1, r2, r3, r4⟩ := Hf.o_at _ p4
        rw [p2] at r1 r3
        rw [p3] at r2 r4
        obtain ⟨len0, len5, len30⟩ := Hf.len_at x.toNat x257
        obtain ⟨p, hp⟩ : ∃ p, Hf.pos x.toNat = p := ⟨_, rfl⟩
        rw [hp] at r3 r4 p4
        obtain ⟨q, hq⟩ : ∃ q, Hf.lenN x.toNat = q := ⟨_, rfl⟩
        obtain ⟨c, hc⟩ : ∃ c, Hf.codN x.toNat = c := ⟨_, rfl⟩
        rw [hq] at r3 r1 len5
        rw [hc] at r2 r4
        have HK4 := hid' ((HK.out.drew).below (hb4.mono HK.out.sz))
        have HO4 := hid' (owns_below (w := wr.drew) HO.out hb4)
        have t1 := HK4.out.at3.cell 1 _ rfl
        have t2 := HK4.out.at3.cell 2 _ rfl
        have t3 := HK4.out.o1.val p _ r3
        have t4 := HK4.out.o2.val p _ r4
        have hp257 : (p : Int) < 257 := by omega
        have HW : Hid (Hf.bits (s.data.toList.take (k + 1)) = Hf.bits (s.data.toList.take k) ++ Hf.bitsN q c) := hid' (by
          rw [Hf.take_snoc _ k hl, hxl, Hf.bits_append]
          have : Hf.bits [x] = Hf.word x.toNat := by simp [Hf.bits]
          rw [this, Hf.word, hq, hc])
        have HP4 : Hid (Hf.oCod[p]? = some (c : Int)) := hid' r4
        rw [hp]
        clear hb4 HK HO HO0 q0 q1 q2 r3 r4 len0 hp hq hc hxl p1 p2 p3
        go_wp2
        go_loopw [7, 4] (fun s7 ov wr => ∃ (j : Nat) (sh : Int), s7 = .int .i64 sh ∧ Hid (sh = (j : Int) - 1 ∧ j ≤ q) ∧ Hid (∃ ob, ob ++ Hf.bitsN j c = Hf.bits (s.data.toList.take (k + 1)) ∧ wr.ownsRow Bo 5 1 ov ob.length (bcells ob)) ∧ Hid (Kept w wr Bo b g0 g1 g2 c0 c1 c2)) (fun s7 _ _ => (intOf s7 + 1).toNat)
        case atStart => exact ⟨q, (q : Int) - 1, rfl, hid' ⟨rfl, Nat.le_refl _⟩, hid' ⟨_, HW.out.symm, HO4.out⟩, HK4⟩
        case round =>
          clear HO4 HK4 t1 t2 t3 t4
          obtain ⟨j, sh, rfl, HJ, HO, HK⟩ := hrel
          cases j with
          | zero =>
            obtain rfl : sh = -1 := by have := HJ.out; omega
            go_wp2
            go_roundw
            case rel =>
              obtain ⟨ob, h1, h2⟩ := HO.out
              have e : ob = Hf.bits (s.data.toList.take (k + 1)) := by simpa [Hf.bitsN] using h1
              subst e
              exact ⟨k + 1, by go_num, by omega, hid' h2, HK⟩
            case measure => simp [intOf]; omega
          | succ j =>
            obtain rfl : sh = (j : Int) := by have := HJ.out; omega
            have hjq : j < q := by have := HJ.out; omega
            have q2 := HK.out.at3.cell 2 _ rfl
            have q4 := HK.out.o2.val p _ HP4.out
            go_wp2
            go_loopw [8, 9] (fun s8 s9 wx => ∃ i y : Nat, s8 = .int .i64 (y : Int) ∧ s9 = .int .i64 (i : Int) ∧ i ≤ j ∧ Hid (y = c / 2 ^ i) ∧ wr = wx) (fun _ s9 _ => j - (intOf s9).toNat)
            case atStart => exact ⟨0, c, rfl, rfl, Nat.zero_le _, hid' (by simp), rfl⟩
            case round =>
              obtain ⟨i, y, rfl, rfl, hij, HY, rfl⟩ := hrel
              have hyc : y ≤ c := by rw [HY.out]; exact Nat.div_le_self _ _
              by_cases hij2 : i < j
              · have hij3 : (i : Int) < (j : Int) := by omega
                obtain ⟨z, hz⟩ : ∃ z, y / 2 = z := ⟨_, rfl⟩
                have hzt : (y : Int).tdiv 2 = (z : Int) := by rw [Int.tdiv_eq_ediv_of_nonneg (by omega)]; omega
                have hze : (y : Int) / 2 = (z : Int) := by omega
                have HZZ := hid' hz
                clear hz
                go_wp2
                go_roundw
                case rel => exact ⟨i + 1, z, rfl, by go_num, by omega, hid' (by rw [← HZZ.out, HY.out, Nat.div_div_eq_div_mul, Nat.pow_succ]), by first | rfl | trivial⟩
                case measure => simp [intOf]; omega
              · have hij3 : (j : Int) ≤ (i : Int) := by omega
                obtain rfl : i = j := by omega
                obtain ⟨bt, hbt⟩ : ∃ bt : Bool, (c / 2 ^ i % 2 == 1) = bt := ⟨_, rfl⟩
                have hb01 : (bt.toNat : Int) = (y : Int) % 2 := by
                  have h1 := Hf.beq_bit (c / 2 ^ i % 2) (by omega)
                  rw [hbt, ← HY.out] at h1
                  omega
                have hrm : (y : Int).tmod 2 = (bt.toNat : Int) := by rw [Int.tmod_eq_emod_of_nonneg (by omega)]; omega
                have hrm2 : (y : Int) % 2 = (bt.toNat : Int) := hb01.symm
                have hbn : bt.toNat ≤ 1 := by cases bt <;> simp
                obtain ⟨z, hz⟩ : ∃ z : Nat, bt.toNat = z := ⟨_, rfl⟩
                rw [hz] at hrm hrm2 hbn
                obtain ⟨ob, n0, xs, HOB, HON, HOX, HOW⟩ : ∃ ob n0 xs, Hid (ob ++ Hf.bitsN (i + 1) c = Hf.bits (s.data.toList.take (k + 1))) ∧ Hid (ob.length = n0) ∧ Hid (bcells ob = xs) ∧ Hid (wr.ownsRow Bo 5 1 u4 n0 xs) := by
                  obtain ⟨ob, h1, h2⟩ := HO.out
                  exact ⟨ob, _, _, hid' h1, hid' rfl, hid' rfl, hid' h2⟩
                have hn0 : n0 ≤ 64424509440 := by
                  have h1 := congrArg List.length HOB.out
                  rw [List.length_append, Hf.bits_length, HON.out] at h1
                  have h2 := (Hf.nbits_le (s.data.toList.take (k + 1))).2
                  rw [List.length_take, ← Lib.size_eq] at h2
                  omega
                have HBT := hid' hbt
                have HZ := hid' hz
                clear hbt hb01 hz HY hyc q2 q4 HO
                go_wp2_with (at_builtin; refine wpList_append_own _ rfl _ _ 57 rfl Bo 5 i0 (.int .u8 0) 1 1 Tryz.underlying57 HI.out HZ0.out HZ1.out HZ2.out rfl (by decide) _ _ _ rfl (World.ownsRow.alloc HOW.out _) ⟨wr.heap.size, 0, none⟩ 1 1 [.int .u8 (z : Int)] rfl rfl (one_new _ _ _) (fun u hu => by simp at hu; subst hu; rfl) ?a1 ?a2 ?a3 ?_)
                case a1 => unfold maxLen; omega
                case a2 => omega
                case a3 => have := HK.out.sz; simp; omega
                intro vx w5 hown hgrow _
                have HK5 := hid' (HK.out.below (grown_below8 HOW.out (grown_alloc hgrow) HK.out.sz))
                have HO5 : Hid (∃ ob, ob ++ Hf.bitsN i c = Hf.bits (s.data.toList.take (k + 1)) ∧ w5.ownsRow Bo 5 1 vx ob.length (bcells ob)) := hid' (by
                  refine ⟨ob ++ [bt], ?_, ?_⟩
                  · rw [← HOB.out, Hf.bitsN, HBT.out]; simp
                  · rw [bcells_snoc, HOX.out, HZ.out, List.length_append, HON.out]; exact hown)
                clear hown hgrow
                go_wp2
                go_roundw
                case rel => exact ⟨i, (i : Int) - 1, by go_num, hid' ⟨rfl, by omega⟩, HO5, HK5⟩
                case measure => simp [intOf] <;> omega
    · have hk' : k = s.size := by omega
      have ht : s.data.toList.take k = s.data.toList := by rw [hk']; exact List.take_of_length_le (by rw [← Lib.size_eq]; exact Nat.le_refl _)
      rw [ht] at HO
      clear ht
      go_wp2
      go_ret
      exact ⟨_, rfl, owns_lower HO.out HK.out.s0, HK.out.be⟩

end Go.Proofs.YtmkkhfkfjmfdcaaGreat

namespace Go.Proofs.YtmkkhfkfjmfdcaaGreat
namespace Hf
theorem val_snoc (l : List Bool) (b : Bool) : val (l ++ [b]) = 2 * val l + b.toNat := by
  rw [val_append]; simp [val, valF]; omega
theorem pk_eight_more (L : List Bool) (m : Nat) (h : 8 * m + 8 ≤ L.length) : pk (L.take (8 * (m + 1))) = pk (L.take (8 * m)) ++ [UInt8.ofNat (val ((L.drop (8 * m)).take 8))] := by
  have h1 : L.take (8 * (m + 1)) = L.take (8 * m) ++ (L.drop (8 * m)).take 8 := by rw [show 8 * (m + 1) = 8 * m + 8 by omega, List.take_add]
  rw [h1, pk_append m _ _ (by rw [List.length_take]; omega), pk_eight ((L.drop (8 * m)).take 8) (by rw [List.length_take, List.length_drop]; omega)]
end Hf
open Go.RowKit

theorem str_nil (w : World) : (convert 57 9 (.slice none 0 0)).run Tryz.prog w = .ok (.string ⟨#[]⟩) w := by kernel_rfl
theorem own_str {w : World} {B n : Nat} {v : Value} {l : List UInt8} (h : w.ownsRow B 5 1 v n (Lib.byteCells l)) (hn : l.length = n) : (convert 57 9 v).run Tryz.prog w = .ok (.string ⟨l.toArray⟩) w := by
  subst hn
  rcases h.2 with ⟨rfl, hn⟩ | ⟨g, cap, cur, rfl, _⟩
  · obtain rfl := List.eq_nil_of_length_eq_zero hn
    exact str_nil w
  · refine run_convert_bytes_back w _ _ 5 ⟨g, 0, none⟩ cap l Tryz.underlying57 Tryz.underlying5 Tryz.underlying9 fun j hj => ?_
    exact h.cells (g := g) rfl j _ (by rw [Lib.byteCells, List.getElem?_map, List.getElem?_eq_getElem hj]; rfl)
theorem owns_shape {w : World} {B n : Nat} {e : TypeId} {v : Value} {xs : List Value} (h : w.ownsRow B e 1 v n xs) : ∃ ao cap, v = .slice ao n cap := by
  rcases h.2 with ⟨hv, h0⟩ | ⟨g, cap, cur, hv, _⟩
  · exact ⟨none, 0, by rw [hv, h0]⟩
  · exact ⟨_, _, hv⟩
theorem owns_keep {w w' : World} {B B' n : Nat} {e : TypeId} {v : Value} {xs : List Value} (h : w.ownsRow B e 1 v n xs) (hb : Below B' w w') (hv : ∀ k, v.ownBlock = some k → k < B') : w'.ownsRow B e 1 v n xs := by
  refine ⟨h.1, ?_⟩
  rcases h.2 with hn | ⟨g, cap, cur, hv', hB, hg, rest⟩
  · exact .inl hn
  · subst hv'
    exact .inr ⟨g, cap, cur, rfl, hB, by rw [hb.block g (hv g rfl)]; exact hg, rest⟩

set_option maxHeartbeats 2000000 in
set_option maxRecDepth 100000 in
theorem rencode_any (s : ByteArray) (hs : s.size ≤ 2147483648) (w : World) : Calls Tryz.prog 67 #[.string s] w fun e w' => e = .returned (.string ⟨(Hf.enc s.data.toList).toArray⟩) ∧ Below w.heap.size w w' := by
  obtain ⟨i0, hi, hz0, hz1, hz2⟩ := info_parts infoByte
  have HI := hid' hi
  have HZ0 := hid' hz0
  have HZ1 := hid' hz1
  have HZ2 := hid' hz2
  clear hi hz0 hz1 hz2
  obtain ⟨bs, hbs⟩ : ∃ bs, Hf.bits s.data.toList = bs := ⟨_, rfl⟩
  have hbl : bs.length ≤ 64424509440 := by
    have := (Hf.nbits_le s.data.toList).2
    rw [← Lib.size_eq] at this
    rw [← hbs, Hf.bits_length]; omega
  have HBS := hid' hbs
  have HP := hid' (Hf.pad_le bs.length)
  go_enter Tryz.func67, Tryz.ntmps67
  go_wp2_with fail
  refine (rbits_any s hs _).mono ?_
  rintro e w1 ⟨v, rfl, hown, hl1⟩
  rw [hbs] at hown
  clear hbs
  have HO1 := hid' hown
  have HB1 := hid' hl1
  clear hown hl1
  go_wp2
  go_loopw [3] (fun s3 wr => ∃ n0 : Nat, ∃ ao cap, s3 = .slice ao n0 cap ∧ n0 ≤ 64424509447 ∧ Hid (∃ q, n0 = bs.length + q ∧ q ≤ Hf.pad bs.length ∧ wr.ownsRow w.heap.size 5 1 s3 n0 (bcells (bs ++ Hf.ones q))) ∧ Hid (Below w.heap.size w wr)) (fun s3 _ => match s3 with | .slice _ n _ => (8 - n % 8) % 8 | _ => 0)
  case atStart =>
    obtain ⟨ao, cap, hv⟩ := owns_shape HO1.out
    exact ⟨bs.length, ao, cap, hv, by omega, hid' ⟨0, by omega, Nat.zero_le _, by simpa [Hf.ones] using HO1.out⟩, HB1⟩
  case round =>
    clear HO1 HB1
    obtain ⟨n0, ao, cap, rfl, hn0, HQ, HB⟩ := hrel
    obtain ⟨r, hr⟩ : ∃ r, n0 % 8 = r := ⟨_, rfl⟩
    have hr1 : (n0 : Int) % 8 = (r : Int) := by omega
    have hr2 : (n0 : Int).tmod 8 = (r : Int) := by rw [Int.tmod_eq_emod_of_nonneg (by omega)]; omega
    have HR := hid' hr
    clear hr
    by_cases hr0 : r = 0
    · subst hr0
      obtain ⟨L, hL⟩ : ∃ L, bs ++ Hf.ones (Hf.pad bs.length) = L := ⟨_, rfl⟩
      have HL : Hid (L.length = n0 ∧ wr.ownsRow w.heap.size 5 1 (.slice ao n0 cap) n0 (bcells L) ∧ Hf.enc s.data.toList = Hf.pk L ∧ ∃ M, n0 = 8 * M) := hid' (by
        obtain ⟨q, h1, h2, h3⟩ := HQ.out
        have h4 := HR.out
        have hp := HP.out
        have e : q = Hf.pad bs.length := by unfold Hf.pad at h2 hp ⊢; omega
        subst e
        rw [hL] at h3
        refine ⟨by rw [← hL, List.length_append, Hf.ones_length]; omega, h3, by rw [Hf.enc, HBS.out, hL], n0 / 8, by omega⟩)
      obtain ⟨Bo, hBo⟩ : ∃ Bo, wr.heap.size = Bo := ⟨_, rfl⟩
      have HLB : Hid (∀ k, (Value.slice ao n0 cap).ownBlock = some k → k < Bo) := hid' (fun k e => by rw [← hBo]; exact (World.ownsRow.lt HL.out.2.1 k e).2)
      have HB2 : Hid (Below w.heap.size w wr ∧ w.heap.size ≤ Bo ∧ Bo ≤ wr.heap.size) := hid' ⟨HB.out, by rw [← hBo]; exact HB.out.size, by omega⟩
      have hr5 : (n0 : Int) % 8 = 0 := by have := HR.out; omega
      have hr6 : (n0 : Int).tmod 8 = 0 := by rw [Int.tmod_eq_emod_of_nonneg (by omega)]; exact hr5
      clear hL hBo HQ HB hr1 hr2 HR
      go_wp2
      clear hr5 hr6
      go_loopw [5, 4] (fun s5 ov wr => ∃ i : Nat, s5 = .int .i64 (i : Int) ∧ i ≤ n0 ∧ Hid (∃ m, i = 8 * m ∧ wr.ownsRow Bo 5 1 ov m (Lib.byteCells (Hf.pk (L.take (8 * m))))) ∧ Hid (wr.ownsRow w.heap.size 5 1 (.slice ao n0 cap) n0 (bcells L)) ∧ Hid (Below w.heap.size w wr ∧ w.heap.size ≤ Bo ∧ Bo ≤ wr.heap.size)) (fun s5 _ _ => n0 - (intOf s5).toNat)
      case atStart => exact ⟨0, rfl, Nat.zero_le _, hid' ⟨0, rfl, World.ownsRow_nil _ _ _ _⟩, hid' HL.out.2.1, HB2⟩
      case round =>
        clear HB2
        obtain ⟨i, rfl, hin, HM, HRL, HB⟩ := hrel
        by_cases hlt : i < n0
        · have hlt2 : (i : Int) < (n0 : Int) := by omega
          have hi8 : i + 8 ≤ n0 := by obtain ⟨m, hm, _⟩ := HM.out; obtain ⟨_, _, _, M, hM⟩ := HL.out; omega
          obtain ⟨g, rfl⟩ : ∃ g, ao = some ⟨g, 0, none⟩ := by
            rcases HRL.out.2 with ⟨hv, h0⟩ | ⟨g, _, _, hv, _⟩
            · omega
            · exact ⟨g, by simp at hv; exact hv.1⟩
          go_wp2
          go_loopw [6, 7] (fun s6 s7 wx => ∃ y kk : Nat, s6 = .int .u8 (y : Int) ∧ s7 = .int .i64 (kk : Int) ∧ kk ≤ 8 ∧ Hid (y = Hf.val ((L.drop i).take kk)) ∧ wr = wx) (fun _ s7 _ => 8 - (intOf s7).toNat)
          case atStart => exact ⟨0, 0, rfl, rfl, by omega, hid' (by simp [Hf.val, Hf.valF]), rfl⟩
          case round =>
            obtain ⟨y, kk, rfl, rfl, hkk, HY, rfl⟩ := hrel
            by_cases hk8 : kk < 8
            · have hk9 : (kk : Int) < 8 := by omega
              obtain ⟨j, hj⟩ : ∃ j : Nat, (i : Int) + (kk : Int) = (j : Int) := ⟨i + kk, by omega⟩
              have hjn : (j : Int) < (n0 : Int) := by omega
              have hjl : j < L.length := by rw [HL.out.1]; omega
              obtain ⟨bt, hbt⟩ : ∃ bt, L[j]? = some bt := ⟨_, List.getElem?_eq_getElem hjl⟩
              obtain ⟨z, hz⟩ : ∃ z, bt.toNat = z := ⟨_, rfl⟩
              have hz1' : z ≤ 1 := by rw [← hz]; cases bt <;> simp
              have hcl : wr.cell? ⟨g, j, none⟩ = some (.int .u8 (z : Int)) := by
                have := HRL.out.cells (g := g) rfl j (.int .u8 (bt.toNat : Int)) (by rw [bcells, List.getElem?_map, hbt]; rfl)
                have hadd : (⟨g, 0, none⟩ : Addr).add j = ⟨g, j, none⟩ := by unfold Addr.add; split <;> simp_all
                rw [hadd, hz] at this; exact this
              have hy7 : y < 128 := by
                have h1 := Hf.val_lt ((L.drop i).take kk)
                rw [← HY.out] at h1
                have h2 : ((L.drop i).take kk).length ≤ 7 := by rw [List.length_take]; omega
                have h3 : 2 ^ ((L.drop i).take kk).length ≤ 2 ^ 7 := Nat.pow_le_pow_right (by omega) h2
                omega
              have HY2 : Hid (2 * y + z = Hf.val ((L.drop i).take (kk + 1))) := hid' (by
                have e : (L.drop i)[kk]? = some bt := by rw [List.getElem?_drop, show i + kk = j by omega, hbt]
                rw [List.take_add_one, e, Option.toList, Hf.val_snoc, ← HY.out, hz])
              clear hbt hz hjl
              go_wp2
              go_roundw
              case rel => exact ⟨2 * y + z, kk + 1, by go_num, by go_num, by omega, HY2, by first | rfl | trivial⟩
              case measure => simp [intOf]; omega
            · obtain rfl : kk = 8 := by omega
              have hy8 : y < 256 := by
                have h1 := Hf.val_lt ((L.drop i).take 8)
                rw [← HY.out] at h1
                have h2 : ((L.drop i).take 8).length ≤ 8 := by rw [List.length_take]; omega
                have h3 : 2 ^ ((L.drop i).take 8).length ≤ 2 ^ 8 := Nat.pow_le_pow_right (by omega) h2
                omega
              obtain ⟨m, xs, HMM, HXS, HOW⟩ : ∃ m xs, Hid (i = 8 * m) ∧ Hid (Lib.byteCells (Hf.pk (L.take (8 * m))) = xs) ∧ Hid (wr.ownsRow Bo 5 1 u4 m xs) := by
                obtain ⟨m, h1, h2⟩ := HM.out
                exact ⟨m, _, hid' h1, hid' rfl, hid' h2⟩
              have hmm : m ≤ 64424509447 := by have := HMM.out; omega
              clear HM
              go_wp2_with (at_builtin; refine wpList_append_own _ rfl _ _ 57 rfl Bo 5 i0 (.int .u8 0) 1 1 Tryz.underlying57 HI.out HZ0.out HZ1.out HZ2.out rfl (by decide) _ _ _ rfl (World.ownsRow.alloc HOW.out _) ⟨wr.heap.size, 0, none⟩ 1 1 [.int .u8 (y : Int)] rfl rfl (one_new _ _ _) (fun u hu => by simp at hu; subst hu; rfl) ?a1 ?a2 ?a3 ?_)
              case a1 => unfold maxLen; omega
              case a2 => omega
              case a3 => have := HB.out.2.2; simp; omega
              intro vx w5 hown hgrow _
              have hbe := grown_below8 HOW.out (grown_alloc hgrow) HB.out.2.2
              have HM5 : Hid (∃ m, i + 8 = 8 * m ∧ w5.ownsRow Bo 5 1 vx m (Lib.byteCells (Hf.pk (L.take (8 * m))))) := hid' (by
                refine ⟨m + 1, by have := HMM.out; omega, ?_⟩
                have hm := HMM.out
                rw [Hf.pk_eight_more L m (by rw [HL.out.1]; omega), ← hm, ← HY.out]
                have e : Lib.byteCells (Hf.pk (L.take i) ++ [UInt8.ofNat y]) = xs ++ [.int .u8 (y : Int)] := by
                  rw [← HXS.out, hm]
                  simp only [Lib.byteCells, List.map_append, List.map_cons, List.map_nil, UInt8.toNat_ofNat']
                  rw [Nat.mod_eq_of_lt (by omega)]
                rw [e]; exact hown)
              have HR5 := hid' (owns_keep HRL.out hbe HLB.out)
              have HB5 : Hid (Below w.heap.size w w5 ∧ w.heap.size ≤ Bo ∧ Bo ≤ w5.heap.size) := hid' ⟨HB.out.1.trans (hbe.mono HB.out.2.1), HB.out.2.1, Nat.le_trans HB.out.2.2 hbe.size⟩
              clear hown hgrow hbe
              go_wp2
              go_roundw
              case rel => exact ⟨i + 8, by go_num, by omega, HM5, HR5, HB5⟩
              case measure => simp [intOf]; omega
        · have hie : i = n0 := by omega
          obtain ⟨m, HOW, HML⟩ : ∃ m, Hid (wr.ownsRow Bo 5 1 u4 m (Lib.byteCells (Hf.enc s.data.toList))) ∧ Hid ((Hf.enc s.data.toList).length = m) := by
            obtain ⟨m, h1, h2⟩ := HM.out
            obtain ⟨l1, l2, l3, _⟩ := HL.out
            rw [List.take_of_length_le (by omega), ← l3] at h2
            exact ⟨m, hid' h2, hid' (by have := h2.1; simpa [Lib.byteCells] using this)⟩
          have hcv := own_str HOW.out HML.out
          clear HM
          go_wp2
          go_ret
          exact ⟨rfl, HB.out.1⟩
    · have hr3 : ((r : Int) == 0) = false := by simp; omega
      have hr4 : ((r : Int) != 0) = true := by simp; omega
      obtain ⟨q, xs, HQ1, HXS, HOW⟩ : ∃ q xs, Hid (n0 = bs.length + q ∧ q ≤ Hf.pad bs.length) ∧ Hid (bcells (bs ++ Hf.ones q) = xs) ∧ Hid (wr.ownsRow w.heap.size 5 1 (.slice ao n0 cap) n0 xs) := by
        obtain ⟨q, h1, h2, h3⟩ := HQ.out
        exact ⟨q, _, hid' ⟨h1, h2⟩, hid' rfl, hid' h3⟩
      clear HQ
      go_wp2_with (at_builtin; refine wpList_append_own _ rfl _ _ 57 rfl w.heap.size 5 i0 (.int .u8 0) 1 1 Tryz.underlying57 HI.out HZ0.out HZ1.out HZ2.out rfl (by decide) _ _ _ rfl (World.ownsRow.alloc HOW.out _) ⟨wr.heap.size, 0, none⟩ 1 1 [.int .u8 1] rfl rfl (one_new _ _ _) (fun u hu => by simp at hu; subst hu; rfl) ?a1 ?a2 ?a3 ?_)
      case a1 => unfold maxLen; omega
      case a2 => omega
      case a3 => have := HB.out.size; simp; omega
      intro vx w5 hown hgrow _
      have hbe := grown_below8 HOW.out (grown_alloc hgrow) HB.out.size
      obtain ⟨ao', cap', rfl⟩ := owns_shape hown
      have HQ5 : Hid (∃ q, n0 + 1 = bs.length + q ∧ q ≤ Hf.pad bs.length ∧ w5.ownsRow w.heap.size 5 1 (.slice ao' (n0 + 1) cap') (n0 + 1) (bcells (bs ++ Hf.ones q))) := hid' (by
        obtain ⟨h1, h2⟩ := HQ1.out
        have h3 := HR.out
        refine ⟨q + 1, by omega, by unfold Hf.pad at h2 ⊢; omega, ?_⟩
        have e : bcells (bs ++ Hf.ones (q + 1)) = xs ++ [.int .u8 1] := by
          rw [← HXS.out, Hf.ones, Hf.ones, List.replicate_succ', ← List.append_assoc, bcells_snoc]; rfl
        rw [e]; exact hown)
      have HB5 := hid' (HB.out.trans hbe)
      have hn5 : n0 + 1 ≤ 64424509447 := by obtain ⟨h1, h2⟩ := HQ1.out; have := HP.out.1; have := HR.out; unfold Hf.pad at h2; omega
      clear hown hgrow hbe
      go_wp2
      go_roundw
      case rel => exact ⟨n0 + 1, ao', cap', rfl, hn5, HQ5, HB5⟩
      case measure => have := HR.out; simp; omega

end Go.Proofs.YtmkkhfkfjmfdcaaGreat

namespace Go.Proofs.YtmkkhfkfjmfdcaaGreat
namespace Hf
def sta (n : Nat) : Nat := (stasL.getD n 0).toNat
def cntN (n : Nat) : Nat := (cnt.getD n 0).toNat
def fstN (n : Nat) : Nat := (fstsL.getD n 0).toNat
theorem sta_ok : (List.range 31).all (fun n => decide (sta n < 257) && decide (n ≤ oL (sta n)) && (decide (sta n = 0) || decide (oL (sta n - 1) < n)) && decide (sta n + cntN n ≤ 257) && decide (sta n + cntN n = 257 ∨ oL (sta n + cntN n) ≠ n)) = true := by decide +kernel
theorem sta_at (n : Nat) (h : n < 31) : sta n < 257 ∧ n ≤ oL (sta n) ∧ (sta n = 0 ∨ oL (sta n - 1) < n) ∧ sta n + cntN n ≤ 257 ∧ (sta n + cntN n = 257 ∨ oL (sta n + cntN n) ≠ n) := by
  have := List.all_eq_true.1 sta_ok n (List.mem_range.2 h)
  simp only [Bool.and_eq_true, Bool.or_eq_true, decide_eq_true_eq] at this
  obtain ⟨⟨⟨⟨h1, h2⟩, h3⟩, h4⟩, h5⟩ := this
  exact ⟨h1, h2, h3, h4, h5⟩
theorem oL_mono (a d : Nat) (h : a + d < 257) : oL a ≤ oL (a + d) := by
  induction d with
  | zero => exact Nat.le_refl _
  | succ d ih => exact Nat.le_trans (ih (by omega)) (o_next (a + d) (by omega)).1
theorem oL_ahead (n a : Nat) (hn : n < 31) (ha : a < sta n) : oL a < n := by
  obtain ⟨h1, _, h3, _⟩ := sta_at n hn
  rcases h3 with h3 | h3
  · omega
  · have := oL_mono a (sta n - 1 - a) (by omega)
    rw [show a + (sta n - 1 - a) = sta n - 1 by omega] at this
    omega
theorem run_ok : (List.range 31).all (fun n => (List.range (cntN n)).all fun j => decide (oL (sta n + j) = n) && decide (oC (sta n + j) = fstN n + j)) = true := by decide +kernel
theorem run_at (n j : Nat) (hn : n < 31) (hj : j < cntN n) : oL (sta n + j) = n ∧ oC (sta n + j) = fstN n + j := by
  have h1 := List.all_eq_true.1 run_ok n (List.mem_range.2 hn)
  have h2 := List.all_eq_true.1 h1 j (List.mem_range.2 hj)
  simpa only [Bool.and_eq_true, decide_eq_true_eq] using h2
theorem fst_pos : (List.range 31).all (fun n => decide (fstsL.getD n 0 = (fstN n : Int)) && decide (cnt.getD n 0 = (cntN n : Int)) && decide (stasL.getD n 0 = (sta n : Int))) = true := by decide +kernel
/-- The symbol of a code, by its place. -/
theorem sym_none (c n : Nat) (hn : n < 31) (h : sym c n = none) (j : Nat) (hj : j < cntN n) : fstN n + j ≠ c := by
  have h0 := List.all_eq_true.1 fst_pos n (List.mem_range.2 hn)
  simp only [Bool.and_eq_true, decide_eq_true_eq] at h0
  obtain ⟨⟨e1, e2⟩, e3⟩ := h0
  rw [sym_eq] at h
  unfold symL at h
  rw [e1, e2] at h
  intro e
  rw [if_neg (by omega)] at h
  cases h
theorem sym_some (c n x : Nat) (hn : n < 31) (h : sym c n = some x) : ∃ j, j < cntN n ∧ fstN n + j = c ∧ ordsL[sta n + j]? = some (x : Int) := by
  have h0 := List.all_eq_true.1 fst_pos n (List.mem_range.2 hn)
  simp only [Bool.and_eq_true, decide_eq_true_eq] at h0
  obtain ⟨⟨e1, e2⟩, e3⟩ := h0
  have hlt := (sta_at n hn).2.2.2.1
  rw [sym_eq] at h
  unfold symL at h
  rw [e1, e2, e3] at h
  by_cases h2 : (c : Int) - (fstN n : Int) < 0 ∨ (cntN n : Int) ≤ (c : Int) - (fstN n : Int)
  · rw [if_pos h2] at h; cases h
  · rw [if_neg h2] at h
    have hx := Option.some.inj h
    refine ⟨c - fstN n, by omega, by omega, ?_⟩
    have e : ((sta n : Int) + ((c : Int) - (fstN n : Int))).toNat = sta n + (c - fstN n) := by omega
    rw [e] at hx
    have hl : sta n + (c - fstN n) < ordsL.length := by rw [ordsL_length]; omega
    have hnn : 0 ≤ ordsL.getD (sta n + (c - fstN n)) 0 := by
      have := ords_nonneg (sta n + (c - fstN n)) (by rw [ordsL_length] at hl; exact hl)
      rw [ords_eq] at this; exact this
    rw [List.getElem?_eq_getElem hl]
    have e2 : ordsL.getD (sta n + (c - fstN n)) 0 = ordsL[sta n + (c - fstN n)]'hl := by rw [List.getD_eq_getElem?_getD, List.getElem?_eq_getElem hl]; rfl
    rw [e2] at hx hnn
    congr 1
    omega
end Hf

end Go.Proofs.YtmkkhfkfjmfdcaaGreat

namespace Go.Proofs.YtmkkhfkfjmfdcaaGreat
namespace Hf
theorem sta_more : (List.range 30).all (fun n => decide (sta n ≤ sta (n + 1))) = true := by decide +kernel
theorem sta_next (n : Nat) (h : n < 30) : sta n ≤ sta (n + 1) := of_decide_eq_true (List.all_eq_true.1 sta_more n (List.mem_range.2 h))
theorem sta_zero : sta 0 = 0 := by decide +kernel
theorem bitsN_at (n v r : Nat) (h : r < n) : (bitsN n v)[r]? = some (v / 2 ^ (n - 1 - r) % 2 == 1) := by
  induction n generalizing r with
  | zero => omega
  | succ n ih =>
    cases r with
    | zero => simp [bitsN]
    | succ r =>
      rw [bitsN, List.getElem?_cons_succ, ih r (by omega), show n + 1 - 1 - (r + 1) = n - 1 - r by omega]
theorem unp_at (l : List UInt8) : ∀ (k r : Nat) (x : UInt8), r < 8 → l[k]? = some x → (unp l)[8 * k + r]? = some (x.toNat / 2 ^ (7 - r) % 2 == 1) := by
  induction l with
  | nil => intro k r x _ h; simp at h
  | cons c l ih =>
    intro k r x hr h
    have e : unp (c :: l) = bitsN 8 c.toNat ++ unp l := by simp [unp]
    rw [e]
    cases k with
    | zero =>
      simp at h
      subst h
      rw [List.getElem?_append_left (by rw [bitsN_length]; omega), Nat.mul_zero, Nat.zero_add, bitsN_at 8 _ r hr]
    | succ k =>
      rw [List.getElem?_append_right (by rw [bitsN_length]; omega), bitsN_length, show 8 * (k + 1) + r - 8 = 8 * k + r by omega]
      exact ih k r x hr (by simpa using h)
theorem ones_next (c n z : Nat) (_hc : c < 2 ^ n) (hz : z ≤ 1) : (2 * c + z = 2 ^ (n + 1) - 1) ↔ (c = 2 ^ n - 1 ∧ z = 1) := by
  have hp : 2 ^ (n + 1) = 2 * 2 ^ n := by rw [Nat.pow_succ]; omega
  have := Nat.two_pow_pos n
  omega
end Hf
open Go.RowKit

end Go.Proofs.YtmkkhfkfjmfdcaaGreat
