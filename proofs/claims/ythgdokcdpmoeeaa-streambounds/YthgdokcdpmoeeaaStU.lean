/-
  What the laws of stream ask: do, rank, awake: by their contracts.
-/
import Derived.Test.YthgdokcdpmoeeaaStT
import Derived.Deep.QuietTactic
namespace Go.Proofs.Ythgdokcdpmoeeaa
open Go.RowKit

theorem noStandW : Try.prog.stoodInHeld 29 = false := by kernel_rfl
theorem noGuardW : Try.prog.eqGuardType Try.prog.depth 29 = false := by kernel_rfl
theorem fieldsOfW : Try.prog.underlying 29 = some (.struct (Try.prog.fieldsOf 29)) := by kernel_rfl
set_option maxRecDepth 20000 in
theorem eq_wrong (i c i' c' : Bool) (e e' : Int) (w : World) : (binOp .eql 29 (.agg #[.bool i, .bool c, .int .i64 e]) (.agg #[.bool i', .bool c', .int .i64 e'])).run Try.prog w = .ok (.bool (i == i' && c == c' && e == e')) w := by
  rw [run_eql_struct, show (10000 : Nat) = 9999 + 1 by rfl, run_equalIn_agg w 9999 29 _ _ fieldsOfW noStandW]
  simp only [Program.fieldsOf, Try.underlying29]
  go_simp
  by_cases h1 : i = i' <;> by_cases h2 : c = c' <;> by_cases h3 : e = e' <;> simp [h1, h2, h3]
set_option maxRecDepth 20000 in
theorem neq_wrong (i c i' c' : Bool) (e e' : Int) (w : World) : (binOp .neq 29 (.agg #[.bool i, .bool c, .int .i64 e]) (.agg #[.bool i', .bool c', .int .i64 e'])).run Try.prog w = .ok (.bool (!(i == i' && c == c' && e == e'))) w := by
  rw [run_neq_struct, show (10000 : Nat) = 9999 + 1 by rfl, run_equalIn_agg w 9999 29 _ _ fieldsOfW noStandW]
  simp only [Program.fieldsOf, Try.underlying29]
  go_simp
  by_cases h1 : i = i' <;> by_cases h2 : c = c' <;> by_cases h3 : e = e' <;> simp [h1, h2, h3]

theorem sdo_to (B b : Nat) (k k' : Sm.Bk) (v u : Value) (s : Nat) (id : Int) (e0 : Bool) (r : Sm.Vd) (hd : Sm.does k s id e0 = (k', r)) (w : World) (h : BK w B b k v u) :
    Calls Try.prog 22 #[.pointer (some ⟨b, 0, none⟩), .int .u8 (s : Int), .int .i64 id, .bool e0] w fun e w' => e = .returned (doV r) ∧ (∃ v' u', BK w' B b k' v' u') ∧ KF B w w' := by
  have := sdo_any B b k v u s id e0 w h
  rwa [hd] at this

set_option maxHeartbeats 4000000 in
set_option maxRecDepth 20000 in
theorem awake8 (w : World) : Calls Try.prog 16 #[] w fun e w' => e = .returned (.bool true) ∧ Below w.heap.size w w' := by
  have e1 : ∀ W, (binOp .eql 29 (.agg #[.bool false, .bool false, .int .i64 0]) (.agg #[.bool false, .bool false, .int .i64 0])).run Try.prog W = .ok (.bool true) W := fun W => eq_wrong false false false false 0 0 W
  have e2 : ∀ W, (binOp .eql 29 (.agg #[.bool true, .bool false, .int .i64 7]) (.agg #[.bool true, .bool false, .int .i64 7])).run Try.prog W = .ok (.bool true) W := fun W => eq_wrong true false true false 7 7 W
  have e3 : ∀ W, (binOp .eql 29 (.agg #[.bool true, .bool true, .int .i64 1]) (.agg #[.bool true, .bool true, .int .i64 1])).run Try.prog W = .ok (.bool true) W := fun W => eq_wrong true true true true 1 1 W
  have hnw := noGuardW
  obtain ⟨B, hB⟩ : ∃ B, w.heap.size = B := ⟨_, rfl⟩
  have HBB := hid' hB
  rw [hB]
  clear hB
  go_enter Try.func16, Try.ntmps16
  go_wp2_with fail
  refine (snew_yes 1 (by omega) (by omega) w).mono ?_
  rintro e w1 ⟨⟨b, rfl, v1, u1, hk1⟩, hb1⟩
  rw [HBB.out] at hk1 hb1
  have HK1 := hid' hk1
  have HF1 := hid' hb1
  clear hk1 hb1
  go_wp2_with fail
  refine (sdo_to B b _ ⟨1,1,[(1,1)],[],false,0⟩ _ _ 1 1 false ⟨1,false,false,0,true⟩ rfl _ HK1.out).mono ?_
  rintro e wa2 ⟨rfl, ⟨va2, ua2, hk2⟩, hf2⟩
  simp only [doV]
  have HKa2 := hid' hk2
  have HFa2 := hid' (HF1.out.trans hf2.bel)
  clear hk2 hf2
  go_wp2_with (refine wpl_alloc 29 rfl rfl _ szeroW ?_)
  intro c2 wb2 hg2 ha2 hb2
  have HKb2 := hid' (HKa2.out.keep hb2)
  have HFb2 := hid' (HFa2.out.trans (hb2.mono HKa2.out.size))
  have HGB2 := hid' (Nat.le_trans HKa2.out.size hg2)
  have HAb2 := hid' ha2
  clear hb2 ha2 hg2
  go_wp2_with (refine wpl_store 29 _ _ rfl rfl c2 #[.bool false, .bool false, .int .i64 0] (by kernel_rfl) (by kernel_rfl) _ _ HAb2.out ssizeW rfl (by simp [Value.oneCell']) ?_)
  intro w2 hw2 hu2
  have HW2 := hid' hw2
  have HK2 := hid' (HKb2.out.other hu2 HAb2.out (by decide) (by decide) (by decide))
  have HF2 := hid' (HFb2.out.trans (hu2.below HGB2.out))
  clear hw2 hu2
  go_wp2_with fail
  refine (sdo_to B b _ ⟨1,3,[(1,1)],[3],false,0⟩ _ _ 1 3 true ⟨5,true,false,7,false⟩ rfl _ HK2.out).mono ?_
  rintro e wa3 ⟨rfl, ⟨va3, ua3, hk3⟩, hf3⟩
  simp only [doV]
  have HW2 := hid' (hf3.ar HW2.out (by decide) (by decide) (by decide))
  have HKa3 := hid' hk3
  have HFa3 := hid' (HF2.out.trans hf3.bel)
  clear hk3 hf3
  go_wp2_with (refine wpl_alloc 29 rfl rfl _ szeroW ?_)
  intro c3 wb3 hg3 ha3 hb3
  have HN2 : Hid (c2 ≠ c3) := hid' (by have := HW2.out.lt; have := hg3; omega)
  have HW2 := hid' (HW2.out.keep hb3)
  have HKb3 := hid' (HKa3.out.keep hb3)
  have HFb3 := hid' (HFa3.out.trans (hb3.mono HKa3.out.size))
  have HGB3 := hid' (Nat.le_trans HKa3.out.size hg3)
  have HAb3 := hid' ha3
  clear hb3 ha3 hg3
  go_wp2_with (refine wpl_store 29 _ _ rfl rfl c3 #[.bool true, .bool false, .int .i64 7] (by kernel_rfl) (by kernel_rfl) _ _ HAb3.out ssizeW rfl (by simp [Value.oneCell']) ?_)
  intro w3 hw3 hu3
  have HW2 := hid' (hu3.keep HW2.out HN2.out)
  have HW3 := hid' hw3
  have HK3 := hid' (HKb3.out.other hu3 HAb3.out (by decide) (by decide) (by decide))
  have HF3 := hid' (HFb3.out.trans (hu3.below HGB3.out))
  clear hw3 hu3
  go_wp2_with fail
  refine (sdo_to B b _ ⟨1,3,[(1,2)],[3],false,0⟩ _ _ 2 1 true ⟨2,false,false,0,true⟩ rfl _ HK3.out).mono ?_
  rintro e wa4 ⟨rfl, ⟨va4, ua4, hk4⟩, hf4⟩
  simp only [doV]
  have HW2 := hid' (hf4.ar HW2.out (by decide) (by decide) (by decide))
  have HW3 := hid' (hf4.ar HW3.out (by decide) (by decide) (by decide))
  have HKa4 := hid' hk4
  have HFa4 := hid' (HF3.out.trans hf4.bel)
  clear hk4 hf4
  go_wp2_with (refine wpl_alloc 29 rfl rfl _ szeroW ?_)
  intro c4 wb4 hg4 ha4 hb4
  have HN2 : Hid (c2 ≠ c4) := hid' (by have := HW2.out.lt; have := hg4; omega)
  have HW2 := hid' (HW2.out.keep hb4)
  have HN3 : Hid (c3 ≠ c4) := hid' (by have := HW3.out.lt; have := hg4; omega)
  have HW3 := hid' (HW3.out.keep hb4)
  have HKb4 := hid' (HKa4.out.keep hb4)
  have HFb4 := hid' (HFa4.out.trans (hb4.mono HKa4.out.size))
  have HGB4 := hid' (Nat.le_trans HKa4.out.size hg4)
  have HAb4 := hid' ha4
  clear hb4 ha4 hg4
  go_wp2_with (refine wpl_store 29 _ _ rfl rfl c4 #[.bool false, .bool false, .int .i64 0] (by kernel_rfl) (by kernel_rfl) _ _ HAb4.out ssizeW rfl (by simp [Value.oneCell']) ?_)
  intro w4 hw4 hu4
  have HW2 := hid' (hu4.keep HW2.out HN2.out)
  have HW3 := hid' (hu4.keep HW3.out HN3.out)
  have HW4 := hid' hw4
  have HK4 := hid' (HKb4.out.other hu4 HAb4.out (by decide) (by decide) (by decide))
  have HF4 := hid' (HFb4.out.trans (hu4.below HGB4.out))
  clear hw4 hu4
  go_wp2_with fail
  refine (sdo_to B b _ ⟨1,3,[(1,2)],[3],false,0⟩ _ _ 2 5 false ⟨0,true,true,1,false⟩ rfl _ HK4.out).mono ?_
  rintro e wa5 ⟨rfl, ⟨va5, ua5, hk5⟩, hf5⟩
  simp only [doV]
  have HW2 := hid' (hf5.ar HW2.out (by decide) (by decide) (by decide))
  have HW3 := hid' (hf5.ar HW3.out (by decide) (by decide) (by decide))
  have HW4 := hid' (hf5.ar HW4.out (by decide) (by decide) (by decide))
  have HKa5 := hid' hk5
  have HFa5 := hid' (HF4.out.trans hf5.bel)
  clear hk5 hf5
  go_wp2_with (refine wpl_alloc 29 rfl rfl _ szeroW ?_)
  intro c5 wb5 hg5 ha5 hb5
  have HN2 : Hid (c2 ≠ c5) := hid' (by have := HW2.out.lt; have := hg5; omega)
  have HW2 := hid' (HW2.out.keep hb5)
  have HN3 : Hid (c3 ≠ c5) := hid' (by have := HW3.out.lt; have := hg5; omega)
  have HW3 := hid' (HW3.out.keep hb5)
  have HN4 : Hid (c4 ≠ c5) := hid' (by have := HW4.out.lt; have := hg5; omega)
  have HW4 := hid' (HW4.out.keep hb5)
  have HKb5 := hid' (HKa5.out.keep hb5)
  have HFb5 := hid' (HFa5.out.trans (hb5.mono HKa5.out.size))
  have HGB5 := hid' (Nat.le_trans HKa5.out.size hg5)
  have HAb5 := hid' ha5
  clear hb5 ha5 hg5
  go_wp2_with (refine wpl_store 29 _ _ rfl rfl c5 #[.bool true, .bool true, .int .i64 1] (by kernel_rfl) (by kernel_rfl) _ _ HAb5.out ssizeW rfl (by simp [Value.oneCell']) ?_)
  intro w5 hw5 hu5
  have HW2 := hid' (hu5.keep HW2.out HN2.out)
  have HW3 := hid' (hu5.keep HW3.out HN3.out)
  have HW4 := hid' (hu5.keep HW4.out HN4.out)
  have HW5 := hid' hw5
  have HK5 := hid' (HKb5.out.other hu5 HAb5.out (by decide) (by decide) (by decide))
  have HF5 := hid' (HFb5.out.trans (hu5.below HGB5.out))
  clear hw5 hu5
  have z20 := HW2.out.cell 0 _ rfl
  have z21 := HW2.out.cell 1 _ rfl
  have z22 := HW2.out.cell 2 _ rfl
  have z30 := HW3.out.cell 0 _ rfl
  have z31 := HW3.out.cell 1 _ rfl
  have z32 := HW3.out.cell 2 _ rfl
  have z40 := HW4.out.cell 0 _ rfl
  have z41 := HW4.out.cell 1 _ rfl
  have z42 := HW4.out.cell 2 _ rfl
  have z50 := HW5.out.cell 0 _ rfl
  have z51 := HW5.out.cell 1 _ rfl
  have z52 := HW5.out.cell 2 _ rfl
  go_wp2_with fail
  refine (sphase_any B b _ _ _ 1 2 rfl _ HK5.out).mono ?_
  rintro e w6 ⟨rfl, hb6⟩
  have HK6 := hid' (HK5.out.keep hb6)
  have HF6 := hid' (HF5.out.trans (hb6.mono HK5.out.size))
  clear hb6
  go_wp2_with fail
  refine (sphase_any B b _ _ _ 3 5 rfl _ HK6.out).mono ?_
  rintro e w7 ⟨rfl, hb7⟩
  have HK7 := hid' (HK6.out.keep hb7)
  have HF7 := hid' (HF6.out.trans (hb7.mono HK6.out.size))
  clear hb7
  go_wp2_with fail
  refine (slast_any B b _ _ _ _ HK7.out).mono ?_
  rintro e w8 ⟨rfl, hw8⟩
  subst w8
  go_wp2
  go_ret
  exact ⟨rfl, HF7.out⟩

end Go.Proofs.Ythgdokcdpmoeeaa
