/-
  StreamWhole: a request and its answer take a stream from Idle to Over.
-/
import Derived.Test.YthgdokcdpmoeeaaStU
namespace Go.Proofs.Ythgdokcdpmoeeaa
open Go.RowKit

theorem can_of {n : Nat} (hodd : n % 2 = 1) (hn : n ≤ 2147483647) : Sm.can (n : Int) = true := (Sm.can_iff _).2 ⟨by omega, by omega, by omega⟩
theorem does_of {k : Sm.Bk} {s n : Nat} {e : Bool} (hodd : n % 2 = 1) (hn : n ≤ 2147483647) : Sm.does k s (n : Int) e = Sm.doN k s n e := by
  rw [Sm.does, can_of hodd hn, if_pos rfl, Int.toNat_natCast]
theorem phase_of {n p : Nat} (hodd : n % 2 = 1) (m : Nat) : Sm.phase ⟨m, n, [(n, p)], [], false, 0⟩ n = p := by
  unfold Sm.phase
  rw [if_pos ⟨hodd, Nat.le_refl _⟩]
  simp [Sm.look]
theorem phase_off {n : Nat} (hodd : n % 2 = 1) (m : Nat) : Sm.phase ⟨m, n, [], [], false, 0⟩ n = 4 := by
  unfold Sm.phase
  rw [if_pos ⟨hodd, Nat.le_refl _⟩]
  simp [Sm.look]
theorem whole1 {n : Nat} (hodd : n % 2 = 1) (hn : n ≤ 2147483647) : Sm.does ⟨4, 0, [], [], false, 0⟩ 1 (n : Int) false = (⟨4, n, [(n, 1)], [], false, 0⟩, ⟨1, false, false, 0, true⟩) := by
  rw [does_of hodd hn, Sm.doN, if_pos ⟨rfl, by simp only; omega⟩]
  rfl
theorem wholeJ {n p : Nat} {s : Nat} {e : Bool} {r : Sm.Vd} {k' : Sm.Bk} (hodd : n % 2 = 1) (hn : n ≤ 2147483647) (hr : Sm.judge s p e = r) (hk : Sm.move ⟨4, n, [(n, p)], [], false, 0⟩ n p r.to = k') : Sm.does ⟨4, n, [(n, p)], [], false, 0⟩ s (n : Int) e = (k', r) := by
  rw [does_of hodd hn, Sm.doN, if_neg (by simp), if_neg (by simp), phase_of hodd, hr, hk]
theorem wholeO {n : Nat} {s : Nat} {e : Bool} {r : Sm.Vd} (hodd : n % 2 = 1) (hn : n ≤ 2147483647) (hr : Sm.judge s 4 e = r) (ht : r.to = 4) : Sm.does ⟨4, n, [], [], false, 0⟩ s (n : Int) e = (⟨4, n, [], [], false, 0⟩, r) := by
  rw [does_of hodd hn, Sm.doN, if_neg (by simp), if_neg (by simp), phase_off hodd, hr, ht]
  rfl
theorem moveSetOne (n p q : Nat) (h : p ≠ q) (h5 : p ≠ 5) (hq : Sm.isOpen q = true) : Sm.move ⟨4, n, [(n, p)], [], false, 0⟩ n p q = ⟨4, n, [(n, q)], [], false, 0⟩ := by
  rw [Sm.move, if_neg h, if_neg h5, if_pos hq]
  simp [Sm.setPh]
theorem moveCutOne (n p : Nat) (h : p ≠ 4) (h5 : p ≠ 5) : Sm.move ⟨4, n, [(n, p)], [], false, 0⟩ n p 4 = ⟨4, n, [], [], false, 0⟩ := by
  rw [Sm.move, if_neg h, if_neg h5, if_neg (by decide), if_neg (by decide)]
  simp [Sm.cutPh]

set_option maxHeartbeats 4000000 in
set_option maxRecDepth 20000 in
theorem streamWhole_good (n : Nat) (hodd : n % 2 = 1) (hn : n ≤ 2147483647) (fb : Bool) (w : World) :
    Calls Try.prog 7 #[.int .i64 (n : Int), .bool fb] w fun e w' => e = .returned (.bool true) ∧ Below w.heap.size w w' := by
  have e1 : ∀ W, (binOp .neq 29 (.agg #[.bool false, .bool false, .int .i64 0]) (.agg #[.bool false, .bool false, .int .i64 0])).run Try.prog W = .ok (.bool false) W := fun W => neq_wrong false false false false 0 0 W
  have e2 : ∀ W, (binOp .eql 29 (.agg #[.bool true, .bool true, .int .i64 5]) (.agg #[.bool true, .bool true, .int .i64 5])).run Try.prog W = .ok (.bool true) W := fun W => eq_wrong true true true true 5 5 W
  have hnw := noGuardW
  obtain ⟨B, hB⟩ : ∃ B, w.heap.size = B := ⟨_, rfl⟩
  have HBB := hid' hB
  rw [hB]
  have HO := hid' hodd
  have HN := hid' hn
  have t1 : ¬ (n : Int) < 1 := by omega
  have t2 : (n : Int).tmod 2 = 1 := by rw [Int.tmod_eq_emod_of_nonneg (by omega)]; omega
  have t2' : (n : Int) % 2 = 1 := by omega
  have t3 : ¬ (2147483647 : Int) < (n : Int) := by omega
  clear hB hodd hn
  cases fb
  · go_enter Try.func7, Try.ntmps7
    go_wp2_with fail
    refine (snew_yes 4 (by omega) (by omega) w).mono ?_
    rintro e w1 ⟨⟨b, rfl, v1, u1, hk1⟩, hb1⟩
    rw [HBB.out] at hk1 hb1
    have HK1 := hid' hk1
    have HF1 := hid' hb1
    clear hk1 hb1
    go_wp2_with fail
    refine (sdo_to B b _ ⟨4, n, [(n, 1)], [], false, 0⟩ _ _ 1 (n : Int) false ⟨1,false,false,0,true⟩ (whole1 HO.out HN.out) _ HK1.out).mono ?_
    rintro e wa2 ⟨rfl, ⟨va2, ua2, hk2⟩, hf2⟩
    simp only [doV]
    have HKa2 := hid' hk2
    have HFa2 := hid' (HF1.out.trans hf2.bel)
    clear hk2 hf2
    go_wp2_with (refine wpl_alloc 29 rfl rfl _ szeroW ?_)
    intro c2 wb2 hg2 ha2 hb2
    have HKb2 := hid' (HKa2.out.keep hb2)
    have HFb2 := hid' (HFa2.out.trans (hb2.mono HKa2.out.size))
    have HGB2 := hid' (Nat.le_trans HKa2.out.size hg2)
    have HAb2 := hid' ha2
    clear hb2 ha2 hg2
    go_wp2_with (refine wpl_store 29 _ _ rfl rfl c2 #[.bool false, .bool false, .int .i64 0] (by kernel_rfl) (by kernel_rfl) _ _ HAb2.out ssizeW rfl (by simp [Value.oneCell']) ?_)
    intro w2 hw2 hu2
    have HW2 := hid' hw2
    have HK2 := hid' (HKb2.out.other hu2 HAb2.out (by decide) (by decide) (by decide))
    have HF2 := hid' (HFb2.out.trans (hu2.below HGB2.out))
    clear hw2 hu2
    go_wp2_with fail
    refine (sdo_to B b _ ⟨4, n, [(n, 1)], [], false, 0⟩ _ _ 6 (n : Int) false ⟨1,false,false,0,true⟩ (wholeJ HO.out HN.out rfl rfl) _ HK2.out).mono ?_
    rintro e wa3 ⟨rfl, ⟨va3, ua3, hk3⟩, hf3⟩
    simp only [doV]
    have HW2 := hid' (hf3.ar HW2.out (by decide) (by decide) (by decide))
    have HKa3 := hid' hk3
    have HFa3 := hid' (HF2.out.trans hf3.bel)
    clear hk3 hf3
    go_wp2_with (refine wpl_alloc 29 rfl rfl _ szeroW ?_)
    intro c3 wb3 hg3 ha3 hb3
    have HN2 : Hid (c2 ≠ c3) := hid' (by have := HW2.out.lt; have := hg3; omega)
    have HW2 := hid' (HW2.out.keep hb3)
    have HKb3 := hid' (HKa3.out.keep hb3)
    have HFb3 := hid' (HFa3.out.trans (hb3.mono HKa3.out.size))
    have HGB3 := hid' (Nat.le_trans HKa3.out.size hg3)
    have HAb3 := hid' ha3
    clear hb3 ha3 hg3
    go_wp2_with (refine wpl_store 29 _ _ rfl rfl c3 #[.bool false, .bool false, .int .i64 0] (by kernel_rfl) (by kernel_rfl) _ _ HAb3.out ssizeW rfl (by simp [Value.oneCell']) ?_)
    intro w3 hw3 hu3
    have HW2 := hid' (hu3.keep HW2.out HN2.out)
    have HW3 := hid' hw3
    have HK3 := hid' (HKb3.out.other hu3 HAb3.out (by decide) (by decide) (by decide))
    have HF3 := hid' (HFb3.out.trans (hu3.below HGB3.out))
    clear hw3 hu3
    go_wp2_with fail
    refine (sdo_to B b _ ⟨4, n, [(n, 2)], [], false, 0⟩ _ _ 2 (n : Int) true ⟨2,false,false,0,true⟩ (wholeJ HO.out HN.out rfl (moveSetOne n 1 2 (by decide) (by decide) rfl)) _ HK3.out).mono ?_
    rintro e wa4 ⟨rfl, ⟨va4, ua4, hk4⟩, hf4⟩
    simp only [doV]
    have HW2 := hid' (hf4.ar HW2.out (by decide) (by decide) (by decide))
    have HW3 := hid' (hf4.ar HW3.out (by decide) (by decide) (by decide))
    have HKa4 := hid' hk4
    have HFa4 := hid' (HF3.out.trans hf4.bel)
    clear hk4 hf4
    go_wp2_with (refine wpl_alloc 29 rfl rfl _ szeroW ?_)
    intro c4 wb4 hg4 ha4 hb4
    have HN2 : Hid (c2 ≠ c4) := hid' (by have := HW2.out.lt; have := hg4; omega)
    have HW2 := hid' (HW2.out.keep hb4)
    have HN3 : Hid (c3 ≠ c4) := hid' (by have := HW3.out.lt; have := hg4; omega)
    have HW3 := hid' (HW3.out.keep hb4)
    have HKb4 := hid' (HKa4.out.keep hb4)
    have HFb4 := hid' (HFa4.out.trans (hb4.mono HKa4.out.size))
    have HGB4 := hid' (Nat.le_trans HKa4.out.size hg4)
    have HAb4 := hid' ha4
    clear hb4 ha4 hg4
    go_wp2_with (refine wpl_store 29 _ _ rfl rfl c4 #[.bool false, .bool false, .int .i64 0] (by kernel_rfl) (by kernel_rfl) _ _ HAb4.out ssizeW rfl (by simp [Value.oneCell']) ?_)
    intro w4 hw4 hu4
    have HW2 := hid' (hu4.keep HW2.out HN2.out)
    have HW3 := hid' (hu4.keep HW3.out HN3.out)
    have HW4 := hid' hw4
    have HK4 := hid' (HKb4.out.other hu4 HAb4.out (by decide) (by decide) (by decide))
    have HF4 := hid' (HFb4.out.trans (hu4.below HGB4.out))
    clear hw4 hu4
    go_wp2_with fail
    refine (sphase_any B b _ _ _ (n : Int) 2 (by rw [phaseI_nat]; exact phase_of HO.out 4) _ HK4.out).mono ?_
    rintro e wp ⟨rfl, hbp⟩
    have HW2 := hid' (HW2.out.keep hbp)
    have HW3 := hid' (HW3.out.keep hbp)
    have HW4 := hid' (HW4.out.keep hbp)
    have HFp := hid' (HF4.out.trans (hbp.mono HK4.out.size))
    have HKp := hid' (HK4.out.keep hbp)
    clear hbp
    go_wp2_with fail
    refine (sdo_to B b _ ⟨4, n, [], [], false, 0⟩ _ _ 7 (n : Int) true ⟨4,false,false,0,true⟩ (wholeJ HO.out HN.out rfl (moveCutOne n 2 (by decide) (by decide))) _ HKp.out).mono ?_
    rintro e wa5 ⟨rfl, ⟨va5, ua5, hk5⟩, hf5⟩
    simp only [doV]
    have HW2 := hid' (hf5.ar HW2.out (by decide) (by decide) (by decide))
    have HW3 := hid' (hf5.ar HW3.out (by decide) (by decide) (by decide))
    have HW4 := hid' (hf5.ar HW4.out (by decide) (by decide) (by decide))
    have HKa5 := hid' hk5
    have HFa5 := hid' (HFp.out.trans hf5.bel)
    clear hk5 hf5
    go_wp2_with (refine wpl_alloc 29 rfl rfl _ szeroW ?_)
    intro c5 wb5 hg5 ha5 hb5
    have HN2 : Hid (c2 ≠ c5) := hid' (by have := HW2.out.lt; have := hg5; omega)
    have HW2 := hid' (HW2.out.keep hb5)
    have HN3 : Hid (c3 ≠ c5) := hid' (by have := HW3.out.lt; have := hg5; omega)
    have HW3 := hid' (HW3.out.keep hb5)
    have HN4 : Hid (c4 ≠ c5) := hid' (by have := HW4.out.lt; have := hg5; omega)
    have HW4 := hid' (HW4.out.keep hb5)
    have HKb5 := hid' (HKa5.out.keep hb5)
    have HFb5 := hid' (HFa5.out.trans (hb5.mono HKa5.out.size))
    have HGB5 := hid' (Nat.le_trans HKa5.out.size hg5)
    have HAb5 := hid' ha5
    clear hb5 ha5 hg5
    go_wp2_with (refine wpl_store 29 _ _ rfl rfl c5 #[.bool false, .bool false, .int .i64 0] (by kernel_rfl) (by kernel_rfl) _ _ HAb5.out ssizeW rfl (by simp [Value.oneCell']) ?_)
    intro w5 hw5 hu5
    have HW2 := hid' (hu5.keep HW2.out HN2.out)
    have HW3 := hid' (hu5.keep HW3.out HN3.out)
    have HW4 := hid' (hu5.keep HW4.out HN4.out)
    have HW5 := hid' hw5
    have HK5 := hid' (HKb5.out.other hu5 HAb5.out (by decide) (by decide) (by decide))
    have HF5 := hid' (HFb5.out.trans (hu5.below HGB5.out))
    clear hw5 hu5
    go_wp2_with (refine wpl_alloc 29 rfl rfl _ szeroW ?_)
    intro c6 wc6 hg6 ha6 hb6
    have HG6 := hid' (Nat.le_trans HK5.out.size hg6)
    have HN2 : Hid (c2 ≠ c6) := hid' (by have := HW2.out.lt; have := hg6; omega)
    have HW2 := hid' (HW2.out.keep hb6)
    have HN3 : Hid (c3 ≠ c6) := hid' (by have := HW3.out.lt; have := hg6; omega)
    have HW3 := hid' (HW3.out.keep hb6)
    have HN4 : Hid (c4 ≠ c6) := hid' (by have := HW4.out.lt; have := hg6; omega)
    have HW4 := hid' (HW4.out.keep hb6)
    have HN5 : Hid (c5 ≠ c6) := hid' (by have := HW5.out.lt; have := hg6; omega)
    have HW5 := hid' (HW5.out.keep hb6)
    have HKc := hid' (HK5.out.keep hb6)
    have HFc := hid' (HF5.out.trans (hb6.mono HK5.out.size))
    have HA6 := hid' ha6
    clear hb6 ha6 hg6
    go_wp2_with (refine wpl_store 29 _ _ rfl rfl c6 #[.bool false, .bool false, .int .i64 0] (by kernel_rfl) (by kernel_rfl) _ _ HA6.out ssizeW rfl (by simp [Value.oneCell']) ?_)
    intro w6 hw6 hu6
    have HW2 := hid' (hu6.keep HW2.out HN2.out)
    have HW3 := hid' (hu6.keep HW3.out HN3.out)
    have HW4 := hid' (hu6.keep HW4.out HN4.out)
    have HW5 := hid' (hu6.keep HW5.out HN5.out)
    have HW6 := hid' hw6
    have HK6 := hid' (HKc.out.other hu6 HA6.out (by decide) (by decide) (by decide))
    have HF6 := hid' (HFc.out.trans (hu6.below HG6.out))
    clear hw6 hu6
    have z20 := HW2.out.cell 0 _ rfl
    have z21 := HW2.out.cell 1 _ rfl
    have z22 := HW2.out.cell 2 _ rfl
    have z30 := HW3.out.cell 0 _ rfl
    have z31 := HW3.out.cell 1 _ rfl
    have z32 := HW3.out.cell 2 _ rfl
    have z40 := HW4.out.cell 0 _ rfl
    have z41 := HW4.out.cell 1 _ rfl
    have z42 := HW4.out.cell 2 _ rfl
    have z50 := HW5.out.cell 0 _ rfl
    have z51 := HW5.out.cell 1 _ rfl
    have z52 := HW5.out.cell 2 _ rfl
    have z60 := HW6.out.cell 0 _ rfl
    have z61 := HW6.out.cell 1 _ rfl
    have z62 := HW6.out.cell 2 _ rfl
    go_wp2_with fail
    refine (sphase_any B b _ _ _ (n : Int) 4 (by rw [phaseI_nat]; exact phase_off HO.out 4) _ HK6.out).mono ?_
    rintro e w7 ⟨rfl, hb7⟩
    have HF7 := hid' (HF6.out.trans (hb7.mono HK6.out.size))
    have HK7 := hid' (HK6.out.keep hb7)
    clear hb7 z20 z21 z22 z30 z31 z32 z40 z41 z42 z50 z51 z52 z60 z61 z62
    go_wp2_with fail
    refine (sopen_any B b _ _ _ _ HK7.out).mono ?_
    rintro e w8 ⟨⟨r8, rfl, hown8⟩, hb8⟩
    have HF8 := hid' (HF7.out.trans (hb8.mono HK7.out.size))
    have HK8 := hid' (HK7.out.keep hb8)
    obtain ⟨ao8, cap8, hr8⟩ := own_shape hown8
    simp only [List.length_nil] at hr8
    subst hr8
    clear hb8 hown8
    go_wp2_with fail
    refine (sdo_to B b _ ⟨4, n, [], [], false, 0⟩ _ _ 1 (n : Int) true ⟨4,true,true,5,false⟩ (wholeO HO.out HN.out rfl rfl) _ HK8.out).mono ?_
    rintro e wa9 ⟨rfl, ⟨va9, ua9, hk9⟩, hf9⟩
    simp only [doV]
    have HKa9 := hid' hk9
    have HFa9 := hid' (HF8.out.trans hf9.bel)
    clear hk9 hf9
    go_wp2_with (refine wpl_alloc 29 rfl rfl _ szeroW ?_)
    intro c9 wb9 hg9 ha9 hb9
    have HKb9 := hid' (HKa9.out.keep hb9)
    have HFb9 := hid' (HFa9.out.trans (hb9.mono HKa9.out.size))
    have HGB9 := hid' (Nat.le_trans HKa9.out.size hg9)
    have HAb9 := hid' ha9
    clear hb9 ha9 hg9
    go_wp2_with (refine wpl_store 29 _ _ rfl rfl c9 #[.bool true, .bool true, .int .i64 5] (by kernel_rfl) (by kernel_rfl) _ _ HAb9.out ssizeW rfl (by simp [Value.oneCell']) ?_)
    intro w9 hw9 hu9
    have HW9 := hid' hw9
    have HK9 := hid' (HKb9.out.other hu9 HAb9.out (by decide) (by decide) (by decide))
    have HF9 := hid' (HFb9.out.trans (hu9.below HGB9.out))
    clear hw9 hu9
    go_wp2_with fail
    refine (awake8 _).mono ?_
    rintro e w10 ⟨rfl, hb10⟩
    have HWa := hid' (HW9.out.keep hb10)
    have HFa := hid' (HF9.out.trans (hb10.mono HK9.out.size))
    clear hb10
    have z90 := HWa.out.cell 0 _ rfl
    have z91 := HWa.out.cell 1 _ rfl
    have z92 := HWa.out.cell 2 _ rfl
    go_wp2
    go_ret
    exact ⟨rfl, HFa.out⟩
  · go_enter Try.func7, Try.ntmps7
    go_wp2_with fail
    refine (snew_yes 4 (by omega) (by omega) w).mono ?_
    rintro e w1 ⟨⟨b, rfl, v1, u1, hk1⟩, hb1⟩
    rw [HBB.out] at hk1 hb1
    have HK1 := hid' hk1
    have HF1 := hid' hb1
    clear hk1 hb1
    go_wp2_with fail
    refine (sdo_to B b _ ⟨4, n, [(n, 1)], [], false, 0⟩ _ _ 1 (n : Int) false ⟨1,false,false,0,true⟩ (whole1 HO.out HN.out) _ HK1.out).mono ?_
    rintro e wa2 ⟨rfl, ⟨va2, ua2, hk2⟩, hf2⟩
    simp only [doV]
    have HKa2 := hid' hk2
    have HFa2 := hid' (HF1.out.trans hf2.bel)
    clear hk2 hf2
    go_wp2_with (refine wpl_alloc 29 rfl rfl _ szeroW ?_)
    intro c2 wb2 hg2 ha2 hb2
    have HKb2 := hid' (HKa2.out.keep hb2)
    have HFb2 := hid' (HFa2.out.trans (hb2.mono HKa2.out.size))
    have HGB2 := hid' (Nat.le_trans HKa2.out.size hg2)
    have HAb2 := hid' ha2
    clear hb2 ha2 hg2
    go_wp2_with (refine wpl_store 29 _ _ rfl rfl c2 #[.bool false, .bool false, .int .i64 0] (by kernel_rfl) (by kernel_rfl) _ _ HAb2.out ssizeW rfl (by simp [Value.oneCell']) ?_)
    intro w2 hw2 hu2
    have HW2 := hid' hw2
    have HK2 := hid' (HKb2.out.other hu2 HAb2.out (by decide) (by decide) (by decide))
    have HF2 := hid' (HFb2.out.trans (hu2.below HGB2.out))
    clear hw2 hu2
    go_wp2_with fail
    refine (sdo_to B b _ ⟨4, n, [(n, 1)], [], false, 0⟩ _ _ 6 (n : Int) false ⟨1,false,false,0,true⟩ (wholeJ HO.out HN.out rfl rfl) _ HK2.out).mono ?_
    rintro e wa3 ⟨rfl, ⟨va3, ua3, hk3⟩, hf3⟩
    simp only [doV]
    have HW2 := hid' (hf3.ar HW2.out (by decide) (by decide) (by decide))
    have HKa3 := hid' hk3
    have HFa3 := hid' (HF2.out.trans hf3.bel)
    clear hk3 hf3
    go_wp2_with (refine wpl_alloc 29 rfl rfl _ szeroW ?_)
    intro c3 wb3 hg3 ha3 hb3
    have HN2 : Hid (c2 ≠ c3) := hid' (by have := HW2.out.lt; have := hg3; omega)
    have HW2 := hid' (HW2.out.keep hb3)
    have HKb3 := hid' (HKa3.out.keep hb3)
    have HFb3 := hid' (HFa3.out.trans (hb3.mono HKa3.out.size))
    have HGB3 := hid' (Nat.le_trans HKa3.out.size hg3)
    have HAb3 := hid' ha3
    clear hb3 ha3 hg3
    go_wp2_with (refine wpl_store 29 _ _ rfl rfl c3 #[.bool false, .bool false, .int .i64 0] (by kernel_rfl) (by kernel_rfl) _ _ HAb3.out ssizeW rfl (by simp [Value.oneCell']) ?_)
    intro w3 hw3 hu3
    have HW2 := hid' (hu3.keep HW2.out HN2.out)
    have HW3 := hid' hw3
    have HK3 := hid' (HKb3.out.other hu3 HAb3.out (by decide) (by decide) (by decide))
    have HF3 := hid' (HFb3.out.trans (hu3.below HGB3.out))
    clear hw3 hu3
    go_wp2_with fail
    refine (sdo_to B b _ ⟨4, n, [(n, 3)], [], false, 0⟩ _ _ 7 (n : Int) true ⟨3,false,false,0,true⟩ (wholeJ HO.out HN.out rfl (moveSetOne n 1 3 (by decide) (by decide) rfl)) _ HK3.out).mono ?_
    rintro e wa4 ⟨rfl, ⟨va4, ua4, hk4⟩, hf4⟩
    simp only [doV]
    have HW2 := hid' (hf4.ar HW2.out (by decide) (by decide) (by decide))
    have HW3 := hid' (hf4.ar HW3.out (by decide) (by decide) (by decide))
    have HKa4 := hid' hk4
    have HFa4 := hid' (HF3.out.trans hf4.bel)
    clear hk4 hf4
    go_wp2_with (refine wpl_alloc 29 rfl rfl _ szeroW ?_)
    intro c4 wb4 hg4 ha4 hb4
    have HN2 : Hid (c2 ≠ c4) := hid' (by have := HW2.out.lt; have := hg4; omega)
    have HW2 := hid' (HW2.out.keep hb4)
    have HN3 : Hid (c3 ≠ c4) := hid' (by have := HW3.out.lt; have := hg4; omega)
    have HW3 := hid' (HW3.out.keep hb4)
    have HKb4 := hid' (HKa4.out.keep hb4)
    have HFb4 := hid' (HFa4.out.trans (hb4.mono HKa4.out.size))
    have HGB4 := hid' (Nat.le_trans HKa4.out.size hg4)
    have HAb4 := hid' ha4
    clear hb4 ha4 hg4
    go_wp2_with (refine wpl_store 29 _ _ rfl rfl c4 #[.bool false, .bool false, .int .i64 0] (by kernel_rfl) (by kernel_rfl) _ _ HAb4.out ssizeW rfl (by simp [Value.oneCell']) ?_)
    intro w4 hw4 hu4
    have HW2 := hid' (hu4.keep HW2.out HN2.out)
    have HW3 := hid' (hu4.keep HW3.out HN3.out)
    have HW4 := hid' hw4
    have HK4 := hid' (HKb4.out.other hu4 HAb4.out (by decide) (by decide) (by decide))
    have HF4 := hid' (HFb4.out.trans (hu4.below HGB4.out))
    clear hw4 hu4
    go_wp2_with fail
    refine (sphase_any B b _ _ _ (n : Int) 3 (by rw [phaseI_nat]; exact phase_of HO.out 4) _ HK4.out).mono ?_
    rintro e wp ⟨rfl, hbp⟩
    have HW2 := hid' (HW2.out.keep hbp)
    have HW3 := hid' (HW3.out.keep hbp)
    have HW4 := hid' (HW4.out.keep hbp)
    have HFp := hid' (HF4.out.trans (hbp.mono HK4.out.size))
    have HKp := hid' (HK4.out.keep hbp)
    clear hbp
    go_wp2_with fail
    refine (sdo_to B b _ ⟨4, n, [], [], false, 0⟩ _ _ 2 (n : Int) true ⟨4,false,false,0,true⟩ (wholeJ HO.out HN.out rfl (moveCutOne n 3 (by decide) (by decide))) _ HKp.out).mono ?_
    rintro e wa5 ⟨rfl, ⟨va5, ua5, hk5⟩, hf5⟩
    simp only [doV]
    have HW2 := hid' (hf5.ar HW2.out (by decide) (by decide) (by decide))
    have HW3 := hid' (hf5.ar HW3.out (by decide) (by decide) (by decide))
    have HW4 := hid' (hf5.ar HW4.out (by decide) (by decide) (by decide))
    have HKa5 := hid' hk5
    have HFa5 := hid' (HFp.out.trans hf5.bel)
    clear hk5 hf5
    go_wp2_with (refine wpl_alloc 29 rfl rfl _ szeroW ?_)
    intro c5 wb5 hg5 ha5 hb5
    have HN2 : Hid (c2 ≠ c5) := hid' (by have := HW2.out.lt; have := hg5; omega)
    have HW2 := hid' (HW2.out.keep hb5)
    have HN3 : Hid (c3 ≠ c5) := hid' (by have := HW3.out.lt; have := hg5; omega)
    have HW3 := hid' (HW3.out.keep hb5)
    have HN4 : Hid (c4 ≠ c5) := hid' (by have := HW4.out.lt; have := hg5; omega)
    have HW4 := hid' (HW4.out.keep hb5)
    have HKb5 := hid' (HKa5.out.keep hb5)
    have HFb5 := hid' (HFa5.out.trans (hb5.mono HKa5.out.size))
    have HGB5 := hid' (Nat.le_trans HKa5.out.size hg5)
    have HAb5 := hid' ha5
    clear hb5 ha5 hg5
    go_wp2_with (refine wpl_store 29 _ _ rfl rfl c5 #[.bool false, .bool false, .int .i64 0] (by kernel_rfl) (by kernel_rfl) _ _ HAb5.out ssizeW rfl (by simp [Value.oneCell']) ?_)
    intro w5 hw5 hu5
    have HW2 := hid' (hu5.keep HW2.out HN2.out)
    have HW3 := hid' (hu5.keep HW3.out HN3.out)
    have HW4 := hid' (hu5.keep HW4.out HN4.out)
    have HW5 := hid' hw5
    have HK5 := hid' (HKb5.out.other hu5 HAb5.out (by decide) (by decide) (by decide))
    have HF5 := hid' (HFb5.out.trans (hu5.below HGB5.out))
    clear hw5 hu5
    go_wp2_with (refine wpl_alloc 29 rfl rfl _ szeroW ?_)
    intro c6 wc6 hg6 ha6 hb6
    have HG6 := hid' (Nat.le_trans HK5.out.size hg6)
    have HN2 : Hid (c2 ≠ c6) := hid' (by have := HW2.out.lt; have := hg6; omega)
    have HW2 := hid' (HW2.out.keep hb6)
    have HN3 : Hid (c3 ≠ c6) := hid' (by have := HW3.out.lt; have := hg6; omega)
    have HW3 := hid' (HW3.out.keep hb6)
    have HN4 : Hid (c4 ≠ c6) := hid' (by have := HW4.out.lt; have := hg6; omega)
    have HW4 := hid' (HW4.out.keep hb6)
    have HN5 : Hid (c5 ≠ c6) := hid' (by have := HW5.out.lt; have := hg6; omega)
    have HW5 := hid' (HW5.out.keep hb6)
    have HKc := hid' (HK5.out.keep hb6)
    have HFc := hid' (HF5.out.trans (hb6.mono HK5.out.size))
    have HA6 := hid' ha6
    clear hb6 ha6 hg6
    go_wp2_with (refine wpl_store 29 _ _ rfl rfl c6 #[.bool false, .bool false, .int .i64 0] (by kernel_rfl) (by kernel_rfl) _ _ HA6.out ssizeW rfl (by simp [Value.oneCell']) ?_)
    intro w6 hw6 hu6
    have HW2 := hid' (hu6.keep HW2.out HN2.out)
    have HW3 := hid' (hu6.keep HW3.out HN3.out)
    have HW4 := hid' (hu6.keep HW4.out HN4.out)
    have HW5 := hid' (hu6.keep HW5.out HN5.out)
    have HW6 := hid' hw6
    have HK6 := hid' (HKc.out.other hu6 HA6.out (by decide) (by decide) (by decide))
    have HF6 := hid' (HFc.out.trans (hu6.below HG6.out))
    clear hw6 hu6
    have z20 := HW2.out.cell 0 _ rfl
    have z21 := HW2.out.cell 1 _ rfl
    have z22 := HW2.out.cell 2 _ rfl
    have z30 := HW3.out.cell 0 _ rfl
    have z31 := HW3.out.cell 1 _ rfl
    have z32 := HW3.out.cell 2 _ rfl
    have z40 := HW4.out.cell 0 _ rfl
    have z41 := HW4.out.cell 1 _ rfl
    have z42 := HW4.out.cell 2 _ rfl
    have z50 := HW5.out.cell 0 _ rfl
    have z51 := HW5.out.cell 1 _ rfl
    have z52 := HW5.out.cell 2 _ rfl
    have z60 := HW6.out.cell 0 _ rfl
    have z61 := HW6.out.cell 1 _ rfl
    have z62 := HW6.out.cell 2 _ rfl
    go_wp2_with fail
    refine (sphase_any B b _ _ _ (n : Int) 4 (by rw [phaseI_nat]; exact phase_off HO.out 4) _ HK6.out).mono ?_
    rintro e w7 ⟨rfl, hb7⟩
    have HF7 := hid' (HF6.out.trans (hb7.mono HK6.out.size))
    have HK7 := hid' (HK6.out.keep hb7)
    clear hb7 z20 z21 z22 z30 z31 z32 z40 z41 z42 z50 z51 z52 z60 z61 z62
    go_wp2_with fail
    refine (sopen_any B b _ _ _ _ HK7.out).mono ?_
    rintro e w8 ⟨⟨r8, rfl, hown8⟩, hb8⟩
    have HF8 := hid' (HF7.out.trans (hb8.mono HK7.out.size))
    have HK8 := hid' (HK7.out.keep hb8)
    obtain ⟨ao8, cap8, hr8⟩ := own_shape hown8
    simp only [List.length_nil] at hr8
    subst hr8
    clear hb8 hown8
    go_wp2_with fail
    refine (sdo_to B b _ ⟨4, n, [], [], false, 0⟩ _ _ 1 (n : Int) true ⟨4,true,true,5,false⟩ (wholeO HO.out HN.out rfl rfl) _ HK8.out).mono ?_
    rintro e wa9 ⟨rfl, ⟨va9, ua9, hk9⟩, hf9⟩
    simp only [doV]
    have HKa9 := hid' hk9
    have HFa9 := hid' (HF8.out.trans hf9.bel)
    clear hk9 hf9
    go_wp2_with (refine wpl_alloc 29 rfl rfl _ szeroW ?_)
    intro c9 wb9 hg9 ha9 hb9
    have HKb9 := hid' (HKa9.out.keep hb9)
    have HFb9 := hid' (HFa9.out.trans (hb9.mono HKa9.out.size))
    have HGB9 := hid' (Nat.le_trans HKa9.out.size hg9)
    have HAb9 := hid' ha9
    clear hb9 ha9 hg9
    go_wp2_with (refine wpl_store 29 _ _ rfl rfl c9 #[.bool true, .bool true, .int .i64 5] (by kernel_rfl) (by kernel_rfl) _ _ HAb9.out ssizeW rfl (by simp [Value.oneCell']) ?_)
    intro w9 hw9 hu9
    have HW9 := hid' hw9
    have HK9 := hid' (HKb9.out.other hu9 HAb9.out (by decide) (by decide) (by decide))
    have HF9 := hid' (HFb9.out.trans (hu9.below HGB9.out))
    clear hw9 hu9
    go_wp2_with fail
    refine (awake8 _).mono ?_
    rintro e w10 ⟨rfl, hb10⟩
    have HWa := hid' (HW9.out.keep hb10)
    have HFa := hid' (HF9.out.trans (hb10.mono HK9.out.size))
    clear hb10
    have z90 := HWa.out.cell 0 _ rfl
    have z91 := HWa.out.cell 1 _ rfl
    have z92 := HWa.out.cell 2 _ rfl
    go_wp2
    go_ret
    exact ⟨rfl, HFa.out⟩

set_option maxHeartbeats 4000000 in
set_option maxRecDepth 20000 in
theorem streamWhole_true (id : Int) (fb : Bool) (w : World) :
    Calls Try.prog 7 #[.int .i64 id, .bool fb] w fun e w' => e = .returned (.bool true) ∧ Below w.heap.size w w' := by
  by_cases h1 : id < 1
  · have h1' : decide (id < 1) = true := decide_eq_true h1
    go_enter Try.func7, Try.ntmps7
    go_wp2_with fail
    refine (snew_yes 4 (by omega) (by omega) w).mono ?_
    rintro e w1 ⟨⟨b, rfl, v1, u1, hk1⟩, hb1⟩
    have HF1 := hid' hb1
    clear hk1 hb1
    go_wp2_with fail
    refine (awake8 _).mono ?_
    rintro e w2 ⟨rfl, hb2⟩
    have HF2 := hid' (below_two HF1.out hb2)
    clear hb2
    go_wp2
    go_ret
    exact ⟨rfl, HF2.out⟩
  by_cases h2 : id % 2 = 1
  · by_cases h3 : 2147483647 < id
    · have t2 : id.tmod 2 = 1 := by rw [Int.tmod_eq_emod_of_nonneg (by omega)]; exact h2
      go_enter Try.func7, Try.ntmps7
      go_wp2_with fail
      refine (snew_yes 4 (by omega) (by omega) w).mono ?_
      rintro e w1 ⟨⟨b, rfl, v1, u1, hk1⟩, hb1⟩
      have HF1 := hid' hb1
      clear hk1 hb1
      go_wp2_with fail
      refine (awake8 _).mono ?_
      rintro e w2 ⟨rfl, hb2⟩
      have HF2 := hid' (below_two HF1.out hb2)
      clear hb2
      go_wp2
      go_ret
      exact ⟨rfl, HF2.out⟩
    · obtain ⟨n, rfl⟩ : ∃ n : Nat, id = n := ⟨id.toNat, by omega⟩
      exact streamWhole_good n (by omega) (by omega) fb w
  · have h2' : id % 2 = 0 := by omega
    have t2 : id.tmod 2 = 0 := by rw [Int.tmod_eq_emod_of_nonneg (by omega)]; exact h2'
    clear h2
    go_enter Try.func7, Try.ntmps7
    go_wp2_with fail
    refine (snew_yes 4 (by omega) (by omega) w).mono ?_
    rintro e w1 ⟨⟨b, rfl, v1, u1, hk1⟩, hb1⟩
    have HF1 := hid' hb1
    clear hk1 hb1
    go_wp2_with fail
    refine (awake8 _).mono ?_
    rintro e w2 ⟨rfl, hb2⟩
    have HF2 := hid' (below_two HF1.out hb2)
    clear hb2
    go_wp2
    go_ret
    exact ⟨rfl, HF2.out⟩

end Go.Proofs.Ythgdokcdpmoeeaa
