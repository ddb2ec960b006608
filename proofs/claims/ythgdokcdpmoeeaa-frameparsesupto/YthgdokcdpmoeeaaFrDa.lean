/-
  ostlerref07.connection, stream, flag: by their contracts.
-/
import Derived.Test.YthgdokcdpmoeeaaFrRa
namespace Go.Proofs.Ythgdokcdpmoeeaa
open Go.RowKit

theorem rconn_any (c : Int) (w : World) : Calls Try.prog 29 #[.int .i64 c] w fun e w' => e = .returned (.agg (wgC true true c)) ∧ Below w.heap.size w w' := by
  go_enter Try.func29, Try.ntmps29
  go_wp2_with (refine wpl_alloc 29 rfl rfl _ zeroWrong ?_)
  intro b0 w0 hg0 ha0 hb0
  go_wp2_with (refine wpl_stw _ _ rfl rfl b0 true true c (by kernel_rfl) (by kernel_rfl) _ ha0 rfl ?_)
  intro w1 ha1 hu1
  go_wp2
  exact bodyPost_ret (v := .agg (wgC true true c)) (by simp [results, Try.results29, asAddr, ldw ha1]) rfl ⟨rfl, hb0.trans (hu1.below hg0)⟩

theorem rstream_any (c : Int) (w : World) : Calls Try.prog 30 #[.int .i64 c] w fun e w' => e = .returned (.agg (wgC true false c)) ∧ Below w.heap.size w w' := by
  go_enter Try.func30, Try.ntmps30
  go_wp2_with (refine wpl_alloc 29 rfl rfl _ zeroWrong ?_)
  intro b0 w0 hg0 ha0 hb0
  go_wp2_with (refine wpl_stw _ _ rfl rfl b0 true false c (by kernel_rfl) (by kernel_rfl) _ ha0 rfl ?_)
  intro w1 ha1 hu1
  go_wp2
  exact bodyPost_ret (v := .agg (wgC true false c)) (by simp [results, Try.results30, asAddr, ldw ha1]) rfl ⟨rfl, hb0.trans (hu1.below hg0)⟩

set_option maxHeartbeats 4000000 in
set_option maxRecDepth 20000 in
theorem rflag_any (k fl st : Int) (l : List UInt8) (b : Int) (r : Bool) (hb : b = 1 ∨ b = 8 ∨ b = 32) (hr : Fm.has fl b = r) (w : World) : Calls Try.prog 60 #[.agg (frC k fl st l), .int .i64 b] w fun e w' => e = .returned (.bool r) ∧ Below w.heap.size w w' := by
  obtain ⟨q, hq⟩ : ∃ q, fl.tmod (2 * b) = q := ⟨_, rfl⟩
  have hqe : q = if 0 ≤ fl then fl % (2 * b) else -((-fl) % (2 * b)) := by
    rw [← hq]
    by_cases h : 0 ≤ fl
    · rw [if_pos h, Int.tmod_eq_emod_of_nonneg h]
    · rw [if_neg h, ← Int.tmod_eq_emod_of_nonneg (show 0 ≤ -fl by omega), Int.neg_tmod, Int.neg_neg]
  have hfour : q < 2 * b ∧ -(2 * b) < q ∧ fl % (2 * b) = (if q < 0 then q + 2 * b else q) := by
    rcases hb with rfl | rfl | rfl <;> (rw [hqe]; repeat' split) <;> omega
  obtain ⟨hlt, hgt, hem⟩ := hfour
  obtain ⟨b2, hb2⟩ : ∃ b2, 2 * b = b2 := ⟨_, rfl⟩
  have hne : (b2 == 0) = false := beq_false_of_ne (by omega)
  have hw2 : b2 ≤ 64 := by omega
  have hw3 : 2 ≤ b2 := by omega
  rw [hb2] at hq hlt hgt hem
  have hbb : b ≤ 32 := by omega
  have hbp : 1 ≤ b := by omega
  have HR : Hid (r = decide (b ≤ if q < 0 then q + b2 else q)) := hid' (by rw [← hr]; unfold Fm.has; rw [hb2, hem])
  clear hr hem hb hqe
  unfold frC
  by_cases h0 : q < 0
  · have d0 : decide (q < 0) = true := decide_eq_true h0
    have HR2 : Hid (r = decide (b ≤ q + b2)) := hid' (by rw [HR.out, if_pos h0])
    clear HR h0
    go_enter Try.func60, Try.ntmps60
    go_wp2
    go_ret
    exact ⟨ret_bool HR2.out.symm, (Below.refl _ _).alloc (Nat.le_refl _) _⟩
  · have d0 : decide (q < 0) = false := decide_eq_false h0
    have HR2 : Hid (r = decide (b ≤ q)) := hid' (by rw [HR.out, if_neg h0])
    clear HR h0
    go_enter Try.func60, Try.ntmps60
    go_wp2
    go_ret
    exact ⟨ret_bool HR2.out.symm, (Below.refl _ _).alloc (Nat.le_refl _) _⟩

end Go.Proofs.Ythgdokcdpmoeeaa
