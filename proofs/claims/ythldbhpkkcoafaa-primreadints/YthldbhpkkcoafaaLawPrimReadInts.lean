/-
  The law PrimReadInts, by its contract.
-/
import Derived.Test.YthldbhpkkcoafaaPrimS
namespace Go.Proofs.Ythldbhpkkcoafaa
open Go.RowKit

theorem readInt_both (s : ByteArray) (b : Int) : ∃ R, (∀ w, Calls Try.prog 12 #[.string s, .int .i64 b] w fun e w' => e = .returned (Pm.rV R) ∧ Below w.heap.size w w') ∧ (∀ w, Calls Try.prog 13 #[.string s, .int .i64 b] w fun e w' => e = .returned (Pm.rV R) ∧ Below w.heap.size w w') := by
  by_cases hb : 1 ≤ b ∧ b ≤ 8
  · obtain ⟨bN, rfl⟩ : ∃ bN : Nat, b = (bN : Int) := ⟨b.toNat, by omega⟩
    refine ⟨Pm.rd bN s.data.toList, fun w => readInt_any s bN (by omega) (by omega) w, fun w => (rreadInt_any s bN (by omega) (by omega) w).mono ?_⟩
    rintro e w' ⟨rfl, rfl⟩
    exact ⟨rfl, Below.refl _ _⟩
  · refine ⟨.arg, fun w => (readInt_arg s b hb w).mono ?_, fun w => (rreadInt_arg s b hb w).mono ?_⟩
    · rintro e w' ⟨rfl, rfl⟩
      exact ⟨rfl, Below.refl _ _⟩
    · rintro e w' ⟨rfl, rfl⟩
      exact ⟨rfl, Below.refl _ _⟩

set_option maxHeartbeats 1000000 in
set_option maxRecDepth 20000 in
theorem primReadInts_any (s : ByteArray) (b : Int) (w : World) :
    Calls Try.prog 4 #[.string s, .int .i64 b] w fun e w' => e = .returned (.bool true) ∧ Below w.heap.size w w' := by
  obtain ⟨R, h1, h2⟩ := readInt_both s b
  have H1 := hid' h1
  have H2 := hid' h2
  clear h1 h2
  cases R with
  | _ =>
    go_enter Try.func4, Try.ntmps4
    go_wp2_with fail
    refine (H1.out _).mono ?_
    rintro e w1 ⟨rfl, hb1⟩
    have HB1 := hid' hb1
    clear hb1
    simp only [Pm.rV]
    go_wp2_with fail
    refine (H2.out _).mono ?_
    rintro e w2 ⟨rfl, hb2⟩
    have HB2 := hid' (below_two HB1.out hb2)
    clear hb2 HB1
    simp only [Pm.rV]
    go_wp2_with fail
    refine (awake_any _).mono ?_
    rintro e w3 ⟨rfl, hb3⟩
    have HB3 := hid' (below_two HB2.out hb3)
    clear hb3 HB2
    go_wp2
    go_ret
    exact ⟨rfl, HB3.out⟩

end Go.Proofs.Ythldbhpkkcoafaa
