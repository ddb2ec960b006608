/-
  The law PrimReadStrs, by its contract.
-/
import Derived.Test.YthldbhpkkcoafaaPrimT
namespace Go.Proofs.Ythldbhpkkcoafaa
open Go.RowKit

set_option maxHeartbeats 1000000 in
set_option maxRecDepth 20000 in
theorem primReadStrs_any (s : ByteArray) (most : Int) (w : World) (hs : s.size ≤ 140737488355328) :
    Calls Try.prog 6 #[.string s, .int .i64 most] w fun e w' => e = .returned (.bool true) ∧ Below w.heap.size w w' := by
  obtain ⟨M, hM⟩ : ∃ M : Nat, max most 0 = (M : Int) := ⟨(max most 0).toNat, by omega⟩
  have H1 : Hid (∀ w, Calls Try.prog 16 #[.string s, .int .i64 most] w fun e w' => e = .returned (Pm.sV (Pm.rs M s.data.toList)) ∧ Below w.heap.size w w') := hid' (fun w => readStr_any s most M hM (by omega) w)
  have H2 : Hid (∀ w, Calls Try.prog 17 #[.string s, .int .i64 most] w fun e w' => e = .returned (Pm.sV (Pm.rs M s.data.toList)) ∧ Below w.heap.size w w') := hid' (fun w => rreadStr_any s most M hM (by omega) w)
  clear hM
  generalize Pm.rs M s.data.toList = R at H1 H2
  cases R with
  | ok t k =>
    have htt : (t == t) = true := by simp
    go_enter Try.func6, Try.ntmps6
    go_wp2_with fail
    refine (H1.out _).mono ?_
    rintro e w1 ⟨rfl, hb1⟩
    have HB1 := hid' hb1
    clear hb1
    simp only [Pm.sV]
    go_wp2_with fail
    refine (H2.out _).mono ?_
    rintro e w2 ⟨rfl, hb2⟩
    have HB2 := hid' (below_two HB1.out hb2)
    clear hb2 HB1
    simp only [Pm.sV]
    go_wp2_with fail
    refine (awake_any _).mono ?_
    rintro e w3 ⟨rfl, hb3⟩
    have HB3 := hid' (below_two HB2.out hb3)
    clear hb3 HB2
    go_wp2
    go_ret
    exact ⟨rfl, HB3.out⟩
  | err x =>
    go_enter Try.func6, Try.ntmps6
    go_wp2_with fail
    refine (H1.out _).mono ?_
    rintro e w1 ⟨rfl, hb1⟩
    have HB1 := hid' hb1
    clear hb1
    simp only [Pm.sV]
    go_wp2_with fail
    refine (H2.out _).mono ?_
    rintro e w2 ⟨rfl, hb2⟩
    have HB2 := hid' (below_two HB1.out hb2)
    clear hb2 HB1
    simp only [Pm.sV]
    go_wp2_with fail
    refine (awake_any _).mono ?_
    rintro e w3 ⟨rfl, hb3⟩
    have HB3 := hid' (below_two HB2.out hb3)
    clear hb3 HB2
    go_wp2
    go_ret
    exact ⟨rfl, HB3.out⟩

end Go.Proofs.Ythldbhpkkcoafaa
