/-
  The law PrimInts, by its contract.
-/
import Derived.Test.YthldbhpkkcoafaaPrimR
namespace Go.Proofs.Ythldbhpkkcoafaa
open Go.RowKit

set_option maxHeartbeats 1000000 in
set_option maxRecDepth 20000 in
theorem primInts_any (h b n : Int) (w : World) (h0 : 0 ≤ h) (h1 : h ≤ 255) :
    Calls Try.prog 3 #[.int .u8 h, .int .i64 b, .int .i64 n] w fun e w' => e = .returned (.bool true) ∧ Below w.heap.size w w' := by
  obtain ⟨hN, rfl⟩ : ∃ hN : Nat, h = (hN : Int) := ⟨h.toNat, by omega⟩
  have hh : hN < 256 := by omega
  by_cases hok : 1 ≤ b ∧ b ≤ 8 ∧ 0 ≤ n ∧ n ≤ 2147483647 ∧ hN % 2 ^ b.toNat = 0
  · obtain ⟨bN, rfl⟩ : ∃ bN : Nat, b = (bN : Int) := ⟨b.toNat, by omega⟩
    obtain ⟨nN, rfl⟩ : ∃ nN : Nat, n = (nN : Int) := ⟨n.toNat, by omega⟩
    rw [Int.toNat_natCast] at hok
    obtain ⟨k1, k2, k3, k4, hm⟩ := hok
    have b1 : 1 ≤ bN := by omega
    have b8 : bN ≤ 8 := by omega
    have n31 : nN ≤ 2147483647 := by omega
    obtain ⟨a, ha⟩ : ∃ a, Pm.num hN bN nN = a := ⟨_, rfl⟩
    have HA := hid' ha
    have HM := hid' hm
    have HRF : Hid (∀ w, Calls Try.prog 10 #[.int .u8 (hN : Int), .int .i64 (bN : Int), .int .i64 (nN : Int)] w fun e w' => e = .returned (.tuple #[.string ⟨a.toArray⟩, .int .i64 0]) ∧ Below w.heap.size w w') := hid' (fun w => by rw [← ha]; exact rint_ok hN bN nN hh b1 b8 hm n31 w)
    have haa : (a == a) = true := by simp
    clear ha hm
    go_enter Try.func3, Try.ntmps3
    go_wp2_with fail
    refine (int_at hN bN nN a HA.out hh b1 b8 HM.out n31 _).mono ?_
    rintro e w1 ⟨rfl, hb1⟩
    have HB1 := hid' hb1
    clear hb1
    go_wp2_with fail
    refine (HRF.out _).mono ?_
    rintro e w2 ⟨rfl, hb2⟩
    have HB2 := hid' (below_two HB1.out hb2)
    clear hb2 HB1
    go_wp2_with fail
    refine (awake_any _).mono ?_
    rintro e w3 ⟨rfl, hb3⟩
    have HB3 := hid' (below_two HB2.out hb3)
    clear hb3 HB2
    go_wp2
    go_ret
    exact ⟨rfl, HB3.out⟩
  · have HOK := hid' hok
    clear hok
    go_enter Try.func3, Try.ntmps3
    go_wp2_with fail
    refine (int_arg hN b n hh HOK.out _).mono ?_
    rintro e w1 ⟨rfl, rfl⟩
    go_wp2_with fail
    refine (rint_arg hN b n hh HOK.out _).mono ?_
    rintro e w2 ⟨rfl, rfl⟩
    go_wp2_with fail
    refine (awake_any _).mono ?_
    rintro e w3 ⟨rfl, hb3⟩
    have HB3 := hid' hb3
    clear hb3
    go_wp2
    go_ret
    exact ⟨rfl, HB3.out⟩

end Go.Proofs.Ythldbhpkkcoafaa
