/-
  The law PrimStrs, by its contract.
-/
import Derived.Test.YthldbhpkkcoafaaPrimT
namespace Go.Proofs.Ythldbhpkkcoafaa
open Go.RowKit

set_option maxHeartbeats 1000000 in
theorem primStrs_any (s : ByteArray) (w : World) (hs : s.size ≤ 1048576) :
    Calls Try.prog 5 #[.string s] w fun e w' => e = .returned (.bool true) ∧ Below w.heap.size w w' := by
  obtain ⟨l, hl⟩ : ∃ l, s.data.toList = l := ⟨_, rfl⟩
  obtain rfl : s = ⟨l.toArray⟩ := by rw [← hl]
  clear hl
  rw [size_l] at hs
  obtain ⟨t, ht⟩ : ∃ t, Pm.str l = t := ⟨_, rfl⟩
  have HT := hid' ht
  have htt : (t == t) = true := by simp
  clear ht
  go_enter Try.func5, Try.ntmps5
  go_wp2_with fail
  refine (awake_any _).mono ?_
  rintro e w1 ⟨rfl, hb1⟩
  have HB1 := hid' hb1
  clear hb1
  go_wp2_with fail
  refine (str_at l t HT.out (by omega) _).mono ?_
  rintro e w2 ⟨rfl, hb2⟩
  have HB2 := hid' (below_two HB1.out hb2)
  clear hb2 HB1
  go_wp2_with fail
  refine (rstr_at l t HT.out (by omega) _).mono ?_
  rintro e w3 ⟨rfl, hb3⟩
  have HB3 := hid' (below_two HB2.out hb3)
  clear hb3 HB2
  go_wp2
  go_ret
  exact ⟨rfl, HB3.out⟩

end Go.Proofs.Ythldbhpkkcoafaa
