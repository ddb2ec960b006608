/-
  The law HuffEncodes, by its contract.
-/
import Derived.Test.YtojfbeldoemmoaaHuffVE
namespace Go.Proofs.Ytojfbeldoemmoaa
open Go.RowKit

set_option maxHeartbeats 1000000 in
theorem huffEncodes_any (s : ByteArray) (w : World) (hs : s.size ≤ 1048576) :
    Calls Try.prog 3 #[.string s] w fun e w' => e = .returned (.bool true) ∧ Below w.heap.size w w' := by
  obtain ⟨l, hl⟩ : ∃ l, s.data.toList = l := ⟨_, rfl⟩
  obtain rfl : s = ⟨l.toArray⟩ := by rw [← hl]
  clear hl
  have HS := hid' hs
  rw [size_l] at hs
  obtain ⟨c, hc⟩ : ∃ c, Hf.enc l = c := ⟨_, rfl⟩
  have HC := hid' hc
  have HSZ : Hid ((Hf.enc l).length = c.length) := hid' (by rw [hc])
  have HRF : Hid (∀ w, Calls Try.prog 9 #[.string ⟨l.toArray⟩] w fun e w' => e = .returned (.string ⟨c.toArray⟩) ∧ Below w.heap.size w w') := hid' (fun w => by rw [← hc]; exact rencode_any ⟨l.toArray⟩ HS.out w)
  have hq : (c == c) = true := by simp
  clear hc
  go_enter Try.func3, Try.ntmps3
  go_wp2_with fail
  refine (HRF.out _).mono ?_
  rintro e w1 ⟨rfl, hb1⟩
  have HB1 := hid' hb1
  clear hb1
  go_wp2_with fail
  refine (awake_any _).mono ?_
  rintro e w2 ⟨rfl, hb2⟩
  have HB2 := hid' (below_two HB1.out hb2)
  clear hb2 HB1
  go_wp2_with fail
  refine (encode_l l c HC.out (by omega) _).mono ?_
  rintro e w3 ⟨rfl, hb3⟩
  have HB3 := hid' (below_two HB2.out hb3)
  clear hb3 HB2
  go_wp2_with fail
  refine (size_of l c.length HSZ.out (by omega) _).mono ?_
  rintro e w4 ⟨rfl, hb4⟩
  have HB4 := hid' (below_two HB3.out hb4)
  clear hb4 HB3
  go_wp2
  go_ret
  exact ⟨rfl, HB4.out⟩

end Go.Proofs.Ytojfbeldoemmoaa
