/-
  The law TextLowers, by its contract: it returns true for every two texts.
-/
import Derived.Test.YtpngddfehaonhaaDoorAwake
import Derived.Test.YtpngddfehaonhaaDoorLowersR
namespace Go.Proofs.YtpngddfehaonhaaDoor
open Go.RowKit

set_option maxHeartbeats 1000000 in
theorem textLowers_any (a b : ByteArray) (w : World) (ha : a.size ≤ maxLen) (hb : b.size ≤ maxLen) (htab : Lib.TabIs Tryd.prog w "internal/strconv.uint64pow10" .u64 Lib.pow10Tab) :
    Calls Tryd.prog 4 #[.string a, .string b] w fun e w' => e = .returned (.bool true) ∧ Below w.heap.size w w' := by
  have HT := hid htab
  clear htab
  go_enter Tryd.func4, Tryd.ntmps4
  go_wp2_with fail
  refine (awake_any _ HT.out).mono ?_
  rintro e w1 ⟨rfl, hb1⟩
  have HB1 := hid hb1
  clear hb1
  go_wp2_with fail
  refine (lower_any a _ ha).mono ?_
  rintro e w2 ⟨rfl, hb2⟩
  have HB2 := hid (below_two HB1.out hb2)
  clear hb2 HB1
  go_wp2_with fail
  refine (rLower_any a _ ha).mono ?_
  rintro e w3 ⟨rfl, hb3⟩
  have HB3 := hid (below_two HB2.out hb3)
  clear hb3 HB2
  have heq : (Tx.lower a.data.toList == Tx.lower a.data.toList) = true := by simp
  go_wp2_with fail
  refine (same_any a b _ ha hb).mono ?_
  rintro e w4 ⟨rfl, hb4⟩
  have HB4 := hid (below_two HB3.out hb4)
  clear hb4 HB3
  go_wp2_with fail
  refine (rSame_any a b _ ha hb).mono ?_
  rintro e w5 ⟨rfl, hb5⟩
  have HB5 := hid (below_two HB4.out hb5)
  clear hb5 HB4
  generalize (Tx.lower a.data.toList == Tx.lower b.data.toList) = q
  have hq : (q == q) = true := by simp
  go_wp2_with fail
  refine (trim_any a _ ha).mono ?_
  rintro e w6 ⟨rfl, rfl⟩
  go_wp2_with fail
  refine (rTrim_any a _ ha).mono ?_
  rintro e w7 ⟨rfl, rfl⟩
  have heq : (Tx.trim a.data.toList == Tx.trim a.data.toList) = true := by simp
  go_wp2
  go_ret
  exact ⟨rfl, HB5.out⟩

end Go.Proofs.YtpngddfehaonhaaDoor
