/-
  The law TextTokens, by its contract: it returns true for every text.
-/
import Derived.Test.YtpngddfehaonhaaDoorAwake
namespace Go.Proofs.YtpngddfehaonhaaDoor
open Go.RowKit

set_option maxHeartbeats 1000000 in
theorem textTokens_any (s : ByteArray) (w : World) (hs : s.size ≤ maxLen) (htab : Lib.TabIs Tryd.prog w "internal/strconv.uint64pow10" .u64 Lib.pow10Tab) :
    Calls Tryd.prog 3 #[.string s] w fun e w' => e = .returned (.bool true) ∧ Below w.heap.size w w' := by
  have HT := hid htab
  clear htab
  go_enter Tryd.func3, Tryd.ntmps3
  go_wp2_with fail
  refine (awake_any _ HT.out).mono ?_
  rintro e w1 ⟨rfl, hb1⟩
  have HB := hid hb1
  clear hb1
  go_wp2_with fail
  refine (token_any s _ hs).mono ?_
  rintro e w2 ⟨rfl, rfl⟩
  go_wp2_with fail
  refine (rToken_any s _ hs).mono ?_
  rintro e w2 ⟨rfl, rfl⟩
  have heq : (Tx.isTok s.data.toList == Tx.isTok s.data.toList) = true := by simp
  go_wp2_with fail
  refine (value_any s _ hs).mono ?_
  rintro e w2 ⟨rfl, rfl⟩
  go_wp2_with fail
  refine (rValue_any s _ hs).mono ?_
  rintro e w2 ⟨rfl, rfl⟩
  have heq : (Tx.isVal s.data.toList == Tx.isVal s.data.toList) = true := by simp
  go_wp2
  go_ret
  exact ⟨rfl, HB.out⟩

end Go.Proofs.YtpngddfehaonhaaDoor
