/-
  The examples that each law of layer 2 holds, by their contracts.
-/
import Derived.Test.YtgnbcoklmflpfaaDoorDateE
namespace Go.Proofs.YtgnbcoklmflpfaaDoor
open Go.RowKit

theorem dated_1994 : Dt.Dated 784111777 [83, 117, 110, 44, 32, 48, 54, 32, 78, 111, 118, 32, 49, 57, 57, 52, 32, 48, 56, 58, 52, 57, 58, 51, 55, 32, 71, 77, 84] :=
  ⟨1994, 10, 6, ⟨by decide, by decide, by decide, by decide, by decide, by decide, by decide, by decide, by decide, by decide, by decide⟩, by decide +kernel⟩
theorem dated_1 : Dt.Dated 1 [84, 104, 117, 44, 32, 48, 49, 32, 74, 97, 110, 32, 49, 57, 55, 48, 32, 48, 48, 58, 48, 48, 58, 48, 49, 32, 71, 77, 84] :=
  ⟨1970, 0, 1, ⟨by decide, by decide, by decide, by decide, by decide, by decide, by decide, by decide, by decide, by decide, by decide⟩, by decide +kernel⟩
theorem dated_none (n : Int) : ¬ Dt.Dated n [70, 114, 105, 44, 32, 48, 49, 32, 74, 97, 110, 32, 49, 57, 55, 48, 32, 48, 48, 58, 48, 48, 58, 48, 49, 32, 71, 77, 84] := by
  intro h
  have e : n = 1 := h.rsec.symm.trans (by decide +kernel)
  subst e
  exact absurd (h.uniq dated_1) (by decide)

set_option maxHeartbeats 1000000 in
theorem awake2_any (w : World) (htab : Lib.TabIs Tryd.prog w "internal/strconv.uint64pow10" .u64 Lib.pow10Tab) :
    Calls Tryd.prog 16 #[] w fun e w' => e = .returned (.bool true) ∧ Below w.heap.size w w' := by
  have HT := hid' htab
  clear htab
  go_enter Tryd.func16, Tryd.ntmps16
  go_wp2_with fail
  refine (format_any 784111777 _ dated_1994 _ HT.out).mono ?_
  rintro e w1 ⟨rfl, hb1⟩
  have HB1 := hid' hb1
  clear hb1
  go_wp2_with fail
  refine (parse_yes 1 _ dated_1 _ (tab_below HT.out HB1.out)).mono ?_
  rintro e w2 ⟨rfl, hb2⟩
  have HB2 := hid' (below_two HB1.out hb2)
  clear hb2 HB1
  go_wp2_with fail
  refine (parse_no ⟨#[70, 114, 105, 44, 32, 48, 49, 32, 74, 97, 110, 32, 49, 57, 55, 48, 32, 48, 48, 58, 48, 48, 58, 48, 49, 32, 71, 77, 84]⟩ dated_none _ (tab_below HT.out HB2.out)).mono ?_
  rintro e w3 ⟨rfl, hb3⟩
  have HB3 := hid' (below_two HB2.out hb3)
  clear hb3 HB2
  go_wp2
  go_ret
  exact ⟨rfl, HB3.out⟩

end Go.Proofs.YtgnbcoklmflpfaaDoor
