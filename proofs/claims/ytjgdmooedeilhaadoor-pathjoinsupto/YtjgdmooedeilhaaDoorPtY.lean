/-
  The laws' awake: by its contract.
-/
import Derived.Test.YtjgdmooedeilhaaDoorPtX
namespace Go.Proofs.YtjgdmooedeilhaaDoor
open Go.RowKit

namespace Pt
def aw1 : T8 := [47, 47, 97, 47, 46, 47, 37, 54, 50, 63, 99, 63, 100]
def aw2 : T8 := [47, 97, 47, 46, 46, 47, 46, 46]
def aw3 : T8 := [47, 47, 97, 47, 98, 47]
def aw4 : T8 := [47, 97, 32, 98, 47, 37]
theorem aw1_is : clean aw1 = ([47, 97, 47, 98], [99, 63, 100], 0) := by decide +kernel
theorem aw2_is : clean aw2 = ([], [], 171) := by decide +kernel
theorem aw3_is : parts aw3 = [[97], [98]] := by decide +kernel
theorem aw4_is : esc aw4 = [47, 97, 37, 50, 48, 98, 47, 37, 50, 53] := by decide +kernel
end Pt

set_option maxHeartbeats 4000000 in
set_option maxRecDepth 20000 in
theorem awake17 (w : World) (hT : CT17 w) : Calls Tryd.prog 14 #[] w fun e w' => e = .returned (.bool true) ∧ Below w.heap.size w w' := by
  have HT := hid' hT
  have H1 := hid' (cclean17 ⟨#[47, 47, 97, 47, 46, 47, 37, 54, 50, 63, 99, 63, 100]⟩ Pt.aw1 rfl w (by decide) hT)
  have H2 := hid' (fun W (h : CT17 W) => cclean17 ⟨#[47, 97, 47, 46, 46, 47, 46, 46]⟩ Pt.aw2 rfl W (by decide) h)
  have H3 := hid' (fun W (h : CT17 W) => cparts17 ⟨#[47, 47, 97, 47, 98, 47]⟩ Pt.aw3 rfl W (by decide) h)
  have H4 := hid' (fun W (h : CT17 W) => cesc17 ⟨#[47, 97, 32, 98, 47, 37]⟩ Pt.aw4 rfl W (by decide) h)
  rw [Pt.aw1_is] at H1
  rw [Pt.aw2_is] at H2
  rw [Pt.aw3_is] at H3
  rw [Pt.aw4_is] at H4
  simp only [clV17] at H1 H2
  clear hT
  go_enter Tryd.func14, Tryd.ntmps14
  go_wp2_with fail
  refine H1.out.mono ?_
  rintro e w1 ⟨rfl, hb1⟩
  have HB1 := hid' hb1
  have HT1 := hid' (HT.out.keep hb1)
  clear hb1
  go_wp2_with fail
  refine (H2.out _ HT1.out).mono ?_
  rintro e w2 ⟨rfl, hb2⟩
  have HB2 := hid' (below_two HB1.out hb2)
  have HT2 := hid' (HT.out.keep HB2.out)
  clear hb2
  go_wp2_with fail
  refine (H3.out _ HT2.out).mono ?_
  rintro e w3 ⟨⟨m, ro, rc, rfl, hm, hown⟩, hb3⟩
  obtain rfl : 2 = m := hm
  have HB3 := hid' (below_two HB2.out hb3)
  have HT3 := hid' (HT.out.keep HB3.out)
  obtain ⟨g, rfl, _, y0⟩ := SR17.own hown 1 [98] rfl
  clear hb3 hown
  go_wp2_with fail
  refine (H4.out _ HT3.out).mono ?_
  rintro e w4 ⟨rfl, hb4⟩
  have HB4 := hid' (below_two HB3.out hb4)
  clear hb4
  go_wp2
  go_ret
  exact ⟨rfl, HB4.out⟩

end Go.Proofs.YtjgdmooedeilhaaDoor
