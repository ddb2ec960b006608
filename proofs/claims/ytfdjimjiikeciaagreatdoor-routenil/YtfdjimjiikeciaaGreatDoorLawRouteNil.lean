/-
  RouteNil: its contract.
-/
import Derived.Test.YtfdjimjiikeciaaGreatDoorRtY
namespace Go.Proofs.YtfdjimjiikeciaaGreatDoor
open Go.RowKit

set_option maxHeartbeats 2000000 in
set_option maxRecDepth 20000 in
theorem routeNil_any (s t : ByteArray) (w : World) :
    Calls Tryz.prog 6 #[.agg #[.string s, .string t]] w fun e w' => e = .returned (.bool true) ∧ Below w.heap.size w w' := by
  have HB0 := hid' (bl_alloc17 w (.cells #[.string s, .string t] 38))
  have HS := hid' (fun W => rsame18 0 0 ⟨#[]⟩ none none 0 0 0 [] rfl (by decide) W (PM18.nil _ _) (PM18.nil _ _))
  go_enter Tryz.func6, Tryz.ntmps6
  go_wp2_with fail
  refine (cfindN18 s t _).mono ?_
  rintro e w1 ⟨rfl, hb1⟩
  have HB1 := hid' (below_two HB0.out hb1)
  clear hb1 HB0
  go_wp2_with fail
  refine (HS.out _).mono ?_
  rintro e w2 ⟨rfl, hb2⟩
  have HB2 := hid' (below_two HB1.out hb2)
  clear hb2 HB1
  go_wp2_with fail
  refine (awake18 _).mono ?_
  rintro e w3 ⟨rfl, hb3⟩
  have HB3 := hid' (below_two HB2.out hb3)
  clear hb3
  go_wp2
  go_ret
  exact ⟨rfl, HB3.out⟩

end Go.Proofs.YtfdjimjiikeciaaGreatDoor
