/-
  The law PrioParses, by its contract: it returns true for every text.
-/
import Derived.Test.YtekpjbhhbklboaaDoorPrW
import Derived.Test.YtekpjbhhbklboaaDoorPrX
namespace Go.Proofs.YtekpjbhhbklboaaDoor
open Go.RowKit

set_option maxHeartbeats 1000000 in
theorem prioParses_any (s : ByteArray) (w : World) (hs : s.size + 2 ≤ 8796093022208) :
    Calls Tryd.prog 3 #[.string s] w fun e w' => e = .returned (.bool true) ∧ Below w.heap.size w w' := by
  obtain ⟨u, p, hup⟩ : ∃ u p, Pr.parse s.data.toList = (u, p) := ⟨_, _, rfl⟩
  have HUP := hid' hup
  have HS := hid' hs
  have heq := eqp_yes (u : Int) p
  clear hup hs
  go_enter Tryd.func3, Tryd.ntmps3
  go_wp2_with fail
  refine (awake_any _).mono ?_
  rintro e w1 ⟨rfl, hb1⟩
  have HB1 := hid' hb1
  clear hb1
  go_wp2_with fail
  refine (cparse_any s _ HS.out u p HUP.out).mono ?_
  rintro e w2 ⟨rfl, hb2⟩
  have HB2 := hid' (below_two HB1.out hb2)
  clear hb2
  go_wp2_with fail
  refine (rparse_any s _ HS.out u p HUP.out).mono ?_
  rintro e w3 ⟨rfl, hb3⟩
  have HB3 := hid' (below_two HB2.out hb3)
  clear hb3
  go_wp2
  go_ret
  exact ⟨rfl, HB3.out⟩

end Go.Proofs.YtekpjbhhbklboaaDoor
