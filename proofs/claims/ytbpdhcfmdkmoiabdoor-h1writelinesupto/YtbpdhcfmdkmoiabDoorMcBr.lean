/-
  The code's Bare: by its contract.
-/
import Derived.Test.YtbpdhcfmdkmoiabDoorHuffM
import Derived.Test.YtbpdhcfmdkmoiabDoorProg
namespace Go.Proofs.YtbpdhcfmdkmoiabDoor
open Go.RowKit

namespace Ms
def bare (m : ByteArray) (s : Int) : Bool := m.toList == [72, 69, 65, 68] || (decide (100 ≤ s) && decide (s ≤ 199)) || s == 204 || s == 304
end Ms

set_option maxHeartbeats 2000000 in
theorem cbare14 (m : ByteArray) (s : Int) (r : Bool) (hr : Ms.bare m s = r) (w : World) :
    Calls Tryd.prog 9 #[.string m, .int .i64 s] w fun e w' => e = .returned (.bool r) ∧ w' = w := by
  have HR := hid' hr
  unfold Ms.bare at HR
  clear hr
  cases c1 : (m.toList == [72, 69, 65, 68])
  rotate_left
  · have HF : Hid (r = true) := hid' (by rw [← HR.out, c1]; simp)
    by_cases d1 : 100 ≤ s
    · by_cases d2 : s < 200
      · have d3 : s ≤ 199 := by omega
        go_enter Tryd.func9, Tryd.ntmps9
        go_wp2
        go_ret
        exact ⟨by rw [HF.out]; rfl, rfl⟩
      · have d3 : ¬ s ≤ 199 := by omega
        go_enter Tryd.func9, Tryd.ntmps9
        go_wp2
        go_ret
        exact ⟨by rw [HF.out]; rfl, rfl⟩
    · go_enter Tryd.func9, Tryd.ntmps9
      go_wp2
      go_ret
      exact ⟨by rw [HF.out]; rfl, rfl⟩
  by_cases d1 : 100 ≤ s
  · by_cases d2 : s < 200
    · have d3 : s ≤ 199 := by omega
      have HF : Hid (r = true) := hid' (by rw [← HR.out, c1, decide_eq_true d1, decide_eq_true d3]; rfl)
      go_enter Tryd.func9, Tryd.ntmps9
      go_wp2
      go_ret
      exact ⟨by rw [HF.out]; rfl, rfl⟩
    · have d3 : ¬ s ≤ 199 := by omega
      cases c2 : (s == 204)
      · have HF : Hid (r = (s == 304)) := hid' (by rw [← HR.out, c1, decide_eq_true d1, decide_eq_false d3, c2]; rfl)
        go_enter Tryd.func9, Tryd.ntmps9
        go_wp2
        go_ret
        exact ⟨by rw [HF.out]; rfl, rfl⟩
      · have HF : Hid (r = true) := hid' (by rw [← HR.out, c2]; simp)
        go_enter Tryd.func9, Tryd.ntmps9
        go_wp2
        go_ret
        exact ⟨by rw [HF.out]; rfl, rfl⟩
  · have c2 : (s == 204) = false := beq_false_of_ne (by omega)
    have c3 : (s == 304) = false := beq_false_of_ne (by omega)
    have HF : Hid (r = false) := hid' (by rw [← HR.out, c1, decide_eq_false d1, c2, c3]; rfl)
    go_enter Tryd.func9, Tryd.ntmps9
    go_wp2
    go_ret
    exact ⟨by rw [HF.out]; rfl, rfl⟩

end Go.Proofs.YtbpdhcfmdkmoiabDoor
