/-
  Reason, of the code and of the document: by its contract.
-/
import Derived.Test.YtbpdhcfmdkmoiaaDoorProg
import Derived.Test.YtbpdhcfmdkmoiaaDoorPwAA
import Derived.Test.YtbpdhcfmdkmoiaaDoorPwAG
namespace Go.Proofs.YtbpdhcfmdkmoiaaDoor
open Go.RowKit

set_option maxHeartbeats 4000000 in
set_option maxRecDepth 20000 in
theorem creason22 (s : Int) (w : World) : Calls Tryd.prog 12 #[.int .i64 s] w fun e w' => e = .returned (.string ⟨(Hw.reason s).toArray⟩) ∧ w' = w := by
  cases c0 : (s == 100)
  rotate_left
  · have HF : Hid (Hw.reason s = [67, 111, 110, 116, 105, 110, 117, 101]) := hid' (by unfold Hw.reason Hw.reasons; simp only [List.find?, c0])
    go_enter Tryd.func12, Tryd.ntmps12
    go_wp2
    go_ret
    exact ⟨by rw [HF.out]; rfl, rfl⟩
  cases c1 : (s == 200)
  rotate_left
  · have HF : Hid (Hw.reason s = [79, 75]) := hid' (by unfold Hw.reason Hw.reasons; simp only [List.find?, c0, c1])
    go_enter Tryd.func12, Tryd.ntmps12
    go_wp2
    go_ret
    exact ⟨by rw [HF.out]; rfl, rfl⟩
  cases c2 : (s == 204)
  rotate_left
  · have HF : Hid (Hw.reason s = [78, 111, 32, 67, 111, 110, 116, 101, 110, 116]) := hid' (by unfold Hw.reason Hw.reasons; simp only [List.find?, c0, c1, c2])
    go_enter Tryd.func12, Tryd.ntmps12
    go_wp2
    go_ret
    exact ⟨by rw [HF.out]; rfl, rfl⟩
  cases c3 : (s == 206)
  rotate_left
  · have HF : Hid (Hw.reason s = [80, 97, 114, 116, 105, 97, 108, 32, 67, 111, 110, 116, 101, 110, 116]) := hid' (by unfold Hw.reason Hw.reasons; simp only [List.find?, c0, c1, c2, c3])
    go_enter Tryd.func12, Tryd.ntmps12
    go_wp2
    go_ret
    exact ⟨by rw [HF.out]; rfl, rfl⟩
  cases c4 : (s == 304)
  rotate_left
  · have HF : Hid (Hw.reason s = [78, 111, 116, 32, 77, 111, 100, 105, 102, 105, 101, 100]) := hid' (by unfold Hw.reason Hw.reasons; simp only [List.find?, c0, c1, c2, c3, c4])
    go_enter Tryd.func12, Tryd.ntmps12
    go_wp2
    go_ret
    exact ⟨by rw [HF.out]; rfl, rfl⟩
  cases c5 : (s == 400)
  rotate_left
  · have HF : Hid (Hw.reason s = [66, 97, 100, 32, 82, 101, 113, 117, 101, 115, 116]) := hid' (by unfold Hw.reason Hw.reasons; simp only [List.find?, c0, c1, c2, c3, c4, c5])
    go_enter Tryd.func12, Tryd.ntmps12
    go_wp2
    go_ret
    exact ⟨by rw [HF.out]; rfl, rfl⟩
  cases c6 : (s == 404)
  rotate_left
  · have HF : Hid (Hw.reason s = [78, 111, 116, 32, 70, 111, 117, 110, 100]) := hid' (by unfold Hw.reason Hw.reasons; simp only [List.find?, c0, c1, c2, c3, c4, c5, c6])
    go_enter Tryd.func12, Tryd.ntmps12
    go_wp2
    go_ret
    exact ⟨by rw [HF.out]; rfl, rfl⟩
  cases c7 : (s == 405)
  rotate_left
  · have HF : Hid (Hw.reason s = [77, 101, 116, 104, 111, 100, 32, 78, 111, 116, 32, 65, 108, 108, 111, 119, 101, 100]) := hid' (by unfold Hw.reason Hw.reasons; simp only [List.find?, c0, c1, c2, c3, c4, c5, c6, c7])
    go_enter Tryd.func12, Tryd.ntmps12
    go_wp2
    go_ret
    exact ⟨by rw [HF.out]; rfl, rfl⟩
  cases c8 : (s == 408)
  rotate_left
  · have HF : Hid (Hw.reason s = [82, 101, 113, 117, 101, 115, 116, 32, 84, 105, 109, 101, 111, 117, 116]) := hid' (by unfold Hw.reason Hw.reasons; simp only [List.find?, c0, c1, c2, c3, c4, c5, c6, c7, c8])
    go_enter Tryd.func12, Tryd.ntmps12
    go_wp2
    go_ret
    exact ⟨by rw [HF.out]; rfl, rfl⟩
  cases c9 : (s == 410)
  rotate_left
  · have HF : Hid (Hw.reason s = [71, 111, 110, 101]) := hid' (by unfold Hw.reason Hw.reasons; simp only [List.find?, c0, c1, c2, c3, c4, c5, c6, c7, c8, c9])
    go_enter Tryd.func12, Tryd.ntmps12
    go_wp2
    go_ret
    exact ⟨by rw [HF.out]; rfl, rfl⟩
  cases c10 : (s == 412)
  rotate_left
  · have HF : Hid (Hw.reason s = [80, 114, 101, 99, 111, 110, 100, 105, 116, 105, 111, 110, 32, 70, 97, 105, 108, 101, 100]) := hid' (by unfold Hw.reason Hw.reasons; simp only [List.find?, c0, c1, c2, c3, c4, c5, c6, c7, c8, c9, c10])
    go_enter Tryd.func12, Tryd.ntmps12
    go_wp2
    go_ret
    exact ⟨by rw [HF.out]; rfl, rfl⟩
  cases c11 : (s == 413)
  rotate_left
  · have HF : Hid (Hw.reason s = [67, 111, 110, 116, 101, 110, 116, 32, 84, 111, 111, 32, 76, 97, 114, 103, 101]) := hid' (by unfold Hw.reason Hw.reasons; simp only [List.find?, c0, c1, c2, c3, c4, c5, c6, c7, c8, c9, c10, c11])
    go_enter Tryd.func12, Tryd.ntmps12
    go_wp2
    go_ret
    exact ⟨by rw [HF.out]; rfl, rfl⟩
  cases c12 : (s == 414)
  rotate_left
  · have HF : Hid (Hw.reason s = [85, 82, 73, 32, 84, 111, 111, 32, 76, 111, 110, 103]) := hid' (by unfold Hw.reason Hw.reasons; simp only [List.find?, c0, c1, c2, c3, c4, c5, c6, c7, c8, c9, c10, c11, c12])
    go_enter Tryd.func12, Tryd.ntmps12
    go_wp2
    go_ret
    exact ⟨by rw [HF.out]; rfl, rfl⟩
  cases c13 : (s == 416)
  rotate_left
  · have HF : Hid (Hw.reason s = [82, 97, 110, 103, 101, 32, 78, 111, 116, 32, 83, 97, 116, 105, 115, 102, 105, 97, 98, 108, 101]) := hid' (by unfold Hw.reason Hw.reasons; simp only [List.find?, c0, c1, c2, c3, c4, c5, c6, c7, c8, c9, c10, c11, c12, c13])
    go_enter Tryd.func12, Tryd.ntmps12
    go_wp2
    go_ret
    exact ⟨by rw [HF.out]; rfl, rfl⟩
  cases c14 : (s == 417)
  rotate_left
  · have HF : Hid (Hw.reason s = [69, 120, 112, 101, 99, 116, 97, 116, 105, 111, 110, 32, 70, 97, 105, 108, 101, 100]) := hid' (by unfold Hw.reason Hw.reasons; simp only [List.find?, c0, c1, c2, c3, c4, c5, c6, c7, c8, c9, c10, c11, c12, c13, c14])
    go_enter Tryd.func12, Tryd.ntmps12
    go_wp2
    go_ret
    exact ⟨by rw [HF.out]; rfl, rfl⟩
  cases c15 : (s == 421)
  rotate_left
  · have HF : Hid (Hw.reason s = [77, 105, 115, 100, 105, 114, 101, 99, 116, 101, 100, 32, 82, 101, 113, 117, 101, 115, 116]) := hid' (by unfold Hw.reason Hw.reasons; simp only [List.find?, c0, c1, c2, c3, c4, c5, c6, c7, c8, c9, c10, c11, c12, c13, c14, c15])
    go_enter Tryd.func12, Tryd.ntmps12
    go_wp2
    go_ret
    exact ⟨by rw [HF.out]; rfl, rfl⟩
  cases c16 : (s == 431)
  rotate_left
  · have HF : Hid (Hw.reason s = [82, 101, 113, 117, 101, 115, 116, 32, 72, 101, 97, 100, 101, 114, 32, 70, 105, 101, 108, 100, 115, 32, 84, 111, 111, 32, 76, 97, 114, 103, 101]) := hid' (by unfold Hw.reason Hw.reasons; simp only [List.find?, c0, c1, c2, c3, c4, c5, c6, c7, c8, c9, c10, c11, c12, c13, c14, c15, c16])
    go_enter Tryd.func12, Tryd.ntmps12
    go_wp2
    go_ret
    exact ⟨by rw [HF.out]; rfl, rfl⟩
  cases c17 : (s == 500)
  rotate_left
  · have HF : Hid (Hw.reason s = [73, 110, 116, 101, 114, 110, 97, 108, 32, 83, 101, 114, 118, 101, 114, 32, 69, 114, 114, 111, 114]) := hid' (by unfold Hw.reason Hw.reasons; simp only [List.find?, c0, c1, c2, c3, c4, c5, c6, c7, c8, c9, c10, c11, c12, c13, c14, c15, c16, c17])
    go_enter Tryd.func12, Tryd.ntmps12
    go_wp2
    go_ret
    exact ⟨by rw [HF.out]; rfl, rfl⟩
  cases c18 : (s == 501)
  rotate_left
  · have HF : Hid (Hw.reason s = [78, 111, 116, 32, 73, 109, 112, 108, 101, 109, 101, 110, 116, 101, 100]) := hid' (by unfold Hw.reason Hw.reasons; simp only [List.find?, c0, c1, c2, c3, c4, c5, c6, c7, c8, c9, c10, c11, c12, c13, c14, c15, c16, c17, c18])
    go_enter Tryd.func12, Tryd.ntmps12
    go_wp2
    go_ret
    exact ⟨by rw [HF.out]; rfl, rfl⟩
  cases c19 : (s == 503)
  rotate_left
  · have HF : Hid (Hw.reason s = [83, 101, 114, 118, 105, 99, 101, 32, 85, 110, 97, 118, 97, 105, 108, 97, 98, 108, 101]) := hid' (by unfold Hw.reason Hw.reasons; simp only [List.find?, c0, c1, c2, c3, c4, c5, c6, c7, c8, c9, c10, c11, c12, c13, c14, c15, c16, c17, c18, c19])
    go_enter Tryd.func12, Tryd.ntmps12
    go_wp2
    go_ret
    exact ⟨by rw [HF.out]; rfl, rfl⟩
  cases c20 : (s == 505)
  rotate_left
  · have HF : Hid (Hw.reason s = [72, 84, 84, 80, 32, 86, 101, 114, 115, 105, 111, 110, 32, 78, 111, 116, 32, 83, 117, 112, 112, 111, 114, 116, 101, 100]) := hid' (by unfold Hw.reason Hw.reasons; simp only [List.find?, c0, c1, c2, c3, c4, c5, c6, c7, c8, c9, c10, c11, c12, c13, c14, c15, c16, c17, c18, c19, c20])
    go_enter Tryd.func12, Tryd.ntmps12
    go_wp2
    go_ret
    exact ⟨by rw [HF.out]; rfl, rfl⟩
  have HF : Hid (Hw.reason s = Hw.sStatus) := hid' (by unfold Hw.reason Hw.reasons; simp only [List.find?, c0, c1, c2, c3, c4, c5, c6, c7, c8, c9, c10, c11, c12, c13, c14, c15, c16, c17, c18, c19, c20])
  go_enter Tryd.func12, Tryd.ntmps12
  go_wp2
  go_ret
  exact ⟨by rw [HF.out]; rfl, rfl⟩

set_option maxHeartbeats 4000000 in
set_option maxRecDepth 20000 in
theorem rreason22 (s : Int) (w : World) : Calls Tryd.prog 13 #[.int .i64 s] w fun e w' => e = .returned (.string ⟨(Hw.reason s).toArray⟩) ∧ w' = w := by
  cases c0 : (s == 100)
  rotate_left
  · have HF : Hid (Hw.reason s = [67, 111, 110, 116, 105, 110, 117, 101]) := hid' (by unfold Hw.reason Hw.reasons; simp only [List.find?, c0])
    go_enter Tryd.func13, Tryd.ntmps13
    go_wp2
    go_ret
    exact ⟨by rw [HF.out]; rfl, rfl⟩
  cases c1 : (s == 200)
  rotate_left
  · have HF : Hid (Hw.reason s = [79, 75]) := hid' (by unfold Hw.reason Hw.reasons; simp only [List.find?, c0, c1])
    go_enter Tryd.func13, Tryd.ntmps13
    go_wp2
    go_ret
    exact ⟨by rw [HF.out]; rfl, rfl⟩
  cases c2 : (s == 204)
  rotate_left
  · have HF : Hid (Hw.reason s = [78, 111, 32, 67, 111, 110, 116, 101, 110, 116]) := hid' (by unfold Hw.reason Hw.reasons; simp only [List.find?, c0, c1, c2])
    go_enter Tryd.func13, Tryd.ntmps13
    go_wp2
    go_ret
    exact ⟨by rw [HF.out]; rfl, rfl⟩
  cases c3 : (s == 206)
  rotate_left
  · have HF : Hid (Hw.reason s = [80, 97, 114, 116, 105, 97, 108, 32, 67, 111, 110, 116, 101, 110, 116]) := hid' (by unfold Hw.reason Hw.reasons; simp only [List.find?, c0, c1, c2, c3])
    go_enter Tryd.func13, Tryd.ntmps13
    go_wp2
    go_ret
    exact ⟨by rw [HF.out]; rfl, rfl⟩
  cases c4 : (s == 304)
  rotate_left
  · have HF : Hid (Hw.reason s = [78, 111, 116, 32, 77, 111, 100, 105, 102, 105, 101, 100]) := hid' (by unfold Hw.reason Hw.reasons; simp only [List.find?, c0, c1, c2, c3, c4])
    go_enter Tryd.func13, Tryd.ntmps13
    go_wp2
    go_ret
    exact ⟨by rw [HF.out]; rfl, rfl⟩
  cases c5 : (s == 400)
  rotate_left
  · have HF : Hid (Hw.reason s = [66, 97, 100, 32, 82, 101, 113, 117, 101, 115, 116]) := hid' (by unfold Hw.reason Hw.reasons; simp only [List.find?, c0, c1, c2, c3, c4, c5])
    go_enter Tryd.func13, Tryd.ntmps13
    go_wp2
    go_ret
    exact ⟨by rw [HF.out]; rfl, rfl⟩
  cases c6 : (s == 404)
  rotate_left
  · have HF : Hid (Hw.reason s = [78, 111, 116, 32, 70, 111, 117, 110, 100]) := hid' (by unfold Hw.reason Hw.reasons; simp only [List.find?, c0, c1, c2, c3, c4, c5, c6])
    go_enter Tryd.func13, Tryd.ntmps13
    go_wp2
    go_ret
    exact ⟨by rw [HF.out]; rfl, rfl⟩
  cases c7 : (s == 405)
  rotate_left
  · have HF : Hid (Hw.reason s = [77, 101, 116, 104, 111, 100, 32, 78, 111, 116, 32, 65, 108, 108, 111, 119, 101, 100]) := hid' (by unfold Hw.reason Hw.reasons; simp only [List.find?, c0, c1, c2, c3, c4, c5, c6, c7])
    go_enter Tryd.func13, Tryd.ntmps13
    go_wp2
    go_ret
    exact ⟨by rw [HF.out]; rfl, rfl⟩
  cases c8 : (s == 408)
  rotate_left
  · have HF : Hid (Hw.reason s = [82, 101, 113, 117, 101, 115, 116, 32, 84, 105, 109, 101, 111, 117, 116]) := hid' (by unfold Hw.reason Hw.reasons; simp only [List.find?, c0, c1, c2, c3, c4, c5, c6, c7, c8])
    go_enter Tryd.func13, Tryd.ntmps13
    go_wp2
    go_ret
    exact ⟨by rw [HF.out]; rfl, rfl⟩
  cases c9 : (s == 410)
  rotate_left
  · have HF : Hid (Hw.reason s = [71, 111, 110, 101]) := hid' (by unfold Hw.reason Hw.reasons; simp only [List.find?, c0, c1, c2, c3, c4, c5, c6, c7, c8, c9])
    go_enter Tryd.func13, Tryd.ntmps13
    go_wp2
    go_ret
    exact ⟨by rw [HF.out]; rfl, rfl⟩
  cases c10 : (s == 412)
  rotate_left
  · have HF : Hid (Hw.reason s = [80, 114, 101, 99, 111, 110, 100, 105, 116, 105, 111, 110, 32, 70, 97, 105, 108, 101, 100]) := hid' (by unfold Hw.reason Hw.reasons; simp only [List.find?, c0, c1, c2, c3, c4, c5, c6, c7, c8, c9, c10])
    go_enter Tryd.func13, Tryd.ntmps13
    go_wp2
    go_ret
    exact ⟨by rw [HF.out]; rfl, rfl⟩
  cases c11 : (s == 413)
  rotate_left
  · have HF : Hid (Hw.reason s = [67, 111, 110, 116, 101, 110, 116, 32, 84, 111, 111, 32, 76, 97, 114, 103, 101]) := hid' (by unfold Hw.reason Hw.reasons; simp only [List.find?, c0, c1, c2, c3, c4, c5, c6, c7, c8, c9, c10, c11])
    go_enter Tryd.func13, Tryd.ntmps13
    go_wp2
    go_ret
    exact ⟨by rw [HF.out]; rfl, rfl⟩
  cases c12 : (s == 414)
  rotate_left
  · have HF : Hid (Hw.reason s = [85, 82, 73, 32, 84, 111, 111, 32, 76, 111, 110, 103]) := hid' (by unfold Hw.reason Hw.reasons; simp only [List.find?, c0, c1, c2, c3, c4, c5, c6, c7, c8, c9, c10, c11, c12])
    go_enter Tryd.func13, Tryd.ntmps13
    go_wp2
    go_ret
    exact ⟨by rw [HF.out]; rfl, rfl⟩
  cases c13 : (s == 416)
  rotate_left
  · have HF : Hid (Hw.reason s = [82, 97, 110, 103, 101, 32, 78, 111, 116, 32, 83, 97, 116, 105, 115, 102, 105, 97, 98, 108, 101]) := hid' (by unfold Hw.reason Hw.reasons; simp only [List.find?, c0, c1, c2, c3, c4, c5, c6, c7, c8, c9, c10, c11, c12, c13])
    go_enter Tryd.func13, Tryd.ntmps13
    go_wp2
    go_ret
    exact ⟨by rw [HF.out]; rfl, rfl⟩
  cases c14 : (s == 417)
  rotate_left
  · have HF : Hid (Hw.reason s = [69, 120, 112, 101, 99, 116, 97, 116, 105, 111, 110, 32, 70, 97, 105, 108, 101, 100]) := hid' (by unfold Hw.reason Hw.reasons; simp only [List.find?, c0, c1, c2, c3, c4, c5, c6, c7, c8, c9, c10, c11, c12, c13, c14])
    go_enter Tryd.func13, Tryd.ntmps13
    go_wp2
    go_ret
    exact ⟨by rw [HF.out]; rfl, rfl⟩
  cases c15 : (s == 421)
  rotate_left
  · have HF : Hid (Hw.reason s = [77, 105, 115, 100, 105, 114, 101, 99, 116, 101, 100, 32, 82, 101, 113, 117, 101, 115, 116]) := hid' (by unfold Hw.reason Hw.reasons; simp only [List.find?, c0, c1, c2, c3, c4, c5, c6, c7, c8, c9, c10, c11, c12, c13, c14, c15])
    go_enter Tryd.func13, Tryd.ntmps13
    go_wp2
    go_ret
    exact ⟨by rw [HF.out]; rfl, rfl⟩
  cases c16 : (s == 431)
  rotate_left
  · have HF : Hid (Hw.reason s = [82, 101, 113, 117, 101, 115, 116, 32, 72, 101, 97, 100, 101, 114, 32, 70, 105, 101, 108, 100, 115, 32, 84, 111, 111, 32, 76, 97, 114, 103, 101]) := hid' (by unfold Hw.reason Hw.reasons; simp only [List.find?, c0, c1, c2, c3, c4, c5, c6, c7, c8, c9, c10, c11, c12, c13, c14, c15, c16])
    go_enter Tryd.func13, Tryd.ntmps13
    go_wp2
    go_ret
    exact ⟨by rw [HF.out]; rfl, rfl⟩
  cases c17 : (s == 500)
  rotate_left
  · have HF : Hid (Hw.reason s = [73, 110, 116, 101, 114, 110, 97, 108, 32, 83, 101, 114, 118, 101, 114, 32, 69, 114, 114, 111, 114]) := hid' (by unfold Hw.reason Hw.reasons; simp only [List.find?, c0, c1, c2, c3, c4, c5, c6, c7, c8, c9, c10, c11, c12, c13, c14, c15, c16, c17])
    go_enter Tryd.func13, Tryd.ntmps13
    go_wp2
    go_ret
    exact ⟨by rw [HF.out]; rfl, rfl⟩
  cases c18 : (s == 501)
  rotate_left
  · have HF : Hid (Hw.reason s = [78, 111, 116, 32, 73, 109, 112, 108, 101, 109, 101, 110, 116, 101, 100]) := hid' (by unfold Hw.reason Hw.reasons; simp only [List.find?, c0, c1, c2, c3, c4, c5, c6, c7, c8, c9, c10, c11, c12, c13, c14, c15, c16, c17, c18])
    go_enter Tryd.func13, Tryd.ntmps13
    go_wp2
    go_ret
    exact ⟨by rw [HF.out]; rfl, rfl⟩
  cases c19 : (s == 503)
  rotate_left
  · have HF : Hid (Hw.reason s = [83, 101, 114, 118, 105, 99, 101, 32, 85, 110, 97, 118, 97, 105, 108, 97, 98, 108, 101]) := hid' (by unfold Hw.reason Hw.reasons; simp only [List.find?, c0, c1, c2, c3, c4, c5, c6, c7, c8, c9, c10, c11, c12, c13, c14, c15, c16, c17, c18, c19])
    go_enter Tryd.func13, Tryd.ntmps13
    go_wp2
    go_ret
    exact ⟨by rw [HF.out]; rfl, rfl⟩
  cases c20 : (s == 505)
  rotate_left
  · have HF : Hid (Hw.reason s = [72, 84, 84, 80, 32, 86, 101, 114, 115, 105, 111, 110, 32, 78, 111, 116, 32, 83, 117, 112, 112, 111, 114, 116, 101, 100]) := hid' (by unfold Hw.reason Hw.reasons; simp only [List.find?, c0, c1, c2, c3, c4, c5, c6, c7, c8, c9, c10, c11, c12, c13, c14, c15, c16, c17, c18, c19, c20])
    go_enter Tryd.func13, Tryd.ntmps13
    go_wp2
    go_ret
    exact ⟨by rw [HF.out]; rfl, rfl⟩
  have HF : Hid (Hw.reason s = Hw.sStatus) := hid' (by unfold Hw.reason Hw.reasons; simp only [List.find?, c0, c1, c2, c3, c4, c5, c6, c7, c8, c9, c10, c11, c12, c13, c14, c15, c16, c17, c18, c19, c20])
  go_enter Tryd.func13, Tryd.ntmps13
  go_wp2
  go_ret
  exact ⟨by rw [HF.out]; rfl, rfl⟩

end Go.Proofs.YtbpdhcfmdkmoiaaDoor
