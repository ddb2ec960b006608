/-
  The laws' awake: by its contract.
-/
import Derived.Test.YtdbldompjhienaaDoorRhEG
import Derived.Test.YtdbldompjhienaaDoorRhD
import Derived.Test.YtdbldompjhienaaDoorRhJ
namespace Go.Proofs.YtdbldompjhienaaDoor
open Go.RowKit

namespace Rg
def aw1 : T8 := [98, 121, 116, 101, 115, 61, 48, 45, 48, 44, 32, 50, 48, 45, 51, 48, 32, 44, 45, 49]
def aw2 : T8 := [98, 121, 116, 101, 115, 61, 53, 45, 52]
theorem aw1_err : err aw1 10 = 0 := by decide +kernel
theorem aw1_res : res aw1 10 = [⟨0, 0⟩, ⟨9, 9⟩] := by kernel_rfl
theorem aw2_err : err aw2 10 = 160 := by decide +kernel
def awS : T8 := [45, 45, 120, 13, 10, 67, 111, 110, 116, 101, 110, 116, 45, 84, 121, 112, 101, 58, 32, 97, 47, 98, 13, 10, 67, 111, 110, 116, 101, 110, 116, 45, 82, 97, 110, 103, 101, 58, 32, 98, 121, 116, 101, 115, 32, 49, 45, 50, 47, 53, 13, 10, 13, 10, 101, 108, 13, 10, 45, 45, 120, 45, 45, 13, 10]
theorem aw3 : partsS [104, 101, 108, 108, 111] [97, 47, 98] [120] [⟨1, 2⟩] = awS := by kernel_rfl
theorem aw3_err : partsE [104, 101, 108, 108, 111] [⟨1, 2⟩] = 0 := by kernel_rfl
theorem aw4 : IsFree [120, 112, 97, 114, 116, 48] 1 := ⟨by decide +kernel, fun m hm => by
  obtain rfl : m = 0 := by omega
  decide +kernel, by decide⟩
theorem aw5 : line 1 = [112, 97, 114, 116, 49] := by decide +kernel
end Rg

set_option maxHeartbeats 8000000 in
set_option maxRecDepth 20000 in
theorem awake16 (w : World) (hT : TB16 w) : Calls Tryd.prog 16 #[] w fun e w' => e = .returned (.bool true) ∧ Below w.heap.size w w' := by
  have HT := hid' hT
  have HP1 := hid' (cparse16 ⟨#[98, 121, 116, 101, 115, 61, 48, 45, 48, 44, 32, 50, 48, 45, 51, 48, 32, 44, 45, 49]⟩ Rg.aw1 rfl 10 (by omega) w (by decide) hT)
  rw [Rg.aw1_err, Rg.aw1_res] at HP1
  have HP2 := hid' (fun W (h : TB16 W) => cparse16 ⟨#[98, 121, 116, 101, 115, 61, 53, 45, 52]⟩ Rg.aw2 rfl 10 (by omega) W (by decide) h)
  rw [Rg.aw2_err] at HP2
  have HP3 := hid' (fun W (h : TB16 W) (ao : Option Addr) (hr : RW16 W ao [⟨1, 2⟩]) => cparts16 ⟨#[104, 101, 108, 108, 111]⟩ ⟨#[97, 47, 98]⟩ ⟨#[120]⟩ ao 1 1 [⟨1, 2⟩] rfl (by omega) W hr (by decide) (by decide) (by decide) h)
  rw [show (⟨#[104, 101, 108, 108, 111]⟩ : ByteArray).data.toList = [104, 101, 108, 108, 111] from rfl, show (⟨#[97, 47, 98]⟩ : ByteArray).data.toList = [97, 47, 98] from rfl, show (⟨#[120]⟩ : ByteArray).data.toList = [120] from rfl, Rg.aw3, Rg.aw3_err] at HP3
  have HLI := hid' (fun W (h : TB16 W) => cline16 ⟨#[120, 112, 97, 114, 116, 48]⟩ 1 Rg.aw4 W (by decide) h)
  rw [Rg.aw5] at HLI
  clear hT
  go_enter Tryd.func16, Tryd.ntmps16
  go_wp2_with fail
  refine HP1.out.mono ?_
  rintro e w1 ⟨⟨m, ro, rc, rfl, hm, hown⟩, hb1⟩
  obtain rfl : 2 = m := hm
  have HO1 := hid' hown
  have HB1 := hid' hb1
  have HT1 := hid' (HT.out.keep hb1)
  clear hown hb1 HP1
  go_wp2_with fail
  refine (HP2.out _ HT1.out).mono ?_
  rintro e w2 ⟨⟨m, qo, qc, rfl, hm, _⟩, hb2⟩
  have HO2 := hid' (own_kp16 HO1.out hb2)
  have HB2 := hid' (below_two HB1.out hb2)
  have HT2 := hid' (HT.out.keep HB2.out)
  clear hb2 hm HP2 HB1 HO1
  have HBa := hid' (bl_alloc w2 (.cells #[.int .i64 1, .int .i64 2] 23))
  have HLa : Hid (RW16 (w2.alloc (.cells #[.int .i64 1, .int .i64 2] 23)) (some ⟨w2.heap.size, 0, none⟩) [⟨1, 2⟩]) := hid' (RW16.lit (heap_alloc_last w2 _))
  have HTa := hid' (HT2.out.keep HBa.out)
  go_wp2_with fail
  refine (HP3.out _ HTa.out _ HLa.out).mono ?_
  rintro e w3 ⟨rfl, hb3⟩
  have HB3 := hid' (below_two (below_two HB2.out HBa.out) hb3)
  have HO3 := hid' (own_kp16 HO2.out (below_two HBa.out hb3))
  clear hb3 HBa HLa HTa HB2 HO2 HT2 HP3
  have HBa := hid' (bl_alloc w3 (.cells #[.int .i64 0, .int .i64 0, .int .i64 9, .int .i64 9] 23))
  have HLa : Hid (RW16 (w3.alloc (.cells #[.int .i64 0, .int .i64 0, .int .i64 9, .int .i64 9] 23)) (some ⟨w3.heap.size, 0, none⟩) [⟨0, 0⟩, ⟨9, 9⟩]) := hid' (RW16.lit (heap_alloc_last w3 _))
  have HO4 := hid' (own_kp16 HO3.out HBa.out)
  have HSA := hid' (rsame16 ro (some ⟨w3.heap.size, 0, none⟩) 2 rc 2 [⟨0, 0⟩, ⟨9, 9⟩] rfl (by omega) _ (RW16.own HO4.out) HLa.out)
  go_wp2_with fail
  refine HSA.out.mono ?_
  rintro e w4 ⟨rfl, hb4⟩
  have HB4 := hid' (below_two (below_two HB3.out HBa.out) hb4)
  have HT4 := hid' (HT.out.keep HB4.out)
  clear hb4
  go_wp2_with fail
  refine (HLI.out _ HT4.out).mono ?_
  rintro e w5 ⟨rfl, hb5⟩
  have HB5 := hid' (below_two HB4.out hb5)
  clear hb5
  go_wp2
  go_ret
  exact ⟨rfl, HB5.out⟩

end Go.Proofs.YtdbldompjhienaaDoor
