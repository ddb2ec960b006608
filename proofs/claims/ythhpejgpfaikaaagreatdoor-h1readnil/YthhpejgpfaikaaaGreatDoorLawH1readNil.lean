/-
  The law H1readNil.
-/
import Derived.Test.YthhpejgpfaikaaaGreatDoorPnBP
namespace Go.Proofs.YthhpejgpfaikaaaGreatDoor
open Go.RowKit

theorem cwithinNB21 (w : World) : Calls Tryz.prog 16 #[.pointer none] w fun e w' => e = .returned (.bool false) ∧ Below w.heap.size w w' := (cwithinN21 w).mono (fun _ _ ⟨h1, h2⟩ => ⟨h1, by rw [h2]; exact Below.refl _ _⟩)
theorem cheldNB21 (w : World) : Calls Tryz.prog 18 #[.pointer none] w fun e w' => e = .returned (.int .i64 0) ∧ Below w.heap.size w w' := (cheldN21 w).mono (fun _ _ ⟨h1, h2⟩ => ⟨h1, by rw [h2]; exact Below.refl _ _⟩)
set_option maxHeartbeats 8000000 in
set_option maxRecDepth 20000 in
theorem h1readNil_any (d : ByteArray) (w : World) (hT : TB w) : Calls Tryz.prog 8 #[.string d] w fun e w' => e = .returned (.bool true) ∧ Below w.heap.size w w' := by
  have HT := hid' hT
  clear hT
  go_enter Tryz.func8, Tryz.ntmps8
  go_wp2_with (go_at_call 13; refine (creadN21 d _).mono ?_; rintro e w1 ⟨rfl, hb1⟩; refine Hid.out ?_)
  refine hid' ?_
  have HB1 := hid' hb1
  clear hb1
  unfold pv0
  go_wp2_with (refine wpl_alloc 41 rfl rfl _ zeroPc21 ?_)
  intro x u hx hax hlx
  have HB2 := hid' (below_two HB1.out hlx)
  have HX := hid' hax
  have HXG : Hid (w.heap.size ≤ x) := hid' (by have h1 := HB1.out.size; omega)
  clear hx hax hlx
  go_wp2_with (refine wpl_store 41 _ _ rfl rfl x (pcC Hr.pc0 (.slice none 0 0) (.slice none 0 0)) (by kernel_rfl) (by kernel_rfl) _ _ HX.out sizePc21 rfl (by simp [Value.oneCell', pcC]) ?_)
  intro y hay huy
  have HY := hid' hay
  have HB3 := hid' (HB2.out.trans (huy.below HXG.out))
  clear hay huy
  go_wp2_with (go_at_call 12; refine (awake21 _ (HT.out.keep HB3.out)).mono ?_; rintro e z ⟨rfl, hz⟩; refine Hid.out ?_)
  refine hid' ?_
  have HB4 := hid' (below_two HB3.out hz)
  have HY4 := hid' (HY.out.keep hz)
  clear hz
  have hld := ldPc21 HY4.out
  have c0 : z.cell? ⟨x, 0, none⟩ = some (.int .u8 0) := HY4.out.cell 0 _ rfl
  have c1 : z.cell? ⟨x, 1, none⟩ = some (.string ⟨#[]⟩) := HY4.out.cell 1 _ rfl
  have c2 : z.cell? ⟨x, 2, none⟩ = some (.string ⟨#[]⟩) := HY4.out.cell 2 _ rfl
  have c3 : z.cell? ⟨x, 3, none⟩ = some (.string ⟨#[]⟩) := HY4.out.cell 3 _ rfl
  have c4 : z.cell? ⟨x, 4, none⟩ = some (.string ⟨#[]⟩) := HY4.out.cell 4 _ rfl
  have c5 : z.cell? ⟨x, 5, none⟩ = some (.slice none 0 0) := HY4.out.cell 5 _ rfl
  have c6 : z.cell? ⟨x, 6, none⟩ = some (.string ⟨#[]⟩) := HY4.out.cell 6 _ rfl
  have c7 : z.cell? ⟨x, 7, none⟩ = some (.slice none 0 0) := HY4.out.cell 7 _ rfl
  have c8 : z.cell? ⟨x, 8, none⟩ = some (.bool false) := HY4.out.cell 8 _ rfl
  have c9 : z.cell? ⟨x, 9, none⟩ = some (.bool false) := HY4.out.cell 9 _ rfl
  have c10 : z.cell? ⟨x, 10, none⟩ = some (.bool false) := HY4.out.cell 10 _ rfl
  have c11 : z.cell? ⟨x, 11, none⟩ = some (.bool false) := HY4.out.cell 11 _ rfl
  have c12 : z.cell? ⟨x, 12, none⟩ = some (.string ⟨#[]⟩) := HY4.out.cell 12 _ rfl
  have c13 : z.cell? ⟨x, 13, none⟩ = some (.slice none 0 0) := HY4.out.cell 13 _ rfl
  have c14 : z.cell? ⟨x, 14, none⟩ = some (.int .i64 0) := HY4.out.cell 14 _ rfl
  have HSM := hid' (csamePc21 Hr.pc0 (.slice none 0 0) (.slice none 0 0) (.slice none 0 0) (.slice none 0 0) z (FW.of_own (World.ownsRow_nil z z.heap.size 47 2)) (FW.of_own (World.ownsRow_nil z z.heap.size 47 2)) (FW.of_own (World.ownsRow_nil z z.heap.size 47 2)) (FW.of_own (World.ownsRow_nil z z.heap.size 47 2)) (by decide) (by decide))
  unfold pcC Hr.pc0 Ms.rq0 Ms.e0 at HSM
  go_wp2_with (go_at_call 15; refine HSM.out.mono ?_; rintro e z5 ⟨rfl, hz5⟩; refine Hid.out ?_)
  refine hid' ?_
  have HB5 := hid' (below_two HB4.out hz5)
  clear hz5
  go_wp2_with (go_at_call 16; refine (cwithinNB21 _).mono ?_; rintro e z6 ⟨rfl, hz6⟩; refine Hid.out ?_)
  refine hid' ?_
  have HB6 := hid' (below_two HB5.out hz6)
  clear hz6
  go_wp2_with (go_at_call 18; refine (cheldNB21 _).mono ?_; rintro e z7 ⟨rfl, hz7⟩; refine Hid.out ?_)
  refine hid' ?_
  have HB7 := hid' (below_two HB6.out hz7)
  clear hz7
  go_wp2_with fail
  go_ret
  exact ⟨rfl, HB7.out⟩

end Go.Proofs.YthhpejgpfaikaaaGreatDoor
