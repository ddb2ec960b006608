/-
  ostlerref07.padded of DATA: by its contract.
-/
import Derived.Test.YthgdokcdpmoeeaaFrDp
import Derived.Test.YthgdokcdpmoeeaaFrK
namespace Go.Proofs.Ythgdokcdpmoeeaa
open Go.RowKit

set_option maxHeartbeats 4000000 in
set_option maxRecDepth 20000 in
theorem rpadded_data0 (fl st : Int) (l : List UInt8) (r : Fm.Rd) (hs : st ≠ 0) (h8 : Fm.has fl 8 = false) (hsz : l.length ≤ 140737488355328) (hr : Fm.parse 0 fl st l = r) (w : World) : Calls Try.prog 25 #[.agg (frC 0 fl st l)] w fun e w' => e = .returned (rdV r (.slice none 0 0)) ∧ Below w.heap.size w w' := by
  obtain rfl : r = .ok ⟨l, 0, 0, 0, 0, false, 0, []⟩ := by
    rw [← hr]
    simp [Fm.parse, Fm.mis, Fm.sized, Fm.say, Fm.head, Fm.pads, hs, h8]
  have HFL := hid' (rflag_any 0 fl st l 8 false (by omega) h8)
  have hs1 : (st == 0) = false := by simp [hs]
  have hcut := cut_ends l l.length
  rw [List.take_length] at hcut
  have hlz : ¬ (l.length : Int) < 0 := by omega
  clear hr h8
  go_enter Try.func25, Try.ntmps25
  go_wp2_with (refine wpl_open _ rfl rfl rfl rfl rfl rfl 0 fl st l (by kernel_rfl) ?_)
  intro b1 b2 b3 w0 hF
  obtain ⟨c0, c1, c2, c3⟩ := frC_cells hF.a1
  have HF := hid' hF
  clear hF
  go_wp2_with (refine wpl_alloc 27 rfl rfl _ zeroParts ?_)
  intro b4 w4 hg4 ha4 hb4
  have HN24 : Hid (b2 ≠ b4) := hid' (by have := HF.out.a2.lt; omega)
  have HG4 : Hid (w.heap.size ≤ b4) := hid' (Nat.le_trans HF.out.bel.size hg4)
  have hA4 : Ar w4 b4 27 ptZ := ha4
  have HA4 := hid' hA4
  have HF4 := hid' (HF.out.keep hb4)
  obtain ⟨c0, c1, c2, c3⟩ := frC_cells HF4.out.a1
  clear hg4 ha4 hb4 HF hA4
  go_wp2_with (refine wpl_ldfr _ rfl rfl b1 (by kernel_rfl) _ _ _ _ HF4.out.a1 ?_)
  clear c0 c1 c2 c3
  go_wp2_with fail
  refine (HFL.out _).mono ?_
  rintro e w5 ⟨rfl, hb_w5⟩
  have HF4 := hid' (HF4.out.keep hb_w5)
  have HA4 := hid' (HA4.out.keep hb_w5)
  obtain ⟨c0, c1, c2, c3⟩ := frC_cells HF4.out.a1
  clear hb_w5
  go_upto_region 18 with fail
  obtain ⟨⟨u0, u1, u2, u3, u4, u5, u6, u7⟩, f0, f1, f2, f3, f4, f5, f6, f7⟩ := ptZ_cells HA4.out
  go_upto_region 19 with fail
  have hu6 := upd_setCell w5 b4 0 (.string ⟨l.toArray⟩)
  have HA6 : Hid (Ar (w5.setCell ⟨b4, 0, none⟩ (.string ⟨l.toArray⟩)) b4 27 (ptC ⟨l, 0, 0, 0, 0, false, 0, []⟩ (.slice none 0 0))) := hid' (HA4.out.set 0 _)
  obtain ⟨w6, hw6⟩ : ∃ w6, w5.setCell ⟨b4, 0, none⟩ (.string ⟨l.toArray⟩) = w6 := ⟨_, rfl⟩
  rw [hw6] at hu6 HA6
  try rw [hw6]
  have hA16 := hu6.keep HF4.out.a1 (HF4.out.a1.apart HA4.out (by decide))
  have HA26 := hid' (hu6.keep HF4.out.a2 HN24.out)
  have HA36 := hid' (hu6.keep HF4.out.a3 (HF4.out.a3.apart HA4.out (by decide)))
  have HB6 := hid' (HF4.out.bel.trans (hu6.below HG4.out))
  have HG2 := hid' HF4.out.g2
  have HG3 := hid' HF4.out.g3
  have HA16 := hid' hA16
  obtain ⟨d0, d1, d2, d3⟩ := frC_cells hA16
  clear hw6 hu6 HF4 hA16 c0 c1 c2 c3 u0 u1 u2 u3 u4 u5 u6 u7 f0 f1 f2 f3 f4 f5 f6 f7
  go_wp2_with (refine wpl_ldfr _ rfl rfl b1 (by kernel_rfl) _ _ _ _ HA16.out ?_)
  clear d0 d1 d2 d3
  go_wp2_with fail
  refine (HFL.out _).mono ?_
  rintro e w7 ⟨rfl, hb7⟩
  have HA7 := hid' (HA6.out.keep hb7)
  have HA29 := hid' (HA26.out.keep hb7)
  have HA39 := hid' (HA36.out.keep hb7)
  have HB9 := hid' (HB6.out.trans (hb7.mono HB6.out.size))
  clear hb7
  go_wp2_with (first | refine wpl_ldf _ rfl rfl b4 (by kernel_rfl) _ _ HA7.out ?_ | refine wpl_st2 _ _ _ _ rfl rfl rfl rfl w.heap.size b2 b3 ⟨l, 0, 0, 0, 0, false, 0, []⟩ none 0 0 false false 0 (by kernel_rfl) (by kernel_rfl) (by kernel_rfl) (by kernel_rfl) HA29.out HA39.out HG2.out HG3.out ?_)
  intro w9 hp9 hw9 hb9
  go_wp2
  exact bodyPost_ret (v := rdV (.ok ⟨l, 0, 0, 0, 0, false, 0, []⟩) (.slice none 0 0)) (by simp [results, Try.results25, asAddr, ldp hp9, ldw hw9]; rfl) rfl ⟨rfl, HB9.out.trans hb9⟩

end Go.Proofs.Ythgdokcdpmoeeaa
