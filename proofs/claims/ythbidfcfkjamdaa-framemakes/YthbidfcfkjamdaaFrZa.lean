/-
  frame.Parse by its contract: what is wrong.
-/
import Derived.Test.YthbidfcfkjamdaaFrZ
namespace Go.Proofs.Ythbidfcfkjamdaa
open Go.RowKit

set_option maxHeartbeats 4000000 in
set_option maxRecDepth 20000 in
theorem cparse_bad (k fl st : Int) (l : List UInt8) (c : Bool) (ec : Int) (hr : Fm.parse k fl st l = .bad c ec) (hsz : l.length ≤ 35184372088832) (w : World) :
    Calls Try.prog 40 #[.agg (frC k fl st l)] w fun e w' => e = .returned (rdV (.bad c ec) (.slice none 0 0)) ∧ Below w.heap.size w w' := by
  have HU : Hid (∀ w : World, Calls Try.prog 48 #[.agg (frC k fl st l)] w fun e w' => (∃ v : Value, e = .returned (.tuple #[.agg ptZ, .agg (wgC true c ec)]) ∧ Hid (SP w.heap.size w' (.bad c ec) v)) ∧ Below w.heap.size w w') := hid' (fun w => cparts_any k fl st l _ hr hsz w)
  clear hr
  go_enter Try.func40, Try.ntmps40
  go_wp2_with (refine wpl_open _ rfl rfl rfl rfl rfl rfl k fl st l (by kernel_rfl) ?_)
  intro b1 b2 b3 w0 hF
  obtain ⟨c0, c1, c2, c3⟩ := frC_cells hF.a1
  have HF := hid' hF
  clear hF
  go_wp2_with fail
  refine (HU.out _).mono ?_
  rintro e w1 ⟨⟨_, rfl, _⟩, hb1⟩
  have HF1 := hid' (HF.out.keep hb1)
  clear hb1 c0 c1 c2 c3
  go_wp2_with (refine wpl_open2 rfl rfl rfl rfl ?_)
  intro b4 b5 w2 hg4 hg5 ha4 ha5 hb2
  refine wpl_st2 _ _ _ _ rfl rfl rfl rfl w1.heap.size b4 b5 Fm.none' none 0 0 true c ec (by kernel_rfl) (by kernel_rfl) (by kernel_rfl) (by kernel_rfl) ha4 ha5 hg4 hg5 ?_
  intro w3 hp3 hw3 hb3
  have hF3 := HF1.out.keep (hb2.trans hb3)
  have n25 : b2 ≠ b5 := hF3.a2.apart hw3 (by decide)
  have n35 : b3 ≠ b5 := by have := HF1.out.a3.lt; omega
  obtain ⟨z0, z1, z2⟩ := wg_cells hw3
  obtain ⟨⟨x0, x1, x2, x3, x4, x5, x6, x7⟩, f0, f1, f2, f3, f4, f5, f6, f7⟩ := ptZ_cells hF3.a2
  obtain ⟨⟨y0, y1, y2⟩, g0, g1, g2⟩ := wgZ_cells hF3.a3
  have hne : b3 ≠ b2 := hF3.a3.apart hF3.a2 (by decide)
  have hne' := Ne.symm hne
  have HF3 := hid' hF3
  clear hg4 hg5 ha4 ha5 hb2 hp3 hw3 hb3 hF3
  go_upto_region 3 with fail
  go_region
  go_wp2
  obtain ⟨hA1, hU1⟩ := st8 HF3.out.a2 (.string ⟨#[]⟩) (.int .i64 0) (.int .i64 0) (.int .i64 0) (.int .i64 0) (.bool false) (.int .i64 0) (.slice none 0 0)
  obtain ⟨hA2, hU2⟩ := st3 (hU1.keep HF3.out.a3 hne) (.bool true) (.bool c) (.int .i64 ec)
  have l1 := ld_parts (hU2.keep hA1 hne').drew
  have l2 := ld_wrong hA2.drew
  exact bodyPost_ret (v := rdV (.bad c ec) (.slice none 0 0)) (by simp [results, Try.results40, asAddr, l1, l2]; rfl) rfl ⟨rfl, ((HF3.out.bel.trans (hU1.below HF3.out.g2)).trans (hU2.below HF3.out.g3)).drew⟩

end Go.Proofs.Ythbidfcfkjamdaa
