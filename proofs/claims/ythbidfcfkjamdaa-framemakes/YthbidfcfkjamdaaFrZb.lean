/-
  frame.Parse by its contract: what is said.
-/
import Derived.Test.YthbidfcfkjamdaaFrZ
namespace Go.Proofs.Ythbidfcfkjamdaa
open Go.RowKit

theorem own_drew {w : World} {B : Nat} {e : TypeId} {s : Nat} {v : Value} {n : Nat} {xs : List Value} (h : w.ownsRow B e s v n xs) : w.drew.ownsRow B e s v n xs := h

set_option maxHeartbeats 8000000 in
set_option maxRecDepth 20000 in
theorem cparse_ok (k fl st : Int) (l : List UInt8) (p : Fm.Pt) (hr : Fm.parse k fl st l = .ok p) (hd : p.data.length ≤ 35184372088832) (hsz : l.length ≤ 35184372088832) (w : World) :
    Calls Try.prog 40 #[.agg (frC k fl st l)] w fun e w' => (∃ v, e = .returned (rdV (.ok p) v) ∧ Hid (SP w.heap.size w' (.ok p) v)) ∧ Below w.heap.size w w' := by
  have HU : Hid (∀ w : World, Calls Try.prog 48 #[.agg (frC k fl st l)] w fun e w' => (∃ v : Value, e = .returned (.tuple #[.agg (ptC p v), .agg wgZ]) ∧ Hid (SP w.heap.size w' (.ok p) v)) ∧ Below w.heap.size w w') := hid' (fun w => cparts_any k fl st l _ hr hsz w)
  clear hr
  go_enter Try.func40, Try.ntmps40
  go_wp2_with (refine wpl_open _ rfl rfl rfl rfl rfl rfl k fl st l (by kernel_rfl) ?_)
  intro b1 b2 b3 w0 hF
  obtain ⟨c0, c1, c2, c3⟩ := frC_cells hF.a1
  have HF := hid' hF
  clear hF
  go_wp2_with fail
  refine (HU.out _).mono ?_
  rintro e w1 ⟨⟨v, rfl, hv⟩, hb1⟩
  have hq := hv.out p rfl
  obtain ⟨ao, m, cap, hu⟩ : ∃ ao m cap, v = .slice ao m cap := by
    rcases hq.2 with ⟨h, _⟩ | ⟨g, cap, cur, h, _⟩
    · exact ⟨none, 0, 0, h⟩
    · exact ⟨_, _, _, h⟩
  subst hu
  have HF1 := hid' (HF.out.keep hb1)
  have HQ1 := hid' (own_low hq HF.out.bel.size)
  clear hb1 c0 c1 c2 c3 hq hv
  go_wp2_with (refine wpl_open2 rfl rfl rfl rfl ?_)
  intro b4 b5 w2 hg4 hg5 ha4 ha5 hb2
  refine wpl_st2 _ _ _ _ rfl rfl rfl rfl w1.heap.size b4 b5 p ao m cap false false 0 (by kernel_rfl) (by kernel_rfl) (by kernel_rfl) (by kernel_rfl) ha4 ha5 hg4 hg5 ?_
  intro w3 hp3 hw3 hb3
  have hF3 := HF1.out.keep (hb2.trans hb3)
  have HQ3 := hid' (own_keep HQ1.out (hb2.trans hb3))
  have HW3 := hid' hw3
  have HP3 := hid' hp3
  have HG4 := hid' (Nat.le_trans HF1.out.bel.size hg4)
  have HG5 := hid' (Nat.le_trans HF1.out.bel.size hg5)
  have HN2 := hid' (show b2 ≠ b4 by have := HF1.out.a2.lt; omega)
  have HN3 := hid' (show b3 ≠ b4 by have := HF1.out.a3.lt; omega)
  have HN1 := hid' (show b1 ≠ b4 by have := HF1.out.a1.lt; omega)
  have HN35 := hid' (show b3 ≠ b5 by have := HF1.out.a3.lt; omega)
  obtain ⟨z0, z1, z2⟩ := wg_cells hw3
  obtain ⟨x0, x1, x2, x3, x4, x5, x6, x7⟩ := pt_cells hp3
  have HF3 := hid' hF3
  clear hg4 hg5 ha4 ha5 hb2 hp3 hw3 hb3 hF3
  go_wp2_with fail
  refine (fclone_l p.data (by omega) _).mono ?_
  rintro e w4 ⟨rfl, hb4⟩
  have hF4 := HF3.out.keep hb4
  have hp4 := HP3.out.keep hb4
  have hw4 := HW3.out.keep hb4
  have HQ4 := hid' (own_keep HQ3.out hb4)
  have hU4 := upd_setCell w4 b4 0 (.string ⟨p.data.toArray⟩)
  have hp5 : Ar (w4.setCell ⟨b4, 0, none⟩ (.string ⟨p.data.toArray⟩)) b4 27 (ptC p (.slice ao m cap)) := by
    have := hp4.set 0 (.string ⟨p.data.toArray⟩)
    simpa [ptC] using this
  have hF5 := hF4.upd hU4 HG4.out HN1.out HN2.out HN3.out
  have hw5 := hU4.keep hw4 (hw4.apart hp4 (by decide))
  have HQ5 := hid' (own_same HQ4.out (fun k hk => hU4.block k (own_apart HQ4.out hp4 (by decide) k hk)))
  have y0 := hp4.cell 0 _ rfl
  have y0' := hp4.free 0
  have HF5 := hid' hF5
  have HP5 := hid' hp5
  have HW5 := hid' hw5
  clear hF4 hp4 hw4 hU4 hb4 x0 x1 x2 x3 x4 x5 x6 x7 z0 z1 z2 hF5 hp5 hw5
  go_upto_region 5 with fail
  clear y0 y0'
  generalize w4.setCell ⟨b4, 0, none⟩ (.string ⟨p.data.toArray⟩) = w5 at *
  obtain ⟨z0, z1, z2⟩ := wg_cells HW5.out
  obtain ⟨x0, x1, x2, x3, x4, x5, x6, x7⟩ := pt_cells HP5.out
  obtain ⟨⟨u0, u1, u2, u3, u4, u5, u6, u7⟩, f0, f1, f2, f3, f4, f5, f6, f7⟩ := ptZ_cells HF5.out.a2
  obtain ⟨⟨y0, y1, y2⟩, g0, g1, g2⟩ := wgZ_cells HF5.out.a3
  have hne : b3 ≠ b2 := HF5.out.a3.apart HF5.out.a2 (by decide)
  have n24 := HN2.out
  have n35 := HN35.out
  have n25 : b2 ≠ b5 := HF5.out.a2.apart HW5.out (by decide)
  have n34 := HN3.out
  have hne' := Ne.symm hne
  go_region
  go_wp2
  obtain ⟨hA1, hU1⟩ := st8 HF5.out.a2 (.string ⟨p.data.toArray⟩) (.int .i64 p.pad) (.int .i64 p.code) (.int .i64 p.last) (.int .i64 p.weight) (.bool p.only) (.int .i64 p.more) (.slice ao m cap)
  obtain ⟨hA2, hU2⟩ := st3 (hU1.keep HF5.out.a3 hne) (.bool false) (.bool false) (.int .i64 0)
  have hA1' := hU2.keep (c := ptC p (.slice ao m cap)) hA1 hne'
  have hA2' : Ar _ b3 74 (wgC false false 0) := hA2
  have l1 := ldp hA1'.drew
  have l2 := ldw hA2'.drew
  refine bodyPost_ret (v := rdV (.ok p) (.slice ao m cap)) (by simp [results, Try.results40, asAddr, l1, l2]; rfl) rfl ⟨⟨_, rfl, hid' (fun q hq => ?_)⟩, ((HF5.out.bel.trans (hU1.below HF5.out.g2)).trans (hU2.below HF5.out.g3)).drew⟩
  injection hq with hq
  subst hq
  exact own_drew (own_same HQ5.out (fun k hk => (hU2.block k (own_apart HQ5.out HF5.out.a3 (by decide) k hk)).trans (hU1.block k (own_apart HQ5.out HF5.out.a2 (by decide) k hk))))

end Go.Proofs.Ythbidfcfkjamdaa
