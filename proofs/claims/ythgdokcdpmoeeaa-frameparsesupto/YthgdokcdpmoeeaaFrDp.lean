/-
  ostlerref07.padded: by its contract.
-/
import Derived.Test.YthgdokcdpmoeeaaFrDc
namespace Go.Proofs.Ythgdokcdpmoeeaa
open Go.RowKit

set_option maxHeartbeats 4000000 in
set_option maxRecDepth 20000 in
theorem rpadded_st (k fl : Int) (l : List UInt8) (w : World) : Calls Try.prog 25 #[.agg (frC k fl 0 l)] w fun e w' => e = .returned (rdV (.bad true 1) (.slice none 0 0)) ∧ Below w.heap.size w w' := by
  go_enter Try.func25, Try.ntmps25
  go_wp2_with (refine wpl_open _ rfl rfl rfl rfl rfl rfl k fl 0 l (by kernel_rfl) ?_)
  intro b1 b2 b3 w0 hF
  obtain ⟨c0, c1, c2, c3⟩ := frC_cells hF.a1
  have HF := hid' hF
  clear hF
  go_wp2_with (refine wpl_alloc 27 rfl rfl _ zeroParts ?_)
  intro b4 w4 hg4 ha4 hb4
  have HN24 : Hid (b2 ≠ b4) := hid' (by have := HF.out.a2.lt; omega)
  have HG4 : Hid (w.heap.size ≤ b4) := hid' (Nat.le_trans HF.out.bel.size hg4)
  have hA4 : Ar w4 b4 27 ptZ := ha4
  have HA4 := hid' hA4
  have HF4 := hid' (HF.out.keep hb4)
  obtain ⟨c0, c1, c2, c3⟩ := frC_cells HF4.out.a1
  clear hg4 ha4 hb4 HF hA4
  have p4 := ptZ_cells HA4.out
  have p2 := ptZ_cells HF4.out.a2
  have p3 := wgZ_cells HF4.out.a3
  obtain ⟨⟨u0, u1, u2, u3, u4, u5, u6, u7⟩, _⟩ := p4
  have hne : b3 ≠ b2 := HF4.out.a3.apart HF4.out.a2 (by decide)
  have hne' := Ne.symm hne
  clear p2 p3
  go_wp2_with fail
  go_region_with (go_at_call 29; refine (rconn_any 1 _).mono ?_; rintro e wx ⟨rfl, hbx⟩; have hBx : Below w4.heap.size w4 wx := (below_two ((Below.refl _ _).drew) hbx); have q4 := ptZ_cells (HA4.out.keep hBx); obtain ⟨⟨t0, t1, t2, t3, t4, t5, t6, t7⟩, _⟩ := q4; have q2 := ptZ_cells (HF4.out.a2.keep hBx); obtain ⟨⟨x0, x1, x2, x3, x4, x5, x6, x7⟩, f0, f1, f2, f3, f4, f5, f6, f7⟩ := q2; have q3 := wgZ_cells (HF4.out.a3.keep hBx); obtain ⟨⟨y0, y1, y2⟩, g0, g1, g2⟩ := q3; simp only [wgC])
  all_goals
    go_wp2
    obtain ⟨hA1, hU1⟩ := st8 (HF4.out.a2.keep hBx) (.string ⟨#[]⟩) (.int .i64 0) (.int .i64 0) (.int .i64 0) (.int .i64 0) (.bool false) (.int .i64 0) (.slice none 0 0)
    obtain ⟨hA2, hU2⟩ := st3 (hU1.keep (HF4.out.a3.keep hBx) hne) (.bool true) (.bool true) (.int .i64 1)
    have l1 := ld_parts (hU2.keep hA1 hne')
    have l2 := ld_wrong hA2
    exact bodyPost_ret (v := rdV (.bad true 1) (.slice none 0 0)) (by simp [results, Try.results25, asAddr, l1, l2]; rfl) rfl ⟨rfl, ((below_two HF4.out.bel hBx).trans (hU1.below HF4.out.g2)).trans (hU2.below HF4.out.g3)⟩

end Go.Proofs.Ythgdokcdpmoeeaa
