/-
  frame.ofWindow: by their contracts.
-/
import Derived.Test.YthbidfcfkjamdaaFrB
import Derived.Deep.RegionHeld3
namespace Go.Proofs.Ythbidfcfkjamdaa
open Go.RowKit


set_option maxHeartbeats 2000000 in
set_option maxRecDepth 20000 in
theorem cofWindow_any (k fl st : Int) (l : List UInt8) (r : Fm.Rd) (h : 4 ≤ l.length) (hr : (if Fm.idn l = 0 then .bad (decide (st = 0)) 1 else .ok ⟨[], 0, 0, 0, 0, false, (Fm.idn l : Nat), []⟩) = r) (w : World) : Calls Try.prog 73 #[.agg (frC k fl st l)] w fun e w' => e = .returned (rdV r (.slice none 0 0)) ∧ Below w.heap.size w w' := by
  obtain ⟨n, hn⟩ : ∃ n, Fm.idn l = n := ⟨_, rfl⟩
  have HN := hid' hn
  rw [hn] at hr
  clear hn
  by_cases h0 : n = 0
  · obtain ⟨z, hz⟩ : ∃ z, (st == 0) = z := ⟨_, rfl⟩
    obtain rfl : r = .bad z 1 := by rw [← hr, if_pos h0, ← hz]; rfl
    have hn0 : ((n : Int) == 0) = true := by simp [h0]
    clear h0 hr
    go_enter Try.func73, Try.ntmps73
    go_wp2_with (refine wpl_open _ rfl rfl rfl rfl rfl rfl k fl st l (by kernel_rfl) ?_)
    intro b1 b2 b3 w0 hF
    obtain ⟨c0, c1, c2, c3⟩ := frC_cells hF.a1
    have HF := hid' hF
    clear hF
    go_wp2_with fail
    refine (cstream_any l n (by omega) HN.out _).mono ?_
    rintro e w1 ⟨rfl, hw⟩
    subst w1
    obtain ⟨⟨x0, x1, x2, x3, x4, x5, x6, x7⟩, f0, f1, f2, f3, f4, f5, f6, f7⟩ := ptZ_cells HF.out.a2
    obtain ⟨⟨y0, y1, y2⟩, g0, g1, g2⟩ := wgZ_cells HF.out.a3
    have hne : b3 ≠ b2 := HF.out.a3.apart HF.out.a2 (by decide)
    have hne1 : b1 ≠ b2 := HF.out.a1.apart HF.out.a2 (by decide)
    have hne2 : b1 ≠ b3 := HF.out.a1.apart HF.out.a3 (by decide)
    have hne' := Ne.symm hne
    go_wp2
    go_region
    go_wp2
    obtain ⟨hA1, hU1⟩ := st8 HF.out.a2 (.string ⟨#[]⟩) (.int .i64 0) (.int .i64 0) (.int .i64 0) (.int .i64 0) (.bool false) (.int .i64 0) (.slice none 0 0)
    obtain ⟨hA2, hU2⟩ := st3 (hU1.keep HF.out.a3 hne) (.bool true) (.bool z) (.int .i64 1)
    have l1 := ld_parts (hU2.keep hA1 hne').drew
    have l2 := ld_wrong hA2.drew
    exact bodyPost_ret (v := rdV (.bad z 1) (.slice none 0 0)) (by simp [results, Try.results73, asAddr, l1, l2]; rfl) rfl ⟨rfl, ((HF.out.bel.trans (hU1.below HF.out.g2)).trans (hU2.below HF.out.g3)).drew⟩
  · obtain rfl : r = .ok ⟨[], 0, 0, 0, 0, false, (n : Int), []⟩ := by rw [← hr, if_neg h0]
    have hn0 : ((n : Int) == 0) = false := beq_false_of_ne (by omega)
    clear h0 hr
    go_enter Try.func73, Try.ntmps73
    go_wp2_with (refine wpl_open _ rfl rfl rfl rfl rfl rfl k fl st l (by kernel_rfl) ?_)
    intro b1 b2 b3 w0 hF
    obtain ⟨c0, c1, c2, c3⟩ := frC_cells hF.a1
    have HF := hid' hF
    clear hF
    go_wp2_with fail
    refine (cstream_any l n (by omega) HN.out _).mono ?_
    rintro e w1 ⟨rfl, hw⟩
    subst w1
    go_wp2_with (refine wpl_st2 _ _ _ _ rfl rfl rfl rfl w.heap.size b2 b3 ⟨[], 0, 0, 0, 0, false, (n : Int), []⟩ none 0 0 false false 0 (by kernel_rfl) (by kernel_rfl) (by kernel_rfl) (by kernel_rfl) HF.out.a2 HF.out.a3 HF.out.g2 HF.out.g3 ?_)
    intro w3 hp3 hw3 hb3
    go_wp2
    exact bodyPost_ret (v := rdV (.ok ⟨[], 0, 0, 0, 0, false, (n : Int), []⟩) (.slice none 0 0)) (by simp [results, Try.results73, asAddr, ldp hp3, ldw hw3]; rfl) rfl ⟨rfl, HF.out.bel.trans hb3⟩

end Go.Proofs.Ythbidfcfkjamdaa
