/-
  ostlerref07.Parse of a SETTINGS frame: by its contract.
-/
import Derived.Test.YthbidfcfkjamdaaFrDu
namespace Go.Proofs.Ythbidfcfkjamdaa
open Go.RowKit

set_option maxHeartbeats 4000000 in
set_option maxRecDepth 20000 in
theorem rparse_settings (fl st : Int) (l : List UInt8) (r : Fm.Rd) (hsz : l.length ≤ 35184372088832) (hr : Fm.parse 4 fl st l = r) (w : World) : Calls Try.prog 38 #[.agg (frC 4 fl st l)] w fun e w' => (∃ v, e = .returned (rdV r v) ∧ Hid (∀ p, r = .ok p → w'.ownsRow w.heap.size 29 2 v p.sets.length (stCells p.sets))) ∧ Below w.heap.size w w' := by
  have HSUB := hid' (rsettings_any fl st l r hsz hr)
  clear hr hsz
  cases r with
  | bad cn cd =>
    go_enter Try.func38, Try.ntmps38
    go_wp2_with (refine wpl_open _ rfl rfl rfl rfl rfl rfl 4 fl st l (by kernel_rfl) ?_)
    intro b1 b2 b3 w0 hF
    obtain ⟨c0, c1, c2, c3⟩ := frC_cells hF.a1
    have HF := hid' hF
    clear hF
    go_wp2_with (refine wpl_ldfr _ rfl rfl b1 (by kernel_rfl) _ _ _ _ HF.out.a1 ?_)
    go_wp2_with fail
    refine (HSUB.out _).mono ?_
    rintro e w1 ⟨⟨v1, rfl, hv1⟩, hb1⟩
    have HF1 := hid' (HF.out.keep hb1)
    clear hb1 hv1
    simp only [rdV]
    go_wp2_with (refine wpl_st2 _ _ _ _ rfl rfl rfl rfl w.heap.size b2 b3 Fm.none' none 0 0 true cn cd (by kernel_rfl) (by kernel_rfl) (by kernel_rfl) (by kernel_rfl) HF1.out.a2 HF1.out.a3 HF1.out.g2 HF1.out.g3 ?_)
    intro w3 hp3 hw3 hb3
    go_wp2
    exact bodyPost_ret (v := rdV (.bad cn cd) (.slice none 0 0)) (by simp [results, Try.results38, asAddr, ldp hp3, ldw hw3]; rfl) rfl ⟨⟨_, rfl, hid' (fun p hp => by cases hp)⟩, HF1.out.bel.trans hb3⟩
  | ok p =>
    go_enter Try.func38, Try.ntmps38
    go_wp2_with (refine wpl_open _ rfl rfl rfl rfl rfl rfl 4 fl st l (by kernel_rfl) ?_)
    intro b1 b2 b3 w0 hF
    obtain ⟨c0, c1, c2, c3⟩ := frC_cells hF.a1
    have HF := hid' hF
    clear hF
    go_wp2_with (refine wpl_ldfr _ rfl rfl b1 (by kernel_rfl) _ _ _ _ HF.out.a1 ?_)
    go_wp2_with fail
    refine (HSUB.out _).mono ?_
    rintro e w1 ⟨⟨v1, rfl, hv1⟩, hb1⟩
    have HF1 := hid' (HF.out.keep hb1)
    have how := hv1.out p rfl
    obtain ⟨ao, m, cap, hv⟩ : ∃ ao m cap, v1 = .slice ao m cap := by
      rcases how.2 with ⟨h, _⟩ | ⟨g, cap, cur, h, _⟩
      · exact ⟨none, 0, 0, h⟩
      · exact ⟨_, _, _, h⟩
    subst hv
    have HOW := hid' (own_low how HF.out.bel.size)
    clear hb1 hv1 how
    simp only [rdV]
    go_wp2_with (refine wpl_st2k _ _ _ _ rfl rfl rfl rfl w.heap.size b2 b3 p ao m cap false false 0 (by kernel_rfl) (by kernel_rfl) (by kernel_rfl) (by kernel_rfl) HF1.out.a2 HF1.out.a3 HF1.out.g2 HF1.out.g3 ?_)
    intro w3 hp3 hw3 hb3 hk3
    go_wp2
    refine bodyPost_ret (v := rdV (.ok p) (.slice ao m cap)) (by simp [results, Try.results38, asAddr, ldp hp3, ldw hw3]; rfl) rfl ⟨⟨_, rfl, hid' (fun p' hp => ?_)⟩, HF1.out.bel.trans hb3⟩
    injection hp with hp
    subst hp
    exact own_same HOW.out (fun k hk => hk3 k (own_apart HOW.out HF1.out.a2 (by decide) k hk) (own_apart HOW.out HF1.out.a3 (by decide) k hk))

end Go.Proofs.Ythbidfcfkjamdaa
