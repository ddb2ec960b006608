/-
  ostlerref07.settings: by its contract.
-/
import Derived.Test.YthbidfcfkjamdaaFrDx
import Derived.Deep.CutRange
namespace Go.Proofs.Ythbidfcfkjamdaa
open Go.RowKit

set_option maxHeartbeats 4000000 in
set_option maxRecDepth 20000 in
theorem rsettings_st (fl st : Int) (l : List UInt8) (r : Fm.Rd) (hs : st ≠ 0) (hr : r = .bad true 1) (w : World) : Calls Try.prog 54 #[.agg (frC 4 fl st l)] w fun e w' => (∃ v, e = .returned (rdV r v) ∧ Hid (∀ p, r = .ok p → w'.ownsRow w.heap.size 29 2 v p.sets.length (stCells p.sets))) ∧ Below w.heap.size w w' := by
  subst hr
  have hs1 : (st != 0) = true := by simp [hs]
  go_enter Try.func54, Try.ntmps54
  go_wp2_with (refine wpl_open _ rfl rfl rfl rfl rfl rfl 4 fl st l (by kernel_rfl) ?_)
  intro b1 b2 b3 w0 hF
  obtain ⟨c0, c1, c2, c3⟩ := frC_cells hF.a1
  have HF := hid' hF
  clear hF
  go_wp2_with fail
  refine (rconn_any 1 _).mono ?_
  rintro e w1 ⟨rfl, hb1⟩
  have HF1 := hid' (HF.out.keep hb1)
  clear hb1
  go_wp2_with (refine wpl_st2 _ _ _ _ rfl rfl rfl rfl w.heap.size b2 b3 Fm.none' none 0 0 true true 1 (by kernel_rfl) (by kernel_rfl) (by kernel_rfl) (by kernel_rfl) HF1.out.a2 HF1.out.a3 HF1.out.g2 HF1.out.g3 ?_)
  intro w3 hp3 hw3 hb3
  go_wp2
  exact bodyPost_ret (v := rdV (.bad true 1) (.slice none 0 0)) (by simp [results, Try.results54, asAddr, ldp hp3, ldw hw3]; rfl) rfl ⟨⟨_, rfl, hid' (fun p hp => by cases hp)⟩, HF1.out.bel.trans hb3⟩

set_option maxHeartbeats 4000000 in
set_option maxRecDepth 20000 in
theorem rsettings_size (fl : Int) (l : List UInt8) (r : Fm.Rd) (hb : (Fm.has fl 1 = true ∧ 0 < l.length) ∨ l.length % 6 ≠ 0) (hr : r = .bad true 6) (w : World) : Calls Try.prog 54 #[.agg (frC 4 fl 0 l)] w fun e w' => (∃ v, e = .returned (rdV r v) ∧ Hid (∀ p, r = .ok p → w'.ownsRow w.heap.size 29 2 v p.sets.length (stCells p.sets))) ∧ Below w.heap.size w w' := by
  subst hr
  obtain ⟨h1, hh1⟩ : ∃ h1, Fm.has fl 1 = h1 := ⟨_, rfl⟩
  rw [hh1] at hb
  have HFL := hid' (rflag_any 4 fl 0 l 1 h1 (by omega) hh1)
  have hm6 : (l.length : Int).tmod 6 = ((l.length % 6 : Nat) : Int) := by rw [Int.tmod_eq_emod_of_nonneg (by omega)]; omega
  clear hh1
  by_cases hA : h1 = true ∧ 0 < l.length
  · obtain ⟨rfl, h0⟩ := hA
    have h0i : (0 : Int) < (l.length : Int) := by omega
    clear hb hm6
    go_enter Try.func54, Try.ntmps54
    go_wp2_with (refine wpl_open _ rfl rfl rfl rfl rfl rfl 4 fl 0 l (by kernel_rfl) ?_)
    intro b1 b2 b3 w0 hF
    obtain ⟨c0, c1, c2, c3⟩ := frC_cells hF.a1
    have HF := hid' hF
    clear hF
    go_wp2_with fail
    refine (HFL.out _).mono ?_
    rintro e w1 ⟨rfl, hbf⟩
    have HF := hid' (HF.out.keep hbf)
    clear hbf
    go_wp2_with fail
    refine (rconn_any 6 _).mono ?_
    rintro e w1 ⟨rfl, hb1⟩
    have HF1 := hid' (HF.out.keep hb1)
    clear hb1
    go_wp2_with (refine wpl_st2 _ _ _ _ rfl rfl rfl rfl w.heap.size b2 b3 Fm.none' none 0 0 true true 6 (by kernel_rfl) (by kernel_rfl) (by kernel_rfl) (by kernel_rfl) HF1.out.a2 HF1.out.a3 HF1.out.g2 HF1.out.g3 ?_)
    intro w3 hp3 hw3 hb3
    go_wp2
    exact bodyPost_ret (v := rdV (.bad true 6) (.slice none 0 0)) (by simp [results, Try.results54, asAddr, ldp hp3, ldw hw3]; rfl) rfl ⟨⟨_, rfl, hid' (fun p hp => by cases hp)⟩, HF1.out.bel.trans hb3⟩
  · have h6 : l.length % 6 ≠ 0 := by rcases hb with h | h; exact absurd h hA; exact h
    have h60 : 0 < l.length := by omega
    obtain rfl : h1 = false := by cases h1; rfl; exact absurd ⟨rfl, h60⟩ hA
    obtain ⟨q, hq⟩ : ∃ q, l.length % 6 = q := ⟨_, rfl⟩
    rw [hq] at hm6 h6
    have hq0 : ((q : Int) != 0) = true := by simp; omega
    have hq1 : (q != 0) = true := by simp; omega
    clear hb hA hq h60
    go_enter Try.func54, Try.ntmps54
    go_wp2_with (refine wpl_open _ rfl rfl rfl rfl rfl rfl 4 fl 0 l (by kernel_rfl) ?_)
    intro b1 b2 b3 w0 hF
    obtain ⟨c0, c1, c2, c3⟩ := frC_cells hF.a1
    have HF := hid' hF
    clear hF
    go_wp2_with fail
    refine (HFL.out _).mono ?_
    rintro e w1 ⟨rfl, hbf⟩
    have HF := hid' (HF.out.keep hbf)
    clear hbf
    go_wp2_with fail
    refine (rconn_any 6 _).mono ?_
    rintro e w1 ⟨rfl, hb1⟩
    have HF1 := hid' (HF.out.keep hb1)
    clear hb1
    go_wp2_with (refine wpl_st2 _ _ _ _ rfl rfl rfl rfl w.heap.size b2 b3 Fm.none' none 0 0 true true 6 (by kernel_rfl) (by kernel_rfl) (by kernel_rfl) (by kernel_rfl) HF1.out.a2 HF1.out.a3 HF1.out.g2 HF1.out.g3 ?_)
    intro w3 hp3 hw3 hb3
    go_wp2
    exact bodyPost_ret (v := rdV (.bad true 6) (.slice none 0 0)) (by simp [results, Try.results54, asAddr, ldp hp3, ldw hw3]; rfl) rfl ⟨⟨_, rfl, hid' (fun p hp => by cases hp)⟩, HF1.out.bel.trans hb3⟩

end Go.Proofs.Ythbidfcfkjamdaa
