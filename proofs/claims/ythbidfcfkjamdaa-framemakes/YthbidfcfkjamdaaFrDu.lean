/-
  ostlerref07.settings of any frame, and Parse of it: by their contracts.
-/
import Derived.Test.YthbidfcfkjamdaaFrDh
import Derived.Test.YthbidfcfkjamdaaFrK
namespace Go.Proofs.Ythbidfcfkjamdaa
open Go.RowKit

set_option maxHeartbeats 4000000 in
set_option maxRecDepth 20000 in
theorem rsettings_nil (fl : Int) (r : Fm.Rd) (hf : Fm.has fl 1 = true) (hr : Fm.sets 0 [] [] = r) (w : World) : Calls Try.prog 54 #[.agg (frC 4 fl 0 [])] w fun e w' => (∃ v, e = .returned (rdV r v) ∧ Hid (∀ p, r = .ok p → w'.ownsRow w.heap.size 29 2 v p.sets.length (stCells p.sets))) ∧ Below w.heap.size w w' := by
  have HFL := hid' (rflag_any 4 fl 0 [] 1 true (by omega) hf)
  obtain rfl : r = .ok ⟨[], 0, 0, 0, 0, false, 0, []⟩ := by rw [← hr]; rfl
  clear hf hr
  go_enter Try.func54, Try.ntmps54
  go_wp2_with (refine wpl_open _ rfl rfl rfl rfl rfl rfl 4 fl 0 [] (by kernel_rfl) ?_)
  intro b1 b2 b3 w0 hF
  obtain ⟨c0, c1, c2, c3⟩ := frC_cells hF.a1
  have HF := hid' hF
  clear hF
  go_wp2_with fail
  refine (HFL.out _).mono ?_
  rintro e w1 ⟨rfl, hbf⟩
  have HF := hid' (HF.out.keep hbf)
  clear hbf HFL
  go_wp2_with (refine wpl_alloc 27 rfl rfl _ zeroParts ?_)
  intro b5 w5 hg5 ha5 hb5
  have hA5 : Ar w5 b5 27 (ptC Fm.none' (.slice none 0 0)) := ha5
  have HA5 := hid' hA5
  have HF5 := hid' (HF.out.keep hb5)
  clear hg5 ha5 hb5 HF c0 c1 c2 c3 hA5
  go_wp2
  go_loopw [6, 7] (fun s6 _ wr => s6 = .int .i64 0 ∧ wr = w5) (fun _ _ _ => 0)
  case atStart => exact ⟨rfl, rfl⟩
  case round =>
    obtain ⟨rfl, hwr⟩ := hrel
    subst wr
    go_wp2_with (first | refine wpl_ldf _ rfl rfl b5 (by kernel_rfl) _ _ HA5.out ?_ | refine wpl_st2k _ _ _ _ rfl rfl rfl rfl w.heap.size b2 b3 ⟨[], 0, 0, 0, 0, false, 0, []⟩ none 0 0 false false 0 (by kernel_rfl) (by kernel_rfl) (by kernel_rfl) (by kernel_rfl) HF5.out.a2 HF5.out.a3 HF5.out.g2 HF5.out.g3 ?_)
    intro w9 hp9 hw9 hb9 hk9
    go_wp2
    refine bodyPost_ret (v := rdV (.ok ⟨[], 0, 0, 0, 0, false, 0, []⟩) (.slice none 0 0)) (by simp [results, Try.results54, asAddr, ldp hp9, ldw hw9]; rfl) rfl ⟨⟨_, rfl, hid' (fun p hp => ?_)⟩, HF5.out.bel.trans hb9⟩
    injection hp with hp
    subst hp
    exact World.ownsRow_nil _ _ _ _

theorem rsettings_any (fl st : Int) (l : List UInt8) (r : Fm.Rd) (hsz : l.length ≤ 35184372088832) (hr : Fm.parse 4 fl st l = r) (w : World) : Calls Try.prog 54 #[.agg (frC 4 fl st l)] w fun e w' => (∃ v, e = .returned (rdV r v) ∧ Hid (∀ p, r = .ok p → w'.ownsRow w.heap.size 29 2 v p.sets.length (stCells p.sets))) ∧ Below w.heap.size w w' := by
  by_cases hs : st = 0
  · subst hs
    by_cases hb : (Fm.has fl 1 = true ∧ 0 < l.length) ∨ l.length % 6 ≠ 0
    · refine rsettings_size fl l r hb ?_ w
      rw [← hr]
      have hz : Fm.sized 4 fl l.length = false := by
        simp [Fm.sized]
        rcases hb with ⟨h1, h2⟩ | h
        · exact ⟨by intro e; subst e; simp at h2, fun h => by rw [h1] at h; cases h⟩
        · exact ⟨by intro e; subst e; simp at h, fun _ => h⟩
      simp [Fm.parse, Fm.mis, hz]
    · have h6 : l.length % 6 = 0 := by omega
      have hN : l.length = 6 * (l.length / 6) := by omega
      have hz : Fm.sized 4 fl l.length = true := by
        simp [Fm.sized]
        by_cases hl : l = []
        · exact .inl hl
        · refine .inr ⟨?_, h6⟩
          cases h1 : Fm.has fl 1
          · rfl
          · exact absurd (.inl ⟨h1, by cases l with | nil => exact absurd rfl hl | cons a s => simp⟩) hb
      have hr2 : Fm.sets (l.length / 6) l [] = r := by
        rw [← hr]
        simp [Fm.parse, Fm.mis, hz, Fm.say]
      cases h1 : Fm.has fl 1
      · exact rsettings_go fl l _ r hN h1 hsz hr2 w
      · have hl0 : ¬ 0 < l.length := fun h => hb (.inl ⟨h1, h⟩)
        obtain rfl : l = [] := List.eq_nil_of_length_eq_zero (by omega)
        exact rsettings_nil fl r h1 hr2 w
  · refine rsettings_st fl st l r hs ?_ w
    rw [← hr]
    simp [Fm.parse, Fm.mis, hs]

end Go.Proofs.Ythbidfcfkjamdaa
