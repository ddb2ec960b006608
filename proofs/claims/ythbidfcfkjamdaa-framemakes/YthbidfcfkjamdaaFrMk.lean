/-
  What frame.Make answers.
-/
import Derived.Test.YthbidfcfkjamdaaFrPo
namespace Go.Proofs.Ythbidfcfkjamdaa
open Go.RowKit

theorem Fm.sets_len (n : Nat) (l : List UInt8) (acc : List (Int × Int)) (p : Fm.Pt) (h : Fm.sets n l acc = .ok p) : p.sets.length = acc.length + n := by
  induction n generalizing l acc with
  | zero => simp only [Fm.sets] at h; injection h with h; subst h; rfl
  | succ n ih =>
    simp only [Fm.sets] at h
    split at h
    · rw [ih _ _ h, List.length_append]; simp; omega
    · cases h
theorem Fm.parse_len {k fl st : Int} {l : List UInt8} {p : Fm.Pt} (h : Fm.parse k fl st l = .ok p) : p.sets.length ≤ l.length := by
  unfold Fm.parse at h
  split at h
  · cases h
  · split at h
    · by_cases hk : k = 4
      · subst hk
        have h2 : Fm.sets (l.length / 6) l [] = .ok p := by rw [← h]; simp [Fm.say]
        rw [Fm.sets_len _ _ _ _ h2]
        simp; omega
      · rw [Fm.say_sets hk h]; simp
    · cases h

theorem cpay_out (k fl st : Int) (p : Fm.Pt) : PAYno k fl st p ∨ (p.data.length ≤ 16777215 ∧ p.sets.length ≤ 2796202 ∧ ∃ s, PAYok k fl st p s) := by
  by_cases hd : 16777215 < p.data.length
  · exact .inl (cpay_long k fl st p hd)
  by_cases hs : 2796202 < p.sets.length
  · exact .inl (cpay_many k fl st p (by omega) hs)
  have hd' : p.data.length ≤ 16777215 := by omega
  have hs' : p.sets.length ≤ 2796202 := by omega
  by_cases k0 : k = 0
  · subst k0
    cases h8 : Fm.has fl 8 with
    | false => exact .inr ⟨hd', hs', _, cpay_data fl st p hd' hs' h8⟩
    | true =>
      by_cases hp : p.pad < 1 ∨ 256 < p.pad
      · exact .inl (cpay_datano fl st p hd' hs' h8 hp)
      · exact .inr ⟨hd', hs', _, cpay_datapad fl st p hd' hs' (p.pad - 1).toNat h8 (by omega) (by omega)⟩
  by_cases k1 : k = 1
  · subst k1
    cases h8 : Fm.has fl 8 with
    | true => exact .inl (cpay_headpad fl st p hd' hs' h8)
    | false =>
      cases h5 : Fm.has fl 32 with
      | false => exact .inr ⟨hd', hs', _, cpay_head fl st p hd' hs' h8 h5⟩
      | true => exact .inr ⟨hd', hs', _, cpay_headprio fl st p hd' hs' h8 h5⟩
  by_cases k2 : k = 2
  · subst k2
    exact .inr ⟨hd', hs', _, cpay_prio fl st p hd' hs'⟩
  by_cases k3 : k = 3
  · subst k3
    exact .inr ⟨hd', hs', _, cpay_reset fl st p hd' hs'⟩
  by_cases k4 : k = 4
  · subst k4
    exact .inr ⟨hd', hs', _, cpay_sets fl st p hd' hs'⟩
  by_cases k6 : k = 6
  · subst k6
    exact .inr ⟨hd', hs', _, cpay_ping fl st p hd' hs'⟩
  by_cases k7 : k = 7
  · subst k7
    exact .inr ⟨hd', hs', _, cpay_away fl st p hd' hs'⟩
  by_cases k8 : k = 8
  · subst k8
    exact .inr ⟨hd', hs', _, cpay_window fl st p hd' hs'⟩
  by_cases k9 : k = 9
  · subst k9
    exact .inr ⟨hd', hs', _, cpay_more fl st p hd' hs'⟩
  by_cases k16 : k = 16
  · subst k16
    exact .inr ⟨hd', hs', _, cpay_update fl st p hd' hs'⟩
  exact .inl (cpay_kind k fl st p hd' hs' ⟨k0, k1, k2, k3, k4, k6, k7, k8, k9, k16⟩)

theorem say_out (k fl st : Int) (p : Fm.Pt) (s : List UInt8) (hs : s.length ≤ 16777215) : SAY k fl st p s false ∨ (Fm.parse k fl st s = .ok p ∧ SAY k fl st p s true) := by
  cases hr : Fm.parse k fl st s with
  | bad c e => exact .inl (fun w v hv => csays_bad k fl st s p c e v hr (by omega) w hv)
  | ok q =>
    have hql := Fm.parse_len hr
    obtain ⟨pd, pp, pc, pl, pw, po, pm, ps⟩ := p
    obtain ⟨pd', pp', pc', pl', pw', po', pm', ps'⟩ := q
    by_cases e0 : pd' = pd
    case neg => exact .inl (fun w v hv => csays_no0 k fl st s pd pp pc pl pw po pm ps pd' pp' pc' pl' pw' po' pm' ps' v hr (by omega) w hv e0)
    subst e0
    by_cases e1 : pp' = pp
    case neg => exact .inl (fun w v hv => csays_no1 k fl st s pd' pp pc pl pw po pm ps pp' pc' pl' pw' po' pm' ps' v hr (by omega) w hv e1)
    subst e1
    by_cases e2 : pc' = pc
    case neg => exact .inl (fun w v hv => csays_no2 k fl st s pd' pp' pc pl pw po pm ps pc' pl' pw' po' pm' ps' v hr (by omega) w hv e2)
    subst e2
    by_cases e3 : pl' = pl
    case neg => exact .inl (fun w v hv => csays_no3 k fl st s pd' pp' pc' pl pw po pm ps pl' pw' po' pm' ps' v hr (by omega) w hv e3)
    subst e3
    by_cases e4 : pw' = pw
    case neg => exact .inl (fun w v hv => csays_no4 k fl st s pd' pp' pc' pl' pw po pm ps pw' po' pm' ps' v hr (by omega) w hv e4)
    subst e4
    by_cases e5 : po' = po
    case neg => exact .inl (fun w v hv => csays_no5 k fl st s pd' pp' pc' pl' pw' po pm ps po' pm' ps' v hr (by omega) w hv e5)
    subst e5
    by_cases e6 : pm' = pm
    case neg => exact .inl (fun w v hv => csays_no6 k fl st s pd' pp' pc' pl' pw' po' pm ps pm' ps' v hr (by omega) w hv e6)
    subst e6
    by_cases e7 : ps' = ps
    · subst e7
      exact .inr ⟨rfl, fun w v hv => csays_all k fl st s pd' pp' pc' pl' pw' po' pm' ps' ps' v hr (by omega) w hv true (decide_eq_true rfl) (by simp only at hql; omega)⟩
    · exact .inl (fun w v hv => csays_all k fl st s pd' pp' pc' pl' pw' po' pm' ps ps' v hr (by omega) w hv false (decide_eq_false e7) (by simp only at hql; omega))

/-- Make answers a frame that says so, or none. -/
theorem cmake_out (k fl st : Int) (p : Fm.Pt) :
    (∀ (w : World) (v : Value), SR w v p.sets → Calls Try.prog 9 #[.int .i64 k, .int .i64 fl, .int .i64 st, .agg (ptC p v)] w fun e w' => e = .returned (.tuple #[.agg (frC 0 0 0 []), .int .i64 70]) ∧ Below w.heap.size w w') ∨
    (∃ s, Fm.unw k fl st s.length = 0 ∧ s.length ≤ 16777215 ∧ Fm.parse k fl st s = .ok p ∧ p.data.length ≤ 16777215 ∧ p.sets.length ≤ 2796202 ∧ ∀ (w : World) (v : Value), SR w v p.sets → Calls Try.prog 9 #[.int .i64 k, .int .i64 fl, .int .i64 st, .agg (ptC p v)] w fun e w' => e = .returned (.tuple #[.agg (frC k fl st s), .int .i64 0]) ∧ Below w.heap.size w w') := by
  rcases cpay_out k fl st p with hno | ⟨hd, hs, s, hpay⟩
  · exact .inl (fun w v hv => cmake_none k fl st p v hno w hv)
  · by_cases hu : Fm.unw k fl st s.length = 0
    · have hl : s.length ≤ 16777215 := by
        have hr := hu
        unfold Fm.unw at hr
        split at hr
        · split at hr
          · cases hr
          · omega
        · cases hr
      rcases say_out k fl st p s hl with h | ⟨h1, h2⟩
      · exact .inl (fun w v hv => cmake_no k fl st p v s hpay hu h w hv)
      · exact .inr ⟨s, hu, hl, h1, hd, hs, fun w v hv => cmake_yes k fl st p v s hpay hu h2 w hv⟩
    · exact .inl (fun w v hv => cmake_unw k fl st p v s _ hpay rfl hu w hv)

end Go.Proofs.Ythbidfcfkjamdaa
