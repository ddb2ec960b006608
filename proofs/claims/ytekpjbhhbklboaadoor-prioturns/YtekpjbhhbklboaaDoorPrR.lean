/-
  Whose turn it is: plain.
-/
import Derived.Test.YtekpjbhhbklboaaDoorPrQ
namespace Go.Proofs.YtekpjbhhbklboaaDoor
namespace Pr

theorem urg_cons (l : Ln) (c : Int) (r : List Int) (u : Nat) : urg l (c :: r) u = urg l r (match wt l c with
  | some x => min u x.1
  | none => u) := rfl
theorem urg_or (l : Ln) (can : List Int) (u : Nat) : urg l can u = u ∨ ∃ id ∈ can, ∃ p, wt l id = some (urg l can u, p) := by
  induction can generalizing u with
  | nil => exact .inl rfl
  | cons c r ih =>
    rw [urg_cons]
    cases hc : wt l c with
    | none =>
      simp only
      rcases ih u with h | ⟨id, hm, p, h⟩
      · exact .inl h
      · exact .inr ⟨id, List.mem_cons_of_mem _ hm, p, h⟩
    | some x =>
      simp only
      rcases ih (min u x.1) with h | ⟨id, hm, p, h⟩
      · by_cases hx : u ≤ x.1
        · rw [h]; exact .inl (by omega)
        · refine .inr ⟨c, List.mem_cons_self .., x.2, ?_⟩
          rw [h, hc]
          congr 1
          ext <;> simp; omega
      · exact .inr ⟨id, List.mem_cons_of_mem _ hm, p, h⟩
/-- Who was looked at waits. -/
structure SOk (l : Ln) (s : St) : Prop where
  w : ∀ a, s.whole = some a → ∃ k, pl l.ids a = some k
  t : ∀ a, s.least = some a → ∃ k, pl l.ids a = some k
  b : ∀ a, s.behind = some a → ∃ k, pl l.ids a = some k
theorem low_or {o : Option Int} {id a : Int} (h : low o id = some a) : o = some a ∨ a = id := by
  cases o with
  | none => simp [low] at h; exact .inr h.symm
  | some b =>
    simp only [low] at h
    split at h
    · exact .inr (by injection h with h; exact h.symm)
    · exact .inl h
theorem low_some (o : Option Int) (id : Int) : ∃ a, low o id = some a := by
  cases o with
  | none => exact ⟨id, rfl⟩
  | some b => simp only [low]; split <;> exact ⟨_, rfl⟩
theorem look_ok {l : Ln} {u : Nat} {was : Bool} {last : Int} {s : St} (h : SOk l s) (id : Int) : SOk l (look l u was last s id) := by
  unfold look
  cases hw : wt l id with
  | none => exact h
  | some x =>
    have hp : ∃ k, pl l.ids id = some k := by
      cases hq : pl l.ids id with
      | none => rw [wt_none hq] at hw; cases hw
      | some k => exact ⟨k, rfl⟩
    have key : ∀ {o : Option Int}, (∀ a, o = some a → ∃ k, pl l.ids a = some k) → ∀ a, low o id = some a → ∃ k, pl l.ids a = some k := by
      intro o ho a ha
      rcases low_or ha with h1 | rfl
      · exact ho a h1
      · exact hp
    simp only
    split
    · exact h
    · split
      · exact ⟨key h.w, h.t, h.b⟩
      · refine ⟨h.w, key h.t, ?_⟩
        simp only
        split
        · exact key h.b
        · exact h.b
theorem fold_ok {l : Ln} {u : Nat} {was : Bool} {last : Int} (can : List Int) {s : St} (h : SOk l s) : SOk l (can.foldl (look l u was last) s) := by
  induction can generalizing s with
  | nil => exact h
  | cons c r ih => exact ih (look_ok h c)
theorem look_keeps {l : Ln} {u : Nat} {was : Bool} {last : Int} {s : St} (id : Int) (h : s.whole ≠ none ∨ s.least ≠ none) : (look l u was last s id).whole ≠ none ∨ (look l u was last s id).least ≠ none := by
  unfold look
  cases wt l id with
  | none => exact h
  | some x =>
    simp only
    split
    · exact h
    · split
      · obtain ⟨a, ha⟩ := low_some s.whole id
        exact .inl (by simp [ha])
      · obtain ⟨a, ha⟩ := low_some s.least id
        exact .inr (by simp [ha])
theorem fold_keeps {l : Ln} {u : Nat} {was : Bool} {last : Int} (can : List Int) {s : St} (h : s.whole ≠ none ∨ s.least ≠ none) : (can.foldl (look l u was last) s).whole ≠ none ∨ (can.foldl (look l u was last) s).least ≠ none := by
  induction can generalizing s with
  | nil => exact h
  | cons c r ih => exact ih (look_keeps c h)
theorem fold_some {l : Ln} {u : Nat} {was : Bool} {last : Int} (can : List Int) {s : St} {id : Int} {p : Bool} (hm : id ∈ can) (hw : wt l id = some (u, p)) : (can.foldl (look l u was last) s).whole ≠ none ∨ (can.foldl (look l u was last) s).least ≠ none := by
  induction can generalizing s with
  | nil => cases hm
  | cons c r ih =>
    rcases List.mem_cons.1 hm with rfl | hm
    · refine fold_keeps r ?_
      unfold look
      rw [hw]
      simp only [ne_eq, not_true_eq_false, if_false]
      split
      · obtain ⟨a, ha⟩ := low_some s.whole id
        exact .inl (by simp [ha])
      · obtain ⟨a, ha⟩ := low_some s.least id
        exact .inr (by simp [ha])
    · exact ih hm
/-- Where one of those stands. -/
def plc (l : Ln) (o : Option Int) : Int := match o with
  | none => -1
  | some a => plI l.ids a
theorem drop_at {can : List Int} {i : Nat} {c : Int} (h : can[i]? = some c) : can.drop i = c :: can.drop (i + 1) := by
  obtain ⟨h1, h2⟩ := List.getElem?_eq_some_iff.1 h
  rw [List.drop_eq_getElem_cons h1, h2]
theorem urg_at {l : Ln} {can : List Int} {i : Nat} {c : Int} (h : can[i]? = some c) (u : Nat) : urg l (can.drop i) u = urg l (can.drop (i + 1)) (match wt l c with
  | some x => min u x.1
  | none => u) := by rw [drop_at h, urg_cons]
theorem fold_at {l : Ln} {u : Nat} {was : Bool} {last : Int} {can : List Int} {i : Nat} {c : Int} (h : can[i]? = some c) (s : St) : (can.drop i).foldl (look l u was last) s = (can.drop (i + 1)).foldl (look l u was last) (look l u was last s c) := by
  rw [drop_at h, List.foldl_cons]
/-- What Next answers, by what was looked at. -/
theorem next_whole {l : Ln} {can : List Int} {m : Nat} {wa : Bool} {la z : Int} {ot ob : Option Int} (hu : urg l can 8 = m) (h8 : ¬ m = 8) (hw : l.was[m]? = some wa) (hl : l.last[m]? = some la) (h : can.foldl (look l m wa la) ⟨none, none, none⟩ = ⟨some z, ot, ob⟩) : next l can = (z, l) := by
  unfold next
  rw [if_neg (by rw [hu]; exact h8)]
  simp only [hu, List.getD_eq_getElem?_getD, hw, hl, Option.getD_some, h]
theorem next_parts {l : Ln} {can : List Int} {m : Nat} {wa : Bool} {la z : Int} {ot ob : Option Int} (hu : urg l can 8 = m) (h8 : ¬ m = 8) (hw : l.was[m]? = some wa) (hl : l.last[m]? = some la) (h : can.foldl (look l m wa la) ⟨none, none, none⟩ = ⟨none, ot, ob⟩) (hz : ob = some z ∨ (ob = none ∧ ot = some z)) : next l can = (z, { l with was := l.was.set m true, last := l.last.set m z }) := by
  unfold next
  rw [if_neg (by rw [hu]; exact h8)]
  simp only [hu, List.getD_eq_getElem?_getD, hw, hl, Option.getD_some, h]
  rcases hz with rfl | ⟨rfl, rfl⟩ <;> rfl
theorem next_has {l : Ln} {can : List Int} {m : Nat} {wa : Bool} {la : Int} {ot ob : Option Int} (hu : urg l can 8 = m) (h8 : ¬ m = 8) (h : can.foldl (look l m wa la) ⟨none, none, none⟩ = ⟨none, ot, ob⟩) : ∃ z, ot = some z := by
  rcases urg_or l can 8 with h1 | ⟨id, hm, p, hw⟩
  · rw [hu] at h1; exact absurd h1 h8
  · rw [hu] at hw
    have := fold_some (u := m) (was := wa) (last := la) can (s := ⟨none, none, none⟩) hm hw
    rw [h] at this
    rcases this with h2 | h2
    · exact absurd rfl h2
    · cases ot with
      | none => exact absurd rfl h2
      | some z => exact ⟨z, rfl⟩
theorem look_none {l : Ln} {u : Nat} {was : Bool} {last : Int} {s : St} {c : Int} (h : wt l c = none) : look l u was last s c = s := by unfold look; rw [h]
theorem look_other {l : Ln} {u y : Nat} {was p : Bool} {last : Int} {s : St} {c : Int} (h : wt l c = some (y, p)) (hne : ¬ y = u) : look l u was last s c = s := by
  unfold look
  rw [h]
  simp only
  rw [if_pos hne]
theorem look_whole {l : Ln} {u : Nat} {was : Bool} {last : Int} {ow ot ob : Option Int} {c : Int} (h : wt l c = some (u, false)) : look l u was last ⟨ow, ot, ob⟩ c = ⟨low ow c, ot, ob⟩ := by
  unfold look
  rw [h]
  simp
theorem look_parts {l : Ln} {u : Nat} {was : Bool} {last : Int} {ow ot ob : Option Int} {c : Int} (h : wt l c = some (u, true)) : look l u was last ⟨ow, ot, ob⟩ c = ⟨ow, low ot c, if was = true ∧ last < c then low ob c else ob⟩ := by
  unfold look
  rw [h]
  simp
theorem low_none (c : Int) : low none c = some c := rfl
theorem low_lt {c z : Int} (h : c < z) : low (some z) c = some c := by simp only [low]; rw [if_pos h]
theorem low_ge {c z : Int} (h : ¬ c < z) : low (some z) c = some z := by simp only [low]; rw [if_neg h]
theorem plc_none (l : Ln) : plc l none = -1 := rfl
theorem plc_some (l : Ln) (a : Int) : plc l (some a) = plI l.ids a := rfl
theorem plI_some {ids : List Int} {a : Int} {k : Nat} (h : pl ids a = some k) : plI ids a = (k : Int) := by unfold plI; rw [h]
end Pr
end Go.Proofs.YtekpjbhhbklboaaDoor
