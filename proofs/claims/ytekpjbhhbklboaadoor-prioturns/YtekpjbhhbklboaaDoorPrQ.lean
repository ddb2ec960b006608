/-
  One waits no longer: plain.
-/
import Derived.Test.YtekpjbhhbklboaaDoorPrP
namespace Go.Proofs.YtekpjbhhbklboaaDoor
namespace Pr

/-- Where one that stands at j stood. -/
def stood (i n j : Nat) : Nat := if j = i then n - 1 else j
theorem cut_at {α : Type} (d : α) (xs : List α) (i j : Nat) (hi : i < xs.length) (hj : j < xs.length - 1) : ((xs.set i (xs.getD (xs.length - 1) d)).take (xs.length - 1))[j]? = xs[stood i xs.length j]? := by
  rw [List.getElem?_take, if_pos hj, List.getElem?_set]
  unfold stood
  by_cases h : i = j
  · subst h
    rw [if_pos rfl, if_pos hi, if_pos rfl, List.getD_eq_getElem?_getD, List.getElem?_eq_getElem (by omega : xs.length - 1 < xs.length)]
    rfl
  · rw [if_neg h, if_neg (fun e => h e.symm)]
theorem cut_len {α : Type} (d : α) (xs : List α) (i : Nat) : ((xs.set i (xs.getD (xs.length - 1) d)).take (xs.length - 1)).length = xs.length - 1 := by simp
theorem rem_ok {l : Ln} (h : Ok l) (id : Int) : Ok (rem l id) := by
  unfold rem
  cases hp : pl l.ids id with
  | none => exact h
  | some i =>
    have hi := pl_lt hp
    have hih : i < l.how.length := by rw [h.hl]; exact hi
    refine ⟨by simp [h.hl], ?_, ?_, h.w8, h.l8⟩
    · simp only
      unfold List.Nodup
      rw [List.pairwise_iff_getElem]
      intro a b ha hb hab e
      rw [cut_len] at ha hb
      have ea := cut_at 0 l.ids i a hi ha
      have eb := cut_at 0 l.ids i b hi hb
      rw [List.getElem?_eq_getElem (by rw [cut_len]; exact ha)] at ea
      rw [List.getElem?_eq_getElem (by rw [cut_len]; exact hb), ← e] at eb
      have := pl_of h.nd ea.symm
      have h2 := pl_of h.nd eb.symm
      rw [this] at h2
      injection h2 with h2
      unfold stood at h2
      split at h2 <;> split at h2 <;> omega
    · intro y hy
      simp only at hy
      have hy2 := List.mem_of_mem_take hy
      rcases List.mem_or_eq_of_mem_set hy2 with hy3 | rfl
      · exact h.u7 y hy3
      · rw [List.getD_eq_getElem?_getD, List.getElem?_eq_getElem (by omega : l.how.length - 1 < l.how.length)]
        exact h.u7 _ (List.getElem_mem _)
theorem wt_rem {l : Ln} (h : Ok l) (id z : Int) : wt (rem l id) z = if z = id then none else wt l z := by
  have hok := rem_ok h id
  revert hok
  unfold rem
  cases hp : pl l.ids id with
  | none =>
    intro _
    by_cases hz : z = id
    · subst hz; rw [if_pos rfl, wt_none hp]
    · rw [if_neg hz]
  | some i =>
    have hi := pl_lt hp
    have hih : i < l.how.length := by rw [h.hl]; exact hi
    simp only
    intro hok
    by_cases hz : z = id
    · subst hz
      rw [if_pos rfl]
      apply wt_none
      apply pl_none
      intro hm
      obtain ⟨j, hj⟩ := List.getElem?_of_mem hm
      have hjl : j < l.ids.length - 1 := by have := (List.getElem?_eq_some_iff.1 hj).1; rw [cut_len] at this; exact this
      rw [cut_at 0 l.ids i j hi hjl] at hj
      have := pl_of h.nd hj
      rw [hp] at this
      injection this with this
      unfold stood at this
      split at this <;> omega
    · rw [if_neg hz]
      cases hq : pl l.ids z with
      | none =>
        rw [wt_none hq]
        apply wt_none
        apply pl_none
        intro hm
        obtain ⟨j, hj⟩ := List.getElem?_of_mem hm
        have hjl : j < l.ids.length - 1 := by have := (List.getElem?_eq_some_iff.1 hj).1; rw [cut_len] at this; exact this
        rw [cut_at 0 l.ids i j hi hjl] at hj
        exact pl_no hq (List.mem_of_getElem? hj)
      | some j =>
        have hj := pl_lt hq
        have hij : i ≠ j := by
          rintro rfl
          have h1 := pl_at hp
          rw [pl_at hq] at h1
          injection h1 with h1
          exact hz h1
        have key : ∃ k, k < l.ids.length - 1 ∧ stood i l.ids.length k = j := by
          by_cases hl : j = l.ids.length - 1
          · exact ⟨i, by omega, by unfold stood; rw [if_pos rfl]; exact hl.symm⟩
          · exact ⟨j, by omega, by unfold stood; rw [if_neg (fun e => hij e.symm)]⟩
        obtain ⟨k, hk, hs⟩ := key
        have e1 := pl_of (ids := (l.ids.set i (l.ids.getD (l.ids.length - 1) 0)).take (l.ids.length - 1)) (id := z) (i := k) hok.nd (by rw [cut_at 0 l.ids i k hi hk, hs]; exact pl_at hq)
        unfold wt
        simp only [e1, hq]
        rw [cut_at (0, false) l.how i k hih (by rw [h.hl]; exact hk), h.hl, hs]
theorem rem_len {l : Ln} (h : Ok l) (id : Int) : (rem l id).ids.length = if wt l id = none then l.ids.length else l.ids.length - 1 := by
  unfold rem
  cases hp : pl l.ids id with
  | none => rw [if_pos (wt_none hp)]
  | some i => obtain ⟨u, p, h1, _⟩ := wt_at h hp; rw [h1]; simp
end Pr
end Go.Proofs.YtekpjbhhbklboaaDoor
