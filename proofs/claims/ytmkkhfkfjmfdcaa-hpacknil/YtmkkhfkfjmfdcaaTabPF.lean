/-
  What is found: the plain theory.
-/
import Derived.Test.YtmkkhfkfjmfdcaaTabP
namespace Go.Proofs.Ytmkkhfkfjmfdcaa
namespace Tb

theorem findGo_whole (f : (List UInt8 × List UInt8)) (l : List (List UInt8 × List UInt8)) : ∀ i named k, findGo f l i named = (k, true) → ∃ j, k = i + j + 1 ∧ l[j]? = some f := by
  induction l with
  | nil => intro i named k h; simp [findGo] at h
  | cons g r ih =>
    intro i named k h
    unfold findGo at h
    split at h
    · rename_i e
      injection h with h1 _
      exact ⟨0, by omega, by simp [e]⟩
    · obtain ⟨j, hk, hj⟩ := ih _ _ _ h
      exact ⟨j + 1, by omega, by simpa using hj⟩
theorem findGo_not (f : (List UInt8 × List UInt8)) (l : List (List UInt8 × List UInt8)) : ∀ i named k, findGo f l i named = (k, false) → (∀ g ∈ l, g ≠ f) ∧ (k = named ∨ ∃ j v2, k = i + j + 1 ∧ l[j]? = some (f.1, v2)) := by
  induction l with
  | nil =>
    intro i named k h
    simp [findGo] at h
    exact ⟨by simp, .inl h.symm⟩
  | cons g r ih =>
    intro i named k h
    unfold findGo at h
    split at h
    · injection h with _ h2; cases h2
    · rename_i hne
      obtain ⟨h1, h2⟩ := ih _ _ _ h
      refine ⟨fun x hx => by rcases List.mem_cons.1 hx with rfl | hx; exact hne; exact h1 x hx, ?_⟩
      rcases h2 with h2 | ⟨j, v2, hk, hj⟩
      · by_cases hc : g.1 = f.1 ∧ named = 0
        · rw [if_pos hc] at h2
          exact .inr ⟨0, g.2, by omega, by simp [← hc.1]⟩
        · rw [if_neg hc] at h2
          exact .inl h2
      · exact .inr ⟨j + 1, v2, by omega, by simpa using hj⟩
theorem at_nat (fs : List (List UInt8 × List UInt8)) (j : Nat) : at? fs ((j + 1 : Nat) : Int) = (all fs)[j]? := by
  unfold at?
  rw [if_pos (by omega), show (((j + 1 : Nat) : Int) - 1).toNat = j by omega]
theorem find_whole (fs : List (List UInt8 × List UInt8)) (f : (List UInt8 × List UInt8)) (k : Nat) (h : find fs f = (k, true)) : 0 < k ∧ at? fs (k : Int) = some f := by
  obtain ⟨j, hk, hj⟩ := findGo_whole f (all fs) 0 0 k h
  have : k = j + 1 := by omega
  subst this
  exact ⟨by omega, by rw [at_nat]; exact hj⟩
theorem find_named (fs : List (List UInt8 × List UInt8)) (f : (List UInt8 × List UInt8)) (k : Nat) (h : find fs f = (k, false)) : k = 0 ∨ (0 < k ∧ ∃ v2, at? fs (k : Int) = some (f.1, v2) ∧ (f.1, v2) ≠ f) := by
  obtain ⟨h1, h2⟩ := findGo_not f (all fs) 0 0 k h
  rcases h2 with h2 | ⟨j, v2, hk, hj⟩
  · exact .inl h2
  · have : k = j + 1 := by omega
    subst this
    exact .inr ⟨by omega, v2, by rw [at_nat]; exact hj, h1 _ (List.mem_of_getElem? hj)⟩

end Tb
end Go.Proofs.Ytmkkhfkfjmfdcaa
