/-
  What the members of a list hold: plain lemmas, with no program in sight.
-/
import Derived.Test.YtdbldompjhienaaDoorPureList
namespace Go.Proofs.YtdbldompjhienaaDoor
namespace Tx

/-- No comma, no blank. -/
def keepB (c : UInt8) : Bool := c != 44 && !blkB c
def keep (l : List UInt8) : List UInt8 := l.filter keepB
theorem keep_append (a b : List UInt8) : keep (a ++ b) = keep a ++ keep b := List.filter_append ..
theorem keep_blk (a : List UInt8) (h : ∀ x ∈ a, blkB x = true) : keep a = [] := by
  unfold keep
  rw [List.filter_eq_nil_iff]
  intro x hx
  simp [keepB, h x hx]
theorem keep_trim (p : List UInt8) : keep (trim p) = keep p := by
  obtain ⟨a, b, e, ha, hb⟩ := trim_parts p
  conv => rhs; rw [e]
  rw [keep_append, keep_append, keep_blk a ha, keep_blk b hb]; simp
theorem keep_addm (p : List UInt8) : keep (addm p).flatten = keep p := by
  unfold addm
  split
  · rename_i h
    rw [← keep_trim p, List.isEmpty_iff.1 h]; rfl
  · rw [← keep_trim p]; simp
theorem keep_mems (r : List UInt8) : ∀ (cur : List UInt8) (q e : Bool), keep (mems cur q e r).flatten = keep (cur ++ r) := by
  induction r with
  | nil => intro cur q e; rw [mems, keep_addm, List.append_nil]
  | cons c r ih =>
    intro cur q e
    rw [mems]
    have h1 : ∀ q' e', keep (mems (cur ++ [c]) q' e' r).flatten = keep (cur ++ c :: r) := fun q' e' => by rw [ih, List.append_assoc]; rfl
    repeat' split
    · exact h1 _ _
    · exact h1 _ _
    · exact h1 _ _
    · rename_i hc
      have hc' : c = 44 := by rw [Bool.and_eq_true] at hc; exact beq_iff_eq.1 hc.2
      rw [List.flatten_append, keep_append, keep_addm, ih, List.nil_append, hc', keep_append cur]
      rfl
    · exact h1 _ _
/-- P1.8: nothing but commas and blanks is left out. -/
theorem keep_list (l : List UInt8) : keep (list l).flatten = keep l := keep_mems l [] false false

theorem addm_le (p : List UInt8) : (addm p).flatten.length ≤ p.length := by
  unfold addm
  split
  · simp
  · have := trim_le p; simpa using this
theorem flat_mems (r : List UInt8) : ∀ (cur : List UInt8) (q e : Bool), (mems cur q e r).flatten.length ≤ cur.length + r.length := by
  induction r with
  | nil => intro cur q e; have := addm_le cur; rw [mems]; omega
  | cons c r ih =>
    intro cur q e
    rw [mems, List.length_cons]
    have h1 : ∀ q' e', (mems (cur ++ [c]) q' e' r).flatten.length ≤ cur.length + (r.length + 1) := fun q' e' => by
      have := ih (cur ++ [c]) q' e'; rw [List.length_append] at this; simp at this ⊢; omega
    repeat' split
    · exact h1 _ _
    · exact h1 _ _
    · exact h1 _ _
    · have h2 := ih [] q false
      have h3 := addm_le cur
      rw [List.flatten_append, List.length_append]; rw [List.length_nil] at h2; omega
    · exact h1 _ _
theorem flat_list (l : List UInt8) : (list l).flatten.length ≤ l.length := by
  have := flat_mems l [] false false; simpa [list] using this

theorem addm_mem (p m : List UInt8) (h : m ∈ addm p) : m = trim p ∧ m ≠ [] := by
  unfold addm at h
  split at h
  · simp at h
  · rename_i he
    simp only [List.mem_singleton] at h
    subst h
    exact ⟨rfl, fun e => he (by rw [e]; rfl)⟩
/-- P1.8: no member is empty, none begins or ends with a blank. -/
theorem mems_good (r : List UInt8) : ∀ (cur : List UInt8) (q e : Bool), ∀ m ∈ mems cur q e r, m ≠ [] ∧ trim m = m := by
  have ha : ∀ p : List UInt8, ∀ m ∈ addm p, m ≠ [] ∧ trim m = m := fun p m hm => by
    obtain ⟨rfl, h⟩ := addm_mem p m hm
    exact ⟨h, trim_trim p⟩
  induction r with
  | nil => intro cur q e m hm; exact ha cur m hm
  | cons c r ih =>
    intro cur q e m hm
    rw [mems] at hm
    repeat' split at hm
    · exact ih _ _ _ m hm
    · exact ih _ _ _ m hm
    · exact ih _ _ _ m hm
    · rcases List.mem_append.1 hm with hm | hm
      · exact ha cur m hm
      · exact ih _ _ _ m hm
    · exact ih _ _ _ m hm
theorem list_good (l : List UInt8) : ∀ m ∈ list l, m ≠ [] ∧ trim m = m := mems_good l [] false false
theorem trim_sub (p : List UInt8) : ∀ x ∈ trim p, x ∈ p := by
  intro x hx
  obtain ⟨a, b, e, _, _⟩ := trim_parts p
  rw [e]; exact List.mem_append_left _ (List.mem_append_right _ hx)
/-- P1.8: without quotes no member has a comma. -/
theorem mems_comma (r : List UInt8) : ∀ cur : List UInt8, (∀ x ∈ cur, x ≠ 44) → (∀ x ∈ r, x ≠ 34) → ∀ m ∈ mems cur false false r, ∀ x ∈ m, x ≠ 44 := by
  have ha : ∀ p : List UInt8, (∀ x ∈ p, x ≠ 44) → ∀ m ∈ addm p, ∀ x ∈ m, x ≠ 44 := fun p hp m hm x hx => by
    obtain ⟨rfl, _⟩ := addm_mem p m hm
    exact hp x (trim_sub p x hx)
  induction r with
  | nil => intro cur hc _ m hm; exact ha cur hc m hm
  | cons c r ih =>
    intro cur hc hr m hm
    have hr' : ∀ x ∈ r, x ≠ 34 := fun x hx => hr x (List.mem_cons_of_mem _ hx)
    rw [mems, if_neg (by simp), if_neg (by simpa using hr c (List.mem_cons_self ..)), if_neg (by simp)] at hm
    split at hm
    · rcases List.mem_append.1 hm with hm | hm
      · exact ha cur hc m hm
      · exact ih [] (fun x hx => by simp at hx) hr' m hm
    · rename_i hn
      refine ih (cur ++ [c]) (fun x hx => ?_) hr' m hm
      rcases List.mem_append.1 hx with hx | hx
      · exact hc x hx
      · simp only [List.mem_singleton] at hx; subst hx; simpa using hn
theorem list_comma (l : List UInt8) (h : ∀ x ∈ l, x ≠ 34) : ∀ m ∈ list l, ∀ x ∈ m, x ≠ 44 := mems_comma l [] (fun x hx => by simp at hx) h

theorem flat_at (ms : List (List UInt8)) (i : Nat) (h : i < ms.length) : (ms.take (i + 1)).flatten = (ms.take i).flatten ++ ms[i] := by
  rw [List.take_succ_eq_append_getElem h, List.flatten_append]; simp
theorem flat_take_le (ms : List (List UInt8)) (i : Nat) : (ms.take i).flatten.length ≤ ms.flatten.length := by
  conv => rhs; rw [← List.take_append_drop i ms, List.flatten_append, List.length_append]
  omega
theorem flat_at_le (ms : List (List UInt8)) (i : Nat) (h : i < ms.length) : (ms.take i).flatten.length + ms[i].length ≤ ms.flatten.length := by
  have := flat_take_le ms (i + 1)
  rwa [flat_at ms i h, List.length_append] at this

end Tx
end Go.Proofs.YtdbldompjhienaaDoor
