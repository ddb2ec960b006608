/-
  Who goes on, and how urgent: plain.
-/
import Derived.Test.YtekpjbhhbklboaaDoorPrN
namespace Go.Proofs.YtekpjbhhbklboaaDoor
namespace Pr

/-- How urgent one is; 8: it does not wait. -/
def uOf (l : Ln) (x : Int) : Nat := match wt l x with
  | some y => y.1
  | none => 8
/-- The last one of a list holds. -/
def lastU (h : List (Int × Nat)) (x : Int) (u : Nat) : Nat := h.foldl (fun u p => if p.1 = x then p.2 else u) u
theorem lastU_snoc (h : List (Int × Nat)) (p : Int × Nat) (x : Int) (u : Nat) : lastU (h ++ [p]) x u = if p.1 = x then p.2 else lastU h x u := by
  unfold lastU
  rw [List.foldl_append]
  rfl
theorem uOf_set {l : Ln} (ok : Ok l) (id : Int) (u : Nat) (p : Bool) (x : Int) : uOf (set l id (u, p)) x = if id = x then u else uOf l x := by
  unfold uOf
  rw [wt_set ok]
  by_cases h : x = id
  · rw [if_pos h, if_pos h.symm]
  · rw [if_neg h, if_neg (fun e => h e.symm)]
theorem lastU_at {h : List (Int × Nat)} {k : Nat} {p : Int × Nat} (hk : h[k]? = some p) (x : Int) (u : Nat) : lastU (h.drop k) x u = lastU (h.drop (k + 1)) x (if p.1 = x then p.2 else u) := by
  obtain ⟨h1, h2⟩ := List.getElem?_eq_some_iff.1 hk
  unfold lastU
  rw [List.drop_eq_getElem_cons h1, h2, List.foldl_cons]
theorem urg_fst {l : Ln} (ok : Ok l) {can : List Int} {z : Int} {u : Nat} {p : Bool} (h : Fst l can z) (hw : wt l z = some (u, p)) : urg l can 8 = u := by
  have hu7 : u ≤ 7 := by
    cases hp : pl l.ids z with
    | none => rw [wt_none hp] at hw; cases hw
    | some i =>
      obtain ⟨u', p', h1, _, h3⟩ := wt_at ok hp
      rw [hw] at h1
      injection h1 with h1
      injection h1 with h1 _
      omega
  have hrk := rk_some hw
  have h1 := urg_le_mem l hw can 8 h.mem
  simp only at h1
  rcases urg_or l can 8 with h2 | ⟨id, hm, q, h2⟩
  · omega
  · have h3 := h.le id hm _ h2
    rw [hrk, rk_some h2] at h3
    have e1 := rkP_bd l (u, p) z
    have e2 := rkP_bd l (urg l can 8, q) id
    simp only at e1 e2
    omega
/-- Who goes on can, and nobody who can is more urgent. -/
theorem next_urgent {l : Ln} (ok : Ok l) (can : List Int) (h8 : urg l can 8 ≠ 8) : (next l can).1 ∈ can ∧ uOf l (next l can).1 = urg l can 8 := by
  cases hf : can.foldl (stp l) none with
  | none =>
    exfalso
    have := fold_all l can
    rw [hf] at this
    apply h8
    rcases urg_or l can 8 with h1 | ⟨id, hm, p, h1⟩
    · exact h1
    · rw [this id hm] at h1; cases h1
  | some z =>
    have hF := fold_all l can
    rw [hf] at hF
    have hF : Fst l can z := hF
    obtain ⟨⟨u, p⟩, hw⟩ := hF.wts
    rw [next_some ok hf hw]
    refine ⟨hF.mem, ?_⟩
    rw [urg_fst ok hF hw]
    unfold uOf
    rw [hw]
theorem next_urg8 {l : Ln} {can : List Int} (h8 : urg l can 8 = 8) : next l can = (-1, l) := by unfold next; rw [if_pos h8]
theorem urg_step (l : Ln) {can : List Int} {i : Nat} {c : Int} (hc : can[i]? = some c) (u : Nat) (hu : u ≤ 8) : urg l (can.drop i) u = urg l (can.drop (i + 1)) (min u (uOf l c)) := by
  rw [urg_at hc]
  unfold uOf
  cases wt l c with
  | none => simp only; rw [Nat.min_eq_left hu]
  | some y => rfl
theorem uOf_le {l : Ln} (ok : Ok l) (x : Int) : uOf l x ≤ 8 := by
  unfold uOf
  cases hp : pl l.ids x with
  | none => rw [wt_none hp]; exact Nat.le_refl _
  | some i =>
    obtain ⟨u, p, h1, _, h3⟩ := wt_at ok hp
    rw [h1]
    simp only
    omega
end Pr
end Go.Proofs.YtekpjbhhbklboaaDoor
