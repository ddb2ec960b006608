/-
  A line that stands nowhere: there is one. What is of no program.
-/
import Derived.Test.YtdbldompjhienaaDoorRgE
namespace Go.Proofs.YtdbldompjhienaaDoor
namespace Rg
theorem nodup_le : ∀ (N : Nat) (l : List Nat), l.Nodup → (∀ x ∈ l, x < N) → l.length ≤ N := by
  intro N
  induction N with
  | zero =>
    intro l _ h
    cases l with
    | nil => simp
    | cons a r => exact absurd (h a (by simp)) (Nat.not_lt_zero _)
  | succ N ih =>
    intro l hn h
    have h1 := ih (l.erase N) (hn.erase N) (fun x hx => by
      rw [hn.mem_erase_iff] at hx
      have := h x hx.2
      have := hx.1
      omega)
    rw [List.length_erase] at h1
    split at h1 <;> omega
theorem line_len (n : Nat) (h : n < 10000000000000000000) : (line n).length ≤ 25 := by
  unfold line
  have := Tx.itoa_le (n : Int) 19 (by omega)
  simp [sPart]; omega
theorem line_inj {n m : Nat} (hn : n ≤ 9223372036854775807) (hm : m ≤ 9223372036854775807) (h : line n = line m) : n = m := by
  unfold line at h
  have h1 := List.append_cancel_left h
  have a1 := Tx.num_itoa (n : Int) (by omega) (by omega) 0
  have a2 := Tx.num_itoa (m : Int) (by omega) (by omega) 0
  rw [h1, a2] at a1
  injection a1 with a1
  omega
theorem stands_ex {s b : T8} (h : stands s b = true) : ∃ i, i + s.length ≤ b.length + s.length - s.length + s.length ∧ i < b.length + 1 ∧ atP s b i = true := by
  unfold stands at h
  rw [List.any_eq_true] at h
  obtain ⟨i, h1, h2⟩ := h
  have := List.mem_range.1 h1
  exact ⟨i, by omega, by omega, h2⟩
/-- Some line stands nowhere. -/
theorem some_line (b : T8) (hL : b.length ≤ 140737488355328) : ∃ n, n ≤ (b.length + 1) * 32 ∧ stands (line n) b = false := by
  apply Classical.byContradiction
  intro hno
  have hall : ∀ n, n ≤ (b.length + 1) * 32 → stands (line n) b = true := fun n hn => by
    cases hq : stands (line n) b
    · exact absurd ⟨n, hn, hq⟩ hno
    · rfl
  have hch : ∀ n, ∃ i, n ≤ (b.length + 1) * 32 → i < b.length + 1 ∧ atP (line n) b i = true := fun n => by
    by_cases hn : n ≤ (b.length + 1) * 32
    · obtain ⟨i, _, h2, h3⟩ := stands_ex (hall n hn)
      exact ⟨i, fun _ => ⟨h2, h3⟩⟩
    · exact ⟨0, fun h => absurd h hn⟩
  obtain ⟨f, hf⟩ := Classical.axiomOfChoice hch
  have hlen : ∀ n, n ≤ (b.length + 1) * 32 → (line n).length ≤ 25 := fun n hn => line_len n (by omega)
  have hnd : ((List.range ((b.length + 1) * 32 + 1)).map fun n => f n * 32 + (line n).length).Nodup := by
    unfold List.Nodup
    rw [List.pairwise_map]
    refine List.Pairwise.imp_of_mem ?_ List.nodup_range
    intro x y hx hy hxy e
    have hx1 : x ≤ (b.length + 1) * 32 := by have := List.mem_range.1 hx; omega
    have hy1 : y ≤ (b.length + 1) * 32 := by have := List.mem_range.1 hy; omega
    have lx := hlen x hx1
    have ly := hlen y hy1
    have e1 : f x = f y := by omega
    have e2 : (line x).length = (line y).length := by omega
    have p1 := eq_of_beq (hf x hx1).2
    have p2 := eq_of_beq (hf y hy1).2
    rw [e1, e2, p2] at p1
    exact hxy (line_inj (by omega) (by omega) p1.symm)
  have hle := nodup_le ((b.length + 1) * 32) _ hnd (fun z hz => by
    obtain ⟨n, hn, rfl⟩ := List.mem_map.1 hz
    have hn1 : n ≤ (b.length + 1) * 32 := by have := List.mem_range.1 hn; omega
    have h1 := (hf n hn1).1
    have h2 := hlen n hn1
    omega)
  rw [List.length_map, List.length_range] at hle
  omega
/-- The least such number. -/
theorem least_line (b : T8) (hL : b.length ≤ 140737488355328) : ∃ n, n ≤ (b.length + 1) * 32 ∧ stands (line n) b = false ∧ ∀ m, m < n → stands (line m) b = true := by
  obtain ⟨n, h1, h2⟩ := some_line b hL
  have key : ∀ k n, n ≤ k → stands (line n) b = false → ∃ q, q ≤ n ∧ stands (line q) b = false ∧ ∀ m, m < q → stands (line m) b = true := by
    intro k
    induction k with
    | zero => intro n hn h; exact ⟨n, Nat.le_refl _, h, fun m hm => by omega⟩
    | succ k ih =>
      intro n hn h
      by_cases hq : ∃ m, m < n ∧ stands (line m) b = false
      · obtain ⟨m, hm, hs⟩ := hq
        obtain ⟨q, q1, q2, q3⟩ := ih m (by omega) hs
        exact ⟨q, by omega, q2, q3⟩
      · refine ⟨n, Nat.le_refl _, h, fun m hm => ?_⟩
        cases hs : stands (line m) b
        · exact absurd ⟨m, hm, hs⟩ hq
        · rfl
  obtain ⟨q, q1, q2, q3⟩ := key n n (Nat.le_refl _) h2
  exact ⟨q, by omega, q2, q3⟩
end Rg
end Go.Proofs.YtdbldompjhienaaDoor
