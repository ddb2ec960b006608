/-
  What ostlerref03.Decode's search finds: the plain facts.
-/
import Derived.Test.YthldbhpkkcoafaaHuffVE
namespace Go.Proofs.Ythldbhpkkcoafaa
namespace Hf
def sta (n : Nat) : Nat := (stasL.getD n 0).toNat
def cntN (n : Nat) : Nat := (cnt.getD n 0).toNat
def fstN (n : Nat) : Nat := (fstsL.getD n 0).toNat
theorem sta_ok : (List.range 31).all (fun n => decide (sta n < 257) && decide (n ≤ oL (sta n)) && (decide (sta n = 0) || decide (oL (sta n - 1) < n)) && decide (sta n + cntN n ≤ 257) && decide (sta n + cntN n = 257 ∨ oL (sta n + cntN n) ≠ n)) = true := by decide +kernel
theorem sta_at (n : Nat) (h : n < 31) : sta n < 257 ∧ n ≤ oL (sta n) ∧ (sta n = 0 ∨ oL (sta n - 1) < n) ∧ sta n + cntN n ≤ 257 ∧ (sta n + cntN n = 257 ∨ oL (sta n + cntN n) ≠ n) := by
  have := List.all_eq_true.1 sta_ok n (List.mem_range.2 h)
  simp only [Bool.and_eq_true, Bool.or_eq_true, decide_eq_true_eq] at this
  obtain ⟨⟨⟨⟨h1, h2⟩, h3⟩, h4⟩, h5⟩ := this
  exact ⟨h1, h2, h3, h4, h5⟩
theorem oL_mono (a d : Nat) (h : a + d < 257) : oL a ≤ oL (a + d) := by
  induction d with
  | zero => exact Nat.le_refl _
  | succ d ih => exact Nat.le_trans (ih (by omega)) (o_next (a + d) (by omega)).1
theorem oL_ahead (n a : Nat) (hn : n < 31) (ha : a < sta n) : oL a < n := by
  obtain ⟨h1, _, h3, _⟩ := sta_at n hn
  rcases h3 with h3 | h3
  · omega
  · have := oL_mono a (sta n - 1 - a) (by omega)
    rw [show a + (sta n - 1 - a) = sta n - 1 by omega] at this
    omega
theorem run_ok : (List.range 31).all (fun n => (List.range (cntN n)).all fun j => decide (oL (sta n + j) = n) && decide (oC (sta n + j) = fstN n + j)) = true := by decide +kernel
theorem run_at (n j : Nat) (hn : n < 31) (hj : j < cntN n) : oL (sta n + j) = n ∧ oC (sta n + j) = fstN n + j := by
  have h1 := List.all_eq_true.1 run_ok n (List.mem_range.2 hn)
  have h2 := List.all_eq_true.1 h1 j (List.mem_range.2 hj)
  simpa only [Bool.and_eq_true, decide_eq_true_eq] using h2
theorem fst_pos : (List.range 31).all (fun n => decide (fstsL.getD n 0 = (fstN n : Int)) && decide (cnt.getD n 0 = (cntN n : Int)) && decide (stasL.getD n 0 = (sta n : Int))) = true := by decide +kernel
/-- The symbol of a code, by its place. -/
theorem sym_none (c n : Nat) (hn : n < 31) (h : sym c n = none) (j : Nat) (hj : j < cntN n) : fstN n + j ≠ c := by
  have h0 := List.all_eq_true.1 fst_pos n (List.mem_range.2 hn)
  simp only [Bool.and_eq_true, decide_eq_true_eq] at h0
  obtain ⟨⟨e1, e2⟩, e3⟩ := h0
  rw [sym_eq] at h
  unfold symL at h
  rw [e1, e2] at h
  intro e
  rw [if_neg (by omega)] at h
  cases h
theorem sym_some (c n x : Nat) (hn : n < 31) (h : sym c n = some x) : ∃ j, j < cntN n ∧ fstN n + j = c ∧ ordsL[sta n + j]? = some (x : Int) := by
  have h0 := List.all_eq_true.1 fst_pos n (List.mem_range.2 hn)
  simp only [Bool.and_eq_true, decide_eq_true_eq] at h0
  obtain ⟨⟨e1, e2⟩, e3⟩ := h0
  have hlt := (sta_at n hn).2.2.2.1
  rw [sym_eq] at h
  unfold symL at h
  rw [e1, e2, e3] at h
  by_cases h2 : (c : Int) - (fstN n : Int) < 0 ∨ (cntN n : Int) ≤ (c : Int) - (fstN n : Int)
  · rw [if_pos h2] at h; cases h
  · rw [if_neg h2] at h
    have hx := Option.some.inj h
    refine ⟨c - fstN n, by omega, by omega, ?_⟩
    have e : ((sta n : Int) + ((c : Int) - (fstN n : Int))).toNat = sta n + (c - fstN n) := by omega
    rw [e] at hx
    have hl : sta n + (c - fstN n) < ordsL.length := by rw [ordsL_length]; omega
    have hnn : 0 ≤ ordsL.getD (sta n + (c - fstN n)) 0 := by
      have := ords_nonneg (sta n + (c - fstN n)) (by rw [ordsL_length] at hl; exact hl)
      rw [ords_eq] at this; exact this
    rw [List.getElem?_eq_getElem hl]
    have e2 : ordsL.getD (sta n + (c - fstN n)) 0 = ordsL[sta n + (c - fstN n)]'hl := by rw [List.getD_eq_getElem?_getD, List.getElem?_eq_getElem hl]; rfl
    rw [e2] at hx hnn
    congr 1
    omega
end Hf

end Go.Proofs.Ythldbhpkkcoafaa
