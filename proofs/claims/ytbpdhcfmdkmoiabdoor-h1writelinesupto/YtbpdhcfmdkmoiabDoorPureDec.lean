/-
  Decimal numerals: plain lemmas, with no program in sight.
-/
import Derived.Test.YtbpdhcfmdkmoiabDoorPureNum
import Derived.Lib.ItoaMem
namespace Go.Proofs.YtbpdhcfmdkmoiabDoor
namespace Tx

theorem itoa_lo (n : Int) (h0 : 0 ≤ n) (h : n < 10) : Lib.itoa n = [UInt8.ofNat (48 + n).toNat] := by
  obtain ⟨u, rfl⟩ := Int.eq_ofNat_of_zero_le h0
  rw [Lib.itoa_nonneg, Lib.decDigits_one (by omega)]
  congr 2
theorem itoa_hi (n : Int) (h : 10 ≤ n) : Lib.itoa n = Lib.itoa (n / 10) ++ [UInt8.ofNat (48 + n % 10).toNat] := by
  obtain ⟨u, rfl⟩ := Int.eq_ofNat_of_zero_le (by omega : 0 ≤ n)
  rw [Lib.itoa_nonneg, show ((u : Int) / 10) = ((u / 10 : Nat) : Int) by omega, Lib.itoa_nonneg, Lib.decDigits, dif_neg (by omega)]
  congr 3
theorem itoa_nlo (n : Int) (h : n < 0) (h' : -10 < n) : Lib.itoa n = 45 :: Lib.itoa (-n) := by
  obtain ⟨u, hu⟩ := Int.eq_ofNat_of_zero_le (by omega : 0 ≤ -n)
  obtain rfl : n = -(u : Int) := by omega
  rw [Lib.itoa_neg u (by omega), Int.neg_neg, Lib.itoa_nonneg]
theorem itoa_nhi (n : Int) (h : n ≤ -10) : Lib.itoa n = Lib.itoa (n.tdiv 10) ++ [UInt8.ofNat (48 - n.tmod 10).toNat] := by
  obtain ⟨u, hu⟩ := Int.eq_ofNat_of_zero_le (by omega : 0 ≤ -n)
  obtain rfl : n = -(u : Int) := by omega
  have e1 : (-(u : Int)).tdiv 10 = -((u / 10 : Nat) : Int) := by rw [Int.neg_tdiv]; rfl
  have e2 : (-(u : Int)).tmod 10 = -((u % 10 : Nat) : Int) := by rw [Int.neg_tmod]; rfl
  rw [e1, e2, Lib.itoa_neg u (by omega), Lib.itoa_neg (u / 10) (by omega), Lib.decDigits, dif_neg (by omega), List.cons_append]
  congr 4; omega
theorem itoa_le (n : Int) : ∀ m : Nat, n.natAbs < 10 ^ m → (Lib.itoa n).length ≤ m + 2 := by
  intro m h
  have hd : ∀ (m u : Nat), u < 10 ^ m → (Lib.decDigits u).length ≤ m + 1 := by
    intro m
    induction m with
    | zero => intro u hu; rw [Lib.decDigits_one (by omega)]; simp
    | succ m ih =>
      intro u hu
      by_cases hs : u < 10
      · rw [Lib.decDigits_one hs]; simp
      · rw [Lib.decDigits, dif_neg hs, List.length_append]
        have := ih (u / 10) (by rw [Nat.pow_succ] at hu; omega)
        simp; omega
  unfold Lib.itoa
  split
  · have := hd m n.natAbs h; simp; omega
  · have := hd m n.toNat (by omega); omega

/-! ### what a numeral reads as -/
theorem dgt_of (k : Nat) (h : k < 10) : dgt (((UInt8.ofNat (48 + k)).toNat : Nat) : Int) = k := by
  have e : (UInt8.ofNat (48 + k)).toNat = 48 + k := by simp; omega
  rw [e]; unfold dgt digC
  rw [if_pos (by simp; omega)]; omega
theorem digs_append (b : Int) (l r : List UInt8) : digs b (l ++ r) = (digs b l && digs b r) := by unfold digs allC; rw [List.all_append]
theorem decDigits_reads : ∀ (m u : Nat), u ≤ m → digs 10 (Lib.decDigits u) = true ∧ numv 10 (Lib.decDigits u) = u ∧ (Lib.decDigits u).isEmpty = false := by
  intro m
  induction m with
  | zero =>
    intro u hu
    obtain rfl : u = 0 := by omega
    rw [Lib.decDigits_one (by omega)]
    decide
  | succ m ih =>
    intro u hu
    by_cases hs : u < 10
    · rw [Lib.decDigits_one hs]
      have := dgt_of u hs
      refine ⟨?_, ?_, rfl⟩
      · unfold digs allC; simp only [List.all_cons, List.all_nil, Bool.and_true, this]; simp; omega
      · unfold numv; simp only [List.foldl_cons, List.foldl_nil, this]; omega
    · obtain ⟨h1, h2, _⟩ := ih (u / 10) (by omega)
      have hd := dgt_of (u % 10) (by omega)
      rw [Lib.decDigits, dif_neg hs]
      refine ⟨?_, ?_, by simp⟩
      · rw [digs_append, h1]; unfold digs allC; simp only [List.all_cons, List.all_nil, Bool.and_true, Bool.true_and, hd]; simp; omega
      · rw [numv_snoc, h2, hd]; omega
theorem numv_noughts (z : Nat) (l : List UInt8) : numv 10 (List.replicate z 48 ++ l) = numv 10 l := by
  induction z with
  | zero => rfl
  | succ z ih =>
    rw [List.replicate_succ, List.cons_append, ← ih]
    unfold numv
    rw [List.foldl_cons]
    rfl
theorem digs_noughts (z : Nat) : digs 10 (List.replicate z 48) = true := by
  unfold digs allC
  rw [List.all_eq_true]
  intro x hx
  obtain rfl := (List.mem_replicate.1 hx).2
  decide
/-- P1.8 -/
theorem num_itoa (n : Int) (h0 : 0 ≤ n) (h1 : n ≤ 9223372036854775807) (z : Nat) : num 10 (List.replicate z 48 ++ Lib.itoa n) = (n, 0) := by
  obtain ⟨u, rfl⟩ := Int.eq_ofNat_of_zero_le h0
  rw [Lib.itoa_nonneg]
  obtain ⟨hd, hn, he⟩ := decDigits_reads u u (Nat.le_refl _)
  unfold num
  rw [digs_append, digs_noughts, hd, numv_noughts, hn, if_neg (by simp; intro _ e; rw [e] at he; simp at he), if_neg (by rw [top_eq]; omega)]
theorem num_itoa_neg (n : Int) (h0 : n < 0) (z : Nat) : num 10 (List.replicate z 48 ++ Lib.itoa n) = (0, 10) := by
  obtain ⟨u, hu⟩ := Int.eq_ofNat_of_zero_le (by omega : 0 ≤ -n)
  obtain rfl : n = -(u : Int) := by omega
  rw [Lib.itoa_neg u (by omega)]
  unfold num
  have : digs 10 (45 :: Lib.decDigits u) = false := by
    unfold digs allC; rw [List.all_cons]; rfl
  rw [digs_append, this]; simp

end Tx
end Go.Proofs.YtbpdhcfmdkmoiabDoor
