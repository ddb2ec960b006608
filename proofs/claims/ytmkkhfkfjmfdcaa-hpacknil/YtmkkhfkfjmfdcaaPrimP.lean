/-
  Numbers of blocks: the plain theory.
-/
import Derived.WalkKit
namespace Go.Proofs.Ytmkkhfkfjmfdcaa
namespace Pm

/-- The bytes behind the first one. -/
def tail (n : Nat) : List UInt8 := if n < 128 then [UInt8.ofNat n] else UInt8.ofNat (128 + n % 128) :: tail (n / 128)
  termination_by n
  decreasing_by omega
theorem tail_small (n : Nat) (h : n < 128) : tail n = [UInt8.ofNat n] := by rw [tail, if_pos h]
theorem tail_big (n : Nat) (h : 128 ≤ n) : tail n = UInt8.ofNat (128 + n % 128) :: tail (n / 128) := by rw [tail, if_neg (by omega)]
/-- The bytes of a number. -/
def num (h b n : Nat) : List UInt8 := if n < 2 ^ b - 1 then [UInt8.ofNat (h + n)] else UInt8.ofNat (h + (2 ^ b - 1)) :: tail (n - (2 ^ b - 1))

inductive R where
  | ok (n k : Nat)
  | arg
  | short
  | number
  deriving DecidableEq
/-- Reading goes on. -/
def more (n u i : Nat) : List UInt8 → R
  | [] => .short
  | b :: r =>
    if 2147483647 < n + u * (b.toNat % 128) ∨ (i = 5 ∧ 128 ≤ b.toNat) then .number
    else if b.toNat < 128 then .ok (n + u * (b.toNat % 128)) (i + 1)
    else more (n + u * (b.toNat % 128)) (128 * u) (i + 1) r
/-- A number is read. -/
def rd (b : Nat) : List UInt8 → R
  | [] => .short
  | x :: r => if x.toNat % 2 ^ b < 2 ^ b - 1 then .ok (x.toNat % 2 ^ b) 1 else more (x.toNat % 2 ^ b) 1 1 r

theorem tail_length_pos (n : Nat) : 1 ≤ (tail n).length := by
  by_cases h : n < 128
  · rw [tail_small n h]; simp
  · rw [tail_big n (by omega)]; simp
theorem tail_length (k : Nat) : ∀ n, n < 128 ^ (k + 1) → (tail n).length ≤ k + 1 := by
  induction k with
  | zero => intro n h; rw [tail_small n (by simpa using h)]; simp
  | succ k ih =>
    intro n h
    by_cases h1 : n < 128
    · rw [tail_small n h1]; simp
    · rw [tail_big n (by omega), List.length_cons]
      have := ih (n / 128) (by rw [Nat.pow_succ] at h; exact Nat.div_lt_of_lt_mul (by omega))
      omega
theorem tail_five (n : Nat) (h : n ≤ 2147483647) : (tail n).length ≤ 5 := tail_length 4 n (by omega)
theorem num_length (h b n : Nat) (hn : n ≤ 2147483647) : 1 ≤ (num h b n).length ∧ (num h b n).length ≤ 6 := by
  unfold num
  split
  · simp
  · have := tail_five (n - (2 ^ b - 1)) (by omega)
    simp; omega
theorem num_ten (h b n : Nat) (hn : n ≤ 4611686018427387904) : (num h b n).length ≤ 10 := by
  unfold num
  split
  · simp
  · have := tail_length 8 (n - (2 ^ b - 1)) (by omega)
    simp; omega

theorem more_tail (u i n r) : ∀ m : Nat, n + u * m ≤ 2147483647 → i + (tail m).length ≤ 6 → more n u i (tail m ++ r) = .ok (n + u * m) (i + (tail m).length) := by
  intro m
  induction m using Nat.strongRecOn generalizing u i n with
  | _ m ih =>
    intro h1 h2
    by_cases h : m < 128
    · rw [tail_small m h, List.cons_append, List.nil_append, more]
      have e : (UInt8.ofNat m).toNat = m := by rw [UInt8.toNat_ofNat', Nat.mod_eq_of_lt (by omega)]
      rw [e, Nat.mod_eq_of_lt h, if_neg (by omega), if_pos h]; rfl
    · have hp := tail_length_pos (m / 128)
      rw [tail_big m (by omega)] at h2 ⊢
      rw [List.length_cons] at h2 ⊢
      rw [List.cons_append, more]
      have e : (UInt8.ofNat (128 + m % 128)).toNat = 128 + m % 128 := by rw [UInt8.toNat_ofNat', Nat.mod_eq_of_lt (by omega)]
      have e2 : (128 + m % 128) % 128 = m % 128 := by omega
      have e3 : n + u * (m % 128) + 128 * u * (m / 128) = n + u * m := by
        conv => rhs; rw [← Nat.div_add_mod m 128, Nat.mul_add]
        rw [Nat.mul_comm 128 u, Nat.mul_assoc]; omega
      have e4 : u * (m % 128) ≤ u * m := Nat.mul_le_mul_left _ (Nat.mod_le _ _)
      rw [e, e2, if_neg (by omega), if_neg (by omega), ih (m / 128) (by omega) (128 * u) (i + 1) (n + u * (m % 128)) (by omega) (by omega), e3]
      congr 1; omega
theorem more_short (u i n) : ∀ (m j : Nat), n + u * m ≤ 2147483647 → i + (tail m).length ≤ 6 → j < (tail m).length → more n u i ((tail m).take j) = .short := by
  intro m
  induction m using Nat.strongRecOn generalizing u i n with
  | _ m ih =>
    intro j h1 h2 h3
    cases j with
    | zero => rw [List.take_zero]; rfl
    | succ j =>
      by_cases h : m < 128
      · rw [tail_small m h] at h3; simp at h3
      · have hp := tail_length_pos (m / 128)
        rw [tail_big m (by omega)] at h2 h3 ⊢
        rw [List.length_cons] at h2 h3
        rw [List.take_succ_cons, more]
        have e : (UInt8.ofNat (128 + m % 128)).toNat = 128 + m % 128 := by rw [UInt8.toNat_ofNat', Nat.mod_eq_of_lt (by omega)]
        have e2 : (128 + m % 128) % 128 = m % 128 := by omega
        have e3 : n + u * (m % 128) + 128 * u * (m / 128) = n + u * m := by
          conv => rhs; rw [← Nat.div_add_mod m 128, Nat.mul_add]
          rw [Nat.mul_comm 128 u, Nat.mul_assoc]; omega
        have e4 : u * (m % 128) ≤ u * m := Nat.mul_le_mul_left _ (Nat.mod_le _ _)
        rw [e, e2, if_neg (by omega), if_neg (by omega)]
        exact ih (m / 128) (by omega) (128 * u) (i + 1) (n + u * (m % 128)) j (by omega) (by omega) (by omega)

theorem pow8 (b : Nat) (h0 : 1 ≤ b) (h1 : b ≤ 8) : ∃ q, 2 ^ b * q = 256 ∧ 2 ≤ 2 ^ b ∧ 2 ^ b ≤ 256 := by
  refine ⟨2 ^ (8 - b), by rw [← Nat.pow_add, show b + (8 - b) = 8 by omega], ?_, ?_⟩
  · exact Nat.pow_le_pow_right (n := 2) (by omega) h0
  · exact Nat.pow_le_pow_right (n := 2) (by omega) h1
/-- A first byte. -/
theorem first (h b n : Nat) (h0 : 1 ≤ b) (h1 : b ≤ 8) (hh : h < 256) (hm : h % 2 ^ b = 0) (hn : n < 2 ^ b) : h + n < 256 ∧ (h + n) % 2 ^ b = n := by
  obtain ⟨q, hq, h2, h3⟩ := pow8 b h0 h1
  generalize 2 ^ b = p at *
  have e := Nat.div_add_mod h p
  rw [hm, Nat.add_zero] at e
  have hl : h / p < q := Nat.div_lt_of_lt_mul (by omega)
  have hl2 : p * (h / p + 1) ≤ p * q := Nat.mul_le_mul_left _ hl
  rw [Nat.mul_add, Nat.mul_one] at hl2
  refine ⟨by omega, ?_⟩
  rw [Nat.add_mod, hm, Nat.zero_add, Nat.mod_mod, Nat.mod_eq_of_lt hn]
theorem back (h b n : Nat) (r : List UInt8) (h0 : 1 ≤ b) (h1 : b ≤ 8) (hh : h < 256) (hm : h % 2 ^ b = 0) (hn : n ≤ 2147483647) : rd b (num h b n ++ r) = .ok n (num h b n).length := by
  obtain ⟨q, hq, h2, h3⟩ := pow8 b h0 h1
  unfold num
  by_cases hc : n < 2 ^ b - 1
  · rw [if_pos hc, List.cons_append, rd]
    obtain ⟨f1, f2⟩ := first h b n h0 h1 hh hm (by omega)
    have e : (UInt8.ofNat (h + n)).toNat = h + n := by rw [UInt8.toNat_ofNat', Nat.mod_eq_of_lt (by omega)]
    rw [e, f2, if_pos hc]; rfl
  · rw [if_neg hc, List.cons_append, rd]
    obtain ⟨f1, f2⟩ := first h b (2 ^ b - 1) h0 h1 hh hm (by omega)
    have e : (UInt8.ofNat (h + (2 ^ b - 1))).toNat = h + (2 ^ b - 1) := by rw [UInt8.toNat_ofNat', Nat.mod_eq_of_lt (by omega)]
    have := tail_five (n - (2 ^ b - 1)) (by omega)
    rw [e, f2, if_neg (by omega), more_tail _ _ _ _ _ (by omega) (by omega), List.length_cons]
    congr 1 <;> omega
theorem torn (h b n c : Nat) (h0 : 1 ≤ b) (h1 : b ≤ 8) (hh : h < 256) (hm : h % 2 ^ b = 0) (hn : n ≤ 2147483647) (hc : c < (num h b n).length) : rd b ((num h b n).take c) = .short := by
  obtain ⟨q, hq, h2, h3⟩ := pow8 b h0 h1
  cases c with
  | zero => rfl
  | succ c =>
    unfold num at hc ⊢
    by_cases hd : n < 2 ^ b - 1
    · rw [if_pos hd] at hc; simp at hc
    · rw [if_neg hd] at hc ⊢
      obtain ⟨f1, f2⟩ := first h b (2 ^ b - 1) h0 h1 hh hm (by omega)
      have e : (UInt8.ofNat (h + (2 ^ b - 1))).toNat = h + (2 ^ b - 1) := by rw [UInt8.toNat_ofNat', Nat.mod_eq_of_lt (by omega)]
      have := tail_five (n - (2 ^ b - 1)) (by omega)
      rw [List.length_cons] at hc
      rw [List.take_succ_cons, rd, e, f2, if_neg (by omega)]
      exact more_short _ _ _ _ _ (by omega) (by omega) (by omega)
theorem head_lt (h b n : Nat) (h0 : 1 ≤ b) (h1 : b ≤ 8) (hh : h < 256) (hm : h % 2 ^ b = 0) : ∃ x r, num h b n = x :: r ∧ h ≤ x.toNat ∧ x.toNat < h + 2 ^ b := by
  obtain ⟨q, hq, h2, h3⟩ := pow8 b h0 h1
  unfold num
  by_cases hc : n < 2 ^ b - 1
  · rw [if_pos hc]
    obtain ⟨f1, f2⟩ := first h b n h0 h1 hh hm (by omega)
    refine ⟨_, _, rfl, ?_⟩
    rw [UInt8.toNat_ofNat', Nat.mod_eq_of_lt (by omega)]
    omega
  · rw [if_neg hc]
    obtain ⟨f1, f2⟩ := first h b (2 ^ b - 1) h0 h1 hh hm (by omega)
    refine ⟨_, _, rfl, ?_⟩
    rw [UInt8.toNat_ofNat', Nat.mod_eq_of_lt (by omega)]
    omega

/-- What reading answers. -/
def rV : R → Value
  | .ok n k => .tuple #[.int .i64 (n : Int), .int .i64 (k : Int), .int .i64 0]
  | .arg => .tuple #[.int .i64 0, .int .i64 0, .int .i64 1]
  | .short => .tuple #[.int .i64 0, .int .i64 0, .int .i64 40]
  | .number => .tuple #[.int .i64 0, .int .i64 0, .int .i64 41]
end Pm
end Go.Proofs.Ytmkkhfkfjmfdcaa
