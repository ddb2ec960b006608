/-
  The document's way to a number (noughts ahead struck, at most 19 digits): plain lemmas, with no program in sight.
-/
import Derived.Test.YtdbldompjhienaaDoorPureNum
namespace Go.Proofs.YtdbldompjhienaaDoor
namespace Tx

theorem numv_cons0 (b : Int) (l : List UInt8) : numv b (48 :: l) = numv b l := by
  unfold numv
  rw [List.foldl_cons]
  congr 1
  show 0 * b + dgt 48 = 0
  rw [Int.zero_mul]; rfl
theorem numv_from (b : Int) : ∀ (l : List UInt8) (n : Int), l.foldl (fun n c => n * b + dgt (c.toNat : Int)) n = n * b ^ l.length + numv b l
  | [], n => by simp [numv]
  | c :: l, n => by
    rw [List.foldl_cons, numv_from b l]
    have e : numv b (c :: l) = (0 * b + dgt (c.toNat : Int)) * b ^ l.length + numv b l := by
      conv => lhs; unfold numv
      rw [List.foldl_cons, numv_from b l]
    rw [e, List.length_cons, Int.pow_succ, Int.zero_mul, Int.zero_add, Int.add_mul, Int.mul_assoc n b, Int.mul_comm b]
    omega
theorem numv_lo (b : Int) (hb : 2 ≤ b) (c : UInt8) (l : List UInt8) (hc : 1 ≤ dgt (c.toNat : Int)) : b ^ l.length ≤ numv b (c :: l) := by
  have e : numv b (c :: l) = (0 * b + dgt (c.toNat : Int)) * b ^ l.length + numv b l := by
    conv => lhs; unfold numv
    rw [List.foldl_cons, numv_from b l]
  have h0 := numv_nonneg b (by omega) l
  have hp : 0 ≤ b ^ l.length := Int.pow_nonneg (by omega)
  have h1 : 1 * b ^ l.length ≤ (0 * b + dgt (c.toNat : Int)) * b ^ l.length := Int.mul_le_mul_of_nonneg_right (by omega) hp
  rw [e]; omega
theorem pow_19 (b : Int) (hb : 10 ≤ b) (n : Nat) (h : 19 ≤ n) : 9223372036854775807 < b ^ n := by
  have h1 : ∀ m : Nat, (10 : Int) ^ m ≤ b ^ m := by
    intro m
    induction m with
    | zero => rw [Int.pow_zero, Int.pow_zero]; exact Int.le_refl _
    | succ m ih =>
      rw [Int.pow_succ, Int.pow_succ]
      exact Int.mul_le_mul ih hb (by decide) (Int.pow_nonneg (by omega))
  have h2 : ∀ k : Nat, (10 : Int) ^ 19 ≤ 10 ^ (19 + k) := by
    intro k
    induction k with
    | zero => exact Int.le_refl _
    | succ k ih =>
      rw [show 19 + (k + 1) = (19 + k) + 1 by omega, Int.pow_succ]
      have : (0 : Int) ≤ 10 ^ (19 + k) := Int.pow_nonneg (by decide)
      omega
  have h3 := h2 (n - 19)
  rw [show 19 + (n - 19) = n by omega] at h3
  have h4 := h1 n
  have h5 : (10 : Int) ^ 19 = 10000000000000000000 := by decide
  omega
/-- Digits of base b, no bad byte: the number or ErrRange. -/
theorem num_digs (b : Int) (l : List UInt8) (he : l.isEmpty = false) (hd : digs b l = true) : num b l = if top < numv b l then (0, 5) else (numv b l, 0) := by
  unfold num; rw [he, hd]; rfl

end Tx
end Go.Proofs.YtdbldompjhienaaDoor
