/-
  The document's way to a number (noughts ahead struck, at most 19 digits): plain lemmas, with no program in sight.
  The document's Number and Hex, each by its contract.
-/
import Derived.Test.YtbpdhcfmdkmoiaaDoorPwAF
import Derived.Deep.RegionHeld3
import Derived.Test.YtbpdhcfmdkmoiaaDoorPwAI
import Derived.Test.YtbpdhcfmdkmoiaaDoorPwAW
import Derived.Test.YtbpdhcfmdkmoiaaDoorPwAX
namespace Go.Proofs.YtbpdhcfmdkmoiaaDoor
namespace Tx

theorem numv_cons0 (b : Int) (l : List UInt8) : numv b (48 :: l) = numv b l := by
  unfold numv
  rw [List.foldl_cons]
  congr 1
  show 0 * b + dgt 48 = 0
  rw [Int.zero_mul]; rfl
theorem numv_from (b : Int) : ∀ (l : List UInt8) (n : Int), l.foldl (fun n c => n * b + dgt (c.toNat : Int)) n = n * b ^ l.length + numv b l
  | [], n => by simp [numv]
  | c :: l, n => by
    rw [List.foldl_cons, numv_from b l]
    have e : numv b (c :: l) = (0 * b + dgt (c.toNat : Int)) * b ^ l.length + numv b l := by
      conv => lhs; unfold numv
      rw [List.foldl_cons, numv_from b l]
    rw [e, List.length_cons, Int.pow_succ, Int.zero_mul, Int.zero_add, Int.add_mul, Int.mul_assoc n b, Int.mul_comm b]
    omega
theorem numv_lo (b : Int) (hb : 2 ≤ b) (c : UInt8) (l : List UInt8) (hc : 1 ≤ dgt (c.toNat : Int)) : b ^ l.length ≤ numv b (c :: l) := by
  have e : numv b (c :: l) = (0 * b + dgt (c.toNat : Int)) * b ^ l.length + numv b l := by
    conv => lhs; unfold numv
    rw [List.foldl_cons, numv_from b l]
  have h0 := numv_nonneg b (by omega) l
  have hp : 0 ≤ b ^ l.length := Int.pow_nonneg (by omega)
  have h1 : 1 * b ^ l.length ≤ (0 * b + dgt (c.toNat : Int)) * b ^ l.length := Int.mul_le_mul_of_nonneg_right (by omega) hp
  rw [e]; omega
theorem pow_19 (b : Int) (hb : 10 ≤ b) (n : Nat) (h : 19 ≤ n) : 9223372036854775807 < b ^ n := by
  have h1 : ∀ m : Nat, (10 : Int) ^ m ≤ b ^ m := by
    intro m
    induction m with
    | zero => rw [Int.pow_zero, Int.pow_zero]; exact Int.le_refl _
    | succ m ih =>
      rw [Int.pow_succ, Int.pow_succ]
      exact Int.mul_le_mul ih hb (by decide) (Int.pow_nonneg (by omega))
  have h2 : ∀ k : Nat, (10 : Int) ^ 19 ≤ 10 ^ (19 + k) := by
    intro k
    induction k with
    | zero => exact Int.le_refl _
    | succ k ih =>
      rw [show 19 + (k + 1) = (19 + k) + 1 by omega, Int.pow_succ]
      have : (0 : Int) ≤ 10 ^ (19 + k) := Int.pow_nonneg (by decide)
      omega
  have h3 := h2 (n - 19)
  rw [show 19 + (n - 19) = n by omega] at h3
  have h4 := h1 n
  have h5 : (10 : Int) ^ 19 = 10000000000000000000 := by decide
  omega
/-- Digits of base b, no bad byte: the number or ErrRange. -/
theorem num_digs (b : Int) (l : List UInt8) (he : l.isEmpty = false) (hd : digs b l = true) : num b l = if top < numv b l then (0, 5) else (numv b l, 0) := by
  unfold num; rw [he, hd]; rfl

end Tx
end Go.Proofs.YtbpdhcfmdkmoiaaDoor

namespace Go.Proofs.YtbpdhcfmdkmoiaaDoor
open Go.RowKit

namespace Big
theorem one_dig (l : List Int) (n : Int) (h : Digs l) (hn : Norm l) (hv : val l = n) (h1 : 1 ≤ n) (h2 : n < bas) : l = [n] := by
  match l, h, hn, hv with
  | [], _, _, hv => exfalso; simp [val] at hv; omega
  | [x], _, _, hv => rw [← hv]; show [x] = [x + bas * 0]; rw [Int.mul_zero, Int.add_zero]
  | x :: y :: r, h, hn, hv =>
    exfalso
    have h3 := norm_lo (x :: y :: r) h hn (by simp)
    have h4 := pw_mono 1 ((x :: y :: r).length - 1) (by simp)
    have h5 : pw 1 = bas := by show bas * 1 = bas; omega
    omega
end Big
theorem bof_dig (n : Int) (w : World) (h0 : 1 ≤ n) (h1 : n ≤ 16) :
    Calls Tryd.prog 55 #[.int .i64 n] w fun e w' => ∃ v', e = .returned (.agg #[.bool false, v']) ∧ Wh w' v' [n] n ∧ Below w.heap.size w w' :=
  (bof_any n w (by omega) (by omega)).mono fun e w' ⟨v', he, _, ⟨l', hw, _⟩, hb⟩ => by
    have := Big.one_dig l' n hw.digs hw.norm hw.val h0 (by rw [Big.bas_eq]; omega)
    subst this
    exact ⟨v', he, hw, hb⟩
theorem btimes' (va vb : Value) (la : List Int) (x d : Int) (w : World) (ha : Wh w va la x) (hb : Wh w vb [d] d) (hla : la.length ≤ 80) (d1 : d ≤ 16) :
    Calls Tryd.prog 57 #[.agg #[.bool false, va], .agg #[.bool false, vb]] w fun e w' => ∃ v', e = .returned (.agg #[.bool false, v']) ∧ (∃ l', Wh w' v' l' (x * d) ∧ l'.length ≤ la.length + 1) ∧ Below w.heap.size w w' := by
  by_cases hpos : 0 < la.length
  · exact (btimes_any va vb la x d w ha hb hpos hla d1).mono fun e w' ⟨v', he, _, h, hbl⟩ => ⟨v', he, h, hbl⟩
  · have hl : la = [] := List.eq_nil_of_length_eq_zero (by omega)
    subst hl
    obtain rfl : x = 0 := ha.val.symm
    refine (btimes_nil va vb [d] d w ha hb).mono fun e w' ⟨v', he, _, ⟨l', hw, hl⟩, hbl⟩ => ⟨v', he, ⟨l', ?_, by omega⟩, hbl⟩
    rw [Int.zero_mul]; exact hw
theorem Cell2.drewed {w : World} {b : Nat} {x y : Value} (h : Cell2 w b x y) : Cell2 w.drew b x y := ⟨h.c0, h.c1, h.f0, h.f1⟩
/-- Behind a round of the third loop: the variable holds the new sum. -/
theorem round_world {w w1 wr w3 w4 w5 w6 : World} {a2 a6 : Option Addr} {l l6 : List Int} {c2 c6 : Nat} {x : Int} (hbel : Below w.heap.size w wr) (hv : w.heap.size ≤ w1.heap.size)
    (hs0 : Cell2 wr w1.heap.size (.bool false) (.slice a2 l.length c2)) (h3 : Below wr.drew.heap.size wr.drew w3) (h4 : Below w3.heap.size w3 w4) (h5 : Below w4.heap.size w4 w5) (h6 : Below w5.heap.size w5 w6)
    (hw : Wh w6 (.slice a6 l6.length c6) l6 x) (hf : Fresh w5.heap.size (.slice a6 l6.length c6)) (hc : Cell2 w6 w1.heap.size (.bool false) (.slice a2 l.length c2)) :
    Cell2 ((w6.setCell ⟨w1.heap.size, 0, none⟩ (.bool false)).setCell ⟨w1.heap.size, 1, none⟩ (.slice a6 l6.length c6)) w1.heap.size (.bool false) (.slice a6 l6.length c6) ∧
      Wh ((w6.setCell ⟨w1.heap.size, 0, none⟩ (.bool false)).setCell ⟨w1.heap.size, 1, none⟩ (.slice a6 l6.length c6)) (.slice a6 l6.length c6) l6 x ∧
      Below w.heap.size w ((w6.setCell ⟨w1.heap.size, 0, none⟩ (.bool false)).setCell ⟨w1.heap.size, 1, none⟩ (.slice a6 l6.length c6)) := by
  have b0 : w1.heap.size < wr.heap.size := World.block_lt_of_cell? _ _ hs0.c0
  have b3 : wr.heap.size ≤ w3.heap.size := h3.size
  have b4 := h4.size
  have b5 := h5.size
  have hp : w1.heap.size < w5.heap.size := by omega
  have h03 : Below w.heap.size w w3 := below_two (below_two hbel (Below.drew (Below.refl _ _))) h3
  exact ⟨hc.set0.set1, (hw.set_far hf hp _).set_far hf hp _, (((below_two (below_two (below_two h03 h4) h5) h6).setCell hv _).setCell hv _)⟩
/-- A digit of base b is read alike. -/
theorem dgr_ok (c : Int) (b : Int) (hb : b ≤ 16) (h0 : 0 ≤ b) (h : Tx.dgt c < b) : Tx.dgr c = Tx.dgt c := (Tx.dgr_dgt c b hb h0).2 h
theorem nought_fin : ∀ n : Fin 256, n.val ≠ 48 → Tx.dgt (n.val : Int) < 16 → 1 ≤ Tx.dgt (n.val : Int) := by decide +kernel
theorem nought_only (c : UInt8) (h : ((c.toNat : Int) == 48) = false) (hd : Tx.dgt (c.toNat : Int) < 16) : 1 ≤ Tx.dgt (c.toNat : Int) :=
  nought_fin ⟨c.toNat, c.toNat_lt⟩ (by rw [beq_eq_false_iff_ne] at h; intro e; apply h; show ((c.toNat : Nat) : Int) = 48; have : c.toNat = 48 := e; omega) hd

end Go.Proofs.YtbpdhcfmdkmoiaaDoor
