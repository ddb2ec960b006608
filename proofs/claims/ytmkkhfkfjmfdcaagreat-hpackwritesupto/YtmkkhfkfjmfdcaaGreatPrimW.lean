/-
  The law's awake, and the callers' forms.
-/
import Derived.Test.YtmkkhfkfjmfdcaaGreatPrimC
namespace Go.Proofs.YtmkkhfkfjmfdcaaGreat
namespace Pm
theorem aw1 : num 224 5 1337 = [255, 154, 10] := by
  unfold num
  rw [if_neg (by decide), tail_big _ (by decide), tail_small _ (by decide)]
  rfl
theorem aw2 : rd 5 [255, 154, 10, 51] = .ok 1337 3 := by decide +kernel
theorem aw3 : rs 10 [136, 37, 168, 73, 233, 91, 169, 125, 127] = .ok [99, 117, 115, 116, 111, 109, 45, 107, 101, 121] 9 := by decide +kernel
theorem aw4 : rs 9 [3, 97, 98] = .err 40 := by decide +kernel
theorem aw5 : str [] = [0] := by
  unfold str num
  rw [if_neg (by decide +kernel), if_pos (by decide)]
  rfl
end Pm
open Go.RowKit

theorem int_at (h b n : Nat) (a : List UInt8) (ha : Pm.num h b n = a) (hh : h < 256) (h0 : 1 ≤ b) (h1 : b ≤ 8) (hm : h % 2 ^ b = 0) (hn : n ≤ 2147483647) (w : World) :
    Calls Tryz.prog 56 #[.int .u8 (h : Int), .int .i64 (b : Int), .int .i64 (n : Int)] w fun e w' => e = .returned (.tuple #[.string ⟨a.toArray⟩, .int .i64 0]) ∧ Below w.heap.size w w' := by
  subst ha; exact int_ok h b n hh h0 h1 hm hn w
theorem readInt_l (l : List UInt8) (b : Nat) (h0 : 1 ≤ b) (h1 : b ≤ 8) (R : Pm.R) (hR : Pm.rd b l = R) (w : World) :
    Calls Tryz.prog 85 #[.string ⟨l.toArray⟩, .int .i64 (b : Int)] w fun e w' => e = .returned (Pm.rV R) ∧ Below w.heap.size w w' := readInt_at ⟨l.toArray⟩ b h0 h1 R hR w
theorem readInt_ok (l : List UInt8) (b n k : Nat) (h0 : 1 ≤ b) (h1 : b ≤ 8) (hR : Pm.rd b l = .ok n k) (w : World) :
    Calls Tryz.prog 85 #[.string ⟨l.toArray⟩, .int .i64 (b : Int)] w fun e w' => e = .returned (.tuple #[.int .i64 (n : Int), .int .i64 (k : Int), .int .i64 0]) ∧ Below w.heap.size w w' := readInt_l l b h0 h1 _ hR w
theorem readInt_short (l : List UInt8) (b : Nat) (h0 : 1 ≤ b) (h1 : b ≤ 8) (hR : Pm.rd b l = .short) (w : World) :
    Calls Tryz.prog 85 #[.string ⟨l.toArray⟩, .int .i64 (b : Int)] w fun e w' => e = .returned (.tuple #[.int .i64 0, .int .i64 0, .int .i64 40]) ∧ Below w.heap.size w w' := readInt_l l b h0 h1 _ hR w
theorem readInt_short_q (l : List UInt8) (b : Nat) (h0 : 1 ≤ b) (h1 : b ≤ 8) (hR : Pm.rd b l = .short) (w : World) :
    Calls Tryz.prog 85 #[.string ⟨l.toArray⟩, .int .i64 (b : Int)] w fun e w' => e = .returned (.tuple #[.int .i64 0, .int .i64 0, .int .i64 40]) ∧ ∃ m, w' = w.drewN m := by
  have := readInt_q ⟨l.toArray⟩ b h0 h1 w
  rw [show (⟨l.toArray⟩ : ByteArray).data.toList = l from rfl, hR] at this
  exact this
theorem readStr_l (l : List UInt8) (most : Int) (M : Nat) (hM : max most 0 = (M : Int)) (hs : l.length ≤ 281474976710656) (S : Pm.S) (hS : Pm.rs M l = S) (w : World) :
    Calls Tryz.prog 96 #[.string ⟨l.toArray⟩, .int .i64 most] w fun e w' => e = .returned (Pm.sV S) ∧ Below w.heap.size w w' := by
  subst hS; exact readStr_any ⟨l.toArray⟩ most M hM (by rw [size_l]; exact hs) w
theorem readStr_ok (l : List UInt8) (most : Int) (M : Nat) (hM : max most 0 = (M : Int)) (hs : l.length ≤ 281474976710656) (t : List UInt8) (k : Nat) (hS : Pm.rs M l = .ok t k) (w : World) :
    Calls Tryz.prog 96 #[.string ⟨l.toArray⟩, .int .i64 most] w fun e w' => e = .returned (.tuple #[.string ⟨t.toArray⟩, .int .i64 (k : Int), .int .i64 0]) ∧ Below w.heap.size w w' := readStr_l l most M hM hs _ hS w
theorem readStr_err (l : List UInt8) (most : Int) (M : Nat) (hM : max most 0 = (M : Int)) (hs : l.length ≤ 281474976710656) (x : Nat) (hS : Pm.rs M l = .err x) (w : World) :
    Calls Tryz.prog 96 #[.string ⟨l.toArray⟩, .int .i64 most] w fun e w' => e = .returned (.tuple #[.string ⟨#[]⟩, .int .i64 0, .int .i64 (x : Int)]) ∧ Below w.heap.size w w' := readStr_l l most M hM hs _ hS w
theorem str_at (l c : List UInt8) (hc : Pm.str l = c) (hl : l.length ≤ 2147483648) (w : World) :
    Calls Tryz.prog 41 #[.string ⟨l.toArray⟩] w fun e w' => e = .returned (.string ⟨c.toArray⟩) ∧ Below w.heap.size w w' := by
  subst hc; exact str_any l hl w

end Go.Proofs.YtmkkhfkfjmfdcaaGreat
