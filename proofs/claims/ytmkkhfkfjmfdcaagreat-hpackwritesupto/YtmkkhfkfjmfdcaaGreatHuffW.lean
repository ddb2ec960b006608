/-
  The law's awake, and what the laws ask of Encode, Decode and Size.
-/
import Derived.Test.YtmkkhfkfjmfdcaaGreatHuffS
namespace Go.Proofs.YtmkkhfkfjmfdcaaGreat
open Go.RowKit

theorem size_l (l : List UInt8) : (⟨l.toArray⟩ : ByteArray).size = l.length := by simp [ByteArray.size]
theorem encode_l (l c : List UInt8) (hc : Hf.enc l = c) (hs : l.length ≤ 2147483648) (w : World) : Calls Tryz.prog 64 #[.string ⟨l.toArray⟩] w fun e w' => e = .returned (.string ⟨c.toArray⟩) ∧ Below w.heap.size w w' := by
  subst hc; exact encode_any ⟨l.toArray⟩ (by rw [size_l]; exact hs) w
theorem size_of (l : List UInt8) (n : Nat) (hn : (Hf.enc l).length = n) (hs : l.length ≤ 2147483648) (w : World) : Calls Tryz.prog 62 #[.string ⟨l.toArray⟩] w fun e w' => e = .returned (.int .i64 (n : Int)) ∧ Below w.heap.size w w' := by
  subst hn; rw [Hf.enc_length]; exact size_any ⟨l.toArray⟩ (by rw [size_l]; exact hs) w
theorem decode_l (l : List UInt8) (most : Int) (M : Nat) (hM : max most 0 = (M : Int)) (hs : l.length ≤ 2147483648) (R : Hf.Res) (hR : Hf.dec M (Hf.unp l) 0 0 [] = R) (w : World) :
    Calls Tryz.prog 99 #[.string ⟨l.toArray⟩, .int .i64 most] w fun e w' => e = .returned (Hf.resV R) ∧ Below w.heap.size w w' := by
  subst hR; exact decode_any ⟨l.toArray⟩ (by rw [size_l]; exact hs) most M hM w
theorem decode_ok (l : List UInt8) (most : Int) (M : Nat) (hM : max most 0 = (M : Int)) (hs : l.length ≤ 2147483648) (t : List UInt8) (hR : Hf.dec M (Hf.unp l) 0 0 [] = .ok t) (w : World) :
    Calls Tryz.prog 99 #[.string ⟨l.toArray⟩, .int .i64 most] w fun e w' => e = .returned (.tuple #[.string ⟨t.toArray⟩, .int .i64 0]) ∧ Below w.heap.size w w' := decode_l l most M hM hs _ hR w
theorem decode_long (l : List UInt8) (most : Int) (M : Nat) (hM : max most 0 = (M : Int)) (hs : l.length ≤ 2147483648) (hR : Hf.dec M (Hf.unp l) 0 0 [] = .long) (w : World) :
    Calls Tryz.prog 99 #[.string ⟨l.toArray⟩, .int .i64 most] w fun e w' => e = .returned (.tuple #[.string ⟨#[]⟩, .int .i64 3]) ∧ Below w.heap.size w w' := decode_l l most M hM hs _ hR w
theorem decode_pad (l : List UInt8) (most : Int) (M : Nat) (hM : max most 0 = (M : Int)) (hs : l.length ≤ 2147483648) (hR : Hf.dec M (Hf.unp l) 0 0 [] = .pad) (w : World) :
    Calls Tryz.prog 99 #[.string ⟨l.toArray⟩, .int .i64 most] w fun e w' => e = .returned (.tuple #[.string ⟨#[]⟩, .int .i64 30]) ∧ Below w.heap.size w w' := decode_l l most M hM hs _ hR w
theorem decode_fin (l : List UInt8) (most : Int) (M : Nat) (hM : max most 0 = (M : Int)) (hs : l.length ≤ 2147483648) (hR : Hf.dec M (Hf.unp l) 0 0 [] = .fin) (w : World) :
    Calls Tryz.prog 99 #[.string ⟨l.toArray⟩, .int .i64 most] w fun e w' => e = .returned (.tuple #[.string ⟨#[]⟩, .int .i64 31]) ∧ Below w.heap.size w w' := decode_l l most M hM hs _ hR w

namespace Hf
theorem aw1 : dec 8 (unp [168, 235, 16, 100, 156, 191]) 0 0 [] = .ok [110, 111, 45, 99, 97, 99, 104, 101] := by decide +kernel
theorem aw2 : dec 9 (unp [255, 255, 255, 255]) 0 0 [] = .fin := by decide +kernel
theorem aw3 : dec 9 (unp [6]) 0 0 [] = .pad := by decide +kernel
theorem aw4 : dec 0 (unp [7]) 0 0 [] = .long := by decide +kernel
theorem aw5 : enc [119, 119, 119, 46, 101, 120, 97, 109, 112, 108, 101, 46, 99, 111, 109] = [241, 227, 194, 229, 242, 58, 107, 160, 171, 144, 244, 255] := by decide +kernel
theorem aw6 : (enc [110, 111, 45, 99, 97, 99, 104, 101]).length = 6 := by decide +kernel
end Hf

end Go.Proofs.YtmkkhfkfjmfdcaaGreat
