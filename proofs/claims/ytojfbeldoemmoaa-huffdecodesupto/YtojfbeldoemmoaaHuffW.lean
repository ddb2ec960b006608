/-
  The law's awake, and what the laws ask of Encode, Decode and Size.
-/
import Derived.Test.YtojfbeldoemmoaaHuffS
namespace Go.Proofs.Ytojfbeldoemmoaa
open Go.RowKit

theorem size_l (l : List UInt8) : (⟨l.toArray⟩ : ByteArray).size = l.length := by simp [ByteArray.size]
theorem encode_l (l c : List UInt8) (hc : Hf.enc l = c) (hs : l.length ≤ 16777216) (w : World) : Calls Try.prog 11 #[.string ⟨l.toArray⟩] w fun e w' => e = .returned (.string ⟨c.toArray⟩) ∧ Below w.heap.size w w' := by
  subst hc; exact encode_any ⟨l.toArray⟩ (by rw [size_l]; exact hs) w
theorem size_of (l : List UInt8) (n : Nat) (hn : (Hf.enc l).length = n) (hs : l.length ≤ 16777216) (w : World) : Calls Try.prog 12 #[.string ⟨l.toArray⟩] w fun e w' => e = .returned (.int .i64 (n : Int)) ∧ Below w.heap.size w w' := by
  subst hn; rw [Hf.enc_length]; exact size_any ⟨l.toArray⟩ (by rw [size_l]; exact hs) w
theorem decode_l (l : List UInt8) (most : Int) (M : Nat) (hM : max most 0 = (M : Int)) (hs : l.length ≤ 16777216) (R : Hf.Res) (hR : Hf.dec M (Hf.unp l) 0 0 [] = R) (w : World) :
    Calls Try.prog 13 #[.string ⟨l.toArray⟩, .int .i64 most] w fun e w' => e = .returned (Hf.resV R) ∧ Below w.heap.size w w' := by
  subst hR; exact decode_any ⟨l.toArray⟩ (by rw [size_l]; exact hs) most M hM w
theorem decode_ok (l : List UInt8) (most : Int) (M : Nat) (hM : max most 0 = (M : Int)) (hs : l.length ≤ 16777216) (t : List UInt8) (hR : Hf.dec M (Hf.unp l) 0 0 [] = .ok t) (w : World) :
    Calls Try.prog 13 #[.string ⟨l.toArray⟩, .int .i64 most] w fun e w' => e = .returned (.tuple #[.string ⟨t.toArray⟩, .int .i64 0]) ∧ Below w.heap.size w w' := decode_l l most M hM hs _ hR w
theorem decode_long (l : List UInt8) (most : Int) (M : Nat) (hM : max most 0 = (M : Int)) (hs : l.length ≤ 16777216) (hR : Hf.dec M (Hf.unp l) 0 0 [] = .long) (w : World) :
    Calls Try.prog 13 #[.string ⟨l.toArray⟩, .int .i64 most] w fun e w' => e = .returned (.tuple #[.string ⟨#[]⟩, .int .i64 3]) ∧ Below w.heap.size w w' := decode_l l most M hM hs _ hR w
theorem decode_pad (l : List UInt8) (most : Int) (M : Nat) (hM : max most 0 = (M : Int)) (hs : l.length ≤ 16777216) (hR : Hf.dec M (Hf.unp l) 0 0 [] = .pad) (w : World) :
    Calls Try.prog 13 #[.string ⟨l.toArray⟩, .int .i64 most] w fun e w' => e = .returned (.tuple #[.string ⟨#[]⟩, .int .i64 30]) ∧ Below w.heap.size w w' := decode_l l most M hM hs _ hR w
theorem decode_fin (l : List UInt8) (most : Int) (M : Nat) (hM : max most 0 = (M : Int)) (hs : l.length ≤ 16777216) (hR : Hf.dec M (Hf.unp l) 0 0 [] = .fin) (w : World) :
    Calls Try.prog 13 #[.string ⟨l.toArray⟩, .int .i64 most] w fun e w' => e = .returned (.tuple #[.string ⟨#[]⟩, .int .i64 31]) ∧ Below w.heap.size w w' := decode_l l most M hM hs _ hR w

namespace Hf
theorem aw1 : dec 8 (unp [168, 235, 16, 100, 156, 191]) 0 0 [] = .ok [110, 111, 45, 99, 97, 99, 104, 101] := by decide +kernel
theorem aw2 : dec 9 (unp [255, 255, 255, 255]) 0 0 [] = .fin := by decide +kernel
theorem aw3 : dec 9 (unp [6]) 0 0 [] = .pad := by decide +kernel
theorem aw4 : dec 0 (unp [7]) 0 0 [] = .long := by decide +kernel
theorem aw5 : enc [119, 119, 119, 46, 101, 120, 97, 109, 112, 108, 101, 46, 99, 111, 109] = [241, 227, 194, 229, 242, 58, 107, 160, 171, 144, 244, 255] := by decide +kernel
theorem aw6 : (enc [110, 111, 45, 99, 97, 99, 104, 101]).length = 6 := by decide +kernel
end Hf

set_option maxHeartbeats 1000000 in
theorem awake_any (w : World) : Calls Try.prog 10 #[] w fun e w' => e = .returned (.bool true) ∧ Below w.heap.size w w' := by
  go_enter Try.func10, Try.ntmps10
  go_wp2_with fail
  refine (decode_ok _ 8 8 rfl (by decide) _ Hf.aw1 _).mono ?_
  rintro e w1 ⟨rfl, h1⟩
  have HB1 := hid' h1
  clear h1
  go_wp2_with fail
  refine (decode_fin _ 9 9 rfl (by decide) Hf.aw2 _).mono ?_
  rintro e w2 ⟨rfl, h2⟩
  have HB2 := hid' (below_two HB1.out h2)
  clear h2 HB1
  go_wp2_with fail
  refine (decode_pad _ 9 9 rfl (by decide) Hf.aw3 _).mono ?_
  rintro e w3 ⟨rfl, h3⟩
  have HB3 := hid' (below_two HB2.out h3)
  clear h3 HB2
  go_wp2_with fail
  refine (decode_long _ 0 0 rfl (by decide) Hf.aw4 _).mono ?_
  rintro e w4 ⟨rfl, h4⟩
  have HB4 := hid' (below_two HB3.out h4)
  clear h4 HB3
  go_wp2_with fail
  refine (encode_l _ _ Hf.aw5 (by decide) _).mono ?_
  rintro e w5 ⟨rfl, h5⟩
  have HB5 := hid' (below_two HB4.out h5)
  clear h5 HB4
  go_wp2_with fail
  refine (size_of _ 6 Hf.aw6 (by decide) _).mono ?_
  rintro e w6 ⟨rfl, h6⟩
  have HB6 := hid' (below_two HB5.out h6)
  clear h6 HB5
  go_wp2
  go_ret
  exact ⟨rfl, HB6.out⟩

end Go.Proofs.Ytojfbeldoemmoaa
