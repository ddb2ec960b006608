/-
  Bytes of a text; what is read is written: plain.
-/
import Derived.Test.YthbidfcfkjamdaaFrAw
import Derived.Lib.ConvBytes
namespace Go.Proofs.Ythbidfcfkjamdaa
open Go.RowKit

section
variable {ops : Array Oper} {rest : List Oper} {o : Oper} {a : Act} {w : World} {Q : Exit → Act → World → Prop}
theorem wpl_tobytes (x : Operand) (ho : o.op = .convert 9 66 x) (hgd : o.guard = none) (l : List UInt8) (hx : a.eval x = .string ⟨l.toArray⟩)
    (h : ∀ b cap w', w.heap.size ≤ b → (∀ j (hj : j < l.length), w'.cell? ⟨b, j, none⟩ = some (.int .u8 (l[j].toNat : Int))) → (∀ j, j < l.length → w'.frozen? ⟨b, j, none⟩ = false) → Below w.heap.size w w' → wpList Try.prog ops Q rest (a.put o.dst (.slice (some ⟨b, 0, none⟩) l.length cap)) w') :
    wpList Try.prog ops Q (o :: rest) a w := by
  refine wpList_plain hgd fun _ hK => ?_
  have hr := Lib.run_convert_string_bytes (P := Try.prog) w 9 66 5 ⟨l.toArray⟩ Try.underlying9 Try.underlying66 Try.underlying5
  unfold Oper.wp execOp
  simp only [ho, hx, Sem.run_bind, Sem.run_pure, hr, Result.andThen_ok]
  refine hK _ _ (h w.heap.size _ _ (Nat.le_refl _) ?_ ?_ ?_)
  · intro j hj
    rw [Lib.bytesWorld_cell w 5 ⟨l.toArray⟩ j hj]
    have : (⟨l.toArray⟩ : ByteArray).data.toList.getD j 0 = l[j] := by
      rw [List.getD_eq_getElem?_getD]
      simp [hj]
    rw [this]
  · intro j hj
    have hn := Lib.bytesWorld_at_new w 5 ⟨l.toArray⟩
    have hs : l.length ≤ (Lib.bytesCells w 5 ⟨l.toArray⟩).size := by simp [Lib.bytesCells]
    simp [World.frozen?, hn]
    omega
  · exact ⟨rfl, rfl, rfl, by rw [Lib.bytesWorld_size]; omega, fun k hk => Lib.bytesWorld_at_old w _ _ k hk⟩
end

namespace Fm
theorem nine {l : List UInt8} (h : 9 ≤ l.length) : ∃ a b c k f s0 s1 s2 s3 r, l = a :: b :: c :: k :: f :: s0 :: s1 :: s2 :: s3 :: r := by
  match l, h with
  | a :: b :: c :: k :: f :: s0 :: s1 :: s2 :: s3 :: r, _ => exact ⟨a, b, c, k, f, s0, s1, s2, s3, r, rfl⟩
/-- What is read is written as it was, but for the bit that does not count. -/
theorem there (l : List UInt8) (n : Nat) (hn : num (l.take 3) = n) (hl : 9 + n ≤ l.length) (x : UInt8) (hx : x.toNat = (l.getD 5 0).toNat % 128) :
    wr ((l.getD 3 0).toNat : Nat) ((l.getD 4 0).toNat : Nat) (idn (l.drop 5) : Nat) ((l.drop 9).take n) = (l.take (9 + n)).set 5 x := by
  obtain ⟨a, b, c, k, f, s0, s1, s2, s3, r, rfl⟩ := nine (l := l) (by omega)
  simp only [List.length_cons] at hl
  have hlen : ((List.drop 9 (a :: b :: c :: k :: f :: s0 :: s1 :: s2 :: s3 :: r)).take n).length = n := by simp; omega
  unfold wr
  rw [hlen]
  have e3 : enc 3 (n : Int) = [a, b, c] := by rw [← hn]; exact enc_num3 (l := [a, b, c]) rfl
  have hk : byt ((k.toNat : Nat) : Int) = k := byt_of _ _ (by have := UInt8.toNat_lt k; omega)
  have hf : byt ((f.toNat : Nat) : Int) = f := byt_of _ _ (by have := UInt8.toNat_lt f; omega)
  have hs : enc 4 ((idn (s0 :: s1 :: s2 :: s3 :: r) : Nat) : Int) = [x, s1, s2, s3] := by
    have hi : idn (s0 :: s1 :: s2 :: s3 :: r) = num [s0, s1, s2, s3] % 2147483648 := rfl
    rw [hi, num4, enc4]
    have h0 := UInt8.toNat_lt s0; have h1 := UInt8.toNat_lt s1; have h2 := UInt8.toNat_lt s2; have h3 := UInt8.toNat_lt s3
    have hx' : x.toNat = s0.toNat % 128 := hx
    rw [byt_of x _ (by omega), byt_of s1 _ (by omega), byt_of s2 _ (by omega), byt_of s3 _ (by omega)]
  rw [e3]
  show [a, b, c] ++ byt (k.toNat : Nat) :: byt (f.toNat : Nat) :: (enc 4 ((idn (s0 :: s1 :: s2 :: s3 :: r) : Nat) : Int) ++ r.take n) = _
  rw [hk, hf, hs]
  have : 9 + n = n + 1 + 1 + 1 + 1 + 1 + 1 + 1 + 1 + 1 := by omega
  rw [this]
  simp
end Fm
theorem and127u : ∀ y : Nat, y < 256 → Go.bits .and .u8 (y : Int) 127 = ((y % 128 : Nat) : Int) := by decide +kernel

end Go.Proofs.Ythbidfcfkjamdaa
