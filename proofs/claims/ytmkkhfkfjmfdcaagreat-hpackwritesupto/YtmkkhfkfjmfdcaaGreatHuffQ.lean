/-
  Texts, bits and bytes: what is coded and read, as plain functions.
-/
import Derived.Test.YtmkkhfkfjmfdcaaGreatHuffP
namespace Go.Proofs.YtmkkhfkfjmfdcaaGreat
namespace Hf

def lenN (x : Nat) : Nat := (lens.getD x 0).toNat
def codN (x : Nat) : Nat := (cods.getD x 0).toNat
theorem cods_bd : (lens.zip cods).all (fun p => decide (0 ≤ p.2) && decide (p.2 < (2 : Int) ^ p.1.toNat)) = true := by decide +kernel
theorem len_at (x : Nat) (h : x < 257) : lens[x]? = some (lenN x : Int) ∧ 5 ≤ lenN x ∧ lenN x ≤ 30 := by
  obtain ⟨v, hv, h0, h1⟩ := lens_at x h
  have : lens.getD x 0 = v := by rw [List.getD_eq_getElem?_getD, hv]; rfl
  unfold lenN
  rw [this]
  exact ⟨by rw [hv]; congr 1; omega, by omega, by omega⟩
theorem cod_at (x : Nat) (h : x < 257) : cods[x]? = some (codN x : Int) ∧ codN x < 2 ^ lenN x := by
  have hc : x < cods.length := by rw [cods_length]; exact h
  have hl : x < lens.length := by rw [lens_length]; exact h
  have hz : x < (lens.zip cods).length := by simp; omega
  have := List.all_eq_true.1 cods_bd ((lens.zip cods)[x]'hz) (List.getElem_mem hz)
  simp only [Bool.and_eq_true, decide_eq_true_eq, List.getElem_zip] at this
  have e1 : cods.getD x 0 = cods[x]'hc := by rw [List.getD_eq_getElem?_getD, List.getElem?_eq_getElem hc]; rfl
  have e2 : lens.getD x 0 = lens[x]'hl := by rw [List.getD_eq_getElem?_getD, List.getElem?_eq_getElem hl]; rfl
  unfold codN lenN
  rw [e1, e2]
  refine ⟨by rw [List.getElem?_eq_getElem hc]; congr 1; omega, ?_⟩
  have h2 := this.2
  have h3 := Int.toNat_of_nonneg this.1
  rw [← h3] at h2
  exact_mod_cast h2

/-- So many bits of a number, the highest first. -/
def bitsN : Nat → Nat → List Bool
  | 0, _ => []
  | n + 1, v => (v / 2 ^ n % 2 == 1) :: bitsN n v
/-- The number of bits. -/
def valF (a : Nat) (l : List Bool) : Nat := l.foldl (fun a b => 2 * a + b.toNat) a
def val (l : List Bool) : Nat := valF 0 l
def word (x : Nat) : List Bool := bitsN (lenN x) (codN x)
def bits (s : List UInt8) : List Bool := s.flatMap fun c => word c.toNat
def nbits (s : List UInt8) : Nat := (s.map fun c => lenN c.toNat).sum
def pk : List Bool → List UInt8
  | a :: b :: c :: d :: e :: f :: g :: h :: r => UInt8.ofNat (val [a, b, c, d, e, f, g, h]) :: pk r
  | _ => []
def unp (l : List UInt8) : List Bool := l.flatMap fun c => bitsN 8 c.toNat
def ones (n : Nat) : List Bool := List.replicate n true
def pad (n : Nat) : Nat := (8 - n % 8) % 8
def enc (s : List UInt8) : List UInt8 := pk (bits s ++ ones (pad (bits s).length))

/-- The symbol of a code. -/
def sym (c n : Nat) : Option Nat :=
  if (c : Int) - fsts.getD n 0 < 0 ∨ cnt.getD n 0 ≤ (c : Int) - fsts.getD n 0 then none else some (ords.getD (stas.getD n 0 + ((c : Int) - fsts.getD n 0)).toNat 0).toNat

inductive Res | ok (l : List UInt8) | long | pad | fin
  deriving DecidableEq
def dec (most : Nat) : List Bool → Nat → Nat → List UInt8 → Res
  | [], c, n, out => if 7 < n ∨ c ≠ 2 ^ n - 1 then .pad else .ok out
  | b :: r, c, n, out =>
    match sym (2 * c + b.toNat) (n + 1) with
    | none => dec most r (2 * c + b.toNat) (n + 1) out
    | some x => if x = 256 then .fin else if out.length = most then .long else dec most r 0 0 (out ++ [UInt8.ofNat x])

theorem bitsN_length (n v : Nat) : (bitsN n v).length = n := by
  induction n with
  | zero => rfl
  | succ n ih => simp [bitsN, ih]
theorem word_length (x : Nat) : (word x).length = lenN x := bitsN_length _ _
theorem bits_length (s : List UInt8) : (bits s).length = nbits s := by
  simp [bits, nbits, List.length_flatMap, word_length]
theorem bits_append (a b : List UInt8) : bits (a ++ b) = bits a ++ bits b := by simp [bits]
theorem nbits_append (a b : List UInt8) : nbits (a ++ b) = nbits a + nbits b := by simp [nbits]
theorem nbits_one (c : UInt8) : nbits [c] = lenN c.toNat := by simp [nbits]
theorem nbits_le (s : List UInt8) : 5 * s.length ≤ nbits s ∧ nbits s ≤ 30 * s.length := by
  induction s with
  | nil => simp [nbits]
  | cons c r ih =>
    have := (len_at c.toNat (by have := UInt8.toNat_lt c; omega)).2
    have e : nbits (c :: r) = lenN c.toNat + nbits r := by simp [nbits]
    rw [e, List.length_cons]
    omega
theorem take_snoc (l : List UInt8) (k : Nat) (h : k < l.length) : l.take (k + 1) = l.take k ++ [l[k]] := (List.take_append_getElem h).symm

end Hf
end Go.Proofs.YtmkkhfkfjmfdcaaGreat
