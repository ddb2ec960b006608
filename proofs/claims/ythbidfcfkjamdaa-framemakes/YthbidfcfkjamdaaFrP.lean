/-
  Frames on lists of bytes: what bytes begin with, what is written, what a frame says; no program.
-/
import Derived.WalkKit
namespace Go.Proofs.Ythbidfcfkjamdaa
namespace Fm

/-- The number of bytes, the highest one first. -/
def num (l : List UInt8) : Nat := l.foldl (fun n b => 256 * n + b.toNat) 0
theorem num_snoc (l : List UInt8) (b : UInt8) : num (l ++ [b]) = 256 * num l + b.toNat := by simp [num, List.foldl_append]
theorem num1 (a : UInt8) : num [a] = a.toNat := by simp [num]
theorem num2 (a b : UInt8) : num [a, b] = 256 * a.toNat + b.toNat := by simp [num]
theorem num3 (a b c : UInt8) : num [a, b, c] = 65536 * a.toNat + 256 * b.toNat + c.toNat := by simp [num]; omega
theorem num4 (a b c d : UInt8) : num [a, b, c, d] = 16777216 * a.toNat + 65536 * b.toNat + 256 * c.toNat + d.toNat := by simp [num]; omega

theorem len1 {l : List UInt8} (h : l.length = 1) : ∃ a, l = [a] := by
  match l, h with
  | [a], _ => exact ⟨a, rfl⟩
theorem len2 {l : List UInt8} (h : l.length = 2) : ∃ a b, l = [a, b] := by
  match l, h with
  | [a, b], _ => exact ⟨a, b, rfl⟩
theorem len3 {l : List UInt8} (h : l.length = 3) : ∃ a b c, l = [a, b, c] := by
  match l, h with
  | [a, b, c], _ => exact ⟨a, b, c, rfl⟩
theorem len4 {l : List UInt8} (h : l.length = 4) : ∃ a b c d, l = [a, b, c, d] := by
  match l, h with
  | [a, b, c, d], _ => exact ⟨a, b, c, d, rfl⟩
theorem num_lt2 {l : List UInt8} (h : l.length = 2) : num l < 65536 := by
  obtain ⟨a, b, rfl⟩ := len2 h
  have := UInt8.toNat_lt a; have := UInt8.toNat_lt b
  rw [num2]; omega
theorem num_lt3 {l : List UInt8} (h : l.length = 3) : num l < 16777216 := by
  obtain ⟨a, b, c, rfl⟩ := len3 h
  have := UInt8.toNat_lt a; have := UInt8.toNat_lt b; have := UInt8.toNat_lt c
  rw [num3]; omega
theorem num_lt4 {l : List UInt8} (h : l.length = 4) : num l < 4294967296 := by
  obtain ⟨a, b, c, d, rfl⟩ := len4 h
  have := UInt8.toNat_lt a; have := UInt8.toNat_lt b; have := UInt8.toNat_lt c; have := UInt8.toNat_lt d
  rw [num4]; omega
theorem num_le (l : List UInt8) (h : l.length ≤ 4) : num l < 4294967296 := by
  match l, h with
  | [], _ => simp [num]
  | [a], _ => have := UInt8.toNat_lt a; rw [num1]; omega
  | [a, b], h => have := num_lt2 (l := [a, b]) rfl; omega
  | [a, b, c], h => have := num_lt3 (l := [a, b, c]) rfl; omega
  | [a, b, c, d], h => exact num_lt4 rfl

/-- A byte of a number. -/
def byt (n : Int) : UInt8 := UInt8.ofNat (n % 256).toNat
theorem byt_toNat (n : Int) : (byt n).toNat = (n % 256).toNat := by
  unfold byt; rw [UInt8.toNat_ofNat', Nat.mod_eq_of_lt (by omega)]
theorem byt_cast (n : Int) : ((byt n).toNat : Int) = n % 256 := by rw [byt_toNat]; omega
theorem byt_of (b : UInt8) (n : Int) (h : n % 256 = b.toNat) : byt n = b := by
  apply UInt8.toNat_inj.1; rw [byt_toNat]; omega
/-- A number's lowest bytes, the highest one first. -/
def enc : Nat → Int → List UInt8
  | 0, _ => []
  | w + 1, n => byt (n / 256 ^ w) :: enc w n
theorem enc_length (w : Nat) (n : Int) : (enc w n).length = w := by induction w with | zero => rfl | succ w ih => simp [enc, ih]
theorem enc1 (n : Int) : enc 1 n = [byt n] := by simp [enc]
theorem enc2 (n : Int) : enc 2 n = [byt (n / 256), byt n] := by simp [enc]
theorem enc3 (n : Int) : enc 3 n = [byt (n / 65536), byt (n / 256), byt n] := by simp [enc]
theorem enc4 (n : Int) : enc 4 n = [byt (n / 16777216), byt (n / 65536), byt (n / 256), byt n] := by simp [enc]
theorem num_enc1 (n : Int) : (num (enc 1 n) : Int) = n % 256 := by rw [enc1, num1, byt_cast]
theorem num_enc2 (n : Int) : (num (enc 2 n) : Int) = n % 65536 := by
  rw [enc2, num2]; have := byt_cast (n / 256); have := byt_cast n; omega
theorem num_enc3 (n : Int) : (num (enc 3 n) : Int) = n % 16777216 := by
  rw [enc3, num3]; have := byt_cast (n / 65536); have := byt_cast (n / 256); have := byt_cast n; omega
theorem num_enc4 (n : Int) : (num (enc 4 n) : Int) = n % 4294967296 := by
  rw [enc4, num4]; have := byt_cast (n / 16777216); have := byt_cast (n / 65536); have := byt_cast (n / 256); have := byt_cast n; omega
theorem enc_num1 {l : List UInt8} (h : l.length = 1) : enc 1 (num l : Int) = l := by
  obtain ⟨a, rfl⟩ := len1 h
  have := UInt8.toNat_lt a
  rw [enc1, num1, byt_of a _ (by omega)]
theorem enc_num2 {l : List UInt8} (h : l.length = 2) : enc 2 (num l : Int) = l := by
  obtain ⟨a, b, rfl⟩ := len2 h
  have := UInt8.toNat_lt a; have := UInt8.toNat_lt b
  rw [enc2, num2, byt_of a _ (by omega), byt_of b _ (by omega)]
theorem enc_num3 {l : List UInt8} (h : l.length = 3) : enc 3 (num l : Int) = l := by
  obtain ⟨a, b, c, rfl⟩ := len3 h
  have := UInt8.toNat_lt a; have := UInt8.toNat_lt b; have := UInt8.toNat_lt c
  rw [enc3, num3, byt_of a _ (by omega), byt_of b _ (by omega), byt_of c _ (by omega)]
theorem enc_num4 {l : List UInt8} (h : l.length = 4) : enc 4 (num l : Int) = l := by
  obtain ⟨a, b, c, d, rfl⟩ := len4 h
  have := UInt8.toNat_lt a; have := UInt8.toNat_lt b; have := UInt8.toNat_lt c; have := UInt8.toNat_lt d
  rw [enc4, num4, byt_of a _ (by omega), byt_of b _ (by omega), byt_of c _ (by omega), byt_of d _ (by omega)]

/-- What a frame says. -/
structure Pt where
  data : List UInt8
  pad : Int
  code : Int
  last : Int
  weight : Int
  only : Bool
  more : Int
  sets : List (Int × Int)
/-- Nothing. -/
def none' : Pt := ⟨[], 0, 0, 0, 0, false, 0, []⟩
/-- What is wrong: with the connection?, the code; or what is said. -/
inductive Rd where
  | bad (conn : Bool) (code : Int)
  | ok (p : Pt)

/-- Is a flag set? -/
def has (fl b : Int) : Bool := decide (b ≤ fl % (2 * b))
/-- The stream that bytes begin with. -/
def idn (l : List UInt8) : Nat := num (l.take 4) % 2147483648
theorem idn_lt (l : List UInt8) : idn l < 2147483648 := Nat.mod_lt _ (by decide)
/-- Five bytes of a priority. -/
def prio (l : List UInt8) (d : List UInt8) : Pt := ⟨d, 0, 0, (idn l : Nat), ((l.getD 4 0).toNat : Int) + 1, decide (2147483648 ≤ num (l.take 4)), 0, []⟩
/-- How many bytes stand ahead of the data. -/
def head (k fl : Int) : Nat := (if has fl 8 then 1 else 0) + (if k = 1 ∧ has fl 32 = true then 5 else 0)
/-- How much padding there is. -/
def pads (fl : Int) (l : List UInt8) : Nat := if has fl 8 then (l.getD 0 0).toNat else 0
/-- May a frame of this kind not be on this stream? -/
def mis (k st : Int) : Bool :=
  if k = 0 ∨ k = 1 ∨ k = 2 ∨ k = 3 ∨ k = 9 then decide (st = 0) else if k = 4 ∨ k = 6 ∨ k = 7 ∨ k = 16 then decide (st ≠ 0) else decide (k = 5)
/-- Has the payload as many bytes as its kind asks for? -/
def sized (k fl : Int) (n : Nat) : Bool :=
  if k = 0 ∨ k = 1 then decide (head k fl ≤ n) else if k = 2 then decide (n = 5) else if k = 3 then decide (n = 4)
  else if k = 4 then (decide (n = 0) || (!has fl 1 && decide (n % 6 = 0))) else if k = 6 then decide (n = 8) else if k = 7 then decide (8 ≤ n)
  else if k = 8 then decide (n = 4) else if k = 16 then decide (4 ≤ n) else true
/-- What is wrong with a setting: its code. -/
def bads (i v : Int) : Int := if i = 2 ∧ 1 < v then 1 else if i = 4 ∧ 2147483647 < v then 3 else if i = 5 ∧ (v < 16384 ∨ 16777215 < v) then 1 else 0
/-- The settings of bytes, or what is wrong with the first wrong one. -/
def sets : Nat → List UInt8 → List (Int × Int) → Rd
  | 0, _, acc => .ok ⟨[], 0, 0, 0, 0, false, 0, acc⟩
  | n + 1, l, acc =>
    if bads (num (l.take 2)) (num ((l.drop 2).take 4)) = 0 then sets n (l.drop 6) (acc ++ [((num (l.take 2) : Int), (num ((l.drop 2).take 4) : Int))])
    else .bad true (bads (num (l.take 2)) (num ((l.drop 2).take 4)))
/-- What a frame says that is on its stream and as long as it may be. -/
def say (k fl st : Int) (l : List UInt8) : Rd :=
  if k = 0 ∨ k = 1 then
    if l.length - head k fl < pads fl l then .bad true 1
    else
      let d := (l.drop (head k fl)).take (l.length - head k fl - pads fl l)
      if k = 1 then (if has fl 32 then .ok (prio (l.drop (head k fl - 5)) d) else .ok ⟨d, 0, 0, 0, 0, false, 0, []⟩)
      else .ok ⟨d, if has fl 8 then (pads fl l : Int) + 1 else 0, 0, 0, 0, false, 0, []⟩
  else if k = 2 then .ok (prio l [])
  else if k = 3 then .ok ⟨[], 0, (num (l.take 4) : Nat), 0, 0, false, 0, []⟩
  else if k = 4 then sets (l.length / 6) l []
  else if k = 6 ∨ k = 9 then .ok ⟨l, 0, 0, 0, 0, false, 0, []⟩
  else if k = 7 then .ok ⟨l.drop 8, 0, (num ((l.drop 4).take 4) : Nat), (idn l : Nat), 0, false, 0, []⟩
  else if k = 8 then (if idn l = 0 then .bad (decide (st = 0)) 1 else .ok ⟨[], 0, 0, 0, 0, false, (idn l : Nat), []⟩)
  else if k = 16 then (if idn l = 0 then .bad true 1 else .ok ⟨l.drop 4, 0, 0, (idn l : Nat), 0, false, 0, []⟩)
  else .ok none'
/-- What a frame says. -/
def parse (k fl st : Int) (l : List UInt8) : Rd :=
  if mis k st then .bad true 1 else if sized k fl l.length then say k fl st l else .bad (decide (k ≠ 2)) 6

/-- May these be written? -/
def may (k fl st : Int) : Bool := decide (0 ≤ k ∧ k ≤ 255 ∧ 0 ≤ fl ∧ fl ≤ 255 ∧ 0 ≤ st ∧ st ≤ 2147483647)
/-- A frame's bytes. -/
def wr (k fl st : Int) (l : List UInt8) : List UInt8 := enc 3 l.length ++ byt k :: byt fl :: (enc 4 st ++ l)
theorem wr_length (k fl st : Int) (l : List UInt8) : (wr k fl st l).length = 9 + l.length := by simp [wr, enc_length]; omega

/-- What bytes begin with: 0: the frame; else an error's number. -/
def nextE (l : List UInt8) (most : Int) : Int :=
  if l.length < 3 then 40 else if most < (num (l.take 3) : Int) then 3 else if l.length < 9 + num (l.take 3) then 40 else 0

theorem wr_take (k fl st : Int) (l r : List UInt8) : (wr k fl st l ++ r).take 3 = enc 3 l.length := by
  have : wr k fl st l ++ r = enc 3 l.length ++ (byt k :: byt fl :: (enc 4 st ++ l) ++ r) := by simp [wr]
  rw [this, List.take_left' (enc_length _ _)]
theorem wr_num (k fl st : Int) (l r : List UInt8) (h : l.length ≤ 16777215) : num ((wr k fl st l ++ r).take 3) = l.length := by
  rw [wr_take]; have := num_enc3 (l.length : Int); omega
end Fm
end Go.Proofs.Ythbidfcfkjamdaa
