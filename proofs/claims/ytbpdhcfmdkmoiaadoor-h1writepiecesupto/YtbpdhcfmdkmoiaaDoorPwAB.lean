/-
  Plain functions on texts (lists of bytes), and plain lemmas about them: what the document says of package text, with no program in sight.
  Messages on lists: what is of no program.
  A frame by a predicate of blocks, and rows of one's own: what is of no program.
-/
import Derived.Lib.Strings
import Derived.Test.YtbpdhcfmdkmoiaaDoorPwAA
import Derived.Maps.AppendAt
namespace Go.Proofs.YtbpdhcfmdkmoiaaDoor
namespace Tx

/-! ### texts: all of the bytes -/
def allC (f : Int → Bool) (l : List UInt8) : Bool := l.all fun c => f (c.toNat : Int)
theorem take_snoc (s : ByteArray) (k : Nat) (h : k < s.size) : s.data.toList.take (k + 1) = s.data.toList.take k ++ [s[k]] := by
  rw [List.take_succ_eq_append_getElem (by simpa using h)]; rfl
theorem allC_snoc (f : Int → Bool) (s : ByteArray) (k : Nat) (h : k < s.size) : allC f (s.data.toList.take (k + 1)) = (allC f (s.data.toList.take k) && f (s[k].toNat : Int)) := by
  rw [take_snoc s k h]; simp [allC]
theorem allC_no (f : Int → Bool) (s : ByteArray) (k : Nat) (h : k < s.size) (hf : f (s[k].toNat : Int) = false) : allC f s.data.toList = false := by
  unfold allC
  rw [List.all_eq_false]
  exact ⟨s[k], by have : s[k] = s.data.toList[k]'(by simpa using h) := rfl
                  rw [this]; exact List.getElem_mem _, by simp [hf]⟩
theorem allC_all (f : Int → Bool) (s : ByteArray) (k : Nat) (h : s.size ≤ k) (ha : allC f (s.data.toList.take k) = true) : allC f s.data.toList = true := by
  rwa [List.take_of_length_le (by simpa using h)] at ha

theorem size_pos (s : ByteArray) : decide (0 < s.size) = !s.data.toList.isEmpty := by
  rw [Bool.eq_iff_iff, Lib.size_eq]
  cases s.data.toList with
  | nil => simp
  | cons a l => simp
/-- P1.1 -/
def isTok (l : List UInt8) : Bool := allC tokC l && !l.isEmpty
theorem isTok_no (s : ByteArray) (k : Nat) (h : k < s.size) (hf : tokC (s[k].toNat : Int) = false) : isTok s.data.toList = false := by
  unfold isTok; rw [allC_no tokC s k h hf]; rfl
theorem isTok_all (s : ByteArray) (k : Nat) (h : s.size ≤ k) (ha : allC tokC (s.data.toList.take k) = true) : isTok s.data.toList = !s.data.toList.isEmpty := by
  unfold isTok; rw [allC_all tokC s k h ha]; rfl

/-! ### P1.4 -/
def blkB (c : UInt8) : Bool := blkC (c.toNat : Int)
def trimL (l : List UInt8) : List UInt8 := l.dropWhile blkB
def trimR (l : List UInt8) : List UInt8 := (l.reverse.dropWhile blkB).reverse
def trim (l : List UInt8) : List UInt8 := trimR (trimL l)

theorem dw_skip (a b : List UInt8) (h : ∀ x ∈ a, blkB x = true) : (a ++ b).dropWhile blkB = b.dropWhile blkB := by
  induction a with
  | nil => rfl
  | cons x a ih =>
    rw [List.cons_append, List.dropWhile_cons, h x (List.mem_cons_self ..)]
    exact ih fun y hy => h y (List.mem_cons_of_mem _ hy)
theorem trimL_skip (a b : List UInt8) (h : ∀ x ∈ a, blkB x = true) : trimL (a ++ b) = trimL b := dw_skip a b h
theorem trimR_skip (a b : List UInt8) (h : ∀ x ∈ b, blkB x = true) : trimR (a ++ b) = trimR a := by
  unfold trimR
  rw [List.reverse_append, dw_skip _ _ fun x hx => h x (List.mem_reverse.1 hx)]
theorem dw_stop (l : List UInt8) (h : ∀ x, l.head? = some x → blkB x = false) : l.dropWhile blkB = l := by
  cases l with
  | nil => rfl
  | cons x l => rw [List.dropWhile_cons, h x rfl]; rfl
theorem trimL_stop (l : List UInt8) (h : ∀ x, l.head? = some x → blkB x = false) : trimL l = l := dw_stop l h
theorem trimR_stop (l : List UInt8) (h : ∀ x, l.getLast? = some x → blkB x = false) : trimR l = l := by
  unfold trimR
  rw [dw_stop _ fun x hx => h x (by rwa [List.head?_reverse] at hx), List.reverse_reverse]
theorem dw_head (l : List UInt8) : ∀ x, (l.dropWhile blkB).head? = some x → blkB x = false := by
  induction l with
  | nil => intro x h; simp at h
  | cons y l ih =>
    intro x h
    rw [List.dropWhile_cons] at h
    by_cases hy : blkB y = true
    · rw [if_pos hy] at h; exact ih x h
    · rw [if_neg hy] at h; simp only [List.head?_cons, Option.some.injEq] at h; subst h; simpa using hy
theorem dw_suffix (l : List UInt8) : ∃ a, l = a ++ l.dropWhile blkB ∧ ∀ x ∈ a, blkB x = true := by
  induction l with
  | nil => exact ⟨[], rfl, fun x h => by simp at h⟩
  | cons y l ih =>
    rw [List.dropWhile_cons]
    split
    · obtain ⟨a, ha, hb⟩ := ih
      exact ⟨y :: a, by rw [List.cons_append, ← ha], fun x hx => by rcases List.mem_cons.1 hx with rfl | hx; · assumption
                                                                    · exact hb x hx⟩
    · exact ⟨[], rfl, fun x h => by simp at h⟩
/-- A text is blanks, what Trim leaves, and blanks. -/
theorem trim_parts (l : List UInt8) : ∃ a b, l = a ++ trim l ++ b ∧ (∀ x ∈ a, blkB x = true) ∧ (∀ x ∈ b, blkB x = true) := by
  obtain ⟨a, ha, hb⟩ := dw_suffix l
  obtain ⟨c, hc, hd⟩ := dw_suffix (l.dropWhile blkB).reverse
  refine ⟨a, c.reverse, ?_, hb, fun x hx => hd x (List.mem_reverse.1 hx)⟩
  have e : l.dropWhile blkB = trim l ++ c.reverse := by
    have := congrArg List.reverse hc
    rw [List.reverse_reverse, List.reverse_append] at this
    exact this
  rw [List.append_assoc, ← e]; exact ha
theorem trim_last (l : List UInt8) : ∀ x, (trim l).getLast? = some x → blkB x = false := by
  intro x h
  unfold trim trimR at h
  rw [List.getLast?_reverse] at h
  exact dw_head _ x h
theorem trim_head (l : List UInt8) : ∀ x, (trim l).head? = some x → blkB x = false := by
  intro x h
  obtain ⟨c, hc, _⟩ := dw_suffix (l.dropWhile blkB).reverse
  have e : l.dropWhile blkB = trim l ++ c.reverse := by
    have := congrArg List.reverse hc
    rw [List.reverse_reverse, List.reverse_append] at this
    exact this
  refine dw_head l x ?_
  rw [e]
  cases ht : trim l with
  | nil => rw [ht] at h; simp at h
  | cons y t => rw [ht] at h; simpa using h
/-- What stands between the first and the last byte that is no blank. -/
theorem trim_of (l : List UInt8) (k m : Nat) (km : k ≤ m) (hml : m ≤ l.length) (hk : ∀ x ∈ l.take k, blkB x = true) (hm : ∀ x ∈ l.drop m, blkB x = true)
    (h1 : ∀ x, k < m → l[k]? = some x → blkB x = false) (h2 : ∀ x, k < m → l[m - 1]? = some x → blkB x = false) : (l.drop k).take (m - k) = trim l := by
  have e1 : trimL l = trimL (l.drop k) := by
    conv => lhs; rw [← List.take_append_drop k l]
    exact trimL_skip _ _ hk
  have e2 : l.drop k = (l.drop k).take (m - k) ++ l.drop m := by
    conv => lhs; rw [← List.take_append_drop (m - k) (l.drop k)]
    rw [List.drop_drop, show k + (m - k) = m by omega]
  unfold trim
  rw [e1]
  by_cases hkm : k = m
  · subst hkm
    rw [show trimL (l.drop k) = [] from by have := trimL_skip (l.drop k) [] hm; rw [List.append_nil] at this; rw [this]; rfl]
    simp [trimR]
  · have e3 : trimL (l.drop k) = l.drop k := trimL_stop _ fun x hx => h1 x (by omega) (by rwa [List.head?_drop] at hx)
    rw [e3]
    conv => rhs; rw [e2, trimR_skip _ _ hm]
    refine (trimR_stop _ fun x hx => h2 x (by omega) ?_).symm
    rw [List.getLast?_eq_getElem?, List.length_take, List.length_drop, List.getElem?_take, List.getElem?_drop] at hx
    rw [show min (m - k) (l.length - k) - 1 = m - k - 1 by omega] at hx
    rw [if_pos (by omega), show k + (m - k - 1) = m - 1 by omega] at hx
    exact hx

theorem get_byte (s : ByteArray) (k : Nat) (h : k < s.size) : s.data.toList[k]? = some s[k] := by
  rw [List.getElem?_eq_getElem (by simpa using h)]; rfl
theorem blk_snoc (s : ByteArray) (k : Nat) (h : k < s.size) (ha : ∀ x ∈ s.data.toList.take k, blkB x = true) (hb : blkC (s[k].toNat : Int) = true) : ∀ x ∈ s.data.toList.take (k + 1), blkB x = true := by
  rw [take_snoc s k h]
  intro x hx
  rcases List.mem_append.1 hx with hx | hx
  · exact ha x hx
  · simp only [List.mem_singleton] at hx; subst hx; exact hb
theorem blk_pre (s : ByteArray) (k : Nat) (h : k < s.size) (ha : ∀ x ∈ s.data.toList.drop (k + 1), blkB x = true) (hb : blkC (s[k].toNat : Int) = true) : ∀ x ∈ s.data.toList.drop k, blkB x = true := by
  rw [List.drop_eq_getElem_cons (by simpa using h)]
  intro x hx
  rcases List.mem_cons.1 hx with hx | hx
  · subst hx; exact hb
  · exact ha x hx
theorem drop_all (s : ByteArray) : ∀ x ∈ s.data.toList.drop s.size, blkB x = true := by
  intro x hx; rw [List.drop_eq_nil_of_le (by rw [← Lib.size_eq]; exact Nat.le_refl _)] at hx; cases hx
def strLen : Value → Nat
  | .string t => t.size
  | _ => 0
theorem trim_cut (s : ByteArray) (k m : Nat) (km : k ≤ m) (hml : m ≤ s.size) (hk : ∀ x ∈ s.data.toList.take k, blkB x = true) (hm : ∀ x ∈ s.data.toList.drop m, blkB x = true)
    (h1 : ∀ x, s.data.toList[k]? = some x → blkB x = false) (h2 : ∀ x, k < m → s.data.toList[m - 1]? = some x → blkB x = false) : s.extract k m = ⟨(trim s.data.toList).toArray⟩ := by
  rw [Lib.extract_eq, trim_of s.data.toList k m km (by rw [← Lib.size_eq]; exact hml) hk hm (fun x _ => h1 x) h2]

/-- P1.2 -/
def isVal (l : List UInt8) : Bool := allC valC l && decide ((trim l).length = l.length)
theorem isVal_no (s : ByteArray) (k : Nat) (h : k < s.size) (hf : valC (s[k].toNat : Int) = false) : isVal s.data.toList = false := by
  unfold isVal; rw [allC_no valC s k h hf]; rfl
theorem isVal_trim (s : ByteArray) (k : Nat) (h : s.size ≤ k) (ha : allC valC (s.data.toList.take k) = true) : isVal s.data.toList = decide ((trim s.data.toList).length = s.size) := by
  unfold isVal; rw [allC_all valC s k h ha, Lib.size_eq]; rfl
/-- Trim leaves all of a text just if it neither begins nor ends with a blank. -/
theorem trim_same (l : List UInt8) : (trim l).length = l.length ↔ (∀ x, l.head? = some x → blkB x = false) ∧ (∀ x, l.getLast? = some x → blkB x = false) := by
  constructor
  · intro h
    obtain ⟨a, b, e, _, _⟩ := trim_parts l
    have hl := congrArg List.length e
    simp only [List.length_append] at hl
    have ha : a = [] := List.eq_nil_of_length_eq_zero (by omega)
    have hb : b = [] := List.eq_nil_of_length_eq_zero (by omega)
    subst ha hb
    rw [List.nil_append, List.append_nil] at e
    have h1 := trim_head l
    have h2 := trim_last l
    rw [← e] at h1 h2
    exact ⟨h1, h2⟩
  · rintro ⟨h1, h2⟩
    unfold trim
    rw [trimL_stop l h1, trimR_stop l h2]

theorem isVal_ends (s : ByteArray) (h0 : 0 < s.size) (h : isVal s.data.toList = decide ((trim s.data.toList).length = s.size)) :
    isVal s.data.toList = (!blkC (s[0].toNat : Int) && !blkC ((s[s.size - 1]'(by omega)).toNat : Int)) := by
  have e := trim_same s.data.toList
  rw [List.head?_eq_getElem?, List.getLast?_eq_getElem?, get_byte s 0 h0, ← Lib.size_eq, get_byte s (s.size - 1) (by omega)] at e
  rw [h, Bool.eq_iff_iff, decide_eq_true_eq, e]
  simp [blkB]
theorem isVal_none (s : ByteArray) (h0 : s.size = 0) (h : isVal s.data.toList = decide ((trim s.data.toList).length = s.size)) : isVal s.data.toList = true := by
  have : s.data.toList = [] := List.eq_nil_of_length_eq_zero (by rw [← Lib.size_eq]; exact h0)
  rw [h, decide_eq_true_eq, this, h0]; rfl

theorem valC_yes (c : Int) (h : c = 9 ∨ (32 ≤ c ∧ c ≠ 127)) : valC c = true := by
  simp only [valC, Bool.or_eq_true, beq_iff_eq, Bool.and_eq_true, decide_eq_true_eq]; omega
theorem valC_no (c : Int) (h : (c ≠ 9 ∧ c < 32) ∨ c = 127) : valC c = false := by
  rw [← Bool.not_eq_true]
  simp only [valC, Bool.or_eq_true, beq_iff_eq, Bool.and_eq_true, decide_eq_true_eq]; omega

/-! ### P1.3 -/
def lowC (c : UInt8) : UInt8 := if 65 ≤ c.toNat ∧ c.toNat ≤ 90 then UInt8.ofNat (c.toNat + 32) else c
def lower (l : List UInt8) : List UInt8 := l.map lowC
theorem lowC_up (c : UInt8) (h : 65 ≤ c.toNat) (h' : c.toNat ≤ 90) : (lowC c).toNat = c.toNat + 32 := by
  unfold lowC; rw [if_pos ⟨h, h'⟩]; simp; omega
theorem lowC_no (c : UInt8) (h : ¬ (65 ≤ c.toNat ∧ c.toNat ≤ 90)) : lowC c = c := by unfold lowC; rw [if_neg h]

end Tx
end Go.Proofs.YtbpdhcfmdkmoiaaDoor

namespace Go.Proofs.YtbpdhcfmdkmoiaaDoor

/-- A field. -/
structure Fd where
  n : ByteArray
  v : ByteArray
namespace Ms
abbrev T8 := List UInt8
def conns : List T8 := [[99, 111, 110, 110, 101, 99, 116, 105, 111, 110], [107, 101, 101, 112, 45, 97, 108, 105, 118, 101], [112, 114, 111, 120, 121, 45, 99, 111, 110, 110, 101, 99, 116, 105, 111, 110], [116, 114, 97, 110, 115, 102, 101, 114, 45, 101, 110, 99, 111, 100, 105, 110, 103], [117, 112, 103, 114, 97, 100, 101]]
def sHttp : T8 := [104, 116, 116, 112]
def sHttps : T8 := [104, 116, 116, 112, 115]
def sOptions : T8 := [79, 80, 84, 73, 79, 78, 83]
def sLen : T8 := [99, 111, 110, 116, 101, 110, 116, 45, 108, 101, 110, 103, 116, 104]
def sStatus : T8 := [58, 115, 116, 97, 116, 117, 115]
def tx (b : ByteArray) : T8 := b.data.toList
def lo (b : ByteArray) : T8 := Tx.lower b.data.toList
/-- One of a connection's own. -/
def bnd (b : ByteArray) : Bool := conns.contains (lo b)
def wt (f : Fd) : Nat := 32 + f.n.size + f.v.size
def size (l : List Fd) : Nat := (l.map wt).sum
def strip (l : List Fd) : List Fd := l.filter fun f => !bnd f.n
def psd (b : ByteArray) : Bool := (tx b).head? == some 58
def plain (f : Fd) : Bool := Tx.isTok (tx f.n) && (lo f.n == tx f.n) && Tx.isVal (tx f.v) && !bnd f.n
def okc (c : UInt8) : Bool := decide (33 ≤ c.toNat) && decide (c.toNat ≤ 126) && !(c == 35)
/-- Whether a path may be a target's. -/
def goes (m p : ByteArray) : Bool := if tx p == [42] then tx m == sOptions else (tx p).head? == some 47 && (tx p).all okc
def dec (b : ByteArray) : Bool := !(tx b == []) && decide (b.size ≤ 15) && !(((tx b).head? == some 48) && decide (1 < b.size)) && (tx b).all fun c => decide (48 ≤ c.toNat) && decide (c.toNat ≤ 57)
theorem strip_take {l : List Fd} {i : Nat} {f : Fd} (h : l[i]? = some f) : strip (l.take (i + 1)) = strip (l.take i) ++ (if bnd f.n then [] else [f]) := by
  rw [List.take_add_one, h]
  simp only [strip, List.filter_append, Option.toList_some, List.filter_cons, List.filter_nil]
  cases bnd f.n <;> rfl
end Ms

end Go.Proofs.YtbpdhcfmdkmoiaaDoor

namespace Go.Proofs.YtbpdhcfmdkmoiaaDoor
open Go.RowKit

theorem own_ty {w : World} {B : Nat} {e : TypeId} {s : Nat} {v : Value} {n : Nat} {xs : List Value} (h : w.ownsRow B e s v n xs) : ∀ k, v.ownBlock = some k → B ≤ k ∧ ∃ cs, w.heap[k]? = some (.cells cs e (0, 0)) := by
  intro k hk
  rcases h.2 with ⟨rfl, _⟩ | ⟨g, cap, cur, rfl, h1, h3, _⟩
  · simp [Value.ownBlock] at hk
  · simp [Value.ownBlock] at hk
    subst hk
    exact ⟨h1, _, h3⟩
theorem own_apart {w : World} {B : Nat} {e T : TypeId} {s : Nat} {v : Value} {n : Nat} {xs : List Value} {b : Nat} {c : Array Value} (h : w.ownsRow B e s v n xs) (ha : Ar w b T c) (hne : T ≠ e) : ∀ k, v.ownBlock = some k → k ≠ b := by
  intro k hk e'
  subst e'
  obtain ⟨_, cs, h3⟩ := own_ty h k hk
  unfold Ar at ha
  rw [ha] at h3
  injection h3 with h3
  injection h3 with _ h4 _
  exact hne h4
theorem own_same {w w' : World} {B : Nat} {e : TypeId} {s : Nat} {v : Value} {n : Nat} {xs : List Value} (h : w.ownsRow B e s v n xs) (hb : ∀ k, v.ownBlock = some k → w'.heap[k]? = w.heap[k]?) : w'.ownsRow B e s v n xs := by
  refine ⟨h.1, ?_⟩
  rcases h.2 with h2 | ⟨g, cap, cur, h1, h2, h3, h4⟩
  · exact .inl h2
  · exact .inr ⟨g, cap, cur, h1, h2, (hb g (by rw [h1]; rfl)).trans h3, h4⟩
theorem ar_grown {w w' : World} {b : Nat} {T : TypeId} {c : Array Value} {row : Option Nat} (h : Ar w b T c) (hg : w.grownBy w' row) (hn : ∀ k, row = some k → k ≠ b) : Ar w' b T c := by
  unfold Ar at *
  rw [hg.block b (Array.getElem?_eq_some_iff.1 h).1 (fun e => hn b e.symm rfl)]
  exact h
theorem own_lt {w : World} {B : Nat} {e : TypeId} {s : Nat} {v : Value} {n : Nat} {xs : List Value} (h : w.ownsRow B e s v n xs) : ∀ k, v.ownBlock = some k → k < w.heap.size := fun k hk => by
  obtain ⟨_, _, h1⟩ := own_ty h k hk
  exact (Array.getElem?_eq_some_iff.1 h1).1

end Go.Proofs.YtbpdhcfmdkmoiaaDoor
