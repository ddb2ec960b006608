/-
  Plain functions on bytes, lists and numbers, and plain lemmas about them: what the document says of package text, with no program in sight.
  Plain functions on texts (lists of bytes), and plain lemmas about them: what the document says of package text, with no program in sight.
  Messages on lists: what is of no program.
  Numbers that texts write: plain functions and lemmas, with no program in sight.
  Messages on lists: walks, lengths, trailers, targets. What is of no program.
  Decimal numerals: plain lemmas, with no program in sight.
-/
import Derived.WalkKit
import Derived.Lib.Strings
import Derived.Lib.ItoaMem
namespace Go.Proofs.YtbpdhcfmdkmoiaaGreatDoor
namespace Tx

/-! ### bytes -/
def letC (c : Int) : Bool := (decide (65 ≤ c) && decide (c ≤ 90)) || (decide (97 ≤ c) && decide (c ≤ 122))
def digC (c : Int) : Bool := decide (48 ≤ c) && decide (c ≤ 57)
def markC (c : Int) : Bool := c == 33 || c == 35 || c == 36 || c == 37 || c == 38 || c == 39 || c == 42 || c == 43 || c == 45 || c == 46 || c == 94 || c == 95 || c == 96 || c == 124 || c == 126
def tokC (c : Int) : Bool := letC c || digC c || markC c
def blkC (c : Int) : Bool := (c == 32) || (c == 9)
def valC (c : Int) : Bool := (c == 9) || (decide (32 ≤ c) && decide (c ≤ 126)) || decide (128 ≤ c)
/-- A digit's value, 16 for a byte that is none. -/
def dgt (c : Int) : Int := if digC c then c - 48 else if decide (97 ≤ c) && decide (c ≤ 102) then c - 87 else if decide (65 ≤ c) && decide (c ≤ 70) then c - 55 else 16

theorem dgt_bd (c : Int) : 0 ≤ dgt c ∧ dgt c ≤ 16 := by
  unfold dgt digC; simp only [Bool.and_eq_true, decide_eq_true_eq]; repeat' split
  all_goals omega

end Tx
end Go.Proofs.YtbpdhcfmdkmoiaaGreatDoor

namespace Go.Proofs.YtbpdhcfmdkmoiaaGreatDoor
namespace Tx

/-! ### texts: all of the bytes -/
def allC (f : Int → Bool) (l : List UInt8) : Bool := l.all fun c => f (c.toNat : Int)
theorem take_snoc (s : ByteArray) (k : Nat) (h : k < s.size) : s.data.toList.take (k + 1) = s.data.toList.take k ++ [s[k]] := by
  rw [List.take_succ_eq_append_getElem (by simpa using h)]; rfl
theorem allC_snoc (f : Int → Bool) (s : ByteArray) (k : Nat) (h : k < s.size) : allC f (s.data.toList.take (k + 1)) = (allC f (s.data.toList.take k) && f (s[k].toNat : Int)) := by
  rw [take_snoc s k h]; simp [allC]
theorem allC_no (f : Int → Bool) (s : ByteArray) (k : Nat) (h : k < s.size) (hf : f (s[k].toNat : Int) = false) : allC f s.data.toList = false := by
  unfold allC
  rw [List.all_eq_false]
  exact ⟨s[k], by have : s[k] = s.data.toList[k]'(by simpa using h) := rfl
                  rw [this]; exact List.getElem_mem _, by simp [hf]⟩
theorem allC_all (f : Int → Bool) (s : ByteArray) (k : Nat) (h : s.size ≤ k) (ha : allC f (s.data.toList.take k) = true) : allC f s.data.toList = true := by
  rwa [List.take_of_length_le (by simpa using h)] at ha

/-- P1.1 -/
def isTok (l : List UInt8) : Bool := allC tokC l && !l.isEmpty
theorem isTok_no (s : ByteArray) (k : Nat) (h : k < s.size) (hf : tokC (s[k].toNat : Int) = false) : isTok s.data.toList = false := by
  unfold isTok; rw [allC_no tokC s k h hf]; rfl
theorem isTok_all (s : ByteArray) (k : Nat) (h : s.size ≤ k) (ha : allC tokC (s.data.toList.take k) = true) : isTok s.data.toList = !s.data.toList.isEmpty := by
  unfold isTok; rw [allC_all tokC s k h ha]; rfl

/-! ### P1.4 -/
def blkB (c : UInt8) : Bool := blkC (c.toNat : Int)
def trimL (l : List UInt8) : List UInt8 := l.dropWhile blkB
def trimR (l : List UInt8) : List UInt8 := (l.reverse.dropWhile blkB).reverse
def trim (l : List UInt8) : List UInt8 := trimR (trimL l)

theorem dw_skip (a b : List UInt8) (h : ∀ x ∈ a, blkB x = true) : (a ++ b).dropWhile blkB = b.dropWhile blkB := by
  induction a with
  | nil => rfl
  | cons x a ih =>
    rw [List.cons_append, List.dropWhile_cons, h x (List.mem_cons_self ..)]
    exact ih fun y hy => h y (List.mem_cons_of_mem _ hy)
theorem trimL_skip (a b : List UInt8) (h : ∀ x ∈ a, blkB x = true) : trimL (a ++ b) = trimL b := dw_skip a b h
theorem trimR_skip (a b : List UInt8) (h : ∀ x ∈ b, blkB x = true) : trimR (a ++ b) = trimR a := by
  unfold trimR
  rw [List.reverse_append, dw_skip _ _ fun x hx => h x (List.mem_reverse.1 hx)]
theorem dw_stop (l : List UInt8) (h : ∀ x, l.head? = some x → blkB x = false) : l.dropWhile blkB = l := by
  cases l with
  | nil => rfl
  | cons x l => rw [List.dropWhile_cons, h x rfl]; rfl
theorem trimL_stop (l : List UInt8) (h : ∀ x, l.head? = some x → blkB x = false) : trimL l = l := dw_stop l h
theorem trimR_stop (l : List UInt8) (h : ∀ x, l.getLast? = some x → blkB x = false) : trimR l = l := by
  unfold trimR
  rw [dw_stop _ fun x hx => h x (by rwa [List.head?_reverse] at hx), List.reverse_reverse]
theorem dw_suffix (l : List UInt8) : ∃ a, l = a ++ l.dropWhile blkB ∧ ∀ x ∈ a, blkB x = true := by
  induction l with
  | nil => exact ⟨[], rfl, fun x h => by simp at h⟩
  | cons y l ih =>
    rw [List.dropWhile_cons]
    split
    · obtain ⟨a, ha, hb⟩ := ih
      exact ⟨y :: a, by rw [List.cons_append, ← ha], fun x hx => by rcases List.mem_cons.1 hx with rfl | hx; · assumption
                                                                    · exact hb x hx⟩
    · exact ⟨[], rfl, fun x h => by simp at h⟩
/-- A text is blanks, what Trim leaves, and blanks. -/
theorem trim_parts (l : List UInt8) : ∃ a b, l = a ++ trim l ++ b ∧ (∀ x ∈ a, blkB x = true) ∧ (∀ x ∈ b, blkB x = true) := by
  obtain ⟨a, ha, hb⟩ := dw_suffix l
  obtain ⟨c, hc, hd⟩ := dw_suffix (l.dropWhile blkB).reverse
  refine ⟨a, c.reverse, ?_, hb, fun x hx => hd x (List.mem_reverse.1 hx)⟩
  have e : l.dropWhile blkB = trim l ++ c.reverse := by
    have := congrArg List.reverse hc
    rw [List.reverse_reverse, List.reverse_append] at this
    exact this
  rw [List.append_assoc, ← e]; exact ha
theorem trim_le (l : List UInt8) : (trim l).length ≤ l.length := by
  obtain ⟨a, b, h, _, _⟩ := trim_parts l
  have := congrArg List.length h
  simp only [List.length_append] at this; omega
/-- What stands between the first and the last byte that is no blank. -/
theorem trim_of (l : List UInt8) (k m : Nat) (km : k ≤ m) (hml : m ≤ l.length) (hk : ∀ x ∈ l.take k, blkB x = true) (hm : ∀ x ∈ l.drop m, blkB x = true)
    (h1 : ∀ x, k < m → l[k]? = some x → blkB x = false) (h2 : ∀ x, k < m → l[m - 1]? = some x → blkB x = false) : (l.drop k).take (m - k) = trim l := by
  have e1 : trimL l = trimL (l.drop k) := by
    conv => lhs; rw [← List.take_append_drop k l]
    exact trimL_skip _ _ hk
  have e2 : l.drop k = (l.drop k).take (m - k) ++ l.drop m := by
    conv => lhs; rw [← List.take_append_drop (m - k) (l.drop k)]
    rw [List.drop_drop, show k + (m - k) = m by omega]
  unfold trim
  rw [e1]
  by_cases hkm : k = m
  · subst hkm
    rw [show trimL (l.drop k) = [] from by have := trimL_skip (l.drop k) [] hm; rw [List.append_nil] at this; rw [this]; rfl]
    simp [trimR]
  · have e3 : trimL (l.drop k) = l.drop k := trimL_stop _ fun x hx => h1 x (by omega) (by rwa [List.head?_drop] at hx)
    rw [e3]
    conv => rhs; rw [e2, trimR_skip _ _ hm]
    refine (trimR_stop _ fun x hx => h2 x (by omega) ?_).symm
    rw [List.getLast?_eq_getElem?, List.length_take, List.length_drop, List.getElem?_take, List.getElem?_drop] at hx
    rw [show min (m - k) (l.length - k) - 1 = m - k - 1 by omega] at hx
    rw [if_pos (by omega), show k + (m - k - 1) = m - 1 by omega] at hx
    exact hx

theorem get_byte (s : ByteArray) (k : Nat) (h : k < s.size) : s.data.toList[k]? = some s[k] := by
  rw [List.getElem?_eq_getElem (by simpa using h)]; rfl
theorem blk_snoc (s : ByteArray) (k : Nat) (h : k < s.size) (ha : ∀ x ∈ s.data.toList.take k, blkB x = true) (hb : blkC (s[k].toNat : Int) = true) : ∀ x ∈ s.data.toList.take (k + 1), blkB x = true := by
  rw [take_snoc s k h]
  intro x hx
  rcases List.mem_append.1 hx with hx | hx
  · exact ha x hx
  · simp only [List.mem_singleton] at hx; subst hx; exact hb
theorem blk_pre (s : ByteArray) (k : Nat) (h : k < s.size) (ha : ∀ x ∈ s.data.toList.drop (k + 1), blkB x = true) (hb : blkC (s[k].toNat : Int) = true) : ∀ x ∈ s.data.toList.drop k, blkB x = true := by
  rw [List.drop_eq_getElem_cons (by simpa using h)]
  intro x hx
  rcases List.mem_cons.1 hx with hx | hx
  · subst hx; exact hb
  · exact ha x hx
theorem drop_all (s : ByteArray) : ∀ x ∈ s.data.toList.drop s.size, blkB x = true := by
  intro x hx; rw [List.drop_eq_nil_of_le (by rw [← Lib.size_eq]; exact Nat.le_refl _)] at hx; cases hx
theorem trim_cut (s : ByteArray) (k m : Nat) (km : k ≤ m) (hml : m ≤ s.size) (hk : ∀ x ∈ s.data.toList.take k, blkB x = true) (hm : ∀ x ∈ s.data.toList.drop m, blkB x = true)
    (h1 : ∀ x, s.data.toList[k]? = some x → blkB x = false) (h2 : ∀ x, k < m → s.data.toList[m - 1]? = some x → blkB x = false) : s.extract k m = ⟨(trim s.data.toList).toArray⟩ := by
  rw [Lib.extract_eq, trim_of s.data.toList k m km (by rw [← Lib.size_eq]; exact hml) hk hm (fun x _ => h1 x) h2]

/-- P1.2 -/
def isVal (l : List UInt8) : Bool := allC valC l && decide ((trim l).length = l.length)
theorem isVal_no (s : ByteArray) (k : Nat) (h : k < s.size) (hf : valC (s[k].toNat : Int) = false) : isVal s.data.toList = false := by
  unfold isVal; rw [allC_no valC s k h hf]; rfl
theorem isVal_trim (s : ByteArray) (k : Nat) (h : s.size ≤ k) (ha : allC valC (s.data.toList.take k) = true) : isVal s.data.toList = decide ((trim s.data.toList).length = s.size) := by
  unfold isVal; rw [allC_all valC s k h ha, Lib.size_eq]; rfl

/-! ### P1.3 -/
def lowC (c : UInt8) : UInt8 := if 65 ≤ c.toNat ∧ c.toNat ≤ 90 then UInt8.ofNat (c.toNat + 32) else c
def lower (l : List UInt8) : List UInt8 := l.map lowC
theorem lower_length (l : List UInt8) : (lower l).length = l.length := List.length_map ..
theorem lowC_up (c : UInt8) (h : 65 ≤ c.toNat) (h' : c.toNat ≤ 90) : (lowC c).toNat = c.toNat + 32 := by
  unfold lowC; rw [if_pos ⟨h, h'⟩]; simp; omega
theorem lowC_no (c : UInt8) (h : ¬ (65 ≤ c.toNat ∧ c.toNat ≤ 90)) : lowC c = c := by unfold lowC; rw [if_neg h]

end Tx
end Go.Proofs.YtbpdhcfmdkmoiaaGreatDoor

namespace Go.Proofs.YtbpdhcfmdkmoiaaGreatDoor

/-- A field. -/
structure Fd where
  n : ByteArray
  v : ByteArray
namespace Ms
abbrev T8 := List UInt8
def conns : List T8 := [[99, 111, 110, 110, 101, 99, 116, 105, 111, 110], [107, 101, 101, 112, 45, 97, 108, 105, 118, 101], [112, 114, 111, 120, 121, 45, 99, 111, 110, 110, 101, 99, 116, 105, 111, 110], [116, 114, 97, 110, 115, 102, 101, 114, 45, 101, 110, 99, 111, 100, 105, 110, 103], [117, 112, 103, 114, 97, 100, 101]]
def noTr : List T8 := [[104, 111, 115, 116], [116, 101], [116, 114, 97, 105, 108, 101, 114], [99, 111, 110, 116, 101, 110, 116, 45, 108, 101, 110, 103, 116, 104], [99, 111, 110, 116, 101, 110, 116, 45, 116, 121, 112, 101], [99, 111, 110, 116, 101, 110, 116, 45, 101, 110, 99, 111, 100, 105, 110, 103], [99, 111, 110, 116, 101, 110, 116, 45, 114, 97, 110, 103, 101], [97, 117, 116, 104, 111, 114, 105, 122, 97, 116, 105, 111, 110], [101, 120, 112, 101, 99, 116], [99, 111, 111, 107, 105, 101], [115, 101, 116, 45, 99, 111, 111, 107, 105, 101]]
def sHost : T8 := [104, 111, 115, 116]
def sTe : T8 := [116, 101]
def sHttp : T8 := [104, 116, 116, 112]
def sHttps : T8 := [104, 116, 116, 112, 115]
def sOptions : T8 := [79, 80, 84, 73, 79, 78, 83]
def sLen : T8 := [99, 111, 110, 116, 101, 110, 116, 45, 108, 101, 110, 103, 116, 104]
def sConn : T8 := [99, 111, 110, 110, 101, 99, 116, 105, 111, 110]
def sCont : T8 := [49, 48, 48, 45, 99, 111, 110, 116, 105, 110, 117, 101]
def tx (b : ByteArray) : T8 := b.data.toList
def lo (b : ByteArray) : T8 := Tx.lower b.data.toList
/-- One of a connection's own. -/
def bnd (b : ByteArray) : Bool := conns.contains (lo b)
def wt (f : Fd) : Nat := 32 + f.n.size + f.v.size
def size (l : List Fd) : Nat := (l.map wt).sum
def strip (l : List Fd) : List Fd := l.filter fun f => !bnd f.n
def psd (b : ByteArray) : Bool := (tx b).head? == some 58
def plain (f : Fd) : Bool := Tx.isTok (tx f.n) && (lo f.n == tx f.n) && Tx.isVal (tx f.v) && !bnd f.n
def okc (c : UInt8) : Bool := decide (33 ≤ c.toNat) && decide (c.toNat ≤ 126) && !(c == 35)
/-- Whether a path may be a target's. -/
def goes (m p : ByteArray) : Bool := if tx p == [42] then tx m == sOptions else (tx p).head? == some 47 && (tx p).all okc
def dec (b : ByteArray) : Bool := !(tx b == []) && decide (b.size ≤ 15) && !(((tx b).head? == some 48) && decide (1 < b.size)) && (tx b).all fun c => decide (48 ≤ c.toNat) && decide (c.toNat ≤ 57)
theorem size_app (l m : List Fd) : size (l ++ m) = size l + size m := by simp [size]
theorem strip_take {l : List Fd} {i : Nat} {f : Fd} (h : l[i]? = some f) : strip (l.take (i + 1)) = strip (l.take i) ++ (if bnd f.n then [] else [f]) := by
  rw [List.take_add_one, h]
  simp only [strip, List.filter_append, Option.toList_some, List.filter_cons, List.filter_nil]
  cases bnd f.n <;> rfl
end Ms

end Go.Proofs.YtbpdhcfmdkmoiaaGreatDoor

namespace Go.Proofs.YtbpdhcfmdkmoiaaGreatDoor
namespace Tx

/-- The greatest number. -/
def top : Int := 9223372036854775807
theorem top_eq : top = 9223372036854775807 := rfl
/-- The number that digits of base b write. -/
def numv (b : Int) (l : List UInt8) : Int := l.foldl (fun n c => n * b + dgt (c.toNat : Int)) 0
def digs (b : Int) (l : List UInt8) : Bool := allC (fun c => decide (dgt c < b)) l
theorem numv_snoc (b : Int) (l : List UInt8) (c : UInt8) : numv b (l ++ [c]) = numv b l * b + dgt (c.toNat : Int) := by
  unfold numv; rw [List.foldl_append]; rfl
theorem numv_nonneg (b : Int) (hb : 0 ≤ b) (l : List UInt8) : 0 ≤ numv b l := by
  unfold numv
  suffices h : ∀ n : Int, 0 ≤ n → 0 ≤ l.foldl (fun n c => n * b + dgt (c.toNat : Int)) n from h 0 (Int.le_refl _)
  induction l with
  | nil => intro n hn; exact hn
  | cons c l ih => intro n hn; exact ih _ (Int.add_nonneg (Int.mul_nonneg hn hb) (dgt_bd _).1)

/-- P1.5: the number and the error's number. -/
def num (b : Int) (l : List UInt8) : Int × Int := if l.isEmpty || !digs b l then (0, 10) else if top < numv b l then (0, 5) else (numv b l, 0)

/-- What the loop of read keeps. -/
structure NumRel (b : Int) (l : List UInt8) (n : Int) (o : Bool) : Prop where
  digs : digs b l = true
  lo : 0 ≤ n
  hi : n ≤ top
  no : o = false → n = numv b l
  yes : o = true → top < numv b l
theorem NumRel.start (b : Int) : NumRel b [] 0 false := ⟨rfl, Int.le_refl _, by decide, fun _ => rfl, fun h => (by cases h)⟩
theorem digs_snoc (b : Int) (l : List UInt8) (c : UInt8) (h : digs b l = true) (hc : dgt (c.toNat : Int) < b) : digs b (l ++ [c]) = true := by
  unfold digs allC at *; rw [List.all_append, h]; simp [hc]
theorem NumRel.over {b : Int} {l : List UInt8} {n : Int} (h : NumRel b l n true) (hb : 1 ≤ b) (c : UInt8) (hc : dgt (c.toNat : Int) < b) : NumRel b (l ++ [c]) n true :=
  have hy : top < numv b (l ++ [c]) := by
    rw [numv_snoc]
    have h1 := h.yes rfl
    have h2 := (dgt_bd (c.toNat : Int)).1
    have h3 := numv_nonneg b (by omega) l
    have h4 : numv b l * 1 ≤ numv b l * b := Int.mul_le_mul_of_nonneg_left hb h3
    omega
  ⟨digs_snoc b l c h.digs hc, h.lo, h.hi, fun e => (by cases e), fun _ => hy⟩
theorem NumRel.goes {b : Int} {l : List UInt8} {n : Int} (h : NumRel b l n false) (c : UInt8) (hc : dgt (c.toNat : Int) < b) (hn : top < n * b + dgt (c.toNat : Int)) : NumRel b (l ++ [c]) n true :=
  ⟨digs_snoc b l c h.digs hc, h.lo, h.hi, fun e => (by cases e), fun _ => by rw [numv_snoc, ← h.no rfl]; exact hn⟩
theorem NumRel.step {b : Int} {l : List UInt8} {n : Int} (h : NumRel b l n false) (hb : 0 ≤ b) (c : UInt8) (hc : dgt (c.toNat : Int) < b) (hn : n * b + dgt (c.toNat : Int) ≤ top) : NumRel b (l ++ [c]) (n * b + dgt (c.toNat : Int)) false :=
  ⟨digs_snoc b l c h.digs hc, Int.add_nonneg (Int.mul_nonneg h.lo hb) (dgt_bd _).1, hn, fun _ => by rw [numv_snoc, ← h.no rfl], fun e => (by cases e)⟩
theorem num_bad (b : Int) (s : ByteArray) (k : Nat) (h : k < s.size) (hc : ¬ dgt (s[k].toNat : Int) < b) : num b s.data.toList = (0, 10) := by
  unfold num digs
  rw [allC_no _ s k h (by simpa using hc)]; simp
theorem num_empty (b : Int) (l : List UInt8) (h : l.isEmpty = true) : num b l = (0, 10) := by unfold num; rw [h]; simp
theorem num_over (b : Int) (s : ByteArray) (k : Nat) (h : s.size ≤ k) (he : s.data.toList.isEmpty = false) (n : Int) (hr : NumRel b (s.data.toList.take k) n true) : num b s.data.toList = (0, 5) := by
  rw [List.take_of_length_le (by rw [← Lib.size_eq]; exact h)] at hr
  unfold num
  rw [he, hr.digs, if_neg (by decide), if_pos (hr.yes rfl)]
theorem num_ok (b : Int) (s : ByteArray) (k : Nat) (h : s.size ≤ k) (he : s.data.toList.isEmpty = false) (n : Int) (hr : NumRel b (s.data.toList.take k) n false) : num b s.data.toList = (n, 0) := by
  rw [List.take_of_length_le (by rw [← Lib.size_eq]; exact h)] at hr
  have e := hr.no rfl
  have hi := hr.hi
  subst e
  unfold num
  rw [he, hr.digs, if_neg (by decide), if_neg (by omega)]

end Tx
end Go.Proofs.YtbpdhcfmdkmoiaaGreatDoor

namespace Go.Proofs.YtbpdhcfmdkmoiaaGreatDoor
namespace Ms
/-- The value that the length's fields say, ahead of it the one that was said; none: they are refused. -/
def lenGo : Option ByteArray → List Fd → Option (Option ByteArray)
  | cur, [] => some cur
  | cur, f :: r => if lo f.n == sLen then (if dec f.v && (match cur with | some v => f.v.toList == v.toList | none => true) then lenGo (some f.v) r else none) else lenGo cur r
def lenV : Option (Option ByteArray) → Value
  | none => .tuple #[.int .i64 0, .bool false, .int .i64 142]
  | some none => .tuple #[.int .i64 0, .bool false, .int .i64 0]
  | some (some v) => .tuple #[.int .i64 (Tx.num 10 v.data.toList).1, .bool true, .int .i64 0]
theorem len_drop {l : List Fd} {i : Nat} {f : Fd} (h : l[i]? = some f) (cur : Option ByteArray) : lenGo cur (l.drop i) = if lo f.n == sLen then (if dec f.v && (match cur with | some v => f.v.toList == v.toList | none => true) then lenGo (some f.v) (l.drop (i + 1)) else none) else lenGo cur (l.drop (i + 1)) := by
  obtain ⟨h1, h2⟩ := List.getElem?_eq_some_iff.1 h
  rw [List.drop_eq_getElem_cons h1, h2]
  cases cur <;> rfl
def opt (has : Bool) (v : ByteArray) : Option ByteArray := if has then some v else none
/-- What is wrong with trailers. -/
def trail : List Fd → Int
  | [] => 0
  | f :: r => if psd f.n then 140 else if !plain f || noTr.contains f.n.toList then 143 else trail r
theorem trail_drop {l : List Fd} {i : Nat} {f : Fd} (h : l[i]? = some f) : trail (l.drop i) = if psd f.n then 140 else if !plain f || noTr.contains f.n.toList then 143 else trail (l.drop (i + 1)) := by
  obtain ⟨h1, h2⟩ := List.getElem?_eq_some_iff.1 h
  rw [List.drop_eq_getElem_cons h1, h2, trail]
def beg (x h : ByteArray) : Bool := decide (h.size ≤ x.size) && ((x.extract 0 h.size).toList == h.toList)
def bHttp : ByteArray := ⟨#[104, 116, 116, 112]⟩
def bHttps : ByteArray := ⟨#[104, 116, 116, 112, 115]⟩
def bHttp3 : ByteArray := ⟨#[104, 116, 116, 112, 58, 47, 47]⟩
def bHttps3 : ByteArray := ⟨#[104, 116, 116, 112, 115, 58, 47, 47]⟩
def goOn (c : UInt8) : Bool := !(c == 47) && !(c == 63)
/-- Where an authority ends. -/
def stop (L : List UInt8) : Nat := (L.takeWhile goOn).length
theorem stop_le (L : List UInt8) : stop L ≤ L.length := (List.takeWhile_sublist _).length_le
theorem stop_lt {L : List UInt8} {i : Nat} {c : UInt8} (hi : i < stop L) (hc : L[i]? = some c) : goOn c = true := by
  induction L generalizing i with
  | nil => simp at hc
  | cons a r ih =>
    unfold stop at hi
    rw [List.takeWhile_cons] at hi
    split at hi
    · rename_i ha
      cases i with
      | zero => simp at hc; subst hc; exact ha
      | succ i => exact ih (i := i) (by simp at hi; exact hi) (by simpa using hc)
    · simp at hi
theorem stop_at {L : List UInt8} {c : UInt8} (hc : L[stop L]? = some c) : goOn c = false := by
  induction L with
  | nil => simp at hc
  | cons a r ih =>
    unfold stop at hc
    rw [List.takeWhile_cons] at hc
    split at hc
    · exact ih (by simpa [stop] using hc)
    · rename_i ha
      simp at hc
      subst hc
      simpa using ha
def head47 (p : ByteArray) : ByteArray := if decide (0 < p.size) && ((tx p).head? == some 47) then p else ⟨#[47]⟩ ++ p
end Ms
end Go.Proofs.YtbpdhcfmdkmoiaaGreatDoor

namespace Go.Proofs.YtbpdhcfmdkmoiaaGreatDoor
namespace Tx

/-! ### what a numeral reads as -/
theorem dgt_of (k : Nat) (h : k < 10) : dgt (((UInt8.ofNat (48 + k)).toNat : Nat) : Int) = k := by
  have e : (UInt8.ofNat (48 + k)).toNat = 48 + k := by simp; omega
  rw [e]; unfold dgt digC
  rw [if_pos (by simp; omega)]; omega
theorem digs_append (b : Int) (l r : List UInt8) : digs b (l ++ r) = (digs b l && digs b r) := by unfold digs allC; rw [List.all_append]
theorem decDigits_reads : ∀ (m u : Nat), u ≤ m → digs 10 (Lib.decDigits u) = true ∧ numv 10 (Lib.decDigits u) = u ∧ (Lib.decDigits u).isEmpty = false := by
  intro m
  induction m with
  | zero =>
    intro u hu
    obtain rfl : u = 0 := by omega
    rw [Lib.decDigits_one (by omega)]
    decide
  | succ m ih =>
    intro u hu
    by_cases hs : u < 10
    · rw [Lib.decDigits_one hs]
      have := dgt_of u hs
      refine ⟨?_, ?_, rfl⟩
      · unfold digs allC; simp only [List.all_cons, List.all_nil, Bool.and_true, this]; simp; omega
      · unfold numv; simp only [List.foldl_cons, List.foldl_nil, this]; omega
    · obtain ⟨h1, h2, _⟩ := ih (u / 10) (by omega)
      have hd := dgt_of (u % 10) (by omega)
      rw [Lib.decDigits, dif_neg hs]
      refine ⟨?_, ?_, by simp⟩
      · rw [digs_append, h1]; unfold digs allC; simp only [List.all_cons, List.all_nil, Bool.and_true, Bool.true_and, hd]; simp; omega
      · rw [numv_snoc, h2, hd]; omega

end Tx
end Go.Proofs.YtbpdhcfmdkmoiaaGreatDoor
