/-
  Messages on lists: what is of no program.
  Messages on lists: walks, lengths, trailers, targets. What is of no program.
  Messages on lists: lengths as decimals. What is of no program.
  Messages on lists: which request a header list is, and which a request line and fields are. What is of no program.
-/
import Derived.Test.YtkfekopenahmdaaDoorLists
import Derived.Test.YtkfekopenahmdaaDoorPureNum
import Derived.WalkKit
import Derived.Test.YtkfekopenahmdaaDoorPureDec
namespace Go.Proofs.YtkfekopenahmdaaDoor

/-- A field. -/
structure Fd where
  n : ByteArray
  v : ByteArray
namespace Ms
abbrev T8 := List UInt8
def conns : List T8 := [[99, 111, 110, 110, 101, 99, 116, 105, 111, 110], [107, 101, 101, 112, 45, 97, 108, 105, 118, 101], [112, 114, 111, 120, 121, 45, 99, 111, 110, 110, 101, 99, 116, 105, 111, 110], [116, 114, 97, 110, 115, 102, 101, 114, 45, 101, 110, 99, 111, 100, 105, 110, 103], [117, 112, 103, 114, 97, 100, 101]]
def pss : List T8 := [[58, 109, 101, 116, 104, 111, 100], [58, 115, 99, 104, 101, 109, 101], [58, 112, 97, 116, 104], [58, 97, 117, 116, 104, 111, 114, 105, 116, 121]]
def noTr : List T8 := [[104, 111, 115, 116], [116, 101], [116, 114, 97, 105, 108, 101, 114], [99, 111, 110, 116, 101, 110, 116, 45, 108, 101, 110, 103, 116, 104], [99, 111, 110, 116, 101, 110, 116, 45, 116, 121, 112, 101], [99, 111, 110, 116, 101, 110, 116, 45, 101, 110, 99, 111, 100, 105, 110, 103], [99, 111, 110, 116, 101, 110, 116, 45, 114, 97, 110, 103, 101], [97, 117, 116, 104, 111, 114, 105, 122, 97, 116, 105, 111, 110], [101, 120, 112, 101, 99, 116], [99, 111, 111, 107, 105, 101], [115, 101, 116, 45, 99, 111, 111, 107, 105, 101]]
def sHost : T8 := [104, 111, 115, 116]
def sTe : T8 := [116, 101]
def sTrailers : T8 := [116, 114, 97, 105, 108, 101, 114, 115]
def sMethod : T8 := [58, 109, 101, 116, 104, 111, 100]
def sScheme : T8 := [58, 115, 99, 104, 101, 109, 101]
def sPath : T8 := [58, 112, 97, 116, 104]
def sAuth : T8 := [58, 97, 117, 116, 104, 111, 114, 105, 116, 121]
def sHttp : T8 := [104, 116, 116, 112]
def sHttps : T8 := [104, 116, 116, 112, 115]
def sOptions : T8 := [79, 80, 84, 73, 79, 78, 83]
def sLen : T8 := [99, 111, 110, 116, 101, 110, 116, 45, 108, 101, 110, 103, 116, 104]
def sConn : T8 := [99, 111, 110, 110, 101, 99, 116, 105, 111, 110]
def sExpect : T8 := [101, 120, 112, 101, 99, 116]
def sCont : T8 := [49, 48, 48, 45, 99, 111, 110, 116, 105, 110, 117, 101]
def sStatus : T8 := [58, 115, 116, 97, 116, 117, 115]
def tx (b : ByteArray) : T8 := b.data.toList
def lo (b : ByteArray) : T8 := Tx.lower b.data.toList
/-- One of a connection's own. -/
def bnd (b : ByteArray) : Bool := conns.contains (lo b)
def wt (f : Fd) : Nat := 32 + f.n.size + f.v.size
def size (l : List Fd) : Nat := (l.map wt).sum
def strip (l : List Fd) : List Fd := l.filter fun f => !bnd f.n
def psd (b : ByteArray) : Bool := (tx b).head? == some 58
def plain (f : Fd) : Bool := Tx.isTok (tx f.n) && (lo f.n == tx f.n) && Tx.isVal (tx f.v) && !bnd f.n
/-- The value of the first field of a name. -/
def fnd (x : T8) : List Fd → Option ByteArray
  | [] => none
  | f :: r => if tx f.n == x then some f.v else fnd x r
def okc (c : UInt8) : Bool := decide (33 ≤ c.toNat) && decide (c.toNat ≤ 126) && !(c == 35)
/-- Whether a path may be a target's. -/
def goes (m p : ByteArray) : Bool := if tx p == [42] then tx m == sOptions else (tx p).head? == some 47 && (tx p).all okc
/-- What is wrong with a field of a header list, what stands ahead of it, and whether one that is no pseudo-field does. -/
def wrong (ahead : List Fd) (behind : Bool) (f : Fd) : Int :=
  if psd f.n then (if behind || (fnd (tx f.n) ahead).isSome || !pss.contains (tx f.n) then 140 else 0)
  else if !plain f || (tx f.n == sTe && !(tx f.v == sTrailers)) || (tx f.n == sHost && (fnd (tx f.n) ahead).isSome) then 141 else 0
def dec (b : ByteArray) : Bool := !(tx b == []) && decide (b.size ≤ 15) && !(((tx b).head? == some 48) && decide (1 < b.size)) && (tx b).all fun c => decide (48 ≤ c.toNat) && decide (c.toNat ≤ 57)
theorem size_app (l m : List Fd) : size (l ++ m) = size l + size m := by simp [size]
theorem size_take {l : List Fd} {i : Nat} {f : Fd} (h : l[i]? = some f) : size (l.take (i + 1)) = size (l.take i) + wt f := by
  rw [List.take_add_one, h, size_app]
  simp [size]
theorem strip_take {l : List Fd} {i : Nat} {f : Fd} (h : l[i]? = some f) : strip (l.take (i + 1)) = strip (l.take i) ++ (if bnd f.n then [] else [f]) := by
  rw [List.take_add_one, h]
  simp only [strip, List.filter_append, Option.toList_some, List.filter_cons, List.filter_nil]
  cases bnd f.n <;> rfl
end Ms

end Go.Proofs.YtkfekopenahmdaaDoor

namespace Go.Proofs.YtkfekopenahmdaaDoor
namespace Ms
/-- The value that the length's fields say, ahead of it the one that was said; none: they are refused. -/
def lenGo : Option ByteArray → List Fd → Option (Option ByteArray)
  | cur, [] => some cur
  | cur, f :: r => if lo f.n == sLen then (if dec f.v && (match cur with | some v => f.v.toList == v.toList | none => true) then lenGo (some f.v) r else none) else lenGo cur r
def lenV : Option (Option ByteArray) → Value
  | none => .tuple #[.int .i64 0, .bool false, .int .i64 142]
  | some none => .tuple #[.int .i64 0, .bool false, .int .i64 0]
  | some (some v) => .tuple #[.int .i64 (Tx.num 10 v.data.toList).1, .bool true, .int .i64 0]
theorem len_drop {l : List Fd} {i : Nat} {f : Fd} (h : l[i]? = some f) (cur : Option ByteArray) : lenGo cur (l.drop i) = if lo f.n == sLen then (if dec f.v && (match cur with | some v => f.v.toList == v.toList | none => true) then lenGo (some f.v) (l.drop (i + 1)) else none) else lenGo cur (l.drop (i + 1)) := by
  obtain ⟨h1, h2⟩ := List.getElem?_eq_some_iff.1 h
  rw [List.drop_eq_getElem_cons h1, h2]
  cases cur <;> rfl
def opt (has : Bool) (v : ByteArray) : Option ByteArray := if has then some v else none
def bad1 (ahead : List Fd) (bh : Bool) (f : Fd) : Bool := bh || (fnd f.n.toList ahead).isSome || !pss.contains f.n.toList
def bad2 (ahead : List Fd) (f : Fd) : Bool := !plain f || (f.n.toList == [116, 101] && !(f.v.toList == [116, 114, 97, 105, 108, 101, 114, 115])) || (f.n.toList == [104, 111, 115, 116] && (fnd f.n.toList ahead).isSome)
/-- What is wrong with a header list from here on. -/
def walk (ahead : List Fd) (bh : Bool) : List Fd → Int
  | [] => 0
  | f :: r => if psd f.n then (if bad1 ahead bh f then 140 else walk (ahead ++ [f]) bh r) else if bad2 ahead f then 141 else walk (ahead ++ [f]) true r
theorem walk_drop {l : List Fd} {i : Nat} {f : Fd} (h : l[i]? = some f) (bh : Bool) : walk (l.take i) bh (l.drop i) = if psd f.n then (if bad1 (l.take i) bh f then 140 else walk (l.take (i + 1)) bh (l.drop (i + 1))) else if bad2 (l.take i) f then 141 else walk (l.take (i + 1)) true (l.drop (i + 1)) := by
  obtain ⟨h1, h2⟩ := List.getElem?_eq_some_iff.1 h
  rw [List.drop_eq_getElem_cons h1, h2, walk, List.take_add_one, h]
  rfl
/-- What is wrong with trailers. -/
def trail : List Fd → Int
  | [] => 0
  | f :: r => if psd f.n then 140 else if !plain f || noTr.contains f.n.toList then 143 else trail r
theorem trail_drop {l : List Fd} {i : Nat} {f : Fd} (h : l[i]? = some f) : trail (l.drop i) = if psd f.n then 140 else if !plain f || noTr.contains f.n.toList then 143 else trail (l.drop (i + 1)) := by
  obtain ⟨h1, h2⟩ := List.getElem?_eq_some_iff.1 h
  rw [List.drop_eq_getElem_cons h1, h2, trail]
def beg (x h : ByteArray) : Bool := decide (h.size ≤ x.size) && ((x.extract 0 h.size).toList == h.toList)
def bHttp : ByteArray := ⟨#[104, 116, 116, 112]⟩
def bHttps : ByteArray := ⟨#[104, 116, 116, 112, 115]⟩
def bHttp3 : ByteArray := ⟨#[104, 116, 116, 112, 58, 47, 47]⟩
def bHttps3 : ByteArray := ⟨#[104, 116, 116, 112, 115, 58, 47, 47]⟩
def goOn (c : UInt8) : Bool := !(c == 47) && !(c == 63)
/-- Where an authority ends. -/
def stop (L : List UInt8) : Nat := (L.takeWhile goOn).length
theorem stop_le (L : List UInt8) : stop L ≤ L.length := (List.takeWhile_sublist _).length_le
theorem stop_lt {L : List UInt8} {i : Nat} {c : UInt8} (hi : i < stop L) (hc : L[i]? = some c) : goOn c = true := by
  induction L generalizing i with
  | nil => simp at hc
  | cons a r ih =>
    unfold stop at hi
    rw [List.takeWhile_cons] at hi
    split at hi
    · rename_i ha
      cases i with
      | zero => simp at hc; subst hc; exact ha
      | succ i => exact ih (i := i) (by simp at hi; exact hi) (by simpa using hc)
    · simp at hi
theorem stop_at {L : List UInt8} {c : UInt8} (hc : L[stop L]? = some c) : goOn c = false := by
  induction L with
  | nil => simp at hc
  | cons a r ih =>
    unfold stop at hc
    rw [List.takeWhile_cons] at hc
    split at hc
    · exact ih (by simpa [stop] using hc)
    · rename_i ha
      simp at hc
      subst hc
      simpa using ha
def head47 (p : ByteArray) : ByteArray := if decide (0 < p.size) && ((tx p).head? == some 47) then p else ⟨#[47]⟩ ++ p
end Ms
end Go.Proofs.YtkfekopenahmdaaDoor

namespace Go.Proofs.YtkfekopenahmdaaDoor
namespace Ms
open Tx

def dg (c : UInt8) : Bool := decide (48 ≤ c.toNat) && decide (c.toNat ≤ 57)
theorem dg_dgt (c : UInt8) : decide (dgt (c.toNat : Int) < 10) = dg c := by
  unfold dgt digC dg
  by_cases h1 : 48 ≤ c.toNat ∧ c.toNat ≤ 57
  · rw [if_pos (by simp; omega)]
    rw [decide_eq_true (by omega), decide_eq_true h1.1, decide_eq_true h1.2]; rfl
  · rw [if_neg (by simp; omega)]
    have : (decide (48 ≤ c.toNat) && decide (c.toNat ≤ 57)) = false := by simp; omega
    rw [this]
    apply decide_eq_false
    split
    · rename_i h; simp at h; omega
    · split
      · rename_i h; simp at h; omega
      · omega
theorem digs_dg (L : List UInt8) : digs 10 L = L.all dg := by
  unfold digs allC
  congr 1
  funext c
  exact dg_dgt c
theorem dgt_dg {c : UInt8} (h : dg c = true) : dgt (c.toNat : Int) = ((c.toNat - 48 : Nat) : Int) := by
  unfold dg at h
  simp at h
  unfold dgt digC
  rw [if_pos (by simp; omega)]
  omega
theorem of_dg {c : UInt8} (h : dg c = true) : UInt8.ofNat (48 + (c.toNat - 48)) = c := by
  unfold dg at h
  simp at h
  apply UInt8.toNat_inj.1
  rw [UInt8.toNat_ofNat', Nat.mod_eq_of_lt] <;> omega
theorem snoc_of {L : List UInt8} {n : Nat} (h : L.length = n + 1) : ∃ r c, L = r ++ [c] ∧ r.length = n := by
  have hne : L ≠ [] := by intro e; rw [e] at h; simp at h
  exact ⟨L.dropLast, L.getLast hne, (List.dropLast_concat_getLast hne).symm, by rw [List.length_dropLast]; omega⟩
/-- A decimal without noughts ahead is written as it is read. -/
theorem dec_back : ∀ (n : Nat) (L : List UInt8), L.length = n + 1 → L.all dg = true → (L.head? = some 48 → n = 0) → ∃ u : Nat, numv 10 L = (u : Int) ∧ Lib.decDigits u = L ∧ (L.head? ≠ some 48 → 1 ≤ u) ∧ u < 10 ^ (n + 1)
  | 0, L, hl, ha, _ => by
    obtain ⟨c, rfl⟩ := List.length_eq_one_iff.1 hl
    have hc : dg c = true := by simpa using ha
    refine ⟨c.toNat - 48, ?_, ?_, ?_, ?_⟩
    · unfold numv
      simp only [List.foldl_cons, List.foldl_nil]
      rw [dgt_dg hc]; omega
    · rw [Lib.decDigits_one (by unfold dg at hc; simp at hc; omega), of_dg hc]
    · intro hh
      unfold dg at hc
      simp at hc hh
      have : c.toNat ≠ 48 := fun e => hh (UInt8.toNat_inj.1 e)
      omega
    · unfold dg at hc; simp at hc; omega
  | n + 1, L, hl, ha, hh => by
    obtain ⟨r, c, rfl, hr⟩ := snoc_of hl
    rw [List.all_append, Bool.and_eq_true] at ha
    have hc : dg c = true := by simpa using ha.2
    have hhd : (r ++ [c]).head? = r.head? := by
      cases r with
      | nil => simp at hr
      | cons a b => rfl
    have h48 : r.head? ≠ some 48 := fun e => by have := hh (hhd.trans e); omega
    obtain ⟨u, hu, hd, h1, hb⟩ := dec_back n r hr ha.1 (fun e => absurd e h48)
    have hu1 := h1 h48
    have hc9 : c.toNat - 48 < 10 := by unfold dg at hc; simp at hc; omega
    refine ⟨u * 10 + (c.toNat - 48), ?_, ?_, fun _ => by omega, by rw [Nat.pow_succ]; omega⟩
    · rw [numv_snoc, hu, dgt_dg hc]; omega
    · rw [Lib.decDigits, dif_neg (by omega), show (u * 10 + (c.toNat - 48)) / 10 = u by omega, show (u * 10 + (c.toNat - 48)) % 10 = c.toNat - 48 by omega, hd, of_dg hc]
theorem dd_head : ∀ (m u : Nat), u ≤ m → 1 ≤ u → (Lib.decDigits u).head? ≠ some 48
  | 0, u, h, h1 => by omega
  | m + 1, u, h, h1 => by
    by_cases hs : u < 10
    · rw [Lib.decDigits_one hs]
      intro e
      simp only [List.head?_cons, Option.some.injEq] at e
      have := congrArg UInt8.toNat e
      rw [UInt8.toNat_ofNat', Nat.mod_eq_of_lt (by omega)] at this
      have h48 : (48 : UInt8).toNat = 48 := rfl
      omega
    · have ih := dd_head m (u / 10) (by omega) (by omega)
      rw [Lib.decDigits, dif_neg hs]
      have hne := (decDigits_reads (u / 10) (u / 10) (Nat.le_refl _)).2.2
      intro e
      apply ih
      cases hq : Lib.decDigits (u / 10) with
      | nil => rw [hq] at hne; simp at hne
      | cons a b => rw [hq] at e; exact e
theorem dec_eq (b : ByteArray) : dec b = (!(tx b == []) && decide (b.size ≤ 15) && !(((tx b).head? == some 48) && decide (1 < b.size)) && (tx b).all dg) := rfl
theorem tx_len (b : ByteArray) : (tx b).length = b.size := by rw [tx, ← Lib.size_eq]
/-- What a text that is a decimal reads as, and that it is written so. -/
theorem dec_num {b : ByteArray} (h : dec b = true) : ∃ u : Nat, num 10 (tx b) = ((u : Int), 0) ∧ Lib.decDigits u = tx b ∧ u < 1000000000000000 := by
  rw [dec_eq] at h
  simp only [Bool.and_eq_true, Bool.not_eq_true', decide_eq_true_eq] at h
  obtain ⟨⟨⟨h1, h2⟩, h3⟩, h4⟩ := h
  have hl := tx_len b
  have h0 : tx b ≠ [] := by intro e; rw [e] at h1; simp at h1
  have hp : 0 < (tx b).length := List.length_pos_iff.2 h0
  obtain ⟨n, hn⟩ : ∃ n, (tx b).length = n + 1 := ⟨(tx b).length - 1, by omega⟩
  obtain ⟨u, hu, hd, _, hb⟩ := dec_back n (tx b) hn h4 (fun e => by
    rw [e] at h3
    simp at h3
    omega)
  have hlt : u < 1000000000000000 := Nat.lt_of_lt_of_le hb (Nat.le_trans (Nat.pow_le_pow_right (by omega) (show n + 1 ≤ 15 by omega)) (by decide))
  refine ⟨u, ?_, hd, hlt⟩
  unfold num
  rw [if_neg (by rw [digs_dg, h4]; simp [h0]), if_neg (by rw [top_eq, hu]; omega), hu]
theorem dec_of {b : ByteArray} (h2 : (num 10 (tx b)).2 = 0) (hs : b.size ≤ 15) (hi : Lib.itoa (num 10 (tx b)).1 = tx b) : dec b = true := by
  have hq : (tx b).isEmpty = false ∧ digs 10 (tx b) = true ∧ num 10 (tx b) = (numv 10 (tx b), 0) := by
    unfold num at h2 ⊢
    split at h2
    · simp at h2
    · rename_i hx
      rw [if_neg hx]
      simp only [Bool.or_eq_true, Bool.not_eq_true', not_or, Bool.not_eq_true, Bool.not_eq_false] at hx
      split at h2
      · simp at h2
      · rename_i hy
        rw [if_neg hy]
        exact ⟨hx.1, hx.2, rfl⟩
  obtain ⟨q1, q2, q3⟩ := hq
  rw [q3] at hi
  obtain ⟨u, hu⟩ := Int.eq_ofNat_of_zero_le (numv_nonneg 10 (by decide) (tx b))
  simp only [hu, Lib.itoa_nonneg] at hi
  rw [dec_eq]
  have hl := tx_len b
  have a1 : (tx b == []) = false := by cases hq : tx b with | nil => rw [hq] at q1; simp at q1 | cons a r => rfl
  have a3 : (((tx b).head? == some 48) && decide (1 < b.size)) = false := by
    by_cases hz : 1 ≤ u
    · have := dd_head u u (Nat.le_refl _) hz
      rw [hi] at this
      rw [show ((tx b).head? == some 48) = false from beq_false_of_ne this]
      rfl
    · have hz0 : u = 0 := by omega
      subst hz0
      rw [Lib.decDigits_one (by omega)] at hi
      rw [← hl, ← hi]
      rfl
  rw [a1, a3, decide_eq_true hs, ← digs_dg, q2]
  rfl
theorem dec_inj {x y : ByteArray} (hx : dec x = true) (hy : dec y = true) (h : (num 10 (tx x)).1 = (num 10 (tx y)).1) : tx x = tx y := by
  obtain ⟨u, hu, hd, _⟩ := dec_num hx
  obtain ⟨v, hv, he, _⟩ := dec_num hy
  rw [hu, hv] at h
  simp only at h
  rw [← hd, ← he]
  congr 1
  omega

end Ms
end Go.Proofs.YtkfekopenahmdaaDoor

namespace Go.Proofs.YtkfekopenahmdaaDoor
namespace Ms

def e0 : ByteArray := ⟨#[]⟩
/-- A request's parts. -/
structure Rq where
  m : ByteArray
  s : ByteArray
  a : ByteArray
  p : ByteArray
  fs : List Fd
def rq0 : Rq := ⟨e0, e0, e0, e0, []⟩
def keepB (f : Fd) : Bool := !psd f.n && !(f.n.toList == [104, 111, 115, 116]) && !(f.n.toList == [116, 101])
def keep (l : List Fd) : List Fd := l.filter keepB
def gd (x : T8) (l : List Fd) : ByteArray := (fnd x l).getD e0
def auth (l : List Fd) : ByteArray := if (fnd sAuth l).isSome then gd sAuth l else gd sHost l
def lines (m s p : ByteArray) : Bool := Tx.isTok (tx m) && (s.toList == sHttp || s.toList == sHttps) && goes m p
def clash (l : List Fd) : Bool := (fnd sAuth l).isSome && (fnd sHost l).isSome && !((gd sAuth l).toList == (gd sHost l).toList)
/-- Why a header list is no request; nought: it is one. -/
def twoE (l : List Fd) : Int :=
  if walk [] false l == 0 then
    (if lines (gd sMethod l) (gd sScheme l) (gd sPath l) then (if clash l then 141 else if (lenGo none l).isNone then 142 else 0) else 140)
  else walk [] false l
def twoR (l : List Fd) : Rq := if twoE l == 0 then ⟨gd sMethod l, gd sScheme l, auth l, gd sPath l, keep l⟩ else rq0

theorem tl_tx (b : ByteArray) : b.toList = tx b := by rw [tx, Lib.toList_data]
theorem fnd_app (x : T8) : ∀ (l : List Fd) (f : Fd), fnd x (l ++ [f]) = (fnd x l).or (if f.n.toList == x then some f.v else none)
  | [], f => by
    rw [List.nil_append, fnd, tl_tx]
    rfl
  | a :: r, f => by
    rw [List.cons_append, fnd, fnd, fnd_app x r f]
    split <;> rfl
theorem lenGo_keep (cur : Option ByteArray) (l : List Fd) : lenGo cur (keep l) = lenGo cur l := by
  induction l generalizing cur with
  | nil => rfl
  | cons f r ih =>
    unfold keep at ih ⊢
    rw [List.filter_cons]
    cases hk : keepB f
    · have hn : (lo f.n == sLen) = false := by
        unfold keepB at hk
        apply beq_false_of_ne
        intro e
        cases h1 : psd f.n
        · rw [h1] at hk
          have h2 : f.n.toList = [104, 111, 115, 116] ∨ f.n.toList = [116, 101] := by
            cases h3 : (f.n.toList == [104, 111, 115, 116])
            · rw [h3] at hk
              simp at hk
              exact .inr hk
            · exact .inl (beq_iff_eq.1 h3)
          rw [tl_tx] at h2
          unfold tx at h2
          unfold lo at e
          rcases h2 with h2 | h2 <;> rw [h2] at e <;> exact absurd e (by decide)
        · unfold psd tx at h1
          unfold lo at e
          cases hq : f.n.data.toList with
          | nil => rw [hq] at h1; simp at h1
          | cons c t =>
            rw [hq] at h1 e
            simp at h1
            subst h1
            have := congrArg List.head? e
            simp [Tx.lower, sLen] at this
            exact absurd this (by decide)
      simp only [Bool.false_eq_true, if_false]
      rw [ih]
      cases cur <;> simp [lenGo, hn]
    · simp only [if_true]
      cases cur <;> simp only [lenGo, ih]
/-- Of a list that is gone through rightly each field that is no pseudo-field is plain. -/
theorem walk_plain : ∀ (l ahead : List Fd) (bh : Bool), walk ahead bh l = 0 → ∀ f ∈ l, psd f.n = false → plain f = true
  | [], _, _, _, f, hf, _ => by simp at hf
  | g :: r, ahead, bh, h, f, hf, hp => by
    rw [walk] at h
    rcases List.mem_cons.1 hf with rfl | hf
    · rw [hp] at h
      simp only [Bool.false_eq_true, if_false] at h
      split at h
      · exact absurd h (by decide)
      · rename_i hb
        unfold bad2 at hb
        cases hq : plain f
        · rw [hq] at hb; simp at hb
        · rfl
    · split at h
      · split at h
        · exact absurd h (by decide)
        · exact walk_plain r _ _ h f hf hp
      · split at h
        · exact absurd h (by decide)
        · exact walk_plain r _ _ h f hf hp
theorem walk_vals : ∀ (l ahead : List Fd) (bh : Bool), walk ahead bh l = 0 ∨ walk ahead bh l = 140 ∨ walk ahead bh l = 141
  | [], _, _ => .inl rfl
  | g :: r, ahead, bh => by
    rw [walk]
    split
    · split
      · exact .inr (.inl rfl)
      · exact walk_vals r _ _
    · split
      · exact .inr (.inr rfl)
      · exact walk_vals r _ _
theorem twoE_vals (l : List Fd) : twoE l = 0 ∨ twoE l = 140 ∨ twoE l = 141 ∨ twoE l = 142 := by
  unfold twoE
  split
  · split
    · split
      · simp
      · split <;> simp
    · simp
  · rcases walk_vals l [] false with h | h | h <;> rw [h] <;> simp
theorem twoE_walk {l : List Fd} (h : twoE l = 0) : walk [] false l = 0 := by
  unfold twoE at h
  split at h
  · rename_i h1; exact beq_iff_eq.1 h1
  · exact h
theorem twoE_lines {l : List Fd} (h : twoE l = 0) : lines (gd sMethod l) (gd sScheme l) (gd sPath l) = true := by
  unfold twoE at h
  split at h
  · split at h
    · rename_i h2; exact h2
    · exact absurd h (by decide)
  · rename_i h1
    exact absurd (beq_iff_eq.2 h) h1
theorem twoE_len {l : List Fd} (h : twoE l = 0) : (lenGo none l).isNone = false := by
  unfold twoE at h
  split at h
  · split at h
    · split at h
      · exact absurd h (by decide)
      · split at h
        · exact absurd h (by decide)
        · rename_i h3; cases hq : (lenGo none l).isNone with | false => rfl | true => exact absurd hq h3
    · exact absurd h (by decide)
  · rename_i h1
    exact absurd (beq_iff_eq.2 h) h1

def small (f : Fd) : Fd := ⟨⟨(lo f.n).toArray⟩, f.v⟩
def sound (f : Fd) : Bool := Tx.isTok (tx f.n) && Tx.isVal (tx f.v)
def isHost (f : Fd) : Bool := lo f.n == sHost
def hosts (l : List Fd) : List Fd := l.filter isHost
/-- The last host that is named. -/
def hostOf (l : List Fd) : ByteArray := ((hosts l).getLast?.map Fd.v).getD e0
/-- A text cut at its commas. -/
def pcs : T8 → T8 → List T8
  | cur, [] => [cur]
  | cur, c :: r => if c = 44 then cur :: pcs [] r else pcs (cur ++ [c]) r
def nm1 (f : Fd) : List T8 := (pcs [] (tx f.v)).map fun t => Tx.lower (Tx.trim t)
def nms (l : List Fd) : List T8 := (l.filter fun f => lo f.n == sConn).flatMap nm1
def passB (nm : List T8) (f : Fd) : Bool := !(lo f.n == sHost) && !(lo f.n == sTe) && !bnd f.n && (!nm.contains (lo f.n) || lo f.n == sLen)
def pass (l : List Fd) : List Fd := (l.filter (passB (nms l))).map small
/-- A target's scheme, authority and path, and whether it may be one. -/
def absT (m sch rest : ByteArray) : ByteArray × ByteArray × ByteArray × Bool :=
  (sch, rest.extract 0 (stop (tx rest)), head47 (rest.extract (stop (tx rest)) rest.size), decide (0 < stop (tx rest)) && goes m (head47 (rest.extract (stop (tx rest)) rest.size)))
def aim (m t host : ByteArray) : ByteArray × ByteArray × ByteArray × Bool :=
  if beg t bHttps3 then absT m bHttps (t.extract 8 t.size) else if beg t bHttp3 then absT m bHttp (t.extract 7 t.size) else (bHttp, host, t, goes m t)
def oneE (m t : ByteArray) (l : List Fd) : Int :=
  if Tx.isTok (tx m) then
    (if l.all sound && (hosts l).length == 1 then (if (aim m t (hostOf l)).2.2.2 then (if (lenGo none l).isNone then 142 else 0) else 140) else 141)
  else 140
def oneR (m t : ByteArray) (l : List Fd) : Rq := if oneE m t l == 0 then ⟨m, (aim m t (hostOf l)).1, (aim m t (hostOf l)).2.1, (aim m t (hostOf l)).2.2.1, pass l⟩ else rq0

/-! ### one request in both versions -/
def fM (m : ByteArray) : Fd := ⟨⟨sMethod.toArray⟩, m⟩
def fS : Fd := ⟨⟨sScheme.toArray⟩, bHttp⟩
def fP (p : ByteArray) : Fd := ⟨⟨sPath.toArray⟩, p⟩
def fA (a : ByteArray) : Fd := ⟨⟨sAuth.toArray⟩, a⟩
def fH (a : ByteArray) : Fd := ⟨⟨#[72, 79, 83, 84]⟩, a⟩
def asTwo (m p a : ByteArray) (X : List Fd) : List Fd := [fM m, fS, fP p, fA a] ++ X
def asOne (a : ByteArray) (X : List Fd) : List Fd := fH a :: X
theorem plain_parts {f : Fd} (h : plain f = true) : Tx.isTok (tx f.n) = true ∧ lo f.n = tx f.n ∧ Tx.isVal (tx f.v) = true ∧ bnd f.n = false := by
  unfold plain at h
  simp only [Bool.and_eq_true, Bool.not_eq_true', beq_iff_eq] at h
  exact ⟨h.1.1.1, h.1.1.2, h.1.2, h.2⟩
theorem walk_nops : ∀ (X ahead : List Fd) (bh : Bool), (∀ x ∈ pss, (fnd x ahead).isSome = true) → walk ahead bh X = 0 → ∀ f ∈ X, psd f.n = false
  | [], _, _, _, _, f, hf => by simp at hf
  | g :: r, ahead, bh, ha, h, f, hf => by
    have hs : ∀ x ∈ pss, (fnd x (ahead ++ [g])).isSome = true := fun x hx => by
      rw [fnd_app]
      have := ha x hx
      cases hq : fnd x ahead with
      | none => rw [hq] at this; simp at this
      | some v => rfl
    rw [walk] at h
    cases hp : psd g.n
    · rw [hp] at h
      simp only [Bool.false_eq_true, if_false] at h
      split at h
      · exact absurd h (by decide)
      · rcases List.mem_cons.1 hf with rfl | hf
        · exact hp
        · exact walk_nops r _ _ hs h f hf
    · rw [hp] at h
      simp only [if_true] at h
      split at h
      · exact absurd h (by decide)
      · rename_i hb
        exfalso
        apply hb
        unfold bad1
        cases hc : pss.contains g.n.toList
        · simp
        · have := ha _ (List.contains_iff_mem.1 hc)
          rw [this]; simp
theorem walk_four (m p a : ByteArray) (X : List Fd) : walk [] false (asTwo m p a X) = walk [fM m, fS, fP p, fA a] false X := by
  unfold asTwo
  have k1 : psd (fM m).n = true := rfl
  have k2 : psd fS.n = true := by decide
  have k3 : psd (fP p).n = true := rfl
  have k4 : psd (fA a).n = true := rfl
  have t1 : (fM m).n.toList = sMethod := by rw [tl_tx]; rfl
  have t2 : fS.n.toList = sScheme := by rw [tl_tx]; rfl
  have t3 : (fP p).n.toList = sPath := by rw [tl_tx]; rfl
  have t4 : (fA a).n.toList = sAuth := by rw [tl_tx]; rfl
  have x1 : tx (fM m).n = sMethod := rfl
  have x2 : tx fS.n = sScheme := rfl
  have x3 : tx (fP p).n = sPath := rfl
  have b1 : bad1 [] false (fM m) = false := by unfold bad1; rw [t1]; decide
  have b2 : bad1 [fM m] false fS = false := by unfold bad1; rw [t2]; simp only [fnd, x1]; rfl
  have b3 : bad1 [fM m, fS] false (fP p) = false := by unfold bad1; rw [t3]; simp only [fnd, x1, x2]; rfl
  have b4 : bad1 [fM m, fS, fP p] false (fA a) = false := by unfold bad1; rw [t4]; simp only [fnd, x1, x2, x3]; rfl
  simp only [List.cons_append, List.nil_append, walk, k1, k2, k3, k4, b1, b2, b3, b4, if_true, Bool.false_eq_true, if_false]
theorem fnd_four (m p a : ByteArray) (X : List Fd) : fnd sMethod (asTwo m p a X) = some m ∧ fnd sScheme (asTwo m p a X) = some bHttp ∧ fnd sPath (asTwo m p a X) = some p ∧ fnd sAuth (asTwo m p a X) = some a := by
  have x1 : tx (fM m).n = sMethod := rfl
  have x2 : tx fS.n = sScheme := rfl
  have x3 : tx (fP p).n = sPath := rfl
  have x4 : tx (fA a).n = sAuth := rfl
  unfold asTwo
  simp only [List.cons_append, fnd, x1, x2, x3, x4]
  exact ⟨rfl, rfl, rfl, rfl⟩
theorem lenGo_two (m p a : ByteArray) (X : List Fd) : lenGo none (asTwo m p a X) = lenGo none X := by
  have x1 : lo (fM m).n = sMethod := rfl
  have x2 : lo fS.n = sScheme := rfl
  have x3 : lo (fP p).n = sPath := rfl
  have x4 : lo (fA a).n = sAuth := rfl
  unfold asTwo
  simp only [List.cons_append, List.nil_append, lenGo, x1, x2, x3, x4]
  rfl
theorem lenGo_one (a : ByteArray) (X : List Fd) : lenGo none (asOne a X) = lenGo none X := by
  have x1 : lo (fH a).n = sHost := rfl
  unfold asOne
  simp only [lenGo, x1]
  rfl
theorem beg_not {m t : ByteArray} (h : goes m t = true) : beg t bHttp3 = false ∧ beg t bHttps3 = false := by
  have key : ∀ (x : ByteArray), x.data.toList.head? = some 104 → 0 < x.size → beg t x = false := by
    intro x hx hpos
    unfold beg
    by_cases hs : x.size ≤ t.size
    · rw [decide_eq_true hs, Bool.true_and]
      apply beq_false_of_ne
      intro e
      have e1 : (t.extract 0 x.size).data.toList = x.data.toList := by rw [← Lib.toList_data, ← Lib.toList_data]; exact e
      have e2 : (t.extract 0 x.size).data.toList.head? = some 104 := by rw [e1]; exact hx
      have e3 : t.data.toList.head? = some 104 := by
        rw [ByteArray.data_extract, Array.toList_extract, List.extract_eq_take_drop, List.drop_zero, List.head?_take] at e2
        split at e2
        · exact absurd e2 (by simp)
        · exact e2
      unfold goes at h
      split at h
      · rename_i h4
        have := beq_iff_eq.1 h4
        unfold tx at this
        rw [this] at e3
        exact absurd e3 (by decide)
      · rw [Bool.and_eq_true] at h
        have := beq_iff_eq.1 h.1
        unfold tx at this
        rw [this] at e3
        exact absurd e3 (by decide)
    · rw [decide_eq_false hs]; rfl
  exact ⟨key _ rfl (by decide), key _ rfl (by decide)⟩
theorem small_same {f : Fd} (h : lo f.n = tx f.n) : small f = f := by
  unfold small
  rw [h, tx]
theorem meets (m p a : ByteArray) (X : List Fd) (hX : ∀ f ∈ X, (f.n.toList == [104, 111, 115, 116]) = false ∧ (f.n.toList == [116, 101]) = false) (h : twoE (asTwo m p a X) = 0) :
    (Tx.isVal (tx a) = false → oneE m p (asOne a X) = 141) ∧ (Tx.isVal (tx a) = true → oneE m p (asOne a X) = 0 ∧ oneR m p (asOne a X) = twoR (asTwo m p a X)) := by
  have hw := twoE_walk h
  rw [walk_four] at hw
  have hps := walk_nops X _ _ (by
    intro x hx
    have x1 : tx (fM m).n = sMethod := rfl
    have x2 : tx fS.n = sScheme := rfl
    have x3 : tx (fP p).n = sPath := rfl
    have x4 : tx (fA a).n = sAuth := rfl
    simp only [pss, List.mem_cons, List.not_mem_nil, or_false] at hx
    rcases hx with rfl | rfl | rfl | rfl <;> simp only [fnd, x1, x2, x3, x4] <;> rfl) hw
  have hpl := fun f hf => plain_parts (walk_plain X _ _ hw f hf (hps f hf))
  have hln := twoE_lines h
  have hlen := twoE_len h
  rw [lenGo_two] at hlen
  obtain ⟨f1, f2, f3, f4⟩ := fnd_four m p a X
  have g1 : gd sMethod (asTwo m p a X) = m := by unfold gd; rw [f1]; rfl
  have g2 : gd sScheme (asTwo m p a X) = bHttp := by unfold gd; rw [f2]; rfl
  have g3 : gd sPath (asTwo m p a X) = p := by unfold gd; rw [f3]; rfl
  have g4 : auth (asTwo m p a X) = a := by unfold auth gd; rw [f4]; rfl
  rw [g1, g2, g3] at hln
  unfold lines at hln
  simp only [Bool.and_eq_true] at hln
  obtain ⟨⟨htok, _⟩, hgo⟩ := hln
  have hlo : ∀ f ∈ X, isHost f = false := fun f hf => by
    unfold isHost
    rw [(hpl f hf).2.1, ← tl_tx]
    exact (hX f hf).1
  have hho : hosts (asOne a X) = [fH a] := by
    unfold hosts asOne
    rw [List.filter_cons, show isHost (fH a) = true by unfold isHost; rfl, if_pos rfl]
    congr 1
    rw [List.filter_eq_nil_iff]
    intro f hf
    rw [hlo f hf]
    simp
  have hsX : X.all sound = true := List.all_eq_true.2 (fun f hf => by unfold sound; rw [(hpl f hf).1, (hpl f hf).2.2.1]; rfl)
  have hsH : sound (fH a) = Tx.isVal (tx a) := by
    unfold sound
    rw [show Tx.isTok (tx (fH a).n) = true from rfl, Bool.true_and]
    rfl
  have hall : (asOne a X).all sound = Tx.isVal (tx a) := by
    unfold asOne
    rw [List.all_cons, hsX, hsH, Bool.and_true]
  have hhost : hostOf (asOne a X) = a := by unfold hostOf; rw [hho]; rfl
  obtain ⟨nb1, nb2⟩ := beg_not hgo
  have haim : aim m p a = (bHttp, a, p, true) := by
    unfold aim
    rw [nb1, nb2, hgo]
    rfl
  have hE : oneE m p (asOne a X) = if Tx.isVal (tx a) then 0 else 141 := by
    unfold oneE
    rw [htok, hall, hho, hhost, haim, lenGo_one, hlen]
    cases Tx.isVal (tx a) <;> rfl
  refine ⟨fun hv => by rw [hE, hv]; rfl, fun hv => ⟨by rw [hE, hv]; rfl, ?_⟩⟩
  have hnm : nms (asOne a X) = [] := by
    unfold nms
    have : (asOne a X).filter (fun f => lo f.n == sConn) = [] := by
      rw [List.filter_eq_nil_iff]
      intro f hf
      unfold asOne at hf
      rcases List.mem_cons.1 hf with rfl | hf
      · exact fun e => absurd (show (lo (fH a).n == sConn) = false from rfl) (by rw [e]; decide)
      · intro e
        have := (hpl f hf).2.2.2
        unfold bnd at this
        rw [beq_iff_eq.1 e] at this
        exact absurd this (by decide)
    rw [this]
    rfl
  have hps2 : pass (asOne a X) = X := by
    unfold pass
    rw [hnm]
    unfold asOne
    rw [List.filter_cons, show passB [] (fH a) = false from rfl]
    simp only [Bool.false_eq_true, if_false]
    have h1 : X.filter (passB []) = X := by
      rw [List.filter_eq_self]
      intro f hf
      unfold passB
      have q := hpl f hf
      rw [q.2.1, ← tl_tx, q.2.2.2]
      have h5 := (hX f hf).1
      have h6 := (hX f hf).2
      unfold sHost sTe
      rw [h5, h6]
      rfl
    rw [h1]
    conv => rhs; rw [← List.map_id X]
    exact List.map_congr_left (fun f hf => small_same (hpl f hf).2.1)
  have hkp : keep (asTwo m p a X) = X := by
    unfold keep asTwo
    have k1 : keepB (fM m) = false := by unfold keepB; rw [show psd (fM m).n = true from rfl]; rfl
    have k2 : keepB fS = false := by unfold keepB; rw [show psd fS.n = true by decide]; rfl
    have k3 : keepB (fP p) = false := by unfold keepB; rw [show psd (fP p).n = true from rfl]; rfl
    have k4 : keepB (fA a) = false := by unfold keepB; rw [show psd (fA a).n = true from rfl]; rfl
    simp only [List.cons_append, List.nil_append, List.filter_cons, k1, k2, k3, k4, Bool.false_eq_true, if_false]
    rw [List.filter_eq_self]
    intro f hf
    unfold keepB
    rw [hps f hf, (hX f hf).1, (hX f hf).2]
    rfl
  have hE0 : oneE m p (asOne a X) = 0 := by rw [hE, hv]; rfl
  unfold oneR twoR
  rw [hE0, h, hhost, haim, hps2, hkp, g1, g2, g3, g4]

end Ms
end Go.Proofs.YtkfekopenahmdaaDoor
