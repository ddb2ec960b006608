/-
  Messages on lists: walks, lengths, trailers, targets. What is of no program.
-/
import Derived.Test.YtbpdhcfmdkmoiabDoorMsP
import Derived.Test.YtbpdhcfmdkmoiabDoorPureNum
import Derived.WalkKit
namespace Go.Proofs.YtbpdhcfmdkmoiabDoor
namespace Ms
/-- The value that the length's fields say, ahead of it the one that was said; none: they are refused. -/
def lenGo : Option ByteArray → List Fd → Option (Option ByteArray)
  | cur, [] => some cur
  | cur, f :: r => if lo f.n == sLen then (if dec f.v && (match cur with | some v => f.v.toList == v.toList | none => true) then lenGo (some f.v) r else none) else lenGo cur r
def lenV : Option (Option ByteArray) → Value
  | none => .tuple #[.int .i64 0, .bool false, .int .i64 142]
  | some none => .tuple #[.int .i64 0, .bool false, .int .i64 0]
  | some (some v) => .tuple #[.int .i64 (Tx.num 10 v.data.toList).1, .bool true, .int .i64 0]
theorem len_drop {l : List Fd} {i : Nat} {f : Fd} (h : l[i]? = some f) (cur : Option ByteArray) : lenGo cur (l.drop i) = if lo f.n == sLen then (if dec f.v && (match cur with | some v => f.v.toList == v.toList | none => true) then lenGo (some f.v) (l.drop (i + 1)) else none) else lenGo cur (l.drop (i + 1)) := by
  obtain ⟨h1, h2⟩ := List.getElem?_eq_some_iff.1 h
  rw [List.drop_eq_getElem_cons h1, h2]
  cases cur <;> rfl
def opt (has : Bool) (v : ByteArray) : Option ByteArray := if has then some v else none
def bad1 (ahead : List Fd) (bh : Bool) (f : Fd) : Bool := bh || (fnd f.n.toList ahead).isSome || !pss.contains f.n.toList
def bad2 (ahead : List Fd) (f : Fd) : Bool := !plain f || (f.n.toList == [116, 101] && !(f.v.toList == [116, 114, 97, 105, 108, 101, 114, 115])) || (f.n.toList == [104, 111, 115, 116] && (fnd f.n.toList ahead).isSome)
/-- What is wrong with a header list from here on. -/
def walk (ahead : List Fd) (bh : Bool) : List Fd → Int
  | [] => 0
  | f :: r => if psd f.n then (if bad1 ahead bh f then 140 else walk (ahead ++ [f]) bh r) else if bad2 ahead f then 141 else walk (ahead ++ [f]) true r
theorem walk_drop {l : List Fd} {i : Nat} {f : Fd} (h : l[i]? = some f) (bh : Bool) : walk (l.take i) bh (l.drop i) = if psd f.n then (if bad1 (l.take i) bh f then 140 else walk (l.take (i + 1)) bh (l.drop (i + 1))) else if bad2 (l.take i) f then 141 else walk (l.take (i + 1)) true (l.drop (i + 1)) := by
  obtain ⟨h1, h2⟩ := List.getElem?_eq_some_iff.1 h
  rw [List.drop_eq_getElem_cons h1, h2, walk, List.take_add_one, h]
  rfl
/-- What is wrong with trailers. -/
def trail : List Fd → Int
  | [] => 0
  | f :: r => if psd f.n then 140 else if !plain f || noTr.contains f.n.toList then 143 else trail r
theorem trail_drop {l : List Fd} {i : Nat} {f : Fd} (h : l[i]? = some f) : trail (l.drop i) = if psd f.n then 140 else if !plain f || noTr.contains f.n.toList then 143 else trail (l.drop (i + 1)) := by
  obtain ⟨h1, h2⟩ := List.getElem?_eq_some_iff.1 h
  rw [List.drop_eq_getElem_cons h1, h2, trail]
def beg (x h : ByteArray) : Bool := decide (h.size ≤ x.size) && ((x.extract 0 h.size).toList == h.toList)
def bHttp : ByteArray := ⟨#[104, 116, 116, 112]⟩
def bHttps : ByteArray := ⟨#[104, 116, 116, 112, 115]⟩
def bHttp3 : ByteArray := ⟨#[104, 116, 116, 112, 58, 47, 47]⟩
def bHttps3 : ByteArray := ⟨#[104, 116, 116, 112, 115, 58, 47, 47]⟩
def goOn (c : UInt8) : Bool := !(c == 47) && !(c == 63)
/-- Where an authority ends. -/
def stop (L : List UInt8) : Nat := (L.takeWhile goOn).length
theorem stop_le (L : List UInt8) : stop L ≤ L.length := (List.takeWhile_sublist _).length_le
theorem stop_lt {L : List UInt8} {i : Nat} {c : UInt8} (hi : i < stop L) (hc : L[i]? = some c) : goOn c = true := by
  induction L generalizing i with
  | nil => simp at hc
  | cons a r ih =>
    unfold stop at hi
    rw [List.takeWhile_cons] at hi
    split at hi
    · rename_i ha
      cases i with
      | zero => simp at hc; subst hc; exact ha
      | succ i => exact ih (i := i) (by simp at hi; exact hi) (by simpa using hc)
    · simp at hi
theorem stop_at {L : List UInt8} {c : UInt8} (hc : L[stop L]? = some c) : goOn c = false := by
  induction L with
  | nil => simp at hc
  | cons a r ih =>
    unfold stop at hc
    rw [List.takeWhile_cons] at hc
    split at hc
    · exact ih (by simpa [stop] using hc)
    · rename_i ha
      simp at hc
      subst hc
      simpa using ha
def head47 (p : ByteArray) : ByteArray := if decide (0 < p.size) && ((tx p).head? == some 47) then p else ⟨#[47]⟩ ++ p
end Ms
end Go.Proofs.YtbpdhcfmdkmoiabDoor
