/-
  Messages on lists: what is of no program.
-/
import Derived.Test.YtbpdhcfmdkmoiabDoorLists
namespace Go.Proofs.YtbpdhcfmdkmoiabDoor

/-- A field. -/
structure Fd where
  n : ByteArray
  v : ByteArray
namespace Ms
abbrev T8 := List UInt8
def conns : List T8 := [[99, 111, 110, 110, 101, 99, 116, 105, 111, 110], [107, 101, 101, 112, 45, 97, 108, 105, 118, 101], [112, 114, 111, 120, 121, 45, 99, 111, 110, 110, 101, 99, 116, 105, 111, 110], [116, 114, 97, 110, 115, 102, 101, 114, 45, 101, 110, 99, 111, 100, 105, 110, 103], [117, 112, 103, 114, 97, 100, 101]]
def pss : List T8 := [[58, 109, 101, 116, 104, 111, 100], [58, 115, 99, 104, 101, 109, 101], [58, 112, 97, 116, 104], [58, 97, 117, 116, 104, 111, 114, 105, 116, 121]]
def noTr : List T8 := [[104, 111, 115, 116], [116, 101], [116, 114, 97, 105, 108, 101, 114], [99, 111, 110, 116, 101, 110, 116, 45, 108, 101, 110, 103, 116, 104], [99, 111, 110, 116, 101, 110, 116, 45, 116, 121, 112, 101], [99, 111, 110, 116, 101, 110, 116, 45, 101, 110, 99, 111, 100, 105, 110, 103], [99, 111, 110, 116, 101, 110, 116, 45, 114, 97, 110, 103, 101], [97, 117, 116, 104, 111, 114, 105, 122, 97, 116, 105, 111, 110], [101, 120, 112, 101, 99, 116], [99, 111, 111, 107, 105, 101], [115, 101, 116, 45, 99, 111, 111, 107, 105, 101]]
def sHost : T8 := [104, 111, 115, 116]
def sTe : T8 := [116, 101]
def sTrailers : T8 := [116, 114, 97, 105, 108, 101, 114, 115]
def sMethod : T8 := [58, 109, 101, 116, 104, 111, 100]
def sScheme : T8 := [58, 115, 99, 104, 101, 109, 101]
def sPath : T8 := [58, 112, 97, 116, 104]
def sAuth : T8 := [58, 97, 117, 116, 104, 111, 114, 105, 116, 121]
def sHttp : T8 := [104, 116, 116, 112]
def sHttps : T8 := [104, 116, 116, 112, 115]
def sOptions : T8 := [79, 80, 84, 73, 79, 78, 83]
def sLen : T8 := [99, 111, 110, 116, 101, 110, 116, 45, 108, 101, 110, 103, 116, 104]
def sConn : T8 := [99, 111, 110, 110, 101, 99, 116, 105, 111, 110]
def sExpect : T8 := [101, 120, 112, 101, 99, 116]
def sCont : T8 := [49, 48, 48, 45, 99, 111, 110, 116, 105, 110, 117, 101]
def sStatus : T8 := [58, 115, 116, 97, 116, 117, 115]
def tx (b : ByteArray) : T8 := b.data.toList
def lo (b : ByteArray) : T8 := Tx.lower b.data.toList
/-- One of a connection's own. -/
def bnd (b : ByteArray) : Bool := conns.contains (lo b)
def wt (f : Fd) : Nat := 32 + f.n.size + f.v.size
def size (l : List Fd) : Nat := (l.map wt).sum
def strip (l : List Fd) : List Fd := l.filter fun f => !bnd f.n
def psd (b : ByteArray) : Bool := (tx b).head? == some 58
def plain (f : Fd) : Bool := Tx.isTok (tx f.n) && (lo f.n == tx f.n) && Tx.isVal (tx f.v) && !bnd f.n
/-- The value of the first field of a name. -/
def fnd (x : T8) : List Fd → Option ByteArray
  | [] => none
  | f :: r => if tx f.n == x then some f.v else fnd x r
def okc (c : UInt8) : Bool := decide (33 ≤ c.toNat) && decide (c.toNat ≤ 126) && !(c == 35)
/-- Whether a path may be a target's. -/
def goes (m p : ByteArray) : Bool := if tx p == [42] then tx m == sOptions else (tx p).head? == some 47 && (tx p).all okc
/-- What is wrong with a field of a header list, what stands ahead of it, and whether one that is no pseudo-field does. -/
def wrong (ahead : List Fd) (behind : Bool) (f : Fd) : Int :=
  if psd f.n then (if behind || (fnd (tx f.n) ahead).isSome || !pss.contains (tx f.n) then 140 else 0)
  else if !plain f || (tx f.n == sTe && !(tx f.v == sTrailers)) || (tx f.n == sHost && (fnd (tx f.n) ahead).isSome) then 141 else 0
def dec (b : ByteArray) : Bool := !(tx b == []) && decide (b.size ≤ 15) && !(((tx b).head? == some 48) && decide (1 < b.size)) && (tx b).all fun c => decide (48 ≤ c.toNat) && decide (c.toNat ≤ 57)
theorem size_app (l m : List Fd) : size (l ++ m) = size l + size m := by simp [size]
theorem size_take {l : List Fd} {i : Nat} {f : Fd} (h : l[i]? = some f) : size (l.take (i + 1)) = size (l.take i) + wt f := by
  rw [List.take_add_one, h, size_app]
  simp [size]
theorem strip_take {l : List Fd} {i : Nat} {f : Fd} (h : l[i]? = some f) : strip (l.take (i + 1)) = strip (l.take i) ++ (if bnd f.n then [] else [f]) := by
  rw [List.take_add_one, h]
  simp only [strip, List.filter_append, Option.toList_some, List.filter_cons, List.filter_nil]
  cases bnd f.n <;> rfl
end Ms

end Go.Proofs.YtbpdhcfmdkmoiabDoor
