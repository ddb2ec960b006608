/-
  Whole, Waits, Bare of both; the code's status: by their contracts.
  The code's List: by its contract.
-/
import Derived.Test.YtkfekopenahmdaaDoorMcC
import Derived.Test.YtkfekopenahmdaaDoorMsDI
namespace Go.Proofs.YtkfekopenahmdaaDoor
open Go.RowKit

namespace Ms
def whole (o : Option (Option ByteArray)) (body : Int) : Int :=
  match o with
  | none => 142
  | some none => 0
  | some (some v) => if (Tx.num 10 v.data.toList).1 == body then 0 else 142
def waitB (f : Fd) : Bool := f.n.toList == [101, 120, 112, 101, 99, 116] && lo f.v == sCont
def waits (l : List Fd) : Bool := l.any waitB
def bare (m : ByteArray) (s : Int) : Bool := m.toList == [72, 69, 65, 68] || (decide (100 ≤ s) && decide (s ≤ 199)) || s == 204 || s == 304
def stat (s : Int) : Int := if s < 100 ∨ 999 < s then 500 else s
theorem waits_drop {l : List Fd} {i : Nat} {f : Fd} (h : l[i]? = some f) : waits (l.drop i) = (waitB f || waits (l.drop (i + 1))) := by
  obtain ⟨h1, h2⟩ := List.getElem?_eq_some_iff.1 h
  unfold waits
  rw [List.drop_eq_getElem_cons h1, h2, List.any_cons]
end Ms
theorem rq_cells (w : World) (c : Array Value) (T : TypeId) : Ar (w.alloc (.cells c T)) w.heap.size T c := heap_alloc_last w _

/-- A response's cells. -/
def rpC (s : Int) (fv : Value) (b : ByteArray) (tv : Value) : Array Value := #[.int .i64 s, fv, .string b, tv]

end Go.Proofs.YtkfekopenahmdaaDoor

namespace Go.Proofs.YtkfekopenahmdaaDoor
open Go.RowKit

namespace Ms
def bStatus : ByteArray := ⟨#[58, 115, 116, 97, 116, 117, 115]⟩
def stF (s : Int) : Fd := ⟨bStatus, ⟨(Lib.itoa (stat s)).toArray⟩⟩
/-- A response's header list. -/
def lst (s : Int) (l : List Fd) : List Fd := stF s :: (strip l).map small
theorem stat_bd (s : Int) : 100 ≤ stat s ∧ stat s ≤ 999 := by unfold stat; split <;> omega
theorem strip_le (l : List Fd) : (strip l).length ≤ l.length := List.length_filter_le _ _
theorem strip_mem {l : List Fd} {f : Fd} (h : f ∈ strip l) : f ∈ l := (List.mem_filter.1 h).1
end Ms
theorem own_lit (w : World) (e : TypeId) (xs : List Value) (n s : Nat) (hl : xs.length = n * s) (hn : n ≤ maxLen) (B : Nat) (hB : B ≤ w.heap.size) : (w.alloc (.cells xs.toArray e)).ownsRow B e s (.slice (some ⟨w.heap.size, 0, none⟩) n n) n xs :=
  ⟨hl, .inr ⟨w.heap.size, n, xs.toArray, rfl, hB, heap_alloc_last w _, Nat.le_refl _, hn, by simpa using hl, by rw [← hl]; simp⟩⟩
/-- Two rows that lie apart. -/
def NB (v u : Value) : Prop := ∀ k, v.ownBlock = some k → u.ownBlock ≠ some k
theorem NB.at {w : World} {v v' u : Value} (h : NB v u) (hu : ∀ k, u.ownBlock = some k → k < w.heap.size) (hat : v'.ownBlock = v.ownBlock ∨ v'.ownBlock = some w.heap.size) : NB v' u := by
  intro k hk e
  rcases hat with h1 | h1
  · exact h k (h1 ▸ hk) e
  · rw [h1] at hk
    injection hk with hk
    have := hu k e
    omega
theorem map_take1 {l : List Fd} {k : Nat} {p : Fd} (h : l[k]? = some p) (g : Fd → Fd) : (l.take (k + 1)).map g = (l.take k).map g ++ [g p] := by
  rw [List.take_add_one, h]
  simp

end Go.Proofs.YtkfekopenahmdaaDoor
