/-
  Whole, Waits, Bare of both; the code's status: by their contracts.
-/
import Derived.Test.YtcljepppdljnlabDoorMcC
import Derived.Test.YtcljepppdljnlabDoorMsI
namespace Go.Proofs.YtcljepppdljnlabDoor
open Go.RowKit

namespace Ms
def whole (o : Option (Option ByteArray)) (body : Int) : Int :=
  match o with
  | none => 142
  | some none => 0
  | some (some v) => if (Tx.num 10 v.data.toList).1 == body then 0 else 142
def waitB (f : Fd) : Bool := f.n.toList == [101, 120, 112, 101, 99, 116] && lo f.v == sCont
def waits (l : List Fd) : Bool := l.any waitB
def bare (m : ByteArray) (s : Int) : Bool := m.toList == [72, 69, 65, 68] || (decide (100 ≤ s) && decide (s ≤ 199)) || s == 204 || s == 304
def stat (s : Int) : Int := if s < 100 ∨ 999 < s then 500 else s
theorem waits_drop {l : List Fd} {i : Nat} {f : Fd} (h : l[i]? = some f) : waits (l.drop i) = (waitB f || waits (l.drop (i + 1))) := by
  obtain ⟨h1, h2⟩ := List.getElem?_eq_some_iff.1 h
  unfold waits
  rw [List.drop_eq_getElem_cons h1, h2, List.any_cons]
end Ms
theorem rq_cells (w : World) (c : Array Value) (T : TypeId) : Ar (w.alloc (.cells c T)) w.heap.size T c := heap_alloc_last w _

/-- A response's cells. -/
def rpC (s : Int) (fv : Value) (b : ByteArray) (tv : Value) : Array Value := #[.int .i64 s, fv, .string b, tv]

set_option maxHeartbeats 1000000 in
theorem cstat14 (s : Int) (fv : Value) (b : ByteArray) (tv : Value) (r : Int) (hr : Ms.stat s = r) (w : World) :
    Calls Tryd.prog 14 #[.agg (rpC s fv b tv)] w fun e w' => e = .returned (.int .i64 r) ∧ Below w.heap.size w w' := by
  have HR := hid' hr
  unfold Ms.stat at HR
  have HB := hid' (bl_alloc w (.cells (rpC s fv b tv) 26))
  have hA := rq_cells w (rpC s fv b tv) 26
  unfold rpC at *
  clear hr
  by_cases d1 : s < 100
  · have HF : Hid (r = 500) := hid' (by rw [← HR.out, if_pos (.inl d1)])
    go_enter Tryd.func14, Tryd.ntmps14
    go_wp2
    go_ret
    exact ⟨by rw [HF.out]; rfl, HB.out⟩
  by_cases d2 : 999 < s
  · have HF : Hid (r = 500) := hid' (by rw [← HR.out, if_pos (.inr d2)])
    go_enter Tryd.func14, Tryd.ntmps14
    go_wp2
    go_ret
    exact ⟨by rw [HF.out]; rfl, HB.out⟩
  have HF : Hid (r = s) := hid' (by rw [← HR.out, if_neg (by omega)])
  go_enter Tryd.func14, Tryd.ntmps14
  go_wp2
  go_ret
  exact ⟨by rw [HF.out]; rfl, HB.out⟩

end Go.Proofs.YtcljepppdljnlabDoor
