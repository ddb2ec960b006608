/-
  The document's in, Bound, pseudo, find: by their contracts.
-/
import Derived.Test.YtcljepppdljnlabDoorMsA
import Derived.Test.YtcljepppdljnlabDoorToks
import Derived.Test.YtcljepppdljnlabDoorLowD
namespace Go.Proofs.YtcljepppdljnlabDoor
open Go.RowKit

def sC (l : List (List UInt8)) : List Value := l.map fun t => .string ⟨t.toArray⟩
theorem ba_list (l : List UInt8) : (⟨l.toArray⟩ : ByteArray).toList = l := by rw [Lib.toList_data]
theorem mret_bool {a b : Bool} (h : a = b) : Ending.returned (.bool a) = .returned (.bool b) := by rw [h]
theorem has_drop {l : List (List UInt8)} {i : Nat} {t : List UInt8} (h : l[i]? = some t) (x : List UInt8) : (l.drop i).contains x = (t == x || (l.drop (i + 1)).contains x) := by
  obtain ⟨h1, h2⟩ := List.getElem?_eq_some_iff.1 h
  rw [List.drop_eq_getElem_cons h1, h2, List.contains_cons, show (x == t) = (t == x) from Bool.eq_iff_iff.2 (by rw [beq_iff_eq, beq_iff_eq]; exact eq_comm)]

theorem psd_yes {x : ByteArray} (h : 0 < x.size) : Ms.psd x = (((x[0].toNat : Int)) == 58) := by
  have h1 : (Ms.tx x).head? = some x[0] := by
    unfold Ms.tx
    rw [List.head?_eq_getElem?, List.getElem?_eq_getElem (by rw [← Lib.size_eq]; exact h)]
    rfl
  unfold Ms.psd
  rw [h1, Bool.eq_iff_iff, beq_iff_eq, beq_iff_eq]
  constructor
  · intro e; injection e with e; rw [e]; rfl
  · intro e
    congr 1
    apply UInt8.toNat_inj.1
    have : (58 : UInt8).toNat = 58 := rfl
    omega
theorem psd_no {x : ByteArray} (h : ¬ 0 < x.size) : Ms.psd x = false := by
  have : Ms.tx x = [] := List.eq_nil_of_length_eq_zero (by unfold Ms.tx; rw [← Lib.size_eq]; omega)
  unfold Ms.psd
  rw [this]
  rfl

theorem fnd_drop {l : List Fd} {i : Nat} {f : Fd} (h : l[i]? = some f) (x : List UInt8) : Ms.fnd x (l.drop i) = if f.n.toList == x then some f.v else Ms.fnd x (l.drop (i + 1)) := by
  obtain ⟨h1, h2⟩ := List.getElem?_eq_some_iff.1 h
  rw [List.drop_eq_getElem_cons h1, h2, Ms.fnd, Ms.tx, Lib.toList_data]
def fndV (o : Option ByteArray) : Value := .tuple #[.string (o.getD ⟨#[]⟩), .bool o.isSome]

end Go.Proofs.YtcljepppdljnlabDoor
