/-
  The document's Two: by its contract.
-/
import Derived.Test.YtkfekopenahmdaaGreatDoorMcKM
import Derived.Test.YtkfekopenahmdaaGreatDoorMsDI
import Derived.Test.YtkfekopenahmdaaGreatDoorMsAC
namespace Go.Proofs.YtkfekopenahmdaaGreatDoor
open Go.RowKit

theorem Ms.keep_take {l : List Fd} {k : Nat} {p : Fd} (h : l[k]? = some p) : Ms.keep (l.take (k + 1)) = Ms.keep (l.take k) ++ (if Ms.keepB p then [p] else []) := by
  unfold Ms.keep
  rw [List.take_add_one, h]
  simp only [Option.toList_some, List.filter_append, List.filter_cons, List.filter_nil]
theorem Ms.keep_len (l : List Fd) (k : Nat) : (Ms.keep (l.take k)).length ≤ k := Nat.le_trans (List.length_filter_le _ _) (by rw [List.length_take]; omega)
def rqA (m s au p : ByteArray) (fv : Value) : Array Value := #[.string m, .string s, .string au, .string p, fv, .string ⟨#[]⟩, .slice none 0 0]
theorem rq_size (m s au p : ByteArray) (fv : Value) : (rqA m s au p fv).size = 7 := rfl

end Go.Proofs.YtkfekopenahmdaaGreatDoor
