/-
  Sizes that came in: as a row hands them.
-/
import Derived.Test.YthhpejgpfaikaaaGreatDoorPnBP
import Derived.Test.YthhpejgpfaikaaaGreatDoorRows
import Derived.Deep.Slices
import Derived.Deep.Strs
import Derived.SizedLaws
import Derived.RowKit
import Derived.ProofKit
import Derived.OpenShut
import Derived.Lib.SmallJoins
namespace Go.Proofs.YthhpejgpfaikaaaGreatDoor
open Go.RowKit Go.ChangeShapes Go.WideShapes Go.ChangeAt Go.Deep Go.Joins

theorem fit21 {i : Int} (h : (Lit.int .i64 i).wf = true) : -9223372036854775808 ≤ i ∧ i ≤ 9223372036854775807 := by
  have e1 : IntKind.i64.min = -9223372036854775808 := rfl
  have e2 : IntKind.i64.max = 9223372036854775807 := rfl
  simp [Lit.wf, e1, e2] at h
  omega
set_option maxRecDepth 100000 in
theorem open_sizes21 {H : Type} {enc : TypeId × Value → H} {W : World} {base : Nat} {v : Value} {d : DataW H} {p : List MemPlace} (hval : Value.okWide Tryz.prog W .any base 23 v) (h : DataW.Trod enc Tryz.prog W 0 (fun _ => true) true 23 v d p) :
    ∃ a b : Int, v = .agg #[.int .i64 a, .int .i64 b] ∧ (-9223372036854775808 ≤ a ∧ a ≤ 9223372036854775807) ∧ -9223372036854775808 ≤ b ∧ b ≤ 9223372036854775807 := by
  obtain ⟨x0, x1, y0, y1, m, rfl, rfl, _, g0, g1⟩ := open_agg2 Tryz.underlying23 (by kernel_rfl) (by kernel_rfl) hval h
  obtain ⟨a, f0, _, w0⟩ := DataW.trod_int Tryz.underlying3 g0
  obtain ⟨b, f1, _, w1⟩ := DataW.trod_int Tryz.underlying3 g1
  simp only [List.cons.injEq, and_true] at f0 f1
  subst f0 f1
  exact ⟨a, b, rfl, fit21 w0, fit21 w1⟩

end Go.Proofs.YthhpejgpfaikaaaGreatDoor
