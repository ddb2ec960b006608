/-
  FrameBack's contract on what comes in.
-/
import Derived.Test.YtfccbeijibhnhaaLawFrameBack
namespace Go.Proofs.Ytfccbeijibhnhaa
open Go.RowKit

theorem frameBack_c (k fl st : Int) (s q : ByteArray) (cut : Int) (w : World) (h : q.size ≤ 140737488355328) : Calls Try.prog 7 #[.agg #[.int .i64 k, .int .i64 fl, .int .i64 st, .string s], .string q, .int .i64 cut] w fun e w' => e = .returned (.bool true) ∧ Below w.heap.size w w' := by
  have e : s = ⟨s.data.toList.toArray⟩ := by cases s; simp
  have e2 : q = ⟨q.data.toList.toArray⟩ := by cases q; simp
  rw [e, e2]
  exact frameBack_l k fl st _ _ cut (by rw [← Lib.size_eq]; exact h) w

end Go.Proofs.Ytfccbeijibhnhaa
