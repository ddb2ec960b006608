/-
  How great a script of calls can be that is small.
-/
import Derived.Test.YthbidfcfkjamdaaFlC
import Derived.Test.YthbidfcfkjamdaaRows
namespace Go.Proofs.Ythbidfcfkjamdaa
open Go.RowKit Go.ChangeShapes Go.WideShapes Go.ChangeAt

theorem bulk_len {H : Type} (l : List (DataW H)) : l.length ≤ Rows.uptoBulkAll l := by
  induction l with
  | nil => simp [Rows.uptoBulkAll]
  | cons x r ih =>
    have : 1 ≤ Rows.uptoBulk x := by
      cases x with
      | lit l => cases l <;> simp [Rows.uptoBulk]
      | nil => simp [Rows.uptoBulk]
      | ptr d => simp [Rows.uptoBulk]
      | slice elems spare => simp [Rows.uptoBulk]
      | agg parts => simp [Rows.uptoBulk]
      | iface t d => simp [Rows.uptoBulk]
      | map entries => simp [Rows.uptoBulk]
      | held h => simp [Rows.uptoBulk]
    simp only [Rows.uptoBulkAll, List.length_cons]; omega
theorem calls_bulk {H : Type} {d : DataW H} {cs : List Cl} (hc : (d = .nil ∧ cs = []) ∨ ∃ spare, d = .slice (cs.map clD) spare) : cs.length ≤ Rows.uptoBulk d := by
  rcases hc with ⟨_, rfl⟩ | ⟨spare, rfl⟩
  · simp
  · simp only [Rows.uptoBulk]
    have := bulk_len (cs.map clD : List (DataW H))
    rw [List.length_map] at this
    omega

end Go.Proofs.Ythbidfcfkjamdaa
