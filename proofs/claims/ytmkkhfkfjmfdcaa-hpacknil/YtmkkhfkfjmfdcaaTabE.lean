/-
  Fields compared.
-/
import Derived.Test.YtmkkhfkfjmfdcaaTabM
import Derived.Laws.StructEq
namespace Go.Proofs.Ytmkkhfkfjmfdcaa
open Go.RowKit

theorem noStand : Try.prog.stoodInHeld 55 = false := by kernel_rfl
theorem noGuard : Try.prog.eqGuardType Try.prog.depth 55 = false := by kernel_rfl
theorem fieldsOf_field : Try.prog.underlying 55 = some (.struct (Try.prog.fieldsOf 55)) := by kernel_rfl
set_option maxRecDepth 20000 in
theorem eq_field (n2 v2 n v : List UInt8) (w : World) : (binOp .eql 55 (.agg #[.string ⟨n2.toArray⟩, .string ⟨v2.toArray⟩]) (.agg #[.string ⟨n.toArray⟩, .string ⟨v.toArray⟩])).run Try.prog w = .ok (.bool (n2 == n && v2 == v)) w := by
  rw [run_eql_struct, show (10000 : Nat) = 9999 + 1 by rfl, run_equalIn_agg w 9999 55 _ _ fieldsOf_field noStand]
  simp only [Program.fieldsOf, Try.underlying55]
  go_simp
  by_cases h1 : n2 = n <;> by_cases h2 : v2 = v <;> simp [h1, h2]

theorem eq_field_yes (n v : List UInt8) (w : World) : (binOp .eql 55 (.agg #[.string ⟨n.toArray⟩, .string ⟨v.toArray⟩]) (.agg #[.string ⟨n.toArray⟩, .string ⟨v.toArray⟩])).run Try.prog w = .ok (.bool true) w := by
  rw [eq_field]; simp
theorem eq_field_no (n2 v2 n v : List UInt8) (h : (n2, v2) ≠ (n, v)) (w : World) : (binOp .eql 55 (.agg #[.string ⟨n2.toArray⟩, .string ⟨v2.toArray⟩]) (.agg #[.string ⟨n.toArray⟩, .string ⟨v.toArray⟩])).run Try.prog w = .ok (.bool false) w := by
  rw [eq_field]
  have : (n2 == n && v2 == v) = false := by
    rw [Bool.eq_false_iff]; intro h2; simp at h2; exact h (by rw [h2.1, h2.2])
  rw [this]

end Go.Proofs.Ytmkkhfkfjmfdcaa
