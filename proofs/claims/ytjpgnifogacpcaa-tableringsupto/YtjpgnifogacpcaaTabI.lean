/-
  A script of numbers that came in.
-/
import Derived.Test.YtjpgnifogacpcaaProg
import Derived.Test.YtjpgnifogacpcaaRows
import Derived.ChangeSlices
import Derived.RowKit
import Derived.ProofKit
import Derived.OpenShut
namespace Go.Proofs.Ytjpgnifogacpcaa
open Go.RowKit Go.ChangeShapes Go.WideShapes Go.ChangeAt

/-- Numbers in memory. -/
def ScrI (w : World) (v : Value) (xs : List Int) : Prop :=
  (v = .slice none 0 0 ∧ xs = []) ∨ ∃ a cap, v = .slice (some a) xs.length cap ∧ ∀ i x, xs[i]? = some x → (a.add i).block < w.heap.size ∧ w.cell? (a.add i) = some (.int .i64 x)
theorem bulk_len {H : Type} (l : List (DataW H)) : l.length ≤ Rows.uptoBulkAll l := by
  induction l with
  | nil => simp [Rows.uptoBulkAll]
  | cons x r ih =>
    have : 1 ≤ Rows.uptoBulk x := by
      cases x with
      | lit l => cases l <;> simp [Rows.uptoBulk]
      | nil => simp [Rows.uptoBulk]
      | ptr d => simp [Rows.uptoBulk]
      | slice elems spare => simp [Rows.uptoBulk]
      | agg parts => simp [Rows.uptoBulk]
      | iface t d => simp [Rows.uptoBulk]
      | map entries => simp [Rows.uptoBulk]
      | held h => simp [Rows.uptoBulk]
    simp only [Rows.uptoBulkAll, List.length_cons]; omega

theorem open_script {H : Type} {enc : TypeId × Value → H} {W : World} {base : Nat} {v : Value} {d : DataW H} {p : List MemPlace} (hval : Value.okWide Try.prog W .any base 48 v) (h : DataW.Trod enc Try.prog W 0 (fun _ => true) true 48 v d p) :
    ∃ xs : List Int, ScrI W v xs ∧ (∀ x ∈ xs, -9223372036854775808 ≤ x ∧ x ≤ 9223372036854775807) ∧ xs.length ≤ Rows.uptoBulk d := by
  obtain ⟨a, len, cap, rfl⟩ := okWide_slice Try.underlying48 hval
  obtain ⟨fuel, hf⟩ := h
  rcases open_ints Try.underlying48 Try.underlying3 (by kernel_rfl) hf with ⟨h1, h2⟩ | ⟨a', len', cap', zs, h1, _, hlc, hcm, hz, hx, hc, hw⟩
  · simp [Value.cells] at h1
    obtain ⟨rfl, rfl, rfl⟩ := h1
    exact ⟨[], .inl ⟨rfl, rfl⟩, by simp, by simp⟩
  · simp [Value.cells] at h1
    obtain ⟨rfl, rfl, rfl⟩ := h1
    simp only [if_true] at hz
    have hd := (Prod.mk.inj hx).1
    refine ⟨zs.take len, .inr ⟨a', cap, by rw [List.length_take, hz, Nat.min_eq_left hlc], ?_⟩, ?_, ?_⟩
    · intro i x hi
      have hil : i < (zs.take len).length := (List.getElem?_eq_some_iff.1 hi).1
      rw [List.length_take] at hil
      have hiz : i < zs.length := by omega
      have e : zs.getD i 0 = x := by
        rw [List.getElem?_take, if_pos (by omega)] at hi
        rw [List.getD_eq_getElem?_getD, hi]; rfl
      have hcell := hc i hiz
      rw [e] at hcell
      exact ⟨World.block_lt_of_cell? W _ hcell, hcell⟩
    · intro x hx
      have b1 := bounds_i64 (hw x (List.mem_of_mem_take hx))
      exact b1
    · rw [hd]
      simp only [Rows.uptoBulk]
      have := bulk_len (lits .i64 (zs.take len) : List (DataW H))
      have e : (lits .i64 (zs.take len) : List (DataW H)).length = (zs.take len).length := by simp [lits]
      omega

end Go.Proofs.Ytjpgnifogacpcaa
