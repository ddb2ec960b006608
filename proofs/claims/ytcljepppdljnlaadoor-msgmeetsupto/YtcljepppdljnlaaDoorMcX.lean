/-
  An authority and fields that came in: as a row hands them.
-/
import Derived.Test.YtcljepppdljnlaaDoorMcV
import Derived.Lib.SmallJoins
namespace Go.Proofs.YtcljepppdljnlaaDoor
open Go.RowKit Go.ChangeShapes Go.WideShapes Go.ChangeAt Go.Deep Go.Joins

set_option maxRecDepth 100000 in
theorem open_parts14 {H : Type} {enc : TypeId × Value → H} {W : World} {base : Nat} {v : Value} {d : DataW H} {p : List MemPlace} (hval : Value.okWide Tryd.prog W .any base 36 v) (h : DataW.Trod enc Tryd.prog W 0 (fun _ => true) true 36 v d p) :
    ∃ (a : ByteArray) (u : Value) (l : List Fd), v = .agg #[.string a, u] ∧ FW W u l ∧ a.size ≤ Rows.uptoBulk d ∧ l.length + 2 ≤ Rows.uptoBulk d ∧ ∀ f ∈ l, f.n.size ≤ Rows.uptoBulk d ∧ f.v.size ≤ Rows.uptoBulk d := by
  obtain ⟨x0, x1, y0, y1, m, rfl, rfl, _, g0, g1⟩ := open_agg2 Tryd.underlying36 (by kernel_rfl) (by kernel_rfl) hval h
  obtain ⟨s0, f0, e0, _⟩ := DataW.trod_string Tryd.underlying9 g0
  simp only [List.cons.injEq, and_true] at f0
  subst f0
  have hsl : ∃ a len cap, x1 = .slice a len cap := by
    rcases open_slice Tryd.underlying22 g1 with ⟨h1, _⟩ | ⟨a', len', cap', _, _, _, _, h1, _⟩
    · simp only [List.cons.injEq, and_true] at h1
      exact ⟨_, _, _, h1⟩
    · simp only [List.cons.injEq, and_true] at h1
      exact ⟨_, _, _, h1⟩
  obtain ⟨a, len, cap, rfl⟩ := hsl
  obtain ⟨l, h1, h2, h3, _⟩ := open_fieldsAt g1
  have hbk : Rows.uptoBulk (.agg [y0.1, y1.1] : DataW H) = Rows.uptoBulk y0.1 + Rows.uptoBulk y1.1 + 1 := by simp only [Rows.uptoBulk, Rows.uptoBulkAll]; omega
  have hb0 : Rows.uptoBulk y0.1 = s0.size + 1 := by rw [e0]; simp only [Rows.uptoBulk]; rw [← Lib.size_eq]
  refine ⟨s0, _, l, rfl, h1, by rw [hbk]; omega, ?_, fun f hf => by have := h2 f hf; rw [hbk]; omega⟩
  rw [hbk, hb0]
  omega

end Go.Proofs.YtcljepppdljnlaaDoor
