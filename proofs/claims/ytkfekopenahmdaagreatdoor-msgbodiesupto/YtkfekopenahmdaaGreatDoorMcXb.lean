/-
  A request and a response that came in: as a row hands them.
-/
import Derived.Test.YtkfekopenahmdaaGreatDoorMcV
import Derived.Test.YtkfekopenahmdaaGreatDoorMsDI
import Derived.Test.YtkfekopenahmdaaGreatDoorMcDE
import Derived.Lib.SmallJoins
namespace Go.Proofs.YtkfekopenahmdaaGreatDoor
open Go.RowKit Go.ChangeShapes Go.WideShapes Go.ChangeAt Go.Deep Go.Joins

theorem array7b {α : Type} {cs : Array α} (h : cs.size = 7) : ∃ c0 c1 c2 c3 c4 c5 c6, cs = #[c0, c1, c2, c3, c4, c5, c6] := by
  obtain ⟨l⟩ := cs
  match l, h with
  | [c0, c1, c2, c3, c4, c5, c6], _ => exact ⟨c0, c1, c2, c3, c4, c5, c6, rfl⟩
theorem open_agg7 {H : Type} {enc : TypeId × Value → H} {P : Program} {w : World} {base : Nat} {spare : Nat → Bool} {held : Bool} {r : Reach} {b0 : Nat} {t : TypeId} {f0 f1 f2 f3 f4 f5 f6 : Field} {v : Value} {d : DataW H} {p : List MemPlace} (hs : P.underlying t = some (.struct #[f0, f1, f2, f3, f4, f5, f6])) (hone : oneCellFields P #[f0, f1, f2, f3, f4, f5, f6] = true) (hC : P.cellsOf t = 7)
    (hv : Value.okWide P w r b0 t v) (h : DataW.Trod enc P w base spare held t v d p) :
    ∃ (v0 v1 v2 v3 v4 v5 v6 : Value) (y0 y1 y2 y3 y4 y5 y6 : DataW H × List MemPlace) (n : Nat), v = .agg #[v0, v1, v2, v3, v4, v5, v6] ∧ d = .agg [y0.1, y1.1, y2.1, y3.1, y4.1, y5.1, y6.1] ∧
      DataW.trod enc P w base spare held n f0.type [v0] = some y0 ∧ DataW.trod enc P w base spare held n f1.type [v1] = some y1 ∧ DataW.trod enc P w base spare held n f2.type [v2] = some y2 ∧ DataW.trod enc P w base spare held n f3.type [v3] = some y3 ∧ DataW.trod enc P w base spare held n f4.type [v4] = some y4 ∧ DataW.trod enc P w base spare held n f5.type [v5] = some y5 ∧ DataW.trod enc P w base spare held n f6.type [v6] = some y6 := by
  obtain ⟨cs, rfl, hsz⟩ := okWide_struct hs hv
  obtain ⟨c0, c1, c2, c3, c4, c5, c6, rfl⟩ := array7b (hsz.trans hC)
  obtain ⟨fuel, hf⟩ := h
  obtain ⟨xs, n, _, hx, hl, hlen, hfs⟩ := DataW.trod_struct hs hf
  match xs, hlen with
  | [y0, y1, y2, y3, y4, y5, y6], _ =>
    obtain ⟨o0, k0⟩ := hone_of hone 0 f0 rfl
    obtain ⟨o1, k1⟩ := hone_of hone 1 f1 rfl
    obtain ⟨o2, k2⟩ := hone_of hone 2 f2 rfl
    obtain ⟨o3, k3⟩ := hone_of hone 3 f3 rfl
    obtain ⟨o4, k4⟩ := hone_of hone 4 f4 rfl
    obtain ⟨o5, k5⟩ := hone_of hone 5 f5 rfl
    obtain ⟨o6, k6⟩ := hone_of hone 6 f6 rfl
    simp only [Prod.mk.injEq] at hx
    exact ⟨c0, c1, c2, c3, c4, c5, c6, y0, y1, y2, y3, y4, y5, y6, n, rfl, hx.1, by simpa [Value.cells, o0, k0] using hfs 0 f0 rfl, by simpa [Value.cells, o1, k1] using hfs 1 f1 rfl, by simpa [Value.cells, o2, k2] using hfs 2 f2 rfl, by simpa [Value.cells, o3, k3] using hfs 3 f3 rfl, by simpa [Value.cells, o4, k4] using hfs 4 f4 rfl, by simpa [Value.cells, o5, k5] using hfs 5 f5 rfl, by simpa [Value.cells, o6, k6] using hfs 6 f6 rfl⟩
theorem slice_shape14 {H : Type} {enc : TypeId × Value → H} {W : World} {n : Nat} {v : Value} {y : DataW H × List MemPlace} (g : DataW.trod enc Tryz.prog W 0 (fun _ => true) true n 22 [v] = some y) : ∃ a len cap, v = .slice a len cap := by
  rcases open_slice Tryz.underlying22 g with ⟨h1, _⟩ | ⟨a', len', cap', _, _, _, _, h1, _⟩
  · simp only [List.cons.injEq, and_true] at h1
    exact ⟨_, _, _, h1⟩
  · simp only [List.cons.injEq, and_true] at h1
    exact ⟨_, _, _, h1⟩
set_option maxRecDepth 100000 in
theorem open_request14 {H : Type} {enc : TypeId × Value → H} {W : World} {base : Nat} {v : Value} {d : DataW H} {p : List MemPlace} (hval : Value.okWide Tryz.prog W .any base 25 v) (h : DataW.Trod enc Tryz.prog W 0 (fun _ => true) true 25 v d p) :
    ∃ (m s a q b : ByteArray) (fv : Value) (ta : Option Addr) (tn tc : Nat) (l : List Fd), v = .agg (rqC m s a q fv b (.slice ta tn tc)) ∧ FW W fv l ∧ l.length ≤ Rows.uptoBulk d ∧ ∀ f ∈ l, f.n.size ≤ Rows.uptoBulk d ∧ f.v.size ≤ Rows.uptoBulk d := by
  obtain ⟨x0, x1, x2, x3, x4, x5, x6, y0, y1, y2, y3, y4, y5, y6, n, rfl, rfl, g0, g1, g2, g3, g4, g5, g6⟩ := open_agg7 Tryz.underlying25 (by kernel_rfl) (by kernel_rfl) hval h
  obtain ⟨s0, f0, _, _⟩ := DataW.trod_string Tryz.underlying9 g0
  obtain ⟨s1, f1, _, _⟩ := DataW.trod_string Tryz.underlying9 g1
  obtain ⟨s2, f2, _, _⟩ := DataW.trod_string Tryz.underlying9 g2
  obtain ⟨s3, f3, _, _⟩ := DataW.trod_string Tryz.underlying9 g3
  obtain ⟨s5, f5, _, _⟩ := DataW.trod_string Tryz.underlying9 g5
  simp only [List.cons.injEq, and_true] at f0 f1 f2 f3 f5
  subst f0 f1 f2 f3 f5
  obtain ⟨a, len, cap, rfl⟩ := slice_shape14 g4
  obtain ⟨ta, tn, tc, rfl⟩ := slice_shape14 g6
  obtain ⟨l, h1, h2, h3, _⟩ := open_fieldsAt g4
  have hbk : Rows.uptoBulk y4.1 ≤ Rows.uptoBulk (.agg [y0.1, y1.1, y2.1, y3.1, y4.1, y5.1, y6.1] : DataW H) := by simp only [Rows.uptoBulk, Rows.uptoBulkAll]; omega
  exact ⟨s0, s1, s2, s3, s5, _, ta, tn, tc, l, rfl, h1, by omega, fun f hf => by have := h2 f hf; omega⟩
set_option maxRecDepth 100000 in
theorem open_response14 {H : Type} {enc : TypeId × Value → H} {W : World} {base : Nat} {v : Value} {d : DataW H} {p : List MemPlace} (hval : Value.okWide Tryz.prog W .any base 35 v) (h : DataW.Trod enc Tryz.prog W 0 (fun _ => true) true 35 v d p) :
    ∃ (st : Int) (b : ByteArray) (fv : Value) (ta : Option Addr) (tn tc : Nat) (l : List Fd), v = .agg (rpC st fv b (.slice ta tn tc)) ∧ FW W fv l ∧ l.length ≤ Rows.uptoBulk d ∧ ∀ f ∈ l, f.n.size ≤ Rows.uptoBulk d ∧ f.v.size ≤ Rows.uptoBulk d := by
  obtain ⟨x0, x1, x2, x3, y0, y1, y2, y3, n, rfl, rfl, _, g0, g1, g2, g3⟩ := open_agg4 Tryz.underlying35 (by kernel_rfl) (by kernel_rfl) hval h
  obtain ⟨s0, f0, _, _⟩ := DataW.trod_int Tryz.underlying3 g0
  obtain ⟨s2, f2, _, _⟩ := DataW.trod_string Tryz.underlying9 g2
  simp only [List.cons.injEq, and_true] at f0 f2
  subst f0 f2
  obtain ⟨a, len, cap, rfl⟩ := slice_shape14 g1
  obtain ⟨ta, tn, tc, rfl⟩ := slice_shape14 g3
  obtain ⟨l, h1, h2, h3, _⟩ := open_fieldsAt g1
  have hbk : Rows.uptoBulk y1.1 ≤ Rows.uptoBulk (.agg [y0.1, y1.1, y2.1, y3.1] : DataW H) := by simp only [Rows.uptoBulk, Rows.uptoBulkAll]; omega
  exact ⟨s0, s2, _, ta, tn, tc, l, rfl, h1, by omega, fun f hf => by have := h2 f hf; omega⟩

end Go.Proofs.YtkfekopenahmdaaGreatDoor
