/-
  Ranges that came in: a list of them, and one alone.
-/
import Derived.Test.YtdbldompjhienaaDoorRgE
import Derived.Test.YtdbldompjhienaaDoorRows
import Derived.Deep.Slices
import Derived.Deep.Strs
import Derived.SizedLaws
import Derived.RowKit
import Derived.ProofKit
import Derived.OpenShut
import Derived.Lib.SmallJoins
namespace Go.Proofs.YtdbldompjhienaaDoor
open Go.RowKit Go.ChangeShapes Go.WideShapes Go.ChangeAt Go.Deep Go.Joins

/-- What a range reads as. -/
def rgD16 {H : Type} (c : Rg.Rn) : DataW H := .agg [.lit (.int .i64 c.a), .lit (.int .i64 c.b)]
def Fit16 (c : Rg.Rn) : Prop := -9223372036854775808 ≤ c.a ∧ c.a ≤ 9223372036854775807 ∧ -9223372036854775808 ≤ c.b ∧ c.b ≤ 9223372036854775807
theorem cells216 {w : World} {p : Addr} {cs : List Value} (h : w.cells? 0 p 2 = some cs) : ∃ v0 v1, cs = [v0, v1] ∧ w.cell? p = some v0 ∧ w.cell? ⟨p.block, p.off + 1, none⟩ = some v1 := by
  obtain ⟨_, hl, hc⟩ := World.cells?_some h
  match cs, hl with
  | [v0, v1], _ =>
    refine ⟨v0, v1, rfl, ?_, ?_⟩
    · simpa [Addr.add] using hc 0 (by omega)
    · simpa [Addr.add] using hc 1 (by omega)
theorem fit16 {i : Int} (h : (Lit.int .i64 i).wf = true) : -9223372036854775808 ≤ i ∧ i ≤ 9223372036854775807 := by
  have e1 : IntKind.i64.min = -9223372036854775808 := rfl
  have e2 : IntKind.i64.max = 9223372036854775807 := rfl
  simp [Lit.wf, e1, e2] at h
  omega

set_option maxRecDepth 20000 in
theorem open_rg16 {H : Type} {enc : TypeId × Value → H} {W : World} {n : Nat} {v0 v1 : Value} {x : DataW H × List MemPlace} (h : DataW.trod enc Tryd.prog W 0 (fun _ => true) true n 23 [v0, v1] = some x) :
    ∃ c : Rg.Rn, v0 = .int .i64 c.a ∧ v1 = .int .i64 c.b ∧ Fit16 c ∧ x = (rgD16 c, []) := by
  obtain ⟨y0, y1, m, rfl, _, h0, h1⟩ := trod_struct2 Tryd.underlying23 h
  have c1 : Tryd.prog.cellsOf 3 = 1 := by kernel_rfl
  simp only [c1, List.drop_zero, List.take_succ_cons, List.take_zero, List.drop_succ_cons] at h0 h1
  obtain ⟨i0, e0, rfl, w0⟩ := DataW.trod_int Tryd.underlying3 h0
  obtain ⟨i1, e1, rfl, w1⟩ := DataW.trod_int Tryd.underlying3 h1
  simp only [List.cons.injEq, and_true] at e0 e1
  subst e0 e1
  exact ⟨⟨i0, i1⟩, rfl, rfl, ⟨(fit16 w0).1, (fit16 w0).2, (fit16 w1).1, (fit16 w1).2⟩, rfl⟩

set_option maxRecDepth 20000 in
theorem open_ranges16 {H : Type} {enc : TypeId × Value → H} {W : World} {base : Nat} {v : Value} {d : DataW H} {p : List MemPlace} (hval : Value.okWide Tryd.prog W .any base 24 v) (h : DataW.Trod enc Tryd.prog W 0 (fun _ => true) true 24 v d p) :
    ∃ (rs : List Rg.Rn) (ao : Option Addr) (cap : Nat), v = .slice ao rs.length cap ∧ rs.length ≤ cap ∧ RW16 W ao rs ∧ (∀ r ∈ rs, Fit16 r) ∧ ((d = .nil ∧ rs = [] ∧ ao = none ∧ cap = 0) ∨ ((∃ a, ao = some a) ∧ ∃ spare, d = .slice (rs.map rgD16) spare)) := by
  obtain ⟨a, len, cap, rfl⟩ := okWide_slice Tryd.underlying24 hval
  obtain ⟨fuel, hf⟩ := h
  have c4 : Tryd.prog.cellsOf 23 = 2 := by kernel_rfl
  rcases open_slice Tryd.underlying24 hf with ⟨h1, h2⟩ | ⟨a', len', cap', m, n, D, Pl, h1, _, hlc, hcm, hm, hx, hel⟩
  · simp [Value.cells] at h1 h2
    obtain ⟨rfl, rfl, rfl⟩ := h1
    exact ⟨[], none, 0, rfl, Nat.le_refl _, RW16.nil _ _, fun r hr => by simp at hr, .inl ⟨h2.1, rfl, rfl, rfl⟩⟩
  · simp [Value.cells] at h1
    obtain ⟨rfl, rfl, rfl⟩ := h1
    simp only [if_true] at hm
    rw [hm] at hel hx
    have hch : ∀ i, ∃ c : Rg.Rn, i < len → ((a'.add (i * 2)).block < W.heap.size ∧ W.cell? (a'.add (i * 2)) = some (.int .i64 c.a) ∧ W.cell? ⟨(a'.add (i * 2)).block, (a'.add (i * 2)).off + 1, none⟩ = some (.int .i64 c.b)) ∧ Fit16 c ∧ D i = rgD16 c := by
      intro i
      by_cases hi : i < len
      · obtain ⟨cs', hc, ht⟩ := hel i (by omega)
        rw [c4] at hc
        obtain ⟨v0, v1, rfl, k0, k1⟩ := cells216 hc
        obtain ⟨c, rfl, rfl, hfit, e⟩ := open_rg16 ht
        exact ⟨c, fun _ => ⟨⟨World.cells?_block hc (by omega), k0, k1⟩, hfit, (Prod.mk.inj e).1⟩⟩
      · exact ⟨⟨0, 0⟩, fun h => absurd h hi⟩
    obtain ⟨f, hf'⟩ := Classical.axiomOfChoice hch
    refine ⟨(List.range len).map f, some a', cap, by simp, by simpa using hlc, ?_, ?_, .inr ⟨⟨_, rfl⟩, ((List.range (cap - len)).map fun j => D (len + j)), ?_⟩⟩
    · intro i c hc
      have hi : i < len := by
        have := (List.getElem?_eq_some_iff.1 hc).1
        simpa using this
      have e : f i = c := by simpa [List.getElem?_map, List.getElem?_range hi] using hc
      rw [← e]
      exact ⟨a', rfl, (hf' i hi).1⟩
    · intro r hr
      obtain ⟨i, hi, rfl⟩ := List.mem_map.1 hr
      exact (hf' i (by simpa using hi)).2.1
    · rw [(Prod.mk.inj hx).1]
      congr 1
      rw [List.map_map]
      apply List.map_congr_left
      intro i hi
      exact (hf' i (by simpa using hi)).2.2

set_option maxRecDepth 100000 in
theorem open_range16 {H : Type} {enc : TypeId × Value → H} {W : World} {base : Nat} {v : Value} {d : DataW H} {p : List MemPlace} (hval : Value.okWide Tryd.prog W .any base 23 v) (h : DataW.Trod enc Tryd.prog W 0 (fun _ => true) true 23 v d p) :
    ∃ r : Rg.Rn, v = .agg #[.int .i64 r.a, .int .i64 r.b] ∧ Fit16 r := by
  obtain ⟨x0, x1, y0, y1, m, rfl, rfl, _, g0, g1⟩ := open_agg2 Tryd.underlying23 (by kernel_rfl) (by kernel_rfl) hval h
  obtain ⟨a, f0, _, w0⟩ := DataW.trod_int Tryd.underlying3 g0
  obtain ⟨b, f1, _, w1⟩ := DataW.trod_int Tryd.underlying3 g1
  simp only [List.cons.injEq, and_true] at f0 f1
  subst f0 f1
  exact ⟨⟨a, b⟩, rfl, (fit16 w0).1, (fit16 w0).2, (fit16 w1).1, (fit16 w1).2⟩

theorem bulk_len16 {H : Type} (l : List Rg.Rn) : l.length ≤ Rows.uptoBulkAll (l.map rgD16 : List (DataW H)) := by
  induction l with
  | nil => simp
  | cons a r ih =>
    have e : Rows.uptoBulkAll ((a :: r).map rgD16 : List (DataW H)) = 3 + Rows.uptoBulkAll (r.map rgD16 : List (DataW H)) := by
      simp only [List.map_cons, Rows.uptoBulkAll, rgD16, Rows.uptoBulk]
    rw [e, List.length_cons]; omega
/-- How great a list of ranges is. -/
theorem ranges_bulk16 {H : Type} {d : DataW H} {rs : List Rg.Rn} {ao : Option Addr} {cap : Nat} (h : (d = .nil ∧ rs = [] ∧ ao = none ∧ cap = 0) ∨ ((∃ a, ao = some a) ∧ ∃ spare, d = .slice (rs.map rgD16) spare)) : rs.length ≤ Rows.uptoBulk d := by
  rcases h with ⟨_, rfl, _⟩ | ⟨_, spare, rfl⟩
  · simp
  · have := bulk_len16 (H := H) rs
    simp only [Rows.uptoBulk]; omega
theorem ranges_none16 {H : Type} {d : DataW H} {rs : List Rg.Rn} {ao : Option Addr} {cap : Nat} (h : (d = .nil ∧ rs = [] ∧ ao = none ∧ cap = 0) ∨ ((∃ a, ao = some a) ∧ ∃ spare, d = .slice (rs.map rgD16) spare)) : ao = none → rs = [] ∧ cap = 0 := fun e => by
  rcases h with ⟨_, h1, _, h2⟩ | ⟨⟨a, h1⟩, _⟩
  · exact ⟨h1, h2⟩
  · rw [h1] at e; cases e

end Go.Proofs.YtdbldompjhienaaDoor
