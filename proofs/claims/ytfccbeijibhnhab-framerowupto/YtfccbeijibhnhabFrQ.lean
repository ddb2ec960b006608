/-
  Frames that came in: as a row hands them.
-/
import Derived.Test.YtfccbeijibhnhabFrX
import Derived.Test.YtfccbeijibhnhabRows
import Derived.Deep.Slices
import Derived.Deep.Strs
import Derived.RowKit
import Derived.ProofKit
import Derived.OpenShut
import Derived.Lib.SmallJoins
namespace Go.Proofs.Ytfccbeijibhnhab
open Go.RowKit Go.ChangeShapes Go.WideShapes Go.ChangeAt Go.Deep

/-- Frames as cells. -/
def fqC (l : List (Int × Int × Int × List UInt8)) : List Value := l.flatMap fun f => [.int .i64 f.1, .int .i64 f.2.1, .int .i64 f.2.2.1, .string ⟨f.2.2.2.toArray⟩]
theorem fqC_length (l : List (Int × Int × Int × List UInt8)) : (fqC l).length = l.length * 4 := by
  induction l with
  | nil => rfl
  | cons a r ih => simp [fqC] at *; omega
theorem fqC_snoc (l : List (Int × Int × Int × List UInt8)) (k fl st : Int) (s : List UInt8) : fqC (l ++ [(k, fl, st, s)]) = fqC l ++ [.int .i64 k, .int .i64 fl, .int .i64 st, .string ⟨s.toArray⟩] := by simp [fqC]
theorem fqC_at (l : List (Int × Int × Int × List UInt8)) (i : Nat) (f : Int × Int × Int × List UInt8) (h : l[i]? = some f) : (fqC l)[i * 4]? = some (.int .i64 f.1) ∧ (fqC l)[i * 4 + 1]? = some (.int .i64 f.2.1) ∧ (fqC l)[i * 4 + 2]? = some (.int .i64 f.2.2.1) ∧ (fqC l)[i * 4 + 3]? = some (.string ⟨f.2.2.2.toArray⟩) := by
  induction l generalizing i with
  | nil => simp at h
  | cons a r ih =>
    have e : fqC (a :: r) = [.int .i64 a.1, .int .i64 a.2.1, .int .i64 a.2.2.1, .string ⟨a.2.2.2.toArray⟩] ++ fqC r := rfl
    cases i with
    | zero => simp at h; subst h; rw [e]; simp
    | succ i =>
      obtain ⟨h0, h1, h2, h3⟩ := ih i (by simpa using h)
      rw [e]
      refine ⟨?_, ?_, ?_, ?_⟩
      · rw [List.getElem?_append_right (by simp; omega)]; simpa [show (i + 1) * 4 - 4 = i * 4 by omega] using h0
      · rw [List.getElem?_append_right (by simp; omega)]; simpa [show (i + 1) * 4 + 1 - 4 = i * 4 + 1 by omega] using h1
      · rw [List.getElem?_append_right (by simp; omega)]; simpa [show (i + 1) * 4 + 2 - 4 = i * 4 + 2 by omega] using h2
      · rw [List.getElem?_append_right (by simp; omega)]; simpa [show (i + 1) * 4 + 3 - 4 = i * 4 + 3 by omega] using h3
/-- Frames that can be read. -/
def FR (w : World) (v : Value) (l : List (Int × Int × Int × List UInt8)) : Prop :=
  (v = .slice none 0 0 ∧ l = []) ∨ ∃ a cap, v = .slice (some a) l.length cap ∧ ∀ j u, (fqC l)[j]? = some u → (a.add j).block < w.heap.size ∧ w.cell? (a.add j) = some u
theorem FR.keep {w w' : World} {v : Value} {l : List (Int × Int × Int × List UInt8)} (h : FR w v l) (hb : Below w.heap.size w w') : FR w' v l := by
  rcases h with h | ⟨a, cap, hv, hc⟩
  · exact .inl h
  · exact .inr ⟨a, cap, hv, fun j u hj => ⟨Nat.lt_of_lt_of_le (hc j u hj).1 hb.size, (hb.cell (hc j u hj).1).trans (hc j u hj).2⟩⟩
theorem FR.shape {w : World} {v : Value} {l : List (Int × Int × Int × List UInt8)} (h : FR w v l) : ∃ ao cap, v = .slice ao l.length cap := by
  rcases h with ⟨h, rfl⟩ | ⟨a, cap, h, _⟩
  · exact ⟨none, 0, h⟩
  · exact ⟨some a, cap, h⟩
theorem FR.four {w : World} {ao : Option Addr} {n cap : Nat} {l : List (Int × Int × Int × List UInt8)} (h : FR w (.slice ao n cap) l) (i : Nat) (f : Int × Int × Int × List UInt8) (hf : l[i]? = some f) : ∃ a, ao = some a ∧ w.cell? (a.add (i * 4)) = some (.int .i64 f.1) ∧ w.cell? ⟨(a.add (i * 4)).block, (a.add (i * 4)).off + 1, none⟩ = some (.int .i64 f.2.1) ∧ w.cell? ⟨(a.add (i * 4)).block, (a.add (i * 4)).off + 2, none⟩ = some (.int .i64 f.2.2.1) ∧ w.cell? ⟨(a.add (i * 4)).block, (a.add (i * 4)).off + 3, none⟩ = some (.string ⟨f.2.2.2.toArray⟩) := by
  rcases h with ⟨_, rfl⟩ | ⟨a, cap', hv, hc⟩
  · simp at hf
  · injection hv with h1 _ _
    obtain ⟨e0, e1, e2, e3⟩ := fqC_at _ _ _ hf
    refine ⟨a, h1, (hc _ _ e0).2, ?_, ?_, ?_⟩
    · have := (hc _ _ e1).2
      rw [← Addr.add_add] at this
      simpa [Addr.add] using this
    · have := (hc _ _ e2).2
      rw [← Addr.add_add] at this
      simpa [Addr.add] using this
    · have := (hc _ _ e3).2
      rw [← Addr.add_add] at this
      simpa [Addr.add] using this
theorem FR.of_own {w : World} {B : Nat} {v : Value} {l : List (Int × Int × Int × List UInt8)} (h : w.ownsRow B 29 4 v l.length (fqC l)) : FR w v l := by
  rcases h.2 with ⟨hv, hn⟩ | ⟨g, cap, cur, hv, _, h3, _⟩
  · exact .inl ⟨hv, List.eq_nil_of_length_eq_zero hn⟩
  · refine .inr ⟨⟨g, 0, none⟩, cap, hv, fun j u hj => ⟨?_, ?_⟩⟩
    · have := (Array.getElem?_eq_some_iff.1 h3).1
      unfold Addr.add
      split <;> exact this
    · exact h.cells (g := g) (by rw [hv]; rfl) j u hj

/-- What a frame reads as. -/
def fqD {H : Type} (f : Int × Int × Int × List UInt8) : DataW H := .agg [.lit (.int .i64 f.1), .lit (.int .i64 f.2.1), .lit (.int .i64 f.2.2.1), .lit (.string f.2.2.2)]
set_option maxRecDepth 100000 in
theorem fqs_bulk {H : Type} (l : List (Int × Int × Int × List UInt8)) : l.length ≤ Rows.uptoBulkAll (l.map fqD : List (DataW H)) ∧ ∀ f ∈ l, f.2.2.2.length ≤ Rows.uptoBulkAll (l.map fqD : List (DataW H)) := by
  induction l with
  | nil => exact ⟨Nat.zero_le _, fun f hf => by cases hf⟩
  | cons x r ih =>
    have e : x.2.2.2.length + 1 + Rows.uptoBulkAll (r.map fqD : List (DataW H)) ≤ Rows.uptoBulkAll ((x :: r).map fqD : List (DataW H)) := by
      simp only [List.map_cons, Rows.uptoBulkAll, fqD, Rows.uptoBulk]; omega
    refine ⟨by have := ih.1; rw [List.length_cons]; omega, fun f hf => ?_⟩
    rcases List.mem_cons.1 hf with rfl | h
    · omega
    · have := ih.2 f h; omega
theorem cells4 {w : World} {p : Addr} {cs : List Value} (h : w.cells? 0 p 4 = some cs) : ∃ v0 v1 v2 v3, cs = [v0, v1, v2, v3] ∧ w.cell? p = some v0 ∧ w.cell? (p.add 1) = some v1 ∧ w.cell? (p.add 2) = some v2 ∧ w.cell? (p.add 3) = some v3 := by
  obtain ⟨_, hl, hc⟩ := World.cells?_some h
  match cs, hl with
  | [v0, v1, v2, v3], _ =>
    refine ⟨v0, v1, v2, v3, rfl, ?_, ?_, ?_, ?_⟩
    · simpa [Addr.add] using hc 0 (by omega)
    · simpa using hc 1 (by omega)
    · simpa using hc 2 (by omega)
    · simpa using hc 3 (by omega)

set_option maxRecDepth 100000 in
theorem open_framesAt {H : Type} {enc : TypeId × Value → H} {W : World} {fuel : Nat} {ao : Option Addr} {len cap : Nat} {x : DataW H × List MemPlace} (hf : DataW.trod enc Try.prog W 0 (fun _ => true) true fuel 43 [.slice ao len cap] = some x) :
    ∃ l : List (Int × Int × Int × List UInt8), FR W (.slice ao len cap) l ∧ (∀ f ∈ l, f.2.2.2.length ≤ Rows.uptoBulk x.1) ∧ l.length ≤ Rows.uptoBulk x.1 := by
  have c4 : Try.prog.cellsOf 29 = 4 := by kernel_rfl
  have c3 : Try.prog.cellsOf 9 = 1 := by kernel_rfl
  have c1 : Try.prog.cellsOf 3 = 1 := by kernel_rfl
  rcases open_slice Try.underlying43 hf with ⟨h1, h2⟩ | ⟨a', len', cap', m, n, D, Pl, h1, _, hlc, hcm, hm, hx, hel⟩
  · simp only [List.cons.injEq, and_true] at h1
    injection h1 with e1 e2 e3
    subst e1 e2 e3
    exact ⟨[], .inl ⟨rfl, rfl⟩, (fun f hf => by cases hf), Nat.zero_le _⟩
  · simp only [List.cons.injEq, and_true] at h1
    injection h1 with e1 e2 e3
    subst e1 e2 e3
    simp only [if_true] at hm
    rw [hm] at hel hx
    have hch : ∀ i, ∃ f : Int × Int × Int × List UInt8, i < len → (((a'.add (i * 4)).block < W.heap.size ∧ W.cell? (a'.add (i * 4)) = some (.int .i64 f.1)) ∧ W.cell? ((a'.add (i * 4)).add 1) = some (.int .i64 f.2.1) ∧ W.cell? ((a'.add (i * 4)).add 2) = some (.int .i64 f.2.2.1) ∧ W.cell? ((a'.add (i * 4)).add 3) = some (.string ⟨f.2.2.2.toArray⟩)) ∧ D i = fqD f := by
      intro i
      by_cases hi : i < len
      · obtain ⟨cs', hc, ht⟩ := hel i (by omega)
        rw [c4] at hc
        obtain ⟨v0, v1, v2, v3, rfl, k0, k1, k2, k3⟩ := cells4 hc
        obtain ⟨z0, z1, z2, z3, m2, e, _, g0, g1, g2, g3⟩ := Go.Joins.trod_struct4 Try.underlying29 ht
        simp only [c3, c1, List.drop_zero, List.take_succ_cons, List.take_zero, List.drop_succ_cons] at g0 g1 g2 g3
        obtain ⟨i0, f0, rfl, _⟩ := DataW.trod_int Try.underlying3 g0
        obtain ⟨i1, f1, rfl, _⟩ := DataW.trod_int Try.underlying3 g1
        obtain ⟨i2, f2, rfl, _⟩ := DataW.trod_int Try.underlying3 g2
        obtain ⟨s3, f3, rfl, _⟩ := DataW.trod_string Try.underlying9 g3
        simp only [List.cons.injEq, and_true] at f0 f1 f2 f3
        subst f0 f1 f2 f3
        exact ⟨(i0, i1, i2, s3.data.toList), fun _ => ⟨⟨⟨World.cells?_block hc (by omega), k0⟩, k1, k2, k3⟩, (Prod.mk.inj e).1⟩⟩
      · exact ⟨(0, 0, 0, []), fun h => absurd h hi⟩
    obtain ⟨f, hf'⟩ := Classical.axiomOfChoice hch
    have hd : x.1 = .slice (((List.range len).map f).map fqD) ((List.range (cap - len)).map fun j => D (len + j)) := by
      rw [hx]
      simp only
      congr 1
      rw [List.map_map]
      apply List.map_congr_left
      intro i hi
      exact (hf' i (by simpa using hi)).2
    have hb := fqs_bulk (H := H) ((List.range len).map f)
    have hdb : Rows.uptoBulkAll (((List.range len).map f).map fqD : List (DataW H)) ≤ Rows.uptoBulk x.1 := by rw [hd]; simp only [Rows.uptoBulk]; omega
    refine ⟨(List.range len).map f, .inr ⟨a', cap, by simp, ?_⟩, fun g hg => Nat.le_trans (hb.2 g hg) hdb, Nat.le_trans hb.1 hdb⟩
    intro j u hj
    have hjl : j < len * 4 := by
      have := (List.getElem?_eq_some_iff.1 hj).1
      rw [fqC_length] at this
      simpa using this
    have hi : j / 4 < len := by omega
    have hfi : ((List.range len).map f)[j / 4]? = some (f (j / 4)) := by simp [List.getElem?_map, List.getElem?_range hi]
    obtain ⟨e0, e1, e2, e3⟩ := fqC_at _ _ _ hfi
    obtain ⟨⟨⟨p0, p1⟩, p2, p3, p4⟩, _⟩ := hf' (j / 4) hi
    have hj4 : j % 4 = 0 ∨ j % 4 = 1 ∨ j % 4 = 2 ∨ j % 4 = 3 := by omega
    rcases hj4 with hm2 | hm2 | hm2 | hm2
    · have ej : j = j / 4 * 4 := by omega
      rw [ej] at hj ⊢
      rw [e0] at hj
      rw [← Option.some.inj hj]
      exact ⟨p0, p1⟩
    · have ej : j = j / 4 * 4 + 1 := by omega
      rw [ej] at hj ⊢
      rw [e1] at hj
      rw [← Option.some.inj hj, ← Addr.add_add]
      exact ⟨World.block_lt_of_cell? W _ p2, p2⟩
    · have ej : j = j / 4 * 4 + 2 := by omega
      rw [ej] at hj ⊢
      rw [e2] at hj
      rw [← Option.some.inj hj, ← Addr.add_add]
      exact ⟨World.block_lt_of_cell? W _ p3, p3⟩
    · have ej : j = j / 4 * 4 + 3 := by omega
      rw [ej] at hj ⊢
      rw [e3] at hj
      rw [← Option.some.inj hj, ← Addr.add_add]
      exact ⟨World.block_lt_of_cell? W _ p4, p4⟩

set_option maxRecDepth 100000 in
theorem open_frames {H : Type} {enc : TypeId × Value → H} {W : World} {base : Nat} {v : Value} {d : DataW H} {p : List MemPlace} (hval : Value.okWide Try.prog W .any base 43 v) (h : DataW.Trod enc Try.prog W 0 (fun _ => true) true 43 v d p) :
    ∃ l : List (Int × Int × Int × List UInt8), FR W v l ∧ (∀ f ∈ l, f.2.2.2.length ≤ Rows.uptoBulk d) ∧ l.length ≤ Rows.uptoBulk d := by
  obtain ⟨a, len, cap, rfl⟩ := okWide_slice Try.underlying43 hval
  obtain ⟨fuel, hf⟩ := h
  obtain ⟨l, h1, h2, h3⟩ := open_framesAt (x := (d, p)) (by simpa [Value.cells] using hf)
  exact ⟨l, h1, h2, h3⟩

end Go.Proofs.Ytfccbeijibhnhab
