/-
  Parts and heads that came in: as a row hands them.
  Parts that came in, and how great they can be.
-/
import Derived.Test.YthbidfcfkjamdaaFrS
import Derived.Test.YthbidfcfkjamdaaRows
import Derived.Deep.Slices
import Derived.Deep.Strs
import Derived.RowKit
import Derived.ProofKit
import Derived.OpenShut
import Derived.Lib.SmallJoins
import Derived.Test.YthbidfcfkjamdaaFrEq
import Derived.SizedLaws
namespace Go.Proofs.Ythbidfcfkjamdaa
open Go.RowKit Go.ChangeShapes Go.WideShapes Go.ChangeAt Go.Deep Go.Joins

theorem cells2s {w : World} {p : Addr} {cs : List Value} (h : w.cells? 0 p 2 = some cs) : ∃ v0 v1, cs = [v0, v1] ∧ w.cell? p = some v0 ∧ w.cell? (p.add 1) = some v1 := by
  obtain ⟨_, hl, hc⟩ := World.cells?_some h
  match cs, hl with
  | [v0, v1], _ =>
    refine ⟨v0, v1, rfl, ?_, ?_⟩
    · simpa [Addr.add] using hc 0 (by omega)
    · simpa using hc 1 (by omega)

set_option maxRecDepth 100000 in
theorem open_setsAt {H : Type} {enc : TypeId × Value → H} {W : World} {fuel : Nat} {v : Value} {x : DataW H × List MemPlace} (hf : DataW.trod enc Try.prog W 0 (fun _ => true) true fuel 25 [v] = some x) :
    ∃ l : List (Int × Int), SR W v l := by
  have c4 : Try.prog.cellsOf 29 = 2 := by kernel_rfl
  have c1 : Try.prog.cellsOf 3 = 1 := by kernel_rfl
  rcases open_slice Try.underlying25 hf with ⟨h1, h2⟩ | ⟨a', len, cap, m, n, D, Pl, h1, _, hlc, hcm, hm, hx, hel⟩
  · simp only [List.cons.injEq, and_true] at h1
    exact ⟨[], .inl ⟨h1, rfl⟩⟩
  · simp only [List.cons.injEq, and_true] at h1
    subst h1
    simp only [if_true] at hm
    rw [hm] at hel
    have hch : ∀ i, ∃ f : Int × Int, i < len → (((a'.add (i * 2)).block < W.heap.size ∧ W.cell? (a'.add (i * 2)) = some (.int .i64 f.1)) ∧ W.cell? ((a'.add (i * 2)).add 1) = some (.int .i64 f.2)) := by
      intro i
      by_cases hi : i < len
      · obtain ⟨cs', hc, ht⟩ := hel i (by omega)
        rw [c4] at hc
        obtain ⟨v0, v1, rfl, k0, k1⟩ := cells2s hc
        obtain ⟨z0, z1, m2, e, _, g0, g1⟩ := trod_struct2 Try.underlying29 ht
        simp only [c1, List.drop_zero, List.take_succ_cons, List.take_zero, List.drop_succ_cons] at g0 g1
        obtain ⟨i0, f0, rfl, _⟩ := DataW.trod_int Try.underlying3 g0
        obtain ⟨i1, f1, rfl, _⟩ := DataW.trod_int Try.underlying3 g1
        simp only [List.cons.injEq, and_true] at f0 f1
        subst f0 f1
        exact ⟨(i0, i1), fun _ => ⟨⟨World.cells?_block hc (by omega), k0⟩, k1⟩⟩
      · exact ⟨(0, 0), fun h => absurd h hi⟩
    obtain ⟨f, hf'⟩ := Classical.axiomOfChoice hch
    refine ⟨(List.range len).map f, .inr ⟨a', cap, by simp, ?_⟩⟩
    intro j u hj
    have hjl : j < len * 2 := by
      have := (List.getElem?_eq_some_iff.1 hj).1
      rw [stCells_length] at this
      simpa using this
    have hi : j / 2 < len := by omega
    have hfi : ((List.range len).map f)[j / 2]? = some (f (j / 2)) := by simp [List.getElem?_map, List.getElem?_range hi]
    obtain ⟨e0, e1⟩ := st_at _ _ _ hfi
    obtain ⟨⟨p0, p1⟩, p2⟩ := hf' (j / 2) hi
    have hj4 : j % 2 = 0 ∨ j % 2 = 1 := by omega
    rcases hj4 with hm2 | hm2
    · have ej : j = j / 2 * 2 := by omega
      rw [ej] at hj ⊢
      rw [e0] at hj
      rw [← Option.some.inj hj]
      exact ⟨p0, p1⟩
    · have ej : j = j / 2 * 2 + 1 := by omega
      rw [ej] at hj ⊢
      rw [e1] at hj
      rw [← Option.some.inj hj, ← Addr.add_add]
      exact ⟨World.block_lt_of_cell? W _ p2, p2⟩

theorem array8 {α : Type} {cs : Array α} (h : cs.size = 8) : ∃ c0 c1 c2 c3 c4 c5 c6 c7, cs = #[c0, c1, c2, c3, c4, c5, c6, c7] := by
  obtain ⟨l⟩ := cs
  match l, h with
  | [c0, c1, c2, c3, c4, c5, c6, c7], _ => exact ⟨c0, c1, c2, c3, c4, c5, c6, c7, rfl⟩

theorem open_agg8 {H : Type} {enc : TypeId × Value → H} {P : Program} {w : World} {base : Nat} {spare : Nat → Bool} {held : Bool} {r : Reach} {b0 : Nat} {t : TypeId} {f0 f1 f2 f3 f4 f5 f6 f7 : Field} {v : Value} {d : DataW H} {p : List MemPlace} (hs : P.underlying t = some (.struct #[f0, f1, f2, f3, f4, f5, f6, f7])) (hone : oneCellFields P #[f0, f1, f2, f3, f4, f5, f6, f7] = true) (hC : P.cellsOf t = 8)
    (hv : Value.okWide P w r b0 t v) (h : DataW.Trod enc P w base spare held t v d p) :
    ∃ (v0 v1 v2 v3 v4 v5 v6 v7 : Value) (y0 y1 y2 y3 y4 y5 y6 y7 : DataW H × List MemPlace) (n : Nat), v = .agg #[v0, v1, v2, v3, v4, v5, v6, v7] ∧
      DataW.trod enc P w base spare held n f0.type [v0] = some y0 ∧ DataW.trod enc P w base spare held n f1.type [v1] = some y1 ∧ DataW.trod enc P w base spare held n f2.type [v2] = some y2 ∧ DataW.trod enc P w base spare held n f3.type [v3] = some y3 ∧ DataW.trod enc P w base spare held n f4.type [v4] = some y4 ∧ DataW.trod enc P w base spare held n f5.type [v5] = some y5 ∧ DataW.trod enc P w base spare held n f6.type [v6] = some y6 ∧ DataW.trod enc P w base spare held n f7.type [v7] = some y7 := by
  obtain ⟨cs, rfl, hsz⟩ := okWide_struct hs hv
  obtain ⟨c0, c1, c2, c3, c4, c5, c6, c7, rfl⟩ := array8 (hsz.trans hC)
  obtain ⟨fuel, hf⟩ := h
  obtain ⟨xs, n, _, _, hl, hlen, hfs⟩ := DataW.trod_struct hs hf
  match xs, hlen with
  | [y0, y1, y2, y3, y4, y5, y6, y7], _ =>
    obtain ⟨o0, k0⟩ := hone_of hone 0 f0 rfl
    obtain ⟨o1, k1⟩ := hone_of hone 1 f1 rfl
    obtain ⟨o2, k2⟩ := hone_of hone 2 f2 rfl
    obtain ⟨o3, k3⟩ := hone_of hone 3 f3 rfl
    obtain ⟨o4, k4⟩ := hone_of hone 4 f4 rfl
    obtain ⟨o5, k5⟩ := hone_of hone 5 f5 rfl
    obtain ⟨o6, k6⟩ := hone_of hone 6 f6 rfl
    obtain ⟨o7, k7⟩ := hone_of hone 7 f7 rfl
    exact ⟨c0, c1, c2, c3, c4, c5, c6, c7, y0, y1, y2, y3, y4, y5, y6, y7, n, rfl, by simpa [Value.cells, o0, k0] using hfs 0 f0 rfl, by simpa [Value.cells, o1, k1] using hfs 1 f1 rfl, by simpa [Value.cells, o2, k2] using hfs 2 f2 rfl, by simpa [Value.cells, o3, k3] using hfs 3 f3 rfl, by simpa [Value.cells, o4, k4] using hfs 4 f4 rfl, by simpa [Value.cells, o5, k5] using hfs 5 f5 rfl, by simpa [Value.cells, o6, k6] using hfs 6 f6 rfl, by simpa [Value.cells, o7, k7] using hfs 7 f7 rfl⟩

set_option maxRecDepth 100000 in
theorem open_parts {H : Type} {enc : TypeId × Value → H} {W : World} {base : Nat} {v : Value} {d : DataW H} {p : List MemPlace} (hval : Value.okWide Try.prog W .any base 27 v) (h : DataW.Trod enc Try.prog W 0 (fun _ => true) true 27 v d p) :
    ∃ (q : Fm.Pt) (u : Value), v = .agg (ptC q u) ∧ SR W u q.sets := by
  obtain ⟨v0, v1, v2, v3, v4, v5, v6, v7, y0, y1, y2, y3, y4, y5, y6, y7, n, rfl, g0, g1, g2, g3, g4, g5, g6, g7⟩ := open_agg8 Try.underlying27 (by kernel_rfl) (by kernel_rfl) hval h
  obtain ⟨s0, f0, _, _⟩ := DataW.trod_string Try.underlying9 g0
  obtain ⟨i1, f1, _, _⟩ := DataW.trod_int Try.underlying3 g1
  obtain ⟨i2, f2, _, _⟩ := DataW.trod_int Try.underlying24 g2
  obtain ⟨i3, f3, _, _⟩ := DataW.trod_int Try.underlying3 g3
  obtain ⟨i4, f4, _, _⟩ := DataW.trod_int Try.underlying3 g4
  obtain ⟨b5, f5, _⟩ := DataW.trod_bool Try.underlying4 g5
  obtain ⟨i6, f6, _, _⟩ := DataW.trod_int Try.underlying3 g6
  obtain ⟨l, hl⟩ := open_setsAt g7
  simp only [List.cons.injEq, and_true] at f0 f1 f2 f3 f4 f5 f6
  subst f0 f1 f2 f3 f4 f5 f6
  exact ⟨⟨s0.data.toList, i1, i2, i3, i4, b5, i6, l⟩, v7, rfl, hl⟩

set_option maxRecDepth 100000 in
theorem open_head {H : Type} {enc : TypeId × Value → H} {W : World} {base : Nat} {v : Value} {d : DataW H} {p : List MemPlace} (hval : Value.okWide Try.prog W .any base 23 v) (h : DataW.Trod enc Try.prog W 0 (fun _ => true) true 23 v d p) :
    ∃ k fl st : Int, v = .agg #[.int .i64 k, .int .i64 fl, .int .i64 st] := by
  obtain ⟨x0, x1, x2, y0, y1, y2, m, rfl, _, _, g0, g1, g2⟩ := open_agg3 Try.underlying23 (by kernel_rfl) (by kernel_rfl) hval h
  obtain ⟨i0, f0, _, _⟩ := DataW.trod_int Try.underlying3 g0
  obtain ⟨i1, f1, _, _⟩ := DataW.trod_int Try.underlying3 g1
  obtain ⟨i2, f2, _, _⟩ := DataW.trod_int Try.underlying3 g2
  simp only [List.cons.injEq, and_true] at f0 f1 f2
  subst f0 f1 f2
  exact ⟨i0, i1, i2, rfl⟩

end Go.Proofs.Ythbidfcfkjamdaa

namespace Go.Proofs.Ythbidfcfkjamdaa
open Go.RowKit Go.ChangeShapes Go.WideShapes Go.ChangeAt Go.Deep

theorem sets_data {H : Type} {enc : TypeId × Value → H} {W : World} {fuel : Nat} {v : Value} {x : DataW H × List MemPlace} (hf : DataW.trod enc Try.prog W 0 (fun _ => true) true fuel 25 [v] = some x) {l : List (Int × Int)} (hl : SR W v l) :
    (x.1 = .nil ∧ l = []) ∨ ∃ elems spare, x.1 = .slice elems spare ∧ elems.length = l.length := by
  rcases open_slice Try.underlying25 hf with ⟨h1, h2⟩ | ⟨a', len, cap, m, n, D, Pl, h1, _, hlc, hcm, hm, hx, hel⟩
  · simp only [List.cons.injEq, and_true] at h1
    subst h1
    rcases hl with ⟨_, h⟩ | ⟨a, c, h, _⟩
    · exact .inl ⟨by rw [h2], h⟩
    · cases h
  · simp only [List.cons.injEq, and_true] at h1
    subst h1
    rcases hl with ⟨h, _⟩ | ⟨a, c, h, _⟩
    · cases h
    · injection h with _ h3 _
      exact .inr ⟨_, _, (Prod.mk.inj hx).1, by simp; omega⟩

theorem open_agg8d {H : Type} {enc : TypeId × Value → H} {P : Program} {w : World} {base : Nat} {spare : Nat → Bool} {held : Bool} {r : Reach} {b0 : Nat} {t : TypeId} {f0 f1 f2 f3 f4 f5 f6 f7 : Field} {v : Value} {d : DataW H} {p : List MemPlace} (hs : P.underlying t = some (.struct #[f0, f1, f2, f3, f4, f5, f6, f7])) (hone : oneCellFields P #[f0, f1, f2, f3, f4, f5, f6, f7] = true) (hC : P.cellsOf t = 8)
    (hv : Value.okWide P w r b0 t v) (h : DataW.Trod enc P w base spare held t v d p) :
    ∃ (v0 v1 v2 v3 v4 v5 v6 v7 : Value) (y0 y1 y2 y3 y4 y5 y6 y7 : DataW H × List MemPlace) (n : Nat), v = .agg #[v0, v1, v2, v3, v4, v5, v6, v7] ∧ d = .agg [y0.1, y1.1, y2.1, y3.1, y4.1, y5.1, y6.1, y7.1] ∧
      DataW.trod enc P w base spare held n f0.type [v0] = some y0 ∧ DataW.trod enc P w base spare held n f1.type [v1] = some y1 ∧ DataW.trod enc P w base spare held n f2.type [v2] = some y2 ∧ DataW.trod enc P w base spare held n f3.type [v3] = some y3 ∧ DataW.trod enc P w base spare held n f4.type [v4] = some y4 ∧ DataW.trod enc P w base spare held n f5.type [v5] = some y5 ∧ DataW.trod enc P w base spare held n f6.type [v6] = some y6 ∧ DataW.trod enc P w base spare held n f7.type [v7] = some y7 := by
  obtain ⟨cs, rfl, hsz⟩ := okWide_struct hs hv
  obtain ⟨c0, c1, c2, c3, c4, c5, c6, c7, rfl⟩ := array8 (hsz.trans hC)
  obtain ⟨fuel, hf⟩ := h
  obtain ⟨xs, n, _, hx, hl, hlen, hfs⟩ := DataW.trod_struct hs hf
  match xs, hlen, hx with
  | [y0, y1, y2, y3, y4, y5, y6, y7], _, hx =>
    obtain ⟨o0, k0⟩ := hone_of hone 0 f0 rfl
    obtain ⟨o1, k1⟩ := hone_of hone 1 f1 rfl
    obtain ⟨o2, k2⟩ := hone_of hone 2 f2 rfl
    obtain ⟨o3, k3⟩ := hone_of hone 3 f3 rfl
    obtain ⟨o4, k4⟩ := hone_of hone 4 f4 rfl
    obtain ⟨o5, k5⟩ := hone_of hone 5 f5 rfl
    obtain ⟨o6, k6⟩ := hone_of hone 6 f6 rfl
    obtain ⟨o7, k7⟩ := hone_of hone 7 f7 rfl
    exact ⟨c0, c1, c2, c3, c4, c5, c6, c7, y0, y1, y2, y3, y4, y5, y6, y7, n, rfl, (Prod.mk.inj hx).1, by simpa [Value.cells, o0, k0] using hfs 0 f0 rfl, by simpa [Value.cells, o1, k1] using hfs 1 f1 rfl, by simpa [Value.cells, o2, k2] using hfs 2 f2 rfl, by simpa [Value.cells, o3, k3] using hfs 3 f3 rfl, by simpa [Value.cells, o4, k4] using hfs 4 f4 rfl, by simpa [Value.cells, o5, k5] using hfs 5 f5 rfl, by simpa [Value.cells, o6, k6] using hfs 6 f6 rfl, by simpa [Value.cells, o7, k7] using hfs 7 f7 rfl⟩

/-- What parts are as data. -/
def PD {H : Type} (q : Fm.Pt) (d : DataW H) : Prop :=
  (q.code ≤ 9223372036854775807 ∧ q.last ≤ 9223372036854775807 ∧ q.more ≤ 9223372036854775807) ∧
  ∃ d1 d2 d3 d4 d5 d6 d7, d = .agg [.lit (.string q.data), d1, d2, d3, d4, d5, d6, d7] ∧ ((d7 = .nil ∧ q.sets = []) ∨ ∃ elems spare, d7 = .slice elems spare ∧ elems.length = q.sets.length)

set_option maxRecDepth 100000 in
theorem open_parts2 {H : Type} {enc : TypeId × Value → H} {W : World} {base : Nat} {v : Value} {d : DataW H} {p : List MemPlace} (hval : Value.okWide Try.prog W .any base 27 v) (h : DataW.Trod enc Try.prog W 0 (fun _ => true) true 27 v d p) :
    ∃ (q : Fm.Pt) (u : Value), v = .agg (ptC q u) ∧ SR W u q.sets ∧ PD q d := by
  obtain ⟨v0, v1, v2, v3, v4, v5, v6, v7, y0, y1, y2, y3, y4, y5, y6, y7, n, rfl, hd, g0, g1, g2, g3, g4, g5, g6, g7⟩ := open_agg8d Try.underlying27 (by kernel_rfl) (by kernel_rfl) hval h
  obtain ⟨s0, f0, e0, _⟩ := DataW.trod_string Try.underlying9 g0
  obtain ⟨i1, f1, _, _⟩ := DataW.trod_int Try.underlying3 g1
  obtain ⟨i2, f2, _, w2⟩ := DataW.trod_int Try.underlying24 g2
  obtain ⟨i3, f3, _, w3⟩ := DataW.trod_int Try.underlying3 g3
  obtain ⟨i4, f4, _, _⟩ := DataW.trod_int Try.underlying3 g4
  obtain ⟨b5, f5, _⟩ := DataW.trod_bool Try.underlying4 g5
  obtain ⟨i6, f6, _, w6⟩ := DataW.trod_int Try.underlying3 g6
  obtain ⟨l, hl⟩ := open_setsAt g7
  have hs := sets_data g7 hl
  simp only [List.cons.injEq, and_true] at f0 f1 f2 f3 f4 f5 f6
  subst f0 f1 f2 f3 f4 f5 f6
  refine ⟨⟨s0.data.toList, i1, i2, i3, i4, b5, i6, l⟩, v7, rfl, hl, ⟨(bounds_i64 w2).2, (bounds_i64 w3).2, (bounds_i64 w6).2⟩, y1.1, y2.1, y3.1, y4.1, y5.1, y6.1, y7.1, ?_, hs⟩
  rw [hd, e0]

/-- How great they are. -/
theorem parts_bound {H : Type} {ts : List TypeId} {ds : List (DataW H)} {d : DataW H} {q : Fm.Pt} (hsz : (DataW.weightsEach Try.prog ts ds).all (· ≤ reachBytes) = true) {j : Nat} (ht : ts[j]? = some 27) (hd : ds[j]? = some d) (hq : PD q d) : Fm.Bd q ∧ q.sets.length ≤ 8796093022207 := by
  obtain ⟨⟨b1, b2, b3⟩, d1, d2, d3, d4, d5, d6, d7, rfl, h7⟩ := hq
  have hr := reachBytes_lt
  have hw : (DataW.weightsEach Try.prog [9, 3, 24, 3, 3, 4, 3, 25] [.lit (.string q.data), d1, d2, d3, d4, d5, d6, d7]).all (· ≤ reachBytes) = true := by
    rw [List.all_eq_true]
    intro n hn
    have hm : n ∈ (DataW.agg [.lit (.string q.data), d1, d2, d3, d4, d5, d6, d7] : DataW H).weights Try.prog 27 := by
      have e : (DataW.agg [.lit (.string q.data), d1, d2, d3, d4, d5, d6, d7] : DataW H).weights Try.prog 27 = DataW.weightsEach Try.prog [9, 3, 24, 3, 3, 4, 3, 25] [.lit (.string q.data), d1, d2, d3, d4, d5, d6, d7] := by
        rw [DataW.weights, Try.underlying27]
        rfl
      rw [e]
      exact hn
    exact List.all_eq_true.1 hsz _ (DataW.weights_mem_each ht hd n hm)
  have hda := sized_string hw (j := 0) (t := 9) rfl rfl
  have hse : q.sets.length ≤ 8796093022207 := by
    rcases h7 with ⟨_, h⟩ | ⟨elems, spare, rfl, hl⟩
    · rw [h]; simp
    · have hz := sized_slice hw (j := 7) (t := 25) (e := 29) rfl rfl Try.underlying25
      have hb : Try.prog.bytesOf 29 = 16 := by kernel_rfl
      rw [hb] at hz
      omega
  exact ⟨⟨b1, b2, b3, by omega, by omega⟩, hse⟩

end Go.Proofs.Ythbidfcfkjamdaa
