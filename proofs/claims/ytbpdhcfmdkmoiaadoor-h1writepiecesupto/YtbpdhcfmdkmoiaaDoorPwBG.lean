/-
  What came in: as a row hands it (stage 22).
-/
import Derived.Test.YtbpdhcfmdkmoiaaDoorRows
import Derived.Deep.Slices
import Derived.Deep.Strs
import Derived.RowKit
import Derived.ProofKit
import Derived.OpenShut
import Derived.LaidMore
import Derived.Stop.LaidErr
import Derived.Deep.DeepHandedRow
import Derived.Lib.LaidTab
import Derived.Lib.ItoaNum
import Derived.Lib.SmallJoins
import Derived.Shelf.Vars
import Derived.Test.YtbpdhcfmdkmoiaaDoorPwAK
import Derived.Test.YtbpdhcfmdkmoiaaDoorPwAR
namespace Go.Proofs.YtbpdhcfmdkmoiaaDoor
open Go.RowKit Go.ChangeShapes Go.WideShapes Go.ChangeAt Go.Deep Go.Joins

/-- What a field reads as. -/
def fdD {H : Type} (f : Fd) : DataW H := .agg [.lit (.string f.n.data.toList), .lit (.string f.v.data.toList)]
set_option maxRecDepth 100000 in
theorem fds_bulk {H : Type} (l : List Fd) : l.length ≤ Rows.uptoBulkAll (l.map fdD : List (DataW H)) ∧ ∀ f ∈ l, f.n.size ≤ Rows.uptoBulkAll (l.map fdD : List (DataW H)) ∧ f.v.size ≤ Rows.uptoBulkAll (l.map fdD : List (DataW H)) := by
  induction l with
  | nil => exact ⟨Nat.zero_le _, fun f hf => by cases hf⟩
  | cons x r ih =>
    have e : Rows.uptoBulkAll ((x :: r).map fdD : List (DataW H)) = x.n.data.toList.length + x.v.data.toList.length + 3 + Rows.uptoBulkAll (r.map fdD : List (DataW H)) := by
      simp only [List.map_cons, Rows.uptoBulkAll, fdD, Rows.uptoBulk]; omega
    rw [e, ← Lib.size_eq, ← Lib.size_eq]
    refine ⟨by have := ih.1; rw [List.length_cons]; omega, fun f hf => ?_⟩
    rcases List.mem_cons.1 hf with rfl | h
    · omega
    · have := ih.2 f h; omega
set_option maxRecDepth 100000 in
theorem fds_size {H : Type} (l : List Fd) : Ms.size l ≤ 32 * Rows.uptoBulkAll (l.map fdD : List (DataW H)) := by
  induction l with
  | nil => exact Nat.zero_le _
  | cons x r ih =>
    have e : Rows.uptoBulkAll ((x :: r).map fdD : List (DataW H)) = x.n.data.toList.length + x.v.data.toList.length + 3 + Rows.uptoBulkAll (r.map fdD : List (DataW H)) := by
      simp only [List.map_cons, Rows.uptoBulkAll, fdD, Rows.uptoBulk]; omega
    rw [e, ← Lib.size_eq, ← Lib.size_eq, show Ms.size (x :: r) = Ms.wt x + Ms.size r from rfl]
    unfold Ms.wt
    omega
theorem cells2 {w : World} {p : Addr} {cs : List Value} (h : w.cells? 0 p 2 = some cs) : ∃ v0 v1, cs = [v0, v1] ∧ w.cell? p = some v0 ∧ w.cell? (p.add 1) = some v1 := by
  obtain ⟨_, hl, hc⟩ := World.cells?_some h
  match cs, hl with
  | [v0, v1], _ =>
    refine ⟨v0, v1, rfl, ?_, ?_⟩
    · simpa [Addr.add] using hc 0 (by omega)
    · simpa using hc 1 (by omega)

set_option maxRecDepth 100000 in
theorem open_fieldsAt {H : Type} {enc : TypeId × Value → H} {W : World} {fuel : Nat} {ao : Option Addr} {len cap : Nat} {x : DataW H × List MemPlace} (hf : DataW.trod enc Tryd.prog W 0 (fun _ => true) true fuel 22 [.slice ao len cap] = some x) :
    ∃ l : List Fd, FW W (.slice ao len cap) l ∧ (∀ f ∈ l, f.n.size ≤ Rows.uptoBulk x.1 ∧ f.v.size ≤ Rows.uptoBulk x.1) ∧ l.length ≤ Rows.uptoBulk x.1 ∧ Ms.size l ≤ 32 * Rows.uptoBulk x.1 := by
  have c2 : Tryd.prog.cellsOf 45 = 2 := by kernel_rfl
  have c3 : Tryd.prog.cellsOf 9 = 1 := by kernel_rfl
  rcases open_slice Tryd.underlying22 hf with ⟨h1, h2⟩ | ⟨a', len', cap', m, n, D, Pl, h1, _, hlc, hcm, hm, hx, hel⟩
  · simp only [List.cons.injEq, and_true] at h1
    injection h1 with e1 e2 e3
    subst e1 e2 e3
    exact ⟨[], .inl ⟨rfl, rfl⟩, (fun f hf => by cases hf), Nat.zero_le _, Nat.zero_le _⟩
  · simp only [List.cons.injEq, and_true] at h1
    injection h1 with e1 e2 e3
    subst e1 e2 e3
    simp only [if_true] at hm
    rw [hm] at hel hx
    have hch : ∀ i, ∃ f : Fd, i < len → (((a'.add (i * 2)).block < W.heap.size ∧ W.cell? (a'.add (i * 2)) = some (.string f.n)) ∧ W.cell? ((a'.add (i * 2)).add 1) = some (.string f.v)) ∧ D i = fdD f := by
      intro i
      by_cases hi : i < len
      · obtain ⟨cs', hc, ht⟩ := hel i (by omega)
        rw [c2] at hc
        obtain ⟨v0, v1, rfl, k0, k1⟩ := cells2 hc
        obtain ⟨z0, z1, m2, e, _, g0, g1⟩ := trod_struct2 Tryd.underlying45 ht
        simp only [c3, List.drop_zero, List.take_succ_cons, List.take_zero, List.drop_succ_cons] at g0 g1
        obtain ⟨s0, f0, rfl, _⟩ := DataW.trod_string Tryd.underlying9 g0
        obtain ⟨s1, f1, rfl, _⟩ := DataW.trod_string Tryd.underlying9 g1
        simp only [List.cons.injEq, and_true] at f0 f1
        subst f0 f1
        exact ⟨⟨s0, s1⟩, fun _ => ⟨⟨⟨World.cells?_block hc (by omega), k0⟩, k1⟩, (Prod.mk.inj e).1⟩⟩
      · exact ⟨⟨⟨#[]⟩, ⟨#[]⟩⟩, fun h => absurd h hi⟩
    obtain ⟨f, hf'⟩ := Classical.axiomOfChoice hch
    have hd : x.1 = .slice (((List.range len).map f).map fdD) ((List.range (cap - len)).map fun j => D (len + j)) := by
      rw [hx]
      simp only
      congr 1
      rw [List.map_map]
      apply List.map_congr_left
      intro i hi
      exact (hf' i (by simpa using hi)).2
    have hb := fds_bulk (H := H) ((List.range len).map f)
    have hdb : Rows.uptoBulkAll (((List.range len).map f).map fdD : List (DataW H)) ≤ Rows.uptoBulk x.1 := by rw [hd]; simp only [Rows.uptoBulk]; omega
    refine ⟨(List.range len).map f, .inr ⟨a', cap, by simp, by simpa using hlc, ?_⟩, fun g hg => ⟨Nat.le_trans (hb.2 g hg).1 hdb, Nat.le_trans (hb.2 g hg).2 hdb⟩, Nat.le_trans hb.1 hdb, by have := fds_size (H := H) ((List.range len).map f); omega⟩
    intro j u hj
    have hjl : j < len * 2 := by
      have := (List.getElem?_eq_some_iff.1 hj).1
      rw [fC_length] at this
      simpa using this
    have hi : j / 2 < len := by omega
    have hfi : ((List.range len).map f)[j / 2]? = some (f (j / 2)) := by simp [List.getElem?_map, List.getElem?_range hi]
    have e0 := f_at _ _ _ hfi 0 (by omega)
    have e1 := f_at _ _ _ hfi 1 (by omega)
    obtain ⟨⟨⟨p0, p1⟩, p2⟩, _⟩ := hf' (j / 2) hi
    rcases Nat.mod_two_eq_zero_or_one j with hm2 | hm2
    · have ej : j = j / 2 * 2 := by omega
      rw [ej] at hj ⊢
      rw [Nat.add_zero] at e0
      rw [e0] at hj
      rw [← Option.some.inj hj]
      exact ⟨p0, p1⟩
    · have ej : j = j / 2 * 2 + 1 := by omega
      rw [ej] at hj ⊢
      rw [e1] at hj
      rw [← Option.some.inj hj, ← Addr.add_add]
      exact ⟨World.block_lt_of_cell? W _ p2, p2⟩

theorem slice_shape22 {H : Type} {enc : TypeId × Value → H} {W : World} {n : Nat} {v : Value} {y : DataW H × List MemPlace} (g : DataW.trod enc Tryd.prog W 0 (fun _ => true) true n 22 [v] = some y) : ∃ a len cap, v = .slice a len cap := by
  rcases open_slice Tryd.underlying22 g with ⟨h1, _⟩ | ⟨a', len', cap', _, _, _, _, h1, _⟩
  · simp only [List.cons.injEq, and_true] at h1
    exact ⟨_, _, _, h1⟩
  · simp only [List.cons.injEq, and_true] at h1
    exact ⟨_, _, _, h1⟩
set_option maxRecDepth 100000 in
theorem open_response22 {H : Type} {enc : TypeId × Value → H} {W : World} {base : Nat} {v : Value} {d : DataW H} {p : List MemPlace} (hval : Value.okWide Tryd.prog W .any base 24 v) (h : DataW.Trod enc Tryd.prog W 0 (fun _ => true) true 24 v d p) :
    ∃ (st : Int) (b : ByteArray) (fv tv : Value) (fs ts : List Fd), v = .agg (rp22 st fv b tv) ∧ FW W fv fs ∧ FW W tv ts ∧ b.size ≤ Rows.uptoBulk d ∧ (fs.length ≤ Rows.uptoBulk d ∧ ∀ f ∈ fs, f.n.size ≤ Rows.uptoBulk d ∧ f.v.size ≤ Rows.uptoBulk d) ∧ (ts.length ≤ Rows.uptoBulk d ∧ ∀ f ∈ ts, f.n.size ≤ Rows.uptoBulk d ∧ f.v.size ≤ Rows.uptoBulk d) ∧ Ms.size fs ≤ 32 * Rows.uptoBulk d ∧ Ms.size ts ≤ 32 * Rows.uptoBulk d := by
  obtain ⟨x0, x1, x2, x3, y0, y1, y2, y3, n, rfl, rfl, _, g0, g1, g2, g3⟩ := open_agg4 Tryd.underlying24 (by kernel_rfl) (by kernel_rfl) hval h
  obtain ⟨s0, f0, _, _⟩ := DataW.trod_int Tryd.underlying3 g0
  obtain ⟨s2, f2, e2, _⟩ := DataW.trod_string Tryd.underlying9 g2
  simp only [List.cons.injEq, and_true] at f0 f2
  subst f0 f2
  obtain ⟨a, len, cap, rfl⟩ := slice_shape22 g1
  obtain ⟨ta, tn, tc, rfl⟩ := slice_shape22 g3
  obtain ⟨l, h1, h2, h3, h4⟩ := open_fieldsAt g1
  obtain ⟨l', k1, k2, k3, k4⟩ := open_fieldsAt g3
  have hb1 : Rows.uptoBulk y1.1 ≤ Rows.uptoBulk (.agg [y0.1, y1.1, y2.1, y3.1] : DataW H) := by simp only [Rows.uptoBulk, Rows.uptoBulkAll]; omega
  have hb3 : Rows.uptoBulk y3.1 ≤ Rows.uptoBulk (.agg [y0.1, y1.1, y2.1, y3.1] : DataW H) := by simp only [Rows.uptoBulk, Rows.uptoBulkAll]; omega
  have hb2 : s2.size ≤ Rows.uptoBulk (.agg [y0.1, y1.1, y2.1, y3.1] : DataW H) := by
    have e : Rows.uptoBulk y2.1 ≤ Rows.uptoBulk (.agg [y0.1, y1.1, y2.1, y3.1] : DataW H) := by simp only [Rows.uptoBulk, Rows.uptoBulkAll]; omega
    have e3 : s2.size ≤ Rows.uptoBulk y2.1 := by rw [e2, Lib.size_eq]; simp only [Rows.uptoBulk]; omega
    omega
  exact ⟨s0, s2, _, _, l, l', rfl, h1, k1, hb2, ⟨by omega, fun f hf => by have := h2 f hf; omega⟩, ⟨by omega, fun f hf => by have := k2 f hf; omega⟩, by omega, by omega⟩
set_option maxRecDepth 100000 in
theorem open_how22 {H : Type} {enc : TypeId × Value → H} {W : World} {base : Nat} {v : Value} {d : DataW H} {p : List MemPlace} (hval : Value.okWide Tryd.prog W .any base 26 v) (h : DataW.Trod enc Tryd.prog W 0 (fun _ => true) true 26 v d p) :
    ∃ old head last : Bool, v = .agg #[.bool old, .bool head, .bool last] := by
  obtain ⟨x0, x1, x2, y0, y1, y2, m, rfl, rfl, _, g0, g1, g2⟩ := open_agg3 Tryd.underlying26 (by kernel_rfl) (by kernel_rfl) hval h
  obtain ⟨a, f0, _⟩ := DataW.trod_bool Tryd.underlying4 g0
  obtain ⟨b, f1, _⟩ := DataW.trod_bool Tryd.underlying4 g1
  obtain ⟨c, f2, _⟩ := DataW.trod_bool Tryd.underlying4 g2
  simp only [List.cons.injEq, and_true] at f0 f1 f2
  subst f0 f1 f2
  exact ⟨a, b, c, rfl⟩
/-- What lines weigh. -/
theorem lns_size22 (l : List Fd) : (Hw.lns l).length ≤ Ms.size l := by
  unfold Hw.lns Ms.strip
  induction l with
  | nil => exact Nat.zero_le _
  | cons f r ih =>
    have e : Ms.size (f :: r) = Ms.wt f + Ms.size r := rfl
    rw [e, List.filter_cons]
    have hl : (Hw.line f).length ≤ Ms.wt f := by
      unfold Hw.line Ms.wt Tx.lower
      simp only [List.length_append, List.length_map, Hw.crlf, List.length_cons, List.length_nil]
      rw [← Lib.size_eq, ← Lib.size_eq]; omega
    split
    · rw [List.flatMap_cons, List.length_append]; omega
    · omega
theorem fo_of22 {l : List Fd} {n : Nat} (h1 : l.length ≤ n) (h2 : ∀ f ∈ l, f.n.size ≤ n ∧ f.v.size ≤ n) (h3 : Ms.size l ≤ 32 * n) (hn : n ≤ 1048576) : FO22 l :=
  ⟨by omega, fun f hf => by have := h2 f hf; omega, by have := lns_size22 l; omega⟩

namespace Frame22
theorem own : ownKnob Tryd.prog.godebug = none := by kernel_rfl
theorem gTab : Tryd.prog.globalNamed "internal/strconv.uint64pow10" = some 0 := by kernel_rfl
theorem gTabType : (Tryd.prog.globals[0]?).map (·.type) = some 97 := by kernel_rfl
theorem cellsA : Tryd.prog.cellsOf 97 = 20 := by kernel_rfl
theorem cellsE : Tryd.prog.cellsOf 89 = 1 := by kernel_rfl
theorem tab_eq : (Rows.laid_internal_strconv_uint64pow10 : DataW Unit) = Lib.tabData .u64 Lib.pow10Tab := by kernel_rfl
theorem gZType : (Tryd.prog.globals[3]?).map (·.type) = some 104 := by kernel_rfl
theorem cellsZ : Tryd.prog.cellsOf 104 = 64 := by kernel_rfl
theorem cellsU : Tryd.prog.cellsOf 5 = 1 := by kernel_rfl
theorem tabz_eq : (Rows.laid_math_bits_deBruijn64tab : DataW Unit) = Lib.tabData .u8 Hw.deB := by kernel_rfl
theorem maxLen {W : World} (h : W.ShapedOpen Tryd.prog) : ∃ m, W.cell? ⟨1, 0, none⟩ = some (.int .i64 m) :=
  Go.Proofs.cell_of_shapedOpen_int (zero := #[.int .i64 0]) (t := 3) h (of_decide_eq_true (by kernel_rfl)) (by kernel_rfl) rfl (by kernel_rfl) (by kernel_rfl) Tryd.underlying3
/-- What the rows' list and the world's shape give: the table of powers, and a cell of a number; the other table. -/
theorem tb {W : World} (h : laidMetH Tryd.prog [("math/bits.deBruijn32tab", Rows.laid_math_bits_deBruijn32tab), ("math/bits.deBruijn64tab", Rows.laid_math_bits_deBruijn64tab), ("internal/strconv.uint64pow10", Rows.laid_internal_strconv_uint64pow10)] W) (hs : W.ShapedOpen Tryd.prog) : TB W ∧ TZ W := by
  have h' : laidMet Tryd.prog [("math/bits.deBruijn32tab", Rows.laid_math_bits_deBruijn32tab), ("math/bits.deBruijn64tab", Rows.laid_math_bits_deBruijn64tab), ("internal/strconv.uint64pow10", Rows.laid_internal_strconv_uint64pow10)] W := h
  have h2 := h'.tail
  have h3 := h'.tail.tail
  rw [tab_eq] at h3
  rw [tabz_eq] at h2
  exact ⟨⟨Lib.tabIs_of_head (rest := []) gTab gTabType Tryd.underlying97 Tryd.underlying89 cellsE cellsA h3, maxLen hs⟩, Lib.tabIs_of_head (rest := [("internal/strconv.uint64pow10", Rows.laid_internal_strconv_uint64pow10)]) gZ gZType Tryd.underlying104 Tryd.underlying5 cellsU cellsZ h2⟩
end Frame22

end Go.Proofs.YtbpdhcfmdkmoiaaDoor
