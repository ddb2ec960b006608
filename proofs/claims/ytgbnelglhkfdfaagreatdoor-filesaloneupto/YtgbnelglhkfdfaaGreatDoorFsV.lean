/-
  Files, fields and asks that came in: as a row hands them; what a row says of the library's variables.
-/
import Derived.Test.YtgbnelglhkfdfaaGreatDoorFsU
import Derived.Test.YtgbnelglhkfdfaaGreatDoorRows
import Derived.Deep.Slices
import Derived.Deep.Strs
import Derived.SizedLaws
import Derived.RowKit
import Derived.ProofKit
import Derived.OpenShut
import Derived.LaidMore
import Derived.Stop.LaidErr
import Derived.Deep.DeepHandedRow
import Derived.Lib.LaidTab
import Derived.Lib.ItoaNum
import Derived.Lib.SmallJoins
import Derived.Shelf.Vars
namespace Go.Proofs.YtgbnelglhkfdfaaGreatDoor
open Go.RowKit Go.ChangeShapes Go.WideShapes Go.ChangeAt Go.Deep Go.Joins

/-- What a field reads as. -/
def fdD19 {H : Type} (f : Fd) : DataW H := .agg [.lit (.string f.n.data.toList), .lit (.string f.v.data.toList)]
set_option maxRecDepth 100000 in
theorem fds_bulk19 {H : Type} (l : List Fd) : l.length ≤ Rows.uptoBulkAll (l.map fdD19 : List (DataW H)) ∧ ∀ f ∈ l, f.n.size ≤ Rows.uptoBulkAll (l.map fdD19 : List (DataW H)) ∧ f.v.size ≤ Rows.uptoBulkAll (l.map fdD19 : List (DataW H)) := by
  induction l with
  | nil => exact ⟨Nat.zero_le _, fun f hf => by cases hf⟩
  | cons x r ih =>
    have e : Rows.uptoBulkAll ((x :: r).map fdD19 : List (DataW H)) = x.n.data.toList.length + x.v.data.toList.length + 3 + Rows.uptoBulkAll (r.map fdD19 : List (DataW H)) := by
      simp only [List.map_cons, Rows.uptoBulkAll, fdD19, Rows.uptoBulk]; omega
    rw [e, ← Lib.size_eq, ← Lib.size_eq]
    refine ⟨by have := ih.1; rw [List.length_cons]; omega, fun f hf => ?_⟩
    rcases List.mem_cons.1 hf with rfl | h
    · omega
    · have := ih.2 f h; omega
set_option maxRecDepth 100000 in
theorem fds_size19 {H : Type} (l : List Fd) : Tg.vsz l ≤ Rows.uptoBulkAll (l.map fdD19 : List (DataW H)) := by
  induction l with
  | nil => exact Nat.zero_le _
  | cons x r ih =>
    have e : Rows.uptoBulkAll ((x :: r).map fdD19 : List (DataW H)) = x.n.data.toList.length + x.v.data.toList.length + 3 + Rows.uptoBulkAll (r.map fdD19 : List (DataW H)) := by
      simp only [List.map_cons, Rows.uptoBulkAll, fdD19, Rows.uptoBulk]; omega
    rw [e, ← Lib.size_eq, ← Lib.size_eq, show Tg.vsz (x :: r) = (x.v.size + 2) + Tg.vsz r from by unfold Tg.vsz; simp]
    omega
theorem cells219 {w : World} {p : Addr} {cs : List Value} (h : w.cells? 0 p 2 = some cs) : ∃ v0 v1, cs = [v0, v1] ∧ w.cell? p = some v0 ∧ w.cell? (p.add 1) = some v1 := by
  obtain ⟨_, hl, hc⟩ := World.cells?_some h
  match cs, hl with
  | [v0, v1], _ =>
    refine ⟨v0, v1, rfl, ?_, ?_⟩
    · simpa [Addr.add] using hc 0 (by omega)
    · simpa using hc 1 (by omega)


set_option maxRecDepth 100000 in
theorem open_fieldsAt19 {H : Type} {enc : TypeId × Value → H} {W : World} {fuel : Nat} {ao : Option Addr} {len cap : Nat} {x : DataW H × List MemPlace} (hf : DataW.trod enc Tryz.prog W 0 (fun _ => true) true fuel 22 [.slice ao len cap] = some x) :
    ∃ l : List Fd, FW W (.slice ao len cap) l ∧ (∀ f ∈ l, f.n.size ≤ Rows.uptoBulk x.1 ∧ f.v.size ≤ Rows.uptoBulk x.1) ∧ l.length ≤ Rows.uptoBulk x.1 ∧ Tg.vsz l ≤ Rows.uptoBulk x.1 := by
  have c2 : Tryz.prog.cellsOf 42 = 2 := by kernel_rfl
  have c3 : Tryz.prog.cellsOf 9 = 1 := by kernel_rfl
  rcases open_slice Tryz.underlying22 hf with ⟨h1, h2⟩ | ⟨a', len', cap', m, n, D, Pl, h1, _, hlc, hcm, hm, hx, hel⟩
  · simp only [List.cons.injEq, and_true] at h1
    injection h1 with e1 e2 e3
    subst e1 e2 e3
    exact ⟨[], .inl ⟨rfl, rfl⟩, (fun f hf => by cases hf), Nat.zero_le _, Nat.zero_le _⟩
  · simp only [List.cons.injEq, and_true] at h1
    injection h1 with e1 e2 e3
    subst e1 e2 e3
    simp only [if_true] at hm
    rw [hm] at hel hx
    have hch : ∀ i, ∃ f : Fd, i < len → (((a'.add (i * 2)).block < W.heap.size ∧ W.cell? (a'.add (i * 2)) = some (.string f.n)) ∧ W.cell? ((a'.add (i * 2)).add 1) = some (.string f.v)) ∧ D i = fdD19 f := by
      intro i
      by_cases hi : i < len
      · obtain ⟨cs', hc, ht⟩ := hel i (by omega)
        rw [c2] at hc
        obtain ⟨v0, v1, rfl, k0, k1⟩ := cells219 hc
        obtain ⟨z0, z1, m2, e, _, g0, g1⟩ := trod_struct2 Tryz.underlying42 ht
        simp only [c3, List.drop_zero, List.take_succ_cons, List.take_zero, List.drop_succ_cons] at g0 g1
        obtain ⟨s0, f0, rfl, _⟩ := DataW.trod_string Tryz.underlying9 g0
        obtain ⟨s1, f1, rfl, _⟩ := DataW.trod_string Tryz.underlying9 g1
        simp only [List.cons.injEq, and_true] at f0 f1
        subst f0 f1
        exact ⟨⟨s0, s1⟩, fun _ => ⟨⟨⟨World.cells?_block hc (by omega), k0⟩, k1⟩, (Prod.mk.inj e).1⟩⟩
      · exact ⟨⟨⟨#[]⟩, ⟨#[]⟩⟩, fun h => absurd h hi⟩
    obtain ⟨f, hf'⟩ := Classical.axiomOfChoice hch
    have hd : x.1 = .slice (((List.range len).map f).map fdD19) ((List.range (cap - len)).map fun j => D (len + j)) := by
      rw [hx]
      simp only
      congr 1
      rw [List.map_map]
      apply List.map_congr_left
      intro i hi
      exact (hf' i (by simpa using hi)).2
    have hb := fds_bulk19 (H := H) ((List.range len).map f)
    have hdb : Rows.uptoBulkAll (((List.range len).map f).map fdD19 : List (DataW H)) ≤ Rows.uptoBulk x.1 := by rw [hd]; simp only [Rows.uptoBulk]; omega
    refine ⟨(List.range len).map f, .inr ⟨a', cap, by simp, by simpa using hlc, ?_⟩, fun g hg => ⟨Nat.le_trans (hb.2 g hg).1 hdb, Nat.le_trans (hb.2 g hg).2 hdb⟩, Nat.le_trans hb.1 hdb, by have := fds_size19 (H := H) ((List.range len).map f); omega⟩
    intro j u hj
    have hjl : j < len * 2 := by
      have := (List.getElem?_eq_some_iff.1 hj).1
      rw [fC_length] at this
      simpa using this
    have hi : j / 2 < len := by omega
    have hfi : ((List.range len).map f)[j / 2]? = some (f (j / 2)) := by simp [List.getElem?_map, List.getElem?_range hi]
    have e0 := f_at _ _ _ hfi 0 (by omega)
    have e1 := f_at _ _ _ hfi 1 (by omega)
    obtain ⟨⟨⟨p0, p1⟩, p2⟩, _⟩ := hf' (j / 2) hi
    rcases Nat.mod_two_eq_zero_or_one j with hm2 | hm2
    · have ej : j = j / 2 * 2 := by omega
      rw [ej] at hj ⊢
      rw [Nat.add_zero] at e0
      rw [e0] at hj
      rw [← Option.some.inj hj]
      exact ⟨p0, p1⟩
    · have ej : j = j / 2 * 2 + 1 := by omega
      rw [ej] at hj ⊢
      rw [e1] at hj
      rw [← Option.some.inj hj, ← Addr.add_add]
      exact ⟨World.block_lt_of_cell? W _ p2, p2⟩

set_option maxRecDepth 100000 in
theorem open_fields19 {H : Type} {enc : TypeId × Value → H} {W : World} {base : Nat} {v : Value} {d : DataW H} {p : List MemPlace} (hval : Value.okWide Tryz.prog W .any base 22 v) (h : DataW.Trod enc Tryz.prog W 0 (fun _ => true) true 22 v d p) :
    ∃ l : List Fd, FW W v l ∧ (∀ f ∈ l, f.n.size ≤ Rows.uptoBulk d ∧ f.v.size ≤ Rows.uptoBulk d) ∧ l.length ≤ Rows.uptoBulk d ∧ Tg.vsz l ≤ Rows.uptoBulk d := by
  obtain ⟨a, len, cap, rfl⟩ := okWide_slice Tryz.underlying22 hval
  obtain ⟨fuel, hf⟩ := h
  exact open_fieldsAt19 (x := (d, p)) (by simpa [Value.cells] using hf)

namespace Frame19
theorem gTab : Tryz.prog.globalNamed "internal/strconv.uint64pow10" = some 0 := by kernel_rfl
theorem gTabType : (Tryz.prog.globals[0]?).map (·.type) = some 181 := by kernel_rfl
theorem cellsA : Tryz.prog.cellsOf 181 = 20 := by kernel_rfl
theorem cellsE : Tryz.prog.cellsOf 157 = 1 := by kernel_rfl
theorem tab_eq : (Rows.laid_internal_strconv_uint64pow10 : DataW Unit) = Lib.tabData .u64 Lib.pow10Tab := by kernel_rfl
theorem maxLen {W : World} (h : W.ShapedOpen Tryz.prog) : ∃ m, W.cell? ⟨1, 0, none⟩ = some (.int .i64 m) :=
  Go.Proofs.cell_of_shapedOpen_int (zero := #[.int .i64 0]) (t := 3) h (of_decide_eq_true (by kernel_rfl)) (by kernel_rfl) rfl (by kernel_rfl) (by kernel_rfl) Tryz.underlying3
/-- What the rows' list and the world's shape give: the table of powers, and a cell of a number. -/
theorem tb {W : World} (h : laidMetH Tryz.prog [("math/bits.deBruijn32tab", Rows.laid_math_bits_deBruijn32tab), ("math/bits.deBruijn64tab", Rows.laid_math_bits_deBruijn64tab), ("internal/strconv.uint64pow10", Rows.laid_internal_strconv_uint64pow10), ("unicode/utf8.acceptRanges", Rows.laid_unicode_utf8_acceptRanges), ("unicode/utf8.first", Rows.laid_unicode_utf8_first)] W) (hs : W.ShapedOpen Tryz.prog) : TB19 W := by
  have h' : laidMet Tryz.prog [("math/bits.deBruijn32tab", Rows.laid_math_bits_deBruijn32tab), ("math/bits.deBruijn64tab", Rows.laid_math_bits_deBruijn64tab), ("internal/strconv.uint64pow10", Rows.laid_internal_strconv_uint64pow10), ("unicode/utf8.acceptRanges", Rows.laid_unicode_utf8_acceptRanges), ("unicode/utf8.first", Rows.laid_unicode_utf8_first)] W := h
  have h3 := h'.tail.tail
  rw [tab_eq] at h3
  exact ⟨Lib.tabIs_of_head (rest := [("unicode/utf8.acceptRanges", Rows.laid_unicode_utf8_acceptRanges), ("unicode/utf8.first", Rows.laid_unicode_utf8_first)]) gTab gTabType Tryz.underlying181 Tryz.underlying157 cellsE cellsA h3, maxLen hs⟩
end Frame19
set_option maxRecDepth 100000 in
theorem open_file19 {H : Type} {enc : TypeId × Value → H} {W : World} {base : Nat} {v : Value} {d : DataW H} {p : List MemPlace} (hval : Value.okWide Tryz.prog W .any base 31 v) (h : DataW.Trod enc Tryz.prog W 0 (fun _ => true) true 31 v d p) :
    ∃ (y : ByteArray) (t q : Int), v = .agg (flC y t q) ∧ d = .agg [.lit (.string y.data.toList), .lit (.int .i64 t), .lit (.int .i64 q)] := by
  obtain ⟨x0, x1, x2, y0, y1, y2, m, rfl, rfl, _, g0, g1, g2⟩ := open_agg3 Tryz.underlying31 (by kernel_rfl) (by kernel_rfl) hval h
  obtain ⟨s, f0, e0, hs⟩ := DataW.trod_string Tryz.underlying9 g0
  obtain ⟨t, f1, e1, _⟩ := DataW.trod_int Tryz.underlying3 g1
  obtain ⟨q, f2, e2, hq⟩ := DataW.trod_int Tryz.underlying3 g2
  simp only [List.cons.injEq, and_true] at f0 f1 f2
  subst f0 f1 f2
  exact ⟨s, t, q, rfl, by rw [e0, e1, e2]⟩
theorem file_reach19 {H : Type} {ts : List TypeId} {ds : List (DataW H)} {d : DataW H} {y : ByteArray} {t q : Int} (hsz : (DataW.weightsEach Tryz.prog ts ds).all (· ≤ reachBytes) = true) {j : Nat} (ht : ts[j]? = some 31) (hd : ds[j]? = some d) (hq : d = .agg [.lit (.string y.data.toList), .lit (.int .i64 t), .lit (.int .i64 q)]) : y.size ≤ 140737488355328 := by
  subst hq
  have hm : y.size ∈ (DataW.agg [.lit (.string y.data.toList), .lit (.int .i64 t), .lit (.int .i64 q)] : DataW H).weights Tryz.prog 31 := by
    simp [DataW.weights, DataW.weightsEach, Tryz.underlying31]
  have h1 := List.all_eq_true.1 hsz _ (DataW.weights_mem_each ht hd _ hm)
  have hr := reachBytes_lt
  have h2 : y.size ≤ reachBytes := by simpa using h1
  omega
theorem int_bd19 {n : Int} (h : (Lit.int .i64 n).wf = true) : -9223372036854775808 ≤ n ∧ n ≤ 9223372036854775807 := by
  have e1 : IntKind.i64.min = -9223372036854775808 := rfl
  have e2 : IntKind.i64.max = 9223372036854775807 := rfl
  simp [Lit.wf, e1, e2] at h
  exact h
/-- What an entry reads as. -/
def enD19 {H : Type} (e : Dk.En) : DataW H := .agg [.lit (.string e.path.data.toList), .agg [.lit (.string e.body.data.toList), .lit (.int .i64 e.time), .lit (.int .i64 e.seq)]]
theorem array419 {α : Type} {cs : Array α} (h : cs.size = 4) : ∃ c0 c1 c2 c3, cs = #[c0, c1, c2, c3] := by
  obtain ⟨l⟩ := cs
  match l, h with
  | [c0, c1, c2, c3], _ => exact ⟨c0, c1, c2, c3, rfl⟩
theorem array519 {α : Type} {cs : Array α} (h : cs.size = 5) : ∃ c0 c1 c2 c3 c4, cs = #[c0, c1, c2, c3, c4] := by
  obtain ⟨l⟩ := cs
  match l, h with
  | [c0, c1, c2, c3, c4], _ => exact ⟨c0, c1, c2, c3, c4, rfl⟩
set_option maxRecDepth 20000 in
theorem open_en19 {H : Type} {enc : TypeId × Value → H} {W : World} {n : Nat} {v0 v1 v2 v3 : Value} {x : DataW H × List MemPlace} (h : DataW.trod enc Tryz.prog W 0 (fun _ => true) true n 48 [v0, v1, v2, v3] = some x) :
    ∃ e : Dk.En, v0 = .string e.path ∧ v1 = .string e.body ∧ v2 = .int .i64 e.time ∧ v3 = .int .i64 e.seq ∧ x.1 = enD19 e := by
  obtain ⟨y0, y1, m, hx, _, h0, h1⟩ := trod_struct2 Tryz.underlying48 h
  have c0 : Tryz.prog.cellsOf 9 = 1 := by kernel_rfl
  have c1 : Tryz.prog.cellsOf 3 = 1 := by kernel_rfl
  have c3 : Tryz.prog.cellsOf 31 = 3 := by kernel_rfl
  simp only [c0, c3, List.drop_zero, List.take_succ_cons, List.take_zero, List.drop_succ_cons] at h0 h1
  obtain ⟨z0, z1, z2, m2, hz, _, g0, g1, g2⟩ := trod_struct3 Tryz.underlying31 h1
  simp only [c0, c1, List.drop_zero, List.take_succ_cons, List.take_zero, List.drop_succ_cons] at g0 g1 g2
  obtain ⟨s0, e0, r0, _⟩ := DataW.trod_string Tryz.underlying9 h0
  obtain ⟨s1, e1, r1, _⟩ := DataW.trod_string Tryz.underlying9 g0
  obtain ⟨i2, e2, r2, _⟩ := DataW.trod_int Tryz.underlying3 g1
  obtain ⟨i3, e3, r3, _⟩ := DataW.trod_int Tryz.underlying3 g2
  simp only [List.cons.injEq, and_true] at e0 e1 e2 e3
  subst e0 e1 e2 e3
  refine ⟨⟨s0, s1, i2, i3⟩, rfl, rfl, rfl, rfl, ?_⟩
  rw [hx, r0, hz, r1, r2, r3]
  rfl
set_option maxRecDepth 100000 in
theorem ens_bulk19 {H : Type} (l : List Dk.En) : l.length ≤ Rows.uptoBulkAll (l.map enD19 : List (DataW H)) ∧ ∀ e ∈ l, e.path.size ≤ Rows.uptoBulkAll (l.map enD19 : List (DataW H)) ∧ e.body.size ≤ Rows.uptoBulkAll (l.map enD19 : List (DataW H)) := by
  induction l with
  | nil => exact ⟨Nat.zero_le _, fun f hf => by cases hf⟩
  | cons x r ih =>
    have e : x.path.size + x.body.size + 1 + Rows.uptoBulkAll (r.map enD19 : List (DataW H)) ≤ Rows.uptoBulkAll ((x :: r).map enD19 : List (DataW H)) := by
      simp only [List.map_cons, Rows.uptoBulkAll, enD19, Rows.uptoBulk, Lib.size_eq]; omega
    refine ⟨by have := ih.1; rw [List.length_cons]; omega, fun f hf => ?_⟩
    rcases List.mem_cons.1 hf with rfl | h
    · omega
    · have := ih.2 f h; omega
theorem cells419 {w : World} {p : Addr} {cs : List Value} (h : w.cells? 0 p 4 = some cs) : ∃ v0 v1 v2 v3, cs = [v0, v1, v2, v3] ∧ w.cell? p = some v0 ∧ w.cell? ⟨p.block, p.off + 1, none⟩ = some v1 ∧ w.cell? ⟨p.block, p.off + 2, none⟩ = some v2 ∧ w.cell? ⟨p.block, p.off + 3, none⟩ = some v3 := by
  obtain ⟨_, hl, hc⟩ := World.cells?_some h
  match cs, hl with
  | [v0, v1, v2, v3], _ =>
    refine ⟨v0, v1, v2, v3, rfl, ?_, ?_, ?_, ?_⟩
    · simpa [Addr.add] using hc 0 (by omega)
    · simpa [Addr.add] using hc 1 (by omega)
    · simpa [Addr.add] using hc 2 (by omega)
    · simpa [Addr.add] using hc 3 (by omega)
set_option maxRecDepth 100000 in
theorem open_entries19 {H : Type} {enc : TypeId × Value → H} {W : World} {base : Nat} {v : Value} {d : DataW H} {p : List MemPlace} (hval : Value.okWide Tryz.prog W .any base 44 v) (h : DataW.Trod enc Tryz.prog W 0 (fun _ => true) true 44 v d p) :
    ∃ l : List Dk.En, EW19 W v l ∧ l.length ≤ Rows.uptoBulk d ∧ ∀ e ∈ l, e.path.size ≤ Rows.uptoBulk d ∧ e.body.size ≤ Rows.uptoBulk d := by
  obtain ⟨a, len, cap, rfl⟩ := okWide_slice Tryz.underlying44 hval
  obtain ⟨fuel, hf⟩ := h
  have c4 : Tryz.prog.cellsOf 48 = 4 := by kernel_rfl
  rcases open_slice Tryz.underlying44 hf with ⟨h1, h2⟩ | ⟨a', len', cap', m, n, D, Pl, h1, _, hlc, hcm, hm, hx, hel⟩
  · simp [Value.cells] at h1 h2
    obtain ⟨rfl, rfl, rfl⟩ := h1
    exact ⟨[], .inl ⟨rfl, rfl⟩, Nat.zero_le _, fun e he => by cases he⟩
  · simp [Value.cells] at h1
    obtain ⟨rfl, rfl, rfl⟩ := h1
    simp only [if_true] at hm
    rw [hm] at hel hx
    have hch : ∀ i, ∃ e : Dk.En, i < len → ((a'.add (i * 4)).block < W.heap.size ∧ En19At W (a'.add (i * 4)) e) ∧ D i = enD19 e := by
      intro i
      by_cases hi : i < len
      · obtain ⟨cs', hc, ht⟩ := hel i (by omega)
        rw [c4] at hc
        obtain ⟨v0, v1, v2, v3, rfl, k0, k1, k2, k3⟩ := cells419 hc
        obtain ⟨e, rfl, rfl, rfl, rfl, er⟩ := open_en19 ht
        exact ⟨e, fun _ => ⟨⟨World.cells?_block hc (by omega), k0, k1, k2, k3⟩, er⟩⟩
      · exact ⟨⟨⟨#[]⟩, ⟨#[]⟩, 0, 0⟩, fun h => absurd h hi⟩
    obtain ⟨f, hf'⟩ := Classical.axiomOfChoice hch
    have hd : d = .slice (((List.range len).map f).map enD19) ((List.range (cap - len)).map fun j => D (len + j)) := by
      rw [(Prod.mk.inj hx).1]
      congr 1
      rw [List.map_map]
      apply List.map_congr_left
      intro i hi
      exact (hf' i (by simpa using hi)).2
    have hb := ens_bulk19 (H := H) ((List.range len).map f)
    have hdb : Rows.uptoBulkAll (((List.range len).map f).map enD19 : List (DataW H)) ≤ Rows.uptoBulk d := by rw [hd]; simp only [Rows.uptoBulk]; omega
    refine ⟨(List.range len).map f, .inr ⟨a', cap, by simp, ?_⟩, Nat.le_trans hb.1 hdb, fun e he => ⟨Nat.le_trans (hb.2 e he).1 hdb, Nat.le_trans (hb.2 e he).2 hdb⟩⟩
    intro i e he
    have hi : i < len := by
      have := (List.getElem?_eq_some_iff.1 he).1
      simpa using this
    have e' : f i = e := by simpa [List.getElem?_map, List.getElem?_range hi] using he
    rw [← e']
    exact (hf' i hi).1
set_option maxRecDepth 100000 in
theorem open_entry19 {H : Type} {enc : TypeId × Value → H} {W : World} {base : Nat} {v : Value} {d : DataW H} {p : List MemPlace} (hval : Value.okWide Tryz.prog W .any base 48 v) (h : DataW.Trod enc Tryz.prog W 0 (fun _ => true) true 48 v d p) :
    ∃ e : Dk.En, v = .agg #[.string e.path, .string e.body, .int .i64 e.time, .int .i64 e.seq] ∧ e.path.size ≤ Rows.uptoBulk d ∧ e.body.size ≤ Rows.uptoBulk d := by
  obtain ⟨cs, rfl, hsz⟩ := okWide_struct Tryz.underlying48 hval
  have c4 : Tryz.prog.cellsOf 48 = 4 := by kernel_rfl
  obtain ⟨v0, v1, v2, v3, rfl⟩ := array419 (hsz.trans c4)
  obtain ⟨fuel, hf⟩ := h
  obtain ⟨e, rfl, rfl, rfl, rfl, er⟩ := open_en19 (x := (d, p)) (by simpa [Value.cells] using hf)
  have er' : d = enD19 e := er
  refine ⟨e, rfl, ?_, ?_⟩ <;> (rw [er']; simp only [enD19, Rows.uptoBulk, Rows.uptoBulkAll, Lib.size_eq]; omega)
theorem trod_struct519 {H : Type} {enc : TypeId × Value → H} {P : Program} {w : World} {base : Nat} {spare : Nat → Bool} {held : Bool} {t : TypeId} {f0 f1 f2 f3 f4 : Field} {fuel : Nat} {cs : List Value} {x : DataW H × List MemPlace} (ht : P.underlying t = some (.struct #[f0, f1, f2, f3, f4])) (h : DataW.trod enc P w base spare held fuel t cs = some x) :
    ∃ y0 y1 y2 y3 y4 n, x.1 = .agg [y0.1, y1.1, y2.1, y3.1, y4.1] ∧ DataW.trod enc P w base spare held n f0.type ((cs.drop f0.offset).take (P.cellsOf f0.type)) = some y0 ∧ DataW.trod enc P w base spare held n f1.type ((cs.drop f1.offset).take (P.cellsOf f1.type)) = some y1 ∧
      DataW.trod enc P w base spare held n f2.type ((cs.drop f2.offset).take (P.cellsOf f2.type)) = some y2 ∧ DataW.trod enc P w base spare held n f3.type ((cs.drop f3.offset).take (P.cellsOf f3.type)) = some y3 ∧ DataW.trod enc P w base spare held n f4.type ((cs.drop f4.offset).take (P.cellsOf f4.type)) = some y4 := by
  obtain ⟨xs, n, _, rfl, hl, hlen, hf⟩ := DataW.trod_struct ht h
  match xs, hlen with
  | [y0, y1, y2, y3, y4], _ => exact ⟨y0, y1, y2, y3, y4, n, by simp, by simpa using hf 0 f0 rfl, by simpa using hf 1 f1 rfl, by simpa using hf 2 f2 rfl, by simpa using hf 3 f3 rfl, by simpa using hf 4 f4 rfl⟩
set_option maxRecDepth 100000 in
theorem open_ask19 {H : Type} {enc : TypeId × Value → H} {W : World} {base : Nat} {v : Value} {d : DataW H} {p : List MemPlace} (hval : Value.okWide Tryz.prog W .any base 46 v) (h : DataW.Trod enc Tryz.prog W 0 (fun _ => true) true 46 v d p) :
    ∃ (r m t s : ByteArray) (fv : Value) (l : List Fd), v = .agg #[.string r, .string m, .string t, .string s, fv] ∧ FW W fv l ∧ r.size ≤ Rows.uptoBulk d ∧ m.size ≤ Rows.uptoBulk d ∧ t.size ≤ Rows.uptoBulk d ∧ s.size ≤ Rows.uptoBulk d ∧ l.length ≤ Rows.uptoBulk d ∧ Tg.vsz l ≤ Rows.uptoBulk d ∧ r.size + s.size ≤ Rows.uptoBulk d := by
  obtain ⟨cs, rfl, hsz⟩ := okWide_struct Tryz.underlying46 hval
  have c5 : Tryz.prog.cellsOf 46 = 5 := by kernel_rfl
  have c1 : Tryz.prog.cellsOf 9 = 1 := by kernel_rfl
  have c2 : Tryz.prog.cellsOf 22 = 1 := by kernel_rfl
  obtain ⟨v0, v1, v2, v3, v4, rfl⟩ := array519 (hsz.trans c5)
  obtain ⟨fuel, hf⟩ := h
  have hf' : DataW.trod enc Tryz.prog W 0 (fun _ => true) true fuel 46 [v0, v1, v2, v3, v4] = some (d, p) := by simpa [Value.cells] using hf
  obtain ⟨y0, y1, y2, y3, y4, n, hd0, g0, g1, g2, g3, g4⟩ := trod_struct519 Tryz.underlying46 hf'
  simp only [c1, c2, List.drop_zero, List.take_succ_cons, List.take_zero, List.drop_succ_cons] at g0 g1 g2 g3 g4
  obtain ⟨s0, f0, e0, _⟩ := DataW.trod_string Tryz.underlying9 g0
  obtain ⟨s1, f1, e1, _⟩ := DataW.trod_string Tryz.underlying9 g1
  obtain ⟨s2, f2, e2, _⟩ := DataW.trod_string Tryz.underlying9 g2
  obtain ⟨s3, f3, e3, _⟩ := DataW.trod_string Tryz.underlying9 g3
  simp only [List.cons.injEq, and_true] at f0 f1 f2 f3
  subst f0 f1 f2 f3
  have hsl : ∃ a len cap, v4 = .slice a len cap := by
    rcases open_slice Tryz.underlying22 g4 with ⟨h1, _⟩ | ⟨a', len', cap', _, _, _, _, h1, _⟩
    · simp only [List.cons.injEq, and_true] at h1
      exact ⟨_, _, _, h1⟩
    · simp only [List.cons.injEq, and_true] at h1
      exact ⟨_, _, _, h1⟩
  obtain ⟨a, len, cap, rfl⟩ := hsl
  obtain ⟨l, h1, h2, h3, h4⟩ := open_fieldsAt19 g4
  have hd : d = .agg [y0.1, y1.1, y2.1, y3.1, y4.1] := hd0
  have hbk : Rows.uptoBulk d = s0.size + s1.size + s2.size + s3.size + Rows.uptoBulk y4.1 + 5 := by
    rw [hd, e0, e1, e2, e3]
    simp only [Rows.uptoBulk, Rows.uptoBulkAll, ← Lib.size_eq]
    omega
  exact ⟨s0, s1, s2, s3, _, l, rfl, h1, by omega, by omega, by omega, by omega, by omega, by omega, by omega⟩

end Go.Proofs.YtgbnelglhkfdfaaGreatDoor
