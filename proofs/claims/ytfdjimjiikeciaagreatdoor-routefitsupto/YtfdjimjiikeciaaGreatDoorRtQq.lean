/-
  Routes, asks and texts that came in.
-/
import Derived.Test.YtfdjimjiikeciaaGreatDoorRtO
import Derived.Test.YtfdjimjiikeciaaGreatDoorRows
import Derived.Deep.Slices
import Derived.Deep.Strs
import Derived.SizedLaws
import Derived.RowKit
import Derived.ProofKit
import Derived.OpenShut
import Derived.Lib.SmallJoins
namespace Go.Proofs.YtfdjimjiikeciaaGreatDoor
open Go.RowKit Go.ChangeShapes Go.WideShapes Go.ChangeAt Go.Deep Go.Joins

/-- What a route reads as. -/
def roD18 {H : Type} (x : Fr18) : DataW H := .agg [.lit (.string x.1.m), .lit (.string x.1.p), .lit (.int .u8 x.1.h), .lit (.string x.2.data.toList)]
def akD18 {H : Type} (k : Ak18) : DataW H := .agg [.lit (.string k.m.data.toList), .lit (.string k.p.data.toList)]
def txD18 {H : Type} (x : ByteArray) : DataW H := .lit (.string x.data.toList)
set_option maxRecDepth 100000 in
theorem ros_bulk18 {H : Type} (l : List Fr18) : l.length ≤ Rows.uptoBulkAll (l.map roD18 : List (DataW H)) ∧ ∀ x ∈ l, x.1.m.length ≤ Rows.uptoBulkAll (l.map roD18 : List (DataW H)) ∧ x.1.p.length ≤ Rows.uptoBulkAll (l.map roD18 : List (DataW H)) := by
  induction l with
  | nil => exact ⟨Nat.zero_le _, fun f hf => by cases hf⟩
  | cons x r ih =>
    have e : x.1.m.length + x.1.p.length + 1 + Rows.uptoBulkAll (r.map roD18 : List (DataW H)) ≤ Rows.uptoBulkAll ((x :: r).map roD18 : List (DataW H)) := by
      simp only [List.map_cons, Rows.uptoBulkAll, roD18, Rows.uptoBulk]; omega
    refine ⟨by have := ih.1; rw [List.length_cons]; omega, fun f hf => ?_⟩
    rcases List.mem_cons.1 hf with rfl | h
    · omega
    · have := ih.2 f h; omega
set_option maxRecDepth 100000 in
theorem aks_bulk18 {H : Type} (l : List Ak18) : l.length ≤ Rows.uptoBulkAll (l.map akD18 : List (DataW H)) ∧ ∀ x ∈ l, x.p.size ≤ Rows.uptoBulkAll (l.map akD18 : List (DataW H)) := by
  induction l with
  | nil => exact ⟨Nat.zero_le _, fun f hf => by cases hf⟩
  | cons x r ih =>
    have e : x.p.size + 1 + Rows.uptoBulkAll (r.map akD18 : List (DataW H)) ≤ Rows.uptoBulkAll ((x :: r).map akD18 : List (DataW H)) := by
      simp only [List.map_cons, Rows.uptoBulkAll, akD18, Rows.uptoBulk, Lib.size_eq]; omega
    refine ⟨by have := ih.1; rw [List.length_cons]; omega, fun f hf => ?_⟩
    rcases List.mem_cons.1 hf with rfl | h
    · omega
    · have := ih.2 f h; omega
set_option maxRecDepth 100000 in
theorem txs_bulk18 {H : Type} (l : List ByteArray) : (l.map (·.size)).sum + l.length ≤ 2 * Rows.uptoBulkAll (l.map txD18 : List (DataW H)) := by
  induction l with
  | nil => exact Nat.zero_le _
  | cons x r ih =>
    have e : x.size + 1 + 2 * Rows.uptoBulkAll (r.map txD18 : List (DataW H)) ≤ 2 * Rows.uptoBulkAll ((x :: r).map txD18 : List (DataW H)) := by
      simp only [List.map_cons, Rows.uptoBulkAll, txD18, Rows.uptoBulk, Lib.size_eq]; omega
    refine Nat.le_trans ?_ e
    simp only [List.map_cons, List.sum_cons, List.length_cons]
    omega
theorem cells418 {w : World} {p : Addr} {cs : List Value} (h : w.cells? 0 p 4 = some cs) : ∃ v0 v1 v2 v3, cs = [v0, v1, v2, v3] ∧ w.cell? p = some v0 ∧ w.cell? (p.add 1) = some v1 ∧ w.cell? (p.add 2) = some v2 ∧ w.cell? (p.add 3) = some v3 := by
  obtain ⟨_, hl, hc⟩ := World.cells?_some h
  match cs, hl with
  | [v0, v1, v2, v3], _ =>
    refine ⟨v0, v1, v2, v3, rfl, ?_, ?_, ?_, ?_⟩
    · simpa [Addr.add] using hc 0 (by omega)
    · simpa using hc 1 (by omega)
    · simpa using hc 2 (by omega)
    · simpa using hc 3 (by omega)
theorem cells218 {w : World} {p : Addr} {cs : List Value} (h : w.cells? 0 p 2 = some cs) : ∃ v0 v1, cs = [v0, v1] ∧ w.cell? p = some v0 ∧ w.cell? ⟨p.block, p.off + 1, none⟩ = some v1 := by
  obtain ⟨_, hl, hc⟩ := World.cells?_some h
  match cs, hl with
  | [v0, v1], _ =>
    refine ⟨v0, v1, rfl, ?_, ?_⟩
    · simpa [Addr.add] using hc 0 (by omega)
    · simpa [Addr.add] using hc 1 (by omega)
theorem cells118 {w : World} {p : Addr} {cs : List Value} (h : w.cells? 0 p 1 = some cs) : ∃ v0, cs = [v0] ∧ w.cell? p = some v0 := by
  obtain ⟨_, hl, hc⟩ := World.cells?_some h
  match cs, hl with
  | [v0], _ => exact ⟨v0, rfl, by simpa [Addr.add] using hc 0 (by omega)⟩

set_option maxRecDepth 100000 in
theorem open_routes18 {H : Type} {enc : TypeId × Value → H} {W : World} {base : Nat} {v : Value} {d : DataW H} {p : List MemPlace} (hval : Value.okWide Tryz.prog W .any base 22 v) (h : DataW.Trod enc Tryz.prog W 0 (fun _ => true) true 22 v d p) :
    ∃ (l : List Fr18) (ao : Option Addr) (n cap : Nat), v = .slice ao n cap ∧ l.length = n ∧ RW18 W (.slice ao n cap) l ∧ (∀ x ∈ l, x.1.m.length ≤ Rows.uptoBulk d ∧ x.1.p.length ≤ Rows.uptoBulk d) ∧ n ≤ Rows.uptoBulk d := by
  obtain ⟨ao, len, cap, rfl⟩ := okWide_slice Tryz.underlying22 hval
  obtain ⟨fuel, hf⟩ := h
  have c4 : Tryz.prog.cellsOf 26 = 4 := by kernel_rfl
  have c1 : Tryz.prog.cellsOf 9 = 1 := by kernel_rfl
  have c2 : Tryz.prog.cellsOf 24 = 1 := by kernel_rfl
  rcases open_slice Tryz.underlying22 hf with ⟨h1, h2⟩ | ⟨a', len', cap', m, n, D, Pl, h1, _, hlc, hcm, hm, hx, hel⟩
  · simp [Value.cells] at h1 h2
    obtain ⟨rfl, rfl, rfl⟩ := h1
    exact ⟨[], none, 0, 0, rfl, rfl, .inl ⟨rfl, rfl⟩, (fun f hf => by cases hf), Nat.zero_le _⟩
  · simp [Value.cells] at h1
    obtain ⟨rfl, rfl, rfl⟩ := h1
    simp only [if_true] at hm
    rw [hm] at hel hx
    have hch : ∀ i, ∃ f : Fr18, i < len → (((a'.add (i * 4)).block < W.heap.size ∧ W.cell? (a'.add (i * 4)) = some (.string ⟨f.1.m.toArray⟩)) ∧ W.cell? ((a'.add (i * 4)).add 1) = some (.string ⟨f.1.p.toArray⟩) ∧ W.cell? ((a'.add (i * 4)).add 2) = some (.int .u8 f.1.h) ∧ W.cell? ((a'.add (i * 4)).add 3) = some (.string f.2)) ∧ D i = roD18 f := by
      intro i
      by_cases hi : i < len
      · obtain ⟨cs', hc, ht⟩ := hel i (by omega)
        rw [c4] at hc
        obtain ⟨v0, v1, v2, v3, rfl, k0, k1, k2, k3⟩ := cells418 hc
        obtain ⟨z0, z1, z2, z3, m2, e, _, g0, g1, g2, g3⟩ := trod_struct4 Tryz.underlying26 ht
        simp only [c1, c2, List.drop_zero, List.take_succ_cons, List.take_zero, List.drop_succ_cons] at g0 g1 g2 g3
        obtain ⟨s0, f0, rfl, _⟩ := DataW.trod_string Tryz.underlying9 g0
        obtain ⟨s1, f1, rfl, _⟩ := DataW.trod_string Tryz.underlying9 g1
        obtain ⟨i2, f2, rfl, _⟩ := DataW.trod_int Tryz.underlying24 g2
        obtain ⟨s3, f3, rfl, _⟩ := DataW.trod_string Tryz.underlying9 g3
        simp only [List.cons.injEq, and_true] at f0 f1 f2 f3
        subst f0 f1 f2 f3
        exact ⟨(⟨s0.data.toList, s1.data.toList, i2⟩, s3), fun _ => ⟨⟨⟨World.cells?_block hc (by omega), k0⟩, k1, k2, k3⟩, (Prod.mk.inj e).1⟩⟩
      · exact ⟨(⟨[], [], 0⟩, ⟨#[]⟩), fun h => absurd h hi⟩
    obtain ⟨f, hf'⟩ := Classical.axiomOfChoice hch
    have hd : d = .slice (((List.range len).map f).map roD18) ((List.range (cap - len)).map fun j => D (len + j)) := by
      have hx1 := (Prod.mk.inj hx).1
      rw [hx1]
      congr 1
      rw [List.map_map]
      apply List.map_congr_left
      intro i hi
      exact (hf' i (by simpa using hi)).2
    have hb := ros_bulk18 (H := H) ((List.range len).map f)
    have hdb : Rows.uptoBulkAll (((List.range len).map f).map roD18 : List (DataW H)) ≤ Rows.uptoBulk d := by rw [hd]; simp only [Rows.uptoBulk]; omega
    refine ⟨(List.range len).map f, some a', len, cap, rfl, by simp, .inr ⟨a', cap, by simp, by simpa using hlc, ?_⟩, fun g hg => ⟨Nat.le_trans (hb.2 g hg).1 hdb, Nat.le_trans (hb.2 g hg).2 hdb⟩, by have := Nat.le_trans hb.1 hdb; simpa using this⟩
    intro j u hj
    have hjl : j < len * 4 := by
      have := (List.getElem?_eq_some_iff.1 hj).1
      rw [rC18_len] at this
      simpa using this
    have hi : j / 4 < len := by omega
    have hfi : ((List.range len).map f)[j / 4]? = some (f (j / 4)) := by simp [List.getElem?_map, List.getElem?_range hi]
    obtain ⟨⟨⟨p0, p1⟩, p2, p3, p4⟩, _⟩ := hf' (j / 4) hi
    have e := rC18_at _ _ _ hfi (j % 4) (by omega)
    have ej : j = j / 4 * 4 + j % 4 := by omega
    rw [← ej] at e
    rw [e] at hj
    rw [ej, ← Addr.add_add]
    have h4 : j % 4 = 0 ∨ j % 4 = 1 ∨ j % 4 = 2 ∨ j % 4 = 3 := by omega
    rcases h4 with h | h | h | h
    · rw [h] at hj ⊢
      rw [← Option.some.inj hj]
      exact ⟨by simpa [Addr.add] using p0, by simpa [Addr.add] using p1⟩
    · rw [h] at hj ⊢
      rw [← Option.some.inj hj]
      exact ⟨World.block_lt_of_cell? W _ p2, p2⟩
    · rw [h] at hj ⊢
      rw [← Option.some.inj hj]
      exact ⟨World.block_lt_of_cell? W _ p3, p3⟩
    · rw [h] at hj ⊢
      rw [← Option.some.inj hj]
      exact ⟨World.block_lt_of_cell? W _ p4, p4⟩

set_option maxRecDepth 100000 in
theorem open_asks18 {H : Type} {enc : TypeId × Value → H} {W : World} {base : Nat} {v : Value} {d : DataW H} {p : List MemPlace} (hval : Value.okWide Tryz.prog W .any base 23 v) (h : DataW.Trod enc Tryz.prog W 0 (fun _ => true) true 23 v d p) (hb : Rows.uptoBulk d ≤ 1048576) :
    ∃ (l : List Ak18) (ao : Option Addr) (n cap : Nat), v = .slice ao n cap ∧ l.length = n ∧ KW18 W ao l ∧ (∀ x ∈ l, x.p.size ≤ 1048576) ∧ n ≤ Rows.uptoBulk d := by
  obtain ⟨ao, len, cap, rfl⟩ := okWide_slice Tryz.underlying23 hval
  obtain ⟨fuel, hf⟩ := h
  have c4 : Tryz.prog.cellsOf 38 = 2 := by kernel_rfl
  have c1 : Tryz.prog.cellsOf 9 = 1 := by kernel_rfl
  rcases open_slice Tryz.underlying23 hf with ⟨h1, h2⟩ | ⟨a', len', cap', m, n, D, Pl, h1, _, hlc, hcm, hm, hx, hel⟩
  · simp [Value.cells] at h1 h2
    obtain ⟨rfl, rfl, rfl⟩ := h1
    exact ⟨[], none, 0, 0, rfl, rfl, (fun i k hk => by simp at hk), (fun f hf => by cases hf), Nat.zero_le _⟩
  · simp [Value.cells] at h1
    obtain ⟨rfl, rfl, rfl⟩ := h1
    simp only [if_true] at hm
    rw [hm] at hel hx
    have hch : ∀ i, ∃ f : Ak18, i < len → ((a'.add (i * 2)).block < W.heap.size ∧ W.cell? (a'.add (i * 2)) = some (.string f.m) ∧ W.cell? ⟨(a'.add (i * 2)).block, (a'.add (i * 2)).off + 1, none⟩ = some (.string f.p)) ∧ D i = akD18 f := by
      intro i
      by_cases hi : i < len
      · obtain ⟨cs', hc, ht⟩ := hel i (by omega)
        rw [c4] at hc
        obtain ⟨v0, v1, rfl, k0, k1⟩ := cells218 hc
        obtain ⟨z0, z1, m2, e, _, g0, g1⟩ := trod_struct2 Tryz.underlying38 ht
        simp only [c1, List.drop_zero, List.take_succ_cons, List.take_zero, List.drop_succ_cons] at g0 g1
        obtain ⟨s0, f0, rfl, _⟩ := DataW.trod_string Tryz.underlying9 g0
        obtain ⟨s1, f1, rfl, _⟩ := DataW.trod_string Tryz.underlying9 g1
        simp only [List.cons.injEq, and_true] at f0 f1
        subst f0 f1
        exact ⟨⟨s0, s1⟩, fun _ => ⟨⟨World.cells?_block hc (by omega), k0, k1⟩, (Prod.mk.inj e).1⟩⟩
      · exact ⟨⟨⟨#[]⟩, ⟨#[]⟩⟩, fun h => absurd h hi⟩
    obtain ⟨f, hf'⟩ := Classical.axiomOfChoice hch
    have hd : d = .slice (((List.range len).map f).map akD18) ((List.range (cap - len)).map fun j => D (len + j)) := by
      have hx1 := (Prod.mk.inj hx).1
      rw [hx1]
      congr 1
      rw [List.map_map]
      apply List.map_congr_left
      intro i hi
      exact (hf' i (by simpa using hi)).2
    have hbb := aks_bulk18 (H := H) ((List.range len).map f)
    have hdb : Rows.uptoBulkAll (((List.range len).map f).map akD18 : List (DataW H)) ≤ Rows.uptoBulk d := by rw [hd]; simp only [Rows.uptoBulk]; omega
    have hps : ∀ x ∈ (List.range len).map f, x.p.size ≤ 1048576 := fun x hx => by have := hbb.2 x hx; omega
    refine ⟨(List.range len).map f, some a', len, cap, rfl, by simp, ?_, hps, by have := Nat.le_trans hbb.1 hdb; simpa using this⟩
    intro i c hc
    have hi : i < len := by
      have := (List.getElem?_eq_some_iff.1 hc).1
      simpa using this
    have hcf : c = f i := by
      rw [List.getElem?_map, List.getElem?_range hi] at hc
      simpa using hc.symm
    obtain ⟨⟨q0, q1, q2⟩, _⟩ := hf' i hi
    have := hps c (List.mem_of_getElem? hc)
    rw [hcf] at this ⊢
    exact ⟨a', rfl, q0, q1, q2, by omega⟩

set_option maxRecDepth 100000 in
theorem open_texts18 {H : Type} {enc : TypeId × Value → H} {W : World} {base : Nat} {v : Value} {d : DataW H} {p : List MemPlace} (hval : Value.okWide Tryz.prog W .any base 47 v) (h : DataW.Trod enc Tryz.prog W 0 (fun _ => true) true 47 v d p) :
    ∃ (l : List ByteArray) (ao : Option Addr) (n cap : Nat), v = .slice ao n cap ∧ l.length = n ∧ (∀ (i : Nat) (x : ByteArray), l[i]? = some x → ∃ a : Addr, ao = some a ∧ (a.add i).block < W.heap.size ∧ W.cell? (a.add i) = some (.string x)) ∧ (l.map (·.size)).sum + l.length ≤ 2 * Rows.uptoBulk d := by
  obtain ⟨ao, len, cap, rfl⟩ := okWide_slice Tryz.underlying47 hval
  obtain ⟨fuel, hf⟩ := h
  have c1 : Tryz.prog.cellsOf 9 = 1 := by kernel_rfl
  rcases open_slice Tryz.underlying47 hf with ⟨h1, h2⟩ | ⟨a', len', cap', m, n, D, Pl, h1, _, hlc, hcm, hm, hx, hel⟩
  · simp [Value.cells] at h1 h2
    obtain ⟨rfl, rfl, rfl⟩ := h1
    exact ⟨[], none, 0, 0, rfl, rfl, (fun i k hk => by simp at hk), Nat.zero_le _⟩
  · simp [Value.cells] at h1
    obtain ⟨rfl, rfl, rfl⟩ := h1
    simp only [if_true] at hm
    rw [hm] at hel hx
    have hch : ∀ i, ∃ f : ByteArray, i < len → ((a'.add i).block < W.heap.size ∧ W.cell? (a'.add i) = some (.string f)) ∧ D i = txD18 f := by
      intro i
      by_cases hi : i < len
      · obtain ⟨cs', hc, ht⟩ := hel i (by omega)
        rw [c1, Nat.mul_one] at hc
        obtain ⟨v0, rfl, k0⟩ := cells118 hc
        obtain ⟨s0, f0, e0, _⟩ := DataW.trod_string Tryz.underlying9 ht
        simp only [List.cons.injEq, and_true] at f0
        subst f0
        exact ⟨s0, fun _ => ⟨⟨World.cells?_block hc (by omega), k0⟩, (Prod.mk.inj e0).1⟩⟩
      · exact ⟨⟨#[]⟩, fun h => absurd h hi⟩
    obtain ⟨f, hf'⟩ := Classical.axiomOfChoice hch
    have hd : d = .slice (((List.range len).map f).map txD18) ((List.range (cap - len)).map fun j => D (len + j)) := by
      have hx1 := (Prod.mk.inj hx).1
      rw [hx1]
      congr 1
      rw [List.map_map]
      apply List.map_congr_left
      intro i hi
      exact (hf' i (by simpa using hi)).2
    have hbb := txs_bulk18 (H := H) ((List.range len).map f)
    have hdb : Rows.uptoBulkAll (((List.range len).map f).map txD18 : List (DataW H)) ≤ Rows.uptoBulk d := by rw [hd]; simp only [Rows.uptoBulk]; omega
    refine ⟨(List.range len).map f, some a', len, cap, rfl, by simp, ?_, by omega⟩
    intro i c hc
    have hi : i < len := by
      have := (List.getElem?_eq_some_iff.1 hc).1
      simpa using this
    have hcf : c = f i := by
      rw [List.getElem?_map, List.getElem?_range hi] at hc
      simpa using hc.symm
    obtain ⟨⟨q0, q1⟩, _⟩ := hf' i hi
    rw [hcf]
    exact ⟨a', rfl, q0, q1⟩

set_option maxRecDepth 100000 in
theorem open_ask18 {H : Type} {enc : TypeId × Value → H} {W : World} {base : Nat} {v : Value} {d : DataW H} {p : List MemPlace} (hval : Value.okWide Tryz.prog W .any base 38 v) (h : DataW.Trod enc Tryz.prog W 0 (fun _ => true) true 38 v d p) :
    ∃ s t : ByteArray, v = .agg #[.string s, .string t] ∧ t.size ≤ Rows.uptoBulk d := by
  obtain ⟨v0, v1, y0, y1, n, rfl, rfl, _, h0, h1⟩ := open_agg2 Tryz.underlying38 (by kernel_rfl) (by kernel_rfl) hval h
  obtain ⟨s0, f0, e0, _⟩ := DataW.trod_string Tryz.underlying9 h0
  obtain ⟨s1, f1, e1, _⟩ := DataW.trod_string Tryz.underlying9 h1
  simp only [List.cons.injEq, and_true] at f0 f1
  subst f0 f1 e0 e1
  refine ⟨s0, s1, rfl, ?_⟩
  simp only [Rows.uptoBulk, Rows.uptoBulkAll, Lib.size_eq]
  omega

end Go.Proofs.YtfdjimjiikeciaaGreatDoor
