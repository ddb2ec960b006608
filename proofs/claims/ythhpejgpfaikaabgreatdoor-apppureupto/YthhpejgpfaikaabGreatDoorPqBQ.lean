/-
  What the row stands on.
-/
import Derived.Test.YthhpejgpfaikaabGreatDoorPqBP
import Derived.Test.YthhpejgpfaikaabGreatDoorRows
import Derived.Deep.Slices
import Derived.Deep.Strs
import Derived.SizedLaws
import Derived.RowKit
import Derived.ProofKit
import Derived.OpenShut
import Derived.LaidMore
import Derived.Stop.LaidErr
import Derived.Deep.DeepHandedRow
import Derived.Lib.LaidTab
import Derived.Lib.ItoaNum
import Derived.Lib.SmallJoins
import Derived.Shelf.Vars
import Derived.Test.YthhpejgpfaikaabGreatDoorPqAO
import Derived.Test.YthhpejgpfaikaabGreatDoorPqAS
namespace Go.Proofs.YthhpejgpfaikaabGreatDoor
set_option maxHeartbeats 64000000
open Go.RowKit

theorem infoRp20 : (Tryz.prog.info? 38).map (fun i => (i.zero, i.size, i.bytes)) = some (some (.agg #[.int .i64 0, .slice none 0 0, .string ⟨#[]⟩, .slice none 0 0]), 4, 72) := by kernel_rfl
def RV20 (w : World) (xs : List Value) (k : Nat) (P : Ap.Rp) : Prop :=
 ∃ vo n vc uo m uc, xs[k]? = some (.int .i64 P.s) ∧ xs[k + 1]? = some (.slice vo n vc) ∧ xs[k + 2]? = some (.string ⟨P.b.toArray⟩) ∧ xs[k + 3]? = some (.slice uo m uc) ∧ FT20 w (.slice vo n vc) P.fs ∧ FT20 w (.slice uo m uc) P.ts
def FR20 (w : World) (B : Nat) (v : Value) (l : List Ap.Rp) : Prop :=
 ∃ xs, w.ownsRow B 38 4 v l.length xs ∧ ∀ j P, l[j]? = some P → RV20 w xs (j * 4) P
theorem FR20.nil (w : World) (B : Nat) : FR20 w B (.slice none 0 0) [] := ⟨[], ⟨rfl, .inl ⟨rfl, rfl⟩⟩, fun j P h => by simp at h⟩
theorem FR20.keep {w w' : World} {B : Nat} {v : Value} {l : List Ap.Rp} (h : FR20 w B v l) (hb : Below w.heap.size w w') : FR20 w' B v l := by
 obtain ⟨xs, ho, hx⟩ := h;refine ⟨xs, own_kp17 ho hb, fun j P hj => ?_⟩;obtain ⟨vo, n, vc, uo, m, uc, h0, h1, h2, h3, h4, h5⟩ := hx j P hj;exact ⟨vo, n, vc, uo, m, uc, h0, h1, h2, h3, ft_below20 h4 hb, ft_below20 h5 hb⟩
theorem ft_grown20 {w w' : World} {B : Nat} {v vv : Value} {n : Nat} {xs : List Value} {l : List Fd} (h : FT20 w v l) (ho : w.ownsRow B 38 4 vv n xs) (hg : w.grownBy w' vv.ownBlock) : FT20 w' v l := by
 have hne : ∀ (ad : Addr) k c, l ≠ [] → v = .slice (some ad) k c → ∀ j, vv.ownBlock = some j → ad.block ≠ j := fun ad k c hl hv j hj e => by
  obtain ⟨cs, hc⟩ := h.2 ad k c hl hv;rcases ho.2 with ⟨h1, _⟩ | ⟨g, cap, cur, h1, _, h3, _⟩
  ·rw [h1] at hj; cases hj
  ·rw [h1] at hj;obtain rfl : g = j := by injection hj
   rw [e, h3] at hc;injection hc with hc;injection hc with _ hc _;exact absurd hc (by decide)
 have hbk : ∀ (ad : Addr) k c, l ≠ [] → v = .slice (some ad) k c → ad.block < w.heap.size → w'.heap[ad.block]? = w.heap[ad.block]? := fun ad k c hl hv hlt =>
  hg.block ad.block hlt (fun e => hne ad k c hl hv ad.block (by first | exact e | exact e.symm) rfl)
 refine ⟨?_, fun ad k c hl hv => ?_⟩
 ·rcases h.1 with h1 | ⟨a, cap, hv, hcp, hcs⟩
  ·exact .inl h1
  ·refine .inr ⟨a, cap, hv, hcp, fun j u hj => ?_⟩;obtain ⟨h1, h2⟩ := hcs j u hj;have hl : l ≠ [] := fun e => by rw [e] at hj; simp [fC] at hj
   have hblk : (a.add j).block = a.block := by unfold Addr.add; split <;> rfl
   have h3 := hbk a _ _ hl hv (by rw [← hblk]; exact h1);refine ⟨Nat.lt_of_lt_of_le h1 hg.size, ?_⟩;exact (World.cell?_of_block (w := w) (w' := w') (a := a.add j) (by rw [hblk]; exact h3)).trans h2
 ·obtain ⟨cs, hc⟩ := h.2 ad k c hl hv;exact ⟨cs, (hbk ad k c hl hv (Array.getElem?_eq_some_iff.1 hc).1).trans hc⟩
theorem FR20.more {w w' : World} {B : Nat} {v v' : Value} {l : List Ap.Rp} {xs : List Value} {P : Ap.Rp} {vo uo : Option Addr} {n vc m uc : Nat} (ho : w.ownsRow B 38 4 v l.length xs) (hx : ∀ j P, l[j]? = some P → RV20 w xs (j * 4) P) (hf : FT20 w (.slice vo n vc) P.fs) (ht : FT20 w (.slice uo m uc) P.ts)
  (ho' : w'.ownsRow B 38 4 v' (l.length + 1) (xs ++ [.int .i64 P.s, .slice vo n vc, .string ⟨P.b.toArray⟩, .slice uo m uc])) (hg : w.grownBy w' v.ownBlock) : FR20 w' B v' (l ++ [P]) := by
 refine ⟨_, by rw [List.length_append]; exact ho', fun j Q hj => ?_⟩;have hxl : xs.length = l.length * 4 := ho.1;by_cases hlt : j < l.length
 ·rw [List.getElem?_append_left hlt] at hj;obtain ⟨vo, n, vc, uo, m, uc, h0, h1, h2, h3, h4, h5⟩ := hx j Q hj;refine ⟨vo, n, vc, uo, m, uc, ?_, ?_, ?_, ?_, ft_grown20 h4 ho hg, ft_grown20 h5 ho hg⟩
  all_goals rw [List.getElem?_append_left (by omega)]; assumption
 ·rw [List.getElem?_append_right (by omega)] at hj;have h0 : j - l.length = 0 := by
   have := (List.getElem?_eq_some_iff.1 hj).1;simp at this;omega
  rw [h0] at hj;simp only [List.getElem?_cons_zero, Option.some.injEq] at hj;subst hj;have hj : j = l.length := by omega
  subst hj;refine ⟨vo, n, vc, uo, m, uc, ?_, ?_, ?_, ?_, ft_grown20 hf ho hg, ft_grown20 ht ho hg⟩
  ·rw [List.getElem?_append_right (by omega), hxl, Nat.sub_self]; rfl
  ·rw [List.getElem?_append_right (by omega), hxl, show l.length * 4 + 1 - l.length * 4 = 1 by omega]; rfl
  ·rw [List.getElem?_append_right (by omega), hxl, show l.length * 4 + 2 - l.length * 4 = 2 by omega]; rfl
  ·rw [List.getElem?_append_right (by omega), hxl, show l.length * 4 + 3 - l.length * 4 = 3 by omega]; rfl
theorem FR20.four {w : World} {B : Nat} {ao : Option Addr} {n c : Nat} {l : List Ap.Rp} (h : FR20 w B (.slice ao n c) l) (i : Nat) (P : Ap.Rp) (hi : l[i]? = some P) : ∃ a vo k vc uo m uc, ao = some a ∧ (a.add (i * 4)).block < w.heap.size ∧ w.cell? (a.add (i * 4)) = some (.int .i64 P.s) ∧ w.cell? ⟨(a.add (i * 4)).block, (a.add (i * 4)).off + 1, none⟩ = some (.slice vo k vc) ∧ w.cell? ⟨(a.add (i * 4)).block, (a.add (i * 4)).off + 2, none⟩ = some (.string ⟨P.b.toArray⟩) ∧ w.cell? ⟨(a.add (i * 4)).block, (a.add (i * 4)).off + 3, none⟩ = some (.slice uo m uc) ∧ FT20 w (.slice vo k vc) P.fs ∧ FT20 w (.slice uo m uc) P.ts := by
 obtain ⟨xs, ho, hx⟩ := h;obtain ⟨vo, k, vc, uo, m, uc, h0, h1, h2, h3, h4, h5⟩ := hx i P hi;have hlt := (List.getElem?_eq_some_iff.1 hi).1;rcases ho.2 with ⟨hv, hn⟩ | ⟨g, cap, cur, hv, _, hg, hcp, _⟩
 ·omega
 ·injection hv with hv _ _;subst hv;have hc : ∀ j u, xs[j]? = some u → w.cell? ((⟨g, 0, none⟩ : Addr).add j) = some u := fun j u hj => ho.cells (g := g) rfl j u hj;have k0 := hc _ _ h0;have k1 := hc _ _ h1;have k2 := hc _ _ h2;have k3 := hc _ _ h3;rw [← Addr.add_add] at k1 k2 k3;refine ⟨⟨g, 0, none⟩, vo, k, vc, uo, m, uc, rfl, ?_, k0, ?_, ?_, ?_, h4, h5⟩
  ·have := (Array.getElem?_eq_some_iff.1 hg).1;unfold Addr.add;split <;> exact this
  ·simpa [Addr.add] using k1
  ·simpa [Addr.add] using k2
  ·simpa [Addr.add] using k3

open Go.RowKit Go.ChangeShapes Go.WideShapes Go.ChangeAt Go.Deep Go.Joins

def fdD19 {H : Type} (f : Fd) : DataW H := .agg [.lit (.string f.n.data.toList), .lit (.string f.v.data.toList)]
set_option maxRecDepth 100000 in
theorem fds_bulk19 {H : Type} (l : List Fd) : l.length ≤ Rows.uptoBulkAll (l.map fdD19 : List (DataW H)) ∧ ∀ f ∈ l, f.n.size ≤ Rows.uptoBulkAll (l.map fdD19 : List (DataW H)) ∧ f.v.size ≤ Rows.uptoBulkAll (l.map fdD19 : List (DataW H)) := by
 induction l with
 | nil => exact ⟨Nat.zero_le _, fun f hf => by cases hf⟩
 | cons x r ih =>
  have e : Rows.uptoBulkAll ((x :: r).map fdD19 : List (DataW H)) = x.n.data.toList.length + x.v.data.toList.length + 3 + Rows.uptoBulkAll (r.map fdD19 : List (DataW H)) := by
   simp only [List.map_cons, Rows.uptoBulkAll, fdD19, Rows.uptoBulk]; omega
  rw [e, ← Lib.size_eq, ← Lib.size_eq];refine ⟨by have := ih.1; rw [List.length_cons]; omega, fun f hf => ?_⟩;rcases List.mem_cons.1 hf with rfl | h
  ·omega
  ·have := ih.2 f h; omega
set_option maxRecDepth 100000 in
theorem fds_size19 {H : Type} (l : List Fd) : Tg.vsz l ≤ Rows.uptoBulkAll (l.map fdD19 : List (DataW H)) := by
 induction l with
 | nil => exact Nat.zero_le _
 | cons x r ih =>
  have e : Rows.uptoBulkAll ((x :: r).map fdD19 : List (DataW H)) = x.n.data.toList.length + x.v.data.toList.length + 3 + Rows.uptoBulkAll (r.map fdD19 : List (DataW H)) := by
   simp only [List.map_cons, Rows.uptoBulkAll, fdD19, Rows.uptoBulk]; omega
  rw [e, ← Lib.size_eq, ← Lib.size_eq, show Tg.vsz (x :: r) = (x.v.size + 2) + Tg.vsz r from by unfold Tg.vsz; simp];omega
theorem cells219 {w : World} {p : Addr} {cs : List Value} (h : w.cells? 0 p 2 = some cs) : ∃ v0 v1, cs = [v0, v1] ∧ w.cell? p = some v0 ∧ w.cell? (p.add 1) = some v1 := by
 obtain ⟨_, hl, hc⟩ := World.cells?_some h
 match cs, hl with
 | [v0, v1], _ =>
  refine ⟨v0, v1, rfl, ?_, ?_⟩
  ·simpa [Addr.add] using hc 0 (by omega)
  ·simpa using hc 1 (by omega)

set_option maxRecDepth 100000 in
theorem open_fieldsAt19 {H : Type} {enc : TypeId × Value → H} {W : World} {fuel : Nat} {ao : Option Addr} {len cap : Nat} {x : DataW H × List MemPlace} (hf : DataW.trod enc Tryz.prog W 0 (fun _ => true) true fuel 23 [.slice ao len cap] = some x) :
  ∃ l : List Fd, FW W (.slice ao len cap) l ∧ (∀ f ∈ l, f.n.size ≤ Rows.uptoBulk x.1 ∧ f.v.size ≤ Rows.uptoBulk x.1) ∧ l.length ≤ Rows.uptoBulk x.1 ∧ Tg.vsz l ≤ Rows.uptoBulk x.1 := by
 have c2 : Tryz.prog.cellsOf 44 = 2 := by kernel_rfl
 have c3 : Tryz.prog.cellsOf 9 = 1 := by kernel_rfl
 rcases open_slice Tryz.underlying23 hf with ⟨h1, h2⟩ | ⟨a', len', cap', m, n, D, Pl, h1, _, hlc, hcm, hm, hx, hel⟩
 ·simp only [List.cons.injEq, and_true] at h1;injection h1 with e1 e2 e3;subst e1 e2 e3;exact ⟨[], .inl ⟨rfl, rfl⟩, (fun f hf => by cases hf), Nat.zero_le _, Nat.zero_le _⟩
 ·simp only [List.cons.injEq, and_true] at h1;injection h1 with e1 e2 e3;subst e1 e2 e3;simp only [if_true] at hm;rw [hm] at hel hx;have hch : ∀ i, ∃ f : Fd, i < len → (((a'.add (i * 2)).block < W.heap.size ∧ W.cell? (a'.add (i * 2)) = some (.string f.n)) ∧ W.cell? ((a'.add (i * 2)).add 1) = some (.string f.v)) ∧ D i = fdD19 f := by
   intro i;by_cases hi : i < len
   ·obtain ⟨cs', hc, ht⟩ := hel i (by omega);rw [c2] at hc;obtain ⟨v0, v1, rfl, k0, k1⟩ := cells219 hc;obtain ⟨z0, z1, m2, e, _, g0, g1⟩ := trod_struct2 Tryz.underlying44 ht;simp only [c3, List.drop_zero, List.take_succ_cons, List.take_zero, List.drop_succ_cons] at g0 g1;obtain ⟨s0, f0, rfl, _⟩ := DataW.trod_string Tryz.underlying9 g0;obtain ⟨s1, f1, rfl, _⟩ := DataW.trod_string Tryz.underlying9 g1;simp only [List.cons.injEq, and_true] at f0 f1;subst f0 f1;exact ⟨⟨s0, s1⟩, fun _ => ⟨⟨⟨World.cells?_block hc (by omega), k0⟩, k1⟩, (Prod.mk.inj e).1⟩⟩
   ·exact ⟨⟨⟨#[]⟩, ⟨#[]⟩⟩, fun h => absurd h hi⟩
  obtain ⟨f, hf'⟩ := Classical.axiomOfChoice hch;have hd : x.1 = .slice (((List.range len).map f).map fdD19) ((List.range (cap - len)).map fun j => D (len + j)) := by
   rw [hx];simp only;congr 1;rw [List.map_map];apply List.map_congr_left;intro i hi;exact (hf' i (by simpa using hi)).2
  have hb := fds_bulk19 (H := H) ((List.range len).map f);have hdb : Rows.uptoBulkAll (((List.range len).map f).map fdD19 : List (DataW H)) ≤ Rows.uptoBulk x.1 := by rw [hd]; simp only [Rows.uptoBulk]; omega
  refine ⟨(List.range len).map f, .inr ⟨a', cap, by simp, by simpa using hlc, ?_⟩, fun g hg => ⟨Nat.le_trans (hb.2 g hg).1 hdb, Nat.le_trans (hb.2 g hg).2 hdb⟩, Nat.le_trans hb.1 hdb, by have := fds_size19 (H := H) ((List.range len).map f); omega⟩;intro j u hj;have hjl : j < len * 2 := by
   have := (List.getElem?_eq_some_iff.1 hj).1;rw [fC_length] at this;simpa using this
  have hi : j / 2 < len := by omega
  have hfi : ((List.range len).map f)[j / 2]? = some (f (j / 2)) := by simp [List.getElem?_map, List.getElem?_range hi]
  have e0 := f_at _ _ _ hfi 0 (by omega);have e1 := f_at _ _ _ hfi 1 (by omega);obtain ⟨⟨⟨p0, p1⟩, p2⟩, _⟩ := hf' (j / 2) hi;rcases Nat.mod_two_eq_zero_or_one j with hm2 | hm2
  ·have ej : j = j / 2 * 2 := by omega
   rw [ej] at hj ⊢;rw [Nat.add_zero] at e0;rw [e0] at hj;rw [← Option.some.inj hj];exact ⟨p0, p1⟩
  ·have ej : j = j / 2 * 2 + 1 := by omega
   rw [ej] at hj ⊢;rw [e1] at hj;rw [← Option.some.inj hj, ← Addr.add_add];exact ⟨World.block_lt_of_cell? W _ p2, p2⟩

namespace Frame19
theorem gTab : Tryz.prog.globalNamed "internal/strconv.uint64pow10" = some 1 := by kernel_rfl
theorem gTabType : (Tryz.prog.globals[1]?).map (·.type) = some 231 := by kernel_rfl
theorem cellsA : Tryz.prog.cellsOf 231 = 20 := by kernel_rfl
theorem cellsE : Tryz.prog.cellsOf 197 = 1 := by kernel_rfl
theorem tab_eq : (Rows.laid_internal_strconv_uint64pow10 : DataW Unit) = Lib.tabData .u64 Lib.pow10Tab := by kernel_rfl
theorem maxLen {W : World} (h : W.ShapedOpen Tryz.prog) : ∃ m, W.cell? ⟨0, 0, none⟩ = some (.int .i64 m) :=
 Go.Proofs.cell_of_shapedOpen_int (zero := #[.int .i64 0]) (t := 3) h (of_decide_eq_true (by kernel_rfl)) (by kernel_rfl) rfl (by kernel_rfl) (by kernel_rfl) Tryz.underlying3
theorem tb {W : World} (h : laidMetH Tryz.prog [("math/bits.deBruijn32tab", Rows.laid_math_bits_deBruijn32tab), ("math/bits.deBruijn64tab", Rows.laid_math_bits_deBruijn64tab), ("internal/strconv.uint64pow10", Rows.laid_internal_strconv_uint64pow10), ("unicode/utf8.acceptRanges", Rows.laid_unicode_utf8_acceptRanges), ("unicode/utf8.first", Rows.laid_unicode_utf8_first)] W) (hs : W.ShapedOpen Tryz.prog) : TB19 W := by
 have h' : laidMet Tryz.prog [("math/bits.deBruijn32tab", Rows.laid_math_bits_deBruijn32tab), ("math/bits.deBruijn64tab", Rows.laid_math_bits_deBruijn64tab), ("internal/strconv.uint64pow10", Rows.laid_internal_strconv_uint64pow10), ("unicode/utf8.acceptRanges", Rows.laid_unicode_utf8_acceptRanges), ("unicode/utf8.first", Rows.laid_unicode_utf8_first)] W := h;have h3 := h'.tail.tail;rw [tab_eq] at h3;exact ⟨Lib.tabIs_of_head (rest := [("unicode/utf8.acceptRanges", Rows.laid_unicode_utf8_acceptRanges), ("unicode/utf8.first", Rows.laid_unicode_utf8_first)]) gTab gTabType Tryz.underlying231 Tryz.underlying197 cellsE cellsA h3, maxLen hs⟩
end Frame19

def enD19 {H : Type} (e : Dk.En) : DataW H := .agg [.lit (.string e.path.data.toList), .agg [.lit (.string e.body.data.toList), .lit (.int .i64 e.time), .lit (.int .i64 e.seq)]]
set_option maxRecDepth 20000 in
theorem open_en19 {H : Type} {enc : TypeId × Value → H} {W : World} {n : Nat} {v0 v1 v2 v3 : Value} {x : DataW H × List MemPlace} (h : DataW.trod enc Tryz.prog W 0 (fun _ => true) true n 68 [v0, v1, v2, v3] = some x) :
  ∃ e : Dk.En, v0 = .string e.path ∧ v1 = .string e.body ∧ v2 = .int .i64 e.time ∧ v3 = .int .i64 e.seq ∧ x.1 = enD19 e := by
 obtain ⟨y0, y1, m, hx, _, h0, h1⟩ := trod_struct2 Tryz.underlying68 h;have c0 : Tryz.prog.cellsOf 9 = 1 := by kernel_rfl
 have c1 : Tryz.prog.cellsOf 3 = 1 := by kernel_rfl
 have c3 : Tryz.prog.cellsOf 66 = 3 := by kernel_rfl
 simp only [c0, c3, List.drop_zero, List.take_succ_cons, List.take_zero, List.drop_succ_cons] at h0 h1;obtain ⟨z0, z1, z2, m2, hz, _, g0, g1, g2⟩ := trod_struct3 Tryz.underlying66 h1;simp only [c0, c1, List.drop_zero, List.take_succ_cons, List.take_zero, List.drop_succ_cons] at g0 g1 g2;obtain ⟨s0, e0, r0, _⟩ := DataW.trod_string Tryz.underlying9 h0;obtain ⟨s1, e1, r1, _⟩ := DataW.trod_string Tryz.underlying9 g0;obtain ⟨i2, e2, r2, _⟩ := DataW.trod_int Tryz.underlying3 g1;obtain ⟨i3, e3, r3, _⟩ := DataW.trod_int Tryz.underlying3 g2;simp only [List.cons.injEq, and_true] at e0 e1 e2 e3;subst e0 e1 e2 e3;refine ⟨⟨s0, s1, i2, i3⟩, rfl, rfl, rfl, rfl, ?_⟩;rw [hx, r0, hz, r1, r2, r3];rfl
set_option maxRecDepth 100000 in
theorem ens_bulk19 {H : Type} (l : List Dk.En) : l.length ≤ Rows.uptoBulkAll (l.map enD19 : List (DataW H)) ∧ ∀ e ∈ l, e.path.size ≤ Rows.uptoBulkAll (l.map enD19 : List (DataW H)) ∧ e.body.size ≤ Rows.uptoBulkAll (l.map enD19 : List (DataW H)) := by
 induction l with
 | nil => exact ⟨Nat.zero_le _, fun f hf => by cases hf⟩
 | cons x r ih =>
  have e : x.path.size + x.body.size + 1 + Rows.uptoBulkAll (r.map enD19 : List (DataW H)) ≤ Rows.uptoBulkAll ((x :: r).map enD19 : List (DataW H)) := by
   simp only [List.map_cons, Rows.uptoBulkAll, enD19, Rows.uptoBulk, Lib.size_eq]; omega
  refine ⟨by have := ih.1; rw [List.length_cons]; omega, fun f hf => ?_⟩;rcases List.mem_cons.1 hf with rfl | h
  ·omega
  ·have := ih.2 f h; omega
theorem cells419 {w : World} {p : Addr} {cs : List Value} (h : w.cells? 0 p 4 = some cs) : ∃ v0 v1 v2 v3, cs = [v0, v1, v2, v3] ∧ w.cell? p = some v0 ∧ w.cell? ⟨p.block, p.off + 1, none⟩ = some v1 ∧ w.cell? ⟨p.block, p.off + 2, none⟩ = some v2 ∧ w.cell? ⟨p.block, p.off + 3, none⟩ = some v3 := by
 obtain ⟨_, hl, hc⟩ := World.cells?_some h
 match cs, hl with
 | [v0, v1, v2, v3], _ =>
  refine ⟨v0, v1, v2, v3, rfl, ?_, ?_, ?_, ?_⟩
  ·simpa [Addr.add] using hc 0 (by omega)
  ·simpa [Addr.add] using hc 1 (by omega)
  ·simpa [Addr.add] using hc 2 (by omega)
  ·simpa [Addr.add] using hc 3 (by omega)
set_option maxRecDepth 100000 in
theorem open_entries19 {H : Type} {enc : TypeId × Value → H} {W : World} {base : Nat} {v : Value} {d : DataW H} {p : List MemPlace} (hval : Value.okWide Tryz.prog W .any base 22 v) (h : DataW.Trod enc Tryz.prog W 0 (fun _ => true) true 22 v d p) :
  ∃ l : List Dk.En, EW19 W v l ∧ l.length ≤ Rows.uptoBulk d ∧ ∀ e ∈ l, e.path.size ≤ Rows.uptoBulk d ∧ e.body.size ≤ Rows.uptoBulk d := by
 obtain ⟨a, len, cap, rfl⟩ := okWide_slice Tryz.underlying22 hval;obtain ⟨fuel, hf⟩ := h;have c4 : Tryz.prog.cellsOf 68 = 4 := by kernel_rfl
 rcases open_slice Tryz.underlying22 hf with ⟨h1, h2⟩ | ⟨a', len', cap', m, n, D, Pl, h1, _, hlc, hcm, hm, hx, hel⟩
 ·simp [Value.cells] at h1 h2;obtain ⟨rfl, rfl, rfl⟩ := h1;exact ⟨[], .inl ⟨rfl, rfl⟩, Nat.zero_le _, fun e he => by cases he⟩
 ·simp [Value.cells] at h1;obtain ⟨rfl, rfl, rfl⟩ := h1;simp only [if_true] at hm;rw [hm] at hel hx;have hch : ∀ i, ∃ e : Dk.En, i < len → ((a'.add (i * 4)).block < W.heap.size ∧ En19At W (a'.add (i * 4)) e) ∧ D i = enD19 e := by
   intro i;by_cases hi : i < len
   ·obtain ⟨cs', hc, ht⟩ := hel i (by omega);rw [c4] at hc;obtain ⟨v0, v1, v2, v3, rfl, k0, k1, k2, k3⟩ := cells419 hc;obtain ⟨e, rfl, rfl, rfl, rfl, er⟩ := open_en19 ht;exact ⟨e, fun _ => ⟨⟨World.cells?_block hc (by omega), k0, k1, k2, k3⟩, er⟩⟩
   ·exact ⟨⟨⟨#[]⟩, ⟨#[]⟩, 0, 0⟩, fun h => absurd h hi⟩
  obtain ⟨f, hf'⟩ := Classical.axiomOfChoice hch;have hd : d = .slice (((List.range len).map f).map enD19) ((List.range (cap - len)).map fun j => D (len + j)) := by
   rw [(Prod.mk.inj hx).1];congr 1;rw [List.map_map];apply List.map_congr_left;intro i hi;exact (hf' i (by simpa using hi)).2
  have hb := ens_bulk19 (H := H) ((List.range len).map f);have hdb : Rows.uptoBulkAll (((List.range len).map f).map enD19 : List (DataW H)) ≤ Rows.uptoBulk d := by rw [hd]; simp only [Rows.uptoBulk]; omega
  refine ⟨(List.range len).map f, .inr ⟨a', cap, by simp, ?_⟩, Nat.le_trans hb.1 hdb, fun e he => ⟨Nat.le_trans (hb.2 e he).1 hdb, Nat.le_trans (hb.2 e he).2 hdb⟩⟩;intro i e he;have hi : i < len := by
   have := (List.getElem?_eq_some_iff.1 he).1;simpa using this
  have e' : f i = e := by simpa [List.getElem?_map, List.getElem?_range hi] using he
  rw [← e'];exact (hf' i hi).1

open Go.RowKit Go.ChangeShapes Go.WideShapes Go.ChangeAt Go.Deep Go.Joins

def roD18 {H : Type} (x : Fr18) : DataW H := .agg [.lit (.string x.1.m), .lit (.string x.1.p), .lit (.int .u8 x.1.h), .lit (.string x.2.data.toList)]
theorem cells418 {w : World} {p : Addr} {cs : List Value} (h : w.cells? 0 p 4 = some cs) : ∃ v0 v1 v2 v3, cs = [v0, v1, v2, v3] ∧ w.cell? p = some v0 ∧ w.cell? (p.add 1) = some v1 ∧ w.cell? (p.add 2) = some v2 ∧ w.cell? (p.add 3) = some v3 := by
 obtain ⟨_, hl, hc⟩ := World.cells?_some h
 match cs, hl with
 | [v0, v1, v2, v3], _ =>
  refine ⟨v0, v1, v2, v3, rfl, ?_, ?_, ?_, ?_⟩
  ·simpa [Addr.add] using hc 0 (by omega)
  ·simpa using hc 1 (by omega)
  ·simpa using hc 2 (by omega)
  ·simpa using hc 3 (by omega)

open Go.RowKit Go.ChangeShapes Go.WideShapes Go.ChangeAt Go.Deep Go.Joins

theorem trod_struct720 {H : Type} {enc : TypeId × Value → H} {P : Program} {w : World} {base : Nat} {spare : Nat → Bool} {held : Bool} {t : TypeId} {f0 f1 f2 f3 f4 f5 f6 : Field} {fuel : Nat} {cs : List Value} {x : DataW H × List MemPlace} (ht : P.underlying t = some (.struct #[f0, f1, f2, f3, f4, f5, f6])) (h : DataW.trod enc P w base spare held fuel t cs = some x) :
  ∃ y0 y1 y2 y3 y4 y5 y6 n, x.1 = .agg [y0.1, y1.1, y2.1, y3.1, y4.1, y5.1, y6.1] ∧ DataW.trod enc P w base spare held n f0.type ((cs.drop f0.offset).take (P.cellsOf f0.type)) = some y0 ∧ DataW.trod enc P w base spare held n f1.type ((cs.drop f1.offset).take (P.cellsOf f1.type)) = some y1 ∧
   DataW.trod enc P w base spare held n f2.type ((cs.drop f2.offset).take (P.cellsOf f2.type)) = some y2 ∧ DataW.trod enc P w base spare held n f3.type ((cs.drop f3.offset).take (P.cellsOf f3.type)) = some y3 ∧ DataW.trod enc P w base spare held n f4.type ((cs.drop f4.offset).take (P.cellsOf f4.type)) = some y4 ∧
   DataW.trod enc P w base spare held n f5.type ((cs.drop f5.offset).take (P.cellsOf f5.type)) = some y5 ∧ DataW.trod enc P w base spare held n f6.type ((cs.drop f6.offset).take (P.cellsOf f6.type)) = some y6 := by
 obtain ⟨xs, n, _, rfl, hl, hlen, hf⟩ := DataW.trod_struct ht h
 match xs, hlen with
 | [y0, y1, y2, y3, y4, y5, y6], _ => exact ⟨y0, y1, y2, y3, y4, y5, y6, n, by simp, by simpa using hf 0 f0 rfl, by simpa using hf 1 f1 rfl, by simpa using hf 2 f2 rfl, by simpa using hf 3 f3 rfl, by simpa using hf 4 f4 rfl, by simpa using hf 5 f5 rfl, by simpa using hf 6 f6 rfl⟩
theorem slice_shape20 {H : Type} {enc : TypeId × Value → H} {W : World} {fuel : Nat} {v : Value} {x : DataW H × List MemPlace} (h : DataW.trod enc Tryz.prog W 0 (fun _ => true) true fuel 23 [v] = some x) : ∃ a len cap, v = .slice a len cap := by
 rcases open_slice Tryz.underlying23 h with ⟨h1, _⟩ | ⟨a', len', cap', _, _, _, _, h1, _⟩
 ·simp only [List.cons.injEq, and_true] at h1;exact ⟨_, _, _, h1⟩
 ·simp only [List.cons.injEq, and_true] at h1;exact ⟨_, _, _, h1⟩
structure QB20 (r : Ap.Rq) (n : Nat) : Prop where
 m : r.m.size + 6 ≤ n
 p : r.p.size + 6 ≤ n
 b : r.b.size + 6 ≤ n
 fl : r.fs.length ≤ n
 fz : Tg.vsz r.fs ≤ n
 tl : r.ts.length ≤ n
theorem QB20.bq {r : Ap.Rq} {n : Nat} (h : QB20 r n) (hn : n ≤ 1048576) : BQ20 r :=
 ⟨by have := h.m; omega, by have := h.p; omega, by have := h.b; omega, Nat.le_trans h.fl hn, Nat.le_trans h.fz hn, Nat.le_trans h.tl hn⟩
theorem QB20.le {r : Ap.Rq} {n k : Nat} (h : QB20 r n) (hn : n ≤ k) : QB20 r k :=
 ⟨Nat.le_trans h.m hn, Nat.le_trans h.p hn, Nat.le_trans h.b hn, Nat.le_trans h.fl hn, Nat.le_trans h.fz hn, Nat.le_trans h.tl hn⟩
set_option maxRecDepth 100000 in
theorem open_requestAt20 {H : Type} {enc : TypeId × Value → H} {W : World} {fuel : Nat} {v0 v1 v2 v3 v4 v5 v6 : Value} {x : DataW H × List MemPlace} (h : DataW.trod enc Tryz.prog W 0 (fun _ => true) true fuel 25 [v0, v1, v2, v3, v4, v5, v6] = some x) :
  ∃ r : Ap.Rq, v0 = .string r.m ∧ v1 = .string r.sc ∧ v2 = .string r.au ∧ v3 = .string r.p ∧ v5 = .string r.b ∧ FW W v4 r.fs ∧ FW W v6 r.ts ∧ QB20 r (Rows.uptoBulk x.1) := by
 have c1 : Tryz.prog.cellsOf 9 = 1 := by kernel_rfl
 have c2 : Tryz.prog.cellsOf 23 = 1 := by kernel_rfl
 obtain ⟨y0, y1, y2, y3, y4, y5, y6, n, hd0, g0, g1, g2, g3, g4, g5, g6⟩ := trod_struct720 Tryz.underlying25 h;simp only [c1, c2, List.drop_zero, List.take_succ_cons, List.take_zero, List.drop_succ_cons] at g0 g1 g2 g3 g4 g5 g6;obtain ⟨s0, f0, e0, _⟩ := DataW.trod_string Tryz.underlying9 g0;obtain ⟨s1, f1, e1, _⟩ := DataW.trod_string Tryz.underlying9 g1;obtain ⟨s2, f2, e2, _⟩ := DataW.trod_string Tryz.underlying9 g2;obtain ⟨s3, f3, e3, _⟩ := DataW.trod_string Tryz.underlying9 g3;obtain ⟨s5, f5, e5, _⟩ := DataW.trod_string Tryz.underlying9 g5;simp only [List.cons.injEq, and_true] at f0 f1 f2 f3 f5;subst f0 f1 f2 f3 f5;obtain ⟨a, len, cap, rfl⟩ := slice_shape20 g4;obtain ⟨a', len', cap', rfl⟩ := slice_shape20 g6;obtain ⟨l, h1, h2, h3, h4⟩ := open_fieldsAt19 g4;obtain ⟨t, k1, k2, k3, k4⟩ := open_fieldsAt19 g6;have hbk : Rows.uptoBulk x.1 = s0.size + s1.size + s2.size + s3.size + Rows.uptoBulk y4.1 + s5.size + Rows.uptoBulk y6.1 + 6 := by
  rw [hd0, e0, e1, e2, e3, e5];simp only [Rows.uptoBulk, Rows.uptoBulkAll, ← Lib.size_eq];omega
 exact ⟨⟨s0, s1, s2, s3, l, s5, t⟩, rfl, rfl, rfl, rfl, rfl, h1, k1, ⟨by simp only; omega, by simp only; omega, by simp only; omega, by simp only; omega, by simp only; omega, by simp only; omega⟩⟩
theorem cells720 {w : World} {p : Addr} {cs : List Value} (h : w.cells? 0 p 7 = some cs) : ∃ v0 v1 v2 v3 v4 v5 v6, cs = [v0, v1, v2, v3, v4, v5, v6] ∧ w.cell? p = some v0 ∧ w.cell? ⟨p.block, p.off + 1, none⟩ = some v1 ∧ w.cell? ⟨p.block, p.off + 2, none⟩ = some v2 ∧ w.cell? ⟨p.block, p.off + 3, none⟩ = some v3 ∧ w.cell? ⟨p.block, p.off + 4, none⟩ = some v4 ∧ w.cell? ⟨p.block, p.off + 5, none⟩ = some v5 ∧ w.cell? ⟨p.block, p.off + 6, none⟩ = some v6 := by
 obtain ⟨_, hl, hc⟩ := World.cells?_some h
 match cs, hl with
 | [v0, v1, v2, v3, v4, v5, v6], _ =>
  refine ⟨v0, v1, v2, v3, v4, v5, v6, rfl, ?_, ?_, ?_, ?_, ?_, ?_, ?_⟩
  ·simpa [Addr.add] using hc 0 (by omega)
  ·simpa [Addr.add] using hc 1 (by omega)
  ·simpa [Addr.add] using hc 2 (by omega)
  ·simpa [Addr.add] using hc 3 (by omega)
  ·simpa [Addr.add] using hc 4 (by omega)
  ·simpa [Addr.add] using hc 5 (by omega)
  ·simpa [Addr.add] using hc 6 (by omega)
def RqAt20 (w : World) (a : Addr) (r : Ap.Rq) (fv tv : Value) : Prop :=
 w.cell? a = some (.string r.m) ∧ w.cell? ⟨a.block, a.off + 1, none⟩ = some (.string r.sc) ∧ w.cell? ⟨a.block, a.off + 2, none⟩ = some (.string r.au) ∧ w.cell? ⟨a.block, a.off + 3, none⟩ = some (.string r.p) ∧ w.cell? ⟨a.block, a.off + 4, none⟩ = some fv ∧ w.cell? ⟨a.block, a.off + 5, none⟩ = some (.string r.b) ∧ w.cell? ⟨a.block, a.off + 6, none⟩ = some tv
theorem RqAt20.keep {w w' : World} {a : Addr} {r : Ap.Rq} {fv tv : Value} (h : RqAt20 w a r fv tv) (hb : Below w.heap.size w w') (hl : a.block < w.heap.size) : RqAt20 w' a r fv tv :=
 ⟨(hb.cell hl).trans h.1, (hb.cell (p := ⟨a.block, a.off + 1, none⟩) hl).trans h.2.1, (hb.cell (p := ⟨a.block, a.off + 2, none⟩) hl).trans h.2.2.1, (hb.cell (p := ⟨a.block, a.off + 3, none⟩) hl).trans h.2.2.2.1, (hb.cell (p := ⟨a.block, a.off + 4, none⟩) hl).trans h.2.2.2.2.1, (hb.cell (p := ⟨a.block, a.off + 5, none⟩) hl).trans h.2.2.2.2.2.1, (hb.cell (p := ⟨a.block, a.off + 6, none⟩) hl).trans h.2.2.2.2.2.2⟩
def QW20 (w : World) (ao : Option Addr) (l : List Ap.Rq) : Prop := ∀ (i : Nat) (r : Ap.Rq), l[i]? = some r → ∃ (a : Addr) (fv tv : Value), ao = some a ∧ (a.add (i * 7)).block < w.heap.size ∧ RqAt20 w (a.add (i * 7)) r fv tv ∧ FW w fv r.fs ∧ FW w tv r.ts
theorem QW20.keep {w w' : World} {ao : Option Addr} {l : List Ap.Rq} (h : QW20 w ao l) (hb : Below w.heap.size w w') : QW20 w' ao l := fun i r hr => by
 obtain ⟨a, fv, tv, h1, h2, h3, h4, h5⟩ := h i r hr;exact ⟨a, fv, tv, h1, Nat.lt_of_lt_of_le h2 hb.size, h3.keep hb h2, h4.keep hb, h5.keep hb⟩

theorem bulk_mem20 {H : Type} : ∀ (ds : List (DataW H)) (d : DataW H), d ∈ ds → Rows.uptoBulk d ≤ Rows.uptoBulkAll ds := by
 intro ds
 induction ds with
 | nil => intro d h; cases h
 | cons a r ih =>
  intro d h;rcases List.mem_cons.1 h with rfl | h
  ·simp only [Rows.uptoBulkAll]; omega
  ·have := ih d h;simp only [Rows.uptoBulkAll]; omega
theorem bulk_pos20 {H : Type} (d : DataW H) : 1 ≤ Rows.uptoBulk d := by
 unfold Rows.uptoBulk;split <;> omega
theorem bulk_len20 {H : Type} : ∀ (ds : List (DataW H)), ds.length ≤ Rows.uptoBulkAll ds := by
 intro ds
 induction ds with
 | nil => exact Nat.zero_le _
 | cons a r ih => have := bulk_pos20 a; simp only [Rows.uptoBulkAll, List.length_cons]; omega
set_option maxRecDepth 100000 in
theorem open_requests20 {H : Type} {enc : TypeId × Value → H} {W : World} {base : Nat} {v : Value} {d : DataW H} {p : List MemPlace} (hval : Value.okWide Tryz.prog W .any base 48 v) (h : DataW.Trod enc Tryz.prog W 0 (fun _ => true) true 48 v d p) :
  ∃ (l : List Ap.Rq) (ao : Option Addr) (n cap : Nat), v = .slice ao n cap ∧ l.length = n ∧ QW20 W ao l ∧ (∀ r ∈ l, QB20 r (Rows.uptoBulk d)) ∧ n ≤ Rows.uptoBulk d := by
 obtain ⟨ao, len, cap, rfl⟩ := okWide_slice Tryz.underlying48 hval;obtain ⟨fuel, hf⟩ := h;have c7 : Tryz.prog.cellsOf 25 = 7 := by kernel_rfl
 rcases open_slice Tryz.underlying48 hf with ⟨h1, h2⟩ | ⟨a', len', cap', m, n, D, Pl, h1, _, hlc, hcm, hm, hx, hel⟩
 ·simp [Value.cells] at h1 h2;obtain ⟨rfl, rfl, rfl⟩ := h1;exact ⟨[], none, 0, 0, rfl, rfl, (fun i r hr => by simp at hr), (fun f hf => by cases hf), Nat.zero_le _⟩
 ·simp [Value.cells] at h1;obtain ⟨rfl, rfl, rfl⟩ := h1;simp only [if_true] at hm;rw [hm] at hel hx;have hch : ∀ i, ∃ r : Ap.Rq, i < len → ∃ fv tv, (a'.add (i * 7)).block < W.heap.size ∧ RqAt20 W (a'.add (i * 7)) r fv tv ∧ FW W fv r.fs ∧ FW W tv r.ts ∧ QB20 r (Rows.uptoBulk (D i)) := by
   intro i;by_cases hi : i < len
   ·obtain ⟨cs', hc, ht⟩ := hel i (by omega);rw [c7] at hc;obtain ⟨v0, v1, v2, v3, v4, v5, v6, rfl, k0, k1, k2, k3, k4, k5, k6⟩ := cells720 hc;obtain ⟨r, rfl, rfl, rfl, rfl, rfl, h1, h2, h3⟩ := open_requestAt20 ht;exact ⟨r, fun _ => ⟨v4, v6, World.cells?_block hc (by omega), ⟨k0, k1, k2, k3, k4, k5, k6⟩, h1, h2, h3⟩⟩
   ·exact ⟨⟨⟨#[]⟩, ⟨#[]⟩, ⟨#[]⟩, ⟨#[]⟩, [], ⟨#[]⟩, []⟩, fun h => absurd h hi⟩
  obtain ⟨f, hf'⟩ := Classical.axiomOfChoice hch;have hd : d = .slice ((List.range len).map D) ((List.range (cap - len)).map fun j => D (len + j)) := (Prod.mk.inj hx).1;have hdb : Rows.uptoBulkAll ((List.range len).map D) ≤ Rows.uptoBulk d := by rw [hd]; simp only [Rows.uptoBulk]; omega
  refine ⟨(List.range len).map f, some a', len, cap, rfl, by simp, fun i r hr => ?_, fun r hr => ?_, ?_⟩
  ·have hi : i < len := by
    have := (List.getElem?_eq_some_iff.1 hr).1;simpa using this
   have e' : f i = r := by simpa [List.getElem?_map, List.getElem?_range hi] using hr
   obtain ⟨fv, tv, g1, g2, g3, g4, _⟩ := hf' i hi;rw [← e'];exact ⟨a', fv, tv, rfl, g1, g2, g3, g4⟩
  ·obtain ⟨i, hi, rfl⟩ := List.mem_map.1 hr;have hi' : i < len := by simpa using hi
   obtain ⟨fv, tv, _, _, _, _, g5⟩ := hf' i hi';exact g5.le (Nat.le_trans (bulk_mem20 _ _ (List.mem_map.2 ⟨i, hi, rfl⟩)) hdb)
  ·have := bulk_len20 ((List.range len).map D);simp at this;omega

set_option maxRecDepth 100000 in
theorem ros_bulk20 {H : Type} (l : List Fr18) : l.length ≤ Rows.uptoBulkAll (l.map roD18 : List (DataW H)) ∧ ∀ x ∈ l, x.1.m.length ≤ Rows.uptoBulkAll (l.map roD18 : List (DataW H)) ∧ x.1.p.length ≤ Rows.uptoBulkAll (l.map roD18 : List (DataW H)) ∧ x.2.size ≤ Rows.uptoBulkAll (l.map roD18 : List (DataW H)) := by
 induction l with
 | nil => exact ⟨Nat.zero_le _, fun f hf => by cases hf⟩
 | cons x r ih =>
  have e : x.1.m.length + x.1.p.length + x.2.size + 1 + Rows.uptoBulkAll (r.map roD18 : List (DataW H)) ≤ Rows.uptoBulkAll ((x :: r).map roD18 : List (DataW H)) := by
   simp only [List.map_cons, Rows.uptoBulkAll, roD18, Rows.uptoBulk, Lib.size_eq]; omega
  refine ⟨by have := ih.1; rw [List.length_cons]; omega, fun f hf => ?_⟩;rcases List.mem_cons.1 hf with rfl | h
  ·omega
  ·have := ih.2 f h; omega
set_option maxRecDepth 100000 in
theorem open_routes20 {H : Type} {enc : TypeId × Value → H} {W : World} {base : Nat} {v : Value} {d : DataW H} {p : List MemPlace} (hval : Value.okWide Tryz.prog W .any base 30 v) (h : DataW.Trod enc Tryz.prog W 0 (fun _ => true) true 30 v d p) :
  ∃ (l : List Fr18) (ao : Option Addr) (n cap : Nat), v = .slice ao n cap ∧ l.length = n ∧ RW18 W (.slice ao n cap) l ∧ (∀ x ∈ l, x.1.m.length ≤ Rows.uptoBulk d ∧ x.1.p.length ≤ Rows.uptoBulk d ∧ x.2.size ≤ Rows.uptoBulk d) ∧ n ≤ Rows.uptoBulk d := by
 obtain ⟨ao, len, cap, rfl⟩ := okWide_slice Tryz.underlying30 hval;obtain ⟨fuel, hf⟩ := h;have c4 : Tryz.prog.cellsOf 60 = 4 := by kernel_rfl
 have c1 : Tryz.prog.cellsOf 9 = 1 := by kernel_rfl
 have c2 : Tryz.prog.cellsOf 58 = 1 := by kernel_rfl
 rcases open_slice Tryz.underlying30 hf with ⟨h1, h2⟩ | ⟨a', len', cap', m, n, D, Pl, h1, _, hlc, hcm, hm, hx, hel⟩
 ·simp [Value.cells] at h1 h2;obtain ⟨rfl, rfl, rfl⟩ := h1;exact ⟨[], none, 0, 0, rfl, rfl, .inl ⟨rfl, rfl⟩, (fun f hf => by cases hf), Nat.zero_le _⟩
 ·simp [Value.cells] at h1;obtain ⟨rfl, rfl, rfl⟩ := h1;simp only [if_true] at hm;rw [hm] at hel hx;have hch : ∀ i, ∃ f : Fr18, i < len → (((a'.add (i * 4)).block < W.heap.size ∧ W.cell? (a'.add (i * 4)) = some (.string ⟨f.1.m.toArray⟩)) ∧ W.cell? ((a'.add (i * 4)).add 1) = some (.string ⟨f.1.p.toArray⟩) ∧ W.cell? ((a'.add (i * 4)).add 2) = some (.int .u8 f.1.h) ∧ W.cell? ((a'.add (i * 4)).add 3) = some (.string f.2)) ∧ D i = roD18 f := by
   intro i;by_cases hi : i < len
   ·obtain ⟨cs', hc, ht⟩ := hel i (by omega);rw [c4] at hc;obtain ⟨v0, v1, v2, v3, rfl, k0, k1, k2, k3⟩ := cells418 hc;obtain ⟨z0, z1, z2, z3, m2, e, _, g0, g1, g2, g3⟩ := trod_struct4 Tryz.underlying60 ht;simp only [c1, c2, List.drop_zero, List.take_succ_cons, List.take_zero, List.drop_succ_cons] at g0 g1 g2 g3;obtain ⟨s0, f0, rfl, _⟩ := DataW.trod_string Tryz.underlying9 g0;obtain ⟨s1, f1, rfl, _⟩ := DataW.trod_string Tryz.underlying9 g1;obtain ⟨i2, f2, rfl, _⟩ := DataW.trod_int Tryz.underlying58 g2;obtain ⟨s3, f3, rfl, _⟩ := DataW.trod_string Tryz.underlying9 g3;simp only [List.cons.injEq, and_true] at f0 f1 f2 f3;subst f0 f1 f2 f3;exact ⟨(⟨s0.data.toList, s1.data.toList, i2⟩, s3), fun _ => ⟨⟨⟨World.cells?_block hc (by omega), k0⟩, k1, k2, k3⟩, (Prod.mk.inj e).1⟩⟩
   ·exact ⟨(⟨[], [], 0⟩, ⟨#[]⟩), fun h => absurd h hi⟩
  obtain ⟨f, hf'⟩ := Classical.axiomOfChoice hch;have hd : d = .slice (((List.range len).map f).map roD18) ((List.range (cap - len)).map fun j => D (len + j)) := by
   have hx1 := (Prod.mk.inj hx).1;rw [hx1];congr 1;rw [List.map_map];apply List.map_congr_left;intro i hi;exact (hf' i (by simpa using hi)).2
  have hb := ros_bulk20 (H := H) ((List.range len).map f);have hdb : Rows.uptoBulkAll (((List.range len).map f).map roD18 : List (DataW H)) ≤ Rows.uptoBulk d := by rw [hd]; simp only [Rows.uptoBulk]; omega
  refine ⟨(List.range len).map f, some a', len, cap, rfl, by simp, .inr ⟨a', cap, by simp, by simpa using hlc, ?_⟩, fun g hg => ⟨Nat.le_trans (hb.2 g hg).1 hdb, Nat.le_trans (hb.2 g hg).2.1 hdb, Nat.le_trans (hb.2 g hg).2.2 hdb⟩, by have := Nat.le_trans hb.1 hdb; simpa using this⟩;intro j u hj;have hjl : j < len * 4 := by
   have := (List.getElem?_eq_some_iff.1 hj).1;rw [rC18_len] at this;simpa using this
  have hi : j / 4 < len := by omega
  have hfi : ((List.range len).map f)[j / 4]? = some (f (j / 4)) := by simp [List.getElem?_map, List.getElem?_range hi]
  obtain ⟨⟨⟨p0, p1⟩, p2, p3, p4⟩, _⟩ := hf' (j / 4) hi;have e := rC18_at _ _ _ hfi (j % 4) (by omega);have ej : j = j / 4 * 4 + j % 4 := by omega
  rw [← ej] at e;rw [e] at hj;rw [ej, ← Addr.add_add];have h4 : j % 4 = 0 ∨ j % 4 = 1 ∨ j % 4 = 2 ∨ j % 4 = 3 := by omega
  rcases h4 with h | h | h | h
  ·rw [h] at hj ⊢;rw [← Option.some.inj hj];exact ⟨by simpa [Addr.add] using p0, by simpa [Addr.add] using p1⟩
  ·rw [h] at hj ⊢;rw [← Option.some.inj hj];exact ⟨World.block_lt_of_cell? W _ p2, p2⟩
  ·rw [h] at hj ⊢;rw [← Option.some.inj hj];exact ⟨World.block_lt_of_cell? W _ p3, p3⟩
  ·rw [h] at hj ⊢;rw [← Option.some.inj hj];exact ⟨World.block_lt_of_cell? W _ p4, p4⟩

end Go.Proofs.YthhpejgpfaikaabGreatDoor
