/-
  Two pieces that are the same: the document's Same by its contract.
  Fields that came in: as a row hands them; what a row says of the library's variables.
-/
import Derived.Test.YthhpejgpfaikaaaGreatDoorPnAR
import Derived.Test.YthhpejgpfaikaaaGreatDoorPnBO
import Derived.Test.YthhpejgpfaikaaaGreatDoorRows
import Derived.Deep.Slices
import Derived.Deep.Strs
import Derived.RowKit
import Derived.ProofKit
import Derived.OpenShut
import Derived.LaidMore
import Derived.Stop.LaidErr
import Derived.Deep.DeepHandedRow
import Derived.Lib.LaidTab
import Derived.Lib.ItoaNum
import Derived.Test.YthhpejgpfaikaaaGreatDoorPnAN
namespace Go.Proofs.YthhpejgpfaikaaaGreatDoor
open Go.RowKit

set_option maxHeartbeats 8000000 in
set_option maxRecDepth 20000 in
theorem csamePc21 (p : Hr.Pc) (rv tv rv' tv' : Value) (w : World) (h1 : FW w rv p.rq.fs) (h2 : FW w rv' p.rq.fs) (h3 : FW w tv p.fs) (h4 : FW w tv' p.fs) (hl : p.rq.fs.length ≤ 140737488355328) (ht : p.fs.length ≤ 140737488355328) :
    Calls Tryz.prog 15 #[.agg (pcC p rv tv), .agg (pcC p rv' tv')] w fun e w' => e = .returned (.bool true) ∧ Below w.heap.size w w' := by
  obtain ⟨ra, rc, hv⟩ := h1.shape
  subst hv
  obtain ⟨rb, rd, hv⟩ := h2.shape
  subst hv
  obtain ⟨ta, tc, hv⟩ := h3.shape
  subst hv
  obtain ⟨tb, td, hv⟩ := h4.shape
  subst hv
  have H1 := hid' h1
  have H2 := hid' h2
  have H3 := hid' h3
  have H4 := hid' h4
  have HL := hid' hl
  have HT := hid' ht
  have eb : (p.bd.toList == p.bd.toList) = true := beq_self_eq_true _
  have em : (p.mark != p.mark) = false := by simp
  have es : (p.st == p.st) = true := by simp
  clear h1 h2 h3 h4 hl ht
  unfold pcC
  go_enter Tryz.func15, Tryz.ntmps15
  go_wp2_with (refine wpl_box 41 _ rfl rfl #[.int .u8 p.mark, .string p.rq.m, .string p.rq.s, .string p.rq.a, .string p.rq.p, .slice ra p.rq.fs.length rc, .string ⟨#[]⟩, .slice none 0 0, .bool p.wait, .bool p.last, .bool p.old, .bool p.has, .string p.bd, .slice ta p.fs.length tc, .int .i64 p.st] (by kernel_rfl) ?_)
  intro xa w1 hga haa hba
  have HBA := hid' hba
  have HAA := hid' haa
  clear hga haa hba
  go_wp2_with (refine wpl_box 41 _ rfl rfl #[.int .u8 p.mark, .string p.rq.m, .string p.rq.s, .string p.rq.a, .string p.rq.p, .slice rb p.rq.fs.length rd, .string ⟨#[]⟩, .slice none 0 0, .bool p.wait, .bool p.last, .bool p.old, .bool p.has, .string p.bd, .slice tb p.fs.length td, .int .i64 p.st] (by kernel_rfl) ?_)
  intro xb w2 hgb hab hbb
  have HBB := hid' (below_two HBA.out hbb)
  have haa2 := HAA.out.keep hbb
  clear hgb
  have c0 : w2.cell? ⟨xa, 0, none⟩ = some (.int .u8 p.mark) := haa2.cell 0 _ rfl
  have c1 : w2.cell? ⟨xa, 1, none⟩ = some (.string p.rq.m) := haa2.cell 1 _ rfl
  have c2 : w2.cell? ⟨xa, 2, none⟩ = some (.string p.rq.s) := haa2.cell 2 _ rfl
  have c3 : w2.cell? ⟨xa, 3, none⟩ = some (.string p.rq.a) := haa2.cell 3 _ rfl
  have c4 : w2.cell? ⟨xa, 4, none⟩ = some (.string p.rq.p) := haa2.cell 4 _ rfl
  have c5 : w2.cell? ⟨xa, 5, none⟩ = some (.slice ra p.rq.fs.length rc) := haa2.cell 5 _ rfl
  have c6 : w2.cell? ⟨xa, 6, none⟩ = some (.string ⟨#[]⟩) := haa2.cell 6 _ rfl
  have c7 : w2.cell? ⟨xa, 7, none⟩ = some (.slice none 0 0) := haa2.cell 7 _ rfl
  have c8 : w2.cell? ⟨xa, 8, none⟩ = some (.bool p.wait) := haa2.cell 8 _ rfl
  have c9 : w2.cell? ⟨xa, 9, none⟩ = some (.bool p.last) := haa2.cell 9 _ rfl
  have c10 : w2.cell? ⟨xa, 10, none⟩ = some (.bool p.old) := haa2.cell 10 _ rfl
  have c11 : w2.cell? ⟨xa, 11, none⟩ = some (.bool p.has) := haa2.cell 11 _ rfl
  have c12 : w2.cell? ⟨xa, 12, none⟩ = some (.string p.bd) := haa2.cell 12 _ rfl
  have c13 : w2.cell? ⟨xa, 13, none⟩ = some (.slice ta p.fs.length tc) := haa2.cell 13 _ rfl
  have c14 : w2.cell? ⟨xa, 14, none⟩ = some (.int .i64 p.st) := haa2.cell 14 _ rfl
  have d0 : w2.cell? ⟨xb, 0, none⟩ = some (.int .u8 p.mark) := hab.cell 0 _ rfl
  have d1 : w2.cell? ⟨xb, 1, none⟩ = some (.string p.rq.m) := hab.cell 1 _ rfl
  have d2 : w2.cell? ⟨xb, 2, none⟩ = some (.string p.rq.s) := hab.cell 2 _ rfl
  have d3 : w2.cell? ⟨xb, 3, none⟩ = some (.string p.rq.a) := hab.cell 3 _ rfl
  have d4 : w2.cell? ⟨xb, 4, none⟩ = some (.string p.rq.p) := hab.cell 4 _ rfl
  have d5 : w2.cell? ⟨xb, 5, none⟩ = some (.slice rb p.rq.fs.length rd) := hab.cell 5 _ rfl
  have d6 : w2.cell? ⟨xb, 6, none⟩ = some (.string ⟨#[]⟩) := hab.cell 6 _ rfl
  have d7 : w2.cell? ⟨xb, 7, none⟩ = some (.slice none 0 0) := hab.cell 7 _ rfl
  have d8 : w2.cell? ⟨xb, 8, none⟩ = some (.bool p.wait) := hab.cell 8 _ rfl
  have d9 : w2.cell? ⟨xb, 9, none⟩ = some (.bool p.last) := hab.cell 9 _ rfl
  have d10 : w2.cell? ⟨xb, 10, none⟩ = some (.bool p.old) := hab.cell 10 _ rfl
  have d11 : w2.cell? ⟨xb, 11, none⟩ = some (.bool p.has) := hab.cell 11 _ rfl
  have d12 : w2.cell? ⟨xb, 12, none⟩ = some (.string p.bd) := hab.cell 12 _ rfl
  have d13 : w2.cell? ⟨xb, 13, none⟩ = some (.slice tb p.fs.length td) := hab.cell 13 _ rfl
  have d14 : w2.cell? ⟨xb, 14, none⟩ = some (.int .i64 p.st) := hab.cell 14 _ rfl
  have HAA2 := hid' haa2
  have HAB2 := hid' hab
  clear haa2 hab hbb
  have HSR := hid' (rsameReq14 p.rq.m p.rq.s p.rq.a p.rq.p ⟨#[]⟩ _ _ (.slice none 0 0) (.slice none 0 0) p.rq.fs [] w2 (H1.out.keep HBB.out) (H2.out.keep HBB.out) (FW.of_own (World.ownsRow_nil w2 w2.heap.size 47 2)) (FW.of_own (World.ownsRow_nil w2 w2.heap.size 47 2)) HL.out (Nat.zero_le _))
  go_wp2_with (go_at_call 31; refine HSR.out.mono ?_; rintro e w3 ⟨rfl, hb3⟩; refine Hid.out ?_)
  refine hid' ?_
  have HB3 := hid' (below_two HBB.out hb3)
  have haa3 := HAA2.out.keep hb3
  have hab3 := HAB2.out.keep hb3
  clear c0 d0 c1 d1 c2 d2 c3 d3 c4 d4 c5 d5 c6 d6 c7 d7 c8 d8 c9 d9 c10 d10 c11 d11 c12 d12 c13 d13 c14 d14 hb3
  have c0 : w3.cell? ⟨xa, 0, none⟩ = some (.int .u8 p.mark) := haa3.cell 0 _ rfl
  have c1 : w3.cell? ⟨xa, 1, none⟩ = some (.string p.rq.m) := haa3.cell 1 _ rfl
  have c2 : w3.cell? ⟨xa, 2, none⟩ = some (.string p.rq.s) := haa3.cell 2 _ rfl
  have c3 : w3.cell? ⟨xa, 3, none⟩ = some (.string p.rq.a) := haa3.cell 3 _ rfl
  have c4 : w3.cell? ⟨xa, 4, none⟩ = some (.string p.rq.p) := haa3.cell 4 _ rfl
  have c5 : w3.cell? ⟨xa, 5, none⟩ = some (.slice ra p.rq.fs.length rc) := haa3.cell 5 _ rfl
  have c6 : w3.cell? ⟨xa, 6, none⟩ = some (.string ⟨#[]⟩) := haa3.cell 6 _ rfl
  have c7 : w3.cell? ⟨xa, 7, none⟩ = some (.slice none 0 0) := haa3.cell 7 _ rfl
  have c8 : w3.cell? ⟨xa, 8, none⟩ = some (.bool p.wait) := haa3.cell 8 _ rfl
  have c9 : w3.cell? ⟨xa, 9, none⟩ = some (.bool p.last) := haa3.cell 9 _ rfl
  have c10 : w3.cell? ⟨xa, 10, none⟩ = some (.bool p.old) := haa3.cell 10 _ rfl
  have c11 : w3.cell? ⟨xa, 11, none⟩ = some (.bool p.has) := haa3.cell 11 _ rfl
  have c12 : w3.cell? ⟨xa, 12, none⟩ = some (.string p.bd) := haa3.cell 12 _ rfl
  have c13 : w3.cell? ⟨xa, 13, none⟩ = some (.slice ta p.fs.length tc) := haa3.cell 13 _ rfl
  have c14 : w3.cell? ⟨xa, 14, none⟩ = some (.int .i64 p.st) := haa3.cell 14 _ rfl
  have d0 : w3.cell? ⟨xb, 0, none⟩ = some (.int .u8 p.mark) := hab3.cell 0 _ rfl
  have d1 : w3.cell? ⟨xb, 1, none⟩ = some (.string p.rq.m) := hab3.cell 1 _ rfl
  have d2 : w3.cell? ⟨xb, 2, none⟩ = some (.string p.rq.s) := hab3.cell 2 _ rfl
  have d3 : w3.cell? ⟨xb, 3, none⟩ = some (.string p.rq.a) := hab3.cell 3 _ rfl
  have d4 : w3.cell? ⟨xb, 4, none⟩ = some (.string p.rq.p) := hab3.cell 4 _ rfl
  have d5 : w3.cell? ⟨xb, 5, none⟩ = some (.slice rb p.rq.fs.length rd) := hab3.cell 5 _ rfl
  have d6 : w3.cell? ⟨xb, 6, none⟩ = some (.string ⟨#[]⟩) := hab3.cell 6 _ rfl
  have d7 : w3.cell? ⟨xb, 7, none⟩ = some (.slice none 0 0) := hab3.cell 7 _ rfl
  have d8 : w3.cell? ⟨xb, 8, none⟩ = some (.bool p.wait) := hab3.cell 8 _ rfl
  have d9 : w3.cell? ⟨xb, 9, none⟩ = some (.bool p.last) := hab3.cell 9 _ rfl
  have d10 : w3.cell? ⟨xb, 10, none⟩ = some (.bool p.old) := hab3.cell 10 _ rfl
  have d11 : w3.cell? ⟨xb, 11, none⟩ = some (.bool p.has) := hab3.cell 11 _ rfl
  have d12 : w3.cell? ⟨xb, 12, none⟩ = some (.string p.bd) := hab3.cell 12 _ rfl
  have d13 : w3.cell? ⟨xb, 13, none⟩ = some (.slice tb p.fs.length td) := hab3.cell 13 _ rfl
  have d14 : w3.cell? ⟨xb, 14, none⟩ = some (.int .i64 p.st) := hab3.cell 14 _ rfl
  have HAA3 := hid' haa3
  have HAB3 := hid' hab3
  clear haa3 hab3
  have HSF := hid' (rsame14 _ _ p.fs w3 (H3.out.keep HB3.out) (H4.out.keep HB3.out) HT.out)
  go_wp2_with fail
  refine HSF.out.mono ?_
  rintro e w4 ⟨rfl, nq, hw4⟩
  have HB4 : Hid (Below w.heap.size w w4) := hid' (by rw [hw4]; exact below_two HB3.out (below_dn _ _))
  have hbn : Below w3.heap.size w3 w4 := by rw [hw4]; exact below_dn _ _
  have a14 : w4.cell? ⟨xa, 14, none⟩ = some (.int .i64 p.st) := (HAA3.out.keep hbn).cell 14 _ rfl
  have b14 : w4.cell? ⟨xb, 14, none⟩ = some (.int .i64 p.st) := (HAB3.out.keep hbn).cell 14 _ rfl
  clear hw4 hbn
  go_wp2_with fail
  go_ret
  exact ⟨rfl, HB4.out⟩

end Go.Proofs.YthhpejgpfaikaaaGreatDoor

namespace Go.Proofs.YthhpejgpfaikaaaGreatDoor
open Go.RowKit Go.ChangeShapes Go.WideShapes Go.ChangeAt Go.Deep

/-- What a field reads as. -/
def fdD {H : Type} (f : Fd) : DataW H := .agg [.lit (.string f.n.data.toList), .lit (.string f.v.data.toList)]
set_option maxRecDepth 100000 in
theorem fds_bulk {H : Type} (l : List Fd) : l.length ≤ Rows.uptoBulkAll (l.map fdD : List (DataW H)) ∧ ∀ f ∈ l, f.n.size ≤ Rows.uptoBulkAll (l.map fdD : List (DataW H)) ∧ f.v.size ≤ Rows.uptoBulkAll (l.map fdD : List (DataW H)) := by
  induction l with
  | nil => exact ⟨Nat.zero_le _, fun f hf => by cases hf⟩
  | cons x r ih =>
    have e : Rows.uptoBulkAll ((x :: r).map fdD : List (DataW H)) = x.n.data.toList.length + x.v.data.toList.length + 3 + Rows.uptoBulkAll (r.map fdD : List (DataW H)) := by
      simp only [List.map_cons, Rows.uptoBulkAll, fdD, Rows.uptoBulk]; omega
    rw [e, ← Lib.size_eq, ← Lib.size_eq]
    refine ⟨by have := ih.1; rw [List.length_cons]; omega, fun f hf => ?_⟩
    rcases List.mem_cons.1 hf with rfl | h
    · omega
    · have := ih.2 f h; omega
set_option maxRecDepth 100000 in
theorem fds_size {H : Type} (l : List Fd) : Ms.size l ≤ 32 * Rows.uptoBulkAll (l.map fdD : List (DataW H)) := by
  induction l with
  | nil => exact Nat.zero_le _
  | cons x r ih =>
    have e : Rows.uptoBulkAll ((x :: r).map fdD : List (DataW H)) = x.n.data.toList.length + x.v.data.toList.length + 3 + Rows.uptoBulkAll (r.map fdD : List (DataW H)) := by
      simp only [List.map_cons, Rows.uptoBulkAll, fdD, Rows.uptoBulk]; omega
    rw [e, ← Lib.size_eq, ← Lib.size_eq, show Ms.size (x :: r) = Ms.wt x + Ms.size r from rfl]
    unfold Ms.wt
    omega
theorem cells2 {w : World} {p : Addr} {cs : List Value} (h : w.cells? 0 p 2 = some cs) : ∃ v0 v1, cs = [v0, v1] ∧ w.cell? p = some v0 ∧ w.cell? (p.add 1) = some v1 := by
  obtain ⟨_, hl, hc⟩ := World.cells?_some h
  match cs, hl with
  | [v0, v1], _ =>
    refine ⟨v0, v1, rfl, ?_, ?_⟩
    · simpa [Addr.add] using hc 0 (by omega)
    · simpa using hc 1 (by omega)

set_option maxRecDepth 100000 in
theorem open_fieldsAt {H : Type} {enc : TypeId × Value → H} {W : World} {fuel : Nat} {ao : Option Addr} {len cap : Nat} {x : DataW H × List MemPlace} (hf : DataW.trod enc Tryz.prog W 0 (fun _ => true) true fuel 37 [.slice ao len cap] = some x) :
    ∃ l : List Fd, FW W (.slice ao len cap) l ∧ (∀ f ∈ l, f.n.size ≤ Rows.uptoBulk x.1 ∧ f.v.size ≤ Rows.uptoBulk x.1) ∧ l.length ≤ Rows.uptoBulk x.1 ∧ Ms.size l ≤ 32 * Rows.uptoBulk x.1 := by
  have c2 : Tryz.prog.cellsOf 47 = 2 := by kernel_rfl
  have c3 : Tryz.prog.cellsOf 9 = 1 := by kernel_rfl
  rcases open_slice Tryz.underlying37 hf with ⟨h1, h2⟩ | ⟨a', len', cap', m, n, D, Pl, h1, _, hlc, hcm, hm, hx, hel⟩
  · simp only [List.cons.injEq, and_true] at h1
    injection h1 with e1 e2 e3
    subst e1 e2 e3
    exact ⟨[], .inl ⟨rfl, rfl⟩, (fun f hf => by cases hf), Nat.zero_le _, Nat.zero_le _⟩
  · simp only [List.cons.injEq, and_true] at h1
    injection h1 with e1 e2 e3
    subst e1 e2 e3
    simp only [if_true] at hm
    rw [hm] at hel hx
    have hch : ∀ i, ∃ f : Fd, i < len → (((a'.add (i * 2)).block < W.heap.size ∧ W.cell? (a'.add (i * 2)) = some (.string f.n)) ∧ W.cell? ((a'.add (i * 2)).add 1) = some (.string f.v)) ∧ D i = fdD f := by
      intro i
      by_cases hi : i < len
      · obtain ⟨cs', hc, ht⟩ := hel i (by omega)
        rw [c2] at hc
        obtain ⟨v0, v1, rfl, k0, k1⟩ := cells2 hc
        obtain ⟨z0, z1, m2, e, _, g0, g1⟩ := trod_struct2 Tryz.underlying47 ht
        simp only [c3, List.drop_zero, List.take_succ_cons, List.take_zero, List.drop_succ_cons] at g0 g1
        obtain ⟨s0, f0, rfl, _⟩ := DataW.trod_string Tryz.underlying9 g0
        obtain ⟨s1, f1, rfl, _⟩ := DataW.trod_string Tryz.underlying9 g1
        simp only [List.cons.injEq, and_true] at f0 f1
        subst f0 f1
        exact ⟨⟨s0, s1⟩, fun _ => ⟨⟨⟨World.cells?_block hc (by omega), k0⟩, k1⟩, (Prod.mk.inj e).1⟩⟩
      · exact ⟨⟨⟨#[]⟩, ⟨#[]⟩⟩, fun h => absurd h hi⟩
    obtain ⟨f, hf'⟩ := Classical.axiomOfChoice hch
    have hd : x.1 = .slice (((List.range len).map f).map fdD) ((List.range (cap - len)).map fun j => D (len + j)) := by
      rw [hx]
      simp only
      congr 1
      rw [List.map_map]
      apply List.map_congr_left
      intro i hi
      exact (hf' i (by simpa using hi)).2
    have hb := fds_bulk (H := H) ((List.range len).map f)
    have hdb : Rows.uptoBulkAll (((List.range len).map f).map fdD : List (DataW H)) ≤ Rows.uptoBulk x.1 := by rw [hd]; simp only [Rows.uptoBulk]; omega
    refine ⟨(List.range len).map f, .inr ⟨a', cap, by simp, by simpa using hlc, ?_⟩, fun g hg => ⟨Nat.le_trans (hb.2 g hg).1 hdb, Nat.le_trans (hb.2 g hg).2 hdb⟩, Nat.le_trans hb.1 hdb, by have := fds_size (H := H) ((List.range len).map f); omega⟩
    intro j u hj
    have hjl : j < len * 2 := by
      have := (List.getElem?_eq_some_iff.1 hj).1
      rw [fC_length] at this
      simpa using this
    have hi : j / 2 < len := by omega
    have hfi : ((List.range len).map f)[j / 2]? = some (f (j / 2)) := by simp [List.getElem?_map, List.getElem?_range hi]
    have e0 := f_at _ _ _ hfi 0 (by omega)
    have e1 := f_at _ _ _ hfi 1 (by omega)
    obtain ⟨⟨⟨p0, p1⟩, p2⟩, _⟩ := hf' (j / 2) hi
    rcases Nat.mod_two_eq_zero_or_one j with hm2 | hm2
    · have ej : j = j / 2 * 2 := by omega
      rw [ej] at hj ⊢
      rw [Nat.add_zero] at e0
      rw [e0] at hj
      rw [← Option.some.inj hj]
      exact ⟨p0, p1⟩
    · have ej : j = j / 2 * 2 + 1 := by omega
      rw [ej] at hj ⊢
      rw [e1] at hj
      rw [← Option.some.inj hj, ← Addr.add_add]
      exact ⟨World.block_lt_of_cell? W _ p2, p2⟩

set_option maxRecDepth 100000 in
theorem open_fields14 {H : Type} {enc : TypeId × Value → H} {W : World} {base : Nat} {v : Value} {d : DataW H} {p : List MemPlace} (hval : Value.okWide Tryz.prog W .any base 37 v) (h : DataW.Trod enc Tryz.prog W 0 (fun _ => true) true 37 v d p) :
    ∃ l : List Fd, FW W v l ∧ (∀ f ∈ l, f.n.size ≤ Rows.uptoBulk d ∧ f.v.size ≤ Rows.uptoBulk d) ∧ l.length ≤ Rows.uptoBulk d ∧ Ms.size l ≤ 32 * Rows.uptoBulk d := by
  obtain ⟨a, len, cap, rfl⟩ := okWide_slice Tryz.underlying37 hval
  obtain ⟨fuel, hf⟩ := h
  exact open_fieldsAt (x := (d, p)) (by simpa [Value.cells] using hf)

namespace Frame14
theorem own : ownKnob Tryz.prog.godebug = none := by kernel_rfl
theorem gTab : Tryz.prog.globalNamed "internal/strconv.uint64pow10" = some 3 := by kernel_rfl
theorem gTabType : (Tryz.prog.globals[3]?).map (·.type) = some 185 := by kernel_rfl
theorem cellsA : Tryz.prog.cellsOf 185 = 20 := by kernel_rfl
theorem cellsE : Tryz.prog.cellsOf 179 = 1 := by kernel_rfl
theorem tab_eq : (Rows.laid_internal_strconv_uint64pow10 : DataW Unit) = Lib.tabData .u64 Lib.pow10Tab := by kernel_rfl
/-- What the rows' list and the world's shape give: the table of powers, and a cell of a number. -/
theorem tb {W : World} (h : laidMetH Tryz.prog [("math/bits.deBruijn32tab", Rows.laid_math_bits_deBruijn32tab), ("math/bits.deBruijn64tab", Rows.laid_math_bits_deBruijn64tab), ("internal/strconv.uint64pow10", Rows.laid_internal_strconv_uint64pow10), ("unicode/utf8.acceptRanges", Rows.laid_unicode_utf8_acceptRanges), ("unicode/utf8.first", Rows.laid_unicode_utf8_first)] W) (hs : W.ShapedOpen Tryz.prog) : TB W := by
  have h' : laidMet Tryz.prog [("math/bits.deBruijn32tab", Rows.laid_math_bits_deBruijn32tab), ("math/bits.deBruijn64tab", Rows.laid_math_bits_deBruijn64tab), ("internal/strconv.uint64pow10", Rows.laid_internal_strconv_uint64pow10), ("unicode/utf8.acceptRanges", Rows.laid_unicode_utf8_acceptRanges), ("unicode/utf8.first", Rows.laid_unicode_utf8_first)] W := h
  have h3 := h'.tail.tail
  rw [tab_eq] at h3
  exact ⟨Lib.tabIs_of_head (rest := [("unicode/utf8.acceptRanges", Rows.laid_unicode_utf8_acceptRanges), ("unicode/utf8.first", Rows.laid_unicode_utf8_first)]) gTab gTabType Tryz.underlying185 Tryz.underlying179 cellsE cellsA h3, Tryz.laysM219.s1_3 W hs⟩
end Frame14

end Go.Proofs.YthhpejgpfaikaaaGreatDoor
