/-
  The document's decimal, plain: by their contracts.
  The document's plain: by its contract.
  The document's Length: by its contract, out of Number's.
  The document's walk over a header list: by its contract.
  The document's Trailers, Same, SameRequest: by their contracts.
  The document's SameRequest, of requests that are the same: by its contract.
-/
import Derived.Test.YtkfekopenahmdaaDoorMsAC
import Derived.Test.YtkfekopenahmdaaDoorDkYZ
import Derived.Test.YtkfekopenahmdaaDoorTrims
import Derived.Deep.CutRange
import Derived.Test.YtkfekopenahmdaaDoorMsPl
import Derived.Test.YtkfekopenahmdaaDoorPureNum
import Derived.Laws.StructEq
namespace Go.Proofs.YtkfekopenahmdaaDoor
open Go.RowKit

theorem dec_empty {x : ByteArray} (h : (x.toList == []) = true) : Ms.dec x = false := by
  unfold Ms.dec
  rw [show (Ms.tx x == []) = true by rw [Ms.tx, ← Lib.toList_data]; exact h]
  rfl

end Go.Proofs.YtkfekopenahmdaaDoor

namespace Go.Proofs.YtkfekopenahmdaaDoor
open Go.RowKit

end Go.Proofs.YtkfekopenahmdaaDoor

namespace Go.Proofs.YtkfekopenahmdaaDoor
open Go.RowKit

end Go.Proofs.YtkfekopenahmdaaDoor

namespace Go.Proofs.YtkfekopenahmdaaDoor
open Go.RowKit

end Go.Proofs.YtkfekopenahmdaaDoor

namespace Go.Proofs.YtkfekopenahmdaaDoor
open Go.RowKit

theorem noStandF14 : Tryd.prog.stoodInHeld 30 = false := by kernel_rfl
theorem noGuardF14 : Tryd.prog.eqGuardType Tryd.prog.depth 30 = false := by kernel_rfl
theorem fieldsOfF14 : Tryd.prog.underlying 30 = some (.struct (Tryd.prog.fieldsOf 30)) := by kernel_rfl
set_option maxRecDepth 20000 in
theorem neq_f14 (f : Fd) (w : World) : (binOp .neq 30 (.agg #[.string f.n, .string f.v]) (.agg #[.string f.n, .string f.v])).run Tryd.prog w = .ok (.bool false) w := by
  rw [run_neq_struct, show (10000 : Nat) = 9999 + 1 by rfl, run_equalIn_agg w 9999 30 _ _ fieldsOfF14 noStandF14]
  simp only [Program.fieldsOf, Tryd.underlying30]
  go_simp

set_option maxHeartbeats 2000000 in
set_option maxRecDepth 20000 in
theorem rsame14 (va vb : Value) (l : List Fd) (w : World) (h1 : FW w va l) (h2 : FW w vb l) (hl : l.length ≤ 140737488355328) :
    Calls Tryd.prog 27 #[va, vb] w fun e w' => e = .returned (.bool true) ∧ ∃ m, w' = w.drewN m := by
  obtain ⟨ao, ca, hv⟩ := h1.shape
  subst hv
  obtain ⟨bo, cb, hv⟩ := h2.shape
  subst hv
  obtain ⟨n, hn⟩ : ∃ n, l.length = n := ⟨_, rfl⟩
  rw [hn] at h1 h2 hl ⊢
  have H1 := hid' h1
  have H2 := hid' h2
  have HN := hid' hn
  have hee : ((n : Int) == (n : Int)) = true := beq_self_eq_true _
  have hgd := noGuardF14
  clear h1 h2 hn
  go_enter Tryd.func27, Tryd.ntmps27
  go_wp2
  go_loopw [5] (fun s5 wr => ∃ i q : Nat, s5 = .int .i64 (i : Int) ∧ i ≤ n ∧ wr = w.drewN q) (fun s5 _ => n - (intOf s5).toNat)
  case atStart => exact ⟨0, 0, rfl, Nat.zero_le _, rfl⟩
  case round =>
    obtain ⟨i, q, rfl, hi, hwr⟩ := hrel
    subst hwr
    by_cases hlt : i < n
    · have hlt2 : (i : Int) < (n : Int) := by omega
      obtain ⟨p, hp⟩ : ∃ p, l[i]? = some p := ⟨_, List.getElem?_eq_getElem (by rw [HN.out]; exact hlt)⟩
      obtain ⟨a, hao, x0, x1⟩ := H1.out.two i p hp
      obtain ⟨a2, hbo, y0, y1⟩ := H2.out.two i p hp
      subst hao hbo
      have hne : ∀ W, (binOp .neq 30 (.agg #[.string p.n, .string p.v]) (.agg #[.string p.n, .string p.v])).run Tryd.prog W = .ok (.bool false) W := fun W => neq_f14 p W
      have HLT := hid' hlt
      clear hp hlt
      go_wp2
      go_quiet (fail)
      go_wp2
      go_roundw
      case rel => exact ⟨i + 1, _, by go_num, by have := HLT.out; omega, by first | rfl | simp⟩
      case measure => have := HLT.out; simp [intOf]; omega
    · have hlt2 : ¬ (i : Int) < (n : Int) := by omega
      clear hlt
      go_wp2
      go_ret
      exact ⟨rfl, _, rfl⟩

end Go.Proofs.YtkfekopenahmdaaDoor

namespace Go.Proofs.YtkfekopenahmdaaDoor
open Go.RowKit

/-- A request's cells. -/
def rqC (m s a p : ByteArray) (fv : Value) (b : ByteArray) (tv : Value) : Array Value := #[.string m, .string s, .string a, .string p, fv, .string b, tv]
theorem below_dn (w : World) (n : Nat) : Below w.heap.size w (w.drewN n) := ⟨rfl, rfl, rfl, Nat.le_refl _, fun _ _ => rfl⟩

set_option maxHeartbeats 4000000 in
set_option maxRecDepth 20000 in
theorem rsameReq14 (m s a p b : ByteArray) (fv fv' tv tv' : Value) (l t : List Fd) (w : World) (h1 : FW w fv l) (h2 : FW w fv' l) (h3 : FW w tv t) (h4 : FW w tv' t) (hl : l.length ≤ 140737488355328) (ht : t.length ≤ 140737488355328) :
    Calls Tryd.prog 14 #[.agg (rqC m s a p fv b tv), .agg (rqC m s a p fv' b tv')] w fun e w' => e = .returned (.bool true) ∧ Below w.heap.size w w' := by
  have H1 := hid' h1
  have H2 := hid' h2
  have H3 := hid' h3
  have H4 := hid' h4
  have e1 : (m.toList == m.toList) = true := beq_self_eq_true _
  have e2 : (s.toList == s.toList) = true := beq_self_eq_true _
  have e3 : (a.toList == a.toList) = true := beq_self_eq_true _
  have e4 : (p.toList == p.toList) = true := beq_self_eq_true _
  have e5 : (b.toList == b.toList) = true := beq_self_eq_true _
  clear h1 h2 h3 h4
  unfold rqC
  go_enter Tryd.func14, Tryd.ntmps14
  go_wp2_with (refine wpl_box 24 _ rfl rfl (rqC m s a p fv b tv) (by kernel_rfl) ?_)
  intro xb w1 hg1 ha1 hb1
  have HX1 := hid' ha1
  have HB1 := hid' hb1
  clear hg1 ha1 hb1
  go_wp2_with (refine wpl_box 24 _ rfl rfl (rqC m s a p fv' b tv') (by kernel_rfl) ?_)
  intro yb w2 hg2 ha2 hb2
  have HX2 := hid' (HX1.out.keep hb2)
  have HY2 := hid' ha2
  have HB2 := hid' (below_two HB1.out hb2)
  clear hg2 ha2 hb2 HX1 HB1
  have x0 : w2.cell? ⟨xb, 0, none⟩ = some (.string m) := HX2.out.cell 0 _ rfl
  have x1 : w2.cell? ⟨xb, 1, none⟩ = some (.string s) := HX2.out.cell 1 _ rfl
  have x2 : w2.cell? ⟨xb, 2, none⟩ = some (.string a) := HX2.out.cell 2 _ rfl
  have x3 : w2.cell? ⟨xb, 3, none⟩ = some (.string p) := HX2.out.cell 3 _ rfl
  have x4 : w2.cell? ⟨xb, 4, none⟩ = some (fv) := HX2.out.cell 4 _ rfl
  have x5 : w2.cell? ⟨xb, 5, none⟩ = some (.string b) := HX2.out.cell 5 _ rfl
  have x6 : w2.cell? ⟨xb, 6, none⟩ = some (tv) := HX2.out.cell 6 _ rfl
  have y0 : w2.cell? ⟨yb, 0, none⟩ = some (.string m) := HY2.out.cell 0 _ rfl
  have y1 : w2.cell? ⟨yb, 1, none⟩ = some (.string s) := HY2.out.cell 1 _ rfl
  have y2 : w2.cell? ⟨yb, 2, none⟩ = some (.string a) := HY2.out.cell 2 _ rfl
  have y3 : w2.cell? ⟨yb, 3, none⟩ = some (.string p) := HY2.out.cell 3 _ rfl
  have y4 : w2.cell? ⟨yb, 4, none⟩ = some (fv') := HY2.out.cell 4 _ rfl
  have y5 : w2.cell? ⟨yb, 5, none⟩ = some (.string b) := HY2.out.cell 5 _ rfl
  have y6 : w2.cell? ⟨yb, 6, none⟩ = some (tv') := HY2.out.cell 6 _ rfl
  go_wp2_with fail
  refine (rsame14 fv fv' l w2 (H1.out.keep HB2.out) (H2.out.keep HB2.out) hl).mono ?_
  rintro e w3 ⟨rfl, n3, hn3⟩
  subst hn3
  go_wp2_with fail
  refine (rsame14 tv tv' t _ ((H3.out.keep HB2.out).keep (below_dn _ _)) ((H4.out.keep HB2.out).keep (below_dn _ _)) ht).mono ?_
  rintro e w4 ⟨rfl, n4, hn4⟩
  subst hn4
  go_wp2
  go_ret
  exact ⟨rfl, below_two HB2.out (below_dn _ _)⟩

end Go.Proofs.YtkfekopenahmdaaDoor
