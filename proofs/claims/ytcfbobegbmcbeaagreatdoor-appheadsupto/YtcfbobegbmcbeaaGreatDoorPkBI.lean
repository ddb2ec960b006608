import Derived.Deep.RegionHeld3
import Derived.Test.YtcfbobegbmcbeaaGreatDoorPkBF
namespace Go.Proofs.YtcfbobegbmcbeaaGreatDoor
set_option maxHeartbeats 64000000
open Go.RowKit

namespace Rt
theorem finer_at {a b : List Prt} {i : Nat} {p q : Prt} (hp : a[i]? = some p) (hq : b[i]? = some q) : finer (a.drop i) (b.drop i) = if p.k == q.k then finer (a.drop (i + 1)) (b.drop (i + 1)) else decide (p.k < q.k) := by
 obtain ⟨h, he⟩ := List.getElem?_eq_some_iff.1 hp
 obtain ⟨h', he'⟩ := List.getElem?_eq_some_iff.1 hq
 rw [List.drop_eq_getElem_cons h, List.drop_eq_getElem_cons h', he, he']
 unfold finer kinds
 rw [List.map_cons, List.map_cons, lex]
theorem finer_end1 {a b : List Prt} {i : Nat} (ha : a.length = i) (hab : i ≤ b.length) : finer (a.drop i) (b.drop i) = decide (i < b.length) := by
 rw [List.drop_eq_nil_of_le (by omega)]
 unfold finer kinds
 by_cases h : i < b.length
 ·rw [List.drop_eq_getElem_cons h, decide_eq_true h]; rfl
 ·rw [List.drop_eq_nil_of_le (by omega), decide_eq_false h]; rfl
theorem finer_end2 {a b : List Prt} {i : Nat} (hb : b.length = i) : finer (a.drop i) (b.drop i) = false := by
 have e : b.drop i = [] := List.drop_eq_nil_of_le (by omega)
 rw [e]
 unfold finer kinds
 cases a.drop i <;> rfl
end Rt

set_option maxRecDepth 20000 in
theorem cfiner18 (ao : Option Addr) (n cap : Nat) (a : List Rt.Prt) (bo : Option Addr) (m bc : Nat) (b : List Rt.Prt) (hn : a.length = n) (hnb : n ≤ 4194305) (hm : b.length = m) (hmb : m ≤ 4194305) (hga : ∀ p ∈ a, Rt.Gp p) (hgb : ∀ p ∈ b, Rt.Gp p) (w : World) (h : PU18 w ao a) (h' : PU18 w bo b) :
  Calls Tryz.prog 85 #[.slice ao n cap, .slice bo m bc] w fun e w' => e = .returned (.bool (Rt.finer a b)) ∧ Below w.heap.size w w' := by
 have H := hid' h
 have H' := hid' h'
 have HN := hid' hn
 have HM := hid' hm
 have HG := hid' hga
 have HG' := hid' hgb
 clear h h' hn hm hga hgb
 by_cases hnm : n ≤ m
 ·have hnm2 : ¬ (m : Int) < (n : Int) := by omega
  go_enter Tryz.func85, Tryz.ntmps85
  go_wp2
  go_loopw [13] (fun s13 wr => ∃ i : Nat, s13 = .int .i64 (i : Int) ∧ i ≤ n ∧ Hid (Rt.finer a b = Rt.finer (a.drop i) (b.drop i)) ∧ Hid (Below w.heap.size w wr)) (fun s13 _ => n - (intOf s13).toNat)
  case atStart => exact ⟨0, rfl, Nat.zero_le _, hid' (by rw [List.drop_zero, List.drop_zero]), hid' (Below.refl _ _)⟩
  case round =>
   obtain ⟨i, rfl, hi, HF, HB⟩ := hrel
   by_cases hlt : i < n
   ·have hlt2 : (i : Int) < (n : Int) := by omega
    have hli : (i : Int) < (n : Int) := by omega
    have hli2 : (i : Int) < (m : Int) := by omega
    obtain ⟨p, hp⟩ : ∃ p, a[i]? = some p := ⟨_, List.getElem?_eq_getElem (by rw [HN.out]; omega)⟩
    obtain ⟨q, hq⟩ : ∃ q, b[i]? = some q := ⟨_, List.getElem?_eq_getElem (by rw [HM.out]; omega)⟩
    obtain ⟨g, rfl, hgl, y0⟩ := H.out i p hp
    obtain ⟨g2, rfl, hgl', y0'⟩ := H'.out i q hq
    have y1 := (HB.out.cell (p := ⟨g, i, none⟩) hgl).trans y0
    have y2 := (HB.out.cell (p := ⟨g2, i, none⟩) hgl').trans y0'
    have hgl1 := Nat.lt_of_lt_of_le hgl HB.out.size
    have hgl2 := Nat.lt_of_lt_of_le hgl' HB.out.size
    have HGP := hid' (HG.out p (List.mem_of_getElem? hp))
    have HGP' := hid' (HG'.out q (List.mem_of_getElem? hq))
    have HFA := hid' (Rt.finer_at hp hq)
    clear hp hq y0 y0' hgl hgl'
    rcases Rt.k3 HGP.out with hk | hk | hk <;> rcases Rt.k3 HGP'.out with hk2 | hk2 | hk2
    ·have e1 : pU18 p = .iface 147 (.string ⟨p.t.toArray⟩) := by unfold pU18; rw [hk]; rfl
     have e2 : pU18 q = .iface 147 (.string ⟨q.t.toArray⟩) := by unfold pU18; rw [hk2]; rfl
     rw [e1] at y1
     rw [e2] at y2
     have mm1 := mkindP18 ⟨p.t.toArray⟩
     have mm2 := mkindP18 ⟨q.t.toArray⟩
     have hS : Below wr.heap.size wr wr ∧ wr.cell? ⟨g, i, none⟩ = some (.iface 147 (.string ⟨p.t.toArray⟩)) ∧ wr.cell? ⟨g2, i, none⟩ = some (.iface 147 (.string ⟨q.t.toArray⟩)) := ⟨Below.refl _ _, y1, y2⟩
     have sOf : ∀ W W1 : World, (Below wr.heap.size wr W ∧ W.cell? ⟨g, i, none⟩ = some (.iface 147 (.string ⟨p.t.toArray⟩)) ∧ W.cell? ⟨g2, i, none⟩ = some (.iface 147 (.string ⟨q.t.toArray⟩))) → Below W.heap.size W W1 → (Below wr.heap.size wr W1 ∧ W1.cell? ⟨g, i, none⟩ = some (.iface 147 (.string ⟨p.t.toArray⟩)) ∧ W1.cell? ⟨g2, i, none⟩ = some (.iface 147 (.string ⟨q.t.toArray⟩))) := fun W W1 h hb => ⟨below_two h.1 hb, (hb.cell (p := ⟨g, i, none⟩) (Nat.lt_of_lt_of_le hgl1 h.1.size)).trans h.2.1, (hb.cell (p := ⟨g2, i, none⟩) (Nat.lt_of_lt_of_le hgl2 h.1.size)).trans h.2.2⟩
     have HNX : Hid (Rt.finer a b = Rt.finer (a.drop (i + 1)) (b.drop (i + 1))) := hid' (by rw [HF.out, HFA.out, hk, hk2]; rfl)
     go_upto_region 4 with fail
     go_region_held3 (fun W => Below wr.heap.size wr W ∧ W.cell? ⟨g, i, none⟩ = some (.iface 147 (.string ⟨p.t.toArray⟩)) ∧ W.cell? ⟨g2, i, none⟩ = some (.iface 147 (.string ⟨q.t.toArray⟩)))
      (first | assumption | exact sOf _ _ (by assumption) (by assumption) | exact sOf _ _ (by assumption) ((Below.refl _ _).drew))
      (first | (go_at_call 288; refine (kindP18 _ _).mono ?_; rintro e w5 ⟨rfl, hb5⟩))
     have HB5 : Hid (Below w.heap.size w w5) := hid' (HB.out.trans ((And.left (by assumption : Below wr.heap.size wr w5 ∧ w5.cell? ⟨g, i, none⟩ = some (.iface 147 (.string ⟨p.t.toArray⟩)) ∧ w5.cell? ⟨g2, i, none⟩ = some (.iface 147 (.string ⟨q.t.toArray⟩)))).mono HB.out.size))
     clear hb5 sOf hS
     go_wp2
     go_roundw
     case rel => exact ⟨i + 1, by go_num, by omega, HNX, HB5⟩
     case measure => simp [intOf]; omega
    ·have e1 : pU18 p = .iface 147 (.string ⟨p.t.toArray⟩) := by unfold pU18; rw [hk]; rfl
     have e2 : pU18 q = .iface 150 (.agg #[]) := by unfold pU18; rw [hk2]; rfl
     rw [e1] at y1
     rw [e2] at y2
     have mm1 := mkindP18 ⟨p.t.toArray⟩
     have mm2 := mkindC18
     have hS : Below wr.heap.size wr wr ∧ wr.cell? ⟨g, i, none⟩ = some (.iface 147 (.string ⟨p.t.toArray⟩)) ∧ wr.cell? ⟨g2, i, none⟩ = some (.iface 150 (.agg #[])) := ⟨Below.refl _ _, y1, y2⟩
     have sOf : ∀ W W1 : World, (Below wr.heap.size wr W ∧ W.cell? ⟨g, i, none⟩ = some (.iface 147 (.string ⟨p.t.toArray⟩)) ∧ W.cell? ⟨g2, i, none⟩ = some (.iface 150 (.agg #[]))) → Below W.heap.size W W1 → (Below wr.heap.size wr W1 ∧ W1.cell? ⟨g, i, none⟩ = some (.iface 147 (.string ⟨p.t.toArray⟩)) ∧ W1.cell? ⟨g2, i, none⟩ = some (.iface 150 (.agg #[]))) := fun W W1 h hb => ⟨below_two h.1 hb, (hb.cell (p := ⟨g, i, none⟩) (Nat.lt_of_lt_of_le hgl1 h.1.size)).trans h.2.1, (hb.cell (p := ⟨g2, i, none⟩) (Nat.lt_of_lt_of_le hgl2 h.1.size)).trans h.2.2⟩
     have HFF : Hid (Rt.finer a b = true) := hid' (by rw [HF.out, HFA.out, hk, hk2]; rfl)
     go_upto_region 4 with fail
     go_region_held3 (fun W => Below wr.heap.size wr W ∧ W.cell? ⟨g, i, none⟩ = some (.iface 147 (.string ⟨p.t.toArray⟩)) ∧ W.cell? ⟨g2, i, none⟩ = some (.iface 150 (.agg #[])))
      (first | assumption | exact sOf _ _ (by assumption) (by assumption) | exact sOf _ _ (by assumption) ((Below.refl _ _).drew))
      (first | (go_at_call 288; refine (kindP18 _ _).mono ?_; rintro e w5 ⟨rfl, hb5⟩) | (go_at_call 296; refine (kindC18 _).mono ?_; rintro e w5 ⟨rfl, hb5⟩))
     have HB5 : Hid (Below w.heap.size w w5) := hid' (HB.out.trans ((And.left (by assumption : Below wr.heap.size wr w5 ∧ w5.cell? ⟨g, i, none⟩ = some (.iface 147 (.string ⟨p.t.toArray⟩)) ∧ w5.cell? ⟨g2, i, none⟩ = some (.iface 150 (.agg #[])))).mono HB.out.size))
     clear hb5 sOf hS
     go_wp2
     go_ret
     exact ⟨by rw [HFF.out]; rfl, HB5.out⟩
    ·have e1 : pU18 p = .iface 147 (.string ⟨p.t.toArray⟩) := by unfold pU18; rw [hk]; rfl
     have e2 : pU18 q = .iface 149 (.agg #[]) := by unfold pU18; rw [hk2]; rfl
     rw [e1] at y1
     rw [e2] at y2
     have mm1 := mkindP18 ⟨p.t.toArray⟩
     have mm2 := mkindR18
     have hS : Below wr.heap.size wr wr ∧ wr.cell? ⟨g, i, none⟩ = some (.iface 147 (.string ⟨p.t.toArray⟩)) ∧ wr.cell? ⟨g2, i, none⟩ = some (.iface 149 (.agg #[])) := ⟨Below.refl _ _, y1, y2⟩
     have sOf : ∀ W W1 : World, (Below wr.heap.size wr W ∧ W.cell? ⟨g, i, none⟩ = some (.iface 147 (.string ⟨p.t.toArray⟩)) ∧ W.cell? ⟨g2, i, none⟩ = some (.iface 149 (.agg #[]))) → Below W.heap.size W W1 → (Below wr.heap.size wr W1 ∧ W1.cell? ⟨g, i, none⟩ = some (.iface 147 (.string ⟨p.t.toArray⟩)) ∧ W1.cell? ⟨g2, i, none⟩ = some (.iface 149 (.agg #[]))) := fun W W1 h hb => ⟨below_two h.1 hb, (hb.cell (p := ⟨g, i, none⟩) (Nat.lt_of_lt_of_le hgl1 h.1.size)).trans h.2.1, (hb.cell (p := ⟨g2, i, none⟩) (Nat.lt_of_lt_of_le hgl2 h.1.size)).trans h.2.2⟩
     have HFF : Hid (Rt.finer a b = true) := hid' (by rw [HF.out, HFA.out, hk, hk2]; rfl)
     go_upto_region 4 with fail
     go_region_held3 (fun W => Below wr.heap.size wr W ∧ W.cell? ⟨g, i, none⟩ = some (.iface 147 (.string ⟨p.t.toArray⟩)) ∧ W.cell? ⟨g2, i, none⟩ = some (.iface 149 (.agg #[])))
      (first | assumption | exact sOf _ _ (by assumption) (by assumption) | exact sOf _ _ (by assumption) ((Below.refl _ _).drew))
      (first | (go_at_call 288; refine (kindP18 _ _).mono ?_; rintro e w5 ⟨rfl, hb5⟩) | (go_at_call 292; refine (kindR18 _).mono ?_; rintro e w5 ⟨rfl, hb5⟩))
     have HB5 : Hid (Below w.heap.size w w5) := hid' (HB.out.trans ((And.left (by assumption : Below wr.heap.size wr w5 ∧ w5.cell? ⟨g, i, none⟩ = some (.iface 147 (.string ⟨p.t.toArray⟩)) ∧ w5.cell? ⟨g2, i, none⟩ = some (.iface 149 (.agg #[])))).mono HB.out.size))
     clear hb5 sOf hS
     go_wp2
     go_ret
     exact ⟨by rw [HFF.out]; rfl, HB5.out⟩
    ·have e1 : pU18 p = .iface 150 (.agg #[]) := by unfold pU18; rw [hk]; rfl
     have e2 : pU18 q = .iface 147 (.string ⟨q.t.toArray⟩) := by unfold pU18; rw [hk2]; rfl
     rw [e1] at y1
     rw [e2] at y2
     have mm1 := mkindC18
     have mm2 := mkindP18 ⟨q.t.toArray⟩
     have hS : Below wr.heap.size wr wr ∧ wr.cell? ⟨g, i, none⟩ = some (.iface 150 (.agg #[])) ∧ wr.cell? ⟨g2, i, none⟩ = some (.iface 147 (.string ⟨q.t.toArray⟩)) := ⟨Below.refl _ _, y1, y2⟩
     have sOf : ∀ W W1 : World, (Below wr.heap.size wr W ∧ W.cell? ⟨g, i, none⟩ = some (.iface 150 (.agg #[])) ∧ W.cell? ⟨g2, i, none⟩ = some (.iface 147 (.string ⟨q.t.toArray⟩))) → Below W.heap.size W W1 → (Below wr.heap.size wr W1 ∧ W1.cell? ⟨g, i, none⟩ = some (.iface 150 (.agg #[])) ∧ W1.cell? ⟨g2, i, none⟩ = some (.iface 147 (.string ⟨q.t.toArray⟩))) := fun W W1 h hb => ⟨below_two h.1 hb, (hb.cell (p := ⟨g, i, none⟩) (Nat.lt_of_lt_of_le hgl1 h.1.size)).trans h.2.1, (hb.cell (p := ⟨g2, i, none⟩) (Nat.lt_of_lt_of_le hgl2 h.1.size)).trans h.2.2⟩
     have HFF : Hid (Rt.finer a b = false) := hid' (by rw [HF.out, HFA.out, hk, hk2]; rfl)
     go_upto_region 4 with fail
     go_region_held3 (fun W => Below wr.heap.size wr W ∧ W.cell? ⟨g, i, none⟩ = some (.iface 150 (.agg #[])) ∧ W.cell? ⟨g2, i, none⟩ = some (.iface 147 (.string ⟨q.t.toArray⟩)))
      (first | assumption | exact sOf _ _ (by assumption) (by assumption) | exact sOf _ _ (by assumption) ((Below.refl _ _).drew))
      (first | (go_at_call 296; refine (kindC18 _).mono ?_; rintro e w5 ⟨rfl, hb5⟩) | (go_at_call 288; refine (kindP18 _ _).mono ?_; rintro e w5 ⟨rfl, hb5⟩))
     have HB5 : Hid (Below w.heap.size w w5) := hid' (HB.out.trans ((And.left (by assumption : Below wr.heap.size wr w5 ∧ w5.cell? ⟨g, i, none⟩ = some (.iface 150 (.agg #[])) ∧ w5.cell? ⟨g2, i, none⟩ = some (.iface 147 (.string ⟨q.t.toArray⟩)))).mono HB.out.size))
     clear hb5 sOf hS
     go_wp2
     go_ret
     exact ⟨by rw [HFF.out]; rfl, HB5.out⟩
    ·have e1 : pU18 p = .iface 150 (.agg #[]) := by unfold pU18; rw [hk]; rfl
     have e2 : pU18 q = .iface 150 (.agg #[]) := by unfold pU18; rw [hk2]; rfl
     rw [e1] at y1
     rw [e2] at y2
     have mm1 := mkindC18
     have mm2 := mkindC18
     have hS : Below wr.heap.size wr wr ∧ wr.cell? ⟨g, i, none⟩ = some (.iface 150 (.agg #[])) ∧ wr.cell? ⟨g2, i, none⟩ = some (.iface 150 (.agg #[])) := ⟨Below.refl _ _, y1, y2⟩
     have sOf : ∀ W W1 : World, (Below wr.heap.size wr W ∧ W.cell? ⟨g, i, none⟩ = some (.iface 150 (.agg #[])) ∧ W.cell? ⟨g2, i, none⟩ = some (.iface 150 (.agg #[]))) → Below W.heap.size W W1 → (Below wr.heap.size wr W1 ∧ W1.cell? ⟨g, i, none⟩ = some (.iface 150 (.agg #[])) ∧ W1.cell? ⟨g2, i, none⟩ = some (.iface 150 (.agg #[]))) := fun W W1 h hb => ⟨below_two h.1 hb, (hb.cell (p := ⟨g, i, none⟩) (Nat.lt_of_lt_of_le hgl1 h.1.size)).trans h.2.1, (hb.cell (p := ⟨g2, i, none⟩) (Nat.lt_of_lt_of_le hgl2 h.1.size)).trans h.2.2⟩
     have HNX : Hid (Rt.finer a b = Rt.finer (a.drop (i + 1)) (b.drop (i + 1))) := hid' (by rw [HF.out, HFA.out, hk, hk2]; rfl)
     go_upto_region 4 with fail
     go_region_held3 (fun W => Below wr.heap.size wr W ∧ W.cell? ⟨g, i, none⟩ = some (.iface 150 (.agg #[])) ∧ W.cell? ⟨g2, i, none⟩ = some (.iface 150 (.agg #[])))
      (first | assumption | exact sOf _ _ (by assumption) (by assumption) | exact sOf _ _ (by assumption) ((Below.refl _ _).drew))
      (first | (go_at_call 296; refine (kindC18 _).mono ?_; rintro e w5 ⟨rfl, hb5⟩))
     have HB5 : Hid (Below w.heap.size w w5) := hid' (HB.out.trans ((And.left (by assumption : Below wr.heap.size wr w5 ∧ w5.cell? ⟨g, i, none⟩ = some (.iface 150 (.agg #[])) ∧ w5.cell? ⟨g2, i, none⟩ = some (.iface 150 (.agg #[])))).mono HB.out.size))
     clear hb5 sOf hS
     go_wp2
     go_roundw
     case rel => exact ⟨i + 1, by go_num, by omega, HNX, HB5⟩
     case measure => simp [intOf]; omega
    ·have e1 : pU18 p = .iface 150 (.agg #[]) := by unfold pU18; rw [hk]; rfl
     have e2 : pU18 q = .iface 149 (.agg #[]) := by unfold pU18; rw [hk2]; rfl
     rw [e1] at y1
     rw [e2] at y2
     have mm1 := mkindC18
     have mm2 := mkindR18
     have hS : Below wr.heap.size wr wr ∧ wr.cell? ⟨g, i, none⟩ = some (.iface 150 (.agg #[])) ∧ wr.cell? ⟨g2, i, none⟩ = some (.iface 149 (.agg #[])) := ⟨Below.refl _ _, y1, y2⟩
     have sOf : ∀ W W1 : World, (Below wr.heap.size wr W ∧ W.cell? ⟨g, i, none⟩ = some (.iface 150 (.agg #[])) ∧ W.cell? ⟨g2, i, none⟩ = some (.iface 149 (.agg #[]))) → Below W.heap.size W W1 → (Below wr.heap.size wr W1 ∧ W1.cell? ⟨g, i, none⟩ = some (.iface 150 (.agg #[])) ∧ W1.cell? ⟨g2, i, none⟩ = some (.iface 149 (.agg #[]))) := fun W W1 h hb => ⟨below_two h.1 hb, (hb.cell (p := ⟨g, i, none⟩) (Nat.lt_of_lt_of_le hgl1 h.1.size)).trans h.2.1, (hb.cell (p := ⟨g2, i, none⟩) (Nat.lt_of_lt_of_le hgl2 h.1.size)).trans h.2.2⟩
     have HFF : Hid (Rt.finer a b = true) := hid' (by rw [HF.out, HFA.out, hk, hk2]; rfl)
     go_upto_region 4 with fail
     go_region_held3 (fun W => Below wr.heap.size wr W ∧ W.cell? ⟨g, i, none⟩ = some (.iface 150 (.agg #[])) ∧ W.cell? ⟨g2, i, none⟩ = some (.iface 149 (.agg #[])))
      (first | assumption | exact sOf _ _ (by assumption) (by assumption) | exact sOf _ _ (by assumption) ((Below.refl _ _).drew))
      (first | (go_at_call 296; refine (kindC18 _).mono ?_; rintro e w5 ⟨rfl, hb5⟩) | (go_at_call 292; refine (kindR18 _).mono ?_; rintro e w5 ⟨rfl, hb5⟩))
     have HB5 : Hid (Below w.heap.size w w5) := hid' (HB.out.trans ((And.left (by assumption : Below wr.heap.size wr w5 ∧ w5.cell? ⟨g, i, none⟩ = some (.iface 150 (.agg #[])) ∧ w5.cell? ⟨g2, i, none⟩ = some (.iface 149 (.agg #[])))).mono HB.out.size))
     clear hb5 sOf hS
     go_wp2
     go_ret
     exact ⟨by rw [HFF.out]; rfl, HB5.out⟩
    ·have e1 : pU18 p = .iface 149 (.agg #[]) := by unfold pU18; rw [hk]; rfl
     have e2 : pU18 q = .iface 147 (.string ⟨q.t.toArray⟩) := by unfold pU18; rw [hk2]; rfl
     rw [e1] at y1
     rw [e2] at y2
     have mm1 := mkindR18
     have mm2 := mkindP18 ⟨q.t.toArray⟩
     have hS : Below wr.heap.size wr wr ∧ wr.cell? ⟨g, i, none⟩ = some (.iface 149 (.agg #[])) ∧ wr.cell? ⟨g2, i, none⟩ = some (.iface 147 (.string ⟨q.t.toArray⟩)) := ⟨Below.refl _ _, y1, y2⟩
     have sOf : ∀ W W1 : World, (Below wr.heap.size wr W ∧ W.cell? ⟨g, i, none⟩ = some (.iface 149 (.agg #[])) ∧ W.cell? ⟨g2, i, none⟩ = some (.iface 147 (.string ⟨q.t.toArray⟩))) → Below W.heap.size W W1 → (Below wr.heap.size wr W1 ∧ W1.cell? ⟨g, i, none⟩ = some (.iface 149 (.agg #[])) ∧ W1.cell? ⟨g2, i, none⟩ = some (.iface 147 (.string ⟨q.t.toArray⟩))) := fun W W1 h hb => ⟨below_two h.1 hb, (hb.cell (p := ⟨g, i, none⟩) (Nat.lt_of_lt_of_le hgl1 h.1.size)).trans h.2.1, (hb.cell (p := ⟨g2, i, none⟩) (Nat.lt_of_lt_of_le hgl2 h.1.size)).trans h.2.2⟩
     have HFF : Hid (Rt.finer a b = false) := hid' (by rw [HF.out, HFA.out, hk, hk2]; rfl)
     go_upto_region 4 with fail
     go_region_held3 (fun W => Below wr.heap.size wr W ∧ W.cell? ⟨g, i, none⟩ = some (.iface 149 (.agg #[])) ∧ W.cell? ⟨g2, i, none⟩ = some (.iface 147 (.string ⟨q.t.toArray⟩)))
      (first | assumption | exact sOf _ _ (by assumption) (by assumption) | exact sOf _ _ (by assumption) ((Below.refl _ _).drew))
      (first | (go_at_call 292; refine (kindR18 _).mono ?_; rintro e w5 ⟨rfl, hb5⟩) | (go_at_call 288; refine (kindP18 _ _).mono ?_; rintro e w5 ⟨rfl, hb5⟩))
     have HB5 : Hid (Below w.heap.size w w5) := hid' (HB.out.trans ((And.left (by assumption : Below wr.heap.size wr w5 ∧ w5.cell? ⟨g, i, none⟩ = some (.iface 149 (.agg #[])) ∧ w5.cell? ⟨g2, i, none⟩ = some (.iface 147 (.string ⟨q.t.toArray⟩)))).mono HB.out.size))
     clear hb5 sOf hS
     go_wp2
     go_ret
     exact ⟨by rw [HFF.out]; rfl, HB5.out⟩
    ·have e1 : pU18 p = .iface 149 (.agg #[]) := by unfold pU18; rw [hk]; rfl
     have e2 : pU18 q = .iface 150 (.agg #[]) := by unfold pU18; rw [hk2]; rfl
     rw [e1] at y1
     rw [e2] at y2
     have mm1 := mkindR18
     have mm2 := mkindC18
     have hS : Below wr.heap.size wr wr ∧ wr.cell? ⟨g, i, none⟩ = some (.iface 149 (.agg #[])) ∧ wr.cell? ⟨g2, i, none⟩ = some (.iface 150 (.agg #[])) := ⟨Below.refl _ _, y1, y2⟩
     have sOf : ∀ W W1 : World, (Below wr.heap.size wr W ∧ W.cell? ⟨g, i, none⟩ = some (.iface 149 (.agg #[])) ∧ W.cell? ⟨g2, i, none⟩ = some (.iface 150 (.agg #[]))) → Below W.heap.size W W1 → (Below wr.heap.size wr W1 ∧ W1.cell? ⟨g, i, none⟩ = some (.iface 149 (.agg #[])) ∧ W1.cell? ⟨g2, i, none⟩ = some (.iface 150 (.agg #[]))) := fun W W1 h hb => ⟨below_two h.1 hb, (hb.cell (p := ⟨g, i, none⟩) (Nat.lt_of_lt_of_le hgl1 h.1.size)).trans h.2.1, (hb.cell (p := ⟨g2, i, none⟩) (Nat.lt_of_lt_of_le hgl2 h.1.size)).trans h.2.2⟩
     have HFF : Hid (Rt.finer a b = false) := hid' (by rw [HF.out, HFA.out, hk, hk2]; rfl)
     go_upto_region 4 with fail
     go_region_held3 (fun W => Below wr.heap.size wr W ∧ W.cell? ⟨g, i, none⟩ = some (.iface 149 (.agg #[])) ∧ W.cell? ⟨g2, i, none⟩ = some (.iface 150 (.agg #[])))
      (first | assumption | exact sOf _ _ (by assumption) (by assumption) | exact sOf _ _ (by assumption) ((Below.refl _ _).drew))
      (first | (go_at_call 292; refine (kindR18 _).mono ?_; rintro e w5 ⟨rfl, hb5⟩) | (go_at_call 296; refine (kindC18 _).mono ?_; rintro e w5 ⟨rfl, hb5⟩))
     have HB5 : Hid (Below w.heap.size w w5) := hid' (HB.out.trans ((And.left (by assumption : Below wr.heap.size wr w5 ∧ w5.cell? ⟨g, i, none⟩ = some (.iface 149 (.agg #[])) ∧ w5.cell? ⟨g2, i, none⟩ = some (.iface 150 (.agg #[])))).mono HB.out.size))
     clear hb5 sOf hS
     go_wp2
     go_ret
     exact ⟨by rw [HFF.out]; rfl, HB5.out⟩
    ·have e1 : pU18 p = .iface 149 (.agg #[]) := by unfold pU18; rw [hk]; rfl
     have e2 : pU18 q = .iface 149 (.agg #[]) := by unfold pU18; rw [hk2]; rfl
     rw [e1] at y1
     rw [e2] at y2
     have mm1 := mkindR18
     have mm2 := mkindR18
     have hS : Below wr.heap.size wr wr ∧ wr.cell? ⟨g, i, none⟩ = some (.iface 149 (.agg #[])) ∧ wr.cell? ⟨g2, i, none⟩ = some (.iface 149 (.agg #[])) := ⟨Below.refl _ _, y1, y2⟩
     have sOf : ∀ W W1 : World, (Below wr.heap.size wr W ∧ W.cell? ⟨g, i, none⟩ = some (.iface 149 (.agg #[])) ∧ W.cell? ⟨g2, i, none⟩ = some (.iface 149 (.agg #[]))) → Below W.heap.size W W1 → (Below wr.heap.size wr W1 ∧ W1.cell? ⟨g, i, none⟩ = some (.iface 149 (.agg #[])) ∧ W1.cell? ⟨g2, i, none⟩ = some (.iface 149 (.agg #[]))) := fun W W1 h hb => ⟨below_two h.1 hb, (hb.cell (p := ⟨g, i, none⟩) (Nat.lt_of_lt_of_le hgl1 h.1.size)).trans h.2.1, (hb.cell (p := ⟨g2, i, none⟩) (Nat.lt_of_lt_of_le hgl2 h.1.size)).trans h.2.2⟩
     have HNX : Hid (Rt.finer a b = Rt.finer (a.drop (i + 1)) (b.drop (i + 1))) := hid' (by rw [HF.out, HFA.out, hk, hk2]; rfl)
     go_upto_region 4 with fail
     go_region_held3 (fun W => Below wr.heap.size wr W ∧ W.cell? ⟨g, i, none⟩ = some (.iface 149 (.agg #[])) ∧ W.cell? ⟨g2, i, none⟩ = some (.iface 149 (.agg #[])))
      (first | assumption | exact sOf _ _ (by assumption) (by assumption) | exact sOf _ _ (by assumption) ((Below.refl _ _).drew))
      (first | (go_at_call 292; refine (kindR18 _).mono ?_; rintro e w5 ⟨rfl, hb5⟩))
     have HB5 : Hid (Below w.heap.size w w5) := hid' (HB.out.trans ((And.left (by assumption : Below wr.heap.size wr w5 ∧ w5.cell? ⟨g, i, none⟩ = some (.iface 149 (.agg #[])) ∧ w5.cell? ⟨g2, i, none⟩ = some (.iface 149 (.agg #[])))).mono HB.out.size))
     clear hb5 sOf hS
     go_wp2
     go_roundw
     case rel => exact ⟨i + 1, by go_num, by omega, HNX, HB5⟩
     case measure => simp [intOf]; omega
   ·have hlt2 : ¬ (i : Int) < (n : Int) := by omega
    obtain rfl : i = n := by omega
    have HE : Hid (Rt.finer a b = decide (i < m)) := hid' (by rw [HF.out, Rt.finer_end1 HN.out (by rw [HM.out]; exact hnm), HM.out])
    clear hnm hnm2
    by_cases him : i < m
    ·have him2 : (i : Int) < (m : Int) := by omega
     rw [decide_eq_true him] at HE
     clear him
     go_wp2
     go_ret
     exact ⟨by rw [HE.out]; rfl, HB.out⟩
    ·have him2 : ¬ (i : Int) < (m : Int) := by omega
     rw [decide_eq_false him] at HE
     clear him
     go_wp2
     go_ret
     exact ⟨by rw [HE.out]; rfl, HB.out⟩
 ·have hnm2 : (m : Int) < (n : Int) := by omega
  go_enter Tryz.func85, Tryz.ntmps85
  go_wp2
  go_loopw [13] (fun s13 wr => ∃ i : Nat, s13 = .int .i64 (i : Int) ∧ i ≤ m ∧ Hid (Rt.finer a b = Rt.finer (a.drop i) (b.drop i)) ∧ Hid (Below w.heap.size w wr)) (fun s13 _ => m - (intOf s13).toNat)
  case atStart => exact ⟨0, rfl, Nat.zero_le _, hid' (by rw [List.drop_zero, List.drop_zero]), hid' (Below.refl _ _)⟩
  case round =>
   obtain ⟨i, rfl, hi, HF, HB⟩ := hrel
   by_cases hlt : i < m
   ·have hlt2 : (i : Int) < (m : Int) := by omega
    have hli : (i : Int) < (n : Int) := by omega
    have hli2 : (i : Int) < (m : Int) := by omega
    obtain ⟨p, hp⟩ : ∃ p, a[i]? = some p := ⟨_, List.getElem?_eq_getElem (by rw [HN.out]; omega)⟩
    obtain ⟨q, hq⟩ : ∃ q, b[i]? = some q := ⟨_, List.getElem?_eq_getElem (by rw [HM.out]; omega)⟩
    obtain ⟨g, rfl, hgl, y0⟩ := H.out i p hp
    obtain ⟨g2, rfl, hgl', y0'⟩ := H'.out i q hq
    have y1 := (HB.out.cell (p := ⟨g, i, none⟩) hgl).trans y0
    have y2 := (HB.out.cell (p := ⟨g2, i, none⟩) hgl').trans y0'
    have hgl1 := Nat.lt_of_lt_of_le hgl HB.out.size
    have hgl2 := Nat.lt_of_lt_of_le hgl' HB.out.size
    have HGP := hid' (HG.out p (List.mem_of_getElem? hp))
    have HGP' := hid' (HG'.out q (List.mem_of_getElem? hq))
    have HFA := hid' (Rt.finer_at hp hq)
    clear hp hq y0 y0' hgl hgl'
    rcases Rt.k3 HGP.out with hk | hk | hk <;> rcases Rt.k3 HGP'.out with hk2 | hk2 | hk2
    ·have e1 : pU18 p = .iface 147 (.string ⟨p.t.toArray⟩) := by unfold pU18; rw [hk]; rfl
     have e2 : pU18 q = .iface 147 (.string ⟨q.t.toArray⟩) := by unfold pU18; rw [hk2]; rfl
     rw [e1] at y1
     rw [e2] at y2
     have mm1 := mkindP18 ⟨p.t.toArray⟩
     have mm2 := mkindP18 ⟨q.t.toArray⟩
     have hS : Below wr.heap.size wr wr ∧ wr.cell? ⟨g, i, none⟩ = some (.iface 147 (.string ⟨p.t.toArray⟩)) ∧ wr.cell? ⟨g2, i, none⟩ = some (.iface 147 (.string ⟨q.t.toArray⟩)) := ⟨Below.refl _ _, y1, y2⟩
     have sOf : ∀ W W1 : World, (Below wr.heap.size wr W ∧ W.cell? ⟨g, i, none⟩ = some (.iface 147 (.string ⟨p.t.toArray⟩)) ∧ W.cell? ⟨g2, i, none⟩ = some (.iface 147 (.string ⟨q.t.toArray⟩))) → Below W.heap.size W W1 → (Below wr.heap.size wr W1 ∧ W1.cell? ⟨g, i, none⟩ = some (.iface 147 (.string ⟨p.t.toArray⟩)) ∧ W1.cell? ⟨g2, i, none⟩ = some (.iface 147 (.string ⟨q.t.toArray⟩))) := fun W W1 h hb => ⟨below_two h.1 hb, (hb.cell (p := ⟨g, i, none⟩) (Nat.lt_of_lt_of_le hgl1 h.1.size)).trans h.2.1, (hb.cell (p := ⟨g2, i, none⟩) (Nat.lt_of_lt_of_le hgl2 h.1.size)).trans h.2.2⟩
     have HNX : Hid (Rt.finer a b = Rt.finer (a.drop (i + 1)) (b.drop (i + 1))) := hid' (by rw [HF.out, HFA.out, hk, hk2]; rfl)
     go_upto_region 4 with fail
     go_region_held3 (fun W => Below wr.heap.size wr W ∧ W.cell? ⟨g, i, none⟩ = some (.iface 147 (.string ⟨p.t.toArray⟩)) ∧ W.cell? ⟨g2, i, none⟩ = some (.iface 147 (.string ⟨q.t.toArray⟩)))
      (first | assumption | exact sOf _ _ (by assumption) (by assumption) | exact sOf _ _ (by assumption) ((Below.refl _ _).drew))
      (first | (go_at_call 288; refine (kindP18 _ _).mono ?_; rintro e w5 ⟨rfl, hb5⟩))
     have HB5 : Hid (Below w.heap.size w w5) := hid' (HB.out.trans ((And.left (by assumption : Below wr.heap.size wr w5 ∧ w5.cell? ⟨g, i, none⟩ = some (.iface 147 (.string ⟨p.t.toArray⟩)) ∧ w5.cell? ⟨g2, i, none⟩ = some (.iface 147 (.string ⟨q.t.toArray⟩)))).mono HB.out.size))
     clear hb5 sOf hS
     go_wp2
     go_roundw
     case rel => exact ⟨i + 1, by go_num, by omega, HNX, HB5⟩
     case measure => simp [intOf]; omega
    ·have e1 : pU18 p = .iface 147 (.string ⟨p.t.toArray⟩) := by unfold pU18; rw [hk]; rfl
     have e2 : pU18 q = .iface 150 (.agg #[]) := by unfold pU18; rw [hk2]; rfl
     rw [e1] at y1
     rw [e2] at y2
     have mm1 := mkindP18 ⟨p.t.toArray⟩
     have mm2 := mkindC18
     have hS : Below wr.heap.size wr wr ∧ wr.cell? ⟨g, i, none⟩ = some (.iface 147 (.string ⟨p.t.toArray⟩)) ∧ wr.cell? ⟨g2, i, none⟩ = some (.iface 150 (.agg #[])) := ⟨Below.refl _ _, y1, y2⟩
     have sOf : ∀ W W1 : World, (Below wr.heap.size wr W ∧ W.cell? ⟨g, i, none⟩ = some (.iface 147 (.string ⟨p.t.toArray⟩)) ∧ W.cell? ⟨g2, i, none⟩ = some (.iface 150 (.agg #[]))) → Below W.heap.size W W1 → (Below wr.heap.size wr W1 ∧ W1.cell? ⟨g, i, none⟩ = some (.iface 147 (.string ⟨p.t.toArray⟩)) ∧ W1.cell? ⟨g2, i, none⟩ = some (.iface 150 (.agg #[]))) := fun W W1 h hb => ⟨below_two h.1 hb, (hb.cell (p := ⟨g, i, none⟩) (Nat.lt_of_lt_of_le hgl1 h.1.size)).trans h.2.1, (hb.cell (p := ⟨g2, i, none⟩) (Nat.lt_of_lt_of_le hgl2 h.1.size)).trans h.2.2⟩
     have HFF : Hid (Rt.finer a b = true) := hid' (by rw [HF.out, HFA.out, hk, hk2]; rfl)
     go_upto_region 4 with fail
     go_region_held3 (fun W => Below wr.heap.size wr W ∧ W.cell? ⟨g, i, none⟩ = some (.iface 147 (.string ⟨p.t.toArray⟩)) ∧ W.cell? ⟨g2, i, none⟩ = some (.iface 150 (.agg #[])))
      (first | assumption | exact sOf _ _ (by assumption) (by assumption) | exact sOf _ _ (by assumption) ((Below.refl _ _).drew))
      (first | (go_at_call 288; refine (kindP18 _ _).mono ?_; rintro e w5 ⟨rfl, hb5⟩) | (go_at_call 296; refine (kindC18 _).mono ?_; rintro e w5 ⟨rfl, hb5⟩))
     have HB5 : Hid (Below w.heap.size w w5) := hid' (HB.out.trans ((And.left (by assumption : Below wr.heap.size wr w5 ∧ w5.cell? ⟨g, i, none⟩ = some (.iface 147 (.string ⟨p.t.toArray⟩)) ∧ w5.cell? ⟨g2, i, none⟩ = some (.iface 150 (.agg #[])))).mono HB.out.size))
     clear hb5 sOf hS
     go_wp2
     go_ret
     exact ⟨by rw [HFF.out]; rfl, HB5.out⟩
    ·have e1 : pU18 p = .iface 147 (.string ⟨p.t.toArray⟩) := by unfold pU18; rw [hk]; rfl
     have e2 : pU18 q = .iface 149 (.agg #[]) := by unfold pU18; rw [hk2]; rfl
     rw [e1] at y1
     rw [e2] at y2
     have mm1 := mkindP18 ⟨p.t.toArray⟩
     have mm2 := mkindR18
     have hS : Below wr.heap.size wr wr ∧ wr.cell? ⟨g, i, none⟩ = some (.iface 147 (.string ⟨p.t.toArray⟩)) ∧ wr.cell? ⟨g2, i, none⟩ = some (.iface 149 (.agg #[])) := ⟨Below.refl _ _, y1, y2⟩
     have sOf : ∀ W W1 : World, (Below wr.heap.size wr W ∧ W.cell? ⟨g, i, none⟩ = some (.iface 147 (.string ⟨p.t.toArray⟩)) ∧ W.cell? ⟨g2, i, none⟩ = some (.iface 149 (.agg #[]))) → Below W.heap.size W W1 → (Below wr.heap.size wr W1 ∧ W1.cell? ⟨g, i, none⟩ = some (.iface 147 (.string ⟨p.t.toArray⟩)) ∧ W1.cell? ⟨g2, i, none⟩ = some (.iface 149 (.agg #[]))) := fun W W1 h hb => ⟨below_two h.1 hb, (hb.cell (p := ⟨g, i, none⟩) (Nat.lt_of_lt_of_le hgl1 h.1.size)).trans h.2.1, (hb.cell (p := ⟨g2, i, none⟩) (Nat.lt_of_lt_of_le hgl2 h.1.size)).trans h.2.2⟩
     have HFF : Hid (Rt.finer a b = true) := hid' (by rw [HF.out, HFA.out, hk, hk2]; rfl)
     go_upto_region 4 with fail
     go_region_held3 (fun W => Below wr.heap.size wr W ∧ W.cell? ⟨g, i, none⟩ = some (.iface 147 (.string ⟨p.t.toArray⟩)) ∧ W.cell? ⟨g2, i, none⟩ = some (.iface 149 (.agg #[])))
      (first | assumption | exact sOf _ _ (by assumption) (by assumption) | exact sOf _ _ (by assumption) ((Below.refl _ _).drew))
      (first | (go_at_call 288; refine (kindP18 _ _).mono ?_; rintro e w5 ⟨rfl, hb5⟩) | (go_at_call 292; refine (kindR18 _).mono ?_; rintro e w5 ⟨rfl, hb5⟩))
     have HB5 : Hid (Below w.heap.size w w5) := hid' (HB.out.trans ((And.left (by assumption : Below wr.heap.size wr w5 ∧ w5.cell? ⟨g, i, none⟩ = some (.iface 147 (.string ⟨p.t.toArray⟩)) ∧ w5.cell? ⟨g2, i, none⟩ = some (.iface 149 (.agg #[])))).mono HB.out.size))
     clear hb5 sOf hS
     go_wp2
     go_ret
     exact ⟨by rw [HFF.out]; rfl, HB5.out⟩
    ·have e1 : pU18 p = .iface 150 (.agg #[]) := by unfold pU18; rw [hk]; rfl
     have e2 : pU18 q = .iface 147 (.string ⟨q.t.toArray⟩) := by unfold pU18; rw [hk2]; rfl
     rw [e1] at y1
     rw [e2] at y2
     have mm1 := mkindC18
     have mm2 := mkindP18 ⟨q.t.toArray⟩
     have hS : Below wr.heap.size wr wr ∧ wr.cell? ⟨g, i, none⟩ = some (.iface 150 (.agg #[])) ∧ wr.cell? ⟨g2, i, none⟩ = some (.iface 147 (.string ⟨q.t.toArray⟩)) := ⟨Below.refl _ _, y1, y2⟩
     have sOf : ∀ W W1 : World, (Below wr.heap.size wr W ∧ W.cell? ⟨g, i, none⟩ = some (.iface 150 (.agg #[])) ∧ W.cell? ⟨g2, i, none⟩ = some (.iface 147 (.string ⟨q.t.toArray⟩))) → Below W.heap.size W W1 → (Below wr.heap.size wr W1 ∧ W1.cell? ⟨g, i, none⟩ = some (.iface 150 (.agg #[])) ∧ W1.cell? ⟨g2, i, none⟩ = some (.iface 147 (.string ⟨q.t.toArray⟩))) := fun W W1 h hb => ⟨below_two h.1 hb, (hb.cell (p := ⟨g, i, none⟩) (Nat.lt_of_lt_of_le hgl1 h.1.size)).trans h.2.1, (hb.cell (p := ⟨g2, i, none⟩) (Nat.lt_of_lt_of_le hgl2 h.1.size)).trans h.2.2⟩
     have HFF : Hid (Rt.finer a b = false) := hid' (by rw [HF.out, HFA.out, hk, hk2]; rfl)
     go_upto_region 4 with fail
     go_region_held3 (fun W => Below wr.heap.size wr W ∧ W.cell? ⟨g, i, none⟩ = some (.iface 150 (.agg #[])) ∧ W.cell? ⟨g2, i, none⟩ = some (.iface 147 (.string ⟨q.t.toArray⟩)))
      (first | assumption | exact sOf _ _ (by assumption) (by assumption) | exact sOf _ _ (by assumption) ((Below.refl _ _).drew))
      (first | (go_at_call 296; refine (kindC18 _).mono ?_; rintro e w5 ⟨rfl, hb5⟩) | (go_at_call 288; refine (kindP18 _ _).mono ?_; rintro e w5 ⟨rfl, hb5⟩))
     have HB5 : Hid (Below w.heap.size w w5) := hid' (HB.out.trans ((And.left (by assumption : Below wr.heap.size wr w5 ∧ w5.cell? ⟨g, i, none⟩ = some (.iface 150 (.agg #[])) ∧ w5.cell? ⟨g2, i, none⟩ = some (.iface 147 (.string ⟨q.t.toArray⟩)))).mono HB.out.size))
     clear hb5 sOf hS
     go_wp2
     go_ret
     exact ⟨by rw [HFF.out]; rfl, HB5.out⟩
    ·have e1 : pU18 p = .iface 150 (.agg #[]) := by unfold pU18; rw [hk]; rfl
     have e2 : pU18 q = .iface 150 (.agg #[]) := by unfold pU18; rw [hk2]; rfl
     rw [e1] at y1
     rw [e2] at y2
     have mm1 := mkindC18
     have mm2 := mkindC18
     have hS : Below wr.heap.size wr wr ∧ wr.cell? ⟨g, i, none⟩ = some (.iface 150 (.agg #[])) ∧ wr.cell? ⟨g2, i, none⟩ = some (.iface 150 (.agg #[])) := ⟨Below.refl _ _, y1, y2⟩
     have sOf : ∀ W W1 : World, (Below wr.heap.size wr W ∧ W.cell? ⟨g, i, none⟩ = some (.iface 150 (.agg #[])) ∧ W.cell? ⟨g2, i, none⟩ = some (.iface 150 (.agg #[]))) → Below W.heap.size W W1 → (Below wr.heap.size wr W1 ∧ W1.cell? ⟨g, i, none⟩ = some (.iface 150 (.agg #[])) ∧ W1.cell? ⟨g2, i, none⟩ = some (.iface 150 (.agg #[]))) := fun W W1 h hb => ⟨below_two h.1 hb, (hb.cell (p := ⟨g, i, none⟩) (Nat.lt_of_lt_of_le hgl1 h.1.size)).trans h.2.1, (hb.cell (p := ⟨g2, i, none⟩) (Nat.lt_of_lt_of_le hgl2 h.1.size)).trans h.2.2⟩
     have HNX : Hid (Rt.finer a b = Rt.finer (a.drop (i + 1)) (b.drop (i + 1))) := hid' (by rw [HF.out, HFA.out, hk, hk2]; rfl)
     go_upto_region 4 with fail
     go_region_held3 (fun W => Below wr.heap.size wr W ∧ W.cell? ⟨g, i, none⟩ = some (.iface 150 (.agg #[])) ∧ W.cell? ⟨g2, i, none⟩ = some (.iface 150 (.agg #[])))
      (first | assumption | exact sOf _ _ (by assumption) (by assumption) | exact sOf _ _ (by assumption) ((Below.refl _ _).drew))
      (first | (go_at_call 296; refine (kindC18 _).mono ?_; rintro e w5 ⟨rfl, hb5⟩))
     have HB5 : Hid (Below w.heap.size w w5) := hid' (HB.out.trans ((And.left (by assumption : Below wr.heap.size wr w5 ∧ w5.cell? ⟨g, i, none⟩ = some (.iface 150 (.agg #[])) ∧ w5.cell? ⟨g2, i, none⟩ = some (.iface 150 (.agg #[])))).mono HB.out.size))
     clear hb5 sOf hS
     go_wp2
     go_roundw
     case rel => exact ⟨i + 1, by go_num, by omega, HNX, HB5⟩
     case measure => simp [intOf]; omega
    ·have e1 : pU18 p = .iface 150 (.agg #[]) := by unfold pU18; rw [hk]; rfl
     have e2 : pU18 q = .iface 149 (.agg #[]) := by unfold pU18; rw [hk2]; rfl
     rw [e1] at y1
     rw [e2] at y2
     have mm1 := mkindC18
     have mm2 := mkindR18
     have hS : Below wr.heap.size wr wr ∧ wr.cell? ⟨g, i, none⟩ = some (.iface 150 (.agg #[])) ∧ wr.cell? ⟨g2, i, none⟩ = some (.iface 149 (.agg #[])) := ⟨Below.refl _ _, y1, y2⟩
     have sOf : ∀ W W1 : World, (Below wr.heap.size wr W ∧ W.cell? ⟨g, i, none⟩ = some (.iface 150 (.agg #[])) ∧ W.cell? ⟨g2, i, none⟩ = some (.iface 149 (.agg #[]))) → Below W.heap.size W W1 → (Below wr.heap.size wr W1 ∧ W1.cell? ⟨g, i, none⟩ = some (.iface 150 (.agg #[])) ∧ W1.cell? ⟨g2, i, none⟩ = some (.iface 149 (.agg #[]))) := fun W W1 h hb => ⟨below_two h.1 hb, (hb.cell (p := ⟨g, i, none⟩) (Nat.lt_of_lt_of_le hgl1 h.1.size)).trans h.2.1, (hb.cell (p := ⟨g2, i, none⟩) (Nat.lt_of_lt_of_le hgl2 h.1.size)).trans h.2.2⟩
     have HFF : Hid (Rt.finer a b = true) := hid' (by rw [HF.out, HFA.out, hk, hk2]; rfl)
     go_upto_region 4 with fail
     go_region_held3 (fun W => Below wr.heap.size wr W ∧ W.cell? ⟨g, i, none⟩ = some (.iface 150 (.agg #[])) ∧ W.cell? ⟨g2, i, none⟩ = some (.iface 149 (.agg #[])))
      (first | assumption | exact sOf _ _ (by assumption) (by assumption) | exact sOf _ _ (by assumption) ((Below.refl _ _).drew))
      (first | (go_at_call 296; refine (kindC18 _).mono ?_; rintro e w5 ⟨rfl, hb5⟩) | (go_at_call 292; refine (kindR18 _).mono ?_; rintro e w5 ⟨rfl, hb5⟩))
     have HB5 : Hid (Below w.heap.size w w5) := hid' (HB.out.trans ((And.left (by assumption : Below wr.heap.size wr w5 ∧ w5.cell? ⟨g, i, none⟩ = some (.iface 150 (.agg #[])) ∧ w5.cell? ⟨g2, i, none⟩ = some (.iface 149 (.agg #[])))).mono HB.out.size))
     clear hb5 sOf hS
     go_wp2
     go_ret
     exact ⟨by rw [HFF.out]; rfl, HB5.out⟩
    ·have e1 : pU18 p = .iface 149 (.agg #[]) := by unfold pU18; rw [hk]; rfl
     have e2 : pU18 q = .iface 147 (.string ⟨q.t.toArray⟩) := by unfold pU18; rw [hk2]; rfl
     rw [e1] at y1
     rw [e2] at y2
     have mm1 := mkindR18
     have mm2 := mkindP18 ⟨q.t.toArray⟩
     have hS : Below wr.heap.size wr wr ∧ wr.cell? ⟨g, i, none⟩ = some (.iface 149 (.agg #[])) ∧ wr.cell? ⟨g2, i, none⟩ = some (.iface 147 (.string ⟨q.t.toArray⟩)) := ⟨Below.refl _ _, y1, y2⟩
     have sOf : ∀ W W1 : World, (Below wr.heap.size wr W ∧ W.cell? ⟨g, i, none⟩ = some (.iface 149 (.agg #[])) ∧ W.cell? ⟨g2, i, none⟩ = some (.iface 147 (.string ⟨q.t.toArray⟩))) → Below W.heap.size W W1 → (Below wr.heap.size wr W1 ∧ W1.cell? ⟨g, i, none⟩ = some (.iface 149 (.agg #[])) ∧ W1.cell? ⟨g2, i, none⟩ = some (.iface 147 (.string ⟨q.t.toArray⟩))) := fun W W1 h hb => ⟨below_two h.1 hb, (hb.cell (p := ⟨g, i, none⟩) (Nat.lt_of_lt_of_le hgl1 h.1.size)).trans h.2.1, (hb.cell (p := ⟨g2, i, none⟩) (Nat.lt_of_lt_of_le hgl2 h.1.size)).trans h.2.2⟩
     have HFF : Hid (Rt.finer a b = false) := hid' (by rw [HF.out, HFA.out, hk, hk2]; rfl)
     go_upto_region 4 with fail
     go_region_held3 (fun W => Below wr.heap.size wr W ∧ W.cell? ⟨g, i, none⟩ = some (.iface 149 (.agg #[])) ∧ W.cell? ⟨g2, i, none⟩ = some (.iface 147 (.string ⟨q.t.toArray⟩)))
      (first | assumption | exact sOf _ _ (by assumption) (by assumption) | exact sOf _ _ (by assumption) ((Below.refl _ _).drew))
      (first | (go_at_call 292; refine (kindR18 _).mono ?_; rintro e w5 ⟨rfl, hb5⟩) | (go_at_call 288; refine (kindP18 _ _).mono ?_; rintro e w5 ⟨rfl, hb5⟩))
     have HB5 : Hid (Below w.heap.size w w5) := hid' (HB.out.trans ((And.left (by assumption : Below wr.heap.size wr w5 ∧ w5.cell? ⟨g, i, none⟩ = some (.iface 149 (.agg #[])) ∧ w5.cell? ⟨g2, i, none⟩ = some (.iface 147 (.string ⟨q.t.toArray⟩)))).mono HB.out.size))
     clear hb5 sOf hS
     go_wp2
     go_ret
     exact ⟨by rw [HFF.out]; rfl, HB5.out⟩
    ·have e1 : pU18 p = .iface 149 (.agg #[]) := by unfold pU18; rw [hk]; rfl
     have e2 : pU18 q = .iface 150 (.agg #[]) := by unfold pU18; rw [hk2]; rfl
     rw [e1] at y1
     rw [e2] at y2
     have mm1 := mkindR18
     have mm2 := mkindC18
     have hS : Below wr.heap.size wr wr ∧ wr.cell? ⟨g, i, none⟩ = some (.iface 149 (.agg #[])) ∧ wr.cell? ⟨g2, i, none⟩ = some (.iface 150 (.agg #[])) := ⟨Below.refl _ _, y1, y2⟩
     have sOf : ∀ W W1 : World, (Below wr.heap.size wr W ∧ W.cell? ⟨g, i, none⟩ = some (.iface 149 (.agg #[])) ∧ W.cell? ⟨g2, i, none⟩ = some (.iface 150 (.agg #[]))) → Below W.heap.size W W1 → (Below wr.heap.size wr W1 ∧ W1.cell? ⟨g, i, none⟩ = some (.iface 149 (.agg #[])) ∧ W1.cell? ⟨g2, i, none⟩ = some (.iface 150 (.agg #[]))) := fun W W1 h hb => ⟨below_two h.1 hb, (hb.cell (p := ⟨g, i, none⟩) (Nat.lt_of_lt_of_le hgl1 h.1.size)).trans h.2.1, (hb.cell (p := ⟨g2, i, none⟩) (Nat.lt_of_lt_of_le hgl2 h.1.size)).trans h.2.2⟩
     have HFF : Hid (Rt.finer a b = false) := hid' (by rw [HF.out, HFA.out, hk, hk2]; rfl)
     go_upto_region 4 with fail
     go_region_held3 (fun W => Below wr.heap.size wr W ∧ W.cell? ⟨g, i, none⟩ = some (.iface 149 (.agg #[])) ∧ W.cell? ⟨g2, i, none⟩ = some (.iface 150 (.agg #[])))
      (first | assumption | exact sOf _ _ (by assumption) (by assumption) | exact sOf _ _ (by assumption) ((Below.refl _ _).drew))
      (first | (go_at_call 292; refine (kindR18 _).mono ?_; rintro e w5 ⟨rfl, hb5⟩) | (go_at_call 296; refine (kindC18 _).mono ?_; rintro e w5 ⟨rfl, hb5⟩))
     have HB5 : Hid (Below w.heap.size w w5) := hid' (HB.out.trans ((And.left (by assumption : Below wr.heap.size wr w5 ∧ w5.cell? ⟨g, i, none⟩ = some (.iface 149 (.agg #[])) ∧ w5.cell? ⟨g2, i, none⟩ = some (.iface 150 (.agg #[])))).mono HB.out.size))
     clear hb5 sOf hS
     go_wp2
     go_ret
     exact ⟨by rw [HFF.out]; rfl, HB5.out⟩
    ·have e1 : pU18 p = .iface 149 (.agg #[]) := by unfold pU18; rw [hk]; rfl
     have e2 : pU18 q = .iface 149 (.agg #[]) := by unfold pU18; rw [hk2]; rfl
     rw [e1] at y1
     rw [e2] at y2
     have mm1 := mkindR18
     have mm2 := mkindR18
     have hS : Below wr.heap.size wr wr ∧ wr.cell? ⟨g, i, none⟩ = some (.iface 149 (.agg #[])) ∧ wr.cell? ⟨g2, i, none⟩ = some (.iface 149 (.agg #[])) := ⟨Below.refl _ _, y1, y2⟩
     have sOf : ∀ W W1 : World, (Below wr.heap.size wr W ∧ W.cell? ⟨g, i, none⟩ = some (.iface 149 (.agg #[])) ∧ W.cell? ⟨g2, i, none⟩ = some (.iface 149 (.agg #[]))) → Below W.heap.size W W1 → (Below wr.heap.size wr W1 ∧ W1.cell? ⟨g, i, none⟩ = some (.iface 149 (.agg #[])) ∧ W1.cell? ⟨g2, i, none⟩ = some (.iface 149 (.agg #[]))) := fun W W1 h hb => ⟨below_two h.1 hb, (hb.cell (p := ⟨g, i, none⟩) (Nat.lt_of_lt_of_le hgl1 h.1.size)).trans h.2.1, (hb.cell (p := ⟨g2, i, none⟩) (Nat.lt_of_lt_of_le hgl2 h.1.size)).trans h.2.2⟩
     have HNX : Hid (Rt.finer a b = Rt.finer (a.drop (i + 1)) (b.drop (i + 1))) := hid' (by rw [HF.out, HFA.out, hk, hk2]; rfl)
     go_upto_region 4 with fail
     go_region_held3 (fun W => Below wr.heap.size wr W ∧ W.cell? ⟨g, i, none⟩ = some (.iface 149 (.agg #[])) ∧ W.cell? ⟨g2, i, none⟩ = some (.iface 149 (.agg #[])))
      (first | assumption | exact sOf _ _ (by assumption) (by assumption) | exact sOf _ _ (by assumption) ((Below.refl _ _).drew))
      (first | (go_at_call 292; refine (kindR18 _).mono ?_; rintro e w5 ⟨rfl, hb5⟩))
     have HB5 : Hid (Below w.heap.size w w5) := hid' (HB.out.trans ((And.left (by assumption : Below wr.heap.size wr w5 ∧ w5.cell? ⟨g, i, none⟩ = some (.iface 149 (.agg #[])) ∧ w5.cell? ⟨g2, i, none⟩ = some (.iface 149 (.agg #[])))).mono HB.out.size))
     clear hb5 sOf hS
     go_wp2
     go_roundw
     case rel => exact ⟨i + 1, by go_num, by omega, HNX, HB5⟩
     case measure => simp [intOf]; omega
   ·have hlt2 : ¬ (i : Int) < (m : Int) := by omega
    obtain rfl : i = m := by omega
    have HE : Hid (Rt.finer a b = false) := hid' (by rw [HF.out, Rt.finer_end2 HM.out])
    have him2 : ¬ (n : Int) < (i : Int) := by omega
    go_wp2
    go_ret
    exact ⟨by rw [HE.out]; rfl, HB.out⟩

end Go.Proofs.YtcfbobegbmcbeaaGreatDoor
