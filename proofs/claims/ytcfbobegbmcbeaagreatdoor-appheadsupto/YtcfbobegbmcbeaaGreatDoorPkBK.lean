import Derived.Deep.RegionHeld3
import Derived.Test.YtcfbobegbmcbeaaGreatDoorPkBF
import Derived.Test.YtcfbobegbmcbeaaGreatDoorPkAT
import Derived.Test.YtcfbobegbmcbeaaGreatDoorPkBH
namespace Go.Proofs.YtcfbobegbmcbeaaGreatDoor
set_option maxHeartbeats 64000000
open Go.RowKit

namespace Rt
theorem vals_at {ps : List Prt} {i : Nat} {p : Prt} (hp : ps[i]? = some p) (l : List T8) (e : Bool) : vals (ps.drop i) l e = (if p.k == 1 then [l.headD []] else if p.k == 2 then [Pt.join l ++ (if !l.isEmpty && e then [47] else [])] else []) ++ vals (ps.drop (i + 1)) l.tail e := by
 obtain ⟨h, he⟩ := List.getElem?_eq_some_iff.1 hp
 rw [List.drop_eq_getElem_cons h, he, vals_cons]
end Rt
theorem TS18.take {w : World} {ao : Option Addr} {k : List (List UInt8)} (h : TS18 w ao k) (j : Nat) : TS18 w ao (k.take j) := fun i p hp => by
 rw [List.getElem?_take] at hp
 split at hp
 ·exact h i p hp
 ·cases hp

theorem ncatchP18 (s : ByteArray) (w : World) : (nilAhead 430 147 (.string s) "ostler/route.catch").run Tryz.prog w = .ok (some false) w := by kernel_rfl
theorem ncatchC18 (w : World) : (nilAhead 430 150 (.agg #[]) "ostler/route.catch").run Tryz.prog w = .ok (some false) w := by kernel_rfl
theorem ncatchR18 (w : World) : (nilAhead 430 149 (.agg #[]) "ostler/route.catch").run Tryz.prog w = .ok (some false) w := by kernel_rfl

set_option maxRecDepth 20000 in
theorem ccaught18 (ao : Option Addr) (n cap : Nat) (ps : List Rt.Prt) (hn : ps.length = n) (hnb : n ≤ 4194305) (hg : ∀ p ∈ ps, Rt.Gp p) (hw : Rt.Wf ps) (lo : Option Addr) (m lc : Nat) (k : List (List UInt8)) (en : Bool) (hm : k.length = m) (hmb : m ≤ 4194305) (hlc : m ≤ lc) (hsz : (k.map List.length).sum + k.length ≤ 16777216) (hf : Rt.fits ps k = true) (w : World) (h : PU18 w ao ps) (ht : TS18 w lo k) :
  Calls Tryz.prog 86 #[.slice ao n cap, .agg #[.slice lo m lc, .bool en]] w fun e w' => (∃ c ro rc, e = .returned (.slice ro c rc) ∧ (Rt.vals ps k en).length = c ∧ w'.ownsRow w.heap.size 9 1 (.slice ro c rc) c (sC17 (Rt.vals ps k en))) ∧ Below w.heap.size w w' := by
 have H := hid' h
 have HN := hid' hn
 have HG := hid' hg
 have HWF := hid' hw
 have HM := hid' hm
 have HLC := hid' hlc
 have HMB := hid' hmb
 have HFI := hid' hf
 have HSZ := hid' hsz
 have HT := hid' (ht.below (bl_alloc17 w (.cells #[.slice lo m lc, .bool en] 137)))
 obtain ⟨w0, hw0⟩ : ∃ w0, w.alloc (.cells #[.slice lo m lc, .bool en] 137) = w0 := ⟨_, rfl⟩
 have HA0 : Hid (Ar w0 w.heap.size 137 #[.slice lo m lc, .bool en]) := hid' (by rw [← hw0]; exact heap_alloc_last w _)
 have HB0 : Hid (Below w.heap.size w w0) := hid' (by rw [← hw0]; exact bl_alloc17 w _)
 rw [hw0] at HT
 have x0 := HA0.out.cell 0 _ rfl
 have x1 := HA0.out.cell 1 _ rfl
 clear h hn hg hw ht hm hlc hmb hf hsz
 go_enter Tryz.func86, Tryz.ntmps86
 go_wp2
 go_loopw [5, 6, 15] (fun s5 s6 s15 wr => ∃ (i m' lc' c rc : Nat) (lo' ro : Option Addr) (k' Z : List (List UInt8)), s15 = .int .i64 (i : Int) ∧ s6 = .slice lo' m' lc' ∧ s5 = .slice ro c rc ∧ i ≤ n ∧ c ≤ i ∧ Hid (k'.length = m') ∧ Hid (m' ≤ 4194305) ∧ Hid (m' ≤ lc') ∧ Hid ((k'.map List.length).sum + k'.length ≤ 16777216) ∧ Hid (TS18 w0 lo' k') ∧ Hid (Rt.fits (ps.drop i) k' = true) ∧ Hid (Z.length = c) ∧ Hid (Rt.vals ps k en = Z ++ Rt.vals (ps.drop i) k' en) ∧ Hid (wr.ownsRow w0.heap.size 9 1 (.slice ro c rc) c (sC17 Z)) ∧ Hid (Below w0.heap.size w0 wr)) (fun _ _ s15 _ => n - (intOf s15).toNat)
 case atStart => exact ⟨0, m, lc, 0, 0, lo, none, k, [], rfl, rfl, rfl, Nat.zero_le _, Nat.le_refl _, HM, HMB, HLC, HSZ, HT, hid' (by rw [List.drop_zero]; exact HFI.out), hid' rfl, hid' (by rw [List.drop_zero]; rfl), hid' (World.ownsRow_nil _ _ _ _), hid' (Below.refl _ _)⟩
 case round =>
  obtain ⟨i, m', lc', c, rc, lo', ro, k', Z, rfl, rfl, rfl, hi, hci, HKL, HKB, HLC', HKS, HTS, HF, HZL, HV, HO, HB⟩ := hrel
  by_cases hlt : i < n
  ·have hlt2 : (i : Int) < (n : Int) := by omega
   obtain ⟨p, hp⟩ : ∃ p, ps[i]? = some p := ⟨_, List.getElem?_eq_getElem (by rw [HN.out]; exact hlt)⟩
   obtain ⟨g, rfl, hgl, y0⟩ := (H.out.below HB0.out) i p hp
   have y1 := (HB.out.cell (p := ⟨g, i, none⟩) hgl).trans y0
   have b1 : wr.cell? ⟨w.heap.size, 1, none⟩ = some (.bool en) := (HB.out.cell (p := ⟨w.heap.size, 1, none⟩) HA0.out.lt).trans x1
   have HGP := hid' (HG.out p (List.mem_of_getElem? hp))
   have HVA := hid' (Rt.vals_at hp k' en)
   have HP := hid' hp
   clear hp y0 hgl x0
   rcases Rt.k3 HGP.out with hk | hk | hk
   ·have h2 : (p.k == 2) = false := by rw [hk]; rfl
    cases k' with
    | nil => have hf := HF.out; rw [Rt.fits_at0 HP.out h2] at hf; cases hf
    | cons x r =>
     have e1 : pU18 p = .iface 147 (.string ⟨p.t.toArray⟩) := by unfold pU18; rw [hk]; rfl
     rw [e1] at y1
     have mm := mtakeP18 ⟨p.t.toArray⟩
     have mm2 := mcatchP18 ⟨p.t.toArray⟩
     have mm3 := ncatchP18 ⟨p.t.toArray⟩
     have hmf : ∀ (fn : Fn) (first cap : Array Value) (w : World), (Instr.makeFunc fn first cap).run Tryz.prog w = .ok (.func fn first cap) w := fun _ _ _ _ => rfl
     have cOf : ∀ W W1 : World, W.cell? ⟨w.heap.size, 1, none⟩ = some (.bool en) → Below w0.heap.size W W1 → W1.cell? ⟨w.heap.size, 1, none⟩ = some (.bool en) := fun W W1 h hb => (hb.cell (p := ⟨w.heap.size, 1, none⟩) HA0.out.lt).trans h
     have hfa := HF.out
     rw [Rt.fitsU_at HP.out h2 x r, Bool.and_eq_true] at hfa
     have HX : Hid (p.t = x) := hid' (by have := hfa.1; unfold Rt.fit1 at this; rw [hk] at this; simpa using this)
     have HFN := hid' hfa.2
     clear hfa
     obtain ⟨g2, o2, rfl⟩ := HTS.out.some
     obtain ⟨q, rfl⟩ : ∃ q, m' = q + 1 := ⟨r.length, HKL.out.symm⟩
     have HKL2 : Hid (r.length = q) := hid' (by have := HKL.out; simp at this; exact this)
     have hq0 : (1 : Int) ≤ ((q + 1 : Nat) : Int) := by omega
     have hq1 : ((q + 1 : Nat) : Int) ≤ (lc' : Int) := by have := HLC'.out; omega
     have hq2 : (1 : Int) ≤ (lc' : Int) := by omega
     have hq3 : (((q + 1 : Nat) : Int) - 1) = (q : Int) := by omega
     have HKS2 : Hid ((r.map List.length).sum + r.length ≤ 16777216) := hid' (by have := HKS.out; simp at this; omega)
     have HVN : Hid (Rt.vals ps k en = Z ++ Rt.vals (ps.drop (i + 1)) r en) := hid' (by rw [HV.out, HVA.out, hk]; rfl)
     by_cases hc1 : lc' = 1
     ·subst hc1
      obtain rfl : q = 0 := by have := HLC'.out; omega
      obtain rfl : r = [] := List.eq_nil_of_length_eq_zero HKL2.out
      go_wp2_with fail
      refine (takeP18 ⟨p.t.toArray⟩ x (by rw [HX.out]) _ _ _ [] HKL.out wr (HTS.out.below HB.out)).mono ?_
      rintro e w1 ⟨rfl, h1⟩
      have HB1 := hid' (HB.out.trans (h1.mono HB.out.size))
      have HO1 : Hid (w1.drew.ownsRow w0.heap.size 9 1 (.slice ro c rc) c (sC17 Z)) := hid' (own_kp17 (own_kp17 HO.out h1) ((Below.refl _ _).drew))
      have HB1d : Hid (Below w0.heap.size w0 w1.drew) := hid' HB1.out.drew
      have HTS1 := hid' (HTS.out.below HB1d.out)
      have hS : w1.cell? ⟨w.heap.size, 1, none⟩ = some (.bool en) := cOf _ _ b1 (h1.mono HB.out.size)
      clear h1 b1
      go_upto_region 7 with fail
      go_region_held3 (fun W => W.cell? ⟨w.heap.size, 1, none⟩ = some (.bool en)) (first | assumption)
       (first | (go_at_call 287; refine (catchP18 _ _ _ _ _ _ _ _ _).mono ?_; rintro e w5 ⟨rfl, hb5⟩; have hS5 := cOf _ _ (by assumption) (hb5.mono HB1d.out.size)))
      have HB5 : Hid (Below w0.heap.size w0 w5) := hid' (HB1d.out.trans (hb5.mono HB1d.out.size))
      have HO5 : Hid (w5.ownsRow w0.heap.size 9 1 (.slice ro c rc) c (sC17 Z)) := hid' (own_kp17 HO1.out hb5)
      clear hb5 hS5 hS cOf
      go_wp2
      go_roundw
      case rel => exact ⟨i + 1, 0, 0, c, rc, _, ro, [], Z, by go_num, rfl, rfl, by omega, by omega, hid' rfl, hid' (by omega), hid' (by omega), hid' (by simp), hid' (TS18.nil _ _), HFN, HZL, HVN, HO5, HB5⟩
      case measure => simp [intOf]; omega
     ·have hc2 : 1 < lc' := by have := HLC'.out; omega
      go_wp2_with fail
      refine (takeP18 ⟨p.t.toArray⟩ x (by rw [HX.out]) _ _ _ r HKL.out wr (HTS.out.below HB.out)).mono ?_
      rintro e w1 ⟨rfl, h1⟩
      have HB1 := hid' (HB.out.trans (h1.mono HB.out.size))
      have HO1 : Hid (w1.drew.ownsRow w0.heap.size 9 1 (.slice ro c rc) c (sC17 Z)) := hid' (own_kp17 (own_kp17 HO.out h1) ((Below.refl _ _).drew))
      have HB1d : Hid (Below w0.heap.size w0 w1.drew) := hid' HB1.out.drew
      have HTS1 := hid' (HTS.out.below HB1d.out)
      have hS : w1.cell? ⟨w.heap.size, 1, none⟩ = some (.bool en) := cOf _ _ b1 (h1.mono HB.out.size)
      clear h1 b1
      go_upto_region 7 with fail
      go_region_held3 (fun W => W.cell? ⟨w.heap.size, 1, none⟩ = some (.bool en)) (first | assumption)
       (first | (go_at_call 287; refine (catchP18 _ _ _ _ _ _ _ _ _).mono ?_; rintro e w5 ⟨rfl, hb5⟩; have hS5 := cOf _ _ (by assumption) (hb5.mono HB1d.out.size)))
      have HB5 : Hid (Below w0.heap.size w0 w5) := hid' (HB1d.out.trans (hb5.mono HB1d.out.size))
      have HO5 : Hid (w5.ownsRow w0.heap.size 9 1 (.slice ro c rc) c (sC17 Z)) := hid' (own_kp17 HO1.out hb5)
      clear hb5 hS5 hS cOf
      go_wp2
      go_roundw
      case rel => exact ⟨i + 1, q, _, c, rc, _, ro, r, Z, by go_num, rfl, rfl, by omega, by omega, HKL2, hid' (by have := HKB.out; omega), hid' (by have := HLC'.out; omega), HKS2, hid' HTS.out.tail, HFN, HZL, HVN, HO5, HB5⟩
      case measure => simp [intOf]; omega
   ·have h2 : (p.k == 2) = false := by rw [hk]; rfl
    cases k' with
    | nil => have hf := HF.out; rw [Rt.fits_at0 HP.out h2] at hf; cases hf
    | cons x r =>
     have e1 : pU18 p = .iface 150 (.agg #[]) := by unfold pU18; rw [hk]; rfl
     rw [e1] at y1
     have mm := mtakeC18
     have mm2 := mcatchC18
     have mm3 := ncatchC18
     have hmf : ∀ (fn : Fn) (first cap : Array Value) (w : World), (Instr.makeFunc fn first cap).run Tryz.prog w = .ok (.func fn first cap) w := fun _ _ _ _ => rfl
     have cOf : ∀ W W1 : World, W.cell? ⟨w.heap.size, 1, none⟩ = some (.bool en) → Below w0.heap.size W W1 → W1.cell? ⟨w.heap.size, 1, none⟩ = some (.bool en) := fun W W1 h hb => (hb.cell (p := ⟨w.heap.size, 1, none⟩) HA0.out.lt).trans h
     have hfa := HF.out
     rw [Rt.fitsU_at HP.out h2 x r, Bool.and_eq_true] at hfa
     have HFN := hid' hfa.2
     clear hfa
     obtain ⟨g2, o2, rfl⟩ := HTS.out.some
     obtain ⟨q, rfl⟩ : ∃ q, m' = q + 1 := ⟨r.length, HKL.out.symm⟩
     have HKL2 : Hid (r.length = q) := hid' (by have := HKL.out; simp at this; exact this)
     have hq0 : (1 : Int) ≤ ((q + 1 : Nat) : Int) := by omega
     have hq1 : ((q + 1 : Nat) : Int) ≤ (lc' : Int) := by have := HLC'.out; omega
     have hq2 : (1 : Int) ≤ (lc' : Int) := by omega
     have hq3 : (((q + 1 : Nat) : Int) - 1) = (q : Int) := by omega
     have HKS2 : Hid ((r.map List.length).sum + r.length ≤ 16777216) := hid' (by have := HKS.out; simp at this; omega)
     have HVN : Hid (Rt.vals ps k en = (Z ++ [x]) ++ Rt.vals (ps.drop (i + 1)) r en) := hid' (by rw [HV.out, HVA.out, hk]; simp)
     by_cases hc1 : lc' = 1
     ·subst hc1
      obtain rfl : q = 0 := by have := HLC'.out; omega
      obtain rfl : r = [] := List.eq_nil_of_length_eq_zero HKL2.out
      go_wp2_with fail
      refine (takeC18 _ _ _ (by omega) wr).mono ?_
      rintro e w1 ⟨rfl, h1⟩
      have HB1 := hid' (HB.out.trans (h1.mono HB.out.size))
      have HO1 : Hid (w1.drew.ownsRow w0.heap.size 9 1 (.slice ro c rc) c (sC17 Z)) := hid' (own_kp17 (own_kp17 HO.out h1) ((Below.refl _ _).drew))
      have HB1d : Hid (Below w0.heap.size w0 w1.drew) := hid' HB1.out.drew
      have HTS1 := hid' (HTS.out.below HB1d.out)
      have hS : w1.cell? ⟨w.heap.size, 1, none⟩ = some (.bool en) := cOf _ _ b1 (h1.mono HB.out.size)
      clear h1 b1
      go_upto_region 7 with fail
      have HTSx : Hid (TS18 w1.drew (some ⟨g2, o2, none⟩) [x]) := hid' (HTS1.out.take 1)
      go_region_held3 (fun W => W.cell? ⟨w.heap.size, 1, none⟩ = some (.bool en)) (first | assumption)
       (first | (go_at_call 295; refine (catchC18 w0.heap.size ro c rc Z _ _ x en (by omega) _ HB1d.out.size ?_ ?_).mono ?_; exact HO1.out; exact HTSx.out; rintro e w5 ⟨ro5, rc5, rfl, ho5, hb5⟩; have hS5 := cOf _ _ (by assumption) hb5))
      have HB5 : Hid (Below w0.heap.size w0 w5) := hid' (HB1d.out.trans hb5)
      have HO5 := hid' ho5
      clear hb5 hS5 hS cOf ho5
      go_wp2
      go_roundw
      case rel => exact ⟨i + 1, 0, 0, c + 1, rc5, _, ro5, [], Z ++ [x], by go_num, rfl, rfl, by omega, by omega, hid' rfl, hid' (by omega), hid' (by omega), hid' (by simp), hid' (TS18.nil _ _), HFN, hid' (by rw [List.length_append, HZL.out]; rfl), HVN, HO5, HB5⟩
      case measure => simp [intOf]; omega
     ·have hc2 : 1 < lc' := by have := HLC'.out; omega
      go_wp2_with fail
      refine (takeC18 _ _ _ (by omega) wr).mono ?_
      rintro e w1 ⟨rfl, h1⟩
      have HB1 := hid' (HB.out.trans (h1.mono HB.out.size))
      have HO1 : Hid (w1.drew.ownsRow w0.heap.size 9 1 (.slice ro c rc) c (sC17 Z)) := hid' (own_kp17 (own_kp17 HO.out h1) ((Below.refl _ _).drew))
      have HB1d : Hid (Below w0.heap.size w0 w1.drew) := hid' HB1.out.drew
      have HTS1 := hid' (HTS.out.below HB1d.out)
      have hS : w1.cell? ⟨w.heap.size, 1, none⟩ = some (.bool en) := cOf _ _ b1 (h1.mono HB.out.size)
      clear h1 b1
      go_upto_region 7 with fail
      have HTSx : Hid (TS18 w1.drew (some ⟨g2, o2, none⟩) [x]) := hid' (HTS1.out.take 1)
      go_region_held3 (fun W => W.cell? ⟨w.heap.size, 1, none⟩ = some (.bool en)) (first | assumption)
       (first | (go_at_call 295; refine (catchC18 w0.heap.size ro c rc Z _ _ x en (by omega) _ HB1d.out.size ?_ ?_).mono ?_; exact HO1.out; exact HTSx.out; rintro e w5 ⟨ro5, rc5, rfl, ho5, hb5⟩; have hS5 := cOf _ _ (by assumption) hb5))
      have HB5 : Hid (Below w0.heap.size w0 w5) := hid' (HB1d.out.trans hb5)
      have HO5 := hid' ho5
      clear hb5 hS5 hS cOf ho5
      go_wp2
      go_roundw
      case rel => exact ⟨i + 1, q, _, c + 1, rc5, _, ro5, r, Z ++ [x], by go_num, rfl, rfl, by omega, by omega, HKL2, hid' (by have := HKB.out; omega), hid' (by have := HLC'.out; omega), HKS2, hid' HTS.out.tail, HFN, hid' (by rw [List.length_append, HZL.out]; rfl), HVN, HO5, HB5⟩
      case measure => simp [intOf]; omega
   ·have e1 : pU18 p = .iface 149 (.agg #[]) := by unfold pU18; rw [hk]; rfl
    rw [e1] at y1
    have mm := mtakeR18
    have mm2 := mcatchR18
    have mm3 := ncatchR18
    have hmf : ∀ (fn : Fn) (first cap : Array Value) (w : World), (Instr.makeFunc fn first cap).run Tryz.prog w = .ok (.func fn first cap) w := fun _ _ _ _ => rfl
    have cOf : ∀ W W1 : World, W.cell? ⟨w.heap.size, 1, none⟩ = some (.bool en) → Below w0.heap.size W W1 → W1.cell? ⟨w.heap.size, 1, none⟩ = some (.bool en) := fun W W1 h hb => (hb.cell (p := ⟨w.heap.size, 1, none⟩) HA0.out.lt).trans h
    obtain ⟨hfr, hdr⟩ := Rt.fits_atR HWF.out HP.out hk k'
    have HFN : Hid (Rt.fits (ps.drop (i + 1)) [] = true) := hid' (by rw [hdr]; rfl)
    have HVN : Hid (Rt.vals ps k en = (Z ++ [Pt.join k' ++ (if !k'.isEmpty && en then [47] else [])]) ++ Rt.vals (ps.drop (i + 1)) [] en) := hid' (by rw [HV.out, HVA.out, hk, hdr]; simp [Rt.vals, Rt.caught])
    clear hfr hdr
    have hq1 : (m' : Int) ≤ (lc' : Int) := by have := HLC'.out; omega
    have hqn : (0 : Int) ≤ (m' : Int) := by omega
    by_cases hc1 : lc' = m'
    ·subst hc1
     go_wp2_with fail
     refine (takeR18 _ _ _ wr).mono ?_
     rintro e w1 ⟨rfl, h1⟩
     have HB1 := hid' (HB.out.trans (h1.mono HB.out.size))
     have HO1 : Hid (w1.drew.ownsRow w0.heap.size 9 1 (.slice ro c rc) c (sC17 Z)) := hid' (own_kp17 (own_kp17 HO.out h1) ((Below.refl _ _).drew))
     have HB1d : Hid (Below w0.heap.size w0 w1.drew) := hid' HB1.out.drew
     have HTS1 := hid' (HTS.out.below HB1d.out)
     have hS : w1.cell? ⟨w.heap.size, 1, none⟩ = some (.bool en) := cOf _ _ b1 (h1.mono HB.out.size)
     clear h1 b1
     go_upto_region 7 with fail
     go_region_held3 (fun W => W.cell? ⟨w.heap.size, 1, none⟩ = some (.bool en)) (first | assumption)
      (first | (go_at_call 291; refine (catchR18 w0.heap.size ro c rc Z _ _ _ k' en HKL.out HLC'.out HKS.out (by omega) _ HB1d.out.size ?_ ?_).mono ?_; exact HO1.out; exact HTS1.out; rintro e w5 ⟨ro5, rc5, rfl, ho5, hb5⟩; have hS5 := cOf _ _ (by assumption) hb5))
     have HB5 : Hid (Below w0.heap.size w0 w5) := hid' (HB1d.out.trans hb5)
     have HO5 := hid' ho5
     clear hb5 hS5 hS cOf ho5
     go_wp2
     go_roundw
     case rel => exact ⟨i + 1, 0, _, c + 1, rc5, _, ro5, [], Z ++ [Pt.join k' ++ (if !k'.isEmpty && en then [47] else [])], by go_num, rfl, rfl, by omega, by omega, hid' rfl, hid' (by omega), hid' (by omega), hid' (by simp), hid' (TS18.nil _ _), HFN, hid' (by rw [List.length_append, HZL.out]; rfl), HVN, HO5, HB5⟩
     case measure => simp [intOf]; omega
    ·have hc2 : m' < lc' := by have := HLC'.out; omega
     go_wp2_with fail
     refine (takeR18 _ _ _ wr).mono ?_
     rintro e w1 ⟨rfl, h1⟩
     have HB1 := hid' (HB.out.trans (h1.mono HB.out.size))
     have HO1 : Hid (w1.drew.ownsRow w0.heap.size 9 1 (.slice ro c rc) c (sC17 Z)) := hid' (own_kp17 (own_kp17 HO.out h1) ((Below.refl _ _).drew))
     have HB1d : Hid (Below w0.heap.size w0 w1.drew) := hid' HB1.out.drew
     have HTS1 := hid' (HTS.out.below HB1d.out)
     have hS : w1.cell? ⟨w.heap.size, 1, none⟩ = some (.bool en) := cOf _ _ b1 (h1.mono HB.out.size)
     clear h1 b1
     go_upto_region 7 with fail
     go_region_held3 (fun W => W.cell? ⟨w.heap.size, 1, none⟩ = some (.bool en)) (first | assumption)
      (first | (go_at_call 291; refine (catchR18 w0.heap.size ro c rc Z _ _ _ k' en HKL.out HLC'.out HKS.out (by omega) _ HB1d.out.size ?_ ?_).mono ?_; exact HO1.out; exact HTS1.out; rintro e w5 ⟨ro5, rc5, rfl, ho5, hb5⟩; have hS5 := cOf _ _ (by assumption) hb5))
     have HB5 : Hid (Below w0.heap.size w0 w5) := hid' (HB1d.out.trans hb5)
     have HO5 := hid' ho5
     clear hb5 hS5 hS cOf ho5
     go_wp2
     go_roundw
     case rel => exact ⟨i + 1, 0, _, c + 1, rc5, _, ro5, [], Z ++ [Pt.join k' ++ (if !k'.isEmpty && en then [47] else [])], by go_num, rfl, rfl, by omega, by omega, hid' rfl, hid' (by omega), hid' (by omega), hid' (by simp), hid' (TS18.nil _ _), HFN, hid' (by rw [List.length_append, HZL.out]; rfl), HVN, HO5, HB5⟩
     case measure => simp [intOf]; omega
  ·have hlt2 : ¬ (i : Int) < (n : Int) := by omega
   have HE : Hid (Rt.vals ps k en = Z) := hid' (by rw [HV.out, List.drop_eq_nil_of_le (by rw [HN.out]; omega)]; simp [Rt.vals, Rt.caught])
   go_wp2
   go_ret
   exact ⟨⟨c, ro, rc, rfl, by rw [HE.out]; exact HZL.out, by rw [HE.out]; exact own_base17 HO.out HB0.out.size⟩, HB0.out.trans (HB.out.mono HB0.out.size)⟩


set_option maxRecDepth 20000 in
theorem cparams18 (pa : Option Addr) (n pc mb num : Nat) (no : Option Addr) (c nc : Nat) (lo : Option Addr) (m lc : Nat) (en : Bool) (ps : List Rt.Prt) (ns k : List (List UInt8)) (hn : ps.length = n) (hnb : n ≤ 4194305) (hg : ∀ p ∈ ps, Rt.Gp p) (hw : Rt.Wf ps) (hm : k.length = m) (hmb : m ≤ 4194305) (hlc : m ≤ lc) (hsz : (k.map List.length).sum + k.length ≤ 16777216) (hf : Rt.fits ps k = true) (hns : ns.length = c) (hcv : (Rt.vals ps k en).length = c) (hcb : c ≤ 4194305) (w : World) (h : PU18 w pa ps) (ht : TS18 w lo k) (hr : SR17 w no ns) :
  Calls Tryz.prog 59 #[.agg #[.slice pa n pc, .map (some mb)], .agg #[.int .i64 (num : Int), .slice no c nc], .agg #[.slice lo m lc, .bool en]] w fun e w' => (∃ q ro rc, e = .returned (.slice ro q rc) ∧ (ns.zip (Rt.vals ps k en)).length = q ∧ w'.ownsRow w.heap.size 166 2 (.slice ro q rc) q (qC18 (ns.zip (Rt.vals ps k en)))) ∧ Below w.heap.size w w' := by
 obtain ⟨i0, hi0, hz0, hz1, hz2⟩ := minfo17 infoPm18
 have HI := hid' hi0
 have HZ0 := hid' hz0
 have HZ1 := hid' hz1
 have HZ2 := hid' hz2
 clear hi0 hz0 hz1 hz2
 have HCA := hid' (fun W (hW : Below w.heap.size w W) => ccaught18 pa n pc ps hn hnb hg hw lo m lc k en hm hmb hlc hsz hf W (h.below hW) (ht.below hW))
 have HNS := hid' hns
 have HCV := hid' hcv
 have HR := hid' hr
 have HZP : Hid ((ns.zip (Rt.vals ps k en)).length = c) := hid' (by rw [List.length_zip, hns, hcv, Nat.min_self])
 generalize Rt.vals ps k en = V at *
 clear h ht hr hn hg hw hm hlc hsz hf hns hcv hnb hmb
 go_enter Tryz.func59, Tryz.ntmps59
 go_wp2_with (refine wpl_box 93 _ rfl rfl #[.slice pa n pc, .map (some mb)] (by kernel_rfl) ?_)
 intro sb w1 _ ha1 hl1
 have HA1 := hid' ha1
 have HB1 := hid' hl1
 clear ha1 hl1
 go_wp2_with (refine wpl_box 95 _ rfl rfl #[.int .i64 (num : Int), .slice no c nc] (by kernel_rfl) ?_)
 intro eb w2 _ ha2 hl2
 have HA2 := hid' ha2
 have HB2 : Hid (Below w.heap.size w w2) := hid' (below_two HB1.out hl2)
 have HA12 := hid' (HA1.out.keep hl2)
 clear ha2 hl2
 go_wp2_with (refine wpl_box 137 _ rfl rfl #[.slice lo m lc, .bool en] (by kernel_rfl) ?_)
 intro tb w3 _ ha3 hl3
 have HA3 := hid' ha3
 have HB3 : Hid (Below w.heap.size w w3) := hid' (below_two HB2.out hl3)
 have HA13 := hid' (HA12.out.keep hl3)
 have HA23 := hid' (HA2.out.keep hl3)
 clear ha3 hl3
 have s0 := HA13.out.cell 0 _ rfl
 have t0 := HA3.out.cell 0 _ rfl
 have t1 := HA3.out.cell 1 _ rfl
 have HC3 := hid' (HCA.out w3 HB3.out)
 go_wp2_with fail
 refine HC3.out.mono ?_
 rintro e w4 ⟨⟨vc, vo, vcp, rfl, hvl, hvo⟩, hb4⟩
 obtain rfl : c = vc := HCV.out.symm.trans hvl
 have HB4 : Hid (Below w.heap.size w w4) := hid' (below_two HB3.out hb4)
 have HVO := hid' (SR17.own hvo)
 have HA24 := hid' (HA23.out.keep hb4)
 have HR4 := hid' (HR.out.below HB4.out)
 clear hvl hvo hb4 s0 t0 t1
 go_wp2
 go_loopw [7, 15] (fun s7 s15 wr => ∃ (i rc : Nat) (ro : Option Addr), s15 = .int .i64 (i : Int) ∧ s7 = .slice ro i rc ∧ i ≤ c ∧ Hid (wr.ownsRow w4.heap.size 166 2 (.slice ro i rc) i (qC18 ((ns.zip V).take i))) ∧ Hid (Below w4.heap.size w4 wr)) (fun _ s15 _ => c - (intOf s15).toNat)
 case atStart => exact ⟨0, 0, none, rfl, rfl, Nat.zero_le _, hid' (World.ownsRow_nil _ _ _ _), hid' (Below.refl _ _)⟩
 case round =>
  obtain ⟨i, rc, ro, rfl, rfl, hi, HO, HB⟩ := hrel
  by_cases hlt : i < c
  ·have hlt2 : (i : Int) < (c : Int) := by omega
   obtain ⟨x, hx⟩ : ∃ x, ns[i]? = some x := ⟨_, List.getElem?_eq_getElem (by rw [HNS.out]; exact hlt)⟩
   obtain ⟨v, hv⟩ : ∃ v, V[i]? = some v := ⟨_, List.getElem?_eq_getElem (by rw [HCV.out]; exact hlt)⟩
   obtain ⟨gv, rfl, _, y0⟩ := (HVO.out.below HB.out) i v hv
   obtain ⟨gn, rfl, _, z0⟩ := (HR4.out.below HB.out) i x hx
   have e1 := (HA24.out.keep HB.out).cell 1 _ rfl
   have HTK : Hid (qC18 ((ns.zip V).take (i + 1)) = qC18 ((ns.zip V).take i) ++ [.string ⟨x.toArray⟩, .string ⟨v.toArray⟩]) := hid' (by
    have : (ns.zip V)[i]? = some (x, v) := by rw [List.getElem?_zip_eq_some]; exact ⟨hx, hv⟩
    rw [List.take_add_one, this]
    exact qC18_snoc _ _)
   obtain ⟨xx, hxx⟩ : ∃ z : ByteArray, (⟨x.toArray⟩ : ByteArray) = z := ⟨_, rfl⟩
   obtain ⟨vv, hvv⟩ : ∃ z : ByteArray, (⟨v.toArray⟩ : ByteArray) = z := ⟨_, rfl⟩
   rw [hxx, hvv] at HTK
   rw [hxx] at z0
   rw [hvv] at y0
   have HA : Hid ((wr.alloc (.cells #[.string xx, .string vv] 166)).ownsRow w4.heap.size 166 2 (.slice ro i rc) i (qC18 ((ns.zip V).take i))) := hid' (HO.out.alloc _)
   clear hx hv hxx hvv
   go_wp2_with (at_builtin; refine wpList_append_own_at _ rfl _ _ 103 rfl w4.heap.size 166 i0 (.agg #[.string ⟨#[]⟩, .string ⟨#[]⟩]) 2 32 Tryz.underlying103 HI.out HZ0.out HZ1.out HZ2.out rfl (by decide) (.slice ro i rc) i (qC18 ((ns.zip V).take i)) rfl HA.out ⟨wr.heap.size, 0, none⟩ 1 1 [.string xx, .string vv] rfl rfl (two_new18 _ _ _ _) (by simp [Value.oneCell']) (by unfold maxLen; omega) (by omega) (by simp; have := HB.out.size; omega) ?_; intro v3 w5 hown3 hgrow3 _ _; refine Hid.out ?_)
   refine hid' ?_
   rw [← HTK.out] at hown3
   obtain ⟨v3o, v3c, hv3⟩ := own_shape17 hown3
   subst hv3
   have HO3 := hid' hown3
   have HB5 : Hid (Below w4.heap.size w4 w5) := hid' ((HB.out.alloc HB.out.size _).grown hgrow3 (by simp; have := HB.out.size; omega) (fun k hk => (HA.out.lt k hk).1))
   clear hown3 hgrow3
   go_wp2
   go_roundw
   case rel => exact ⟨i + 1, v3c, v3o, by go_num, rfl, by omega, HO3, HB5⟩
   case measure => simp [intOf]; omega
  ·have hlt2 : ¬ (i : Int) < (c : Int) := by omega
   obtain rfl : i = c := by omega
   have HT : Hid ((ns.zip V).take i = ns.zip V) := hid' (List.take_of_length_le (by rw [HZP.out]; omega))
   rw [HT.out] at HO
   go_wp2
   go_ret
   exact ⟨⟨i, ro, rc, rfl, by first | exact HZP.out | (rw [← List.length_zip]; exact HZP.out), own_base17 HO.out HB4.out.size⟩, below_two HB4.out HB.out⟩

end Go.Proofs.YtcfbobegbmcbeaaGreatDoor
