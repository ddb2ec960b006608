/-
  The code's fits: by its contract.
-/
import Derived.Test.YtfdjimjiikeciaaGreatDoorRuAD18
namespace Go.Proofs.YtfdjimjiikeciaaGreatDoor
open Go.RowKit

namespace Rt
theorem fits_at0 {ps : List Prt} {i : Nat} {p : Prt} (hp : ps[i]? = some p) (h2 : (p.k == 2) = false) : fits (ps.drop i) [] = false := by
  obtain ⟨h, he⟩ := List.getElem?_eq_some_iff.1 hp
  rw [List.drop_eq_getElem_cons h, he, fits_cons, h2]; rfl
theorem fitsU_at {ps : List Prt} {i : Nat} {p : Prt} (hp : ps[i]? = some p) (h2 : (p.k == 2) = false) (x : T8) (r : List T8) : fits (ps.drop i) (x :: r) = (fit1 p x && fits (ps.drop (i + 1)) r) := by
  obtain ⟨h, he⟩ := List.getElem?_eq_some_iff.1 hp
  rw [List.drop_eq_getElem_cons h, he, fits_cons, h2]; rfl
theorem fits_atR {ps : List Prt} {i : Nat} {p : Prt} (hw : Wf ps) (hp : ps[i]? = some p) (h2 : p.k = 2) (k : List T8) : fits (ps.drop i) k = true ∧ ps.drop (i + 1) = [] := by
  have hl := hw.last i p hp h2
  obtain ⟨h, he⟩ := List.getElem?_eq_some_iff.1 hp
  have hd : ps.drop (i + 1) = [] := List.drop_eq_nil_of_le (by omega)
  refine ⟨?_, hd⟩
  rw [List.drop_eq_getElem_cons h, he, fits_cons, h2, hd]; rfl
end Rt
theorem TS18.tail {w : World} {g o : Nat} {x : List UInt8} {r : List (List UInt8)} (h : TS18 w (some ⟨g, o, none⟩) (x :: r)) : TS18 w (some ⟨g, o + 1, none⟩) r := fun i p hp => by
  obtain ⟨g', o', h1, h2, h3⟩ := h (i + 1) p (by simpa using hp)
  injection h1 with h1
  injection h1 with h1 h1'
  subst h1 h1'
  exact ⟨g, o + 1, rfl, h2, by rw [show o + 1 + i = o + (i + 1) by omega]; exact h3⟩
theorem TS18.some {w : World} {ao : Option Addr} {x : List UInt8} {r : List (List UInt8)} (h : TS18 w ao (x :: r)) : ∃ g o, ao = some ⟨g, o, none⟩ := by
  obtain ⟨g, o, h1, _⟩ := h 0 x rfl
  exact ⟨g, o, h1⟩

set_option maxHeartbeats 4000000 in
set_option maxRecDepth 20000 in
theorem cfits18 (ao : Option Addr) (n cap : Nat) (ps : List Rt.Prt) (hn : ps.length = n) (hnb : n ≤ 4194305) (hg : ∀ p ∈ ps, Rt.Gp p) (hw : Rt.Wf ps) (lo : Option Addr) (m lc : Nat) (k : List (List UInt8)) (hm : k.length = m) (hmb : m ≤ 4194305) (hlc : m ≤ lc) (w : World) (h : PU18 w ao ps) (ht : TS18 w lo k) :
    Calls Tryz.prog 47 #[.slice ao n cap, .slice lo m lc] w fun e w' => e = .returned (.bool (Rt.fits ps k)) ∧ Below w.heap.size w w' := by
  have H := hid' h
  have HN := hid' hn
  have HG := hid' hg
  have HWF := hid' hw
  have HT := hid' ht
  have HM := hid' hm
  have HLC := hid' hlc
  have HMB := hid' hmb
  clear h hn hg hw ht hm hlc hmb
  go_enter Tryz.func47, Tryz.ntmps47
  go_wp2
  go_loopw [1, 11] (fun s1 s11 wr => ∃ (i m' lc' : Nat) (lo' : Option Addr) (k' : List (List UInt8)), s11 = .int .i64 (i : Int) ∧ s1 = .slice lo' m' lc' ∧ i ≤ n ∧ Hid (k'.length = m') ∧ Hid (m' ≤ 4194305) ∧ Hid (m' ≤ lc') ∧ Hid (TS18 wr lo' k') ∧ Hid (Rt.fits ps k = Rt.fits (ps.drop i) k') ∧ Hid (Below w.heap.size w wr)) (fun _ s11 _ => n - (intOf s11).toNat)
  case atStart => exact ⟨0, m, lc, lo, k, rfl, rfl, Nat.zero_le _, HM, HMB, HLC, HT, hid' (by rw [List.drop_zero]), hid' (Below.refl _ _)⟩
  case round =>
    obtain ⟨i, m', lc', lo', k', rfl, rfl, hi, HKL, HKB, HLC', HTS, HF, HB⟩ := hrel
    by_cases hlt : i < n
    · have hlt2 : (i : Int) < (n : Int) := by omega
      obtain ⟨p, hp⟩ : ∃ p, ps[i]? = some p := ⟨_, List.getElem?_eq_getElem (by rw [HN.out]; exact hlt)⟩
      obtain ⟨g, rfl, hgl, y0⟩ := H.out i p hp
      have y1 := (HB.out.cell (p := ⟨g, i, none⟩) hgl).trans y0
      have HGP := hid' (HG.out p (List.mem_of_getElem? hp))
      have HP := hid' hp
      clear hp y0
      rcases Rt.k3 HGP.out with hk | hk | hk
      · have e1 : pU18 p = .iface 121 (.string ⟨p.t.toArray⟩) := by unfold pU18; rw [hk]; rfl
        rw [e1] at y1
        have mm := mtakeP18 ⟨p.t.toArray⟩
        have h2 : (p.k == 2) = false := by rw [hk]; rfl
        cases k' with
        | nil =>
          obtain rfl : 0 = m' := HKL.out
          have HFF : Hid (Rt.fits ps k = false) := hid' (by rw [HF.out]; exact Rt.fits_at0 HP.out h2)
          go_wp2_with fail
          refine (takeP0_18 ⟨p.t.toArray⟩ _ _ wr).mono ?_
          rintro e w1 ⟨rfl, h1⟩
          have HB1 := hid' (HB.out.trans (h1.mono HB.out.size))
          clear h1
          go_wp2
          go_ret
          exact ⟨by rw [HFF.out]; rfl, HB1.out⟩
        | cons x r =>
          obtain ⟨g2, o2, rfl⟩ := HTS.out.some
          have HFA := hid' (Rt.fitsU_at HP.out h2 x r)
          obtain ⟨q, rfl⟩ : ∃ q, m' = q + 1 := ⟨r.length, HKL.out.symm⟩
          have HKL2 : Hid (r.length = q) := hid' (by have := HKL.out; simp at this; exact this)
          have hq0 : (1 : Int) ≤ ((q + 1 : Nat) : Int) := by omega
          have hq1 : ((q + 1 : Nat) : Int) ≤ (lc' : Int) := by have := HLC'.out; omega
          have hq2 : (1 : Int) ≤ (lc' : Int) := by omega
          have hq3 : (((q + 1 : Nat) : Int) - 1) = (q : Int) := by omega
          cases hx : (x == p.t)
          · have HFF : Hid (Rt.fits ps k = false) := hid' (by rw [HF.out, HFA.out]; unfold Rt.fit1; rw [hk, show (p.t == x) = false from beq_false_of_ne (fun e => by rw [e] at hx; simp at hx)]; rfl)
            go_wp2_with fail
            refine (takePn18 ⟨p.t.toArray⟩ p.t x (by simp) hx _ _ _ r HKL.out wr HTS.out).mono ?_
            rintro e w1 ⟨rfl, h1⟩
            have HB1 := hid' (HB.out.trans (h1.mono HB.out.size))
            clear h1
            go_wp2
            go_ret
            exact ⟨by rw [HFF.out]; rfl, HB1.out⟩
          · have HX : Hid (p.t = x) := hid' (eq_of_beq hx).symm
            have HF1 : Hid (Rt.fit1 p x = true) := hid' (by unfold Rt.fit1; rw [HX.out]; simp)
            clear hx
            have HNX : Hid (Rt.fits ps k = Rt.fits (ps.drop (i + 1)) r) := hid' (by rw [HF.out, HFA.out, HF1.out]; rfl)
            by_cases hc1 : lc' = 1
            · subst hc1
              obtain rfl : q = 0 := by have := HLC'.out; omega
              obtain rfl : r = [] := List.eq_nil_of_length_eq_zero HKL2.out
              go_wp2_with fail
              refine (takeP18 ⟨p.t.toArray⟩ x (by rw [HX.out]) _ _ _ [] HKL.out wr HTS.out).mono ?_
              rintro e w1 ⟨rfl, h1⟩
              have HB1 := hid' (HB.out.trans (h1.mono HB.out.size))
              have HT1 : Hid (TS18 w1 (some ⟨g2, o2, none⟩) []) := hid' (TS18.nil _ _)
              clear h1
              go_wp2
              go_roundw
              case rel => exact ⟨i + 1, 0, 0, _, [], by go_num, rfl, by omega, hid' rfl, hid' (by omega), hid' (by omega), HT1, HNX, HB1⟩
              case measure => simp [intOf]; omega
            · have hc2 : 1 < lc' := by have := HLC'.out; omega
              go_wp2_with fail
              refine (takeP18 ⟨p.t.toArray⟩ x (by rw [HX.out]) _ _ _ r HKL.out wr HTS.out).mono ?_
              rintro e w1 ⟨rfl, h1⟩
              have HB1 := hid' (HB.out.trans (h1.mono HB.out.size))
              have HT1 : Hid (TS18 w1 (some ⟨g2, o2 + 1, none⟩) r) := hid' ((HTS.out.tail).below h1)
              clear h1
              go_wp2
              go_roundw
              case rel => exact ⟨i + 1, q, _, _, r, by go_num, rfl, by omega, HKL2, hid' (by have := HKB.out; omega), hid' (by have := HLC'.out; omega), HT1, HNX, HB1⟩
              case measure => simp [intOf]; omega
      · have e1 : pU18 p = .iface 124 (.agg #[]) := by unfold pU18; rw [hk]; rfl
        rw [e1] at y1
        have mm := mtakeC18
        have h2 : (p.k == 2) = false := by rw [hk]; rfl
        cases k' with
        | nil =>
          obtain rfl : 0 = m' := HKL.out
          have HFF : Hid (Rt.fits ps k = false) := hid' (by rw [HF.out]; exact Rt.fits_at0 HP.out h2)
          go_wp2_with fail
          refine (takeC0_18 _ _ wr).mono ?_
          rintro e w1 ⟨rfl, h1⟩
          have HB1 := hid' (HB.out.trans (h1.mono HB.out.size))
          clear h1
          go_wp2
          go_ret
          exact ⟨by rw [HFF.out]; rfl, HB1.out⟩
        | cons x r =>
          obtain ⟨g2, o2, rfl⟩ := HTS.out.some
          have HFA := hid' (Rt.fitsU_at HP.out h2 x r)
          obtain ⟨q, rfl⟩ : ∃ q, m' = q + 1 := ⟨r.length, HKL.out.symm⟩
          have HKL2 : Hid (r.length = q) := hid' (by have := HKL.out; simp at this; exact this)
          have hq0 : (1 : Int) ≤ ((q + 1 : Nat) : Int) := by omega
          have hq1 : ((q + 1 : Nat) : Int) ≤ (lc' : Int) := by have := HLC'.out; omega
          have hq2 : (1 : Int) ≤ (lc' : Int) := by omega
          have hq3 : (((q + 1 : Nat) : Int) - 1) = (q : Int) := by omega
          have HF1 : Hid (Rt.fit1 p x = true) := hid' (by unfold Rt.fit1; rw [hk]; rfl)
          have HNX : Hid (Rt.fits ps k = Rt.fits (ps.drop (i + 1)) r) := hid' (by rw [HF.out, HFA.out, HF1.out]; rfl)
          by_cases hc1 : lc' = 1
          · subst hc1
            obtain rfl : q = 0 := by have := HLC'.out; omega
            obtain rfl : r = [] := List.eq_nil_of_length_eq_zero HKL2.out
            go_wp2_with fail
            refine (takeC18 _ _ _ (by omega) wr).mono ?_
            rintro e w1 ⟨rfl, h1⟩
            have HB1 := hid' (HB.out.trans (h1.mono HB.out.size))
            have HT1 : Hid (TS18 w1 (some ⟨g2, o2, none⟩) []) := hid' (TS18.nil _ _)
            clear h1
            go_wp2
            go_roundw
            case rel => exact ⟨i + 1, 0, 0, _, [], by go_num, rfl, by omega, hid' rfl, hid' (by omega), hid' (by omega), HT1, HNX, HB1⟩
            case measure => simp [intOf]; omega
          · have hc2 : 1 < lc' := by have := HLC'.out; omega
            go_wp2_with fail
            refine (takeC18 _ _ _ (by omega) wr).mono ?_
            rintro e w1 ⟨rfl, h1⟩
            have HB1 := hid' (HB.out.trans (h1.mono HB.out.size))
            have HT1 : Hid (TS18 w1 (some ⟨g2, o2 + 1, none⟩) r) := hid' ((HTS.out.tail).below h1)
            clear h1
            go_wp2
            go_roundw
            case rel => exact ⟨i + 1, q, _, _, r, by go_num, rfl, by omega, HKL2, hid' (by have := HKB.out; omega), hid' (by have := HLC'.out; omega), HT1, HNX, HB1⟩
            case measure => simp [intOf]; omega
      · have e1 : pU18 p = .iface 123 (.agg #[]) := by unfold pU18; rw [hk]; rfl
        rw [e1] at y1
        have mm := mtakeR18
        obtain ⟨hfr, hdr⟩ := Rt.fits_atR HWF.out HP.out hk k'
        have HNX : Hid (Rt.fits ps k = Rt.fits (ps.drop (i + 1)) []) := hid' (by rw [HF.out, hfr, hdr]; rfl)
        clear hfr hdr
        have hq1 : (m' : Int) ≤ (lc' : Int) := by have := HLC'.out; omega
        by_cases hc1 : lc' = m'
        · subst hc1
          go_wp2_with fail
          refine (takeR18 _ _ _ wr).mono ?_
          rintro e w1 ⟨rfl, h1⟩
          have HB1 := hid' (HB.out.trans (h1.mono HB.out.size))
          have HT1 : Hid (TS18 w1 lo' []) := hid' (TS18.nil _ _)
          clear h1
          go_wp2
          go_roundw
          case rel => exact ⟨i + 1, 0, _, _, [], by go_num, rfl, by omega, hid' rfl, hid' (by omega), hid' (by omega), hid' (TS18.nil _ _), HNX, HB1⟩
          case measure => simp [intOf]; omega
        · have hc2 : m' < lc' := by have := HLC'.out; omega
          go_wp2_with fail
          refine (takeR18 _ _ _ wr).mono ?_
          rintro e w1 ⟨rfl, h1⟩
          have HB1 := hid' (HB.out.trans (h1.mono HB.out.size))
          have HT1 : Hid (TS18 w1 lo' []) := hid' (TS18.nil _ _)
          clear h1
          go_wp2
          go_roundw
          case rel => exact ⟨i + 1, 0, _, _, [], by go_num, rfl, by omega, hid' rfl, hid' (by omega), hid' (by omega), hid' (TS18.nil _ _), HNX, HB1⟩
          case measure => simp [intOf]; omega
    · have hlt2 : ¬ (i : Int) < (n : Int) := by omega
      have HD : Hid (Rt.fits ps k = k'.isEmpty) := hid' (by rw [HF.out, List.drop_eq_nil_of_le (by rw [HN.out]; omega)]; cases k' <;> rfl)
      cases k' with
      | nil =>
        obtain rfl : 0 = m' := HKL.out
        go_wp2
        go_ret
        exact ⟨by rw [HD.out]; rfl, HB.out⟩
      | cons x r =>
        have hm0 : ((m' : Int) == 0) = false := beq_false_of_ne (by have := HKL.out; simp at this; omega)
        go_wp2
        go_ret
        exact ⟨by rw [HD.out]; rfl, HB.out⟩

end Go.Proofs.YtfdjimjiikeciaaGreatDoor
