/-
  What the row stands on.
-/
import Derived.Test.YthhpejgpfaikaabGreatDoorPqAW
import Derived.Test.YthhpejgpfaikaabGreatDoorPqBA
namespace Go.Proofs.YthhpejgpfaikaabGreatDoor
set_option maxHeartbeats 64000000
open Go.RowKit

namespace Pt
def fld (ps : List T8) (i : Nat) : Bool := ((ps.take i).getLast?.map isLast).getD false
theorem fld_step {ps : List T8} {i : Nat} {p : T8} (h : ps[i]? = some p) : fld ps (i + 1) = isLast p := by
 unfold fld;rw [List.take_add_one, h];simp
theorem fld_end {ps : List T8} (h : ps ≠ []) : fld ps ps.length = isLast (lastOf ps) := by
 unfold fld lastOf;rw [List.take_length, List.getLast?_eq_some_getLast h];rfl
def strt (t : T8) : T8 × Int := match keep [] (cutS [] t) with
 | none => ([], 171)
 | some k => (out k (lastOf (cutS [] t)), 0)
end Pt
def stV17 (q : List UInt8 × Int) : Value := .tuple #[.string ⟨q.1.toArray⟩, .int .i64 q.2]

set_option maxRecDepth 20000 in
theorem cstr17 (s : ByteArray) (t : List UInt8) (hl : s.data.toList = t) (w : World) (hs : s.size ≤ 4194304) :
  Calls Tryz.prog 53 #[.string s] w fun e w' => e = .returned (stV17 (Pt.strt t)) ∧ Below w.heap.size w w' := by
 obtain ⟨i0, hi0, hz0, hz1, hz2⟩ := minfo17 infoS17;have HI := hid' hi0;have HZ0 := hid' hz0;have HZ1 := hid' hz1;have HZ2 := hid' hz2;clear hi0 hz0 hz1 hz2;have HCC : Hid (Pt.strt t = match Pt.keep [] (Pt.cutS [] t) with | none => ([], 171) | some k => (Pt.out k (Pt.lastOf (Pt.cutS [] t)), 0)) := hid' rfl;have hts : t.length ≤ 4194304 := by rw [← hl, ← Lib.size_eq]; exact hs
 have HCT := hid' (split17 s t hl w hs);have HSUM := hid' (Pt.cutS_sum t);have hpm : (Pt.cutS [] t).length ≤ 4194305 := by have := Pt.cutS_len t; omega
 have HNE := hid' (Pt.cutS_ne t []);obtain ⟨ps, hps⟩ : ∃ ps, Pt.cutS [] t = ps := ⟨_, rfl⟩;rw [hps] at HCT HCC HSUM hpm HNE;clear hps hl;go_enter Tryz.func53, Tryz.ntmps53;go_wp2_with fail;refine HCT.out.mono ?_;rintro e w2 ⟨⟨m, sg, rfl, hm, hsr⟩, hb2⟩;have HB2 := hid' hb2;have HM := hid' hm;have HSR := hid' hsr;rw [hm] at hpm;clear hm hsr hb2 HCT;go_wp2;go_loopw [4, 5, 12] (fun s4 s5 s12 wr => ∃ (i c : Nat) (ro : Option Addr) (rc : Nat) (f : Bool) (kp : List Pt.T8), s12 = .int .i64 (i : Int) ∧ s5 = .bool f ∧ s4 = .slice ro c rc ∧ i ≤ m ∧ c ≤ i ∧ Hid (kp.length = c) ∧ Hid (Pt.fld ps i = f) ∧ Hid (Pt.keep [] ps = Pt.keep kp (ps.drop i)) ∧ Hid (wr.ownsRow w2.heap.size 9 1 (.slice ro c rc) c (sC17 kp)) ∧ Hid (Below w2.heap.size w2 wr)) (fun _ _ s12 _ => m - (intOf s12).toNat)
 case atStart => exact ⟨0, 0, none, 0, false, [], rfl, rfl, rfl, Nat.zero_le _, Nat.le_refl _, hid' rfl, hid' rfl, hid' (by rw [List.drop_zero]), hid' (World.ownsRow_nil _ _ _ _), hid' (Below.refl _ _)⟩
 case round =>
  obtain ⟨i, c, ro, rc, f, kp, rfl, rfl, rfl, hi, hci, HKL, HF, HK, HO, HB⟩ := hrel;by_cases hlt : i < m
  ·have hlt2 : (i : Int) < (m : Int) := by omega
   obtain ⟨p, hp⟩ : ∃ p, ps[i]? = some p := ⟨_, List.getElem?_eq_getElem (by rw [HM.out]; exact hlt)⟩;obtain ⟨g, hgg, _, y0⟩ := (HSR.out.below HB.out) i p hp;obtain rfl : sg = g := by injection hgg with h; injection h
   have HKS := hid' (Pt.keep_step (k := kp) hp);have HF1 := hid' (Pt.fld_step hp);obtain ⟨y, hy⟩ : ∃ y : ByteArray, (⟨p.toArray⟩ : ByteArray) = y := ⟨_, rfl⟩;obtain ⟨hy1, hy2, hy3⟩ := dots_at17 y p (by rw [← hy]);have hy4 : (y.toList == []) = p.isEmpty := by rw [← hy3]; cases y.toList <;> rfl
   have HYS : Hid (sC17 [p] = [.string y]) := hid' (by unfold sC17; rw [← hy]; rfl);rw [hy] at y0;have hST : Pt.step kp p = (if p == Pt.dots then (if kp.isEmpty then none else some kp.dropLast) else if p.isEmpty || p == Pt.dot then some kp else some (kp ++ [p])) := rfl;have hIL : Pt.isLast p = (p.isEmpty || (p == Pt.dot || p == Pt.dots)) := rfl;have HD0 : Hid (p.isEmpty = true → (p == Pt.dots) = false) := hid' (fun h => by rw [List.isEmpty_iff.1 h]; rfl);have HD1 : Hid ((p == Pt.dot) = true → (p == Pt.dots) = false) := hid' (fun h => by rw [eq_of_beq h]; rfl);clear hp hy hgg;cases q2 : p.isEmpty
   ·cases q3 : (p == Pt.dot)
    ·cases q1 : (p == Pt.dots)
     ·rw [q1, q2, q3] at hST hIL;rw [q1] at hy1;rw [q2] at hy3 hy4;rw [q3] at hy2;have HST : Hid (Pt.step kp p = some (kp ++ [p])) := hid' hST;rw [HST.out] at HKS;have HF2 : Hid (Pt.fld ps (i + 1) = false) := hid' (HF1.out.trans hIL);have HA : Hid ((wr.alloc (.cells #[.string y] 9)).ownsRow w2.heap.size 9 1 (.slice ro c rc) c (sC17 kp)) := hid' (HO.out.alloc _);clear hST hIL q1 q2 q3;go_wp2_with (at_builtin; refine wpList_append_own_at _ rfl _ _ 76 rfl w2.heap.size 9 i0 (.string ⟨#[]⟩) 1 16 Tryz.underlying76 HI.out HZ0.out HZ1.out HZ2.out rfl (by decide) (.slice ro c rc) c (sC17 kp) rfl HA.out ⟨wr.heap.size, 0, none⟩ 1 1 [.string y] rfl rfl (one_cell17 _ _ _) (by simp [Value.oneCell']) (by unfold maxLen; omega) (by omega) (by simp; have := HB.out.size; omega) ?_; intro v3 w3 hown3 hgrow3 _ _; refine Hid.out ?_);refine hid' ?_;have e : sC17 kp ++ [Value.string y] = sC17 (kp ++ [p]) := by rw [sC17_app, HYS.out]
      rw [e] at hown3;obtain ⟨v3o, v3c, hv3⟩ := own_shape17 hown3;subst hv3;have HO3 := hid' hown3;have HB3 : Hid (Below w2.heap.size w2 w3) := hid' ((HB.out.alloc HB.out.size _).grown hgrow3 (by simp; have := HB.out.size; omega) (fun k hk => (HA.out.lt k hk).1));clear hown3 hgrow3 e;go_wp2;go_roundw
      case rel => exact ⟨i + 1, c + 1, v3o, v3c, false, kp ++ [p], by go_num, rfl, rfl, by omega, by omega, hid' (by rw [List.length_append, HKL.out]; rfl), HF2, hid' (by rw [HK.out, HKS.out]), HO3, HB3⟩
      case measure => simp [intOf]; omega
     ·rw [q1, q2, q3] at hIL;rw [q1] at hy1 hST;rw [q2] at hy3 hy4;rw [q3] at hy2;have HF2 : Hid (Pt.fld ps (i + 1) = true) := hid' (HF1.out.trans hIL);by_cases hc0 : c = 0
      ·have hcB : ((c : Int) == 0) = true := by rw [beq_iff_eq]; omega
       have hke : kp = [] := List.eq_nil_of_length_eq_zero (HKL.out.trans hc0);have HE : Hid (Pt.strt t = ([], 171)) := hid' (by
        have hs0 : Pt.step kp p = none := by rw [hST, hke]; rfl
        rw [hs0] at HKS;have : Pt.keep [] ps = none := by rw [HK.out, HKS.out]
        rw [HCC.out, this])
       clear hST hIL q1 q2 q3 hke hc0;go_wp2;go_ret2;exact ⟨by rw [HE.out]; rfl, below_two HB2.out HB.out⟩
      ·obtain ⟨c', rfl⟩ : ∃ c', c = c' + 1 := ⟨c - 1, by omega⟩;have hcB : (((c' + 1 : Nat) : Int) == 0) = false := by rw [beq_eq_false_iff_ne]; omega
       have hke : kp.isEmpty = false := by
        cases hq : kp with
        | nil => have := HKL.out; rw [hq] at this; simp at this
        | cons a b => rfl
       have HST : Hid (Pt.step kp p = some kp.dropLast) := hid' (by rw [hST, hke]; rfl);rw [HST.out] at HKS;obtain ⟨hcut, hcc, hcm, g2, hg2⟩ := own_cut17 HO.out;subst hg2;have HO2 := hid' hcut;have t1 : (c' : Int) ≤ (rc : Int) := by omega
       have t2 : c' ≤ rc := by omega
       clear hST hIL q1 q2 q3 hke hc0 hcut hcm;go_wp2;go_roundw
       case rel => exact ⟨i + 1, c', some ⟨g2, 0, none⟩, rc, true, kp.dropLast, by go_num, rfl, by first | rfl | simp, by omega, by omega, hid' (by rw [List.length_dropLast, HKL.out]; omega), HF2, hid' (by rw [HK.out, HKS.out]), HO2, HB⟩
       case measure => simp [intOf]; omega
    ·have q1 := HD1.out q3;rw [q1, q2, q3] at hST hIL;rw [q1] at hy1;rw [q2] at hy3 hy4;rw [q3] at hy2;have HST : Hid (Pt.step kp p = some kp) := hid' hST;rw [HST.out] at HKS;have HF2 : Hid (Pt.fld ps (i + 1) = true) := hid' (HF1.out.trans hIL);clear hST hIL q1 q2 q3;go_wp2;go_roundw
     case rel => exact ⟨i + 1, c, ro, rc, true, kp, by go_num, rfl, rfl, by omega, by omega, HKL, HF2, hid' (by rw [HK.out, HKS.out]), HO, HB⟩
     case measure => simp [intOf]; omega
   ·have q1 := HD0.out q2;rw [q1, q2] at hST hIL;rw [q1] at hy1;rw [q2] at hy3 hy4;have HST : Hid (Pt.step kp p = some kp) := hid' hST;rw [HST.out] at HKS;have HF2 : Hid (Pt.fld ps (i + 1) = true) := hid' (HF1.out.trans hIL);clear hST hIL q1 q2 hy2;go_wp2;go_roundw
    case rel => exact ⟨i + 1, c, ro, rc, true, kp, by go_num, rfl, rfl, by omega, by omega, HKL, HF2, hid' (by rw [HK.out, HKS.out]), HO, HB⟩
    case measure => simp [intOf]; omega
  ·have hlt2 : ¬ (i : Int) < (m : Int) := by omega
   have HKF : Hid (Pt.keep [] ps = some kp) := hid' (by rw [HK.out, List.drop_eq_nil_of_le (by rw [HM.out]; omega), Pt.keep]);have HSO := hid' (SR17.own HO.out);have hsm : (kp.map List.length).sum + kp.length ≤ 16777216 := by
    have h1 := Pt.keep_sum ps [] kp HKF.out;have h2 := HSUM.out;rw [HM.out] at h2;rw [HM.out] at h1;simp at h1;omega
   have HCP : Hid (c ≤ rc) := hid' (by
    rcases HO.out.2 with ⟨h1, h2⟩ | ⟨g, cap, cur, h1, _, _, h3, _⟩
    ·injection h1 with _ e2 e3;omega
    ·injection h1 with _ e2 e3;subst e3;exact h3)
   have HJN := hid' (fun W (h : SR17 W ro kp) => cjoin17 ro c rc kp HKL.out HCP.out W h hsm);have hJL : (Pt.join kp).length ≤ 16777216 := Nat.le_trans (Pt.join_len kp) hsm;have HFE : Hid (f = Pt.isLast (Pt.lastOf ps)) := hid' (by
    rw [← HF.out, ← Pt.fld_end HNE.out, HM.out];congr 1;omega)
   have HE0 : Hid (Pt.strt t = (47 :: (Pt.join kp ++ (if !kp.isEmpty && f then [47] else [])), 0)) := hid' (by rw [HCC.out, HKF.out, HFE.out]; rfl);generalize Pt.join kp = J at HJN hJL HE0;have k1 : ¬ 9223372036854775807 < 1 + J.length := by omega
   have k2 : ¬ 9223372036854775807 < 1 + J.length + 1 := by omega
   have CAT1 : Hid ((⟨#[47]⟩ : ByteArray) ++ ⟨J.toArray⟩ = ⟨(47 :: J).toArray⟩) := hid' (by apply ByteArray.ext; simp);have CAT2 : Hid ((⟨(47 :: J).toArray⟩ : ByteArray) ++ ⟨#[47]⟩ = ⟨(47 :: (J ++ [47])).toArray⟩) := hid' (by apply ByteArray.ext; simp);clear hlt HFE HF;cases f
   ·have HE : Hid (Pt.strt t = (47 :: J, 0)) := hid' (by rw [HE0.out]; simp);go_wp2_with fail;refine (HJN.out _ HSO.out).mono ?_;rintro e w3 ⟨rfl, hb3⟩;have HB3 := hid' (below_two (below_two HB2.out HB.out) hb3);clear hb3;go_wp2;go_ret2;exact ⟨by rw [HE.out, CAT1.out]; rfl, HB3.out⟩
   ·by_cases hc0 : c = 0
    ·have hcI : ¬ (0 : Int) < (c : Int) := by omega
     have hke : kp = [] := List.eq_nil_of_length_eq_zero (HKL.out.trans hc0);have HE : Hid (Pt.strt t = (47 :: J, 0)) := hid' (by rw [HE0.out, hke]; simp);clear hc0 hke;go_wp2_with fail;refine (HJN.out _ HSO.out).mono ?_;rintro e w3 ⟨rfl, hb3⟩;have HB3 := hid' (below_two (below_two HB2.out HB.out) hb3);clear hb3;go_wp2;go_ret2;exact ⟨by rw [HE.out, CAT1.out]; rfl, HB3.out⟩
    ·have hcI : (0 : Int) < (c : Int) := by omega
     have hke : kp.isEmpty = false := by
      cases hq : kp with
      | nil => have := HKL.out; rw [hq] at this; exact absurd this.symm hc0
      | cons a b => rfl
     have HE : Hid (Pt.strt t = (47 :: (J ++ [47]), 0)) := hid' (by rw [HE0.out, hke]; simp);clear hc0 hke;go_wp2_with fail;refine (HJN.out _ HSO.out).mono ?_;rintro e w3 ⟨rfl, hb3⟩;have HB3 := hid' (below_two (below_two HB2.out HB.out) hb3);clear hb3;go_wp2;go_ret2;exact ⟨by rw [HE.out, CAT1.out, CAT2.out]; rfl, HB3.out⟩

namespace Pt
theorem strt_err (t : T8) (h : ((strt t).2 == 0) = false) : (strt t).1 = [] := by
 unfold strt at h ⊢;cases hk : keep [] (cutS [] t) with
 | none => rfl
 | some k => rw [hk] at h; cases h
theorem core_strt (p : T8) (h : (p.head? == some 47) = true) : core p = match undo p with | none => ([], 170) | some t => strt t := by
 unfold core strt;rw [h];rfl
theorem hasP (p : T8) : Lib.hasPrefix p [47] = (p.head? == some 47) := by
 unfold Lib.hasPrefix;cases p with
 | nil => rfl
 | cons a r =>
  simp only [List.isPrefixOf, Bool.and_true, List.head?_cons];rw [Bool.eq_iff_iff, beq_iff_eq];simp only [beq_iff_eq, Option.some.injEq];exact ⟨fun e => e.symm, fun e => e.symm⟩
end Pt

set_option maxRecDepth 20000 in
theorem xclean17 (s : ByteArray) (l : List UInt8) (hl : s.data.toList = l) (w : World) (hs : s.size ≤ 4194304) :
  Calls Tryz.prog 36 #[.string s] w fun e w' => e = .returned (clV17 (Pt.clean l)) ∧ Below w.heap.size w w' := by
 have HCU := hid' (ccut17 s l hl w hs);have HCL : Hid (Pt.clean l = ((Pt.core (Pt.pre l)).1, (if (Pt.core (Pt.pre l)).2 == 0 then Pt.qry l else []), (Pt.core (Pt.pre l)).2)) := hid' rfl;have hpl : (Pt.pre l).length ≤ 4194304 := by have := Pt.pre_le l; rw [← hl, ← Lib.size_eq] at this; rw [← hl]; omega
 generalize Pt.pre l = p at *;generalize Pt.qry l = q at *;have HPX := hid' (fun W => Tryz.strings_HasPrefix ⟨p.toArray⟩ ⟨#[47]⟩ W);have ehp : Lib.hasPrefix (⟨p.toArray⟩ : ByteArray).data.toList (⟨#[47]⟩ : ByteArray).data.toList = (p.head? == some 47) := Pt.hasP p;rw [ehp] at HPX;clear hl ehp;cases hh : (p.head? == some 47)
 ·rw [hh] at HPX;have HE : Hid (Pt.clean l = ([], [], 1)) := hid' (by
   have hc : Pt.core p = ([], 1) := by unfold Pt.core; rw [hh]; rfl
   rw [HCL.out, hc]; rfl)
  go_enter Tryz.func36, Tryz.ntmps36;go_wp2_with fail;refine HCU.out.mono ?_;rintro e w1 ⟨⟨y, rfl⟩, hb1⟩;have HB1 := hid' hb1;clear hb1;go_wp2_with fail;refine (HPX.out _).mono ?_;rintro e w2 ⟨rfl, hw⟩;subst w2;go_wp2;go_ret3;exact ⟨by rw [HE.out]; rfl, HB1.out⟩
 ·rw [hh] at HPX;have HCO := hid' (Pt.core_strt p hh);have HUN := hid' (fun W => cundo17 ⟨p.toArray⟩ p rfl W (by rw [size_l']; omega));have HUL : Hid (∀ t, Pt.undo p = some t → t.length ≤ 4194304) := hid' (fun t ht => by have := Pt.undo_len _ p t (Nat.le_refl _) ht; omega);go_enter Tryz.func36, Tryz.ntmps36;go_wp2_with fail;refine HCU.out.mono ?_;rintro e w1 ⟨⟨y, rfl⟩, hb1⟩;have HB1 := hid' hb1;clear hb1;go_wp2_with fail;refine (HPX.out _).mono ?_;rintro e w2 ⟨rfl, hw⟩;subst w2;cases hu : Pt.undo p with
  | none =>
   have HE : Hid (Pt.clean l = ([], [], 170)) := hid' (by rw [HCL.out, HCO.out, hu]; rfl);rw [hu] at HUN;simp only [uV17] at HUN;clear hu;go_wp2_with fail;refine (HUN.out _).mono ?_;rintro e w2 ⟨rfl, hb2⟩;have HB2 := hid' (below_two HB1.out hb2);clear hb2;go_wp2;go_ret3;exact ⟨by rw [HE.out]; rfl, HB2.out⟩
  | some t =>
   rw [hu] at HUN HCO;simp only [uV17] at HUN HCO;have hts := HUL.out t hu;have HST := hid' (fun W => cstr17 ⟨t.toArray⟩ t rfl W (by rw [size_l']; exact hts));clear hu;go_wp2_with fail;refine (HUN.out _).mono ?_;rintro e w2 ⟨rfl, hb2⟩;have HB2 := hid' (below_two HB1.out hb2);clear hb2;go_wp2_with fail;refine (HST.out _).mono ?_;rintro e w3 ⟨rfl, hb3⟩;have HB3 := hid' (below_two HB2.out hb3);clear hb3 HST;rw [HCO.out] at HCL;have HER := hid' (Pt.strt_err t);generalize Pt.strt t = z at HCL HER;obtain ⟨z1, z2⟩ := z;simp only [stV17];cases hz : (z2 == 0)
   ·have hzn : (z2 != 0) = true := by unfold bne; rw [hz]; rfl
    have HE : Hid (Pt.clean l = ([], [], z2)) := hid' (by rw [HCL.out, show z1 = [] from HER.out hz]; simp only [hz]; rfl);go_wp2;go_ret3;exact ⟨by rw [HE.out]; rfl, HB3.out⟩
   ·have hzn : (z2 != 0) = false := by unfold bne; rw [hz]; rfl
    have HE : Hid (Pt.clean l = (z1, q, 0)) := hid' (by rw [HCL.out]; simp only [hz]; rw [eq_of_beq hz]; rfl);go_wp2;go_ret3;exact ⟨by rw [HE.out]; rfl, HB3.out⟩

end Go.Proofs.YthhpejgpfaikaabGreatDoor
