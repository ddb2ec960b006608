/-
  frame.payloadOf of the other kinds, and where there is none: by its contract.
-/
import Derived.Test.YthbidfcfkjamdaaFrPd
import Derived.Test.YthbidfcfkjamdaaFrPs
import Derived.Test.YthbidfcfkjamdaaFrPp
namespace Go.Proofs.Ythbidfcfkjamdaa
open Go.RowKit

set_option maxHeartbeats 4000000 in
set_option maxRecDepth 20000 in
theorem cpay_long (k fl st : Int) (p : Fm.Pt) (hd : 16777215 < p.data.length) : PAYno k fl st p := by
  intro w v hv
  have HV := hid' hv
  obtain ⟨ao, cap, hsh⟩ := hv.shape
  subst hsh
  have t1 : decide ((16777215 : Int) < (p.data.length : Int)) = true := decide_eq_true (by omega)
  clear hv hd HV
  go_enter Try.func34, Try.ntmps34
  go_wp2_with (refine wpl_boxes _ _ rfl rfl rfl rfl k fl st [] p (.slice ao p.sets.length cap) (by kernel_rfl) (fun b => by kernel_rfl) ?_)
  intro b1 b2 w0 hF
  obtain ⟨c0, c1, c2, c3⟩ := frC_cells hF.a1
  obtain ⟨x0, x1, x2, x3, x4, x5, x6, x7⟩ := pt_cells hF.a2
  have HF0 := hid' hF
  clear hF
  go_wp2
  go_ret2
  exact ⟨rfl, HF0.out.bel⟩

set_option maxHeartbeats 4000000 in
set_option maxRecDepth 20000 in
theorem cpay_many (k fl st : Int) (p : Fm.Pt) (hd : p.data.length ≤ 16777215) (hs : 2796202 < p.sets.length) : PAYno k fl st p := by
  intro w v hv
  have HV := hid' hv
  obtain ⟨ao, cap, hsh⟩ := hv.shape
  subst hsh
  have t1 : decide ((16777215 : Int) < (p.data.length : Int)) = false := decide_eq_false (by omega)
  have t2 : decide ((2796202 : Int) < (p.sets.length : Int)) = true := decide_eq_true (by omega)
  clear hv hd hs HV
  go_enter Try.func34, Try.ntmps34
  go_wp2_with (refine wpl_boxes _ _ rfl rfl rfl rfl k fl st [] p (.slice ao p.sets.length cap) (by kernel_rfl) (fun b => by kernel_rfl) ?_)
  intro b1 b2 w0 hF
  obtain ⟨c0, c1, c2, c3⟩ := frC_cells hF.a1
  obtain ⟨x0, x1, x2, x3, x4, x5, x6, x7⟩ := pt_cells hF.a2
  have HF0 := hid' hF
  clear hF
  go_wp2
  go_ret2
  exact ⟨rfl, HF0.out.bel⟩

set_option maxHeartbeats 4000000 in
set_option maxRecDepth 20000 in
theorem cpay_kind (k fl st : Int) (p : Fm.Pt) (hd : p.data.length ≤ 16777215) (hs : p.sets.length ≤ 2796202) (hk : k ≠ 0 ∧ k ≠ 1 ∧ k ≠ 2 ∧ k ≠ 3 ∧ k ≠ 4 ∧ k ≠ 6 ∧ k ≠ 7 ∧ k ≠ 8 ∧ k ≠ 9 ∧ k ≠ 16) : PAYno k fl st p := by
  intro w v hv
  have HV := hid' hv
  obtain ⟨ao, cap, hsh⟩ := hv.shape
  subst hsh
  have t1 : decide ((16777215 : Int) < (p.data.length : Int)) = false := decide_eq_false (by omega)
  have t2 : decide ((2796202 : Int) < (p.sets.length : Int)) = false := decide_eq_false (by omega)
  have e0 : (k == 0) = false := beq_false_of_ne (by omega)
  have e1 : (k == 1) = false := beq_false_of_ne (by omega)
  have e2 : (k == 2) = false := beq_false_of_ne (by omega)
  have e3 : (k == 3) = false := beq_false_of_ne (by omega)
  have e4 : (k == 4) = false := beq_false_of_ne (by omega)
  have e6 : (k == 6) = false := beq_false_of_ne (by omega)
  have e7 : (k == 7) = false := beq_false_of_ne (by omega)
  have e8 : (k == 8) = false := beq_false_of_ne (by omega)
  have e9 : (k == 9) = false := beq_false_of_ne (by omega)
  have e16 : (k == 16) = false := beq_false_of_ne (by omega)
  clear hv hd hs HV hk
  go_enter Try.func34, Try.ntmps34
  go_wp2_with (refine wpl_boxes _ _ rfl rfl rfl rfl k fl st [] p (.slice ao p.sets.length cap) (by kernel_rfl) (fun b => by kernel_rfl) ?_)
  intro b1 b2 w0 hF
  obtain ⟨c0, c1, c2, c3⟩ := frC_cells hF.a1
  obtain ⟨x0, x1, x2, x3, x4, x5, x6, x7⟩ := pt_cells hF.a2
  have HF0 := hid' hF
  clear hF
  go_wp2
  go_ret2
  exact ⟨rfl, HF0.out.bel⟩

set_option maxHeartbeats 4000000 in
set_option maxRecDepth 20000 in
theorem cpay_headpad (fl st : Int) (p : Fm.Pt) (hd : p.data.length ≤ 16777215) (hs : p.sets.length ≤ 2796202) (h8 : Fm.has fl 8 = true) : PAYno 1 fl st p := by
  intro w v hv
  have HV := hid' hv
  obtain ⟨ao, cap, hsh⟩ := hv.shape
  subst hsh
  have t1 : decide ((16777215 : Int) < (p.data.length : Int)) = false := decide_eq_false (by omega)
  have t2 : decide ((2796202 : Int) < (p.sets.length : Int)) = false := decide_eq_false (by omega)
  have H8 := hid' h8
  clear hv hd hs HV h8
  go_enter Try.func34, Try.ntmps34
  go_wp2_with (refine wpl_boxes _ _ rfl rfl rfl rfl 1 fl st [] p (.slice ao p.sets.length cap) (by kernel_rfl) (fun b => by kernel_rfl) ?_)
  intro b1 b2 w0 hF
  obtain ⟨c0, c1, c2, c3⟩ := frC_cells hF.a1
  obtain ⟨x0, x1, x2, x3, x4, x5, x6, x7⟩ := pt_cells hF.a2
  have HF0 := hid' hF
  clear hF
  go_upto_region 9 with fail
  go_wp2_with fail
  refine (chas_any 1 fl st [] 8 true (by decide) H8.out _).mono ?_
  rintro e w1 ⟨rfl, hb1⟩
  have HF1 := hid' (HF0.out.keep hb1)
  obtain ⟨c0, c1, c2, c3⟩ := frC_cells HF1.out.a1
  obtain ⟨x0, x1, x2, x3, x4, x5, x6, x7⟩ := pt_cells HF1.out.a2
  clear hb1
  go_wp2
  go_ret2
  exact ⟨rfl, HF1.out.bel⟩

set_option maxHeartbeats 4000000 in
set_option maxRecDepth 20000 in
theorem cpay_datano (fl st : Int) (p : Fm.Pt) (hd : p.data.length ≤ 16777215) (hs : p.sets.length ≤ 2796202) (h8 : Fm.has fl 8 = true) (hp : p.pad < 1 ∨ 256 < p.pad) : PAYno 0 fl st p := by
  intro w v hv
  have HV := hid' hv
  obtain ⟨ao, cap, hsh⟩ := hv.shape
  subst hsh
  have t1 : decide ((16777215 : Int) < (p.data.length : Int)) = false := decide_eq_false (by omega)
  have t2 : decide ((2796202 : Int) < (p.sets.length : Int)) = false := decide_eq_false (by omega)
  have HU := hid' (fun w => cdata_no 0 fl st [] p ao p.sets.length cap h8 hp w)
  clear hv hd hs HV h8 hp
  go_enter Try.func34, Try.ntmps34
  go_wp2_with (refine wpl_boxes _ _ rfl rfl rfl rfl 0 fl st [] p (.slice ao p.sets.length cap) (by kernel_rfl) (fun b => by kernel_rfl) ?_)
  intro b1 b2 w0 hF
  obtain ⟨c0, c1, c2, c3⟩ := frC_cells hF.a1
  obtain ⟨x0, x1, x2, x3, x4, x5, x6, x7⟩ := pt_cells hF.a2
  have HF0 := hid' hF
  clear hF
  go_upto_region 7 with fail
  go_wp2_with fail
  refine (HU.out _).mono ?_
  rintro e w1 ⟨rfl, hb1⟩
  have HB1 := hid' (below_two HF0.out.bel hb1)
  clear hb1
  go_wp2
  go_ret2
  exact ⟨rfl, HB1.out⟩

set_option maxHeartbeats 4000000 in
set_option maxRecDepth 20000 in
theorem cpay_data (fl st : Int) (p : Fm.Pt) (hd : p.data.length ≤ 16777215) (hs : p.sets.length ≤ 2796202) (h8 : Fm.has fl 8 = false) : PAYok 0 fl st p p.data := by
  intro w v hv
  have HV := hid' hv
  obtain ⟨ao, cap, hsh⟩ := hv.shape
  subst hsh
  have t1 : decide ((16777215 : Int) < (p.data.length : Int)) = false := decide_eq_false (by omega)
  have t2 : decide ((2796202 : Int) < (p.sets.length : Int)) = false := decide_eq_false (by omega)
  have HU := hid' (fun w => cdata_plain 0 fl st [] p ao p.sets.length cap h8 w)
  clear hv hd hs HV h8
  go_enter Try.func34, Try.ntmps34
  go_wp2_with (refine wpl_boxes _ _ rfl rfl rfl rfl 0 fl st [] p (.slice ao p.sets.length cap) (by kernel_rfl) (fun b => by kernel_rfl) ?_)
  intro b1 b2 w0 hF
  obtain ⟨c0, c1, c2, c3⟩ := frC_cells hF.a1
  obtain ⟨x0, x1, x2, x3, x4, x5, x6, x7⟩ := pt_cells hF.a2
  have HF0 := hid' hF
  clear hF
  go_upto_region 7 with fail
  go_wp2_with fail
  refine (HU.out _).mono ?_
  rintro e w1 ⟨⟨u, rfl, hu⟩, hb1⟩
  have HB1 := hid' (below_two HF0.out.bel hb1)
  have HU1 := hid' hu.out
  clear hb1 hu
  go_wp2
  go_ret2
  exact ⟨⟨_, rfl, HU1⟩, HB1.out⟩

set_option maxHeartbeats 4000000 in
set_option maxRecDepth 20000 in
theorem cpay_datapad (fl st : Int) (p : Fm.Pt) (hd : p.data.length ≤ 16777215) (hs : p.sets.length ≤ 2796202) (m : Nat) (h8 : Fm.has fl 8 = true) (hp : p.pad = (m : Int) + 1) (hm : m ≤ 255) : PAYok 0 fl st p (Fm.byt m :: (p.data ++ List.replicate m 0)) := by
  intro w v hv
  have HV := hid' hv
  obtain ⟨ao, cap, hsh⟩ := hv.shape
  subst hsh
  have t1 : decide ((16777215 : Int) < (p.data.length : Int)) = false := decide_eq_false (by omega)
  have t2 : decide ((2796202 : Int) < (p.sets.length : Int)) = false := decide_eq_false (by omega)
  have HU := hid' (fun w => cdata_pad 0 fl st [] p m ao p.sets.length cap h8 hp hm hd w)
  clear hv hd hs HV h8 hp hm
  go_enter Try.func34, Try.ntmps34
  go_wp2_with (refine wpl_boxes _ _ rfl rfl rfl rfl 0 fl st [] p (.slice ao p.sets.length cap) (by kernel_rfl) (fun b => by kernel_rfl) ?_)
  intro b1 b2 w0 hF
  obtain ⟨c0, c1, c2, c3⟩ := frC_cells hF.a1
  obtain ⟨x0, x1, x2, x3, x4, x5, x6, x7⟩ := pt_cells hF.a2
  have HF0 := hid' hF
  clear hF
  go_upto_region 7 with fail
  go_wp2_with fail
  refine (HU.out _).mono ?_
  rintro e w1 ⟨⟨u, rfl, hu⟩, hb1⟩
  have HB1 := hid' (below_two HF0.out.bel hb1)
  have HU1 := hid' hu.out
  clear hb1 hu
  go_wp2
  go_ret2
  exact ⟨⟨_, rfl, HU1⟩, HB1.out⟩

set_option maxHeartbeats 4000000 in
set_option maxRecDepth 20000 in
theorem cpay_sets (fl st : Int) (p : Fm.Pt) (hd : p.data.length ≤ 16777215) (hs : p.sets.length ≤ 2796202) : PAYok 4 fl st p (Fm.stB p.sets) := by
  intro w v hv
  have HV := hid' hv
  obtain ⟨ao, cap, hsh⟩ := hv.shape
  subst hsh
  have t1 : decide ((16777215 : Int) < (p.data.length : Int)) = false := decide_eq_false (by omega)
  have t2 : decide ((2796202 : Int) < (p.sets.length : Int)) = false := decide_eq_false (by omega)
  clear hv hd
  go_enter Try.func34, Try.ntmps34
  go_wp2_with (refine wpl_boxes _ _ rfl rfl rfl rfl 4 fl st [] p (.slice ao p.sets.length cap) (by kernel_rfl) (fun b => by kernel_rfl) ?_)
  intro b1 b2 w0 hF
  obtain ⟨c0, c1, c2, c3⟩ := frC_cells hF.a1
  obtain ⟨x0, x1, x2, x3, x4, x5, x6, x7⟩ := pt_cells hF.a2
  have HF0 := hid' hF
  clear hF
  have HSV := hid' (HV.out.keep HF0.out.bel)
  go_upto_region 18 with fail
  go_wp2_with fail
  refine (csetpay_any _ p.sets _ HSV.out hs).mono ?_
  rintro e w1 ⟨⟨u, rfl, hu⟩, hb1⟩
  have HB1 := hid' (below_two HF0.out.bel hb1)
  have HU1 := hid' (br_str hu.out)
  clear hb1 hu
  go_wp2
  go_ret2
  exact ⟨⟨_, rfl, HU1⟩, HB1.out⟩

set_option maxHeartbeats 4000000 in
set_option maxRecDepth 20000 in
theorem cpay_head (fl st : Int) (p : Fm.Pt) (hd : p.data.length ≤ 16777215) (hs : p.sets.length ≤ 2796202) (h8 : Fm.has fl 8 = false) (h5 : Fm.has fl 32 = false) : PAYok 1 fl st p (([] : List UInt8) ++ p.data) := by
  intro w v hv
  obtain ⟨i0, hi, hz0, hz1, hz2⟩ := info_parts' infoByte'
  have HI := hid' hi
  have HZ0 := hid' hz0
  have HZ1 := hid' hz1
  have HZ2 := hid' hz2
  clear hi hz0 hz1 hz2
  have HV := hid' hv
  obtain ⟨ao, cap, hsh⟩ := hv.shape
  subst hsh
  have t1 : decide ((16777215 : Int) < (p.data.length : Int)) = false := decide_eq_false (by omega)
  have t2 : decide ((2796202 : Int) < (p.sets.length : Int)) = false := decide_eq_false (by omega)
  have H8 := hid' h8
  have H5 := hid' h5
  have HD := hid' hd
  have HSS := hid' hs
  clear hv hs hd
  clear HV HSS h8 h5
  go_enter Try.func34, Try.ntmps34
  go_wp2_with (refine wpl_boxes _ _ rfl rfl rfl rfl 1 fl st [] p (.slice ao p.sets.length cap) (by kernel_rfl) (fun b => by kernel_rfl) ?_)
  intro b1 b2 w0 hF
  obtain ⟨c0, c1, c2, c3⟩ := frC_cells hF.a1
  obtain ⟨x0, x1, x2, x3, x4, x5, x6, x7⟩ := pt_cells hF.a2
  have HF0 := hid' hF
  clear hF
  go_upto_region 9 with fail
  go_wp2_with fail
  refine (chas_any 1 fl st [] 8 false (by decide) H8.out _).mono ?_
  rintro e w1 ⟨rfl, hb1⟩
  have HF1 := hid' (HF0.out.keep hb1)
  obtain ⟨c0, c1, c2, c3⟩ := frC_cells HF1.out.a1
  obtain ⟨x0, x1, x2, x3, x4, x5, x6, x7⟩ := pt_cells HF1.out.a2
  clear hb1
  go_upto_region 11 with fail
  go_wp2_with fail
  refine (chas_any 1 fl st [] 32 false (by decide) H5.out _).mono ?_
  rintro e w2 ⟨rfl, hb2⟩
  have HF2 := hid' (HF1.out.keep hb2)
  obtain ⟨c0, c1, c2, c3⟩ := frC_cells HF2.out.a1
  obtain ⟨x0, x1, x2, x3, x4, x5, x6, x7⟩ := pt_cells HF2.out.a2
  clear hb2
  have HB2 := hid' HF2.out.bel
  have HO2 : Hid (BR w2 w.heap.size (.slice none 0 0) []) := hid' (br_nil _ _)
  go_upto_region 28 with fail
  have hlen : (([] : List UInt8)).length ≤ 8 := by simp
  obtain ⟨xs, hxs⟩ : ∃ xs, Lib.byteCells (([] : List UInt8)) = xs := ⟨_, rfl⟩
  obtain ⟨np, hnp⟩ : ∃ np, (([] : List UInt8)).length = np := ⟨_, rfl⟩
  have HOX := hid' (br_own HO2.out)
  rw [hxs, hnp] at HOX
  rw [hnp] at hlen
  have HXX := hid' hxs
  have HNP := hid' hnp
  clear hxs hnp
  go_wp2_with (at_builtin; refine Lib.wpList_append_own_string _ rfl _ _ 66 9 rfl w.heap.size 5 i0 Try.underlying66 Try.underlying9 HI.out HZ0.out HZ1.out HZ2.out _ _ _ rfl HOX.out ⟨p.data.toArray⟩ rfl ?c3 ?c4 ?c5 ?_)
  case c3 => show np + p.data.length ≤ maxLen; have := HD.out; unfold maxLen; omega
  case c4 => show np + p.data.length ≤ _; have := HD.out; omega
  case c5 => exact HB2.out.size
  intro v9 w9 hown9 hgrow9 _
  have HB9 := hid' (HB2.out.trans (NB.of_grown HOX.out hgrow9 HB2.out.size).bel)
  have HBR : Hid (BR w9 w.heap.size v9 (([] : List UInt8) ++ p.data)) := hid' (by
    unfold BR
    rw [bytes_app, List.length_append, HXX.out, HNP.out]
    exact hown9)
  clear hown9 hgrow9
  go_wp2
  go_ret2
  exact ⟨⟨_, rfl, hid' (br_str HBR.out)⟩, HB9.out⟩

set_option maxHeartbeats 4000000 in
set_option maxRecDepth 20000 in
theorem cpay_headprio (fl st : Int) (p : Fm.Pt) (hd : p.data.length ≤ 16777215) (hs : p.sets.length ≤ 2796202) (h8 : Fm.has fl 8 = false) (h5 : Fm.has fl 32 = true) : PAYok 1 fl st p (Fm.prB p ++ p.data) := by
  intro w v hv
  obtain ⟨i0, hi, hz0, hz1, hz2⟩ := info_parts' infoByte'
  have HI := hid' hi
  have HZ0 := hid' hz0
  have HZ1 := hid' hz1
  have HZ2 := hid' hz2
  clear hi hz0 hz1 hz2
  have HV := hid' hv
  obtain ⟨ao, cap, hsh⟩ := hv.shape
  subst hsh
  have t1 : decide ((16777215 : Int) < (p.data.length : Int)) = false := decide_eq_false (by omega)
  have t2 : decide ((2796202 : Int) < (p.sets.length : Int)) = false := decide_eq_false (by omega)
  have H8 := hid' h8
  have H5 := hid' h5
  have HD := hid' hd
  have HSS := hid' hs
  clear hv hs hd
  clear HV HSS h8 h5
  go_enter Try.func34, Try.ntmps34
  go_wp2_with (refine wpl_boxes _ _ rfl rfl rfl rfl 1 fl st [] p (.slice ao p.sets.length cap) (by kernel_rfl) (fun b => by kernel_rfl) ?_)
  intro b1 b2 w0 hF
  obtain ⟨c0, c1, c2, c3⟩ := frC_cells hF.a1
  obtain ⟨x0, x1, x2, x3, x4, x5, x6, x7⟩ := pt_cells hF.a2
  have HF0 := hid' hF
  clear hF
  go_upto_region 9 with fail
  go_wp2_with fail
  refine (chas_any 1 fl st [] 8 false (by decide) H8.out _).mono ?_
  rintro e w1 ⟨rfl, hb1⟩
  have HF1 := hid' (HF0.out.keep hb1)
  obtain ⟨c0, c1, c2, c3⟩ := frC_cells HF1.out.a1
  obtain ⟨x0, x1, x2, x3, x4, x5, x6, x7⟩ := pt_cells HF1.out.a2
  clear hb1
  go_upto_region 11 with fail
  go_wp2_with fail
  refine (chas_any 1 fl st [] 32 true (by decide) H5.out _).mono ?_
  rintro e w2 ⟨rfl, hb2⟩
  have HF2 := hid' (HF1.out.keep hb2)
  obtain ⟨c0, c1, c2, c3⟩ := frC_cells HF2.out.a1
  obtain ⟨x0, x1, x2, x3, x4, x5, x6, x7⟩ := pt_cells HF2.out.a2
  clear hb2
  go_upto_region 12 with fail
  go_wp2_with fail
  refine (cappPrio_any p ao p.sets.length cap _).mono ?_
  rintro e w3 ⟨⟨u, rfl, hu⟩, hb3⟩
  have HO3 := hid' (own_low hu.out HF2.out.bel.size)
  have HF3 := hid' (HF2.out.keep hb3)
  have HB3 := hid' HF3.out.bel
  obtain ⟨x0, x1, x2, x3, x4, x5, x6, x7⟩ := pt_cells HF3.out.a2
  clear hb3 hu
  go_upto_region 28 with fail
  have hlen : (Fm.prB p).length ≤ 8 := by simp [Fm.prB, Fm.enc_length]
  obtain ⟨xs, hxs⟩ : ∃ xs, Lib.byteCells (Fm.prB p) = xs := ⟨_, rfl⟩
  obtain ⟨np, hnp⟩ : ∃ np, (Fm.prB p).length = np := ⟨_, rfl⟩
  have HOX := hid' (br_own HO3.out)
  rw [hxs, hnp] at HOX
  rw [hnp] at hlen
  have HXX := hid' hxs
  have HNP := hid' hnp
  clear hxs hnp
  go_wp2_with (at_builtin; refine Lib.wpList_append_own_string _ rfl _ _ 66 9 rfl w.heap.size 5 i0 Try.underlying66 Try.underlying9 HI.out HZ0.out HZ1.out HZ2.out _ _ _ rfl HOX.out ⟨p.data.toArray⟩ rfl ?c3 ?c4 ?c5 ?_)
  case c3 => show np + p.data.length ≤ maxLen; have := HD.out; unfold maxLen; omega
  case c4 => show np + p.data.length ≤ _; have := HD.out; omega
  case c5 => exact HB3.out.size
  intro v9 w9 hown9 hgrow9 _
  have HB9 := hid' (HB3.out.trans (NB.of_grown HOX.out hgrow9 HB3.out.size).bel)
  have HBR : Hid (BR w9 w.heap.size v9 (Fm.prB p ++ p.data)) := hid' (by
    unfold BR
    rw [bytes_app, List.length_append, HXX.out, HNP.out]
    exact hown9)
  clear hown9 hgrow9
  go_wp2
  go_ret2
  exact ⟨⟨_, rfl, hid' (br_str HBR.out)⟩, HB9.out⟩

set_option maxHeartbeats 4000000 in
set_option maxRecDepth 20000 in
theorem cpay_prio (fl st : Int) (p : Fm.Pt) (hd : p.data.length ≤ 16777215) (hs : p.sets.length ≤ 2796202) : PAYok 2 fl st p (Fm.prB p ++ p.data) := by
  intro w v hv
  obtain ⟨i0, hi, hz0, hz1, hz2⟩ := info_parts' infoByte'
  have HI := hid' hi
  have HZ0 := hid' hz0
  have HZ1 := hid' hz1
  have HZ2 := hid' hz2
  clear hi hz0 hz1 hz2
  have HV := hid' hv
  obtain ⟨ao, cap, hsh⟩ := hv.shape
  subst hsh
  have t1 : decide ((16777215 : Int) < (p.data.length : Int)) = false := decide_eq_false (by omega)
  have t2 : decide ((2796202 : Int) < (p.sets.length : Int)) = false := decide_eq_false (by omega)
  have HD := hid' hd
  have HSS := hid' hs
  clear hv hs hd
  clear HV HSS
  go_enter Try.func34, Try.ntmps34
  go_wp2_with (refine wpl_boxes _ _ rfl rfl rfl rfl 2 fl st [] p (.slice ao p.sets.length cap) (by kernel_rfl) (fun b => by kernel_rfl) ?_)
  intro b1 b2 w0 hF
  obtain ⟨c0, c1, c2, c3⟩ := frC_cells hF.a1
  obtain ⟨x0, x1, x2, x3, x4, x5, x6, x7⟩ := pt_cells hF.a2
  have HF0 := hid' hF
  clear hF
  go_upto_region 14 with fail
  go_wp2_with fail
  refine (cappPrio_any p ao p.sets.length cap _).mono ?_
  rintro e w1 ⟨⟨u, rfl, hu⟩, hb1⟩
  have HO1 := hid' (own_low hu.out HF0.out.bel.size)
  have HF1 := hid' (HF0.out.keep hb1)
  have HB1 := hid' HF1.out.bel
  obtain ⟨x0, x1, x2, x3, x4, x5, x6, x7⟩ := pt_cells HF1.out.a2
  clear hb1 hu
  go_upto_region 28 with fail
  have hlen : (Fm.prB p).length ≤ 8 := by simp [Fm.prB, Fm.enc_length]
  obtain ⟨xs, hxs⟩ : ∃ xs, Lib.byteCells (Fm.prB p) = xs := ⟨_, rfl⟩
  obtain ⟨np, hnp⟩ : ∃ np, (Fm.prB p).length = np := ⟨_, rfl⟩
  have HOX := hid' (br_own HO1.out)
  rw [hxs, hnp] at HOX
  rw [hnp] at hlen
  have HXX := hid' hxs
  have HNP := hid' hnp
  clear hxs hnp
  go_wp2_with (at_builtin; refine Lib.wpList_append_own_string _ rfl _ _ 66 9 rfl w.heap.size 5 i0 Try.underlying66 Try.underlying9 HI.out HZ0.out HZ1.out HZ2.out _ _ _ rfl HOX.out ⟨p.data.toArray⟩ rfl ?c3 ?c4 ?c5 ?_)
  case c3 => show np + p.data.length ≤ maxLen; have := HD.out; unfold maxLen; omega
  case c4 => show np + p.data.length ≤ _; have := HD.out; omega
  case c5 => exact HB1.out.size
  intro v9 w9 hown9 hgrow9 _
  have HB9 := hid' (HB1.out.trans (NB.of_grown HOX.out hgrow9 HB1.out.size).bel)
  have HBR : Hid (BR w9 w.heap.size v9 (Fm.prB p ++ p.data)) := hid' (by
    unfold BR
    rw [bytes_app, List.length_append, HXX.out, HNP.out]
    exact hown9)
  clear hown9 hgrow9
  go_wp2
  go_ret2
  exact ⟨⟨_, rfl, hid' (br_str HBR.out)⟩, HB9.out⟩

end Go.Proofs.Ythbidfcfkjamdaa
