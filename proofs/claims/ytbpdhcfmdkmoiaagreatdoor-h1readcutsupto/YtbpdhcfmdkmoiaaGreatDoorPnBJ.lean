/-
  The laws' awake: by its contract.
  The document's Same, whatever the length: by its contract.
-/
import Derived.Test.YtbpdhcfmdkmoiaaGreatDoorPnBI
import Derived.Test.YtbpdhcfmdkmoiaaGreatDoorPnAL
namespace Go.Proofs.YtbpdhcfmdkmoiaaGreatDoor
open Go.RowKit

theorem RT21.upd {B b x : Nat} {s : Hr.St} {lv fv : Value} {w w' : World} (h : RT21 B b s lv fv w) (hu : Upd x w w') (hx : ¬ RS b lv fv x) (hB : B ≤ x) : RT21 B b s lv fv w' := h.other (LF.of_upd (S := fun k => k = x) hu rfl) (fun k hk e => hx (e ▸ hk)) (fun k e => by omega)
theorem nrs_lt21 {B b x : Nat} {s : Hr.St} {lv fv : Value} {w : World} (h : RT21 B b s lv fv w) (hx : w.heap.size ≤ x) : ¬ RS b lv fv x := fun hk => by have := (h.rn.rs x hk).2; omega

set_option maxHeartbeats 8000000 in
set_option maxRecDepth 20000 in
theorem awake21 (w : World) (hT : TB w) : Calls Tryz.prog 8 #[] w fun e w' => e = .returned (.bool true) ∧ Below w.heap.size w w' := by
  obtain ⟨n1, p1, s1, h1⟩ : ∃ n p s, Hr.read Hr.aw0 Hr.awD = (n, p, s) := ⟨_, _, _, rfl⟩
  obtain ⟨n2, p2, s2, h2⟩ : ∃ n p s, Hr.read s1 (Hr.awD.drop n1) = (n, p, s) := ⟨_, _, _, rfl⟩
  obtain ⟨n3, p3, s3, h3⟩ : ∃ n p s, Hr.read s2 ((Hr.awD.drop n1).drop n2) = (n, p, s) := ⟨_, _, _, rfl⟩
  obtain ⟨n4, p4, s4, h4⟩ : ∃ n p s, Hr.read s3 (((Hr.awD.drop n1).drop n2).drop n3) = (n, p, s) := ⟨_, _, _, rfl⟩
  have hb := Hr.awB_true
  have a1 : Hr.aw1 = (n1, p1, s1) := h1
  have a2 : Hr.aw2 = (n2, p2, s2) := by unfold Hr.aw2; rw [a1]; exact h2
  have a3 : Hr.aw3 = (n3, p3, s3) := by unfold Hr.aw3; rw [a2, a1]; exact h3
  have a4 : Hr.aw4 = (n4, p4, s4) := by unfold Hr.aw4; rw [a3, a2, a1]; exact h4
  unfold Hr.awB at hb
  rw [a1, a2, a3, a4] at hb
  simp only [Bool.and_eq_true, beq_iff_eq, Bool.not_eq_true'] at hb
  obtain ⟨⟨⟨⟨⟨⟨⟨⟨⟨⟨⟨⟨⟨⟨⟨⟨e1, e2⟩, e3⟩, m1⟩, ha1⟩, la1⟩, rm1⟩, rp1⟩, rau1⟩, wi1⟩, m2⟩, bd2⟩, m3⟩, fl3⟩, fa3⟩, m4⟩, he4⟩ := hb
  subst e1 e2 e3
  have o0 : Hr.Ok Hr.aw0 := Hr.Ok.zero (by decide)
  have o1 := Hr.read_ok Hr.aw0 o0 Hr.awD
  rw [h1] at o1
  have o2 := Hr.read_ok s1 o1.1 (Hr.awD.drop 57)
  rw [h2] at o2
  have o3 := Hr.read_ok s2 o2.1 ((Hr.awD.drop 57).drop 9)
  rw [h3] at o3
  have o4 := Hr.read_ok s3 o3.1 (((Hr.awD.drop 57).drop 9).drop 13)
  have o5 := Hr.read_n s3 (((Hr.awD.drop 57).drop 9).drop 13)
  rw [h4] at o4 o5
  have hz : (((Hr.awD.drop 57).drop 9).drop 13).length = 6 := rfl
  have hc0 : Hr.cost Hr.aw0 = 0 := rfl
  simp only at o1 o2 o3 o4 o5
  have HC : Hid (Hr.cost s1 ≤ 57 ∧ Hr.cost s2 ≤ 66 ∧ Hr.cost s3 ≤ 79 ∧ Hr.cost s4 ≤ 85) := hid' ⟨by omega, by omega, by omega, by omega⟩
  obtain ⟨S, hS⟩ : ∃ S : ByteArray, S = ⟨(([80, 79, 83, 84, 32, 47, 97, 32, 72, 84, 84, 80, 47, 49, 46, 49, 13, 10, 72, 111, 115, 116, 58, 32, 104, 13, 10, 84, 114, 97, 110, 115, 102, 101, 114, 45, 69, 110, 99, 111, 100, 105] : List UInt8).append [110, 103, 58, 32, 99, 104, 117, 110, 107, 101, 100, 13, 10, 13, 10, 50, 59, 120, 61, 121, 13, 10, 97, 98, 13, 10, 48, 13, 10, 84, 58, 32, 118, 13, 10, 13, 10, 71, 69, 84, 32, 32, 47]).toArray⟩ := ⟨_, rfl⟩
  have hSd : S.data.toList = Hr.awD := by rw [hS]; rfl
  have hSz : S.size = 85 := by rw [hS]; rfl
  have HR1 : Hid (∀ B b lv fv W, RT21 B b Hr.aw0 lv fv W → Calls Tryz.prog 17 #[.pointer (some ⟨b, 0, none⟩), .string S] W fun e w' => ∃ rv tv lv' fv', e = .returned (.tuple #[.int .i64 57, .agg (pcC p1 rv tv)]) ∧ RO21 B b lv fv (57, p1, s1) W rv tv lv' fv' w') := hid' (fun B b lv fv W h => by
    have := creadT21 B b lv fv Hr.aw0 S W h (by rw [hc0, hSz]; decide)
    rw [hSd, h1] at this
    exact this)
  have hx2 : (S.extract 57 85).data.toList = Hr.awD.drop 57 := by rw [← hSz, Lib.extract_to_end, hSd]
  have hx3 : (S.extract 66 85).data.toList = (Hr.awD.drop 57).drop 9 := by rw [← hSz, Lib.extract_to_end, hSd, List.drop_drop]
  have hx4 : (S.extract 79 85).data.toList = ((Hr.awD.drop 57).drop 9).drop 13 := by rw [← hSz, Lib.extract_to_end, hSd, List.drop_drop, List.drop_drop]
  have hzs : ∀ a, (S.extract a 85).size ≤ 85 := fun a => by rw [ByteArray.size_extract, hSz]; omega
  have HR2 : Hid (∀ B b lv fv W, RT21 B b s1 lv fv W → Calls Tryz.prog 17 #[.pointer (some ⟨b, 0, none⟩), (.string (S.extract 57 85))] W fun e w' => ∃ rv tv lv' fv', e = .returned (.tuple #[.int .i64 9, .agg (pcC p2 rv tv)]) ∧ RO21 B b lv fv (9, p2, s2) W rv tv lv' fv' w') := hid' (fun B b lv fv W h => by
    have := creadT21 B b lv fv s1 (S.extract 57 85) W h (by have h1 := hzs 57; have h2 := HC.out; omega)
    rw [hx2, h2] at this
    exact this)
  have HR3 : Hid (∀ B b lv fv W, RT21 B b s2 lv fv W → Calls Tryz.prog 17 #[.pointer (some ⟨b, 0, none⟩), (.string (S.extract 66 85))] W fun e w' => ∃ rv tv lv' fv', e = .returned (.tuple #[.int .i64 13, .agg (pcC p3 rv tv)]) ∧ RO21 B b lv fv (13, p3, s3) W rv tv lv' fv' w') := hid' (fun B b lv fv W h => by
    have := creadT21 B b lv fv s2 (S.extract 66 85) W h (by have h1 := hzs 66; have h2 := HC.out; omega)
    rw [hx3, h3] at this
    exact this)
  have HR4 : Hid (∀ B b lv fv W, RT21 B b s3 lv fv W → Calls Tryz.prog 17 #[.pointer (some ⟨b, 0, none⟩), (.string (S.extract 79 85))] W fun e w' => ∃ rv tv lv' fv', e = .returned (.tuple #[.int .i64 (n4 : Int), .agg (pcC p4 rv tv)]) ∧ RO21 B b lv fv (n4, p4, s4) W rv tv lv' fv' w') := hid' (fun B b lv fv W h => by
    have := creadT21 B b lv fv s3 (S.extract 79 85) W h (by have h1 := hzs 79; have h2 := HC.out; omega)
    rw [hx4, h4] at this
    exact this)
  have HM : Hid (p1.mark = 1 ∧ p1.has = true ∧ p1.last = false ∧ p1.rq.m.toList = [80, 79, 83, 84] ∧ p1.rq.p.toList = [47, 97] ∧ p1.rq.a.toList = [104] ∧ Hr.within s1 = true ∧ p2.mark = 2 ∧ p2.bd.toList = [97, 98] ∧ p3.mark = 3 ∧ p4.mark = 0 ∧ Hr.held s4 = 6) := hid' ⟨m1, ha1, la1, by rw [Lib.toList_data]; exact rm1, by rw [Lib.toList_data]; exact rp1, by rw [Lib.toList_data]; exact rau1, wi1, m2, by rw [Lib.toList_data]; exact bd2, m3, m4, he4⟩
  obtain ⟨f3, hf3, hn3, hv3⟩ : ∃ f, p3.fs = [f] ∧ f.n.toList = [116] ∧ f.v.toList = [118] := by
    match hp : p3.fs, fl3, fa3 with
    | [f], _, fa3 =>
      simp only [List.all_cons, List.all_nil, Bool.and_true, Bool.and_eq_true, beq_iff_eq] at fa3
      exact ⟨f, rfl, by rw [Lib.toList_data]; exact fa3.1, by rw [Lib.toList_data]; exact fa3.2⟩
  have HF3 := hid' hf3
  have HV3 : Hid (f3.n.toList = [116] ∧ f3.v.toList = [118]) := hid' ⟨hn3, hv3⟩
  have HS := hid' hS
  have HSZ := hid' hSz
  have HT := hid' hT
  clear h1 h2 h3 h4 a1 a2 a3 a4 m1 ha1 la1 rm1 rp1 rau1 wi1 m2 bd2 m3 fl3 fa3 m4 he4 o0 o1 o2 o3 o4 o5 hz hc0 hSd hx2 hx3 hx4 hzs hf3 hn3 hv3 hT hS hSz
  have HNW := hid' (fun W (h : TB W) => cnewT21 100 10 (by decide) (by decide) (by decide) W h)
  go_enter Tryz.func8, Tryz.ntmps8
  go_wp2_with (go_at_call 19; refine (csmall21 _).mono ?_; rintro e w1 ⟨rfl, hb1⟩; refine Hid.out ?_)
  refine hid' ?_
  have HB1 := hid' hb1
  clear hb1
  go_wp2_with fail
  refine (HNW.out w1 (HT.out.keep HB1.out)).mono ?_
  rintro e w2 ⟨⟨b, rfl, h2⟩, hb2⟩
  have HRT0 := hid' h2
  have HB2 := hid' (below_two HB1.out hb2)
  have HBB : Hid (w.heap.size ≤ w1.heap.size) := hid' HB1.out.size
  clear h2 hb2
  go_upto_region 5 with fail
  rw [← HS.out]
  clear HS
  have hsz : S.size = 85 := HSZ.out
  go_wp2_with (go_at_call 17; refine (HR1.out _ _ _ _ _ HRT0.out).mono ?_; rintro e v1 ⟨rv1, tv1, lv1, fv1, rfl, hoc1⟩; refine Hid.out ?_)
  refine hid' ?_
  have HO1 := hid' hoc1
  have HBv1 : Hid (Below w.heap.size w v1) := hid' (HB2.out.trans (hoc1.lf.below (HB2.out.size) (fun k hk => Nat.le_trans HBB.out (HRT0.out.rn.rs k hk).1)))
  obtain ⟨ro1, rc1, hrv1⟩ := own_shape hoc1.k1
  obtain ⟨tq1, tc1, htv1⟩ := own_shape hoc1.k2
  subst hrv1 htv1
  clear hoc1
  go_wp2_with (refine wpl_alloc 49 rfl rfl _ zeroPc21 ?_)
  intro x1 u1 hx1 hax1 hlx1
  have HRTu1 := hid' (HO1.out.rt.keep hlx1)
  have HN1_1 := hid' (nrs_lt21 HO1.out.rt hx1)
  have HAX1 := hid' hax1
  have HBu1 := hid' (HBv1.out.trans (hlx1.mono HBv1.out.size))
  have HXG1 : Hid (w1.heap.size ≤ x1 ∧ w.heap.size ≤ x1) := hid' ⟨by have h1 := HO1.out.rt.tb.lb; omega, by have h1 := HBv1.out.size; omega⟩
  clear hax1 hlx1 hx1
  go_wp2_with (refine wpl_store 49 _ _ rfl rfl x1 (pcC p1 (.slice ro1 p1.rq.fs.length rc1) (.slice tq1 p1.fs.length tc1)) (by kernel_rfl) (by kernel_rfl) _ _ HAX1.out sizePc21 rfl (by simp [Value.oneCell', pcC]) ?_)
  intro y1 hay1 huy1
  have HX1_1 := hid' hay1
  have HRT1 := hid' (HRTu1.out.upd huy1 HN1_1.out HXG1.out.1)
  have HBy1 := hid' (HBu1.out.trans (huy1.below HXG1.out.2))
  have HXL1_1 : Hid (x1 < y1.heap.size) := hid' HX1_1.out.lt
  clear hay1 huy1
  go_wp2_with (go_at_call 14; refine (cwithT21 _ _ _ _ _ _ HRT1.out (show Hr.cost s1 ≤ 1048576 from by have h1 := HC.out; omega)).mono ?_; rintro e q1 ⟨rfl, hq1⟩; refine Hid.out ?_)
  refine hid' ?_
  rw [show Hr.within s1 = true from HM.out.2.2.2.2.2.2.1]
  have HRTq := hid' (HRT1.out.keep hq1)
  have HXq := hid' (HX1_1.out.keep hq1)
  have HBq := hid' (HBy1.out.trans (hq1.mono HBy1.out.size))
  clear HX1_1 HRT1 HBy1 HXL1_1 hq1
  have HX1_1 := HXq
  clear HXq
  have HXL1_1 : Hid (x1 < q1.heap.size) := hid' HX1_1.out.lt
  go_wp2_with (go_at_call 17; refine (HR2.out _ _ _ _ _ HRTq.out).mono ?_; rintro e v2 ⟨rv2, tv2, lv2, fv2, rfl, hoc2⟩; refine Hid.out ?_)
  refine hid' ?_
  have HX1_2 := hid' (hoc2.lf.ar HX1_1.out HN1_1.out)
  have HN1_2 := hid' (nrs_step21 HN1_1.out HXL1_1.out hoc2.rw)
  have HO2 := hid' hoc2
  have HBv2 : Hid (Below w.heap.size w v2) := hid' (HBq.out.trans (hoc2.lf.below (HBq.out.size) (fun k hk => Nat.le_trans HBB.out (HRTq.out.rn.rs k hk).1)))
  obtain ⟨ro2, rc2, hrv2⟩ := own_shape hoc2.k1
  obtain ⟨tq2, tc2, htv2⟩ := own_shape hoc2.k2
  subst hrv2 htv2
  clear hoc2
  go_wp2_with (refine wpl_alloc 49 rfl rfl _ zeroPc21 ?_)
  intro x2 u2 hx2 hax2 hlx2
  have HRTu2 := hid' (HO2.out.rt.keep hlx2)
  have HN2_2 := hid' (nrs_lt21 HO2.out.rt hx2)
  have HAX2 := hid' hax2
  have HBu2 := hid' (HBv2.out.trans (hlx2.mono HBv2.out.size))
  have HXG2 : Hid (w1.heap.size ≤ x2 ∧ w.heap.size ≤ x2) := hid' ⟨by have h1 := HO2.out.rt.tb.lb; omega, by have h1 := HBv2.out.size; omega⟩
  have HXu1_2 := hid' (HX1_2.out.keep hlx2)
  have HXE1_2 : Hid (x1 ≠ x2) := hid' (fun e => by have h1 := HX1_2.out.lt; omega)
  clear hax2 hlx2 hx2
  go_wp2_with (refine wpl_store 49 _ _ rfl rfl x2 (pcC p2 (.slice ro2 p2.rq.fs.length rc2) (.slice tq2 p2.fs.length tc2)) (by kernel_rfl) (by kernel_rfl) _ _ HAX2.out sizePc21 rfl (by simp [Value.oneCell', pcC]) ?_)
  intro y2 hay2 huy2
  have HX2_2 := hid' hay2
  have HRT2 := hid' (HRTu2.out.upd huy2 HN2_2.out HXG2.out.1)
  have HBy2 := hid' (HBu2.out.trans (huy2.below HXG2.out.2))
  have HXy1_2 := hid' (ar_upd HXu1_2.out huy2 HXE1_2.out)
  clear HX1_2 HX1_1 HXu1_2
  have HX1_2 := HXy1_2
  clear HXy1_2
  have HXL1_2 : Hid (x1 < y2.heap.size) := hid' HX1_2.out.lt
  have HXL2_2 : Hid (x2 < y2.heap.size) := hid' HX2_2.out.lt
  clear hay2 huy2
  go_wp2_with (go_at_call 17; refine (HR3.out _ _ _ _ _ HRT2.out).mono ?_; rintro e v3 ⟨rv3, tv3, lv3, fv3, rfl, hoc3⟩; refine Hid.out ?_)
  refine hid' ?_
  have HX1_3 := hid' (hoc3.lf.ar HX1_2.out HN1_2.out)
  have HN1_3 := hid' (nrs_step21 HN1_2.out HXL1_2.out hoc3.rw)
  have HX2_3 := hid' (hoc3.lf.ar HX2_2.out HN2_2.out)
  have HN2_3 := hid' (nrs_step21 HN2_2.out HXL2_2.out hoc3.rw)
  have HO3 := hid' hoc3
  have HBv3 : Hid (Below w.heap.size w v3) := hid' (HBy2.out.trans (hoc3.lf.below (HBy2.out.size) (fun k hk => Nat.le_trans HBB.out (HRT2.out.rn.rs k hk).1)))
  obtain ⟨ro3, rc3, hrv3⟩ := own_shape hoc3.k1
  obtain ⟨tq3, tc3, htv3⟩ := own_shape hoc3.k2
  subst hrv3 htv3
  clear hoc3
  go_wp2_with (refine wpl_alloc 49 rfl rfl _ zeroPc21 ?_)
  intro x3 u3 hx3 hax3 hlx3
  have HRTu3 := hid' (HO3.out.rt.keep hlx3)
  have HN3_3 := hid' (nrs_lt21 HO3.out.rt hx3)
  have HAX3 := hid' hax3
  have HBu3 := hid' (HBv3.out.trans (hlx3.mono HBv3.out.size))
  have HXG3 : Hid (w1.heap.size ≤ x3 ∧ w.heap.size ≤ x3) := hid' ⟨by have h1 := HO3.out.rt.tb.lb; omega, by have h1 := HBv3.out.size; omega⟩
  have HXu1_3 := hid' (HX1_3.out.keep hlx3)
  have HXE1_3 : Hid (x1 ≠ x3) := hid' (fun e => by have h1 := HX1_3.out.lt; omega)
  have HXu2_3 := hid' (HX2_3.out.keep hlx3)
  have HXE2_3 : Hid (x2 ≠ x3) := hid' (fun e => by have h1 := HX2_3.out.lt; omega)
  have HTV3a := hid' (own_keep21 HO3.out.k2 hlx3)
  clear hax3 hlx3 hx3
  go_wp2_with (refine wpl_store 49 _ _ rfl rfl x3 (pcC p3 (.slice ro3 p3.rq.fs.length rc3) (.slice tq3 p3.fs.length tc3)) (by kernel_rfl) (by kernel_rfl) _ _ HAX3.out sizePc21 rfl (by simp [Value.oneCell', pcC]) ?_)
  intro y3 hay3 huy3
  have HX3_3 := hid' hay3
  have HRT3 := hid' (HRTu3.out.upd huy3 HN3_3.out HXG3.out.1)
  have HBy3 := hid' (HBu3.out.trans (huy3.below HXG3.out.2))
  have HXy1_3 := hid' (ar_upd HXu1_3.out huy3 HXE1_3.out)
  clear HX1_3 HX1_2 HXu1_3
  have HX1_3 := HXy1_3
  clear HXy1_3
  have HXy2_3 := hid' (ar_upd HXu2_3.out huy3 HXE2_3.out)
  clear HX2_3 HX2_2 HXu2_3
  have HX2_3 := HXy2_3
  clear HXy2_3
  have HTV3 := hid' (own_same HTV3a.out (fun k hk => huy3.block k (own_apart HTV3a.out HAX3.out (by decide) k hk)))
  have HXL1_3 : Hid (x1 < y3.heap.size) := hid' HX1_3.out.lt
  have HXL2_3 : Hid (x2 < y3.heap.size) := hid' HX2_3.out.lt
  have HXL3_3 : Hid (x3 < y3.heap.size) := hid' HX3_3.out.lt
  clear hay3 huy3
  go_wp2_with (go_at_call 17; refine (HR4.out _ _ _ _ _ HRT3.out).mono ?_; rintro e v4 ⟨rv4, tv4, lv4, fv4, rfl, hoc4⟩; refine Hid.out ?_)
  refine hid' ?_
  have HX1_4 := hid' (hoc4.lf.ar HX1_3.out HN1_3.out)
  have HN1_4 := hid' (nrs_step21 HN1_3.out HXL1_3.out hoc4.rw)
  have HX2_4 := hid' (hoc4.lf.ar HX2_3.out HN2_3.out)
  have HN2_4 := hid' (nrs_step21 HN2_3.out HXL2_3.out hoc4.rw)
  have HX3_4 := hid' (hoc4.lf.ar HX3_3.out HN3_3.out)
  have HN3_4 := hid' (nrs_step21 HN3_3.out HXL3_3.out hoc4.rw)
  have HTV4a := hid' (own_same HTV3.out (fun k hk => hoc4.lf.block k (own_lt HTV3.out k hk) (HO3.out.k4 k hk)))
  have HO4 := hid' hoc4
  have HBv4 : Hid (Below w.heap.size w v4) := hid' (HBy3.out.trans (hoc4.lf.below (HBy3.out.size) (fun k hk => Nat.le_trans HBB.out (HRT3.out.rn.rs k hk).1)))
  obtain ⟨ro4, rc4, hrv4⟩ := own_shape hoc4.k1
  obtain ⟨tq4, tc4, htv4⟩ := own_shape hoc4.k2
  subst hrv4 htv4
  clear hoc4
  go_wp2_with (refine wpl_alloc 49 rfl rfl _ zeroPc21 ?_)
  intro x4 u4 hx4 hax4 hlx4
  have HRTu4 := hid' (HO4.out.rt.keep hlx4)
  have HN4_4 := hid' (nrs_lt21 HO4.out.rt hx4)
  have HAX4 := hid' hax4
  have HBu4 := hid' (HBv4.out.trans (hlx4.mono HBv4.out.size))
  have HXG4 : Hid (w1.heap.size ≤ x4 ∧ w.heap.size ≤ x4) := hid' ⟨by have h1 := HO4.out.rt.tb.lb; omega, by have h1 := HBv4.out.size; omega⟩
  have HXu1_4 := hid' (HX1_4.out.keep hlx4)
  have HXE1_4 : Hid (x1 ≠ x4) := hid' (fun e => by have h1 := HX1_4.out.lt; omega)
  have HXu2_4 := hid' (HX2_4.out.keep hlx4)
  have HXE2_4 : Hid (x2 ≠ x4) := hid' (fun e => by have h1 := HX2_4.out.lt; omega)
  have HXu3_4 := hid' (HX3_4.out.keep hlx4)
  have HXE3_4 : Hid (x3 ≠ x4) := hid' (fun e => by have h1 := HX3_4.out.lt; omega)
  have HTV4b := hid' (own_keep21 HTV4a.out hlx4)
  clear hax4 hlx4 hx4
  go_wp2_with (refine wpl_store 49 _ _ rfl rfl x4 (pcC p4 (.slice ro4 p4.rq.fs.length rc4) (.slice tq4 p4.fs.length tc4)) (by kernel_rfl) (by kernel_rfl) _ _ HAX4.out sizePc21 rfl (by simp [Value.oneCell', pcC]) ?_)
  intro y4 hay4 huy4
  have HX4_4 := hid' hay4
  have HRT4 := hid' (HRTu4.out.upd huy4 HN4_4.out HXG4.out.1)
  have HBy4 := hid' (HBu4.out.trans (huy4.below HXG4.out.2))
  have HXy1_4 := hid' (ar_upd HXu1_4.out huy4 HXE1_4.out)
  clear HX1_4 HX1_3 HXu1_4
  have HX1_4 := HXy1_4
  clear HXy1_4
  have HXy2_4 := hid' (ar_upd HXu2_4.out huy4 HXE2_4.out)
  clear HX2_4 HX2_3 HXu2_4
  have HX2_4 := HXy2_4
  clear HXy2_4
  have HXy3_4 := hid' (ar_upd HXu3_4.out huy4 HXE3_4.out)
  clear HX3_4 HX3_3 HXu3_4
  have HX3_4 := HXy3_4
  clear HXy3_4
  have HTV4 := hid' (own_same HTV4b.out (fun k hk => huy4.block k (own_apart HTV4b.out HAX4.out (by decide) k hk)))
  have HXL1_4 : Hid (x1 < y4.heap.size) := hid' HX1_4.out.lt
  have HXL2_4 : Hid (x2 < y4.heap.size) := hid' HX2_4.out.lt
  have HXL3_4 : Hid (x3 < y4.heap.size) := hid' HX3_4.out.lt
  have HXL4_4 : Hid (x4 < y4.heap.size) := hid' HX4_4.out.lt
  clear hay4 huy4
  have hT4 : y4.ownsRow w1.heap.size 52 2 (.slice tq3 1 tc3) 1 (fC [f3]) := by
    have h : y4.ownsRow w1.heap.size 52 2 (.slice tq3 p3.fs.length tc3) p3.fs.length (fC p3.fs) := HTV4.out
    rw [HF3.out] at h
    exact h
  obtain ⟨g, hg, g0, g1⟩ : ∃ g, tq3 = some ⟨g, 0, none⟩ ∧ y4.cell? ⟨g, 0, none⟩ = some (.string f3.n) ∧ y4.cell? ⟨g, 1, none⟩ = some (.string f3.v) := by
    rcases hT4.2 with ⟨_, h0⟩ | ⟨g, cap', cur, h1, h2⟩
    · cases h0
    · injection h1 with h1 h3 h4
      subst h1
      exact ⟨g, rfl, hT4.cells (g := g) rfl 0 _ rfl, hT4.cells (g := g) rfl 1 _ rfl⟩
  subst hg
  have q10 : y4.cell? ⟨x1, 0, none⟩ = some (.int .u8 1) := HX1_4.out.cell 0 _ (by rw [← HM.out.1]; rfl)
  have q11 : y4.cell? ⟨x1, 11, none⟩ = some (.bool true) := HX1_4.out.cell 11 _ (by rw [← HM.out.2.1]; rfl)
  have q19 : y4.cell? ⟨x1, 9, none⟩ = some (.bool false) := HX1_4.out.cell 9 _ (by rw [← HM.out.2.2.1]; rfl)
  have q1m : y4.cell? ⟨x1, 1, none⟩ = some (.string p1.rq.m) := HX1_4.out.cell 1 _ rfl
  have q1a : y4.cell? ⟨x1, 3, none⟩ = some (.string p1.rq.a) := HX1_4.out.cell 3 _ rfl
  have q1p : y4.cell? ⟨x1, 4, none⟩ = some (.string p1.rq.p) := HX1_4.out.cell 4 _ rfl
  have t1m : (p1.rq.m.toList == [80, 79, 83, 84]) = true := by rw [beq_iff_eq]; exact HM.out.2.2.2.1
  have t1p : (p1.rq.p.toList == [47, 97]) = true := by rw [beq_iff_eq]; exact HM.out.2.2.2.2.1
  have t1a : (p1.rq.a.toList == [104]) = true := by rw [beq_iff_eq]; exact HM.out.2.2.2.2.2.1
  have q20 : y4.cell? ⟨x2, 0, none⟩ = some (.int .u8 2) := HX2_4.out.cell 0 _ (by rw [← HM.out.2.2.2.2.2.2.2.1]; rfl)
  have q2b : y4.cell? ⟨x2, 12, none⟩ = some (.string p2.bd) := HX2_4.out.cell 12 _ rfl
  have t2b : (p2.bd.toList == [97, 98]) = true := by rw [beq_iff_eq]; exact HM.out.2.2.2.2.2.2.2.2.1
  have q30 : y4.cell? ⟨x3, 0, none⟩ = some (.int .u8 3) := HX3_4.out.cell 0 _ (by rw [← HM.out.2.2.2.2.2.2.2.2.2.1]; rfl)
  have q3f : y4.cell? ⟨x3, 13, none⟩ = some (.slice (some ⟨g, 0, none⟩) 1 tc3) := HX3_4.out.cell 13 _ (by show some (Value.slice (some ⟨g, 0, none⟩) p3.fs.length tc3) = _; rw [HF3.out]; rfl)
  have q40 : y4.cell? ⟨x4, 0, none⟩ = some (.int .u8 0) := HX4_4.out.cell 0 _ (by rw [← HM.out.2.2.2.2.2.2.2.2.2.2.1]; rfl)
  have t3n : (f3.n.toList == [116]) = true := by rw [beq_iff_eq]; exact HV3.out.1
  have t3v : (f3.v.toList == [118]) = true := by rw [beq_iff_eq]; exact HV3.out.2
  have HHE := hid' (cheldT21 _ _ _ _ _ _ HRT4.out (show Hr.cost s4 ≤ 1048576 from by have h1 := HC.out; omega))
  rw [show Hr.held (n4, p4, s4).2.2 = 6 from HM.out.2.2.2.2.2.2.2.2.2.2.2] at HHE
  clear hT4
  go_wp2_with (go_at_call 20; refine (HHE.out).mono ?_; rintro e z ⟨rfl, hz⟩; refine Hid.out ?_)
  refine hid' ?_
  have HBz := hid' (HBy4.out.trans (hz.mono HBy4.out.size))
  clear hz
  go_wp2_with fail
  go_ret
  exact ⟨rfl, HBz.out⟩

end Go.Proofs.YtbpdhcfmdkmoiaaGreatDoor

namespace Go.Proofs.YtbpdhcfmdkmoiaaGreatDoor
open Go.RowKit

set_option maxHeartbeats 2000000 in
set_option maxRecDepth 20000 in
theorem rsameM14 (va vb : Value) (l : List Fd) (w : World) (h1 : FW w va l) (h2 : FW w vb l) (hl : l.length ≤ 9223372036854775807) :
    Calls Tryz.prog 16 #[va, vb] w fun e w' => e = .returned (.bool true) ∧ ∃ m, w' = w.drewN m := by
  obtain ⟨ao, ca, hv⟩ := h1.shape
  subst hv
  obtain ⟨bo, cb, hv⟩ := h2.shape
  subst hv
  obtain ⟨n, hn⟩ : ∃ n, l.length = n := ⟨_, rfl⟩
  rw [hn] at h1 h2 hl ⊢
  have H1 := hid' h1
  have H2 := hid' h2
  have HN := hid' hn
  have hee : ((n : Int) == (n : Int)) = true := beq_self_eq_true _
  have hgd := noGuardF14
  clear h1 h2 hn
  go_enter Tryz.func16, Tryz.ntmps16
  go_wp2
  go_loopw [5] (fun s5 wr => ∃ i q : Nat, s5 = .int .i64 (i : Int) ∧ i ≤ n ∧ wr = w.drewN q) (fun s5 _ => n - (intOf s5).toNat)
  case atStart => exact ⟨0, 0, rfl, Nat.zero_le _, rfl⟩
  case round =>
    obtain ⟨i, q, rfl, hi, hwr⟩ := hrel
    subst hwr
    by_cases hlt : i < n
    · have hlt2 : (i : Int) < (n : Int) := by omega
      obtain ⟨p, hp⟩ : ∃ p, l[i]? = some p := ⟨_, List.getElem?_eq_getElem (by rw [HN.out]; exact hlt)⟩
      obtain ⟨a, hao, x0, x1⟩ := H1.out.two i p hp
      obtain ⟨a2, hbo, y0, y1⟩ := H2.out.two i p hp
      subst hao hbo
      have hne : ∀ W, (binOp .neq 52 (.agg #[.string p.n, .string p.v]) (.agg #[.string p.n, .string p.v])).run Tryz.prog W = .ok (.bool false) W := fun W => neq_f14 p W
      have HLT := hid' hlt
      clear hp hlt
      go_wp2
      go_quiet (fail)
      go_wp2
      go_roundw
      case rel => exact ⟨i + 1, _, by go_num, by have := HLT.out; omega, by first | rfl | simp⟩
      case measure => have := HLT.out; simp [intOf]; omega
    · have hlt2 : ¬ (i : Int) < (n : Int) := by omega
      clear hlt
      go_wp2
      go_ret
      exact ⟨rfl, _, rfl⟩

end Go.Proofs.YtbpdhcfmdkmoiaaGreatDoor
