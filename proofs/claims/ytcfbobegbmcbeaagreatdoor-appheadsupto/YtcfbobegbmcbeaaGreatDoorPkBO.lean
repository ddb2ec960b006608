import Derived.Test.YtcfbobegbmcbeaaGreatDoorPkBM
import Derived.Test.YtcfbobegbmcbeaaGreatDoorPkBN
namespace Go.Proofs.YtcfbobegbmcbeaaGreatDoor
set_option maxHeartbeats 64000000
open Go.RowKit

theorem sizeTg20 : (Tryz.prog.info? 64).map (·.size) = some 2 := by kernel_rfl
theorem sizeRq20' : (Tryz.prog.info? 25).map (·.size) = some 7 := by kernel_rfl
theorem ldRq20 {w : World} {b : Nat} {x0 x1 x2 x3 x4 x5 x6 : Value} (h : Ar w b 25 #[x0, x1, x2, x3, x4, x5, x6]) : (loadVar 25 ⟨b, 0, none⟩).run Tryz.prog w = .ok (.agg #[x0, x1, x2, x3, x4, x5, x6]) w :=
 run_loadVar_row (P := Tryz.prog) w b 25 25 _ (0, 0) _ h Tryz.underlying25 rfl sizeRq20'
structure MM20 (w0 : World) (mb : Nat) (q : Rt.Mt) (pm : Nat) (po : Option Addr) (pc : Nat) (wx : World) : Prop where
 ge : w0.heap.size ≤ mb
 at' : Ar wx mb 105 #[.int .i64 q.st, .int .i64 q.ro, .slice po pm pc, .string ⟨q.al.toArray⟩]
 len : q.ps.length = pm
 own : wx.ownsRow w0.heap.size 166 2 (.slice po pm pc) pm (qC18 q.ps)
 bel : Below w0.heap.size w0 wx
theorem own_updm20 {w w' : World} {B B' n b : Nat} {v : Value} {l : List (List UInt8 × List UInt8)} (h : w.ownsRow B 166 2 v n (qC18 l)) (hu : Upd b w w') (hb : ∀ j, v.ownBlock = some j → j ≠ b) (hB : B' ≤ B) : w'.ownsRow B' 166 2 v n (qC18 l) :=
 own_base19 (own_same h (fun j hj => hu.block j (hb j hj))) hB
theorem MM20.one {w0 w1 wA wf : World} {q : Rt.Mt} {po : Option Addr} {pm pc : Nat} {z : Array Value} (hS : Below w0.heap.size w0 w1) (hb : Below w1.heap.size w1 wA) (hl : q.ps.length = pm) (ho : wA.ownsRow w1.heap.size 166 2 (.slice po pm pc) pm (qC18 q.ps)) (ha : Ar wf wA.heap.size 105 #[.int .i64 q.st, .int .i64 q.ro, .slice po pm pc, .string ⟨q.al.toArray⟩]) (hu : Upd wA.heap.size (wA.alloc (.cells z 105)) wf) : MM20 w0 wA.heap.size q pm po pc wf := by
 have h1 := below_two hS hb
 refine ⟨h1.size, ha, hl, own_base19 (own_same ho (fun j hj => ?_)) hS.size, (below_two h1 (bl_alloc19 wA _)).trans (hu.below h1.size)⟩
 have hlt := own_lt ho j hj
 exact (hu.block j (by omega)).trans ((bl_alloc19 wA _).block j hlt)
theorem MM20.two {w0 w1 wA wf : World} {mb : Nat} {q : Rt.Mt} {po : Option Addr} {pm pc : Nat} (hS : Below w0.heap.size w0 w1) (hge : w0.heap.size ≤ mb) (hmb : mb < w1.heap.size) (hb : Below w1.heap.size w1 wA) (hl : q.ps.length = pm) (ho : wA.ownsRow w1.heap.size 166 2 (.slice po pm pc) pm (qC18 q.ps)) (ha : Ar wf mb 105 #[.int .i64 q.st, .int .i64 q.ro, .slice po pm pc, .string ⟨q.al.toArray⟩]) (hu : Upd mb wA wf) : MM20 w0 mb q pm po pc wf :=
 ⟨hge, ha, hl, own_updm20 ho hu (fun j hj => by have := own_ge19 ho j hj; omega) hS.size, (below_two hS hb).trans (hu.below hge)⟩

set_option maxRecDepth 20000 in
theorem cdraft20 (B ab : Nat) (l : List Fr18) (B' sb : Nat) (KD : Nat → Prop) (q : Int) (es : List Dk.En) (r : Ap.Rq) (fv tv : Value) (w : World) (h : AW20 w B ab l) (hc : CS w B' sb KD q es) (hf : FW w fv r.fs) (htv : FW w tv r.ts) (hbr : BR20 l) (hq : BQ20 r) (hes : ∀ e ∈ es, EN19 e) (hT : TB19 w) :
  Calls Tryz.prog 23 #[.pointer (some ⟨ab, 0, none⟩), .pointer (some ⟨sb, 0, none⟩), .agg (rqC r.m r.sc r.au r.p fv r.b tv)] w fun e w' => RP20 w w' e (Ap.raw l es r) := by
 have HT := hid' hT
 have HAW := hid' h
 have HC := hid' hc
 have HF := hid' hf
 have HTV := hid' htv
 have HQ := hid' hq
 have HES := hid' hes
 have HBR := hid' hbr
 have HCL := hid' (fun W => xclean17 r.p r.p.data.toList rfl W (by have := hq.p; omega))
 have HCZ := hid' (Ap.clean_size r.p.data.toList)
 have HPP := hid' (fun s h0 h1 W (h : TB19 W) => cplain19 s (.slice none 0 0) [] W h0 h1 (fw_nil19 W) (by decide) h)
 have HRAW : Hid (Ap.raw l es r = if r.p.data.toList == [42] then ⟨204, [], [], []⟩
  else if (Pt.clean r.p.data.toList).2.2 == 0 then Ap.met l (Rt.find (l.map (·.1)) r.m.data.toList (Pt.clean r.p.data.toList).1) es r (Pt.clean r.p.data.toList).1
  else Ap.of (Fs.plain 400 [])) := hid' rfl
 have HFL := hid' (Ap.find_lies (l.map (·.1)) r.m.data.toList (Pt.clean r.p.data.toList).1)
 generalize Ap.raw l es r = A at *
 rcases hcl : Pt.clean r.p.data.toList with ⟨cl, q2, ce⟩
 rw [hcl] at HCL HCZ HRAW HFL
 simp only at HCL HCZ HRAW HFL
 unfold clV17 at HCL
 simp only at HCL
 obtain ⟨cb, hcb⟩ : ∃ cb : ByteArray, (⟨cl.toArray⟩ : ByteArray) = cb := ⟨_, rfl⟩
 have hcbl : cl = cb.data.toList := by rw [← hcb]
 rw [hcb] at HCL
 subst hcbl
 have HCS3 : Hid (cb.data.toList.length ≤ 1048573) := hid' (by have h1 := HCZ.out; have h2 := hq.p; rw [Lib.size_eq] at h2; omega)
 have HCS : Hid (cb.size ≤ 1048576) := hid' (by have h1 := HCZ.out; have h2 := hq.p; rw [Lib.size_eq] at *; omega)
 obtain ⟨m, sc, au, p, fs, b, ts⟩ := r
 simp only at HF HTV HCL HRAW HFL
 unfold rqC
 simp only
 clear h hc hf htv hbr hq hes hT hcb hcl
 go_enter Tryz.func23, Tryz.ntmps23
 go_wp2_with (refine wpl_box 25 _ rfl rfl #[.string m, .string sc, .string au, .string p, fv, .string b, tv] (by kernel_rfl) ?_)
 intro xb w1 hg1 ha1 hb1
 have HX1 := hid' ha1
 have HB1 := hid' hb1
 clear hg1 ha1 hb1
 go_wp2_with (refine wpl_alloc 42 rfl rfl _ zeroRp19 ?_)
 intro rb w2 hrb ha2 hl2
 have HA2 := hid' ha2
 have HB2 := hid' (below_two HB1.out hl2)
 have HX2 := hid' (HX1.out.keep hl2)
 have HRB := hid' (Nat.le_trans HB1.out.size hrb)
 have HRL := hid' ha2.lt
 have x3 := HX2.out.cell 3 _ rfl
 clear hrb ha2 hl2 HX1 HB1
 cases c1 : (p.toList == [42])
 ·have HR1 : Hid (A = if ce == 0 then Ap.met l (Rt.find (l.map (·.1)) m.data.toList cb.data.toList) es ⟨m, sc, au, p, fs, b, ts⟩ cb.data.toList else Ap.of (Fs.plain 400 [])) := hid' (by rw [HRAW.out, show (p.data.toList == [42]) = false by have h := c1; rw [ba_list] at h; exact h]; rfl)
  clear HRAW
  go_wp2_with fail
  refine (HCL.out w2).mono ?_
  rintro e w3 ⟨rfl, hb3⟩
  have HX3 := hid' (HX2.out.keep hb3)
  have HA3 := hid' (HA2.out.keep hb3)
  have HB3 := hid' hb3
  have HW3 := hid' (below_two HB2.out hb3)
  clear hb3 HCL x3
  cases c2 : (ce == 0)
  ·have HE : Hid (A = Ap.of (Fs.plain 400 [])) := hid' (by rw [HR1.out, c2]; rfl)
   have c3 : (ce != 0) = true := by unfold bne; rw [c2]; rfl
   clear HR1 HFL
   go_wp2_with fail
   refine (HPP.out 400 (by decide) (by decide) w3 (tb_below19 HT.out HW3.out)).mono ?_
   rintro e wp ⟨⟨vo, n, vc, rfl, hn, ho⟩, hbp⟩
   have HNP := hid' hn
   have HOP := hid' (own_base19 ho (HB3.out).size)
   have HBP := hid' (below_from (HB3.out) hbp (HB3.out).size)
   have HAP := hid' ((HA3.out).keep hbp)
   clear hn ho hbp
   obtain ⟨bd, hbd⟩ : ∃ bd : ByteArray, (⟨(Fs.plain 400 []).b.toArray⟩ : ByteArray) = bd := ⟨_, rfl⟩
   rw [show (Fs.plain 400 []).s = 400 from rfl, hbd]
   have HBD := hid' hbd
   clear hbd
   unfold rpC
   go_wp2_with (refine wpl_store 42 _ _ rfl rfl rb #[.int .i64 400, .slice vo n vc, .string bd, .slice none 0 0] (by kernel_rfl) (by kernel_rfl) _ _ HAP.out sizeRp19 rfl (by simp [Value.oneCell']) ?_)
   intro wf hwf huf
   go_wp2
   have hld := ldRp19 hwf
   rw [HE.out]
   exact bodyPost_ret (v := .agg #[.int .i64 400, .slice vo n vc, .string bd, .slice none 0 0]) (by simp [results, Tryz.results23, asAddr, hld]) rfl (rp_done20 (Ap.of (Fs.plain 400 [])) rfl HBD.out HB2.out HRL.out HRB.out HBP.out HNP.out HOP.out rfl (World.ownsRow_nil _ _ _ _) huf)
  ·have c3 : (ce != 0) = false := by unfold bne; rw [c2]; rfl
   have HR2 : Hid (A = Ap.met l (Rt.find (l.map (·.1)) m.data.toList cb.data.toList) es ⟨m, sc, au, p, fs, b, ts⟩ cb.data.toList) := hid' (by rw [HR1.out, c2]; rfl)
   obtain ⟨Q, hQ⟩ : ∃ Q, Rt.find (l.map (·.1)) m.data.toList cb.data.toList = Q := ⟨_, rfl⟩
   have HFI : Hid (∀ (rt : Nat) W, RT18 W B rt (l.map (·.1)) → Calls Tryz.prog 39 #[.pointer (some ⟨rt, 0, none⟩), .string m, .string cb] W fun e w' => mtR18 W Q e w' ∧ Below W.heap.size W w') := hid' (fun rt W hW => by rw [← hQ]; exact cfind18 B rt _ m _ rfl cb _ rfl (by have := HCS.out; omega) W hW)
   rw [hQ] at HR2 HFL
   obtain ⟨rt, so, sn, sq, h1, h2, h3, h4, h5, h6⟩ := HAW.out.below HW3.out
   have HAA := hid' h1
   have HLN := hid' h3
   have HTG := hid' h4
   have HRT := hid' h5
   have HHD := hid' h6
   clear h1 h2 h3 h4 h5 h6 hQ HR1
   go_upto_region 8 with fail
   go_cut [10] from 29 to 37 (fun sd wx => ∃ mb pm po pc, sd = .pointer (some ⟨mb, 0, none⟩) ∧ Hid (MM20 w3 mb Q pm po pc wx))
   case first =>
    refine wp_region_held_drew (S := fun W => Below w3.heap.size w3 W) (by kernel_rfl) (show Below w3.heap.size w3 w3.drew from (Below.refl _ _).drew) (fun hHeld => ?_)
    refine take_d19 (i := 0) (d := some 29) (v := ?_) rfl rfl (by kernel_rfl) (by kernel_rfl) (by kernel_rfl) (fun _ _ _ h => h) (Or.inl ⟨by rfl, ?_⟩) (by assumption) ?_
    rotate_left
    ·intro w hSw
     go_simp
     try with_reducible rfl
    refine take_d19 (i := 1) (d := some 30) (v := ?_) rfl rfl (by kernel_rfl) (by kernel_rfl) (by kernel_rfl) (fun _ _ _ h => h) (Or.inl ⟨by rfl, ?_⟩) (by assumption) ?_
    rotate_left
    ·intro w hSw
     go_simp
     try with_reducible rfl
    refine take_d19 (i := 2) (d := some 31) (v := ?_) rfl rfl (by kernel_rfl) (by kernel_rfl) (by kernel_rfl) (fun _ _ _ h => h) (Or.inl ⟨by rfl, ?_⟩) (by assumption) ?_
    rotate_left
    ·intro w hSw
     go_simp
     try with_reducible rfl
    refine take_d19 (i := 3) (d := some 32) (v := ?_) rfl rfl (by kernel_rfl) (by kernel_rfl) (by kernel_rfl) (fun _ _ _ h => h) (Or.inl ⟨by rfl, ?_⟩) (by assumption) ?_
    rotate_left
    ·intro w hSw
     (try dsimp only at hSw)
     have d0 := (HAA.out.keep hSw).cell 0 _ rfl
     go_simp
     try with_reducible rfl
    refine take_d19 (i := 4) (d := some 33) (v := ?_) rfl rfl (by kernel_rfl) (by kernel_rfl) (by kernel_rfl) (fun _ _ _ h => h) (Or.inl ⟨by rfl, ?_⟩) (by assumption) ?_
    rotate_left
    ·intro w hSw
     go_simp
     try with_reducible rfl
    refine take_d19 (i := 5) (d := some 34) (v := ?_) rfl rfl (by kernel_rfl) (by kernel_rfl) (by kernel_rfl) (fun _ _ _ h => h) (Or.inl ⟨by rfl, ?_⟩) (by assumption) ?_
    rotate_left
    ·intro w hSw
     (try dsimp only at hSw)
     have c0 := (HX3.out.keep hSw).cell 0 _ rfl
     go_simp
     try with_reducible rfl
    refine take_d19 (i := 6) (d := some 35) (v := ?_) rfl rfl (by kernel_rfl) (by kernel_rfl) (by kernel_rfl) (fun _ _ _ h => h) (Or.inl ⟨by rfl, ?_⟩) (by assumption) ?_
    rotate_left
    ·intro w hSw
     go_simp
     try with_reducible rfl
    try simp only [Act.put, zA, zB, zC]
    refine wpAnyH_ready (rs := [7, 8]) (by kernel_rfl) (by simp) ?_
    refine AllReadyH.cons rfl (fun K hK => ?_) (AllReadyH.cons rfl (fun K hK => ?_) AllReadyH.nil)
    ·go_simp
     refine (HFI.out rt w3.drew (HRT.out.below hHeld)).mono ?_
     rintro e wA ⟨⟨pm, po, pc, rfl, hpm, hpo⟩, hbwA⟩
     go_wp2_with fail
     refine hK.out _ _ (below_two hHeld hbwA) (fun h2 => ?_)
     clear hK K
     try simp only [Act.put, zA, zB, zC]
     refine wpAnyH_ready (rs := [8]) (by kernel_rfl) (by simp) ?_
     refine AllReadyH.cons rfl (fun K hK => ?_) AllReadyH.nil
     go_simp
     refine hK.out _ _ (below_two h2 (bl_alloc19 wA _)) (fun h3 => ?_)
     clear hK K
     try simp only [Act.put, zA, zB, zC]
     refine wpAnyH_ready (rs := [9]) (by kernel_rfl) (by simp) ?_
     refine AllReadyH.cons rfl (fun K hK => ?_) AllReadyH.nil
     refine step_store19 rfl 105 _ _ rfl wA.heap.size #[.int .i64 Q.st, .int .i64 Q.ro, .slice po pm pc, .string ⟨Q.al.toArray⟩] rfl rfl 105 _ (heap_alloc_last wA _) sizeMt18 rfl (by simp [Value.oneCell']) ?_
     intro wf haf huf
     have hmb := MM20.one (w1 := w3.drew) hHeld hbwA hpm hpo haf huf
     refine hK.out _ _ hmb.bel (fun _ => ?_)
     clear hK K
     try simp only [Act.put]
     refine wpAnyH_done (by kernel_rfl) ?_ _
     go_wp2_with fail
     go_meet
     exact ⟨_, _, _, _, rfl, hid' hmb⟩
    ·go_simp
     refine hK.out _ _ (below_two hHeld (bl_alloc19 w3.drew _)) (fun h2 => ?_)
     clear hK K
     try simp only [Act.put, zA, zB, zC]
     refine wpAnyH_ready (rs := [7]) (by kernel_rfl) (by simp) ?_
     refine AllReadyH.cons rfl (fun K hK => ?_) AllReadyH.nil
     go_simp
     refine (HFI.out rt (w3.drew.alloc _) (HRT.out.below h2)).mono ?_
     rintro e wA ⟨⟨pm, po, pc, rfl, hpm, hpo⟩, hbwA⟩
     go_wp2_with fail
     refine hK.out _ _ (below_two h2 hbwA) (fun h3 => ?_)
     clear hK K
     try simp only [Act.put, zA, zB, zC]
     refine wpAnyH_ready (rs := [9]) (by kernel_rfl) (by simp) ?_
     refine AllReadyH.cons rfl (fun K hK => ?_) AllReadyH.nil
     refine step_store19 rfl 105 _ _ rfl w3.heap.size #[.int .i64 Q.st, .int .i64 Q.ro, .slice po pm pc, .string ⟨Q.al.toArray⟩] rfl rfl 105 _ (Ar.keep (heap_alloc_last w3.drew (.cells #[.int .i64 0, .int .i64 0, .slice none 0 0, .string ⟨#[]⟩] 105)) hbwA) sizeMt18 rfl (by simp [Value.oneCell']) ?_
     intro wf haf huf
     have hmb := MM20.two h2 (Nat.le_refl _) (by simp) hbwA hpm hpo haf huf
     refine hK.out _ _ hmb.bel (fun _ => ?_)
     clear hK K
     try simp only [Act.put]
     refine wpAnyH_done (by kernel_rfl) ?_ _
     go_wp2_with fail
     go_meet
     exact ⟨_, _, _, _, rfl, hid' hmb⟩
   case rest =>
    obtain ⟨mb, pm, po, pc, rfl, HM⟩ := hcut
    generalize wc = w4 at *
    have HX4 := hid' (HX3.out.keep HM.out.bel)
    have HA4 := hid' (HA3.out.keep HM.out.bel)
    have HB4 := hid' (below_two HB3.out HM.out.bel)
    have HW4 := hid' (below_two HW3.out HM.out.bel)
    have HAA4 := hid' (HAA.out.keep HM.out.bel)
    have HTG4 := hid' (own_kp17 HTG.out HM.out.bel)
    have HM4 := hid' HM.out.at'
    have HPO := hid' HM.out.own
    have HPM := hid' HM.out.len
    clear HM HX3 HA3 HB3 HW3 HAA HTG HRT HFI HX2
    obtain ⟨st, ro, pl, al⟩ := Q
    simp only at HM4 HPO HPM
    rcases HFL.out with he | ⟨a2, he⟩ | ⟨a2, he⟩ | ⟨k, rr, hk, he⟩
    ·injection he with e1 e2 e3 e4
     subst e1 e2 e3 e4
     have m0 := HM4.out.cell 0 _ rfl
     have m1 := HM4.out.cell 1 _ rfl
     clear HFL
     have HE : Hid (A = Ap.of (Fs.plain 404 [])) := hid' (by rw [HR2.out]; rfl)
     clear HR2
     go_wp2_with fail
     refine (HPP.out 404 (by decide) (by decide) w4 (tb_below19 HT.out HW4.out)).mono ?_
     rintro e wp ⟨⟨vo, n, vc, rfl, hn, ho⟩, hbp⟩
     have HNP := hid' hn
     have HOP := hid' (own_base19 ho (HB4.out).size)
     have HBP := hid' (below_from (HB4.out) hbp (HB4.out).size)
     have HAP := hid' ((HA4.out).keep hbp)
     clear hn ho hbp
     obtain ⟨bd, hbd⟩ : ∃ bd : ByteArray, (⟨(Fs.plain 404 []).b.toArray⟩ : ByteArray) = bd := ⟨_, rfl⟩
     rw [show (Fs.plain 404 []).s = 404 from rfl, hbd]
     have HBD := hid' hbd
     clear hbd
     unfold rpC
     go_wp2_with (refine wpl_store 42 _ _ rfl rfl rb #[.int .i64 404, .slice vo n vc, .string bd, .slice none 0 0] (by kernel_rfl) (by kernel_rfl) _ _ HAP.out sizeRp19 rfl (by simp [Value.oneCell']) ?_)
     intro wf hwf huf
     go_wp2
     have hld := ldRp19 hwf
     rw [HE.out]
     exact bodyPost_ret (v := .agg #[.int .i64 404, .slice vo n vc, .string bd, .slice none 0 0]) (by simp [results, Tryz.results23, asAddr, hld]) rfl (rp_done20 (Ap.of (Fs.plain 404 [])) rfl HBD.out HB2.out HRL.out HRB.out HBP.out HNP.out HOP.out rfl (World.ownsRow_nil _ _ _ _) huf)
    ·injection he with e1 e2 e3 e4
     subst e1 e2 e3 e4
     have m0 := HM4.out.cell 0 _ rfl
     have m1 := HM4.out.cell 1 _ rfl
     clear HFL
     have HE : Hid (A = Ap.of (Fs.plain 405 [Fs.fd Fs.nAL al])) := hid' (by rw [HR2.out]; rfl)
     clear HR2
     obtain ⟨ab2, hab2⟩ : ∃ ab2 : ByteArray, (⟨al.toArray⟩ : ByteArray) = ab2 := ⟨_, rfl⟩
     rw [hab2] at HM4
     have m2 := HM4.out.cell 2 _ rfl
     have m3 := HM4.out.cell 3 _ rfl
     have hfd : Fs.fd Fs.nAL al = ⟨Fs.str Fs.nAL, ab2⟩ := by rw [← hab2]; rfl
     rw [hfd] at HE
     have HAL := hid' (fun W => callow20 405 (-1) (.slice po pm pc) ab2 W)
     clear hab2 hfd
     go_wp2_with fail
     refine (HAL.out w4).mono ?_
     rintro e w5 ⟨rfl, hb5⟩
     have HA5 := hid' (HA4.out.keep hb5)
     have HB5 := hid' (below_two HB4.out hb5)
     have HW5 := hid' (below_two HW4.out hb5)
     clear hb5
     have HOW : Hid ((w5.alloc (.cells (fC [⟨Fs.str Fs.nAL, ab2⟩]).toArray 39)).ownsRow w2.heap.size 39 2 (.slice (some ⟨w5.heap.size, 0, none⟩) 1 1) 1 (fC [⟨Fs.str Fs.nAL, ab2⟩])) := hid' (own_lit19 w5 _ _ 1 2 rfl (by decide) _ HB5.out.size)
     have HFW : Hid (FW (w5.alloc (.cells (fC [⟨Fs.str Fs.nAL, ab2⟩]).toArray 39)) (.slice (some ⟨w5.heap.size, 0, none⟩) 1 1) [⟨Fs.str Fs.nAL, ab2⟩]) := hid' (fw_lit19 w5 _ 1 rfl (by decide))
     have hb6 := bl_alloc19 w5 (.cells (fC [⟨Fs.str Fs.nAL, ab2⟩]).toArray 39)
     have HA6 := hid' (HA5.out.keep hb6)
     have HB6 := hid' (below_two HB5.out hb6)
     have HW6 := hid' (below_two HW5.out hb6)
     clear hb6
     have HP5 := hid' (fun W (hW : FW W (.slice (some ⟨w5.heap.size, 0, none⟩) 1 1) [⟨Fs.str Fs.nAL, ab2⟩]) (h : TB19 W) => cplain19 405 (.slice (some ⟨w5.heap.size, 0, none⟩) 1 1) [⟨Fs.str Fs.nAL, ab2⟩] W (by decide) (by decide) hW (Nat.le_of_ble_eq_true rfl) h)
     go_wp2_with fail
     refine (HP5.out _ HFW.out (tb_below19 HT.out HW6.out)).mono ?_
     rintro e wp ⟨⟨vo, n, vc, rfl, hn, ho⟩, hbp⟩
     have HNP := hid' hn
     have HOP := hid' (own_base19 ho (HB6.out).size)
     have HBP := hid' (below_from (HB6.out) hbp (HB6.out).size)
     have HAP := hid' ((HA6.out).keep hbp)
     clear hn ho hbp
     obtain ⟨bd, hbd⟩ : ∃ bd : ByteArray, (⟨(Fs.plain 405 [⟨Fs.str Fs.nAL, ab2⟩]).b.toArray⟩ : ByteArray) = bd := ⟨_, rfl⟩
     rw [show (Fs.plain 405 [⟨Fs.str Fs.nAL, ab2⟩]).s = 405 from rfl, hbd]
     have HBD := hid' hbd
     clear hbd
     unfold rpC
     go_wp2_with (refine wpl_store 42 _ _ rfl rfl rb #[.int .i64 405, .slice vo n vc, .string bd, .slice none 0 0] (by kernel_rfl) (by kernel_rfl) _ _ HAP.out sizeRp19 rfl (by simp [Value.oneCell']) ?_)
     intro wf hwf huf
     go_wp2
     have hld := ldRp19 hwf
     rw [HE.out]
     exact bodyPost_ret (v := .agg #[.int .i64 405, .slice vo n vc, .string bd, .slice none 0 0]) (by simp [results, Tryz.results23, asAddr, hld]) rfl (rp_done20 (Ap.of (Fs.plain 405 [⟨Fs.str Fs.nAL, ab2⟩])) rfl HBD.out HB2.out HRL.out HRB.out HBP.out HNP.out HOP.out rfl (World.ownsRow_nil _ _ _ _) huf)
    ·injection he with e1 e2 e3 e4
     subst e1 e2 e3 e4
     have m0 := HM4.out.cell 0 _ rfl
     have m1 := HM4.out.cell 1 _ rfl
     clear HFL
     have HE : Hid (A = ⟨204, [Fs.fd Fs.nAL al], [], []⟩) := hid' (by rw [HR2.out]; rfl)
     clear HR2
     obtain ⟨ab2, hab2⟩ : ∃ ab2 : ByteArray, (⟨al.toArray⟩ : ByteArray) = ab2 := ⟨_, rfl⟩
     rw [hab2] at HM4
     have m2 := HM4.out.cell 2 _ rfl
     have m3 := HM4.out.cell 3 _ rfl
     have hfd : Fs.fd Fs.nAL al = ⟨Fs.str Fs.nAL, ab2⟩ := by rw [← hab2]; rfl
     rw [hfd] at HE
     have HAL := hid' (fun W => callow20 200 (-1) (.slice po pm pc) ab2 W)
     clear hab2 hfd
     go_wp2_with fail
     refine (HAL.out w4).mono ?_
     rintro e w5 ⟨rfl, hb5⟩
     have HA5 := hid' (HA4.out.keep hb5)
     have HB5 := hid' (below_two HB4.out hb5)
     have HW5 := hid' (below_two HW4.out hb5)
     clear hb5
     have HOW : Hid ((w5.alloc (.cells (fC [⟨Fs.str Fs.nAL, ab2⟩]).toArray 39)).ownsRow w2.heap.size 39 2 (.slice (some ⟨w5.heap.size, 0, none⟩) 1 1) 1 (fC [⟨Fs.str Fs.nAL, ab2⟩])) := hid' (own_lit19 w5 _ _ 1 2 rfl (by decide) _ HB5.out.size)
     have HFW : Hid (FW (w5.alloc (.cells (fC [⟨Fs.str Fs.nAL, ab2⟩]).toArray 39)) (.slice (some ⟨w5.heap.size, 0, none⟩) 1 1) [⟨Fs.str Fs.nAL, ab2⟩]) := hid' (fw_lit19 w5 _ 1 rfl (by decide))
     have hb6 := bl_alloc19 w5 (.cells (fC [⟨Fs.str Fs.nAL, ab2⟩]).toArray 39)
     have HA6 := hid' (HA5.out.keep hb6)
     have HB6 := hid' (below_two HB5.out hb6)
     have HW6 := hid' (below_two HW5.out hb6)
     clear hb6
     go_wp2_with (refine wpl_store 42 _ _ rfl rfl rb #[.int .i64 204, .slice (some ⟨w5.heap.size, 0, none⟩) 1 1, .string ⟨#[]⟩, .slice none 0 0] (by kernel_rfl) (by kernel_rfl) _ _ HA6.out sizeRp19 rfl (by simp [Value.oneCell']) ?_)
     intro wf hwf huf
     go_wp2
     have hld := ldRp19 hwf
     rw [HE.out]
     exact bodyPost_ret (v := .agg #[.int .i64 204, .slice (some ⟨w5.heap.size, 0, none⟩) 1 1, .string ⟨#[]⟩, .slice none 0 0]) (by simp [results, Tryz.results23, asAddr, hld]) rfl (rp_done20 ((⟨204, [⟨Fs.str Fs.nAL, ab2⟩], [], []⟩ : Ap.Rp)) rfl rfl HB2.out HRL.out HRB.out HB6.out rfl HOW.out rfl (World.ownsRow_nil _ _ _ _) huf)
    ·injection he with e1 e2 e3 e4
     subst e1 e2 e3 e4
     obtain ⟨x, hx, hxr⟩ : ∃ x, l[k]? = some x ∧ x.1 = rr := by rw [List.getElem?_map, Option.map_eq_some_iff] at hk; exact hk
     subst hxr
     have hkl : k < sn := by rw [← HLN.out]; exact (List.getElem?_eq_some_iff.1 hx).1
     have HE : Hid (A = Ap.by' x es ⟨m, sc, au, p, fs, b, ts⟩ cb.data.toList (Rt.caught (Rt.pat x.1) (Pt.parts cb.data.toList) (Rt.ends cb.data.toList))) := hid' (by
      rw [HR2.out]
      unfold Ap.met
      rw [if_neg (show ¬ ((200 : Int) == 404) = true by decide), if_neg (show ¬ ((200 : Int) == 405) = true by decide), if_neg (by simp only; omega)]
      simp only [Int.toNat_natCast, hx])
     have HCZ2 := hid' (Ap.caught_size x.1 cb.data.toList)
     generalize Rt.caught (Rt.pat x.1) (Pt.parts cb.data.toList) (Rt.ends cb.data.toList) = ps at *
     obtain ⟨g, hso, hgl, t0, t1⟩ := own_tg20 HTG4.out k x hx
     subst hso
     have HGL := hid' hgl
     have HT0 := hid' t0
     have HT1 := hid' t1
     have HXM := hid' (List.mem_of_getElem? hx)
     have hki : (k : Int) < (sn : Int) := by omega
     have hk0 : ¬ (k : Int) < 0 := by omega
     have m0 := HM4.out.cell 0 _ rfl
     have m1 := HM4.out.cell 1 _ rfl
     clear hk hx HFL HR2 hgl t0 t1 hkl
     go_upto_region 15 with fail
     clear m0 m1
     have HXZ : Hid (x.2.size ≤ 1048576) := hid' (HBR.out.2 x HXM.out)
     have HHX := hid' (HHD.out x HXM.out)
     have HBD4 := hid' (HBR.out.1 x HXM.out)
     refine wp_region_held_drew (S := fun W => Below w4.heap.size w4 W) (by kernel_rfl) (show Below w4.heap.size w4 w4.drew from (Below.refl _ _).drew) (fun hHeld => ?_)
     refine take_d19 (i := 0) (d := some 58) (v := ?_) rfl rfl (by kernel_rfl) (by kernel_rfl) (by kernel_rfl) (fun _ _ _ h => h) (Or.inl ⟨by rfl, ?_⟩) (by assumption) ?_
     rotate_left
     ·intro w hSw
      go_simp
      try with_reducible rfl
     refine take_d19 (i := 1) (d := some 59) (v := ?_) rfl rfl (by kernel_rfl) (by kernel_rfl) (by kernel_rfl) (fun _ _ _ h => h) (Or.inl ⟨by rfl, ?_⟩) (by assumption) ?_
     rotate_left
     ·intro w hSw
      go_simp
      try with_reducible rfl
     refine take_d19 (i := 2) (d := some 60) (v := ?_) rfl rfl (by kernel_rfl) (by kernel_rfl) (by kernel_rfl) (fun _ _ _ h => h) (Or.inl ⟨by rfl, ?_⟩) (by assumption) ?_
     rotate_left
     ·intro w hSw
      go_simp
      try with_reducible rfl
     refine take_d19 (i := 3) (d := some 61) (v := ?_) rfl rfl (by kernel_rfl) (by kernel_rfl) (by kernel_rfl) (fun _ _ _ h => h) (Or.inl ⟨by rfl, ?_⟩) (by assumption) ?_
     rotate_left
     ·intro w hSw
      (try dsimp only at hSw)
      have d1 := (HAA4.out.keep hSw).cell 1 _ rfl
      go_simp
      try with_reducible rfl
     refine take_d19 (i := 4) (d := some 62) (v := ?_) rfl rfl (by kernel_rfl) (by kernel_rfl) (by kernel_rfl) (fun _ _ _ h => h) (Or.inl ⟨by rfl, ?_⟩) (by assumption) ?_
     rotate_left
     ·intro w hSw
      go_simp
      try with_reducible rfl
     refine take_d19 (i := 5) (d := some 63) (v := ?_) rfl rfl (by kernel_rfl) (by kernel_rfl) (by kernel_rfl) (fun _ _ _ h => h) (Or.inl ⟨by rfl, ?_⟩) (by assumption) ?_
     rotate_left
     ·intro w hSw
      (try dsimp only at hSw)
      have m1 := (HM4.out.keep hSw).cell 1 _ rfl
      go_simp
      try with_reducible rfl
     refine take_d19 (i := 6) (d := some 64) (v := ?_) rfl rfl (by kernel_rfl) (by kernel_rfl) (by kernel_rfl) (fun _ _ _ h => h) (Or.inl ⟨by rfl, ?_⟩) (by assumption) ?_
     rotate_left
     ·intro w hSw
      go_simp
      try with_reducible rfl
     refine take_d19 (i := 7) (d := some 65) (v := ?_) rfl rfl (by kernel_rfl) (by kernel_rfl) (by kernel_rfl) (fun _ _ _ h => h) (Or.inl ⟨by rfl, ?_⟩) (by assumption) ?_
     rotate_left
     ·intro w hSw
      (try dsimp only at hSw)
      have t0 := (hSw.cell (p := ⟨g, k * 2, none⟩) HGL.out).trans HT0.out
      have t1 := (hSw.cell (p := ⟨g, k * 2 + 1, none⟩) HGL.out).trans HT1.out
      go_simp
      try with_reducible rfl
     try simp only [Act.put, zA, zB, zC]
     refine wpAnyH_ready (rs := [8]) (by kernel_rfl) (by simp) ?_
     refine AllReadyH.cons rfl (fun K hK => ?_) AllReadyH.nil
     go_simp
     refine hK.out _ _ (below_two hHeld (bl_alloc19 _ _)) (fun h2 => ?_)
     clear hK K
     try simp only [Act.put, zA, zB, zC]
     refine wpAnyH_ready (rs := [9]) (by kernel_rfl) (by simp) ?_
     refine AllReadyH.cons rfl (fun K hK => ?_) AllReadyH.nil
     refine step_store19 rfl 64 _ _ rfl w4.heap.size #[.int .u8 x.1.h, .string x.2] rfl rfl 64 _ (heap_alloc_last w4.drew _) sizeTg20 rfl (by simp [Value.oneCell']) ?_
     intro w5 ha5 hu5
     refine hK.out _ _ (h2.trans (hu5.below (Nat.le_refl _))) (fun h3 => ?_)
     clear hK K
     try simp only [Act.put]
     refine wpAnyH_done (by kernel_rfl) ?_ _
     have HG5 := hid' ha5
     have HL5 := hid' h3
     have HX5 := hid' (HX4.out.keep h3)
     have HA5 := hid' (HA4.out.keep h3)
     have HB5 := hid' (below_two HB4.out h3)
     have HW5 := hid' (below_two HW4.out h3)
     have HM5 := hid' (HM4.out.keep h3)
     have HPO5 := hid' (own_kp17 HPO.out h3)
     clear ha5 hu5 h2 h3 hHeld
     obtain ⟨tb, htb⟩ : ∃ tb, w4.heap.size = tb := ⟨_, rfl⟩
     rw [htb] at HG5 ⊢
     clear htb
     have g0 := HG5.out.cell 0 _ rfl
     have g1 := HG5.out.cell 1 _ rfl
     have m2 := HM5.out.cell 2 _ rfl
     have x0 := HX5.out.cell 0 _ rfl
     have x1 := HX5.out.cell 1 _ rfl
     have x2 := HX5.out.cell 2 _ rfl
     have x3 := HX5.out.cell 3 _ rfl
     have x4 := HX5.out.cell 4 _ rfl
     have x5 := HX5.out.cell 5 _ rfl
     have x6 := HX5.out.cell 6 _ rfl
     have HND := hid' (chandled20 x HHX.out.1 HHX.out.2 B' sb KD q es ⟨m, sc, au, p, fs, b, ts⟩ fv tv cb po pm pc w3.heap.size ps w5 (HC.out.keep HW5.out) (HF.out.keep HW5.out) (HTV.out.keep HW5.out) HQ.out HXZ.out HCS.out HES.out HPM.out HPO5.out (by have h1 := HCZ2.out.1; have h2 := HBD4.out.1; have h3 := HPM.out; omega) (fun c hc => by have h1 := HCZ2.out.2 c hc; have h2 := HBD4.out.1; have h3 := HCS3.out; omega) (tb_below19 HT.out HW5.out))
     unfold cC20 at HND
     simp only at HND
     generalize Ap.by' x es ⟨m, sc, au, p, fs, b, ts⟩ cb.data.toList ps = AA at *
     go_wp2_with fail
     refine HND.out.mono ?_
     rintro e w6 ⟨⟨vo, n, vc, uo, k2, uc, rfl, hn, ho, hk, hp⟩, hb6⟩
     have HA6 := hid' (HA5.out.keep hb6)
     have HB6 := hid' (below_two HB5.out hb6)
     have HO6 := hid' (own_base19 ho HB5.out.size)
     have HP6 := hid' (own_base19 hp HB5.out.size)
     clear ho hp hb6
     unfold rpC
     obtain ⟨bd, hbd⟩ : ∃ bd : ByteArray, (⟨AA.b.toArray⟩ : ByteArray) = bd := ⟨_, rfl⟩
     obtain ⟨sd, hsd⟩ : ∃ sd : Int, AA.s = sd := ⟨_, rfl⟩
     rw [hbd, hsd]
     have HBD := hid' hbd
     have HSD := hid' hsd
     clear hbd hsd
     go_wp2_with (refine wpl_store 42 _ _ rfl rfl rb #[.int .i64 sd, .slice vo n vc, .string bd, .slice uo k2 uc] (by kernel_rfl) (by kernel_rfl) _ _ HA6.out sizeRp19 rfl (by simp [Value.oneCell']) ?_)
     intro wf hwf huf
     go_wp2
     have hld := ldRp19 hwf
     rw [HE.out]
     exact bodyPost_ret (v := .agg #[.int .i64 sd, .slice vo n vc, .string bd, .slice uo k2 uc]) (by simp [results, Tryz.results23, asAddr, hld]) rfl (rp_done20 (AA) HSD.out HBD.out HB2.out HRL.out HRB.out HB6.out hn HO6.out hk HP6.out huf)
 ·have HE : Hid (A = ⟨204, [], [], []⟩) := hid' (by rw [HRAW.out, show (p.data.toList == [42]) = true by have h := c1; rw [ba_list] at h; exact h]; rfl)
  clear HRAW HFL HCL
  go_wp2_with (refine wpl_store 42 _ _ rfl rfl rb #[.int .i64 204, .slice none 0 0, .string ⟨#[]⟩, .slice none 0 0] (by kernel_rfl) (by kernel_rfl) _ _ HA2.out sizeRp19 rfl (by simp [Value.oneCell']) ?_)
  intro wf hwf huf
  go_wp2
  have hld := ldRp19 hwf
  rw [HE.out]
  exact bodyPost_ret (v := .agg #[.int .i64 204, .slice none 0 0, .string ⟨#[]⟩, .slice none 0 0]) (by simp [results, Tryz.results23, asAddr, hld]) rfl (rp_done20 ((⟨204, [], [], []⟩ : Ap.Rp)) rfl rfl HB2.out HRL.out HRB.out (Below.refl _ w2) rfl (World.ownsRow_nil _ _ _ _) rfl (World.ownsRow_nil _ _ _ _) huf)

end Go.Proofs.YtcfbobegbmcbeaaGreatDoor
