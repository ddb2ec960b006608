import Derived.Test.YtcfbobegbmcbeaaGreatDoorPkBR
namespace Go.Proofs.YtcfbobegbmcbeaaGreatDoor
set_option maxHeartbeats 64000000
open Go.RowKit
theorem sizeRq20 : (Tryz.prog.info? 25).map (·.size) = some 7 := by kernel_rfl

set_option maxRecDepth 20000 in
theorem appHeads_any {AP : World → Nat → Nat → Nat → List Fr18 → Prop} (kA : AK20 AP) (hN : NewC20 AP) (hA : AnsC20 AP) (v : Value) (l : List Dk.En) (w : World) (hw : EW19 w v l) (hl : l.length ≤ 1048576) (hb : ∀ e ∈ l, e.path.size ≤ 1048576 ∧ e.body.size ≤ 1048576) (r : Ap.Rq) (fv tv : Value) (hf : FW w fv r.fs) (ht : FW w tv r.ts) (hq : BQ20 r) (hT : TB19 w) :
  Calls Tryz.prog 3 #[v, .agg (rqC r.m r.sc r.au r.p fv r.b tv)] w fun e w' => e = .returned (.bool true) ∧ Below w.heap.size w w' := by
 obtain ⟨fo, fc, hv⟩ := hf.shape
 obtain ⟨fn, hfn⟩ : ∃ fn, r.fs.length = fn := ⟨_, rfl⟩
 rw [hfn] at hv
 subst hv
 obtain ⟨uo, uc, hv⟩ := ht.shape
 obtain ⟨un, hun⟩ : ∃ un, r.ts.length = un := ⟨_, rfl⟩
 rw [hun] at hv
 subst hv
 have hfb : fn ≤ 1048576 := by rw [← hfn]; exact hq.fl
 have HAW := hid' (fun W (h : TB19 W) => awake20 kA hN hA W h)
 have KA := hid' kA
 have HN := hid' hN
 have HA := hid' hA
 have HT := hid' hT
 have HBO := hid' (fun W (h : EW19 W v l) => cboth20 v l W h hl hb)
 have HW := hid' hw
 have HF := hid' hf
 have HTV := hid' ht
 have HQ := hid' hq
 have HFN := hid' hfn
 obtain ⟨m, sc, au, p, fs, b, ts⟩ := r
 simp only at HF HTV HFN
 clear kA hN hA hT hw hl hb hf ht hq hfn hun
 unfold rqC
 go_enter Tryz.func3, Tryz.ntmps3
 have HX1 : Hid (Ar (w.alloc (.cells #[.string m, .string sc, .string au, .string p, .slice fo fn fc, .string b, .slice uo un uc] 25)) w.heap.size 25 #[.string m, .string sc, .string au, .string p, .slice fo fn fc, .string b, .slice uo un uc]) := hid' (heap_alloc_last w _)
 have HB1 := hid' (bl_alloc19 w (.cells #[.string m, .string sc, .string au, .string p, .slice fo fn fc, .string b, .slice uo un uc] 25))
 have HRW : Hid (RW18 ((w.alloc (.cells #[.string m, .string sc, .string au, .string p, .slice fo fn fc, .string b, .slice uo un uc] 25)).alloc (.cells (rC18 Ap.headL).toArray 32)) (.slice (some ⟨w.heap.size + 1, 0, none⟩) 3 3) Ap.headL) := hid' (by
  have h := rw_lit20 (w.alloc (.cells #[.string m, .string sc, .string au, .string p, .slice fo fn fc, .string b, .slice uo un uc] 25)) Ap.headL 3 rfl (by decide)
  rw [show (w.alloc (.cells #[.string m, .string sc, .string au, .string p, .slice fo fn fc, .string b, .slice uo un uc] 25)).heap.size = w.heap.size + 1 by simp] at h
  exact h)
 have HX2 := hid' (HX1.out.keep (bl_alloc19 _ (.cells (rC18 Ap.headL).toArray 32)))
 have HB2 := hid' (below_two HB1.out (bl_alloc19 _ (.cells (rC18 Ap.headL).toArray 32)))
 clear HX1 HB1
 go_wp2_with fail
 refine (HN.out (some ⟨w.heap.size + 1, 0, none⟩) 3 3 Ap.headL _ rfl (by decide) brH20 HRW.out (tb_below19 HT.out HB2.out)).mono ?_
 rintro _ w3 ⟨⟨_, ab, rfl, hap⟩ | ⟨h, _⟩, hb3⟩
 rotate_left
 ·rw [Ap.head_ok] at h; cases h
 obtain ⟨aB, aE, hap⟩ : ∃ aB aE, AP w3 aB aE ab Ap.headL := ⟨_, _, hap⟩
 have HA3 := hid' hap
 have HX3 := hid' (HX2.out.keep hb3)
 have HB3 := hid' (below_from HB2.out hb3 HB2.out.size)
 clear hap hb3 HRW HX2 HB2
 go_wp2_with fail
 refine (HBO.out w3 (ew_keep20 HW.out HB3.out)).mono ?_
 rintro _ w4 ⟨⟨d, K, q, es, ro, rn, rc, rfl, hcd, hen, hq0, hq1⟩, hb4⟩
 have HC4 := hid' hcd
 have HE4 := hid' hen
 have HA4 := hid' (ak_below20 KA.out HA3.out hb4)
 have HX4 := hid' (HX3.out.keep hb4)
 have HB4 := hid' (below_from HB3.out hb4 HB3.out.size)
 have HBC := hid' HB3.out.size
 clear hcd hen hb4 HA3 HX3 HB3
 go_wp2
 go_loopw [9] (fun s9 wr => ∃ (i : Nat), s9 = .int .i64 (i : Int) ∧ i ≤ fn ∧ Hid (∀ j f, j < i → fs[j]? = some f → f.n.data.toList ≠ Fs.nRG) ∧ Hid (Below w4.heap.size w4 wr)) (fun s9 _ => fn - (intOf s9).toNat)
 case atStart => exact ⟨0, rfl, Nat.zero_le _, hid' (fun j f hj => absurd hj (Nat.not_lt_zero _)), hid' (bl_alloc19 w4 _)⟩
 case round =>
  obtain ⟨i, rfl, hi, HI, HBR⟩ := hrel
  have HXR := hid' (HX4.out.keep HBR.out)
  have x4 := HXR.out.cell 4 _ rfl
  by_cases hlt : i < fn
  ·have hlt2 : (i : Int) < (fn : Int) := by omega
   obtain ⟨f, hfi⟩ : ∃ f, fs[i]? = some f := ⟨_, List.getElem?_eq_getElem (by rw [HFN.out]; exact hlt)⟩
   obtain ⟨a, hfo, y0, y1⟩ := (HF.out.keep (below_two HB4.out HBR.out)).two i f hfi
   subst hfo
   have HFI := hid' hfi
   have HLT := hid' hlt
   clear hfi y1 hlt
   have HBW := hid' (below_from HB4.out HBR.out HB4.out.size)
   cases c1 : (f.n.toList == [114, 97, 110, 103, 101])
   ·go_wp2
    go_roundw
    case rel =>
     refine ⟨i + 1, by go_num, by have := HLT.out; omega, hid' (fun j g hj hg => ?_), HBR⟩
     by_cases hji : j < i
     ·exact HI.out j g hji hg
     ·obtain rfl : j = i := by omega
      rw [HFI.out] at hg
      injection hg with hg
      subst hg
      rw [ba_list] at c1
      exact fun he => by rw [he] at c1; exact absurd c1 (by decide)
    case measure => have := HLT.out; simp [intOf]; omega
   ·go_wp2_with fail
    refine (HAW.out _ (tb_below19 HT.out HBW.out)).mono ?_
    rintro _ w5 ⟨rfl, hb⟩
    go_wp2
    go_ret
    exact ⟨rfl, below_from HBW.out hb HBW.out.size⟩
  ·obtain rfl : i = fn := by omega
   have hlt2 : ¬ (i : Int) < (i : Int) := by omega
   have HV : Hid (Tg.vals fs Fs.nRG = []) := hid' (by
    unfold Tg.vals
    rw [List.filter_eq_nil_iff.2 (fun g hg => ?_)]
    ·rfl
    ·obtain ⟨j, hj, he⟩ := List.getElem_of_mem hg
     have := HI.out j g (by rw [← HFN.out]; exact hj) (by rw [List.getElem?_eq_getElem hj, he])
     simpa using this)
   clear hlt HI
   have x0 := HXR.out.cell 0 _ rfl
   have x1 := HXR.out.cell 1 _ rfl
   have x2 := HXR.out.cell 2 _ rfl
   have x3 := HXR.out.cell 3 _ rfl
   have x5 := HXR.out.cell 5 _ rfl
   have x6 := HXR.out.cell 6 _ rfl
   go_wp2_with (refine wpl_alloc 25 rfl rfl #[.string ⟨#[]⟩, .string ⟨#[]⟩, .string ⟨#[]⟩, .string ⟨#[]⟩, .slice none 0 0, .string ⟨#[]⟩, .slice none 0 0] (by kernel_rfl) ?_)
   intro gb wg hgb hag hlg
   clear x0 x1 x2 x3 x4 x5 x6
   have HXG := hid' (HXR.out.keep hlg)
   have HLG := hid' (below_two HBR.out hlg)
   have HGB := hid' hgb
   have HG4 := hid' (Nat.le_trans HBR.out.size hgb)
   have HXN : Hid (w.heap.size ≠ gb) := hid' (by have h1 := HXR.out.lt; omega)
   go_wp2_with (refine wpl_store 25 _ _ rfl rfl gb #[.string m, .string sc, .string au, .string p, .slice fo i fc, .string b, .slice uo un uc] (by kernel_rfl) (by kernel_rfl) _ _ hag sizeRq20 rfl (by simp [Value.oneCell']) ?_)
   intro wh hah huh
   have HAH := hid' hah
   have HXH := hid' (ar_upd20 HXG.out huh HXN.out)
   have HLH := hid' (HLG.out.trans (huh.below HG4.out))
   clear hgb hag hlg hah huh
   have g0 := HAH.out.cell 0 _ rfl
   have gf := HAH.out.free 0
   have hui := upd_setCell wh gb 0 (.string ⟨#[71, 69, 84]⟩)
   have HAI : Hid (Ar (wh.setCell ⟨gb, 0, none⟩ (.string ⟨#[71, 69, 84]⟩)) gb 25 #[.string ⟨#[71, 69, 84]⟩, .string sc, .string au, .string p, .slice fo i fc, .string b, .slice uo un uc]) := hid' (HAH.out.set 0 _)
   have HXI := hid' (ar_upd20 HXH.out hui HXN.out)
   have HLI := hid' (HLH.out.trans (hui.below HG4.out))
   have x0 := HXI.out.cell 0 _ rfl
   have x1 := HXI.out.cell 1 _ rfl
   have x2 := HXI.out.cell 2 _ rfl
   have x3 := HXI.out.cell 3 _ rfl
   have x4 := HXI.out.cell 4 _ rfl
   have x5 := HXI.out.cell 5 _ rfl
   have x6 := HXI.out.cell 6 _ rfl
   have HSZ := hid' hui.size
   clear hui
   go_wp2_with (refine wpl_alloc 25 rfl rfl #[.string ⟨#[]⟩, .string ⟨#[]⟩, .string ⟨#[]⟩, .string ⟨#[]⟩, .slice none 0 0, .string ⟨#[]⟩, .slice none 0 0] (by kernel_rfl) ?_)
   clear g0 gf
   intro hb wj hhb haj hlj0
   have hlj : Below (wh.setCell ⟨gb, 0, none⟩ (.string ⟨#[71, 69, 84]⟩)).heap.size (wh.setCell ⟨gb, 0, none⟩ (.string ⟨#[71, 69, 84]⟩)) wj := by rw [HSZ.out]; exact hlj0
   clear hlj0
   have HAJ := hid' (HAI.out.keep hlj)
   have HLJ := hid' (below_two HLI.out hlj)
   have HH4 : Hid (w4.heap.size ≤ hb) := hid' (Nat.le_trans HLH.out.size hhb)
   have HGN : Hid (gb ≠ hb) := hid' (by have h1 := HAH.out.lt; omega)
   clear x0 x1 x2 x3 x4 x5 x6
   go_wp2_with (refine wpl_store 25 _ _ rfl rfl hb #[.string m, .string sc, .string au, .string p, .slice fo i fc, .string b, .slice uo un uc] (by kernel_rfl) (by kernel_rfl) _ _ haj sizeRq20 rfl (by simp [Value.oneCell']) ?_)
   intro wk hak huk
   have HHK := hid' hak
   have HAK := hid' (ar_upd20 HAJ.out huk HGN.out)
   have HLK := hid' (HLJ.out.trans (huk.below HH4.out))
   clear hhb haj hlj hak huk
   have g0 := HHK.out.cell 0 _ rfl
   have gf := HHK.out.free 0
   have hum := upd_setCell wk hb 0 (.string ⟨#[72, 69, 65, 68]⟩)
   have HHM : Hid (Ar (wk.setCell ⟨hb, 0, none⟩ (.string ⟨#[72, 69, 65, 68]⟩)) hb 25 #[.string ⟨#[72, 69, 65, 68]⟩, .string sc, .string au, .string p, .slice fo i fc, .string b, .slice uo un uc]) := hid' (HHK.out.set 0 _)
   have HAM := hid' (ar_upd20 HAK.out hum HGN.out)
   have HLM := hid' (HLK.out.trans (hum.below HH4.out))
   clear hum
   go_upto_region 14 with fail
   clear g0 gf
   generalize wk.setCell ⟨hb, 0, none⟩ (.string ⟨#[72, 69, 65, 68]⟩) = wm at *
   have HTM := hid' (tb_below19 (tb_below19 HT.out HB4.out) HLM.out)
   have HQG : Hid (BQ20 ⟨Ap.GET, sc, au, p, fs, b, ts⟩) := hid' ⟨by show (3 : Nat) ≤ 1048576; decide, HQ.out.p, HQ.out.b, HQ.out.fl, HQ.out.fz, HQ.out.tl⟩
   have HQH : Hid (BQ20 ⟨Ap.HEAD, sc, au, p, fs, b, ts⟩) := hid' ⟨by show (4 : Nat) ≤ 1048576; decide, HQ.out.p, HQ.out.b, HQ.out.fl, HQ.out.fz, HQ.out.tl⟩
   have hsm := (ans_small20 Ap.headL es ⟨Ap.GET, sc, au, p, fs, b, ts⟩ brH20 HQG.out HE4.out).1
   have hhd := Ap.ans_head Ap.headL Ap.head_get es ⟨m, sc, au, p, fs, b, ts⟩ HV.out
   simp only at hhd
   have HA1 := hid' (fun W (B' sb : Nat) (Ks : Nat → Prop) (h1 : AP W aB aE ab Ap.headL) (h2 : CS W B' sb Ks q es) (h3 : FW W (.slice fo i fc) fs) (h4 : FW W (.slice uo un uc) ts) (h5 : Below wm.heap.size wm W) => HA.out _ _ ab Ap.headL B' sb Ks q es ⟨Ap.GET, sc, au, p, fs, b, ts⟩ (.slice fo i fc) (.slice uo un uc) W h1 h2 h3 h4 brH20 HQG.out HE4.out (tb_below19 HTM.out h5))
   have HA2 := hid' (fun W (B' sb : Nat) (Ks : Nat → Prop) (h1 : AP W aB aE ab Ap.headL) (h2 : CS W B' sb Ks q es) (h3 : FW W (.slice fo i fc) fs) (h4 : FW W (.slice uo un uc) ts) (h5 : Below wm.heap.size wm W) => HA.out _ _ ab Ap.headL B' sb Ks q es ⟨Ap.HEAD, sc, au, p, fs, b, ts⟩ (.slice fo i fc) (.slice uo un uc) W h1 h2 h3 h4 brH20 HQH.out HE4.out (tb_below19 HTM.out h5))
   generalize Ap.ans Ap.headL es ⟨Ap.GET, sc, au, p, fs, b, ts⟩ = P at *
   generalize Ap.ans Ap.headL es ⟨Ap.HEAD, sc, au, p, fs, b, ts⟩ = R at *
   obtain ⟨rs, rf, rb', rt⟩ := R
   obtain ⟨e1, e2, e3, e4⟩ := hhd
   simp only at e1 e2 e3 e4
   subst e1 e2 e3 e4
   have HSM : Hid (P.fs.length ≤ 140737488355328) := hid' (by omega)
   clear hsm
   unfold rqC at HA1 HA2
   simp only at HA1 HA2
   unfold Ap.GET at HA1
   unfold Ap.HEAD at HA2
   have HAPM := hid' (fun W (hb : Below wm.heap.size wm W) => ak_below20 KA.out (ak_below20 KA.out HA4.out HLM.out) hb)
   have HXXa := hid' (HAM.out)
   have HPPa := hid' (HAPM.out)
   have HCCa := hid' (HC4.out.keep HLM.out)
   have HFFa := hid' ((HF.out.keep HB4.out).keep HLM.out)
   have HVVa := hid' ((HTV.out.keep HB4.out).keep HLM.out)
   go_upto_region 14 with fail
   go_cut [12] from 56 to 61 (fun sd wx => ∃ ab vo n vc uo m2 uc, sd = .pointer (some ⟨ab, 0, none⟩) ∧ Hid (MB20 wm ab P vo n vc uo m2 uc wx))
   case first =>
    refine wp_region_held_drew (S := fun W => Below wm.heap.size wm W) (by kernel_rfl) (show Below wm.heap.size wm wm.drew from (Below.refl _ _).drew) (fun hHeld => ?_)
    refine take_d19 (i := 0) (d := some 56) (v := ?_) rfl rfl (by kernel_rfl) (by kernel_rfl) (by kernel_rfl) (fun _ _ _ h => h) (Or.inl ⟨by rfl, ?_⟩) (by assumption) ?_
    rotate_left
    ·intro w hSw
     go_simp
     try with_reducible rfl
    refine take_d19 (i := 1) (d := some 57) (v := ?_) rfl rfl (by kernel_rfl) (by kernel_rfl) (by kernel_rfl) (fun _ _ _ h => h) (Or.inl ⟨by rfl, ?_⟩) (by assumption) ?_
    rotate_left
    ·intro w hSw
     go_simp
     try with_reducible rfl
    refine take_d19 (i := 3) (d := some 59) (v := ?_) rfl rfl (by kernel_rfl) (by kernel_rfl) (by kernel_rfl) (fun _ _ _ h => h) (Or.inl ⟨by rfl, ?_⟩) (by assumption) ?_
    rotate_left
    ·intro w hSw
     have ha := HXXa.out.keep hSw
     have c0 := ha.cell 0 _ rfl
     have c1 := ha.cell 1 _ rfl
     have c2 := ha.cell 2 _ rfl
     have c3 := ha.cell 3 _ rfl
     have c4 := ha.cell 4 _ rfl
     have c5 := ha.cell 5 _ rfl
     have c6 := ha.cell 6 _ rfl
     go_simp
     try with_reducible rfl
    try simp only [Act.put, zA, zB, zC]
    refine wpAnyH_ready (rs := [2, 5]) (by kernel_rfl) (by simp) ?_
    refine AllReadyH.cons rfl (fun KK hK => ?_) (AllReadyH.cons rfl (fun KK hK => ?_) AllReadyH.nil)
    ·go_simp
     refine (csnap13 _ d K q es wm.drew (HCCa.out.keep hHeld)).mono ?_
     rintro _ wS ⟨⟨sb, Ks, rfl, hsn⟩, hbwS⟩
     go_wp2_with fail
     refine hK.out _ _ (below_two hHeld hbwS) (fun h1 => ?_)
     clear hK
     try simp only [Act.put, zA, zB, zC]
     refine wpAnyH_ready (rs := [4, 5]) (by kernel_rfl) (by simp) ?_
     refine AllReadyH.cons rfl (fun KK hK => ?_) (AllReadyH.cons rfl (fun KK hK => ?_) AllReadyH.nil)
     ·go_simp
      refine (HA1.out wS _ sb Ks (HPPa.out wS (h1)) (hsn) (HFFa.out.keep h1) (HVVa.out.keep h1) (h1)).mono ?_
      rintro _ wA ⟨⟨vo, n, vc, uo, m2, uc, rfl, hf1, hf2⟩, hbwA⟩
      unfold rpC
      go_wp2_with fail
      refine hK.out _ _ (below_two h1 hbwA) (fun h2 => ?_)
      clear hK
      try simp only [Act.put, zA, zB, zC]
      refine wpAnyH_ready (rs := [5]) (by kernel_rfl) (by simp) ?_
      refine AllReadyH.cons rfl (fun KK hK => ?_) AllReadyH.nil
      go_simp
      refine hK.out _ _ (below_two h2 (bl_alloc19 wA _)) (fun h3 => ?_)
      clear hK
      try simp only [Act.put, zA, zB, zC]
      refine wpAnyH_ready (rs := [6]) (by kernel_rfl) (by simp) ?_
      refine AllReadyH.cons rfl (fun KK hK => ?_) AllReadyH.nil
      refine step_store19 rfl 42 _ _ rfl wA.heap.size #[.int .i64 P.s, .slice vo n vc, .string ⟨P.b.toArray⟩, .slice uo m2 uc] rfl rfl 42 _ (heap_alloc_last wA _) sizeRp19 rfl (by simp [Value.oneCell']) ?_
      intro wf haf huf
      have hmb := MB20.one (P := P) (w1 := wS) h1 hbwA hf1 hf2 haf huf
      refine hK.out _ _ hmb.bel (fun _ => ?_)
      clear hK
      try simp only [Act.put]
      refine wpAnyH_done (by kernel_rfl) ?_ _
      go_wp2_with fail
      go_meet
      exact ⟨_, _, _, _, _, _, _, rfl, hid' hmb⟩
     ·go_simp
      refine hK.out _ _ (below_two h1 (bl_alloc19 wS _)) (fun h2 => ?_)
      clear hK
      try simp only [Act.put, zA, zB, zC]
      refine wpAnyH_ready (rs := [4]) (by kernel_rfl) (by simp) ?_
      refine AllReadyH.cons rfl (fun KK hK => ?_) AllReadyH.nil
      go_simp
      refine (HA1.out (wS.alloc _) _ sb Ks (HPPa.out (wS.alloc _) (h2)) (hsn.keep (bl_alloc19 wS _)) (HFFa.out.keep h2) (HVVa.out.keep h2) (h2)).mono ?_
      rintro _ wA ⟨⟨vo, n, vc, uo, m2, uc, rfl, hf1, hf2⟩, hbwA⟩
      unfold rpC
      go_wp2_with fail
      refine hK.out _ _ (below_two h2 hbwA) (fun h3 => ?_)
      clear hK
      try simp only [Act.put, zA, zB, zC]
      refine wpAnyH_ready (rs := [6]) (by kernel_rfl) (by simp) ?_
      refine AllReadyH.cons rfl (fun KK hK => ?_) AllReadyH.nil
      refine step_store19 rfl 42 _ _ rfl wS.heap.size #[.int .i64 P.s, .slice vo n vc, .string ⟨P.b.toArray⟩, .slice uo m2 uc] rfl rfl 42 _ (Ar.keep (heap_alloc_last wS (.cells #[.int .i64 0, .slice none 0 0, .string ⟨#[]⟩, .slice none 0 0] 42)) hbwA) sizeRp19 rfl (by simp [Value.oneCell']) ?_
      intro wf haf huf
      have hmb := MB20.two (P := P) h2 h1.size (heap_alloc_last wS (.cells #[.int .i64 0, .slice none 0 0, .string ⟨#[]⟩, .slice none 0 0] 42)) hbwA hf1 hf2 haf huf
      refine hK.out _ _ hmb.bel (fun _ => ?_)
      clear hK
      try simp only [Act.put]
      refine wpAnyH_done (by kernel_rfl) ?_ _
      go_wp2_with fail
      go_meet
      exact ⟨_, _, _, _, _, _, _, rfl, hid' hmb⟩
    ·go_simp
     refine hK.out _ _ (below_two hHeld (bl_alloc19 wm.drew _)) (fun h1 => ?_)
     clear hK
     try simp only [Act.put, zA, zB, zC]
     refine wpAnyH_ready (rs := [2]) (by kernel_rfl) (by simp) ?_
     refine AllReadyH.cons rfl (fun KK hK => ?_) AllReadyH.nil
     go_simp
     refine (csnap13 _ d K q es (wm.drew.alloc _) (HCCa.out.keep h1)).mono ?_
     rintro _ wS ⟨⟨sb, Ks, rfl, hsn⟩, hbwS⟩
     go_wp2_with fail
     refine hK.out _ _ (below_two h1 hbwS) (fun h2 => ?_)
     clear hK
     try simp only [Act.put, zA, zB, zC]
     refine wpAnyH_ready (rs := [4]) (by kernel_rfl) (by simp) ?_
     refine AllReadyH.cons rfl (fun KK hK => ?_) AllReadyH.nil
     go_simp
     refine (HA1.out wS _ sb Ks (HPPa.out wS (h2)) (hsn) (HFFa.out.keep h2) (HVVa.out.keep h2) (h2)).mono ?_
     rintro _ wA ⟨⟨vo, n, vc, uo, m2, uc, rfl, hf1, hf2⟩, hbwA⟩
     unfold rpC
     go_wp2_with fail
     refine hK.out _ _ (below_two h2 hbwA) (fun h3 => ?_)
     clear hK
     try simp only [Act.put, zA, zB, zC]
     refine wpAnyH_ready (rs := [6]) (by kernel_rfl) (by simp) ?_
     refine AllReadyH.cons rfl (fun KK hK => ?_) AllReadyH.nil
     refine step_store19 rfl 42 _ _ rfl wm.heap.size #[.int .i64 P.s, .slice vo n vc, .string ⟨P.b.toArray⟩, .slice uo m2 uc] rfl rfl 42 _ (Ar.keep (Ar.keep (heap_alloc_last wm.drew (.cells #[.int .i64 0, .slice none 0 0, .string ⟨#[]⟩, .slice none 0 0] 42)) hbwS) hbwA) sizeRp19 rfl (by simp [Value.oneCell']) ?_
     intro wf haf huf
     have hmb := MB20.two (P := P) h2 (Nat.le_refl _) (Ar.keep (heap_alloc_last wm.drew (.cells #[.int .i64 0, .slice none 0 0, .string ⟨#[]⟩, .slice none 0 0] 42)) hbwS) hbwA hf1 hf2 haf huf
     refine hK.out _ _ hmb.bel (fun _ => ?_)
     clear hK
     try simp only [Act.put]
     refine wpAnyH_done (by kernel_rfl) ?_ _
     go_wp2_with fail
     go_meet
     exact ⟨_, _, _, _, _, _, _, rfl, hid' hmb⟩
   case rest =>
    obtain ⟨xa, vo, n, vc, uo1, m1, uc1, rfl, HM1⟩ := hcut
    generalize wc = wn at *
    have HHN := hid' (HHM.out.keep HM1.out.bel)
    have HLN := hid' (below_two HLM.out HM1.out.bel)
    have HAPN := hid' (fun W (hb : Below wn.heap.size wn W) => HAPM.out W (below_two HM1.out.bel hb))
    have HA3 := hid' (fun W (B' sb : Nat) (Ks : Nat → Prop) (h1 : AP W aB aE ab Ap.headL) (h2 : CS W B' sb Ks q es) (h3 : FW W (.slice fo i fc) fs) (h4 : FW W (.slice uo un uc) ts) (h5 : Below wn.heap.size wn W) => HA2.out W B' sb Ks h1 h2 h3 h4 (below_two HM1.out.bel h5))
    clear HXXa HPPa HCCa HFFa HVVa HA1 HA2
    have HXXb := hid' (HHN.out)
    have HPPb := hid' (HAPN.out)
    have HCCb := hid' (HC4.out.keep HLN.out)
    have HFFb := hid' ((HF.out.keep HB4.out).keep HLN.out)
    have HVVb := hid' ((HTV.out.keep HB4.out).keep HLN.out)
    go_upto_region 15 with fail
    go_cut [13] from 61 to 66 (fun sd wx => ∃ ab vo n vc uo m2 uc, sd = .pointer (some ⟨ab, 0, none⟩) ∧ Hid (MB20 wn ab (⟨P.s, P.fs, [], []⟩ : Ap.Rp) vo n vc uo m2 uc wx))
    case first =>
     refine wp_region_held_drew (S := fun W => Below wn.heap.size wn W) (by kernel_rfl) (show Below wn.heap.size wn wn.drew from (Below.refl _ _).drew) (fun hHeld => ?_)
     refine take_d19 (i := 0) (d := some 61) (v := ?_) rfl rfl (by kernel_rfl) (by kernel_rfl) (by kernel_rfl) (fun _ _ _ h => h) (Or.inl ⟨by rfl, ?_⟩) (by assumption) ?_
     rotate_left
     ·intro w hSw
      go_simp
      try with_reducible rfl
     refine take_d19 (i := 1) (d := some 62) (v := ?_) rfl rfl (by kernel_rfl) (by kernel_rfl) (by kernel_rfl) (fun _ _ _ h => h) (Or.inl ⟨by rfl, ?_⟩) (by assumption) ?_
     rotate_left
     ·intro w hSw
      go_simp
      try with_reducible rfl
     refine take_d19 (i := 3) (d := some 64) (v := ?_) rfl rfl (by kernel_rfl) (by kernel_rfl) (by kernel_rfl) (fun _ _ _ h => h) (Or.inl ⟨by rfl, ?_⟩) (by assumption) ?_
     rotate_left
     ·intro w hSw
      have ha := HXXb.out.keep hSw
      have c0 := ha.cell 0 _ rfl
      have c1 := ha.cell 1 _ rfl
      have c2 := ha.cell 2 _ rfl
      have c3 := ha.cell 3 _ rfl
      have c4 := ha.cell 4 _ rfl
      have c5 := ha.cell 5 _ rfl
      have c6 := ha.cell 6 _ rfl
      go_simp
      try with_reducible rfl
     try simp only [Act.put, zA, zB, zC]
     refine wpAnyH_ready (rs := [2, 5]) (by kernel_rfl) (by simp) ?_
     refine AllReadyH.cons rfl (fun KK hK => ?_) (AllReadyH.cons rfl (fun KK hK => ?_) AllReadyH.nil)
     ·go_simp
      refine (csnap13 _ d K q es wn.drew (HCCb.out.keep hHeld)).mono ?_
      rintro _ wS ⟨⟨sb, Ks, rfl, hsn⟩, hbwS⟩
      go_wp2_with fail
      refine hK.out _ _ (below_two hHeld hbwS) (fun h1 => ?_)
      clear hK
      try simp only [Act.put, zA, zB, zC]
      refine wpAnyH_ready (rs := [4, 5]) (by kernel_rfl) (by simp) ?_
      refine AllReadyH.cons rfl (fun KK hK => ?_) (AllReadyH.cons rfl (fun KK hK => ?_) AllReadyH.nil)
      ·go_simp
       refine (HA3.out wS _ sb Ks (HPPb.out wS (h1)) (hsn) (HFFb.out.keep h1) (HVVb.out.keep h1) (h1)).mono ?_
       rintro _ wA ⟨⟨vo, n, vc, uo, m2, uc, rfl, hf1, hf2⟩, hbwA⟩
       unfold rpC
       go_wp2_with fail
       refine hK.out _ _ (below_two h1 hbwA) (fun h2 => ?_)
       clear hK
       try simp only [Act.put, zA, zB, zC]
       refine wpAnyH_ready (rs := [5]) (by kernel_rfl) (by simp) ?_
       refine AllReadyH.cons rfl (fun KK hK => ?_) AllReadyH.nil
       go_simp
       refine hK.out _ _ (below_two h2 (bl_alloc19 wA _)) (fun h3 => ?_)
       clear hK
       try simp only [Act.put, zA, zB, zC]
       refine wpAnyH_ready (rs := [6]) (by kernel_rfl) (by simp) ?_
       refine AllReadyH.cons rfl (fun KK hK => ?_) AllReadyH.nil
       refine step_store19 rfl 42 _ _ rfl wA.heap.size #[.int .i64 (⟨P.s, P.fs, [], []⟩ : Ap.Rp).s, .slice vo n vc, .string ⟨(⟨P.s, P.fs, [], []⟩ : Ap.Rp).b.toArray⟩, .slice uo m2 uc] rfl rfl 42 _ (heap_alloc_last wA _) sizeRp19 rfl (by simp [Value.oneCell']) ?_
       intro wf haf huf
       have hmb := MB20.one (P := (⟨P.s, P.fs, [], []⟩ : Ap.Rp)) (w1 := wS) h1 hbwA hf1 hf2 haf huf
       refine hK.out _ _ hmb.bel (fun _ => ?_)
       clear hK
       try simp only [Act.put]
       refine wpAnyH_done (by kernel_rfl) ?_ _
       go_wp2_with fail
       go_meet
       exact ⟨_, _, _, _, _, _, _, rfl, hid' hmb⟩
      ·go_simp
       refine hK.out _ _ (below_two h1 (bl_alloc19 wS _)) (fun h2 => ?_)
       clear hK
       try simp only [Act.put, zA, zB, zC]
       refine wpAnyH_ready (rs := [4]) (by kernel_rfl) (by simp) ?_
       refine AllReadyH.cons rfl (fun KK hK => ?_) AllReadyH.nil
       go_simp
       refine (HA3.out (wS.alloc _) _ sb Ks (HPPb.out (wS.alloc _) (h2)) (hsn.keep (bl_alloc19 wS _)) (HFFb.out.keep h2) (HVVb.out.keep h2) (h2)).mono ?_
       rintro _ wA ⟨⟨vo, n, vc, uo, m2, uc, rfl, hf1, hf2⟩, hbwA⟩
       unfold rpC
       go_wp2_with fail
       refine hK.out _ _ (below_two h2 hbwA) (fun h3 => ?_)
       clear hK
       try simp only [Act.put, zA, zB, zC]
       refine wpAnyH_ready (rs := [6]) (by kernel_rfl) (by simp) ?_
       refine AllReadyH.cons rfl (fun KK hK => ?_) AllReadyH.nil
       refine step_store19 rfl 42 _ _ rfl wS.heap.size #[.int .i64 (⟨P.s, P.fs, [], []⟩ : Ap.Rp).s, .slice vo n vc, .string ⟨(⟨P.s, P.fs, [], []⟩ : Ap.Rp).b.toArray⟩, .slice uo m2 uc] rfl rfl 42 _ (Ar.keep (heap_alloc_last wS (.cells #[.int .i64 0, .slice none 0 0, .string ⟨#[]⟩, .slice none 0 0] 42)) hbwA) sizeRp19 rfl (by simp [Value.oneCell']) ?_
       intro wf haf huf
       have hmb := MB20.two (P := (⟨P.s, P.fs, [], []⟩ : Ap.Rp)) h2 h1.size (heap_alloc_last wS (.cells #[.int .i64 0, .slice none 0 0, .string ⟨#[]⟩, .slice none 0 0] 42)) hbwA hf1 hf2 haf huf
       refine hK.out _ _ hmb.bel (fun _ => ?_)
       clear hK
       try simp only [Act.put]
       refine wpAnyH_done (by kernel_rfl) ?_ _
       go_wp2_with fail
       go_meet
       exact ⟨_, _, _, _, _, _, _, rfl, hid' hmb⟩
     ·go_simp
      refine hK.out _ _ (below_two hHeld (bl_alloc19 wn.drew _)) (fun h1 => ?_)
      clear hK
      try simp only [Act.put, zA, zB, zC]
      refine wpAnyH_ready (rs := [2]) (by kernel_rfl) (by simp) ?_
      refine AllReadyH.cons rfl (fun KK hK => ?_) AllReadyH.nil
      go_simp
      refine (csnap13 _ d K q es (wn.drew.alloc _) (HCCb.out.keep h1)).mono ?_
      rintro _ wS ⟨⟨sb, Ks, rfl, hsn⟩, hbwS⟩
      go_wp2_with fail
      refine hK.out _ _ (below_two h1 hbwS) (fun h2 => ?_)
      clear hK
      try simp only [Act.put, zA, zB, zC]
      refine wpAnyH_ready (rs := [4]) (by kernel_rfl) (by simp) ?_
      refine AllReadyH.cons rfl (fun KK hK => ?_) AllReadyH.nil
      go_simp
      refine (HA3.out wS _ sb Ks (HPPb.out wS (h2)) (hsn) (HFFb.out.keep h2) (HVVb.out.keep h2) (h2)).mono ?_
      rintro _ wA ⟨⟨vo, n, vc, uo, m2, uc, rfl, hf1, hf2⟩, hbwA⟩
      unfold rpC
      go_wp2_with fail
      refine hK.out _ _ (below_two h2 hbwA) (fun h3 => ?_)
      clear hK
      try simp only [Act.put, zA, zB, zC]
      refine wpAnyH_ready (rs := [6]) (by kernel_rfl) (by simp) ?_
      refine AllReadyH.cons rfl (fun KK hK => ?_) AllReadyH.nil
      refine step_store19 rfl 42 _ _ rfl wn.heap.size #[.int .i64 (⟨P.s, P.fs, [], []⟩ : Ap.Rp).s, .slice vo n vc, .string ⟨(⟨P.s, P.fs, [], []⟩ : Ap.Rp).b.toArray⟩, .slice uo m2 uc] rfl rfl 42 _ (Ar.keep (Ar.keep (heap_alloc_last wn.drew (.cells #[.int .i64 0, .slice none 0 0, .string ⟨#[]⟩, .slice none 0 0] 42)) hbwS) hbwA) sizeRp19 rfl (by simp [Value.oneCell']) ?_
      intro wf haf huf
      have hmb := MB20.two (P := (⟨P.s, P.fs, [], []⟩ : Ap.Rp)) h2 (Nat.le_refl _) (Ar.keep (heap_alloc_last wn.drew (.cells #[.int .i64 0, .slice none 0 0, .string ⟨#[]⟩, .slice none 0 0] 42)) hbwS) hbwA hf1 hf2 haf huf
      refine hK.out _ _ hmb.bel (fun _ => ?_)
      clear hK
      try simp only [Act.put]
      refine wpAnyH_done (by kernel_rfl) ?_ _
      go_wp2_with fail
      go_meet
      exact ⟨_, _, _, _, _, _, _, rfl, hid' hmb⟩
    case rest =>
     obtain ⟨ya, vo2, n2, vc2, uo2, m2, uc2, rfl, HM2⟩ := hcut
     generalize wc = wq at *
     have HM1q := hid' (HM1.out.keep HM2.out.bel)
     have HLQ := hid' (below_two HLN.out HM2.out.bel)
     clear HXXb HPPb HCCb HFFb HVVb HA3
     have hm2 : m2 = 0 := by obtain ⟨_, _, h⟩ := HM2.out.t.1.shape; injection h with _ h _
     subst hm2
     have a0 := HM1q.out.at'.cell 0 _ rfl
     have a1 := HM1q.out.at'.cell 1 _ rfl
     have b0 := HM2.out.at'.cell 0 _ rfl
     have b1 := HM2.out.at'.cell 1 _ rfl
     have b2 := HM2.out.at'.cell 2 _ rfl
     have b3 := HM2.out.at'.cell 3 _ rfl
     have hss : (P.s == P.s) = true := beq_self_eq_true _
     go_wp2_with fail
     refine (rsame14 (.slice vo n vc) (.slice vo2 n2 vc2) P.fs wq HM1q.out.f.1 HM2.out.f.1 HSM.out).mono ?_
     rintro e w8 ⟨rfl, n8, hn8⟩
     subst hn8
     go_wp2_with fail
     refine (HAW.out _ (tb_below19 (tb_below19 (tb_below19 HT.out HB4.out) HLQ.out) (below_dn _ _))).mono ?_
     rintro _ w9 ⟨rfl, hb⟩
     go_wp2
     go_ret
     exact ⟨rfl, below_from HB4.out (below_two (below_two HLQ.out (below_dn _ _)) hb) HB4.out.size⟩

end Go.Proofs.YtcfbobegbmcbeaaGreatDoor
