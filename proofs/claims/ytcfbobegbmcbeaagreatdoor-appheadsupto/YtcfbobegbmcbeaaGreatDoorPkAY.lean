/-
  What the row stands on.
-/
import Derived.Test.YtcfbobegbmcbeaaGreatDoorPkAL
import Derived.Test.YtcfbobegbmcbeaaGreatDoorPkAU
import Derived.Test.YtcfbobegbmcbeaaGreatDoorPkAV
import Derived.Test.YtcfbobegbmcbeaaGreatDoorPkAX
import Derived.Test.YtcfbobegbmcbeaaGreatDoorPkAQ
namespace Go.Proofs.YtcfbobegbmcbeaaGreatDoor
set_option maxHeartbeats 64000000
open Go.RowKit

namespace Rg
theorem good19 {l : T8} {n : Int} (h : err l n = 0) : (pcs (l.drop 6)).all (fun p => (pc p n).2.2) = true ∧ (pcs (l.drop 6)).length ≤ 8 := by
 unfold err at h
 split at h
 ·cases h
 ·split at h
  ·split at h
   ·cases h
   ·rename_i h1
    split at h
    ·cases h
    ·rename_i h2
     refine ⟨?_, by omega⟩
     simp only [Bool.or_eq_true, Bool.not_eq_true', not_or, Bool.not_eq_false] at h1
     exact h1.2
  ·cases h
theorem res_wth19 {l : T8} {n : Int} (n0 : 0 ≤ n) {r : Rn} (h : r ∈ res l n) : wth r n = true := by
 unfold res at h
 split at h
 ·rename_i he
  obtain ⟨hall, _⟩ := good19 (beq_iff_eq.1 he)
  unfold outs at h
  obtain ⟨p, hp, rfl⟩ := List.mem_map.1 h
  obtain ⟨hp1, hp2⟩ := List.mem_filter.1 hp
  rw [pc_wth n0 (List.all_eq_true.1 hall p hp1)]
  exact hp2
 ·cases h
theorem res_len19 (l : T8) (n : Int) : (res l n).length ≤ 8 := by
 unfold res
 split
 ·rename_i he
  obtain ⟨_, h8⟩ := good19 (beq_iff_eq.1 he)
  unfold outs
  rw [List.length_map]
  exact Nat.le_trans (List.length_filter_le _ _) h8
 ·exact Nat.zero_le _
end Rg
namespace Fs
theorem rgd_161 {kd : T8} {e : Dk.En} {v : T8} (h : Rg.err v e.body.size = 161) : rgd kd e v = plain 416 [fd nCR (Rg.unmet e.body.size)] := by
 unfold rgd; rw [h]; rfl
theorem rgd_bad {kd : T8} {e : Dk.En} {v : T8} (h : Rg.err v e.body.size ≠ 161) (h0 : Rg.err v e.body.size ≠ 0) : rgd kd e v = whole kd e := by
 unfold rgd; rw [if_neg (by simpa using h), if_neg (by simpa using h0)]
theorem rgd_one {kd : T8} {e : Dk.En} {v : T8} {r : Rg.Rn} (h0 : Rg.err v e.body.size = 0) (h : Rg.res v e.body.size = [r]) : rgd kd e v = one kd e r := by
 unfold rgd; rw [h0, h]; rfl
theorem rgd_sev {kd : T8} {e : Dk.En} {v : T8} (h0 : Rg.err v e.body.size = 0) (h : (Rg.res v e.body.size).length ≠ 1) : rgd kd e v = sev kd e (Rg.res v e.body.size) := by
 unfold rgd
 rw [h0]
 generalize Rg.res v e.body.size = rs at *
 match rs, h with
 | [], _ => rfl
 | [r], h => exact absurd rfl h
 | _ :: _ :: _, _ => rfl
end Fs

set_option maxRecDepth 20000 in
theorem cranged19 (p y : ByteArray) (t q : Int) (he : EN19 ⟨p, y, t, q⟩) (hp : p.size ≤ 140737488355328) (x : ByteArray) (hx : x.size ≤ 1048576) (w : World) (hT : TB19 w) :
  Calls Tryz.prog 120 #[.agg #[.string p, .string y, .int .i64 t, .int .i64 q], .string x] w fun e w' => RP19 w w' e (Fs.rgd (Fs.kind p.data.toList) ⟨p, y, t, q⟩ x.data.toList) := by
 have hy := he.b
 simp only at hy
 have HT := hid' hT
 have HP := hid' (fun W (h : TB19 W) => cparse16 x _ rfl (y.size : Int) (by omega) W hx h)
 have HU := hid' (fun W (h : TB19 W) => cunmet16 (y.size : Int) W (by omega) (by omega) h)
 have HWH := hid' (fun W (h : TB19 W) => cwhole19 p y t q he hp W h)
 have HSI := hid' (fun (A C : Nat) (hac : A ≤ C) (hc : C < y.size) W (h : TB19 W) => csingle19 p y t q he hp A C hac hc W h)
 have HSE := hid' (fun (ro : Option Addr) (m rc : Nat) (rs : List Rg.Rn) (hm : rs.length = m) (hmb : m ≤ 1048576) W (hr : RW16 W ro rs) (h : TB19 W) => cseveral19 p y t q he hp ro m rc rs hm hmb W hr h)
 have HWT := hid' (fun (r : Rg.Rn) (h : r ∈ Rg.res x.data.toList (y.size : Int)) => Rg.res_wth19 (by omega) h)
 have h8 := Rg.res_len19 x.data.toList (y.size : Int)
 have R1 := Fs.rgd_161 (kd := Fs.kind p.data.toList) (e := ⟨p, y, t, q⟩) (v := x.data.toList)
 have R2 := Fs.rgd_bad (kd := Fs.kind p.data.toList) (e := ⟨p, y, t, q⟩) (v := x.data.toList)
 have R3 := fun r => Fs.rgd_one (kd := Fs.kind p.data.toList) (e := ⟨p, y, t, q⟩) (v := x.data.toList) (r := r)
 have R4 := Fs.rgd_sev (kd := Fs.kind p.data.toList) (e := ⟨p, y, t, q⟩) (v := x.data.toList)
 simp only at R1 R2 R3 R4
 generalize Fs.rgd (Fs.kind p.data.toList) ⟨p, y, t, q⟩ x.data.toList = R at *
 generalize Rg.res x.data.toList (y.size : Int) = rs at *
 generalize Rg.err x.data.toList (y.size : Int) = er at *
 have HR1 := hid' R1
 have HR2 := hid' R2
 have HR3 := hid' R3
 have HR4 := hid' R4
 have H8 := hid' h8
 unfold RP19 rpC at HWH HSI HSE ⊢
 clear hT he hp hx hy h8 R1 R2 R3 R4
 go_enter Tryz.func120, Tryz.ntmps120
 go_wp2_with (refine wpl_box 70 _ rfl rfl #[.string p, .string y, .int .i64 t, .int .i64 q] (by kernel_rfl) ?_)
 intro xb w1 hg1 ha1 hb1
 have HX1 := hid' ha1
 have HB1 := hid' hb1
 clear hg1 ha1 hb1
 go_wp2_with (refine wpl_alloc 42 rfl rfl _ zeroRp19 ?_)
 intro rb w2 hrb ha2 hl2
 have HA2 := hid' ha2
 have HB2 := hid' (below_two HB1.out hl2)
 have HRB : Hid (w.heap.size ≤ rb) := hid' (Nat.le_trans HB1.out.size hrb)
 have HR0 := hid' hrb
 have HL2 := hid' hl2
 have HX2 := hid' (HX1.out.keep hl2)
 have x1 := HX2.out.cell 1 _ rfl
 clear hrb ha2 hl2
 go_wp2_with fail
 refine (HP.out w2 (tb_below19 HT.out HB2.out)).mono ?_
 rintro e w3 ⟨⟨m, ro, rc, rfl, hm, ho3⟩, hb3⟩
 have HM := hid' hm
 have HO3 := hid' ho3
 have HX3 := hid' (HX2.out.keep hb3)
 have HA3 := hid' (HA2.out.keep hb3)
 have HB3 := hid' (below_two HB2.out hb3)
 have HB13 := hid' (below_two HL2.out hb3)
 have HRL := hid' HA2.out.lt
 clear hm ho3 hb3 x1 HX2
 by_cases h161 : er = 161
 ·have hc1 : (er == 161) = true := by rw [h161]; rfl
  have HR := hid' (HR1.out h161)
  clear h161 HR1 HR2 HR3 HR4
  go_wp2_with fail
  refine (HU.out w3 (tb_below19 HT.out HB3.out)).mono ?_
  rintro e w4 ⟨rfl, hb4⟩
  have HA4 := hid' (HA3.out.keep hb4)
  have HB4 := hid' (below_two HB3.out hb4)
  obtain ⟨u, hu⟩ : ∃ u : ByteArray, (⟨(Rg.unmet (y.size : Int)).toArray⟩ : ByteArray) = u := ⟨_, rfl⟩
  rw [hu]
  have hfd : Fs.fd Fs.nCR (Rg.unmet (y.size : Int)) = ⟨⟨#[99, 111, 110, 116, 101, 110, 116, 45, 114, 97, 110, 103, 101]⟩, u⟩ := by rw [← hu]; rfl
  have HFD := hid' hfd
  clear hb4 hfd hu
  go_wp2_with fail
  refine (ctoldF19 u w4).mono ?_
  rintro e w5 ⟨rfl, hb5⟩
  have HA5 := hid' (HA4.out.keep hb5)
  have HB5 := hid' (below_two HB4.out hb5)
  have HL : Hid (FW (w5.alloc (.cells #[.string ⟨#[99, 111, 110, 116, 101, 110, 116, 45, 114, 97, 110, 103, 101]⟩, .string u] 39)) (.slice (some ⟨w5.heap.size, 0, none⟩) 1 1) [Fs.fd Fs.nCR (Rg.unmet (y.size : Int))]) := hid' (by rw [HFD.out]; exact fw_lit19 w5 [⟨⟨#[99, 111, 110, 116, 101, 110, 116, 45, 114, 97, 110, 103, 101]⟩, u⟩] 1 rfl (by decide))
  have hb6 := bl_alloc19 w5 (.cells #[.string ⟨#[99, 111, 110, 116, 101, 110, 116, 45, 114, 97, 110, 103, 101]⟩, .string u] 39)
  have HB6 := hid' (below_two HB5.out hb6)
  have HA6 := hid' (HA5.out.keep hb6)
  clear hb5 hb6
  go_wp2_with fail
  refine (cplain19 416 (.slice (some ⟨w5.heap.size, 0, none⟩) 1 1) [Fs.fd Fs.nCR (Rg.unmet (y.size : Int))] _ (by decide) (by decide) HL.out (Nat.le_of_ble_eq_true rfl) (tb_below19 HT.out HB6.out)).mono ?_
  rintro e w7 ⟨⟨vo, n, vc, rfl, hn, ho⟩, hb7⟩
  have HN7 := hid' hn
  have HO7 := hid' ho
  have HB7 := hid' hb7
  have HA7 := hid' (HA6.out.keep hb7)
  clear hn ho hb7
  unfold rpC
  obtain ⟨bd, hbd⟩ : ∃ bd : ByteArray, (⟨(Fs.plain 416 [Fs.fd Fs.nCR (Rg.unmet (y.size : Int))]).b.toArray⟩ : ByteArray) = bd := ⟨_, rfl⟩
  rw [show (Fs.plain 416 [Fs.fd Fs.nCR (Rg.unmet (y.size : Int))]).s = 416 from rfl, hbd]
  have HBD := hid' hbd
  clear hbd
  go_wp2_with (refine wpl_store 42 _ _ rfl rfl rb #[.int .i64 416, .slice vo n vc, .string bd, .slice none 0 0] (by kernel_rfl) (by kernel_rfl) _ _ HA7.out sizeRp19 rfl (by simp [Value.oneCell']) ?_)
  intro wf hwf huf
  go_wp2
  have hld := ldRp19 hwf
  rw [HR.out]
  exact bodyPost_ret (v := .agg #[.int .i64 416, .slice vo n vc, .string bd, .slice none 0 0]) (by simp [results, Tryz.results120, asAddr, hld]) rfl (rp_done19 (Fs.plain 416 [Fs.fd Fs.nCR (Rg.unmet (y.size : Int))]) rfl HBD.out HB6.out HA6.out.lt HRB.out HB7.out HN7.out HO7.out huf)
 ·have hc1 : (er == 161) = false := by simpa using h161
  by_cases h0 : er = 0
  ·have hc2 : (er != 0) = false := by rw [h0]; rfl
   have hc3 : (er == 0) = true := by rw [h0]; rfl
   by_cases hm1 : m = 1
   ·have hc4 : ((m : Int) == 1) = true := by rw [hm1]; rfl
    obtain ⟨r, hr⟩ : ∃ r, rs = [r] := by
     have := HM.out
     rw [hm1] at this
     match rs, this with
     | [r], _ => exact ⟨r, rfl⟩
    obtain ⟨A, C, hrr, hac, hcy⟩ := Rg.wth_nat (HWT.out r (by rw [hr]; exact List.mem_singleton.2 rfl))
    have HR := hid' (HR3.out r h0 hr)
    rw [hrr] at HR
    obtain ⟨ad, had, hadl, k0, k1⟩ := RW16.own (hr ▸ HO3.out) 0 r rfl
    subst had
    rw [hrr] at k0 k1
    have k0' : w3.cell? ad = some (.int .i64 (A : Int)) := by simpa [Addr.add] using k0
    have k1' : w3.cell? ⟨ad.block, ad.off + 1, none⟩ = some (.int .i64 (C : Int)) := by simpa [Addr.add] using k1
    have hge : w2.heap.size ≤ ad.block := own_ge19 HO3.out ad.block rfl
    have hbl : ad.block < w3.heap.size := by simpa [Addr.add] using hadl
    have HS := hid' (fun W (h : TB19 W) => HSI.out A C hac hcy W h)
    have HNE : Hid (ad.block ≠ rb) := hid' (by have := HRL.out; omega)
    have HM1 := hid' hm1
    subst hm1
    clear HR1 HR2 HR3 HR4 h161 h0 hr hrr k0 k1 hadl hge HSI HSE HWH
    go_upto_region 8 with fail
    refine wp_region_held_drew (S := fun W => Below w1.heap.size w1 W ∧ W.cell? ad = some (.int .i64 (A : Int)) ∧ W.cell? ⟨ad.block, ad.off + 1, none⟩ = some (.int .i64 (C : Int))) (by kernel_rfl) ⟨HB13.out.drew, k0', k1'⟩ (fun hHeld => ?_)
    refine take_d19 (i := 0) (d := some 35) (v := ?_) rfl rfl (by kernel_rfl) (by kernel_rfl) (by kernel_rfl) (fun _ _ _ h => h) (Or.inl ⟨by rfl, ?_⟩) (by assumption) ?_
    rotate_left
    ·intro w hSw
     (try dsimp only at hSw)
     obtain ⟨hSb, s0, s1⟩ := hSw
     have ha := HX1.out.keep hSb
     have c0 := ha.cell 0 _ rfl
     have c1 := ha.cell 1 _ rfl
     have c2 := ha.cell 2 _ rfl
     have c3 := ha.cell 3 _ rfl
     go_simp
     try with_reducible rfl
    refine take_d19 (i := 1) (d := some 36) (v := ?_) rfl rfl (by kernel_rfl) (by kernel_rfl) (by kernel_rfl) (fun _ _ _ h => h) (Or.inl ⟨by rfl, ?_⟩) (by assumption) ?_
    rotate_left
    ·intro w hSw
     go_simp
     try with_reducible rfl
    refine take_d19 (i := 2) (d := some 37) (v := ?_) rfl rfl (by kernel_rfl) (by kernel_rfl) (by kernel_rfl) (fun _ _ _ h => h) (Or.inl ⟨by rfl, ?_⟩) (by assumption) ?_
    rotate_left
    ·intro w hSw
     (try dsimp only at hSw)
     obtain ⟨_, s0, s1⟩ := hSw
     go_simp
     try with_reducible rfl
    refine take_d19 (i := 3) (d := some 38) (v := ?_) rfl rfl (by kernel_rfl) (by kernel_rfl) (by kernel_rfl) (fun _ _ _ h => h) (Or.inl ⟨by rfl, ?_⟩) (by assumption) ?_
    rotate_left
    ·intro w hSw
     (try dsimp only at hSw)
     obtain ⟨_, s0, s1⟩ := hSw
     go_simp
     try with_reducible rfl
    try simp only [Act.put, List.setIfInBounds_toArray, List.set_cons_zero, List.set_cons_succ]
    refine wpAnyH_ready (rs := [4]) (by kernel_rfl) (by simp) ?_
    refine AllReadyH.cons rfl (fun K hK => ?_) AllReadyH.nil
    go_simp
    refine (HS.out _ (tb_below19 (tb_below19 HT.out HB1.out) hHeld.1)).mono ?_
    rintro e w7 ⟨⟨vo, n, vc, rfl, hn, ho⟩, hb7⟩
    have HN7 := hid' hn
    have HO7 := hid' ho
    have HA7 := hid' (Ar.keep (show Ar w3.drew rb _ _ from HA3.out) hb7)
    have HB7 : Hid (Below w3.heap.size w3 w7) := hid' ⟨hb7.os, hb7.tape, hb7.output, hb7.size, hb7.block⟩
    clear hn ho
    obtain ⟨bd, hbd⟩ : ∃ bd : ByteArray, (⟨(Fs.one (Fs.kind p.data.toList) ⟨p, y, t, q⟩ ⟨(A : Int), (C : Int)⟩).b.toArray⟩ : ByteArray) = bd := ⟨_, rfl⟩
    rw [show (Fs.one (Fs.kind p.data.toList) ⟨p, y, t, q⟩ ⟨(A : Int), (C : Int)⟩).s = 206 from rfl, hbd]
    have HBD := hid' hbd
    clear hbd
    go_wp2_with fail
    refine hK.out _ _ ⟨below_two hHeld.1 hb7, (hb7.cell (p := ad) hbl).trans hHeld.2.1, (hb7.cell (p := ⟨ad.block, ad.off + 1, none⟩) hbl).trans hHeld.2.2⟩ (fun hHeld2 => ?_)
    clear hK K
    try simp only [Act.put, List.setIfInBounds_toArray, List.set_cons_zero, List.set_cons_succ]
    refine wpAnyH_ready (rs := [5]) (by kernel_rfl) (by simp) ?_
    refine AllReadyH.cons rfl (fun K hK => ?_) AllReadyH.nil
    refine step_store19 rfl 42 _ _ rfl rb #[.int .i64 206, .slice vo n vc, .string bd, .slice none 0 0] rfl rfl 42 _ (HA7.out) sizeRp19 rfl (by simp [Value.oneCell']) ?_
    intro wf hawf huwf
    refine hK.out _ _ ⟨hHeld2.1.trans (huwf.below HR0.out), (World.cell?_of_block (huwf.block ad.block HNE.out)).trans hHeld2.2.1, (World.cell?_of_block (a := ⟨ad.block, ad.off + 1, none⟩) (huwf.block ad.block HNE.out)).trans hHeld2.2.2⟩ (fun _ => ?_)
    clear hK K
    try simp only [Act.put]
    refine wpAnyH_done (by kernel_rfl) ?_ _
    have HWF := hid' hawf
    have HUF := hid' huwf
    clear hawf huwf hb7 hHeld hHeld2 k0' k1' hbl
    go_wp2_with fail
    have hld := ldRp19 HWF.out
    rw [HR.out]
    exact bodyPost_ret (v := .agg #[.int .i64 206, .slice vo n vc, .string bd, .slice none 0 0]) (by simp [results, Tryz.results120, asAddr, hld]) rfl (rp_done19 (Fs.one (Fs.kind p.data.toList) ⟨p, y, t, q⟩ ⟨(A : Int), (C : Int)⟩) rfl HBD.out HB3.out HA3.out.lt HRB.out HB7.out HN7.out HO7.out HUF.out)
   ·have hc4 : ((m : Int) == 1) = false := by simp; omega
    have HR := hid' (HR4.out h0 (by rw [HM.out]; exact hm1))
    have x0 := HX3.out.cell 0 _ rfl
    have x1 := HX3.out.cell 1 _ rfl
    have x2 := HX3.out.cell 2 _ rfl
    have x3 := HX3.out.cell 3 _ rfl
    have hmb : m ≤ 1048576 := by have h1 := H8.out; have h2 := HM.out; omega
    have HMB := hid' hmb
    clear HR1 HR2 HR3 HR4 h161 h0 hm1 hmb
    go_wp2_with fail
    refine (HSE.out ro m rc rs HM.out HMB.out w3 (RW16.own HO3.out) (tb_below19 HT.out HB3.out)).mono ?_
    rintro e w7 ⟨⟨vo, n, vc, rfl, hn, ho⟩, hb7⟩
    have HN7 := hid' hn
    have HO7 := hid' ho
    have HB7 := hid' hb7
    have HA7 := hid' (HA3.out.keep hb7)
    clear hn ho hb7
    obtain ⟨bd, hbd⟩ : ∃ bd : ByteArray, (⟨(Fs.sev (Fs.kind p.data.toList) ⟨p, y, t, q⟩ rs).b.toArray⟩ : ByteArray) = bd := ⟨_, rfl⟩
    rw [show (Fs.sev (Fs.kind p.data.toList) ⟨p, y, t, q⟩ rs).s = 206 from rfl, hbd]
    have HBD := hid' hbd
    clear hbd
    go_wp2_with (refine wpl_store 42 _ _ rfl rfl rb #[.int .i64 206, .slice vo n vc, .string bd, .slice none 0 0] (by kernel_rfl) (by kernel_rfl) _ _ HA7.out sizeRp19 rfl (by simp [Value.oneCell']) ?_)
    intro wf hwf huf
    go_wp2
    have hld := ldRp19 hwf
    rw [HR.out]
    exact bodyPost_ret (v := .agg #[.int .i64 206, .slice vo n vc, .string bd, .slice none 0 0]) (by simp [results, Tryz.results120, asAddr, hld]) rfl (rp_done19 (Fs.sev (Fs.kind p.data.toList) ⟨p, y, t, q⟩ rs) rfl HBD.out HB3.out HA3.out.lt HRB.out HB7.out HN7.out HO7.out huf)
  ·have hc2 : (er != 0) = true := by simpa using h0
   have HR := hid' (HR2.out h161 h0)
   have x0 := HX3.out.cell 0 _ rfl
   have x1 := HX3.out.cell 1 _ rfl
   have x2 := HX3.out.cell 2 _ rfl
   have x3 := HX3.out.cell 3 _ rfl
   clear HR1 HR2 HR3 HR4 h161 h0
   go_wp2_with fail
   refine (HWH.out w3 (tb_below19 HT.out HB3.out)).mono ?_
   rintro e w7 ⟨⟨vo, n, vc, rfl, hn, ho⟩, hb7⟩
   have HN7 := hid' hn
   have HO7 := hid' ho
   have HB7 := hid' hb7
   have HA7 := hid' (HA3.out.keep hb7)
   clear hn ho hb7
   obtain ⟨bd, hbd⟩ : ∃ bd : ByteArray, (⟨(Fs.whole (Fs.kind p.data.toList) ⟨p, y, t, q⟩).b.toArray⟩ : ByteArray) = bd := ⟨_, rfl⟩
   rw [show (Fs.whole (Fs.kind p.data.toList) ⟨p, y, t, q⟩).s = 200 from rfl, hbd]
   have HBD := hid' hbd
   clear hbd
   go_wp2_with (refine wpl_store 42 _ _ rfl rfl rb #[.int .i64 200, .slice vo n vc, .string bd, .slice none 0 0] (by kernel_rfl) (by kernel_rfl) _ _ HA7.out sizeRp19 rfl (by simp [Value.oneCell']) ?_)
   intro wf hwf huf
   go_wp2
   have hld := ldRp19 hwf
   rw [HR.out]
   exact bodyPost_ret (v := .agg #[.int .i64 200, .slice vo n vc, .string bd, .slice none 0 0]) (by simp [results, Tryz.results120, asAddr, hld]) rfl (rp_done19 (Fs.whole (Fs.kind p.data.toList) ⟨p, y, t, q⟩) rfl HBD.out HB3.out HA3.out.lt HRB.out HB7.out HN7.out HO7.out huf)


namespace Fs
theorem ansOf_no {p : T8} {f : Option Dk.En} {b : Bool} {m t r : T8} {l : List Fd} (h1 : (m == mGET) = false) (h2 : (m == mHEAD) = false) : ansOf p f b m t r l = plain 405 [fd nAL vAL] := by
 unfold ansOf; rw [h1, h2]; rfl
theorem ansOf_none {p : T8} {b : Bool} {m t r : T8} {l : List Fd} (h : (m == mGET || m == mHEAD) = true) : ansOf p none b m t r l = if !folder r && b then plain 301 [fd nLO (Pt.esc t ++ [47])] else plain 404 [] := by
 unfold ansOf; rw [h]; rfl
theorem ansOf_412 {p : T8} {e : Dk.En} {b : Bool} {m t r : T8} {l : List Fd} (h : (m == mGET || m == mHEAD) = true) (hd : Tg.dec true l (Tg.mk e.seq e.body.size) e.time = 412) : ansOf p (some e) b m t r l = plain 412 [] := by
 unfold ansOf; rw [h]; simp only [hd]; rfl
theorem ansOf_304 {p : T8} {e : Dk.En} {b : Bool} {m t r : T8} {l : List Fd} (h : (m == mGET || m == mHEAD) = true) (hd : Tg.dec true l (Tg.mk e.seq e.body.size) e.time = 304) : ansOf p (some e) b m t r l = ⟨304, [fd nET (Tg.mk e.seq e.body.size), fd nLM (fmt e.time)], []⟩ := by
 unfold ansOf; rw [h]; simp only [hd]; rfl
theorem ansOf_part {p : T8} {e : Dk.En} {b : Bool} {m t r : T8} {l : List Fd} (h : (m == mGET || m == mHEAD) = true) (h1 : Tg.dec true l (Tg.mk e.seq e.body.size) e.time ≠ 412) (h2 : Tg.dec true l (Tg.mk e.seq e.body.size) e.time ≠ 304) : ansOf p (some e) b m t r l = part (kind p) e (m == mGET) l := by
 unfold ansOf
 rw [h]
 simp only [if_true]
 rw [if_neg (by simpa using h1), if_neg (by simpa using h2)]
theorem part_yes {kd : T8} {e : Dk.En} {g : Bool} {l : List Fd} {x : T8} (h : (g && Tg.sam l (Tg.mk e.seq e.body.size) e.time) = true) (hv : Tg.vals l nRG = [x]) : part kd e g l = rgd kd e x := by
 unfold part; rw [if_pos h, hv]
theorem part_no {kd : T8} {e : Dk.En} {g : Bool} {l : List Fd} (h : (g && Tg.sam l (Tg.mk e.seq e.body.size) e.time) = false ∨ (Tg.vals l nRG).length ≠ 1) : part kd e g l = whole kd e := by
 unfold part
 rcases h with h | h
 ·rw [if_neg (by rw [h]; decide)]
 ·split
  ·rename_i v hv
   exfalso
   split at hv
   ·rw [hv] at h; exact h rfl
   ·cases hv
  ·rfl
end Fs

set_option maxRecDepth 20000 in
theorem cans19 (B sb : Nat) (K : Nat → Prop) (qd : Int) (es : List Dk.En) (root method target rest : ByteArray) (v : Value) (l : List Fd) (w : World) (h : CS w B sb K qd es) (hf : FW w v l) (hl : l.length ≤ 1048576) (hz : Tg.vsz l ≤ 1048576) (hr : root.size ≤ 1048576) (ht : target.size ≤ 1048576) (hs : rest.size ≤ 1048576) (hes : ∀ e ∈ es, EN19 e) (hT : TB19 w) :
  Calls Tryz.prog 91 #[.pointer (some ⟨sb, 0, none⟩), .string root, .string method, .string target, .string rest, v] w fun e w' => RP19 w w' e (Fs.ans es root.data.toList method.data.toList target.data.toList rest.data.toList l) := by
 obtain ⟨ao, cap, hv⟩ := hf.shape
 obtain ⟨nf, hnf⟩ : ∃ nf, l.length = nf := ⟨_, rfl⟩
 rw [hnf] at hv hl
 subst hv
 obtain ⟨pl, hpl, hps, hplace⟩ := cplace19 root rest hr hs w
 have HPC := hid' (fun W => (cplace19 root rest hr hs W))
 clear HPC hplace
 have HPL : Hid (∀ W, Calls Tryz.prog 114 #[.string root, .string rest] W fun e w' => e = .returned (.string pl) ∧ w' = W) := hid' (fun W => by
  obtain ⟨pl', hpl', _, hc⟩ := cplace19 root rest hr hs W
  have : pl' = pl := by
   apply ByteArray.ext
   apply Array.toList_inj.1
   rw [hpl', hpl]
  rw [this] at hc
  exact hc)
 have HT := hid' hT
 have HS := hid' h
 have HF := hid' hf
 have hok := h.ok.1
 obtain ⟨bG, g1⟩ : ∃ bG, (method.toList == [71, 69, 84]) = bG := ⟨_, rfl⟩
 obtain ⟨bH, g2⟩ : ∃ bH, (method.toList == [72, 69, 65, 68]) = bH := ⟨_, rfl⟩
 have k1 : (method.data.toList == Fs.mGET) = bG := by rw [← g1, ba_list]; rfl
 have k2 : (method.data.toList == Fs.mHEAD) = bH := by rw [← g2, ba_list]; rfl
 unfold Fs.ans
 rw [← hpl]
 have HMI := hid' (fun W (hW : CS W B sb K qd es) (hh : TB19 W) => cmissing19 B sb K qd es pl target rest W hW hps ht hs hh)
 have HG := hid' (fun W (hW : CS W B sb K qd es) => sget13 B sb K qd es pl W hW (by omega))
 rw [Dk.get_has hok] at HG
 have HGS : Hid (∀ e, Dk.get pl.data.toList es = some e → e.path = pl ∧ EN19 e) := hid' (fun e hg => by
  obtain ⟨hm, hk⟩ := (Dk.get_some hok).1 hg
  refine ⟨?_, hes e hm⟩
  apply ByteArray.ext
  apply Array.toList_inj.1
  exact hk)
 obtain ⟨P, hP⟩ : ∃ P, Fs.ansOf pl.data.toList (Dk.get pl.data.toList es) (!(Dk.lst (pl.data.toList ++ [47]) es).isEmpty) method.data.toList target.data.toList rest.data.toList l = P := ⟨_, rfl⟩
 rw [hP]
 have HP := hid' hP
 generalize Dk.get pl.data.toList es = ge at *
 have hpz : pl.size ≤ 140737488355328 := by omega
 have HDEC := hid' (fun (y : ByteArray) (t q : Int) (hy : y.size ≤ 65536) (q0 : 0 ≤ q) (q1 : q ≤ 9223372036854775807) W (hW : FW W (.slice ao nf cap) l) (hh : TB19 W) => cdec19 method bG bH g1 g2 (.slice ao nf cap) l y t q _ rfl W hW (by rw [hnf]; exact hl) hz (by omega) (by omega) q1 hh.1)
 have HASK := hid' (fun (y : ByteArray) (t q : Int) (he : EN19 ⟨pl, y, t, q⟩) W (hW : FW W (.slice ao nf cap) l) (hh : TB19 W) => casked19 method bG g1 (.slice ao nf cap) l pl y t q he W hW (by rw [hnf]; exact hl) hz hh)
 have HRG := hid' (fun (y : ByteArray) (t q : Int) (he : EN19 ⟨pl, y, t, q⟩) (x : ByteArray) (hx : x.size ≤ 1048576) W (hh : TB19 W) => cranged19 pl y t q he hpz x hx W hh)
 have HWH := hid' (fun (y : ByteArray) (t q : Int) (he : EN19 ⟨pl, y, t, q⟩) W (hh : TB19 W) => cwhole19 pl y t q he hpz W hh)
 have HK1 := hid' k1
 have HK2 := hid' k2
 unfold RP19 rpC at HMI HRG HWH ⊢
 unfold flC at HDEC
 clear h hf hl hz hr ht hs hes hT hnf hpl hps hok k1 k2 hP hpz
 go_enter Tryz.func91, Tryz.ntmps91
 go_wp2_with (refine wpl_alloc 42 rfl rfl _ zeroRp19 ?_)
 intro rb w1 hrb ha1 hl1
 have HA1 := hid' ha1
 have HB1 := hid' hl1
 have HRB := hid' hrb
 have HS1 := hid' (cs_keep19 HS.out hl1)
 have HF1 := hid' (HF.out.keep hl1)
 clear hrb ha1 hl1
 cases hgh : (bG || bH)
 ·obtain ⟨rfl, rfl⟩ : bG = false ∧ bH = false := by cases bG <;> cases bH <;> first | exact ⟨rfl, rfl⟩ | cases hgh
  have HR : Hid (P = Fs.plain 405 [Fs.fd Fs.nAL Fs.vAL]) := hid' (by rw [← HP.out]; exact Fs.ansOf_no HK1.out HK2.out)
  have g1n : (method.toList != [71, 69, 84]) = true := by rw [bne, g1]; rfl
  have g2n : (method.toList != [72, 69, 65, 68]) = true := by rw [bne, g2]; rfl
  have HL : Hid (FW (w1.alloc (.cells #[.string ⟨#[97, 108, 108, 111, 119]⟩, .string ⟨#[71, 69, 84, 44, 32, 72, 69, 65, 68, 44, 32, 79, 80, 84, 73, 79, 78, 83]⟩] 39)) (.slice (some ⟨w1.heap.size, 0, none⟩) 1 1) [Fs.fd Fs.nAL Fs.vAL]) := hid' (fw_lit19 w1 [Fs.fd Fs.nAL Fs.vAL] 1 rfl (by decide))
  have hb2 := bl_alloc19 w1 (.cells #[.string ⟨#[97, 108, 108, 111, 119]⟩, .string ⟨#[71, 69, 84, 44, 32, 72, 69, 65, 68, 44, 32, 79, 80, 84, 73, 79, 78, 83]⟩] 39)
  have HB2 := hid' (below_two HB1.out hb2)
  have HA2 := hid' (HA1.out.keep hb2)
  clear hb2 hgh
  go_wp2_with fail
  refine (cplain19 405 (.slice (some ⟨w1.heap.size, 0, none⟩) 1 1) [Fs.fd Fs.nAL Fs.vAL] _ (by decide) (by decide) HL.out (Nat.le_of_ble_eq_true rfl) (tb_below19 HT.out HB2.out)).mono ?_
  rintro e w9 ⟨⟨vo, n, vc, rfl, hn, ho⟩, hb9⟩
  have HN9 := hid' hn
  have HO9 := hid' ho
  have HB9 := hid' hb9
  have HA9 := hid' (HA2.out.keep hb9)
  clear hn ho hb9
  unfold rpC
  obtain ⟨bd, hbd⟩ : ∃ bd : ByteArray, (⟨(Fs.plain 405 [Fs.fd Fs.nAL Fs.vAL]).b.toArray⟩ : ByteArray) = bd := ⟨_, rfl⟩
  obtain ⟨sd, hsd⟩ : ∃ sd : Int, (Fs.plain 405 [Fs.fd Fs.nAL Fs.vAL]).s = sd := ⟨_, rfl⟩
  rw [hsd, hbd]
  have HBD := hid' hbd
  have HSD := hid' hsd
  clear hbd hsd
  go_wp2_with (refine wpl_store 42 _ _ rfl rfl rb #[.int .i64 sd, .slice vo n vc, .string bd, .slice none 0 0] (by kernel_rfl) (by kernel_rfl) _ _ HA9.out sizeRp19 rfl (by simp [Value.oneCell']) ?_)
  intro wf hwf huf
  go_wp2
  have hld := ldRp19 hwf
  rw [HR.out]
  exact bodyPost_ret (v := .agg #[.int .i64 sd, .slice vo n vc, .string bd, .slice none 0 0]) (by simp [results, Tryz.results91, asAddr, hld]) rfl (rp_done19 (Fs.plain 405 [Fs.fd Fs.nAL Fs.vAL]) HSD.out HBD.out HB2.out HA2.out.lt HRB.out HB9.out HN9.out HO9.out huf)
 ·have HGH : Hid ((method.data.toList == Fs.mGET || method.data.toList == Fs.mHEAD) = true) := hid' (by rw [HK1.out, HK2.out]; exact hgh)
  have HGB := hid' hgh
  have hgo : (method.toList != [71, 69, 84] && method.toList != [72, 69, 65, 68]) = false := by rw [bne, bne, g1, g2]; cases bG <;> cases bH <;> first | rfl | cases hgh
  go_upto_region 1 with fail
  go_cut [24] from 19 to 24 (fun s24 wx => s24 = .bool false ∧ wx = w1)
  case first =>
   cases bG
   ·cases bH
    ·cases hgh
    ·have g1n : (method.toList != [71, 69, 84]) = true := by rw [bne, g1]; rfl
     have g2n : (method.toList != [72, 69, 65, 68]) = false := by rw [bne, g2]; rfl
     go_wp2
     go_meet
     exact ⟨rfl, rfl⟩
   ·have g1n : (method.toList != [71, 69, 84]) = false := by rw [bne, g1]; rfl
    go_wp2
    go_meet
    exact ⟨rfl, rfl⟩
  case rest =>
   obtain ⟨rfl, hwx⟩ := hcut
   subst hwx
   clear hgo hgh
   have HG1 := hid' g1
   clear g1 g2
   go_wp2_with fail
   refine (HPL.out _).mono ?_
   rintro e w2 ⟨rfl, hw2⟩
   subst w2
   go_wp2_with fail
   refine (HG.out _ HS1.out).mono ?_
   rintro e w2 ⟨rfl, hb2⟩
   have HB2 := hid' (below_two HB1.out hb2)
   have HA2 := hid' (HA1.out.keep hb2)
   have HS2 := hid' (cs_keep19 HS1.out hb2)
   have HF2 := hid' (HF1.out.keep hb2)
   clear hb2
   cases ge with
   | none =>
    have HR := hid' (HP.out.symm.trans (Fs.ansOf_none HGH.out))
    rw [show fileV none = .agg #[.string ⟨#[]⟩, .int .i64 0, .int .i64 0] from rfl, show (none : Option Dk.En).isSome = false from rfl]
    have hb3 := bl_alloc19 w2 (.cells #[.string ⟨#[]⟩, .int .i64 0, .int .i64 0] 68)
    have HB3 := hid' (below_two HB2.out hb3)
    have HA3 := hid' (HA2.out.keep hb3)
    have HS3 := hid' (cs_keep19 HS2.out hb3)
    clear hb3
    obtain ⟨R, hR⟩ : ∃ R, (if !Fs.folder rest.data.toList && !(Dk.lst (pl.data.toList ++ [47]) es).isEmpty then Fs.plain 301 [Fs.fd Fs.nLO (Pt.esc target.data.toList ++ [47])] else Fs.plain 404 []) = R := ⟨_, rfl⟩
    rw [hR] at HR
    rw [hR] at HMI
    clear hR
    go_wp2_with fail
    refine (HMI.out _ HS3.out (tb_below19 HT.out HB3.out)).mono ?_
    rintro e w9 ⟨⟨vo, n, vc, rfl, hn, ho⟩, hb9⟩
    have HN9 := hid' hn
    have HO9 := hid' ho
    have HB9 := hid' hb9
    have HA9 := hid' (HA3.out.keep hb9)
    clear hn ho hb9
    obtain ⟨bd, hbd⟩ : ∃ bd : ByteArray, (⟨(R).b.toArray⟩ : ByteArray) = bd := ⟨_, rfl⟩
    obtain ⟨sd, hsd⟩ : ∃ sd : Int, (R).s = sd := ⟨_, rfl⟩
    rw [hsd, hbd]
    have HBD := hid' hbd
    have HSD := hid' hsd
    clear hbd hsd
    go_wp2_with (refine wpl_store 42 _ _ rfl rfl rb #[.int .i64 sd, .slice vo n vc, .string bd, .slice none 0 0] (by kernel_rfl) (by kernel_rfl) _ _ HA9.out sizeRp19 rfl (by simp [Value.oneCell']) ?_)
    intro wf hwf huf
    go_wp2
    have hld := ldRp19 hwf
    rw [HR.out]
    exact bodyPost_ret (v := .agg #[.int .i64 sd, .slice vo n vc, .string bd, .slice none 0 0]) (by simp [results, Tryz.results91, asAddr, hld]) rfl (rp_done19 (R) HSD.out HBD.out HB3.out HA3.out.lt HRB.out HB9.out HN9.out HO9.out huf)
   | some en =>
    obtain ⟨p', y, t, q⟩ := en
    obtain ⟨hpp, he⟩ := HGS.out _ rfl
    have hpp : pl = p' := hpp.symm
    subst hpp
    have HE := hid' he
    rw [show fileV (some ⟨pl, y, t, q⟩) = .agg #[.string y, .int .i64 t, .int .i64 q] from rfl, show (some (⟨pl, y, t, q⟩ : Dk.En)).isSome = true from rfl]
    have HX3 : Hid (Ar (w2.alloc (.cells #[.string y, .int .i64 t, .int .i64 q] 68)) w2.heap.size 68 #[.string y, .int .i64 t, .int .i64 q]) := hid' (heap_alloc_last w2 _)
    have hb3 := bl_alloc19 w2 (.cells #[.string y, .int .i64 t, .int .i64 q] 68)
    have HB3 := hid' (below_two HB2.out hb3)
    have HA3 := hid' (HA2.out.keep hb3)
    have HF3 := hid' (HF2.out.keep hb3)
    clear hb3 he HMI HG HPL HGS
    go_upto_region 5 with fail
    obtain ⟨fb, hfb⟩ : ∃ fb, w2.heap.size = fb := ⟨_, rfl⟩
    rw [hfb] at HX3 ⊢
    generalize w2.alloc (.cells #[.string y, .int .i64 t, .int .i64 q] 68) = w3 at *
    clear hfb
    have x0 := HX3.out.cell 0 _ rfl
    have x1 := HX3.out.cell 1 _ rfl
    have x2 := HX3.out.cell 2 _ rfl
    have HD1 := hid' (HDEC.out y t q HE.out.b HE.out.q0 HE.out.q1 w3 HF3.out (tb_below19 HT.out HB3.out))
    obtain ⟨d, hd⟩ : ∃ d, Tg.dec true l (Tg.mk q y.size) t = d := ⟨_, rfl⟩
    rw [HGB.out, hd] at HD1
    have HDD := hid' hd
    clear hd HDEC
    go_wp2_with fail
    refine HD1.out.mono ?_
    rintro e w4 ⟨rfl, hb4⟩
    have HX4 := hid' (HX3.out.keep hb4)
    have HB4 := hid' (below_two HB3.out hb4)
    have HA4 := hid' (HA3.out.keep hb4)
    have HF4 := hid' (HF3.out.keep hb4)
    clear hb4 x0 x1 x2 HD1
    by_cases h412 : d = 412
    ·have hc : (d == 412) = true := by rw [h412]; rfl
     have HR := hid' (HP.out.symm.trans (Fs.ansOf_412 HGH.out (HDD.out.trans h412)))
     clear h412
     go_wp2_with fail
     refine (cplain19 412 (.slice none 0 0) [] _ (by decide) (by decide) (fw_nil19 _) (by decide) (tb_below19 HT.out HB4.out)).mono ?_
     rintro e w9 ⟨⟨vo, n, vc, rfl, hn, ho⟩, hb9⟩
     have HN9 := hid' hn
     have HO9 := hid' ho
     have HB9 := hid' hb9
     have HA9 := hid' (HA4.out.keep hb9)
     clear hn ho hb9
     unfold rpC
     obtain ⟨bd, hbd⟩ : ∃ bd : ByteArray, (⟨(Fs.plain 412 []).b.toArray⟩ : ByteArray) = bd := ⟨_, rfl⟩
     obtain ⟨sd, hsd⟩ : ∃ sd : Int, (Fs.plain 412 []).s = sd := ⟨_, rfl⟩
     rw [hsd, hbd]
     have HBD := hid' hbd
     have HSD := hid' hsd
     clear hbd hsd
     go_wp2_with (refine wpl_store 42 _ _ rfl rfl rb #[.int .i64 sd, .slice vo n vc, .string bd, .slice none 0 0] (by kernel_rfl) (by kernel_rfl) _ _ HA9.out sizeRp19 rfl (by simp [Value.oneCell']) ?_)
     intro wf hwf huf
     go_wp2
     have hld := ldRp19 hwf
     rw [HR.out]
     exact bodyPost_ret (v := .agg #[.int .i64 sd, .slice vo n vc, .string bd, .slice none 0 0]) (by simp [results, Tryz.results91, asAddr, hld]) rfl (rp_done19 (Fs.plain 412 []) HSD.out HBD.out HB4.out HA4.out.lt HRB.out HB9.out HN9.out HO9.out huf)
    ·have hc : (d == 412) = false := by simpa using h412
     have x0 := HX4.out.cell 0 _ rfl
     have x1 := HX4.out.cell 1 _ rfl
     have x2 := HX4.out.cell 2 _ rfl
     by_cases h304 : d = 304
     ·have hc2 : (d == 304) = true := by rw [h304]; rfl
      have HR := hid' (HP.out.symm.trans (Fs.ansOf_304 HGH.out (HDD.out.trans h304)))
      simp only at HR
      clear h304 h412
      go_wp2_with fail
      refine (cstamps19 pl y t q HE.out _ (tb_below19 HT.out HB4.out)).mono ?_
      rintro e w9 ⟨⟨vo, vc, rfl, ho⟩, hb9⟩
      have HO9 := hid' ho
      have HB9 := hid' hb9
      have HA9 := hid' (HA4.out.keep hb9)
      clear ho hb9 x0 x1 x2
      go_wp2_with (refine wpl_store 42 _ _ rfl rfl rb #[.int .i64 304, .slice vo 2 vc, .string ⟨#[]⟩, .slice none 0 0] (by kernel_rfl) (by kernel_rfl) _ _ HA9.out sizeRp19 rfl (by simp [Value.oneCell']) ?_)
      intro wf hwf huf
      go_wp2
      have hld := ldRp19 hwf
      rw [HR.out]
      exact bodyPost_ret (v := .agg #[.int .i64 304, .slice vo 2 vc, .string ⟨#[]⟩, .slice none 0 0]) (by simp [results, Tryz.results91, asAddr, hld]) rfl (rp_done19 ⟨304, [Fs.fd Fs.nET (Tg.mk q y.size), Fs.fd Fs.nLM (Fs.fmt t)], []⟩ rfl rfl HB4.out HA4.out.lt HRB.out HB9.out rfl HO9.out huf)
     ·have hc2 : (d == 304) = false := by simpa using h304
      have HR := hid' (HP.out.symm.trans (Fs.ansOf_part HGH.out (by rw [HDD.out]; exact h412) (by rw [HDD.out]; exact h304)))
      rw [HK1.out] at HR
      have HY5 : Hid (Ar (w4.alloc (.cells #[.string pl, .string y, .int .i64 t, .int .i64 q] 70)) w4.heap.size 70 #[.string pl, .string y, .int .i64 t, .int .i64 q]) := hid' (heap_alloc_last w4 _)
      have hb5 := bl_alloc19 w4 (.cells #[.string pl, .string y, .int .i64 t, .int .i64 q] 70)
      have HX5 := hid' (HX4.out.keep hb5)
      have HB5 := hid' (below_two HB4.out hb5)
      have HA5 := hid' (HA4.out.keep hb5)
      have HF5 := hid' (HF4.out.keep hb5)
      clear hb5 h412 h304
      go_upto_region 13 with fail
      obtain ⟨yb, hyb⟩ : ∃ yb, w4.heap.size = yb := ⟨_, rfl⟩
      rw [hyb] at HY5 ⊢
      generalize w4.alloc (.cells #[.string pl, .string y, .int .i64 t, .int .i64 q] 70) = w5 at *
      clear hyb x0 x1 x2
      have x0 := HX5.out.cell 0 _ rfl
      have x1 := HX5.out.cell 1 _ rfl
      have x2 := HX5.out.cell 2 _ rfl
      go_wp2_with fail
      refine (HASK.out y t q HE.out w5 HF5.out (tb_below19 HT.out HB5.out)).mono ?_
      rintro e w6 ⟨hap, hb6⟩
      obtain ⟨x, b, rfl, hxs, hap⟩ := hap
      have HXS := hid' hxs
      have HY6 := hid' (HY5.out.keep hb6)
      have HB6 := hid' (below_two HB5.out hb6)
      have HA6 := hid' (HA5.out.keep hb6)
      have y0 := HY6.out.cell 0 _ rfl
      have y1 := HY6.out.cell 1 _ rfl
      have y2 := HY6.out.cell 2 _ rfl
      have y3 := HY6.out.cell 3 _ rfl
      clear hb6 hxs x0 x1 x2
      rcases hap with ⟨rfl, hon, hvs⟩ | ⟨rfl, hno⟩
      ·have HR2 := hid' (HR.out.trans (Fs.part_yes hon hvs))
       clear hon hvs
       go_wp2_with fail
       refine (HRG.out y t q HE.out x HXS.out w6 (tb_below19 HT.out HB6.out)).mono ?_
       rintro e w9 ⟨⟨vo, n, vc, rfl, hn, ho⟩, hb9⟩
       have HN9 := hid' hn
       have HO9 := hid' ho
       have HB9 := hid' hb9
       have HA9 := hid' (HA6.out.keep hb9)
       clear hn ho hb9
       obtain ⟨bd, hbd⟩ : ∃ bd : ByteArray, (⟨(Fs.rgd (Fs.kind pl.data.toList) ⟨pl, y, t, q⟩ x.data.toList).b.toArray⟩ : ByteArray) = bd := ⟨_, rfl⟩
       obtain ⟨sd, hsd⟩ : ∃ sd : Int, (Fs.rgd (Fs.kind pl.data.toList) ⟨pl, y, t, q⟩ x.data.toList).s = sd := ⟨_, rfl⟩
       rw [hsd, hbd]
       have HBD := hid' hbd
       have HSD := hid' hsd
       clear hbd hsd
       go_wp2_with (refine wpl_store 42 _ _ rfl rfl rb #[.int .i64 sd, .slice vo n vc, .string bd, .slice none 0 0] (by kernel_rfl) (by kernel_rfl) _ _ HA9.out sizeRp19 rfl (by simp [Value.oneCell']) ?_)
       intro wf hwf huf
       go_wp2
       have hld := ldRp19 hwf
       rw [HR2.out]
       exact bodyPost_ret (v := .agg #[.int .i64 sd, .slice vo n vc, .string bd, .slice none 0 0]) (by simp [results, Tryz.results91, asAddr, hld]) rfl (rp_done19 (Fs.rgd (Fs.kind pl.data.toList) ⟨pl, y, t, q⟩ x.data.toList) HSD.out HBD.out HB6.out HA6.out.lt HRB.out HB9.out HN9.out HO9.out huf)
      ·have HR2 := hid' (HR.out.trans (Fs.part_no hno))
       clear hno
       go_wp2_with fail
       refine (HWH.out y t q HE.out w6 (tb_below19 HT.out HB6.out)).mono ?_
       rintro e w9 ⟨⟨vo, n, vc, rfl, hn, ho⟩, hb9⟩
       have HN9 := hid' hn
       have HO9 := hid' ho
       have HB9 := hid' hb9
       have HA9 := hid' (HA6.out.keep hb9)
       clear hn ho hb9
       obtain ⟨bd, hbd⟩ : ∃ bd : ByteArray, (⟨(Fs.whole (Fs.kind pl.data.toList) ⟨pl, y, t, q⟩).b.toArray⟩ : ByteArray) = bd := ⟨_, rfl⟩
       obtain ⟨sd, hsd⟩ : ∃ sd : Int, (Fs.whole (Fs.kind pl.data.toList) ⟨pl, y, t, q⟩).s = sd := ⟨_, rfl⟩
       rw [hsd, hbd]
       have HBD := hid' hbd
       have HSD := hid' hsd
       clear hbd hsd
       go_wp2_with (refine wpl_store 42 _ _ rfl rfl rb #[.int .i64 sd, .slice vo n vc, .string bd, .slice none 0 0] (by kernel_rfl) (by kernel_rfl) _ _ HA9.out sizeRp19 rfl (by simp [Value.oneCell']) ?_)
       intro wf hwf huf
       go_wp2
       have hld := ldRp19 hwf
       rw [HR2.out]
       exact bodyPost_ret (v := .agg #[.int .i64 sd, .slice vo n vc, .string bd, .slice none 0 0]) (by simp [results, Tryz.results91, asAddr, hld]) rfl (rp_done19 (Fs.whole (Fs.kind pl.data.toList) ⟨pl, y, t, q⟩) HSD.out HBD.out HB6.out HA6.out.lt HRB.out HB9.out HN9.out HO9.out huf)

end Go.Proofs.YtcfbobegbmcbeaaGreatDoor
