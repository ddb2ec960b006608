/-
  What the row stands on.
-/
import Derived.Test.YthhpejgpfaikaabGreatDoorPsBR
namespace Go.Proofs.YthhpejgpfaikaabGreatDoor
set_option maxHeartbeats 64000000

namespace Ap
def Cnt (L F : List Fd) (bl : T8) (i says : Nat) (right : Bool) : Prop :=
 (i ≤ L.length ∧ says = 0 ∧ right = true) ∨ (L.length < i ∧ says = 1 ∧ ∃ b, F = L ++ [fCL b] ∧ right = (Lib.itoa b.length == Lib.itoa bl.length))
theorem nCL_no : ∀ x ∈ names7, (x == nCL) = false := by decide
theorem bnd_all : ∀ x ∈ nCL :: names7, Ms.bnd ⟨x.toArray⟩ = false ∧ x.length ≤ 14 := by decide +kernel
theorem ba_of (x : ByteArray) : (⟨x.data.toList.toArray⟩ : ByteArray) = x := rfl
theorem bnd_no {L F : List Fd} (hS : Seven L) (hF : F = L ∨ ∃ b, F = L ++ [fCL b]) {f : Fd} (hf : f ∈ F) : Ms.bnd f.n = false ∧ f.n.size ≤ 14 := by
 have hm : f.n.data.toList ∈ nCL :: names7 := by
  rcases hF with rfl | ⟨b, rfl⟩
  ·exact List.mem_cons_of_mem _ (hS f hf)
  ·rcases List.mem_append.1 hf with h | h
   ·exact List.mem_cons_of_mem _ (hS f h)
   ·rw [List.mem_singleton.1 h]; exact List.mem_cons_self
 have h := bnd_all _ hm;rw [ba_of] at h;exact ⟨h.1, by rw [Lib.size_eq]; exact h.2⟩
theorem at_low {L F : List Fd} (hF : F = L ∨ ∃ b, F = L ++ [fCL b]) {i : Nat} {f : Fd} (hf : F[i]? = some f) : (i < L.length ∧ f ∈ L) ∨ (i = L.length ∧ ∃ b, f = fCL b ∧ F = L ++ [fCL b]) := by
 rcases hF with rfl | ⟨b, rfl⟩
 ·exact .inl ⟨(List.getElem?_eq_some_iff.1 hf).1, List.mem_of_getElem? hf⟩
 ·by_cases h : i < L.length
  ·rw [List.getElem?_append_left h] at hf;exact .inl ⟨h, List.mem_of_getElem? hf⟩
  ·have h2 := (List.getElem?_eq_some_iff.1 hf).1;rw [List.length_append] at h2;simp only [List.length_cons, List.length_nil] at h2;obtain rfl : i = L.length := by omega
   rw [List.getElem?_append_right (Nat.le_refl _), Nat.sub_self] at hf;simp at hf;exact .inr ⟨rfl, b, hf.symm, rfl⟩
theorem cnt_no {L F : List Fd} {bl : T8} {i says : Nat} {right : Bool} (hF : F = L ∨ ∃ b, F = L ++ [fCL b]) (hc : Cnt L F bl i says right) {f : Fd} (hf : F[i]? = some f) (hn : (f.n.data.toList == nCL) = false) : Cnt L F bl (i + 1) says right := by
 rcases at_low hF hf with ⟨h, _⟩ | ⟨_, b, rfl, _⟩
 ·rcases hc with ⟨_, h2, h3⟩ | ⟨h1, _⟩
  ·exact .inl ⟨h, h2, h3⟩
  ·omega
 ·rw [show (fCL b).n.data.toList = nCL from rfl] at hn;exact absurd hn (by decide)
theorem cnt_yes {L F : List Fd} {bl : T8} {i says : Nat} {right : Bool} (hS : Seven L) (hF : F = L ∨ ∃ b, F = L ++ [fCL b]) (hc : Cnt L F bl i says right) {f : Fd} (hf : F[i]? = some f) (hn : (f.n.data.toList == nCL) = true) : says = 0 ∧ ∃ b, f = fCL b ∧ Cnt L F bl (i + 1) 1 (Lib.itoa b.length == Lib.itoa bl.length) := by
 rcases at_low hF hf with ⟨_, hm⟩ | ⟨rfl, b, rfl, h2⟩
 ·have := nCL_no _ (hS f hm);rw [hn] at this;cases this
 ·rcases hc with ⟨_, h3, _⟩ | ⟨h1, _⟩
  ·exact ⟨h3, b, rfl, .inr ⟨Nat.lt_succ_self _, rfl, b, h2, rfl⟩⟩
  ·omega
theorem cnt_end {L F : List Fd} {bl : T8} {says : Nat} {right : Bool} (hF : F = L ∨ ∃ b, F = L ++ [fCL b]) (hc : Cnt L F bl F.length says right) : (F = L ∧ says = 0) ∨ ∃ b, F = L ++ [fCL b] ∧ says = 1 ∧ right = (Lib.itoa b.length == Lib.itoa bl.length) := by
 rcases hc with ⟨h1, h2, _⟩ | ⟨_, h2, b, h3, h4⟩
 ·rcases hF with rfl | ⟨b, rfl⟩
  ·exact .inl ⟨rfl, h2⟩
  ·rw [List.length_append] at h1;simp only [List.length_cons, List.length_nil] at h1;omega
 ·exact .inr ⟨b, h3, h2, h4⟩
end Ap

open Go.RowKit

theorem fin_body20 (h : Bool) (a : Ap.Rp) : (Ap.fin h a).b.length ≤ a.b.length := by
 have hm : (Ap.mid a).b.length ≤ a.b.length := by
  unfold Ap.mid;split
  ·exact Nat.zero_le _
  ·split
   ·exact Nat.le_refl _
   ·exact Nat.le_refl _
 unfold Ap.fin;split
 ·exact Nat.zero_le _
 ·exact hm

set_option maxRecDepth 20000 in
theorem appSays_any {AP : World → Nat → Nat → Nat → List Fr18 → Prop} (kA : AK20 AP) (hN : NewC20 AP) (hA : AnsC20 AP) (v : Value) (l : List Dk.En) (w : World) (hw : EW19 w v l) (hl : l.length ≤ 1048576) (hb : ∀ e ∈ l, e.path.size ≤ 1048576 ∧ e.body.size ≤ 1048576) (r : Ap.Rq) (fv tv : Value) (hf : FW w fv r.fs) (ht : FW w tv r.ts) (hq : BQ20 r) (hT : TB19 w) :
  Calls Tryz.prog 3 #[v, .agg (rqC r.m r.sc r.au r.p fv r.b tv)] w fun e w' => e = .returned (.bool true) ∧ Below w.heap.size w w' := by
 obtain ⟨fo, fc, hv⟩ := hf.shape;obtain ⟨fn, hfn⟩ : ∃ fn, r.fs.length = fn := ⟨_, rfl⟩;rw [hfn] at hv;subst hv;obtain ⟨uo, uc, hv⟩ := ht.shape;obtain ⟨un, hun⟩ : ∃ un, r.ts.length = un := ⟨_, rfl⟩;rw [hun] at hv;subst hv;have HAW := hid' (fun W (h : TB19 W) => awake20 kA hN hA W h);have KA := hid' kA;have HN := hid' hN;have HA := hid' hA;have HT := hid' hT;have HBO := hid' (fun W (h : EW19 W v l) => cboth20 v l W h hl hb);have HW := hid' hw;have HF := hid' hf;have HTV := hid' ht;have HQ := hid' hq;obtain ⟨m, sc, au, p, fs, b, ts⟩ := r;simp only at HF HTV;clear kA hN hA hT hw hl hb hf ht hq hfn hun;unfold rqC;go_enter Tryz.func3, Tryz.ntmps3;go_wp2_with (refine wpl_box 25 _ rfl rfl #[.string m, .string sc, .string au, .string p, .slice fo fn fc, .string b, .slice uo un uc] (by kernel_rfl) ?_);intro xb w1 hg1 ha1 hb1;have HX1 := hid' ha1;have HB1 := hid' hb1;clear hg1 ha1 hb1;go_wp2_with fail;refine (csite20 w1).mono ?_;rintro _ w2 ⟨⟨ao, rfl, hr⟩, hb2⟩;have HR2 := hid' hr;have HX2 := hid' (HX1.out.keep hb2);have HB2 := hid' (below_two HB1.out hb2);clear hr hb2 HX1 HB1;go_wp2_with fail;refine (HN.out ao 4 4 Ap.siteL w2 rfl (by decide) brS20 HR2.out (tb_below19 HT.out HB2.out)).mono ?_;rintro _ w3 ⟨⟨_, ab, rfl, hap⟩ | ⟨h, _⟩, hb3⟩;rotate_left
 ·rw [Ap.site_ok] at h; cases h
 obtain ⟨aB, aE, hap⟩ : ∃ aB aE, AP w3 aB aE ab Ap.siteL := ⟨_, _, hap⟩;have HA3 := hid' hap;have HX3 := hid' (HX2.out.keep hb3);have HB3 := hid' (below_two HB2.out hb3);clear hap hb3 HR2 HX2 HB2;go_wp2_with fail;refine (HBO.out w3 (ew_keep20 HW.out HB3.out)).mono ?_;rintro _ w4 ⟨⟨d, K, q, es, ro, rn, rc, rfl, hcd, hen, hq0, hq1⟩, hb4⟩;have HE4 := hid' hen;have hb5 := bl_alloc19 w4 (.cells #[.slice ro rn rc, .int .i64 q] 34);have HC5 := hid' (hcd.keep hb5);have HA5 := hid' (ak_below20 KA.out (ak_below20 KA.out HA3.out hb4) hb5);have HX5 := hid' ((HX3.out.keep hb4).keep hb5);have HB5 := hid' (below_two (below_two HB3.out hb4) hb5);clear hcd hen hb4 hb5 HA3 HX3 HB3;go_upto_region 5 with fail;generalize w4.alloc (.cells #[.slice ro rn rc, .int .i64 q] 34) = w5 at *;have HT5 := hid' (tb_below19 HT.out HB5.out);have HF5 := hid' (HF.out.keep HB5.out);have HV5 := hid' (HTV.out.keep HB5.out);have hsm := (ans_small20 Ap.siteL es ⟨m, sc, au, p, fs, b, ts⟩ brS20 HQ.out HE4.out).1;obtain ⟨L, hS, hsy⟩ := Ap.ans_says Ap.siteL es ⟨m, sc, au, p, fs, b, ts⟩;have hhd : m.data.toList = Fs.mHEAD → (Ap.ans Ap.siteL es ⟨m, sc, au, p, fs, b, ts⟩).b = [] := fun h => by
  unfold Ap.ans;simp only;rw [show (m.data.toList == Fs.mHEAD) = true by rw [h]; rfl];rfl
 have hpb : (Ap.ans Ap.siteL es ⟨m, sc, au, p, fs, b, ts⟩).b.length ≤ 140737488355328 := by
  have h1 := (Ap.raw_fit Ap.siteL es ⟨m, sc, au, p, fs, b, ts⟩ HE4.out (fun x hx => (brS20.1 x hx).1) HQ.out.p HQ.out.b).1.2.2;unfold Ap.ans;exact Nat.le_trans (fin_body20 _ _) h1
 simp only at hsy;have HA1 := hid' (fun W (B' sb : Nat) (Ks : Nat → Prop) (h1 : AP W aB aE ab Ap.siteL) (h2 : CS W B' sb Ks q es) (h3 : FW W (.slice fo fn fc) fs) (h4 : FW W (.slice uo un uc) ts) (h5 : Below w5.heap.size w5 W) => HA.out aB aE ab Ap.siteL B' sb Ks q es ⟨m, sc, au, p, fs, b, ts⟩ (.slice fo fn fc) (.slice uo un uc) W h1 h2 h3 h4 brS20 HQ.out HE4.out (tb_below19 HT5.out h5));generalize Ap.ans Ap.siteL es ⟨m, sc, au, p, fs, b, ts⟩ = P at *;have HSM := hid' hsm;have HSY := hid' hsy;have HSV := hid' hS;have HHD := hid' hhd;have HPB := hid' hpb;have HFL : Hid (P.fs = L ∨ ∃ b, P.fs = L ++ [Ap.fCL b]) := hid' (hsy.elim (fun h => .inl h.1) (fun ⟨b, h⟩ => .inr ⟨b, h.1⟩));clear hsm hsy hS hhd hpb;unfold rqC at HA1;simp only at HA1;have HAP5 := hid' (fun W (hb : Below w5.heap.size w5 W) => ak_below20 KA.out HA5.out hb);have HXXa := hid' (HX5.out);have HPPa := hid' (HAP5.out);have HCCa := hid' (HC5.out);have HFFa := hid' (HF5.out);have HVVa := hid' (HV5.out);go_upto_region 5 with fail;go_cut [9] from 33 to 38 (fun sd wx => ∃ ab vo n vc uo m2 uc, sd = .pointer (some ⟨ab, 0, none⟩) ∧ Hid (MB20 w5 ab P vo n vc uo m2 uc wx))
 case first =>
  refine wp_region_held_drew (S := fun W => Below w5.heap.size w5 W) (by kernel_rfl) (show Below w5.heap.size w5 w5.drew from (Below.refl _ _).drew) (fun hHeld => ?_);refine take_d19 (i := 0) (d := some 33) (v := ?_) rfl rfl (by kernel_rfl) (by kernel_rfl) (by kernel_rfl) (fun _ _ _ h => h) (Or.inl ⟨by rfl, ?_⟩) (by assumption) ?_;rotate_left
  ·intro w hSw;go_simp
   try with_reducible rfl
  refine take_d19 (i := 1) (d := some 34) (v := ?_) rfl rfl (by kernel_rfl) (by kernel_rfl) (by kernel_rfl) (fun _ _ _ h => h) (Or.inl ⟨by rfl, ?_⟩) (by assumption) ?_;rotate_left
  ·intro w hSw;go_simp
   try with_reducible rfl
  refine take_d19 (i := 3) (d := some 36) (v := ?_) rfl rfl (by kernel_rfl) (by kernel_rfl) (by kernel_rfl) (fun _ _ _ h => h) (Or.inl ⟨by rfl, ?_⟩) (by assumption) ?_;rotate_left
  ·intro w hSw
   (try dsimp only at hSw)
   have ha := HXXa.out.keep hSw;have c0 := ha.cell 0 _ rfl;have c1 := ha.cell 1 _ rfl;have c2 := ha.cell 2 _ rfl;have c3 := ha.cell 3 _ rfl;have c4 := ha.cell 4 _ rfl;have c5 := ha.cell 5 _ rfl;have c6 := ha.cell 6 _ rfl;go_simp
   try with_reducible rfl
  try simp only [Act.put, List.setIfInBounds_toArray, List.set_cons_zero, List.set_cons_succ]
  refine wpAnyH_ready (rs := [2, 5]) (by kernel_rfl) (by simp) ?_;refine AllReadyH.cons rfl (fun KK hK => ?_) (AllReadyH.cons rfl (fun KK hK => ?_) AllReadyH.nil)
  ·go_simp;refine (csnap13 _ d K q es w5.drew (HCCa.out.keep hHeld)).mono ?_;rintro _ wS ⟨⟨sb, Ks, rfl, hsn⟩, hbwS⟩;go_wp2_with fail;refine hK.out _ _ (below_two hHeld hbwS) (fun h1 => ?_);clear hK
   try simp only [Act.put, List.setIfInBounds_toArray, List.set_cons_zero, List.set_cons_succ]
   refine wpAnyH_ready (rs := [4, 5]) (by kernel_rfl) (by simp) ?_;refine AllReadyH.cons rfl (fun KK hK => ?_) (AllReadyH.cons rfl (fun KK hK => ?_) AllReadyH.nil)
   ·go_simp;refine (HA1.out wS _ sb Ks (HPPa.out wS (h1)) (hsn) (HFFa.out.keep h1) (HVVa.out.keep h1) (h1)).mono ?_;rintro _ wA ⟨⟨vo, n, vc, uo, m2, uc, rfl, hf1, hf2⟩, hbwA⟩;unfold rpC;go_wp2_with fail;refine hK.out _ _ (below_two h1 hbwA) (fun h2 => ?_);clear hK
    try simp only [Act.put, List.setIfInBounds_toArray, List.set_cons_zero, List.set_cons_succ]
    refine wpAnyH_ready (rs := [5]) (by kernel_rfl) (by simp) ?_;refine AllReadyH.cons rfl (fun KK hK => ?_) AllReadyH.nil;go_simp;refine hK.out _ _ (below_two h2 (bl_alloc19 wA _)) (fun h3 => ?_);clear hK
    try simp only [Act.put, List.setIfInBounds_toArray, List.set_cons_zero, List.set_cons_succ]
    refine wpAnyH_ready (rs := [6]) (by kernel_rfl) (by simp) ?_;refine AllReadyH.cons rfl (fun KK hK => ?_) AllReadyH.nil;refine step_store19 rfl 38 _ _ rfl wA.heap.size #[.int .i64 P.s, .slice vo n vc, .string ⟨P.b.toArray⟩, .slice uo m2 uc] rfl rfl 38 _ (heap_alloc_last wA _) sizeRp19 rfl (by simp [Value.oneCell']) ?_;intro wf haf huf;have hmb := MB20.one (P := P) (w1 := wS) h1 hbwA hf1 hf2 haf huf;refine hK.out _ _ hmb.bel (fun _ => ?_);clear hK
    try simp only [Act.put]
    refine wpAnyH_done (by kernel_rfl) ?_ _;go_wp2_with fail;go_meet;exact ⟨_, _, _, _, _, _, _, rfl, hid' hmb⟩
   ·go_simp;refine hK.out _ _ (below_two h1 (bl_alloc19 wS _)) (fun h2 => ?_);clear hK
    try simp only [Act.put, List.setIfInBounds_toArray, List.set_cons_zero, List.set_cons_succ]
    refine wpAnyH_ready (rs := [4]) (by kernel_rfl) (by simp) ?_;refine AllReadyH.cons rfl (fun KK hK => ?_) AllReadyH.nil;go_simp;refine (HA1.out (wS.alloc _) _ sb Ks (HPPa.out (wS.alloc _) (h2)) (hsn.keep (bl_alloc19 wS _)) (HFFa.out.keep h2) (HVVa.out.keep h2) (h2)).mono ?_;rintro _ wA ⟨⟨vo, n, vc, uo, m2, uc, rfl, hf1, hf2⟩, hbwA⟩;unfold rpC;go_wp2_with fail;refine hK.out _ _ (below_two h2 hbwA) (fun h3 => ?_);clear hK
    try simp only [Act.put, List.setIfInBounds_toArray, List.set_cons_zero, List.set_cons_succ]
    refine wpAnyH_ready (rs := [6]) (by kernel_rfl) (by simp) ?_;refine AllReadyH.cons rfl (fun KK hK => ?_) AllReadyH.nil;refine step_store19 rfl 38 _ _ rfl wS.heap.size #[.int .i64 P.s, .slice vo n vc, .string ⟨P.b.toArray⟩, .slice uo m2 uc] rfl rfl 38 _ (Ar.keep (heap_alloc_last wS (.cells #[.int .i64 0, .slice none 0 0, .string ⟨#[]⟩, .slice none 0 0] 38)) hbwA) sizeRp19 rfl (by simp [Value.oneCell']) ?_;intro wf haf huf;have hmb := MB20.two (P := P) h2 h1.size (heap_alloc_last wS (.cells #[.int .i64 0, .slice none 0 0, .string ⟨#[]⟩, .slice none 0 0] 38)) hbwA hf1 hf2 haf huf;refine hK.out _ _ hmb.bel (fun _ => ?_);clear hK
    try simp only [Act.put]
    refine wpAnyH_done (by kernel_rfl) ?_ _;go_wp2_with fail;go_meet;exact ⟨_, _, _, _, _, _, _, rfl, hid' hmb⟩
  ·go_simp;refine hK.out _ _ (below_two hHeld (bl_alloc19 w5.drew _)) (fun h1 => ?_);clear hK
   try simp only [Act.put, List.setIfInBounds_toArray, List.set_cons_zero, List.set_cons_succ]
   refine wpAnyH_ready (rs := [2]) (by kernel_rfl) (by simp) ?_;refine AllReadyH.cons rfl (fun KK hK => ?_) AllReadyH.nil;go_simp;refine (csnap13 _ d K q es (w5.drew.alloc _) (HCCa.out.keep h1)).mono ?_;rintro _ wS ⟨⟨sb, Ks, rfl, hsn⟩, hbwS⟩;go_wp2_with fail;refine hK.out _ _ (below_two h1 hbwS) (fun h2 => ?_);clear hK
   try simp only [Act.put, List.setIfInBounds_toArray, List.set_cons_zero, List.set_cons_succ]
   refine wpAnyH_ready (rs := [4]) (by kernel_rfl) (by simp) ?_;refine AllReadyH.cons rfl (fun KK hK => ?_) AllReadyH.nil;go_simp;refine (HA1.out wS _ sb Ks (HPPa.out wS (h2)) (hsn) (HFFa.out.keep h2) (HVVa.out.keep h2) (h2)).mono ?_;rintro _ wA ⟨⟨vo, n, vc, uo, m2, uc, rfl, hf1, hf2⟩, hbwA⟩;unfold rpC;go_wp2_with fail;refine hK.out _ _ (below_two h2 hbwA) (fun h3 => ?_);clear hK
   try simp only [Act.put, List.setIfInBounds_toArray, List.set_cons_zero, List.set_cons_succ]
   refine wpAnyH_ready (rs := [6]) (by kernel_rfl) (by simp) ?_;refine AllReadyH.cons rfl (fun KK hK => ?_) AllReadyH.nil;refine step_store19 rfl 38 _ _ rfl w5.heap.size #[.int .i64 P.s, .slice vo n vc, .string ⟨P.b.toArray⟩, .slice uo m2 uc] rfl rfl 38 _ (Ar.keep (Ar.keep (heap_alloc_last w5.drew (.cells #[.int .i64 0, .slice none 0 0, .string ⟨#[]⟩, .slice none 0 0] 38)) hbwS) hbwA) sizeRp19 rfl (by simp [Value.oneCell']) ?_;intro wf haf huf;have hmb := MB20.two (P := P) h2 (Nat.le_refl _) (Ar.keep (heap_alloc_last w5.drew (.cells #[.int .i64 0, .slice none 0 0, .string ⟨#[]⟩, .slice none 0 0] 38)) hbwS) hbwA hf1 hf2 haf huf;refine hK.out _ _ hmb.bel (fun _ => ?_);clear hK
   try simp only [Act.put]
   refine wpAnyH_done (by kernel_rfl) ?_ _;go_wp2_with fail;go_meet;exact ⟨_, _, _, _, _, _, _, rfl, hid' hmb⟩
 case rest =>
  obtain ⟨xa, vo, n, vc, uo1, m1, uc1, rfl, HM1⟩ := hcut;generalize wc = wn at *;obtain rfl : n = P.fs.length := by obtain ⟨_, _, h⟩ := HM1.out.f.1.shape; injection h
  obtain rfl : m1 = P.ts.length := by obtain ⟨_, _, h⟩ := HM1.out.t.1.shape; injection h
  have HBN := hid' (below_two HB5.out HM1.out.bel);have HXN := hid' (HX5.out.keep HM1.out.bel);clear HXXa HPPa HCCa HFFa HVVa HA1;obtain ⟨Ps, F, bl, Ts⟩ := P;simp only at HM1 HSM HSY HHD HPB HFL;obtain ⟨nF, hnF⟩ : ∃ nF, F.length = nF := ⟨_, rfl⟩;rw [hnF] at HM1 HSM;have HNF := hid' hnF;obtain ⟨pb, hpb⟩ : ∃ pb : ByteArray, (⟨bl.toArray⟩ : ByteArray) = pb := ⟨_, rfl⟩;have hbl : bl = pb.data.toList := by rw [← hpb]
  subst hbl;have HDE := hid' (fun W => rDecimal_any (pb.size : Int) (by omega) (by have := HPB.out; rw [Lib.size_eq]; omega) W);obtain ⟨dc, hdc⟩ : ∃ dc : ByteArray, (⟨(Lib.itoa (pb.size : Int)).toArray⟩ : ByteArray) = dc := ⟨_, rfl⟩;have HDC : Hid (dc.data.toList = Lib.itoa (pb.data.toList.length : Int)) := hid' (by rw [← hdc, ← Lib.size_eq]);rw [hdc] at HDE;have HMA := hid' HM1.out.at';have HMF := hid' HM1.out.f.1;have hnb : nF ≤ 6 := HSM.out;clear hnF hpb hdc HM1 HSM;go_wp2;go_loopw [10, 11, 12] (fun s10 s11 s12 wr => ∃ (i says : Nat) (right : Bool), s12 = .int .i64 (i : Int) ∧ s10 = .int .i64 (says : Int) ∧ s11 = .bool right ∧ i ≤ nF ∧ Hid (Ap.Cnt L F pb.data.toList i says right) ∧ Hid (Below wn.heap.size wn wr)) (fun _ _ s12 _ => nF - (intOf s12).toNat)
  case atStart => exact ⟨0, 0, true, rfl, rfl, rfl, Nat.zero_le _, hid' (.inl ⟨Nat.zero_le _, rfl, rfl⟩), hid' (Below.refl _ _)⟩
  case round =>
   obtain ⟨i, says, right, rfl, rfl, rfl, hi, HC, HBR⟩ := hrel;have HMR := hid' (HMA.out.keep HBR.out);by_cases hlt : i < nF
   ·have hlt2 : (i : Int) < (nF : Int) := by omega
    obtain ⟨f, hfi⟩ : ∃ f, F[i]? = some f := ⟨_, List.getElem?_eq_getElem (by rw [HNF.out]; exact hlt)⟩;obtain ⟨a, hvo, y0, y1⟩ := (HMF.out.keep HBR.out).two i f hfi;subst hvo;have HFI := hid' hfi;have HLT := hid' hlt;have HBD := hid' (Ap.bnd_no HSV.out HFL.out (List.mem_of_getElem? hfi));have a1 := HMR.out.cell 1 _ rfl;have HBN1 := hid' (fun W => rbnd14 f.n false HBD.out.1 W (by have := HBD.out.2; omega));clear hfi hlt y1;go_wp2_with fail;refine (HBN1.out wr).mono ?_;rintro _ wr2 ⟨rfl, hb2⟩;have HBR2 := hid' (below_two HBR.out hb2);have HMR2 := hid' (HMR.out.keep hb2);clear hb2 a1 y0;obtain ⟨a', hvo, y0, y1⟩ := (HMF.out.keep HBR2.out).two i f HFI.out;obtain rfl : a = a' := Option.some.inj hvo;clear hvo;have HYV : Hid (∀ W, Below wr2.heap.size wr2 W → W.cell? ⟨(a.add (i * 2)).block, (a.add (i * 2)).off + 1, none⟩ = some (.string f.v)) := hid' (fun W hb => by
     obtain ⟨a', hvo, _, z1⟩ := (HMF.out.keep (below_two HBR2.out hb)).two i f HFI.out;obtain rfl : a = a' := Option.some.inj hvo;exact z1)
    have a1 := HMR2.out.cell 1 _ rfl;have a2 := HMR2.out.cell 2 _ rfl;cases c1 : (f.n.toList == [99, 111, 110, 116, 101, 110, 116, 45, 108, 101, 110, 103, 116, 104])
    ·have hcn := Ap.cnt_no HFL.out HC.out HFI.out (by rw [ba_list] at c1; exact c1);have HCN := hid' hcn;clear hcn;go_wp2;go_roundw
     case rel => exact ⟨i + 1, says, right, by go_num, rfl, rfl, by have := HLT.out; omega, HCN, HBR2⟩
     case measure => have := HLT.out; simp [intOf]; omega
    ·obtain ⟨h0, fb, hfb, hcn⟩ := Ap.cnt_yes HSV.out HFL.out HC.out HFI.out (by rw [ba_list] at c1; exact c1);subst h0;have HCN := hid' hcn;have HFB := hid' hfb;have HMR := HMR2;clear hcn hfb;go_upto_region 15 with fail;clear a1 a2 y0 y1;refine wp_region_held_drew (S := fun W => Below wr2.heap.size wr2 W) (by kernel_rfl) (show Below wr2.heap.size wr2 wr2.drew from (Below.refl _ _).drew) (fun hHeld => ?_);refine take_d19 (i := 0) (d := some 61) (v := ?_) rfl rfl (by kernel_rfl) (by kernel_rfl) (by kernel_rfl) (fun _ _ _ h => h) (Or.inl ⟨by rfl, ?_⟩) (by assumption) ?_;rotate_left
     ·intro w hSw
      (try dsimp only at hSw)
      have a1 := (HMR.out.keep hSw).cell 1 _ rfl;have a2 := (HMR.out.keep hSw).cell 2 _ rfl;have y1 := (HYV.out _ hSw);go_simp
      try with_reducible rfl
     refine take_d19 (i := 1) (d := some 62) (v := ?_) rfl rfl (by kernel_rfl) (by kernel_rfl) (by kernel_rfl) (fun _ _ _ h => h) (Or.inl ⟨by rfl, ?_⟩) (by assumption) ?_;rotate_left
     ·intro w hSw
      (try dsimp only at hSw)
      have a1 := (HMR.out.keep hSw).cell 1 _ rfl;have a2 := (HMR.out.keep hSw).cell 2 _ rfl;have y1 := (HYV.out _ hSw);go_simp
      try with_reducible rfl
     refine take_d19 (i := 2) (d := some 63) (v := ?_) rfl rfl (by kernel_rfl) (by kernel_rfl) (by kernel_rfl) (fun _ _ _ h => h) (Or.inl ⟨by rfl, ?_⟩) (by assumption) ?_;rotate_left
     ·intro w hSw
      (try dsimp only at hSw)
      have a1 := (HMR.out.keep hSw).cell 1 _ rfl;have a2 := (HMR.out.keep hSw).cell 2 _ rfl;have y1 := (HYV.out _ hSw);go_simp
      try with_reducible rfl
     refine take_d19 (i := 3) (d := some 64) (v := ?_) rfl rfl (by kernel_rfl) (by kernel_rfl) (by kernel_rfl) (fun _ _ _ h => h) (Or.inl ⟨by rfl, ?_⟩) (by assumption) ?_;rotate_left
     ·intro w hSw
      (try dsimp only at hSw)
      have a1 := (HMR.out.keep hSw).cell 1 _ rfl;have a2 := (HMR.out.keep hSw).cell 2 _ rfl;have y1 := (HYV.out _ hSw);go_simp
      try with_reducible rfl
     refine take_d19 (i := 4) (d := some 65) (v := ?_) rfl rfl (by kernel_rfl) (by kernel_rfl) (by kernel_rfl) (fun _ _ _ h => h) (Or.inl ⟨by rfl, ?_⟩) (by assumption) ?_;rotate_left
     ·intro w hSw
      (try dsimp only at hSw)
      have a1 := (HMR.out.keep hSw).cell 1 _ rfl;have a2 := (HMR.out.keep hSw).cell 2 _ rfl;have y1 := (HYV.out _ hSw);go_simp
      try with_reducible rfl
     refine take_d19 (i := 5) (d := some 66) (v := ?_) rfl rfl (by kernel_rfl) (by kernel_rfl) (by kernel_rfl) (fun _ _ _ h => h) (Or.inl ⟨by rfl, ?_⟩) (by assumption) ?_;rotate_left
     ·intro w hSw
      (try dsimp only at hSw)
      have a1 := (HMR.out.keep hSw).cell 1 _ rfl;have a2 := (HMR.out.keep hSw).cell 2 _ rfl;have y1 := (HYV.out _ hSw);go_simp
      try with_reducible rfl
     refine take_d19 (i := 6) (d := some 67) (v := ?_) rfl rfl (by kernel_rfl) (by kernel_rfl) (by kernel_rfl) (fun _ _ _ h => h) (Or.inl ⟨by rfl, ?_⟩) (by assumption) ?_;rotate_left
     ·intro w hSw
      (try dsimp only at hSw)
      have a1 := (HMR.out.keep hSw).cell 1 _ rfl;have a2 := (HMR.out.keep hSw).cell 2 _ rfl;have y1 := (HYV.out _ hSw);go_simp
      try with_reducible rfl
     refine take_d19 (i := 7) (d := some 68) (v := ?_) rfl rfl (by kernel_rfl) (by kernel_rfl) (by kernel_rfl) (fun _ _ _ h => h) (Or.inl ⟨by rfl, ?_⟩) (by assumption) ?_;rotate_left
     ·intro w hSw
      (try dsimp only at hSw)
      have a1 := (HMR.out.keep hSw).cell 1 _ rfl;have a2 := (HMR.out.keep hSw).cell 2 _ rfl;have y1 := (HYV.out _ hSw);go_simp
      try with_reducible rfl
     refine take_d19 (i := 8) (d := some 69) (v := ?_) rfl rfl (by kernel_rfl) (by kernel_rfl) (by kernel_rfl) (fun _ _ _ h => h) (Or.inl ⟨by rfl, ?_⟩) (by assumption) ?_;rotate_left
     ·intro w hSw
      (try dsimp only at hSw)
      have a1 := (HMR.out.keep hSw).cell 1 _ rfl;have a2 := (HMR.out.keep hSw).cell 2 _ rfl;have y1 := (HYV.out _ hSw);go_simp
      try with_reducible rfl
     try simp only [Act.put, List.setIfInBounds_toArray, List.set_cons_zero, List.set_cons_succ]
     refine wpAnyH_ready (rs := [9]) (by kernel_rfl) (by simp) ?_;refine AllReadyH.cons rfl (fun K hK => ?_) AllReadyH.nil;go_simp;refine (HDE.out _).mono ?_;rintro _ w7 ⟨rfl, hb7⟩;go_wp2_with fail;refine hK.out _ _ (below_two hHeld hb7) (fun h7 => ?_);clear hK K;refine take_d19 (i := 10) (d := some 71) (v := ?_) rfl rfl (by kernel_rfl) (by kernel_rfl) (by kernel_rfl) (fun _ _ _ h => h) (Or.inl ⟨by rfl, ?_⟩) (by assumption) ?_;rotate_left
     ·intro w hSw;go_simp
      try with_reducible rfl
     refine take_d19 (i := 11) (d := some 11) (v := ?_) rfl rfl (by kernel_rfl) (by kernel_rfl) (by kernel_rfl) (fun _ _ _ h => h) (Or.inl ⟨by rfl, ?_⟩) (by assumption) ?_;rotate_left
     ·intro w hSw;go_simp
      try with_reducible rfl
     try simp only [Act.put, List.setIfInBounds_toArray, List.set_cons_zero, List.set_cons_succ]
     try simp only [Act.put]
     refine wpAnyH_done (by kernel_rfl) ?_ _;go_wp2;go_roundw
     case rel => exact ⟨i + 1, 1, _, by go_num, rfl, rfl, by have := HLT.out; omega, hid' (by have h := HCN.out; rwa [show (Lib.itoa fb.length == Lib.itoa pb.data.toList.length) = (f.v.toList == dc.toList) by rw [HFB.out, Lib.toList_data, Lib.toList_data, HDC.out]; rfl] at h), hid' (below_two HBR2.out h7)⟩
     case measure => have := HLT.out; simp [intOf]; omega
   ·obtain rfl : i = nF := by omega
    have hlt2 : ¬ (i : Int) < (i : Int) := by omega
    have HEN := hid' (Ap.cnt_end HFL.out (by rw [HNF.out]; exact HC.out));have HBF := hid' (below_two HBN.out HBR.out);have HXF := hid' (HXN.out.keep HBR.out);have a0 := HMR.out.cell 0 _ rfl;have a1 := HMR.out.cell 1 _ rfl;have a2 := HMR.out.cell 2 _ rfl;have a3 := HMR.out.cell 3 _ rfl;have x0 := HXF.out.cell 0 _ rfl;clear hlt;cases c1 : (m.toList == [72, 69, 65, 68])
    ·have hne : m.data.toList ≠ Fs.mHEAD := fun h => by rw [ba_list, h] at c1; exact absurd c1 (by decide)
     obtain ⟨nT, hnT⟩ : ∃ nT, Ts.length = nT := ⟨_, rfl⟩;rw [hnT] at a3 HMR;have HNT := hid' hnT;rcases HSY.out with ⟨h1, h2, h3⟩ | ⟨b2, h1, h2, h3, h4, h5⟩
     ·have hs0 : says = 0 := by
       rcases HEN.out with ⟨_, h⟩ | ⟨b3, h, _⟩
       ·exact h
       ·rw [h1] at h;have := congrArg List.length h;simp at this
      subst hs0;have h3' := h3.resolve_left hne;clear h1 h3 hnT;have hlast : (0 < (nT : Int)) ∨ pb = ⟨#[]⟩ := by
       rcases h2 with h | h
       ·left;have : Ts.length ≠ 0 := fun e => h (List.eq_nil_of_length_eq_zero e);have := HNT.out;omega
       ·right;apply ByteArray.ext; apply Array.toList_inj.1; exact h
      have hany : (Ps == 204) = true ∨ (Ps == 304) = true ∨ (0 < (nT : Int)) := by
       rcases h3' with h | h | h
       ·left; rw [h]; rfl
       ·right; left; rw [h]; rfl
       ·right; right;have : Ts.length ≠ 0 := fun e => h (List.eq_nil_of_length_eq_zero e);have := HNT.out;omega
      clear h2 h3';cases d1 : (Ps == 204)
      ·cases d2 : (Ps == 304)
       ·have d3 : (0 < (nT : Int)) := by rcases hany with h | h | h <;> simp_all
        clear hany hlast;go_wp2_with fail;refine (HAW.out _ (tb_below19 HT.out HBF.out)).mono ?_;rintro _ w9 ⟨rfl, hb⟩;go_wp2;go_ret;exact ⟨rfl, below_two HBF.out hb⟩
       ·clear hany;by_cases d3 : (0 < (nT : Int))
        ·clear hlast;go_wp2_with fail;refine (HAW.out _ (tb_below19 HT.out HBF.out)).mono ?_;rintro _ w9 ⟨rfl, hb⟩;go_wp2;go_ret;exact ⟨rfl, below_two HBF.out hb⟩
        ·obtain rfl : pb = ⟨#[]⟩ := hlast.resolve_left d3;clear hlast;go_wp2_with fail;refine (HAW.out _ (tb_below19 HT.out HBF.out)).mono ?_;rintro _ w9 ⟨rfl, hb⟩;go_wp2;go_ret;exact ⟨rfl, below_two HBF.out hb⟩
      ·clear hany;by_cases d3 : (0 < (nT : Int))
       ·clear hlast;go_wp2_with fail;refine (HAW.out _ (tb_below19 HT.out HBF.out)).mono ?_;rintro _ w9 ⟨rfl, hb⟩;go_wp2;go_ret;exact ⟨rfl, below_two HBF.out hb⟩
       ·obtain rfl : pb = ⟨#[]⟩ := hlast.resolve_left d3;clear hlast;go_wp2_with fail;refine (HAW.out _ (tb_below19 HT.out HBF.out)).mono ?_;rintro _ w9 ⟨rfl, hb⟩;go_wp2;go_ret;exact ⟨rfl, below_two HBF.out hb⟩
     ·have hs1 : says = 1 ∧ right = true := by
       rcases HEN.out with ⟨h, _⟩ | ⟨b3, h, h6, h7⟩
       ·rw [h1] at h;have := congrArg List.length h;simp at this
       ·rw [h1] at h;have h8 := List.append_cancel_left h;injection h8 with h8 _;refine ⟨h6, ?_⟩;have h9 := congrArg (fun f : Fd => f.v.data.toList) h8;rw [h7, h5 hne];exact beq_iff_eq.2 h9.symm
      obtain ⟨hs1, hr1⟩ := hs1;subst hs1 hr1;have d1 : (Ps == 204) = false := by simpa using h3
      have d2 : (Ps == 304) = false := by simpa using h4
      have d3 : ¬ (0 < (nT : Int)) := by rw [h2] at hnT; simp at hnT; omega
      clear h1 h2 h3 h4 h5 hnT;go_wp2_with fail;refine (HAW.out _ (tb_below19 HT.out HBF.out)).mono ?_;rintro _ w9 ⟨rfl, hb⟩;go_wp2;go_ret;exact ⟨rfl, below_two HBF.out hb⟩
    ·have hb0 : pb.data.toList = [] := HHD.out (by rw [ba_list] at c1; exact beq_iff_eq.1 c1);obtain rfl : pb = ⟨#[]⟩ := by apply ByteArray.ext; apply Array.toList_inj.1; exact hb0
     have hs1 : (says : Int) ≤ 1 := by rcases HEN.out with ⟨_, h⟩ | ⟨_, _, h, _⟩ <;> omega
     clear hb0;go_wp2_with fail;refine (HAW.out _ (tb_below19 HT.out HBF.out)).mono ?_;rintro _ w9 ⟨rfl, hb⟩;go_wp2;go_ret;exact ⟨rfl, below_two HBF.out hb⟩

end Go.Proofs.YthhpejgpfaikaabGreatDoor
