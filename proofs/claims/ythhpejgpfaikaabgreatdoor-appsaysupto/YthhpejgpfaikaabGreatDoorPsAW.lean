/-
  What the row stands on.
-/
import Derived.Test.YthhpejgpfaikaabGreatDoorPsAJ
import Derived.Test.YthhpejgpfaikaabGreatDoorPsAV
import Derived.Test.YthhpejgpfaikaabGreatDoorPsAK
import Derived.Test.YthhpejgpfaikaabGreatDoorPsAL
namespace Go.Proofs.YthhpejgpfaikaabGreatDoor
set_option maxHeartbeats 64000000
open Go.RowKit

theorem cut19 (y : ByteArray) (A D : Nat) : (⟨((y.data.toList.take D).drop A).toArray⟩ : ByteArray) = y.extract A D := by
 apply ByteArray.ext;rw [ByteArray.data_extract];apply Array.toList_inj.1;rw [Array.toList_extract, List.extract_eq_take_drop, List.drop_take]
theorem two19 (w : World) (T : TypeId) (x0 x1 : Value) : ∀ j v, [x0, x1][j]? = some v → (w.alloc (.cells #[x0, x1] T)).cell? ((⟨w.heap.size, 0, none⟩ : Addr).add j) = some v := two_new w T x0 x1

set_option maxRecDepth 20000 in
theorem csingle19 (p y : ByteArray) (t q : Int) (he : EN19 ⟨p, y, t, q⟩) (hp : p.size ≤ 140737488355328) (A C : Nat) (hac : A ≤ C) (hc : C < y.size) (w : World) (hT : TB19 w) :
  Calls Tryz.prog 157 #[.agg #[.string p, .string y, .int .i64 t, .int .i64 q], .agg #[.int .i64 (A : Int), .int .i64 (C : Int)]] w fun e w' => RP19 w w' e (Fs.one (Fs.kind p.data.toList) ⟨p, y, t, q⟩ ⟨(A : Int), (C : Int)⟩) := by
 have hy := he.b;simp only at hy;have HT := hid' hT;have HK := hid' (fun W => ckind19 p _ rfl hp W);obtain ⟨kd, hkd⟩ : ∃ kd : ByteArray, ⟨(Fs.kind p.data.toList).toArray⟩ = kd := ⟨_, rfl⟩;have hkl : Fs.kind p.data.toList = kd.data.toList := by rw [← hkd]
 rw [hkd] at HK;have HH := hid' (fun W (h : TB19 W) => cheads19 p y t q he kd W h);have HTD := hid' (fun W (h : TB19 W) => ctold16 ⟨(A : Int), (C : Int)⟩ (y.size : Int) W (by simp only; omega) (by simp only; omega) (by simp only; omega) (by simp only; omega) (by omega) (by omega) h);unfold RP19 Fs.one;rw [hkl];have HL := hid' (head_len19 kd.data.toList ⟨p, y, t, q⟩);generalize Fs.head kd.data.toList ⟨p, y, t, q⟩ = fs at *;simp only at HTD ⊢;obtain ⟨D, hD⟩ : ∃ D : Nat, C + 1 = D := ⟨_, rfl⟩;have hcu : (⟨((y.data.toList.take ((C : Int) + 1).toNat).drop ((A : Int)).toNat).toArray⟩ : ByteArray) = y.extract A D := by
  rw [show ((C : Int) + 1).toNat = D by omega, show ((A : Int)).toNat = A by omega];exact cut19 y A D
 rw [hcu];obtain ⟨td, htd⟩ : ∃ td : ByteArray, ⟨(Rg.told ⟨(A : Int), (C : Int)⟩ (y.size : Int)).toArray⟩ = td := ⟨_, rfl⟩;rw [show Fs.fd Fs.nCR (Rg.told ⟨(A : Int), (C : Int)⟩ (y.size : Int)) = ⟨Fs.str Fs.nCR, td⟩ by rw [← htd]; rfl];rw [htd] at HTD;have hwr : IntKind.i64.wrap ((C : Int) + 1) = (D : Int) := by rw [wrp _ (by omega) (by omega)]; omega
 have had : A ≤ D := by omega
 have hdy : D ≤ y.size := by omega
 have had2 : (A : Int) ≤ (D : Int) := by omega
 have hdy2 : (D : Int) ≤ (y.size : Int) := by omega
 unfold rpC;clear hT he hp hkd hkl hcu htd hac hc hD;obtain ⟨i0, hi0, hz0, hz1, hz2⟩ := minfo_parts infoF14;have HI := hid' hi0;have HZ0 := hid' hz0;have HZ1 := hid' hz1;have HZ2 := hid' hz2;have HY := hid' hy;clear hi0 hz0 hz1 hz2 hy;go_enter Tryz.func157, Tryz.ntmps157;go_wp2_with (refine wpl_box 68 _ rfl rfl #[.string p, .string y, .int .i64 t, .int .i64 q] (by kernel_rfl) ?_);intro xb w1 hg1 ha1 hb1;have HX1 := hid' ha1;have HB1 := hid' hb1;clear hg1 ha1 hb1;go_wp2_with (refine wpl_box 227 _ rfl rfl #[.int .i64 (A : Int), .int .i64 (C : Int)] (by kernel_rfl) ?_);intro zb w2 hg2 ha2 hb2;have HX2 := hid' (HX1.out.keep hb2);have HZ := hid' ha2;have HB2 := hid' (below_two HB1.out hb2);clear hg2 ha2 hb2 HX1 HB1;go_wp2_with (refine wpl_alloc 38 rfl rfl _ zeroRp19 ?_);intro rb w3 hrb ha3 hl3;have HA3 := hid' ha3;have HB3 := hid' hl3;have HRB := hid' hrb;have HRL := hid' ha3.lt;have x1 := (HX2.out.keep hl3).cell 1 _ rfl;clear hrb ha3 hl3;go_upto_region 2 with fail;clear x1;refine wp_region_held_drew (S := fun W => Below w2.heap.size w2 W) (by kernel_rfl) (HB3.out.drew) (fun hHeld => ?_);refine take_d19 (i := 0) (d := some 10) (v := ?_) rfl rfl (by kernel_rfl) (by kernel_rfl) (by kernel_rfl) (fun _ _ _ h => h) (Or.inl ⟨by rfl, ?_⟩) (by assumption) ?_;rotate_left
 ·intro w hSw
  (try dsimp only at hSw)
  have ha := HX2.out.keep hSw;have c0 := ha.cell 0 _ rfl;have c1 := ha.cell 1 _ rfl;have c2 := ha.cell 2 _ rfl;have c3 := ha.cell 3 _ rfl;go_simp
  try with_reducible rfl
 refine take_d19 (i := 1) (d := some 11) (v := ?_) rfl rfl (by kernel_rfl) (by kernel_rfl) (by kernel_rfl) (fun _ _ _ h => h) (Or.inl ⟨by rfl, ?_⟩) (by assumption) ?_;rotate_left
 ·intro w hSw
  (try dsimp only at hSw)
  have ha := HX2.out.keep hSw;have c0 := ha.cell 0 _ rfl;have c1 := ha.cell 1 _ rfl;have c2 := ha.cell 2 _ rfl;have c3 := ha.cell 3 _ rfl;go_simp
  try with_reducible rfl
 refine take_d19 (i := 2) (d := some 12) (v := ?_) rfl rfl (by kernel_rfl) (by kernel_rfl) (by kernel_rfl) (fun _ _ _ h => h) (Or.inl ⟨by rfl, ?_⟩) (by assumption) ?_;rotate_left
 ·intro w hSw
  (try dsimp only at hSw)
  have ha := HX2.out.keep hSw;have c0 := ha.cell 0 _ rfl;have c1 := ha.cell 1 _ rfl;have c2 := ha.cell 2 _ rfl;have c3 := ha.cell 3 _ rfl;go_simp
  try with_reducible rfl
 try simp only [Act.put, List.setIfInBounds_toArray, List.set_cons_zero, List.set_cons_succ]
 refine wpAnyH_ready (rs := [3]) (by kernel_rfl) (by simp) ?_;refine AllReadyH.cons rfl (fun K hK => ?_) AllReadyH.nil;go_simp;refine (HK.out _).mono ?_;rintro e wA ⟨rfl, hbA⟩;have HAA := hid' (Ar.keep (show Ar w3.drew rb _ _ from HA3.out) hbA);go_wp2_with fail;refine hK.out _ _ (below_two hHeld hbA) (fun hHeld2 => ?_);clear hK K
 try simp only [Act.put, List.setIfInBounds_toArray, List.set_cons_zero, List.set_cons_succ]
 refine wpAnyH_ready (rs := [4]) (by kernel_rfl) (by simp) ?_;refine AllReadyH.cons rfl (fun K hK => ?_) AllReadyH.nil;go_simp;refine (HH.out _ (tb_below19 (tb_below19 HT.out HB2.out) hHeld2)).mono ?_;rintro e wC ⟨⟨vo, vc, rfl, hoC⟩, hbC⟩;have HAC := hid' (HAA.out.keep hbC);have HOC := hid' hoC;have HLA : Hid (rb < wA.heap.size) := hid' HAA.out.lt;have HWA := hid' (below_two HB2.out hHeld2).size;have HBC := hid' (below_two hHeld2 hbC);have HLC := hid' hbC.size;have hHA := hid' hHeld2.size;clear hoC;go_wp2_with fail;refine hK.out _ _ (below_two hHeld2 hbC) (fun hHeld3 => ?_);clear hK K;refine take_d19 (i := 5) (d := some 6) (v := ?_) rfl rfl (by kernel_rfl) (by kernel_rfl) (by kernel_rfl) (fun _ _ _ h => h) (Or.inl ⟨by rfl, ?_⟩) (by assumption) ?_;rotate_left
 ·intro w hSw;go_simp
  try with_reducible rfl
 try simp only [Act.put, List.setIfInBounds_toArray, List.set_cons_zero, List.set_cons_succ]
 try simp only [Act.put]
 refine wpAnyH_done (by kernel_rfl) ?_ _;clear hHeld hHeld2 hHeld3 hbA hbC;go_upto_region 3 with fail;refine wp_region_held_drew (S := fun W => Below w2.heap.size w2 W) (by kernel_rfl) (HBC.out.drew) (fun hG => ?_);refine take_d19 (i := 0) (d := some 15) (v := ?_) rfl rfl (by kernel_rfl) (by kernel_rfl) (by kernel_rfl) (fun _ _ _ h => h) (Or.inl ⟨by rfl, ?_⟩) (by assumption) ?_;rotate_left
 ·intro w hSw;go_simp
  try with_reducible rfl
 refine take_d19 (i := 1) (d := some 16) (v := ?_) rfl rfl (by kernel_rfl) (by kernel_rfl) (by kernel_rfl) (fun _ _ _ h => h) (Or.inl ⟨by rfl, ?_⟩) (by assumption) ?_;rotate_left
 ·intro w hSw
  (try dsimp only at hSw)
  have ha := HZ.out.keep hSw;have c0 := ha.cell 0 _ rfl;have c1 := ha.cell 1 _ rfl;go_simp
  try with_reducible rfl
 refine take_d19 (i := 2) (d := some 17) (v := ?_) rfl rfl (by kernel_rfl) (by kernel_rfl) (by kernel_rfl) (fun _ _ _ h => h) (Or.inl ⟨by rfl, ?_⟩) (by assumption) ?_;rotate_left
 ·intro w hSw;go_simp
  try with_reducible rfl
 refine take_d19 (i := 3) (d := some 18) (v := ?_) rfl rfl (by kernel_rfl) (by kernel_rfl) (by kernel_rfl) (fun _ _ _ h => h) (Or.inl ⟨by rfl, ?_⟩) (by assumption) ?_;rotate_left
 ·intro w hSw;go_simp
  try with_reducible rfl
 refine take_d19 (i := 8) (d := some 23) (v := ?_) rfl rfl (by kernel_rfl) (by kernel_rfl) (by kernel_rfl) (fun _ _ _ h => h) (Or.inl ⟨by rfl, ?_⟩) (by assumption) ?_;rotate_left
 ·intro w hSw;go_simp
  try with_reducible rfl
 refine take_d19 (i := 9) (d := some 24) (v := ?_) rfl rfl (by kernel_rfl) (by kernel_rfl) (by kernel_rfl) (fun _ _ _ h => h) (Or.inl ⟨by rfl, ?_⟩) (by assumption) ?_;rotate_left
 ·intro w hSw;go_simp
  try with_reducible rfl
 refine take_d19 (i := 10) (d := some 25) (v := ?_) rfl rfl (by kernel_rfl) (by kernel_rfl) (by kernel_rfl) (fun _ _ _ h => h) (Or.inl ⟨by rfl, ?_⟩) (by assumption) ?_;rotate_left
 ·intro w hSw
  (try dsimp only at hSw)
  have ha := HZ.out.keep hSw;have c0 := ha.cell 0 _ rfl;have c1 := ha.cell 1 _ rfl;go_simp
  try with_reducible rfl
 refine take_d19 (i := 11) (d := some 26) (v := ?_) rfl rfl (by kernel_rfl) (by kernel_rfl) (by kernel_rfl) (fun _ _ _ h => h) (Or.inl ⟨by rfl, ?_⟩) (by assumption) ?_;rotate_left
 ·intro w hSw;go_simp
  try with_reducible rfl
 refine take_d19 (i := 12) (d := some 27) (v := ?_) rfl rfl (by kernel_rfl) (by kernel_rfl) (by kernel_rfl) (fun _ _ _ h => h) (Or.inl ⟨by rfl, ?_⟩) (by assumption) ?_;rotate_left
 ·intro w hSw
  (try dsimp only at hSw)
  have ha := HZ.out.keep hSw;have c0 := ha.cell 0 _ rfl;have c1 := ha.cell 1 _ rfl;go_simp
  try with_reducible rfl
 refine take_d19 (i := 13) (d := some 28) (v := ?_) rfl rfl (by kernel_rfl) (by kernel_rfl) (by kernel_rfl) (fun _ _ _ h => h) (Or.inl ⟨by rfl, ?_⟩) (by assumption) ?_;rotate_left
 ·intro w hSw;go_simp
  try with_reducible rfl
 refine take_d19 (i := 14) (d := some 29) (v := ?_) rfl rfl (by kernel_rfl) (by kernel_rfl) (by kernel_rfl) (fun _ _ _ h => h) (Or.inl ⟨by rfl, ?_⟩) (by assumption) ?_;rotate_left
 ·intro w hSw;go_simp
  try with_reducible rfl
 try simp only [Act.put, List.setIfInBounds_toArray, List.set_cons_zero, List.set_cons_succ]
 refine wpAnyH_ready (rs := [4]) (by kernel_rfl) (by simp) ?_;refine AllReadyH.cons rfl (fun K hK => ?_) AllReadyH.nil;go_simp;refine (HTD.out _ (tb_below19 (tb_below19 HT.out HB2.out) hG)).mono ?_;rintro e wE ⟨rfl, hbE⟩;have HAE := hid' (Ar.keep (show Ar wC.drew rb _ _ from HAC.out) hbE);have HOE := hid' (own_same (show wC.drew.ownsRow _ _ _ _ _ _ from HOC.out) (fun j hj => hbE.block j (own_lt HOC.out j hj)));go_wp2_with fail;refine hK.out _ _ (below_two hG hbE) (fun hG2 => ?_);clear hK K
 try simp only [Act.put, List.setIfInBounds_toArray, List.set_cons_zero, List.set_cons_succ]
 refine wpAnyH_ready (rs := [5]) (by kernel_rfl) (by simp) ?_;refine AllReadyH.cons rfl (fun K hK => ?_) AllReadyH.nil;go_simp;refine (ctoldF19 td _).mono ?_;rintro e wF ⟨rfl, hbF⟩;have HAF := hid' (HAE.out.keep hbF);have HOF := hid' (own_same HOE.out (fun j hj => hbF.block j (own_lt HOE.out j hj)));go_wp2_with fail;refine hK.out _ _ (below_two hG2 hbF) (fun hG3 => ?_);clear hK K
 try simp only [Act.put, List.setIfInBounds_toArray, List.set_cons_zero, List.set_cons_succ]
 refine wpAnyH_ready (rs := [6]) (by kernel_rfl) (by simp) ?_;refine AllReadyH.cons rfl (fun K hK => ?_) AllReadyH.nil;refine step_lit19 rfl (some 21) rfl 44 1 #[.string ⟨#[99, 111, 110, 116, 101, 110, 116, 45, 114, 97, 110, 103, 101]⟩, .string td] (by go_simp) ?_;have hbG := bl_alloc19 wF (.cells #[.string ⟨#[99, 111, 110, 116, 101, 110, 116, 45, 114, 97, 110, 103, 101]⟩, .string td] 44);have HAG := hid' (HAF.out.keep hbG);have HOG := hid' (own_same HOF.out (fun j hj => hbG.block j (own_lt HOF.out j hj)));have HN := hid' (two19 wF 44 (.string ⟨#[99, 111, 110, 116, 101, 110, 116, 45, 114, 97, 110, 103, 101]⟩) (.string td));refine hK.out _ _ (below_two hG3 hbG) (fun hG4 => ?_);clear hK K
 try simp only [Act.put, List.setIfInBounds_toArray, List.set_cons_zero, List.set_cons_succ]
 refine wpAnyH_ready (rs := [7]) (by kernel_rfl) (by simp) ?_;refine AllReadyH.cons rfl (fun K hK => ?_) AllReadyH.nil;refine step_app19 rfl (some 22) rfl _ _ 23 rfl wA.heap.size 44 i0 (.agg #[.string ⟨#[]⟩, .string ⟨#[]⟩]) 2 32 Tryz.underlying23 HI.out HZ0.out HZ1.out HZ2.out (by rfl) (by decide) (.slice vo 4 vc) 4 (fC fs) (by rfl) HOG.out ⟨wF.heap.size, 0, none⟩ 1 1 [.string ⟨#[99, 111, 110, 116, 101, 110, 116, 45, 114, 97, 110, 103, 101]⟩, .string td] (by rfl) rfl HN.out (by simp [Value.oneCell']) (by decide) (by decide) (Nat.le_trans HLC.out (Nat.le_trans hbE.size (Nat.le_trans hbF.size hbG.size))) ?_;intro v6 w6 hown6 hgrow6;have hbH : Below w2.heap.size w2 w6 := below_grown19 hG4 hG4.size (own_base19 HOG.out (Nat.le_trans hHA.out (Nat.le_refl _))) hgrow6;obtain ⟨v6o, v6c, hv6⟩ := own_shape hown6;subst hv6;have HAH : Hid (Ar w6 rb 38 #[.int .i64 0, .slice none 0 0, .string ⟨#[]⟩, .slice none 0 0]) := hid' (ar_grown HAG.out hgrow6 (fun j hj => by have h1 := own_ge19 HOG.out j hj; have h2 := HLA.out; omega));have HOH : Hid (w6.ownsRow wA.heap.size 44 2 (.slice v6o 5 v6c) 5 (fC (fs ++ [⟨Fs.str Fs.nCR, td⟩]))) := hid' (by rw [fC_append]; exact hown6);refine hK.out _ _ hbH (fun hG5 => ?_);clear hK K hown6 hgrow6;refine take_d19 (i := 15) (d := some 30) (v := ?_) rfl rfl (by kernel_rfl) (by kernel_rfl) (by kernel_rfl) (fun _ _ _ h => h) (Or.inl ⟨by rfl, ?_⟩) (by assumption) ?_;rotate_left
 ·intro w hSw;go_simp
  try with_reducible rfl
 try simp only [Act.put, List.setIfInBounds_toArray, List.set_cons_zero, List.set_cons_succ]
 refine wpAnyH_ready (rs := [16]) (by kernel_rfl) (by simp) ?_;refine AllReadyH.cons rfl (fun K hK => ?_) AllReadyH.nil;refine step_store19 rfl 38 _ _ rfl rb #[.int .i64 206, .slice v6o 5 v6c, .string (y.extract A D), .slice none 0 0] rfl rfl 38 _ (HAH.out) sizeRp19 rfl (by simp [Value.oneCell']) ?_;intro wf hawf huwf;refine hK.out _ _ (hG5.trans (huwf.below HRB.out)) (fun _ => ?_);clear hK K
 try simp only [Act.put]
 refine wpAnyH_done (by kernel_rfl) ?_ _;have HWF := hid' hawf;have HUF := hid' huwf;have HBF := hid' ((below_two HB2.out hG5).trans (huwf.below (Nat.le_trans HB2.out.size HRB.out)));have HL5 : Hid ((fs ++ ([⟨Fs.str Fs.nCR, td⟩] : List Fd)).length = 5) := hid' (by rw [List.length_append, HL.out]; rfl);clear hawf huwf hbE hbF hbG hG hG2 hG3 hG4 hG5 hbH;go_wp2_with fail;have hld := ldRp19 HWF.out;exact bodyPost_ret (v := .agg #[.int .i64 206, .slice v6o 5 v6c, .string (y.extract A D), .slice none 0 0]) (by simp [results, Tryz.results157, asAddr, hld]) rfl ⟨⟨v6o, 5, v6c, rfl, HL5.out, own_upd19 HOH.out HUF.out HLA.out HWA.out⟩, HBF.out⟩


set_option maxRecDepth 20000 in
theorem cseveral19 (p y : ByteArray) (t q : Int) (he : EN19 ⟨p, y, t, q⟩) (hp : p.size ≤ 140737488355328) (ro : Option Addr) (m rc : Nat) (rs : List Rg.Rn) (hm : rs.length = m) (hmb : m ≤ 1048576) (w : World) (hrs : RW16 w ro rs) (hT : TB19 w) :
  Calls Tryz.prog 158 #[.agg #[.string p, .string y, .int .i64 t, .int .i64 q], .slice ro m rc] w fun e w' => RP19 w w' e (Fs.sev (Fs.kind p.data.toList) ⟨p, y, t, q⟩ rs) := by
 have hy := he.b;simp only at hy;obtain ⟨ln, hln⟩ : ∃ ln : ByteArray, ⟨(Fs.line y.data.toList).toArray⟩ = ln := ⟨_, rfl⟩;have hll : Fs.line y.data.toList = ln.data.toList := by rw [← hln]
 have hls : ln.size ≤ 25 := by
  rw [Lib.size_eq, ← hll];obtain ⟨q, hq, e⟩ := Fs.line_ex y.data.toList;rw [e];exact Rg.line_len _ (Nat.lt_of_le_of_lt hq.2.2 (by have := Lib.size_eq y; omega))
 have HLN : Hid (∀ W, TB19 W → Calls Tryz.prog 191 #[.string y] W fun e w' => e = .returned (.string ln) ∧ Below W.heap.size W w') := hid' (fun W h => by
  obtain ⟨q, hq, e⟩ := Fs.line_ex y.data.toList;have := cline16 y q hq W (by omega) h;rw [← e, hln] at this;exact this)
 have HT := hid' hT;have HK := hid' (fun W => ckind19 p _ rfl hp W);obtain ⟨kd, hkd⟩ : ∃ kd : ByteArray, ⟨(Fs.kind p.data.toList).toArray⟩ = kd := ⟨_, rfl⟩;have hkl : Fs.kind p.data.toList = kd.data.toList := by rw [← hkd]
 have hks : kd.size ≤ 24 := by rw [Lib.size_eq, ← hkl]; exact Fs.kind_le _
 rw [hkd] at HK;have HP := hid' (fun W (h : TB19 W) (hr : RW16 W ro rs) => cparts16 y kd ln ro m rc rs hm hmb W hr (by omega) (by omega) (by omega) h);have HH := hid' (fun W (h : TB19 W) => cheads19 p y t q he (⟨#[109, 117, 108, 116, 105, 112, 97, 114, 116, 47, 98, 121, 116, 101, 114, 97, 110, 103, 101, 115, 59, 32, 98, 111, 117, 110, 100, 97, 114, 121, 61]⟩ ++ ln) W h);unfold RP19 Fs.sev;rw [hll, hkl];have hmp : (⟨#[109, 117, 108, 116, 105, 112, 97, 114, 116, 47, 98, 121, 116, 101, 114, 97, 110, 103, 101, 115, 59, 32, 98, 111, 117, 110, 100, 97, 114, 121, 61]⟩ ++ ln : ByteArray).data.toList = Fs.vMP ++ ln.data.toList := by simp [ByteArray.data_append, Fs.vMP]
 rw [hmp] at HH;have HL := hid' (head_len19 (Fs.vMP ++ ln.data.toList) ⟨p, y, t, q⟩);generalize Fs.head (Fs.vMP ++ ln.data.toList) ⟨p, y, t, q⟩ = fs at *;simp only;obtain ⟨pt, hpt⟩ : ∃ pt : ByteArray, ⟨(Rg.partsS y.data.toList kd.data.toList ln.data.toList rs).toArray⟩ = pt := ⟨_, rfl⟩;rw [hpt] at HP ⊢;generalize Rg.partsE y.data.toList rs = pe at *;have hsum : 31 + ln.size ≤ 9223372036854775807 := by omega
 have HRS := hid' hrs;unfold rpC;clear hT he hp hkd hkl hln hll hpt hls hks hm hmb hmp hrs hy;go_enter Tryz.func158, Tryz.ntmps158;go_wp2_with (refine wpl_box 68 _ rfl rfl #[.string p, .string y, .int .i64 t, .int .i64 q] (by kernel_rfl) ?_);intro xb w1 hg1 ha1 hb1;have HX1 := hid' ha1;have HB1 := hid' hb1;clear hg1 ha1 hb1;go_wp2_with (refine wpl_alloc 38 rfl rfl _ zeroRp19 ?_);intro rb w2 hrb ha2 hl2;have HA2 := hid' ha2;have HB2 := hid' (below_two HB1.out hl2);have HRB : Hid (w.heap.size ≤ rb) := hid' (Nat.le_trans HB1.out.size hrb);have HX2 := hid' (HX1.out.keep hl2);have x1 := HX2.out.cell 1 _ rfl;clear hrb ha2 hl2 HX1 HB1;go_wp2_with fail;refine (HLN.out w2 (tb_below19 HT.out HB2.out)).mono ?_;rintro e w3 ⟨rfl, hb3⟩;have HX3 := hid' (HX2.out.keep hb3);have HA3 := hid' (HA2.out.keep hb3);have HB3 := hid' (below_two HB2.out hb3);have x0 := HX3.out.cell 0 _ rfl;clear hb3 x1 HX2 HA2 HB2;go_wp2_with fail;refine (HK.out w3).mono ?_;rintro e w4 ⟨rfl, hb4⟩;have HX4 := hid' (HX3.out.keep hb4);have HA4 := hid' (HA3.out.keep hb4);have HB4 := hid' (below_two HB3.out hb4);clear hb4 x0 HX3 HA3 HB3;go_wp2_with fail;refine (HP.out w4 (tb_below19 HT.out HB4.out) (HRS.out.below HB4.out)).mono ?_;rintro e w5 ⟨rfl, hb5⟩;have HX5 := hid' (HX4.out.keep hb5);have HA5 := hid' (HA4.out.keep hb5);have HB5 := hid' (below_two HB4.out hb5);have x0 := HX5.out.cell 0 _ rfl;have x1 := HX5.out.cell 1 _ rfl;have x2 := HX5.out.cell 2 _ rfl;have x3 := HX5.out.cell 3 _ rfl;clear hb5 HX4 HA4 HB4;go_wp2_with fail;refine (HH.out w5 (tb_below19 HT.out HB5.out)).mono ?_;rintro e w6 ⟨⟨vo, vc, rfl, ho6⟩, hb6⟩;have HO6 := hid' ho6;have HA6 := hid' (HA5.out.keep hb6);have HB6 := hid' (below_two HB5.out hb6);have HLA := hid' HA5.out.lt;have HW6 := hid' HB5.out.size;clear hb6 ho6 x0 x1 x2 x3 HX5 HA5 HB5;go_wp2_with (refine wpl_store 38 _ _ rfl rfl rb #[.int .i64 206, .slice vo 4 vc, .string pt, .slice none 0 0] (by kernel_rfl) (by kernel_rfl) _ _ HA6.out sizeRp19 rfl (by simp [Value.oneCell']) ?_);intro wf hwf huf;go_wp2;have hld := ldRp19 hwf;exact bodyPost_ret (v := .agg #[.int .i64 206, .slice vo 4 vc, .string pt, .slice none 0 0]) (by simp [results, Tryz.results158, asAddr, hld]) rfl ⟨⟨vo, 4, vc, rfl, HL.out, own_upd19 HO6.out huf HLA.out HW6.out⟩, HB6.out.trans (huf.below HRB.out)⟩

namespace Fs
def Lst (k : List T8) (x : ByteArray) : Prop := (k = [] ∧ x = ⟨#[]⟩) ∨ ∃ a, k = a ++ [x.data.toList]
theorem Lst.one {k : List T8} {x : ByteArray} (h : Lst k x) (hk : k.length = 1) : k = [x.data.toList] := by
 rcases h with ⟨rfl, _⟩ | ⟨a, rfl⟩
 ·cases hk
 ·rw [List.length_append, List.length_cons, List.length_nil] at hk;rw [List.eq_nil_of_length_eq_zero (show a.length = 0 by omega)];rfl
end Fs
def AP19 (on : Bool) (vs : List Fs.T8) (e : Ending) : Prop :=
 ∃ (x : ByteArray) (b : Bool), e = .returned (.tuple #[.string x, .bool b]) ∧ x.size ≤ 1048576 ∧ ((b = true ∧ on = true ∧ vs = [x.data.toList]) ∨ (b = false ∧ (on = false ∨ vs.length ≠ 1)))
theorem ap19_no {on : Bool} {vs : List Fs.T8} {x : ByteArray} (hx : x.size ≤ 1048576) (h : on = false ∨ vs.length ≠ 1) : AP19 on vs (.returned (.tuple #[.string x, .bool false])) := ⟨x, false, rfl, hx, .inr ⟨rfl, h⟩⟩
theorem ap19_yes {vs : List Fs.T8} {x : ByteArray} (hx : x.size ≤ 1048576) (h : vs = [x.data.toList]) : AP19 true vs (.returned (.tuple #[.string x, .bool true])) := ⟨x, true, rfl, hx, .inl ⟨rfl, rfl, h⟩⟩
theorem vsz_le19 {l : List Fd} {f : Fd} (h : f ∈ l) : f.v.size ≤ Tg.vsz l := by
 unfold Tg.vsz
 induction l with
 | nil => cases h
 | cons a r ih =>
  rcases List.mem_cons.1 h with rfl | h
  ·simp; omega
  ·have := ih h; simp only [List.map_cons, List.sum_cons]; omega

set_option maxRecDepth 20000 in
theorem casked19 (mt : ByteArray) (bG : Bool) (g1 : (mt.toList == [71, 69, 84]) = bG) (v : Value) (l : List Fd) (p y : ByteArray) (t q : Int) (he : EN19 ⟨p, y, t, q⟩) (w : World) (h : FW w v l) (hl : l.length ≤ 1048576) (hz : Tg.vsz l ≤ 1048576) (hT : TB19 w) :
  Calls Tryz.prog 117 #[.string mt, v, .agg #[.string y, .int .i64 t, .int .i64 q]] w fun e w' => AP19 (bG && Tg.sam l (Tg.mk q y.size) t) (Tg.vals l Fs.nRG) e ∧ Below w.heap.size w w' := by
 obtain ⟨ao, cap, rfl⟩ := h.shape;obtain ⟨hy, t0, t1, q0, q1⟩ := he;simp only at hy t0 t1 q0 q1;have HSM := hid' (fun W (hh : FW W (.slice ao l.length cap) l) (ht : TB19 W) => csame19 (.slice ao l.length cap) l y t q _ rfl W hh hl hz (by omega) (by omega) q1 ht.1);unfold flC at HSM;obtain ⟨n, hn⟩ : ∃ n, l.length = n := ⟨_, rfl⟩;rw [hn] at h hl HSM ⊢;have H := hid' h;have HN := hid' hn;have HLL := hid' hl;have HT := hid' hT;have HVS : Hid (∀ f ∈ l, f.v.size ≤ 1048576) := hid' (fun f hf => Nat.le_trans (vsz_le19 hf) hz);generalize Tg.sam l (Tg.mk q y.size) t = sm at *;clear h hn hT hz hy t0 t1 q0 q1;go_enter Tryz.func117, Tryz.ntmps117;go_wp2_with (refine wpl_box 66 _ rfl rfl #[.string y, .int .i64 t, .int .i64 q] (by kernel_rfl) ?_);intro xb w1 hg1 ha1 hb1;have HX1 := hid' ha1;have HB1 := hid' hb1;clear hg1 ha1 hb1;go_wp2;go_loopw [8, 9, 14] (fun s8 s9 s14 wr => ∃ (k c : Nat) (x : ByteArray), s14 = .int .i64 (k : Int) ∧ s9 = .int .i64 (c : Int) ∧ s8 = .string x ∧ k ≤ n ∧ Hid (c ≤ k) ∧ Hid (Fs.Lst (Tg.vals (l.take k) Fs.nRG) x) ∧ Hid ((Tg.vals (l.take k) Fs.nRG).length = c) ∧ Hid (x.size ≤ 1048576) ∧ Hid (Below w1.heap.size w1 wr)) (fun _ _ s14 _ => n - (intOf s14).toNat)
 case atStart => exact ⟨0, 0, ⟨#[]⟩, rfl, rfl, rfl, Nat.zero_le _, hid' (Nat.le_refl _), hid' (.inl ⟨rfl, rfl⟩), hid' rfl, hid' (by decide), hid' (Below.refl _ _)⟩
 case round =>
  obtain ⟨k, c, x, rfl, rfl, rfl, hk, HCK, HI, HC, HXS, HB⟩ := hrel;by_cases hlt : k < n
  ·have hlt2 : (k : Int) < (n : Int) := by omega
   obtain ⟨f, hf⟩ : ∃ f, l[k]? = some f := ⟨_, List.getElem?_eq_getElem (by rw [HN.out]; exact hlt)⟩;obtain ⟨a, hao, y0, y1⟩ := (H.out.keep (below_two HB1.out HB.out)).two k f hf;subst hao;have hvt := Tg.vals_take (nm := Fs.nRG) hf;have HFV := hid' (HVS.out f (List.mem_of_getElem? hf));have HB2 := hid' (below_two HB.out (bl_alloc19 wr (.cells #[.string f.n, .string f.v] 44)));have HW : Hid (Ar (wr.alloc (.cells #[.string f.n, .string f.v] 44)) wr.heap.size 44 #[.string f.n, .string f.v]) := hid' (heap_alloc_last wr _);have hcw : IntKind.i64.wrap ((c : Int) + 1) = ((c + 1 : Nat) : Int) := by rw [wrp _ (by omega) (by have := HCK.out; have := HLL.out; omega)]; omega
   have hnm : (f.n.data.toList == Fs.nRG) = (f.n.toList == [114, 97, 110, 103, 101]) := by rw [ba_list]; rfl
   rw [hnm] at hvt;go_upto_region 5 with fail;obtain ⟨fb, hfb⟩ : ∃ fb, wr.heap.size = fb := ⟨_, rfl⟩;rw [hfb] at HW ⊢;generalize wr.alloc (.cells #[.string f.n, .string f.v] 44) = w2 at *;clear hfb hnm hf y0 y1;have z0 := HW.out.cell 0 _ rfl;have z1 := HW.out.cell 1 _ rfl;cases c1 : (f.n.toList == [114, 97, 110, 103, 101])
   ·rw [c1] at hvt;simp only [Bool.false_eq_true, if_false, List.append_nil] at hvt;have HVT := hid' hvt;clear hvt hcw;go_wp2;go_roundw
    case rel => exact ⟨k + 1, c, x, by go_num, rfl, rfl, by omega, hid' (Nat.le_succ_of_le HCK.out), hid' (by rw [HVT.out]; exact HI.out), hid' (by rw [HVT.out]; exact HC.out), HXS, HB2⟩
    case measure => simp [intOf]; omega
   ·rw [c1] at hvt;simp only [if_true] at hvt;have HVT := hid' hvt;clear hvt;go_wp2;go_roundw
    case rel => exact ⟨k + 1, c + 1, f.v, by go_num, by simp, rfl, by omega, hid' (Nat.succ_le_succ HCK.out), hid' (.inr ⟨_, HVT.out⟩), hid' (by rw [HVT.out, List.length_append, HC.out]; rfl), HFV, HB2⟩
    case measure => simp [intOf]; omega
  ·obtain rfl : k = n := by omega
   have hlt2 : ¬ (k : Int) < (k : Int) := by omega
   have HV : Hid (Fs.Lst (Tg.vals l Fs.nRG) x) := hid' (by have := HI.out; rwa [List.take_of_length_le (by rw [HN.out]; exact Nat.le_refl _)] at this);have HVC : Hid ((Tg.vals l Fs.nRG).length = c) := hid' (by have := HC.out; rwa [List.take_of_length_le (by rw [HN.out]; exact Nat.le_refl _)] at this);have hx := HX1.out.keep HB.out;have x0 := hx.cell 0 _ rfl;have x1 := hx.cell 1 _ rfl;have x2 := hx.cell 2 _ rfl;clear hlt HI HC hx;cases bG
   ·go_wp2;go_ret2;exact ⟨ap19_no HXS.out (.inl rfl), below_two HB1.out HB.out⟩
   ·by_cases hc1 : c = 1
    ·have hc2 : ((c : Int) == 1) = true := by rw [hc1]; rfl
     have HVO := hid' (HV.out.one (by rw [HVC.out]; exact hc1));clear hc1;go_wp2_with fail;refine (HSM.out wr (H.out.keep (below_two HB1.out HB.out)) (tb_below19 HT.out (below_two HB1.out HB.out))).mono ?_;rintro e w3 ⟨rfl, hb3⟩;have HB3 := hid' (below_two (below_two HB1.out HB.out) hb3);clear hb3;go_wp2;go_ret2;cases sm
     ·exact ⟨ap19_no HXS.out (.inl rfl), HB3.out⟩
     ·exact ⟨ap19_yes HXS.out HVO.out, HB3.out⟩
    ·have hc2 : ((c : Int) == 1) = false := by simp; omega
     have HVO : Hid ((Tg.vals l Fs.nRG).length ≠ 1) := hid' (by rw [HVC.out]; exact hc1);clear hc1;go_wp2;go_ret2;exact ⟨ap19_no HXS.out (.inr HVO.out), below_two HB1.out HB.out⟩

end Go.Proofs.YthhpejgpfaikaabGreatDoor
