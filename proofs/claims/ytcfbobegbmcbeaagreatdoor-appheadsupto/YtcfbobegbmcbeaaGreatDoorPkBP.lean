import Derived.Test.YtcfbobegbmcbeaaGreatDoorPkBO
namespace Go.Proofs.YtcfbobegbmcbeaaGreatDoor
set_option maxHeartbeats 64000000
open Go.RowKit

def RB20 (B : Nat) (w w' : World) (e : Ending) (r : Ap.Rp) : Prop :=
 (∃ vo n vc uo m uc, e = .returned (.agg (rpC r.s (.slice vo n vc) ⟨r.b.toArray⟩ (.slice uo m uc))) ∧ FT20 w' (.slice vo n vc) r.fs ∧ FT20 w' (.slice uo m uc) r.ts) ∧ Below B w w'
theorem ft_own20 {w : World} {B n c : Nat} {ao : Option Addr} {l : List Fd} (h : w.ownsRow B 39 2 (.slice ao n c) n (fC l)) (hl : l.length = n) : FT20 w (.slice ao n c) l :=
 ⟨fw_own19 h hl, fun ad k c' _ hv => by
  rcases h.2 with ⟨h1, _⟩ | ⟨g, cap, cur, h1, _, h3, _⟩
  ·rw [hv] at h1; cases h1
  ·rw [hv] at h1
   injection h1 with h1 _ _
   injection h1 with h1
   subst h1
   exact ⟨cur, h3⟩⟩
theorem ft_nil20 (w : World) (ao : Option Addr) (c : Nat) (h : ao = none → c = 0) : FT20 w (.slice ao 0 c) [] :=
 ⟨by
  cases ao with
  | none => obtain rfl := h rfl; exact .inl ⟨rfl, rfl⟩
  | some a => exact .inr ⟨a, c, rfl, Nat.zero_le _, fun j u hj => by simp [fC] at hj⟩, fun _ _ _ h => absurd rfl h⟩
theorem own_nilcap20 {w : World} {B : Nat} {e : TypeId} {s n c : Nat} {ao : Option Addr} {xs : List Value} (h : w.ownsRow B e s (.slice ao n c) n xs) : ao = none → c = 0 := by
 rintro rfl
 rcases h.2 with ⟨h1, _⟩ | ⟨g, cap, cur, h1, _⟩
 ·injection h1
 ·injection h1 with h1 _ _
  cases h1
theorem ft_updr20 {w w' : World} {rb : Nat} {v : Value} {l : List Fd} {c : Array Value} (h : FT20 w v l) (hu : Upd rb w w') (hr : Ar w rb 42 c) : FT20 w' v l := by
 have hne : ∀ ad n k, l ≠ [] → v = .slice (some ad) n k → ad.block ≠ rb := fun ad n k hl hv e => by
  obtain ⟨cs, hc⟩ := h.2 ad n k hl hv
  unfold Ar at hr
  rw [e, hr] at hc
  injection hc with hc
  injection hc with _ hc _
  exact absurd hc (by decide)
 refine ⟨?_, fun ad n k hl hv => ?_⟩
 ·rcases h.1 with h1 | ⟨a, cap, hv, hcp, hcs⟩
  ·exact .inl h1
  ·refine .inr ⟨a, cap, hv, hcp, fun j u hj => ?_⟩
   obtain ⟨h1, h2⟩ := hcs j u hj
   have hl : l ≠ [] := fun e => by rw [e] at hj; simp [fC] at hj
   have hb := hne a _ _ hl hv
   have hblk : (a.add j).block = a.block := by unfold Addr.add; split <;> rfl
   refine ⟨by rw [hu.size]; exact h1, ?_⟩
   rw [World.cell?_of_block (hu.block (a.add j).block (by rw [hblk]; exact hb))]
   exact h2
 ·obtain ⟨cs, hc⟩ := h.2 ad n k hl hv
  exact ⟨cs, (hu.block ad.block (hne ad n k hl hv)).trans hc⟩
theorem rb_done20 (r : Ap.Rp) {B : Nat} {w0 wp wf : World} {rb n m : Nat} {vo uo : Option Addr} {vc uc : Nat} {s : Int} {b : ByteArray} (hs : r.s = s) (hbb : (⟨r.b.toArray⟩ : ByteArray) = b) (hrb : B ≤ rb) (hb : Below B w0 wp) {z : Array Value} (hz : Ar wp rb 42 z)
  (hl : r.fs.length = n) (ho : wp.ownsRow B 39 2 (.slice vo n vc) n (fC r.fs)) (hp : r.ts.length = m ∧ wp.ownsRow B 39 2 (.slice uo m uc) m (fC r.ts) ∨ r.ts = [] ∧ m = 0 ∧ (uo = none → uc = 0)) (hu : Upd rb wp wf) :
  RB20 B w0 wf (.returned (.agg #[.int .i64 s, .slice vo n vc, .string b, .slice uo m uc])) r := by
 subst hs hbb
 refine ⟨⟨vo, n, vc, uo, m, uc, rfl, ft_own20 (own_same ho (fun j hj => hu.block j (own_apart ho hz (by decide) j hj))) hl, ?_⟩, hb.trans (hu.below hrb)⟩
 rcases hp with ⟨hm, hp⟩ | ⟨h1, rfl, h2⟩
 ·exact ft_own20 (own_same hp (fun j hj => hu.block j (own_apart hp hz (by decide) j hj))) hm
 ·rw [h1]
  exact ft_nil20 wf uo uc h2
theorem bare_is20 (s : Int) (h0 : 200 ≤ s) (m : ByteArray) (b : Bool) (hb : (m.data.toList == Fs.mHEAD) = b) : Ms.bare m s = (b || (s == 204 || s == 304)) := by
 unfold Ms.bare
 rw [decide_eq_false (show ¬ s ≤ 199 by omega), Bool.and_false, Bool.or_false, ba_list, show (m.data.toList == [72, 69, 65, 68]) = b from hb, Bool.or_assoc]

set_option maxRecDepth 20000 in
theorem cfin20 (B : Nat) (me : ByteArray) (r : Ap.Rp) (hfit : Ap.Fit r) (vo uo : Option Addr) (n vc k uc : Nat) (w : World) (hn : r.fs.length = n) (ho : w.ownsRow B 39 2 (.slice vo n vc) n (fC r.fs)) (hk : r.ts.length = k) (hp : w.ownsRow B 39 2 (.slice uo k uc) k (fC r.ts)) (hnb : n ≤ 1048576) (hB : B ≤ w.heap.size) (hT : ∀ W, Below B w W → TB19 W) :
  Calls Tryz.prog 22 #[.string me, .agg (rpC r.s (.slice vo n vc) ⟨r.b.toArray⟩ (.slice uo k uc))] w fun e w' => RB20 B w w' e (Ap.fin (me.data.toList == Fs.mHEAD) r) := by
 obtain ⟨hd, hhd⟩ : ∃ hd, (me.data.toList == Fs.mHEAD) = hd := ⟨_, rfl⟩
 rw [hhd]
 obtain ⟨s, fs, bl, ts⟩ := r
 obtain ⟨f0, f1, f2⟩ := hfit
 simp only at f0 f1 f2 hn ho hk hp ⊢
 unfold rpC
 try simp only
 obtain ⟨b, hb⟩ : ∃ b : ByteArray, (⟨bl.toArray⟩ : ByteArray) = b := ⟨_, rfl⟩
 have hbl : bl = b.data.toList := by rw [← hb]
 rw [hb]
 subst hbl
 have HB1' := hid' (fun W => cbare14 ⟨#[]⟩ s _ (bare_is20 s f0 ⟨#[]⟩ false rfl) W)
 have HB2' := hid' (fun W => cbare14 me s _ (bare_is20 s f0 me hd hhd) W)
 have hbs : (b.size : Int) = (b.data.toList.length : Int) := by rw [Lib.size_eq]
 have HDE := hid' (fun W (h : TB19 W) => decimal_any (b.size : Int) (by omega) (by rw [Lib.size_eq]; omega) W h.1)
 obtain ⟨dc, hdc⟩ : ∃ dc : ByteArray, (⟨(Lib.itoa (b.size : Int)).toArray⟩ : ByteArray) = dc := ⟨_, rfl⟩
 have HCL : Hid (Ap.fCL b.data.toList = ⟨Fs.str Ap.nCL, dc⟩) := hid' (by unfold Ap.fCL Fs.fd; rw [← hbs, ← hdc]; rfl)
 rw [hdc] at HDE
 have HMID : Hid (Ap.mid ⟨s, fs, b.data.toList, ts⟩ = if s == 204 || s == 304 then ⟨s, fs, [], []⟩ else if ts.isEmpty then ⟨s, fs ++ [Ap.fCL b.data.toList], b.data.toList, []⟩ else ⟨s, fs, b.data.toList, ts⟩) := hid' rfl
 have HFIN : Hid (Ap.fin hd ⟨s, fs, b.data.toList, ts⟩ = if hd then ⟨(Ap.mid ⟨s, fs, b.data.toList, ts⟩).s, (Ap.mid ⟨s, fs, b.data.toList, ts⟩).fs, [], []⟩ else Ap.mid ⟨s, fs, b.data.toList, ts⟩) := hid' rfl
 generalize Ap.fin hd ⟨s, fs, b.data.toList, ts⟩ = A at *
 generalize Ap.mid ⟨s, fs, b.data.toList, ts⟩ = M at *
 have HT := hid' hT
 have HO := hid' ho
 have HP := hid' hp
 have HN := hid' hn
 have HK := hid' hk
 have HNB := hid' hnb
 have HBW := hid' hB
 obtain ⟨i0, hi0, hz0, hz1, hz2⟩ := minfo_parts infoF14
 have HI := hid' hi0
 have HZ0 := hid' hz0
 have HZ1 := hid' hz1
 have HZ2 := hid' hz2
 clear hi0 hz0 hz1 hz2 f0 f1 f2 hT ho hp hn hk hnb hB hb hhd hdc hbs
 obtain ⟨ls, hls⟩ : ∃ ls, (s == 204 || s == 304) = ls := ⟨_, rfl⟩
 rw [hls] at HB1' HB2' HMID
 rw [Bool.false_or] at HB1'
 clear hls
 go_enter Tryz.func22, Tryz.ntmps22
 go_wp2_with (refine wpl_box 42 _ rfl rfl #[.int .i64 s, .slice vo n vc, .string b, .slice uo k uc] (by kernel_rfl) ?_)
 intro xb w1 hg1 ha1 hb1
 have HX1 := hid' ha1
 have HB1 := hid' (hb1.mono HBW.out)
 have HXB := hid' (Nat.le_trans HBW.out hg1)
 have HO1 := hid' (own_kp17 HO.out hb1)
 have HP1 := hid' (own_kp17 HP.out hb1)
 clear hg1 ha1 hb1
 go_wp2_with (refine wpl_alloc 42 rfl rfl _ zeroRp19 ?_)
 intro rb w2 hrb ha2 hl2
 have HA2 := hid' ha2
 have HB2 := hid' (HB1.out.trans (hl2.mono (Nat.le_trans HBW.out HB1.out.size)))
 have HX2 := hid' (HX1.out.keep hl2)
 have HRB := hid' (Nat.le_trans HBW.out (Nat.le_trans HB1.out.size hrb))
 have HNE : Hid (xb ≠ rb) := hid' (fun e => by have := HX1.out.lt; omega)
 have HO2 := hid' (own_kp17 HO1.out hl2)
 have HP2 := hid' (own_kp17 HP1.out hl2)
 have x0 := HX2.out.cell 0 _ rfl
 have x3 := HX2.out.cell 3 _ rfl
 clear hrb ha2 hl2 HO HP HO1 HP1 HX1 HB1
 go_wp2_with fail
 refine (HB1'.out w2).mono ?_
 rintro e w3 ⟨rfl, hw3⟩
 subst w3
 cases ls
 ·rw [Bool.or_false] at HB2'
  have HNC := hid' (own_nilcap20 HP2.out)
  by_cases hk0 : k = 0
  ·subst hk0
   obtain rfl : ts = [] := List.eq_nil_of_length_eq_zero HK.out
   have HM : Hid (M = ⟨s, fs ++ [⟨Fs.str Ap.nCL, dc⟩], b.data.toList, []⟩) := hid' (by rw [HMID.out, ← HCL.out]; rfl)
   clear HMID HCL
   go_upto_region 2 with fail
   clear x0 x3
   have HFX : Hid (∀ W, Ar W xb 42 #[.int .i64 s, .slice vo n vc, .string b, .slice uo 0 uc] → W.cell? ⟨xb, 2, none⟩ = some (.string b)) := hid' (fun W h => h.cell 2 _ rfl)
   refine wp_region_held_drew (S := fun W => Below B w W ∧ W.cell? ⟨xb, 2, none⟩ = some (.string b)) (by kernel_rfl) ⟨HB2.out.drew, HFX.out w2.drew HX2.out⟩ (fun hHeld => ?_)
   refine take_d19 (i := 0) (d := some 15) (v := ?_) rfl rfl (by kernel_rfl) (by kernel_rfl) (by kernel_rfl) (fun _ _ _ h => h) (Or.inl ⟨by rfl, ?_⟩) (by assumption) ?_
   rotate_left
   ·intro w hSw
    (try dsimp only at hSw)
    obtain ⟨_, c2⟩ := hSw
    go_simp
    try with_reducible rfl
   refine take_d19 (i := 2) (d := some 17) (v := ?_) rfl rfl (by kernel_rfl) (by kernel_rfl) (by kernel_rfl) (fun _ _ _ h => h) (Or.inl ⟨by rfl, ?_⟩) (by assumption) ?_
   rotate_left
   ·intro w hSw
    (try dsimp only at hSw)
    obtain ⟨_, c2⟩ := hSw
    go_simp
    try with_reducible rfl
   refine take_d19 (i := 3) (d := some 18) (v := ?_) rfl rfl (by kernel_rfl) (by kernel_rfl) (by kernel_rfl) (fun _ _ _ h => h) (Or.inl ⟨by rfl, ?_⟩) (by assumption) ?_
   rotate_left
   ·intro w hSw
    (try dsimp only at hSw)
    obtain ⟨_, c2⟩ := hSw
    go_simp
    try with_reducible rfl
   refine take_d19 (i := 4) (d := some 19) (v := ?_) rfl rfl (by kernel_rfl) (by kernel_rfl) (by kernel_rfl) (fun _ _ _ h => h) (Or.inl ⟨by rfl, ?_⟩) (by assumption) ?_
   rotate_left
   ·intro w hSw
    (try dsimp only at hSw)
    obtain ⟨_, c2⟩ := hSw
    go_simp
    try with_reducible rfl
   try simp only [Act.put, zA, zB, zC]
   refine wpAnyH_ready (rs := [1, 5]) (by kernel_rfl) (by simp) ?_
   refine AllReadyH.cons rfl (fun K hK => ?_) (AllReadyH.cons rfl (fun K hK => ?_) AllReadyH.nil)
   ·have c1 := (show Ar w2.drew xb _ _ from HX2.out).cell 1 _ rfl
    go_simp
    refine hK.out _ _ hHeld (fun hh1 => ?_)
    clear hK K c1
    try simp only [Act.put, zA, zB, zC]
    refine wpAnyH_ready (rs := [5]) (by kernel_rfl) (by simp) ?_
    refine AllReadyH.cons rfl (fun K hK => ?_) AllReadyH.nil
    go_simp
    refine (HDE.out _ (HT.out _ hh1.1)).mono ?_
    rintro e u2 ⟨rfl, hb2⟩
    go_wp2_with fail
    have HXs2 := hid' (Ar.keep (show Ar w2.drew xb _ _ from HX2.out) hb2)
    have HAs2 := hid' (Ar.keep (show Ar w2.drew rb _ _ from HA2.out) hb2)
    have HOs2 := hid' (own_kp17 (show w2.drew.ownsRow B _ 2 _ n _ from HO2.out) hb2)
    have HBs2 := hid' (hh1.1.trans (hb2.mono (Nat.le_trans HBW.out hh1.1.size)))
    clear hb2
    refine hK.out _ _ ⟨HBs2.out, HFX.out _ HXs2.out⟩ (fun hh2 => ?_)
    clear hK K
    refine take_d19 (i := 6) (d := some 21) (v := ?_) rfl rfl (by kernel_rfl) (by kernel_rfl) (by kernel_rfl) (fun _ _ _ h => h) (Or.inl ⟨by rfl, ?_⟩) (by assumption) ?_
    rotate_left
    ·intro w hSw
     go_simp
     try with_reducible rfl
    try simp only [Act.put, zA, zB, zC]
    refine wpAnyH_ready (rs := [7]) (by kernel_rfl) (by simp) ?_
    refine AllReadyH.cons rfl (fun K hK => ?_) AllReadyH.nil
    refine step_lit19 rfl (some 22) rfl 39 1 (fC [⟨Fs.str Ap.nCL, dc⟩]).toArray (by kernel_rfl) ?_
    have hb3 := bl_alloc19 u2 (.cells (fC [⟨Fs.str Ap.nCL, dc⟩]).toArray 39)
    have HL3 : Hid (∀ j u, (fC [⟨Fs.str Ap.nCL, dc⟩])[j]? = some u → (u2.alloc (.cells (fC [⟨Fs.str Ap.nCL, dc⟩]).toArray 39)).cell? ((⟨u2.heap.size, 0, none⟩ : Addr).add j) = some u) := hid' (two_new u2 39 (.string (Fs.str Ap.nCL)) (.string dc))
    obtain ⟨lb, hlb⟩ : ∃ lb, u2.heap.size = lb := ⟨_, rfl⟩
    obtain ⟨u3, hN3⟩ : ∃ u3, u2.alloc (.cells (fC [⟨Fs.str Ap.nCL, dc⟩]).toArray 39) = u3 := ⟨_, rfl⟩
    rw [hlb] at HL3
    rw [hlb]
    rw [hN3] at HL3 hb3
    rw [hN3]
    clear hlb hN3
    have HXs3 := hid' (Ar.keep (HXs2.out) hb3)
    have HAs3 := hid' (Ar.keep (HAs2.out) hb3)
    have HOs3 := hid' (own_kp17 (HOs2.out) hb3)
    have HBs3 := hid' (hh2.1.trans (hb3.mono (Nat.le_trans HBW.out hh2.1.size)))
    clear hb3
    refine hK.out _ _ ⟨HBs3.out, HFX.out _ HXs3.out⟩ (fun hh3 => ?_)
    clear hK K
    try simp only [Act.put, zA, zB, zC]
    refine wpAnyH_ready (rs := [8]) (by kernel_rfl) (by simp) ?_
    refine AllReadyH.cons rfl (fun K hK => ?_) AllReadyH.nil
    refine step_app19 rfl (some 23) rfl _ _ 23 rfl B 39 i0 (.agg #[.string ⟨#[]⟩, .string ⟨#[]⟩]) 2 32 Tryz.underlying23 HI.out HZ0.out HZ1.out HZ2.out rfl (by decide) (.slice vo n vc) n (fC fs) rfl (HOs3.out) ⟨lb, 0, none⟩ 1 1 (fC [⟨Fs.str Ap.nCL, dc⟩]) rfl rfl HL3.out (fC_one19 _) (by have := HNB.out; unfold maxLen; omega) (by have := HNB.out; omega) (Nat.le_trans HBW.out (HBs3.out).size) ?_
    intro v4 w4 hrow hgrow
    rw [← fC_append] at hrow
    obtain ⟨v4o, v4c, hv4⟩ := own_shape hrow
    subst hv4
    have HO4 := hid' hrow
    have HX4 := hid' (ar_grown (HXs3.out) hgrow (fun j hj => own_apart (HOs3.out) (HXs3.out) (by decide) j hj))
    have HA4 := hid' (ar_grown (HAs3.out) hgrow (fun j hj => own_apart (HOs3.out) (HAs3.out) (by decide) j hj))
    have HB4 := hid' (below_grown19 (HBs3.out) (Nat.le_trans HBW.out (HBs3.out).size) (HOs3.out) hgrow)
    clear hrow hgrow
    refine hK.out _ _ ⟨HB4.out, HFX.out _ HX4.out⟩ (fun h9 => ?_)
    clear hK K
    refine take_d19 (i := 9) (d := some 24) (v := ?_) rfl rfl (by kernel_rfl) (by kernel_rfl) (by kernel_rfl) (fun _ _ _ h => h) (Or.inl ⟨by rfl, ?_⟩) (by assumption) ?_
    rotate_left
    ·intro w hSw
     (try dsimp only at hSw)
     obtain ⟨_, c2⟩ := hSw
     go_simp
     try with_reducible rfl
    try simp only [Act.put, zA, zB, zC]
    refine wpAnyH_ready (rs := [10]) (by kernel_rfl) (by simp) ?_
    refine AllReadyH.cons rfl (fun K hK => ?_) AllReadyH.nil
    have z1 := HX4.out.cell 1 _ rfl
    have f1 := HX4.out.free 1
    have hu1 := upd_setCell w4 xb 1 (.slice v4o (n + 1) v4c)
    have HX6 : Hid (Ar (w4.setCell ⟨xb, 1, none⟩ (.slice v4o (n + 1) v4c)) xb 42 #[.int .i64 s, .slice v4o (n + 1) v4c, .string b, .slice uo 0 uc]) := hid' (HX4.out.set 1 _)
    have HA6 := hid' (hu1.keep HA4.out (fun e => HNE.out e.symm))
    have HB6 := hid' (HB4.out.trans (hu1.below HXB.out))
    have HO6 := hid' (own_same HO4.out (fun j hj => hu1.block j (own_apart HO4.out HX4.out (by decide) j hj)))
    clear hu1
    go_simp
    refine hK.out _ _ ⟨HB6.out, HX6.out.cell 2 _ rfl⟩ (fun _ => ?_)
    clear hK K
    try simp only [Act.put]
    refine wpAnyH_done (by kernel_rfl) ?_ _
    clear z1 f1 h9
    generalize w4.setCell ⟨xb, 1, none⟩ (.slice v4o (n + 1) v4c) = w6 at *
    have xs := (HX6.out).cell 0 _ rfl
    go_wp2_with fail
    refine (HB2'.out _).mono ?_
    rintro e w4 ⟨rfl, hw4⟩
    subst w4
    clear xs
    cases hd
    ·have HE : Hid (A = ⟨s, fs ++ [⟨Fs.str Ap.nCL, dc⟩], b.data.toList, []⟩) := hid' (by rw [HFIN.out, ← HM.out]; rfl)
     have l0 := (HX6.out).cell 0 _ rfl
     have l1 := (HX6.out).cell 1 _ rfl
     have l2 := (HX6.out).cell 2 _ rfl
     have l3 := (HX6.out).cell 3 _ rfl
     go_wp2_with (refine wpl_store 42 _ _ rfl rfl rb #[.int .i64 s, .slice v4o (n + 1) v4c, .string b, .slice uo 0 uc] (by kernel_rfl) (by kernel_rfl) _ _ (HA6.out) sizeRp19 rfl (by simp [Value.oneCell']) ?_)
     intro wf hwf huf
     go_wp2
     have hld := ldRp19 hwf
     rw [HE.out]
     exact bodyPost_ret (v := .agg #[.int .i64 s, .slice v4o (n + 1) v4c, .string b, .slice uo 0 uc]) (by simp [results, Tryz.results22, asAddr, hld]) rfl (rb_done20 ((⟨s, fs ++ [⟨Fs.str Ap.nCL, dc⟩], b.data.toList, []⟩ : Ap.Rp)) rfl rfl HRB.out (HB6.out) (HA6.out) (by rw [List.length_append, HN.out]; rfl) (HO6.out) (.inr ⟨rfl, rfl, HNC.out⟩) huf)
    ·have HE : Hid (A = ⟨s, fs ++ [⟨Fs.str Ap.nCL, dc⟩], [], []⟩) := hid' (by rw [HFIN.out, HM.out]; rfl)
     have y2 := (HX6.out).cell 2 _ rfl
     have z2 := (HX6.out).free 2
     have hu2 := upd_setCell w6 xb 2 (.string ⟨#[]⟩)
     have HX4 : Hid (Ar (w6.setCell ⟨xb, 2, none⟩ (.string ⟨#[]⟩)) xb 42 #[.int .i64 s, .slice v4o (n + 1) v4c, .string ⟨#[]⟩, .slice uo 0 uc]) := hid' ((HX6.out).set 2 _)
     have y3 := HX4.out.cell 3 _ rfl
     have z3 := HX4.out.free 3
     have hu3 := upd_setCell (w6.setCell ⟨xb, 2, none⟩ (.string ⟨#[]⟩)) xb 3 (.slice none 0 0)
     have HX5 : Hid (Ar ((w6.setCell ⟨xb, 2, none⟩ (.string ⟨#[]⟩)).setCell ⟨xb, 3, none⟩ (.slice none 0 0)) xb 42 #[.int .i64 s, .slice v4o (n + 1) v4c, .string ⟨#[]⟩, .slice none 0 0]) := hid' (HX4.out.set 3 _)
     have HA5 := hid' (hu3.keep (hu2.keep (HA6.out) (fun e => HNE.out e.symm)) (fun e => HNE.out e.symm))
     have HB5 := hid' ((HB6.out).trans ((hu2.below HXB.out).trans (hu3.below HXB.out)))
     have HO5 := hid' (own_same (HO6.out) (fun j hj => (hu3.block j (own_apart (HO6.out) (HX6.out) (by decide) j hj)).trans (hu2.block j (own_apart (HO6.out) (HX6.out) (by decide) j hj))))
     clear hu2 hu3
     go_upto_region 5 with fail
     clear y2 z2 y3 z3
     generalize (w6.setCell ⟨xb, 2, none⟩ (.string ⟨#[]⟩)).setCell ⟨xb, 3, none⟩ (.slice none 0 0) = w5 at *
     have l0 := (HX5.out).cell 0 _ rfl
     have l1 := (HX5.out).cell 1 _ rfl
     have l2 := (HX5.out).cell 2 _ rfl
     have l3 := (HX5.out).cell 3 _ rfl
     go_wp2_with (refine wpl_store 42 _ _ rfl rfl rb #[.int .i64 s, .slice v4o (n + 1) v4c, .string ⟨#[]⟩, .slice none 0 0] (by kernel_rfl) (by kernel_rfl) _ _ (HA5.out) sizeRp19 rfl (by simp [Value.oneCell']) ?_)
     intro wf hwf huf
     go_wp2
     have hld := ldRp19 hwf
     rw [HE.out]
     exact bodyPost_ret (v := .agg #[.int .i64 s, .slice v4o (n + 1) v4c, .string ⟨#[]⟩, .slice none 0 0]) (by simp [results, Tryz.results22, asAddr, hld]) rfl (rb_done20 ((⟨s, fs ++ [⟨Fs.str Ap.nCL, dc⟩], [], []⟩ : Ap.Rp)) rfl rfl HRB.out (HB5.out) (HA5.out) (by rw [List.length_append, HN.out]; rfl) (HO5.out) (.inr ⟨rfl, rfl, fun _ => rfl⟩) huf)
   ·go_simp
    refine (HDE.out _ (HT.out _ hHeld.1)).mono ?_
    rintro e u1 ⟨rfl, hb1⟩
    go_wp2_with fail
    have HXs1 := hid' (Ar.keep (show Ar w2.drew xb _ _ from HX2.out) hb1)
    have HAs1 := hid' (Ar.keep (show Ar w2.drew rb _ _ from HA2.out) hb1)
    have HOs1 := hid' (own_kp17 (show w2.drew.ownsRow B _ 2 _ n _ from HO2.out) hb1)
    have HBs1 := hid' (hHeld.1.trans (hb1.mono (Nat.le_trans HBW.out hHeld.1.size)))
    clear hb1
    refine hK.out _ _ ⟨HBs1.out, HFX.out _ HXs1.out⟩ (fun hh1 => ?_)
    clear hK K
    refine take_d19 (i := 6) (d := some 21) (v := ?_) rfl rfl (by kernel_rfl) (by kernel_rfl) (by kernel_rfl) (fun _ _ _ h => h) (Or.inl ⟨by rfl, ?_⟩) (by assumption) ?_
    rotate_left
    ·intro w hSw
     go_simp
     try with_reducible rfl
    try simp only [Act.put, zA, zB, zC]
    refine wpAnyH_ready (rs := [1, 7]) (by kernel_rfl) (by simp) ?_
    refine AllReadyH.cons rfl (fun K hK => ?_) (AllReadyH.cons rfl (fun K hK => ?_) AllReadyH.nil)
    ·have c1 := (HXs1.out).cell 1 _ rfl
     go_simp
     refine hK.out _ _ hh1 (fun hh2 => ?_)
     clear hK K c1
     try simp only [Act.put, zA, zB, zC]
     refine wpAnyH_ready (rs := [7]) (by kernel_rfl) (by simp) ?_
     refine AllReadyH.cons rfl (fun K hK => ?_) AllReadyH.nil
     refine step_lit19 rfl (some 22) rfl 39 1 (fC [⟨Fs.str Ap.nCL, dc⟩]).toArray (by kernel_rfl) ?_
     have hb3 := bl_alloc19 u1 (.cells (fC [⟨Fs.str Ap.nCL, dc⟩]).toArray 39)
     have HL3 : Hid (∀ j u, (fC [⟨Fs.str Ap.nCL, dc⟩])[j]? = some u → (u1.alloc (.cells (fC [⟨Fs.str Ap.nCL, dc⟩]).toArray 39)).cell? ((⟨u1.heap.size, 0, none⟩ : Addr).add j) = some u) := hid' (two_new u1 39 (.string (Fs.str Ap.nCL)) (.string dc))
     obtain ⟨lb, hlb⟩ : ∃ lb, u1.heap.size = lb := ⟨_, rfl⟩
     obtain ⟨u3, hN3⟩ : ∃ u3, u1.alloc (.cells (fC [⟨Fs.str Ap.nCL, dc⟩]).toArray 39) = u3 := ⟨_, rfl⟩
     rw [hlb] at HL3
     rw [hlb]
     rw [hN3] at HL3 hb3
     rw [hN3]
     clear hlb hN3
     have HXs3 := hid' (Ar.keep (HXs1.out) hb3)
     have HAs3 := hid' (Ar.keep (HAs1.out) hb3)
     have HOs3 := hid' (own_kp17 (HOs1.out) hb3)
     have HBs3 := hid' (hh2.1.trans (hb3.mono (Nat.le_trans HBW.out hh2.1.size)))
     clear hb3
     refine hK.out _ _ ⟨HBs3.out, HFX.out _ HXs3.out⟩ (fun hh3 => ?_)
     clear hK K
     try simp only [Act.put, zA, zB, zC]
     refine wpAnyH_ready (rs := [8]) (by kernel_rfl) (by simp) ?_
     refine AllReadyH.cons rfl (fun K hK => ?_) AllReadyH.nil
     refine step_app19 rfl (some 23) rfl _ _ 23 rfl B 39 i0 (.agg #[.string ⟨#[]⟩, .string ⟨#[]⟩]) 2 32 Tryz.underlying23 HI.out HZ0.out HZ1.out HZ2.out rfl (by decide) (.slice vo n vc) n (fC fs) rfl (HOs3.out) ⟨lb, 0, none⟩ 1 1 (fC [⟨Fs.str Ap.nCL, dc⟩]) rfl rfl HL3.out (fC_one19 _) (by have := HNB.out; unfold maxLen; omega) (by have := HNB.out; omega) (Nat.le_trans HBW.out (HBs3.out).size) ?_
     intro v4 w4 hrow hgrow
     rw [← fC_append] at hrow
     obtain ⟨v4o, v4c, hv4⟩ := own_shape hrow
     subst hv4
     have HO4 := hid' hrow
     have HX4 := hid' (ar_grown (HXs3.out) hgrow (fun j hj => own_apart (HOs3.out) (HXs3.out) (by decide) j hj))
     have HA4 := hid' (ar_grown (HAs3.out) hgrow (fun j hj => own_apart (HOs3.out) (HAs3.out) (by decide) j hj))
     have HB4 := hid' (below_grown19 (HBs3.out) (Nat.le_trans HBW.out (HBs3.out).size) (HOs3.out) hgrow)
     clear hrow hgrow
     refine hK.out _ _ ⟨HB4.out, HFX.out _ HX4.out⟩ (fun h9 => ?_)
     clear hK K
     refine take_d19 (i := 9) (d := some 24) (v := ?_) rfl rfl (by kernel_rfl) (by kernel_rfl) (by kernel_rfl) (fun _ _ _ h => h) (Or.inl ⟨by rfl, ?_⟩) (by assumption) ?_
     rotate_left
     ·intro w hSw
      (try dsimp only at hSw)
      obtain ⟨_, c2⟩ := hSw
      go_simp
      try with_reducible rfl
     try simp only [Act.put, zA, zB, zC]
     refine wpAnyH_ready (rs := [10]) (by kernel_rfl) (by simp) ?_
     refine AllReadyH.cons rfl (fun K hK => ?_) AllReadyH.nil
     have z1 := HX4.out.cell 1 _ rfl
     have f1 := HX4.out.free 1
     have hu1 := upd_setCell w4 xb 1 (.slice v4o (n + 1) v4c)
     have HX6 : Hid (Ar (w4.setCell ⟨xb, 1, none⟩ (.slice v4o (n + 1) v4c)) xb 42 #[.int .i64 s, .slice v4o (n + 1) v4c, .string b, .slice uo 0 uc]) := hid' (HX4.out.set 1 _)
     have HA6 := hid' (hu1.keep HA4.out (fun e => HNE.out e.symm))
     have HB6 := hid' (HB4.out.trans (hu1.below HXB.out))
     have HO6 := hid' (own_same HO4.out (fun j hj => hu1.block j (own_apart HO4.out HX4.out (by decide) j hj)))
     clear hu1
     go_simp
     refine hK.out _ _ ⟨HB6.out, HX6.out.cell 2 _ rfl⟩ (fun _ => ?_)
     clear hK K
     try simp only [Act.put]
     refine wpAnyH_done (by kernel_rfl) ?_ _
     clear z1 f1 h9
     generalize w4.setCell ⟨xb, 1, none⟩ (.slice v4o (n + 1) v4c) = w6 at *
     have xs := (HX6.out).cell 0 _ rfl
     go_wp2_with fail
     refine (HB2'.out _).mono ?_
     rintro e w4 ⟨rfl, hw4⟩
     subst w4
     clear xs
     cases hd
     ·have HE : Hid (A = ⟨s, fs ++ [⟨Fs.str Ap.nCL, dc⟩], b.data.toList, []⟩) := hid' (by rw [HFIN.out, ← HM.out]; rfl)
      have l0 := (HX6.out).cell 0 _ rfl
      have l1 := (HX6.out).cell 1 _ rfl
      have l2 := (HX6.out).cell 2 _ rfl
      have l3 := (HX6.out).cell 3 _ rfl
      go_wp2_with (refine wpl_store 42 _ _ rfl rfl rb #[.int .i64 s, .slice v4o (n + 1) v4c, .string b, .slice uo 0 uc] (by kernel_rfl) (by kernel_rfl) _ _ (HA6.out) sizeRp19 rfl (by simp [Value.oneCell']) ?_)
      intro wf hwf huf
      go_wp2
      have hld := ldRp19 hwf
      rw [HE.out]
      exact bodyPost_ret (v := .agg #[.int .i64 s, .slice v4o (n + 1) v4c, .string b, .slice uo 0 uc]) (by simp [results, Tryz.results22, asAddr, hld]) rfl (rb_done20 ((⟨s, fs ++ [⟨Fs.str Ap.nCL, dc⟩], b.data.toList, []⟩ : Ap.Rp)) rfl rfl HRB.out (HB6.out) (HA6.out) (by rw [List.length_append, HN.out]; rfl) (HO6.out) (.inr ⟨rfl, rfl, HNC.out⟩) huf)
     ·have HE : Hid (A = ⟨s, fs ++ [⟨Fs.str Ap.nCL, dc⟩], [], []⟩) := hid' (by rw [HFIN.out, HM.out]; rfl)
      have y2 := (HX6.out).cell 2 _ rfl
      have z2 := (HX6.out).free 2
      have hu2 := upd_setCell w6 xb 2 (.string ⟨#[]⟩)
      have HX4 : Hid (Ar (w6.setCell ⟨xb, 2, none⟩ (.string ⟨#[]⟩)) xb 42 #[.int .i64 s, .slice v4o (n + 1) v4c, .string ⟨#[]⟩, .slice uo 0 uc]) := hid' ((HX6.out).set 2 _)
      have y3 := HX4.out.cell 3 _ rfl
      have z3 := HX4.out.free 3
      have hu3 := upd_setCell (w6.setCell ⟨xb, 2, none⟩ (.string ⟨#[]⟩)) xb 3 (.slice none 0 0)
      have HX5 : Hid (Ar ((w6.setCell ⟨xb, 2, none⟩ (.string ⟨#[]⟩)).setCell ⟨xb, 3, none⟩ (.slice none 0 0)) xb 42 #[.int .i64 s, .slice v4o (n + 1) v4c, .string ⟨#[]⟩, .slice none 0 0]) := hid' (HX4.out.set 3 _)
      have HA5 := hid' (hu3.keep (hu2.keep (HA6.out) (fun e => HNE.out e.symm)) (fun e => HNE.out e.symm))
      have HB5 := hid' ((HB6.out).trans ((hu2.below HXB.out).trans (hu3.below HXB.out)))
      have HO5 := hid' (own_same (HO6.out) (fun j hj => (hu3.block j (own_apart (HO6.out) (HX6.out) (by decide) j hj)).trans (hu2.block j (own_apart (HO6.out) (HX6.out) (by decide) j hj))))
      clear hu2 hu3
      go_upto_region 5 with fail
      clear y2 z2 y3 z3
      generalize (w6.setCell ⟨xb, 2, none⟩ (.string ⟨#[]⟩)).setCell ⟨xb, 3, none⟩ (.slice none 0 0) = w5 at *
      have l0 := (HX5.out).cell 0 _ rfl
      have l1 := (HX5.out).cell 1 _ rfl
      have l2 := (HX5.out).cell 2 _ rfl
      have l3 := (HX5.out).cell 3 _ rfl
      go_wp2_with (refine wpl_store 42 _ _ rfl rfl rb #[.int .i64 s, .slice v4o (n + 1) v4c, .string ⟨#[]⟩, .slice none 0 0] (by kernel_rfl) (by kernel_rfl) _ _ (HA5.out) sizeRp19 rfl (by simp [Value.oneCell']) ?_)
      intro wf hwf huf
      go_wp2
      have hld := ldRp19 hwf
      rw [HE.out]
      exact bodyPost_ret (v := .agg #[.int .i64 s, .slice v4o (n + 1) v4c, .string ⟨#[]⟩, .slice none 0 0]) (by simp [results, Tryz.results22, asAddr, hld]) rfl (rb_done20 ((⟨s, fs ++ [⟨Fs.str Ap.nCL, dc⟩], [], []⟩ : Ap.Rp)) rfl rfl HRB.out (HB5.out) (HA5.out) (by rw [List.length_append, HN.out]; rfl) (HO5.out) (.inr ⟨rfl, rfl, fun _ => rfl⟩) huf)
    ·refine step_lit19 rfl (some 22) rfl 39 1 (fC [⟨Fs.str Ap.nCL, dc⟩]).toArray (by kernel_rfl) ?_
     have hb2 := bl_alloc19 u1 (.cells (fC [⟨Fs.str Ap.nCL, dc⟩]).toArray 39)
     have HL3 : Hid (∀ j u, (fC [⟨Fs.str Ap.nCL, dc⟩])[j]? = some u → (u1.alloc (.cells (fC [⟨Fs.str Ap.nCL, dc⟩]).toArray 39)).cell? ((⟨u1.heap.size, 0, none⟩ : Addr).add j) = some u) := hid' (two_new u1 39 (.string (Fs.str Ap.nCL)) (.string dc))
     obtain ⟨lb, hlb⟩ : ∃ lb, u1.heap.size = lb := ⟨_, rfl⟩
     obtain ⟨u2, hN2⟩ : ∃ u2, u1.alloc (.cells (fC [⟨Fs.str Ap.nCL, dc⟩]).toArray 39) = u2 := ⟨_, rfl⟩
     rw [hlb] at HL3
     rw [hlb]
     rw [hN2] at HL3 hb2
     rw [hN2]
     clear hlb hN2
     have HXs2 := hid' (Ar.keep (HXs1.out) hb2)
     have HAs2 := hid' (Ar.keep (HAs1.out) hb2)
     have HOs2 := hid' (own_kp17 (HOs1.out) hb2)
     have HBs2 := hid' (hh1.1.trans (hb2.mono (Nat.le_trans HBW.out hh1.1.size)))
     clear hb2
     refine hK.out _ _ ⟨HBs2.out, HFX.out _ HXs2.out⟩ (fun hh2 => ?_)
     clear hK K
     try simp only [Act.put, zA, zB, zC]
     refine wpAnyH_ready (rs := [1]) (by kernel_rfl) (by simp) ?_
     refine AllReadyH.cons rfl (fun K hK => ?_) AllReadyH.nil
     have c1 := (HXs2.out).cell 1 _ rfl
     go_simp
     refine hK.out _ _ hh2 (fun hh3 => ?_)
     clear hK K c1
     try simp only [Act.put, zA, zB, zC]
     refine wpAnyH_ready (rs := [8]) (by kernel_rfl) (by simp) ?_
     refine AllReadyH.cons rfl (fun K hK => ?_) AllReadyH.nil
     refine step_app19 rfl (some 23) rfl _ _ 23 rfl B 39 i0 (.agg #[.string ⟨#[]⟩, .string ⟨#[]⟩]) 2 32 Tryz.underlying23 HI.out HZ0.out HZ1.out HZ2.out rfl (by decide) (.slice vo n vc) n (fC fs) rfl (HOs2.out) ⟨lb, 0, none⟩ 1 1 (fC [⟨Fs.str Ap.nCL, dc⟩]) rfl rfl HL3.out (fC_one19 _) (by have := HNB.out; unfold maxLen; omega) (by have := HNB.out; omega) (Nat.le_trans HBW.out (HBs2.out).size) ?_
     intro v4 w4 hrow hgrow
     rw [← fC_append] at hrow
     obtain ⟨v4o, v4c, hv4⟩ := own_shape hrow
     subst hv4
     have HO4 := hid' hrow
     have HX4 := hid' (ar_grown (HXs2.out) hgrow (fun j hj => own_apart (HOs2.out) (HXs2.out) (by decide) j hj))
     have HA4 := hid' (ar_grown (HAs2.out) hgrow (fun j hj => own_apart (HOs2.out) (HAs2.out) (by decide) j hj))
     have HB4 := hid' (below_grown19 (HBs2.out) (Nat.le_trans HBW.out (HBs2.out).size) (HOs2.out) hgrow)
     clear hrow hgrow
     refine hK.out _ _ ⟨HB4.out, HFX.out _ HX4.out⟩ (fun h9 => ?_)
     clear hK K
     refine take_d19 (i := 9) (d := some 24) (v := ?_) rfl rfl (by kernel_rfl) (by kernel_rfl) (by kernel_rfl) (fun _ _ _ h => h) (Or.inl ⟨by rfl, ?_⟩) (by assumption) ?_
     rotate_left
     ·intro w hSw
      (try dsimp only at hSw)
      obtain ⟨_, c2⟩ := hSw
      go_simp
      try with_reducible rfl
     try simp only [Act.put, zA, zB, zC]
     refine wpAnyH_ready (rs := [10]) (by kernel_rfl) (by simp) ?_
     refine AllReadyH.cons rfl (fun K hK => ?_) AllReadyH.nil
     have z1 := HX4.out.cell 1 _ rfl
     have f1 := HX4.out.free 1
     have hu1 := upd_setCell w4 xb 1 (.slice v4o (n + 1) v4c)
     have HX6 : Hid (Ar (w4.setCell ⟨xb, 1, none⟩ (.slice v4o (n + 1) v4c)) xb 42 #[.int .i64 s, .slice v4o (n + 1) v4c, .string b, .slice uo 0 uc]) := hid' (HX4.out.set 1 _)
     have HA6 := hid' (hu1.keep HA4.out (fun e => HNE.out e.symm))
     have HB6 := hid' (HB4.out.trans (hu1.below HXB.out))
     have HO6 := hid' (own_same HO4.out (fun j hj => hu1.block j (own_apart HO4.out HX4.out (by decide) j hj)))
     clear hu1
     go_simp
     refine hK.out _ _ ⟨HB6.out, HX6.out.cell 2 _ rfl⟩ (fun _ => ?_)
     clear hK K
     try simp only [Act.put]
     refine wpAnyH_done (by kernel_rfl) ?_ _
     clear z1 f1 h9
     generalize w4.setCell ⟨xb, 1, none⟩ (.slice v4o (n + 1) v4c) = w6 at *
     have xs := (HX6.out).cell 0 _ rfl
     go_wp2_with fail
     refine (HB2'.out _).mono ?_
     rintro e w4 ⟨rfl, hw4⟩
     subst w4
     clear xs
     cases hd
     ·have HE : Hid (A = ⟨s, fs ++ [⟨Fs.str Ap.nCL, dc⟩], b.data.toList, []⟩) := hid' (by rw [HFIN.out, ← HM.out]; rfl)
      have l0 := (HX6.out).cell 0 _ rfl
      have l1 := (HX6.out).cell 1 _ rfl
      have l2 := (HX6.out).cell 2 _ rfl
      have l3 := (HX6.out).cell 3 _ rfl
      go_wp2_with (refine wpl_store 42 _ _ rfl rfl rb #[.int .i64 s, .slice v4o (n + 1) v4c, .string b, .slice uo 0 uc] (by kernel_rfl) (by kernel_rfl) _ _ (HA6.out) sizeRp19 rfl (by simp [Value.oneCell']) ?_)
      intro wf hwf huf
      go_wp2
      have hld := ldRp19 hwf
      rw [HE.out]
      exact bodyPost_ret (v := .agg #[.int .i64 s, .slice v4o (n + 1) v4c, .string b, .slice uo 0 uc]) (by simp [results, Tryz.results22, asAddr, hld]) rfl (rb_done20 ((⟨s, fs ++ [⟨Fs.str Ap.nCL, dc⟩], b.data.toList, []⟩ : Ap.Rp)) rfl rfl HRB.out (HB6.out) (HA6.out) (by rw [List.length_append, HN.out]; rfl) (HO6.out) (.inr ⟨rfl, rfl, HNC.out⟩) huf)
     ·have HE : Hid (A = ⟨s, fs ++ [⟨Fs.str Ap.nCL, dc⟩], [], []⟩) := hid' (by rw [HFIN.out, HM.out]; rfl)
      have y2 := (HX6.out).cell 2 _ rfl
      have z2 := (HX6.out).free 2
      have hu2 := upd_setCell w6 xb 2 (.string ⟨#[]⟩)
      have HX4 : Hid (Ar (w6.setCell ⟨xb, 2, none⟩ (.string ⟨#[]⟩)) xb 42 #[.int .i64 s, .slice v4o (n + 1) v4c, .string ⟨#[]⟩, .slice uo 0 uc]) := hid' ((HX6.out).set 2 _)
      have y3 := HX4.out.cell 3 _ rfl
      have z3 := HX4.out.free 3
      have hu3 := upd_setCell (w6.setCell ⟨xb, 2, none⟩ (.string ⟨#[]⟩)) xb 3 (.slice none 0 0)
      have HX5 : Hid (Ar ((w6.setCell ⟨xb, 2, none⟩ (.string ⟨#[]⟩)).setCell ⟨xb, 3, none⟩ (.slice none 0 0)) xb 42 #[.int .i64 s, .slice v4o (n + 1) v4c, .string ⟨#[]⟩, .slice none 0 0]) := hid' (HX4.out.set 3 _)
      have HA5 := hid' (hu3.keep (hu2.keep (HA6.out) (fun e => HNE.out e.symm)) (fun e => HNE.out e.symm))
      have HB5 := hid' ((HB6.out).trans ((hu2.below HXB.out).trans (hu3.below HXB.out)))
      have HO5 := hid' (own_same (HO6.out) (fun j hj => (hu3.block j (own_apart (HO6.out) (HX6.out) (by decide) j hj)).trans (hu2.block j (own_apart (HO6.out) (HX6.out) (by decide) j hj))))
      clear hu2 hu3
      go_upto_region 5 with fail
      clear y2 z2 y3 z3
      generalize (w6.setCell ⟨xb, 2, none⟩ (.string ⟨#[]⟩)).setCell ⟨xb, 3, none⟩ (.slice none 0 0) = w5 at *
      have l0 := (HX5.out).cell 0 _ rfl
      have l1 := (HX5.out).cell 1 _ rfl
      have l2 := (HX5.out).cell 2 _ rfl
      have l3 := (HX5.out).cell 3 _ rfl
      go_wp2_with (refine wpl_store 42 _ _ rfl rfl rb #[.int .i64 s, .slice v4o (n + 1) v4c, .string ⟨#[]⟩, .slice none 0 0] (by kernel_rfl) (by kernel_rfl) _ _ (HA5.out) sizeRp19 rfl (by simp [Value.oneCell']) ?_)
      intro wf hwf huf
      go_wp2
      have hld := ldRp19 hwf
      rw [HE.out]
      exact bodyPost_ret (v := .agg #[.int .i64 s, .slice v4o (n + 1) v4c, .string ⟨#[]⟩, .slice none 0 0]) (by simp [results, Tryz.results22, asAddr, hld]) rfl (rb_done20 ((⟨s, fs ++ [⟨Fs.str Ap.nCL, dc⟩], [], []⟩ : Ap.Rp)) rfl rfl HRB.out (HB5.out) (HA5.out) (by rw [List.length_append, HN.out]; rfl) (HO5.out) (.inr ⟨rfl, rfl, fun _ => rfl⟩) huf)
  ·have hkf : ((k : Int) == 0) = false := by simp; omega
   have HM : Hid (M = ⟨s, fs, b.data.toList, ts⟩) := hid' (by
    rw [HMID.out]
    have : ts.isEmpty = false := by
     cases ts with
     | nil => exact absurd HK.out.symm (by simpa using hk0)
     | cons a r => rfl
    rw [this]
    rfl)
   clear HMID HCL
   have xs := (HX2.out).cell 0 _ rfl
   go_wp2_with fail
   refine (HB2'.out _).mono ?_
   rintro e w4 ⟨rfl, hw4⟩
   subst w4
   clear xs
   cases hd
   ·have HE : Hid (A = ⟨s, fs, b.data.toList, ts⟩) := hid' (by rw [HFIN.out, ← HM.out]; rfl)
    have l0 := (HX2.out).cell 0 _ rfl
    have l1 := (HX2.out).cell 1 _ rfl
    have l2 := (HX2.out).cell 2 _ rfl
    have l3 := (HX2.out).cell 3 _ rfl
    go_wp2_with (refine wpl_store 42 _ _ rfl rfl rb #[.int .i64 s, .slice vo n vc, .string b, .slice uo k uc] (by kernel_rfl) (by kernel_rfl) _ _ (HA2.out) sizeRp19 rfl (by simp [Value.oneCell']) ?_)
    intro wf hwf huf
    go_wp2
    have hld := ldRp19 hwf
    rw [HE.out]
    exact bodyPost_ret (v := .agg #[.int .i64 s, .slice vo n vc, .string b, .slice uo k uc]) (by simp [results, Tryz.results22, asAddr, hld]) rfl (rb_done20 ((⟨s, fs, b.data.toList, ts⟩ : Ap.Rp)) rfl rfl HRB.out (HB2.out) (HA2.out) HN.out (HO2.out) (.inl ⟨HK.out, HP2.out⟩) huf)
   ·have HE : Hid (A = ⟨s, fs, [], []⟩) := hid' (by rw [HFIN.out, HM.out]; rfl)
    have y2 := (HX2.out).cell 2 _ rfl
    have z2 := (HX2.out).free 2
    have hu2 := upd_setCell w2 xb 2 (.string ⟨#[]⟩)
    have HX4 : Hid (Ar (w2.setCell ⟨xb, 2, none⟩ (.string ⟨#[]⟩)) xb 42 #[.int .i64 s, .slice vo n vc, .string ⟨#[]⟩, .slice uo k uc]) := hid' ((HX2.out).set 2 _)
    have y3 := HX4.out.cell 3 _ rfl
    have z3 := HX4.out.free 3
    have hu3 := upd_setCell (w2.setCell ⟨xb, 2, none⟩ (.string ⟨#[]⟩)) xb 3 (.slice none 0 0)
    have HX5 : Hid (Ar ((w2.setCell ⟨xb, 2, none⟩ (.string ⟨#[]⟩)).setCell ⟨xb, 3, none⟩ (.slice none 0 0)) xb 42 #[.int .i64 s, .slice vo n vc, .string ⟨#[]⟩, .slice none 0 0]) := hid' (HX4.out.set 3 _)
    have HA5 := hid' (hu3.keep (hu2.keep (HA2.out) (fun e => HNE.out e.symm)) (fun e => HNE.out e.symm))
    have HB5 := hid' ((HB2.out).trans ((hu2.below HXB.out).trans (hu3.below HXB.out)))
    have HO5 := hid' (own_same (HO2.out) (fun j hj => (hu3.block j (own_apart (HO2.out) (HX2.out) (by decide) j hj)).trans (hu2.block j (own_apart (HO2.out) (HX2.out) (by decide) j hj))))
    clear hu2 hu3
    go_upto_region 5 with fail
    clear y2 z2 y3 z3
    generalize (w2.setCell ⟨xb, 2, none⟩ (.string ⟨#[]⟩)).setCell ⟨xb, 3, none⟩ (.slice none 0 0) = w5 at *
    have l0 := (HX5.out).cell 0 _ rfl
    have l1 := (HX5.out).cell 1 _ rfl
    have l2 := (HX5.out).cell 2 _ rfl
    have l3 := (HX5.out).cell 3 _ rfl
    go_wp2_with (refine wpl_store 42 _ _ rfl rfl rb #[.int .i64 s, .slice vo n vc, .string ⟨#[]⟩, .slice none 0 0] (by kernel_rfl) (by kernel_rfl) _ _ (HA5.out) sizeRp19 rfl (by simp [Value.oneCell']) ?_)
    intro wf hwf huf
    go_wp2
    have hld := ldRp19 hwf
    rw [HE.out]
    exact bodyPost_ret (v := .agg #[.int .i64 s, .slice vo n vc, .string ⟨#[]⟩, .slice none 0 0]) (by simp [results, Tryz.results22, asAddr, hld]) rfl (rb_done20 ((⟨s, fs, [], []⟩ : Ap.Rp)) rfl rfl HRB.out (HB5.out) (HA5.out) HN.out (HO5.out) (.inr ⟨rfl, rfl, fun _ => rfl⟩) huf)
 ·have HE : Hid (A = ⟨s, fs, [], []⟩) := hid' (by
   rw [HFIN.out, HMID.out]
   cases hd <;> rfl)
  rw [Bool.or_true] at HB2'
  clear x0 x3
  have xs := (HX2.out).cell 0 _ rfl
  go_wp2_with fail
  refine (HB2'.out _).mono ?_
  rintro e w4 ⟨rfl, hw4⟩
  subst w4
  clear xs
  have y2 := (HX2.out).cell 2 _ rfl
  have z2 := (HX2.out).free 2
  have hu2 := upd_setCell w2 xb 2 (.string ⟨#[]⟩)
  have HX4 : Hid (Ar (w2.setCell ⟨xb, 2, none⟩ (.string ⟨#[]⟩)) xb 42 #[.int .i64 s, .slice vo n vc, .string ⟨#[]⟩, .slice uo k uc]) := hid' ((HX2.out).set 2 _)
  have y3 := HX4.out.cell 3 _ rfl
  have z3 := HX4.out.free 3
  have hu3 := upd_setCell (w2.setCell ⟨xb, 2, none⟩ (.string ⟨#[]⟩)) xb 3 (.slice none 0 0)
  have HX5 : Hid (Ar ((w2.setCell ⟨xb, 2, none⟩ (.string ⟨#[]⟩)).setCell ⟨xb, 3, none⟩ (.slice none 0 0)) xb 42 #[.int .i64 s, .slice vo n vc, .string ⟨#[]⟩, .slice none 0 0]) := hid' (HX4.out.set 3 _)
  have HA5 := hid' (hu3.keep (hu2.keep (HA2.out) (fun e => HNE.out e.symm)) (fun e => HNE.out e.symm))
  have HB5 := hid' ((HB2.out).trans ((hu2.below HXB.out).trans (hu3.below HXB.out)))
  have HO5 := hid' (own_same (HO2.out) (fun j hj => (hu3.block j (own_apart (HO2.out) (HX2.out) (by decide) j hj)).trans (hu2.block j (own_apart (HO2.out) (HX2.out) (by decide) j hj))))
  clear hu2 hu3
  go_upto_region 5 with fail
  clear y2 z2 y3 z3
  generalize (w2.setCell ⟨xb, 2, none⟩ (.string ⟨#[]⟩)).setCell ⟨xb, 3, none⟩ (.slice none 0 0) = w5 at *
  have l0 := (HX5.out).cell 0 _ rfl
  have l1 := (HX5.out).cell 1 _ rfl
  have l2 := (HX5.out).cell 2 _ rfl
  have l3 := (HX5.out).cell 3 _ rfl
  go_wp2_with (refine wpl_store 42 _ _ rfl rfl rb #[.int .i64 s, .slice vo n vc, .string ⟨#[]⟩, .slice none 0 0] (by kernel_rfl) (by kernel_rfl) _ _ (HA5.out) sizeRp19 rfl (by simp [Value.oneCell']) ?_)
  intro wf hwf huf
  go_wp2
  have hld := ldRp19 hwf
  rw [HE.out]
  exact bodyPost_ret (v := .agg #[.int .i64 s, .slice vo n vc, .string ⟨#[]⟩, .slice none 0 0]) (by simp [results, Tryz.results22, asAddr, hld]) rfl (rb_done20 ((⟨s, fs, [], []⟩ : Ap.Rp)) rfl rfl HRB.out (HB5.out) (HA5.out) HN.out (HO5.out) (.inr ⟨rfl, rfl, fun _ => rfl⟩) huf)

set_option maxRecDepth 20000 in
theorem canswer20 (av sv : Value) (A : Ap.Rp) (hA : Ap.Fit A) (h5 : A.fs.length ≤ 5) (r : Ap.Rq) (fv tv : Value) (w : World) (hD : ∀ W, Below w.heap.size w W → Calls Tryz.prog 23 #[av, sv, .agg (rqC r.m r.sc r.au r.p fv r.b tv)] W fun e w' => RP20 W w' e A) (hT : TB19 w) :
  Calls Tryz.prog 10 #[av, sv, .agg (rqC r.m r.sc r.au r.p fv r.b tv)] w fun e w' => SR20 w w' e (Ap.fin (r.m.data.toList == Fs.mHEAD) A) := by
 have HT := hid' hT
 have HD := hid' hD
 have HF := hid' hA
 have H5 := hid' h5
 obtain ⟨m, sc, au, p, fs, b, ts⟩ := r
 unfold rqC at HD ⊢
 simp only at HD ⊢
 clear hT hD hA h5
 go_enter Tryz.func10, Tryz.ntmps10
 go_wp2_with (refine wpl_box 25 _ rfl rfl #[.string m, .string sc, .string au, .string p, fv, .string b, tv] (by kernel_rfl) ?_)
 intro xb w1 hg1 ha1 hb1
 have HX1 := hid' ha1
 have HB1 := hid' hb1
 clear hg1 ha1 hb1
 go_wp2_with (refine wpl_alloc 42 rfl rfl _ zeroRp19 ?_)
 intro rb w2 hrb ha2 hl2
 have HA2 := hid' ha2
 have HB2 := hid' hl2
 have HRB := hid' hrb
 clear hrb ha2 hl2
 go_upto_region 1 with fail
 refine wp_region_held_drew (S := fun W => Below w1.heap.size w1 W) (by kernel_rfl) (HB2.out.drew) (fun hHeld => ?_)
 refine take_d19 (i := 0) (d := some 7) (v := ?_) rfl rfl (by kernel_rfl) (by kernel_rfl) (by kernel_rfl) (fun _ _ _ h => h) (Or.inl ⟨by rfl, ?_⟩) (by assumption) ?_
 rotate_left
 ·intro w hSw
  (try dsimp only at hSw)
  have ha := HX1.out.keep hSw
  have c0 := ha.cell 0 _ rfl
  have c1 := ha.cell 1 _ rfl
  have c2 := ha.cell 2 _ rfl
  have c3 := ha.cell 3 _ rfl
  have c4 := ha.cell 4 _ rfl
  have c5 := ha.cell 5 _ rfl
  have c6 := ha.cell 6 _ rfl
  have hld := ldRq20 ha
  go_simp
  try with_reducible rfl
 refine take_d19 (i := 1) (d := some 8) (v := ?_) rfl rfl (by kernel_rfl) (by kernel_rfl) (by kernel_rfl) (fun _ _ _ h => h) (Or.inl ⟨by rfl, ?_⟩) (by assumption) ?_
 rotate_left
 ·intro w hSw
  (try dsimp only at hSw)
  have ha := HX1.out.keep hSw
  have c0 := ha.cell 0 _ rfl
  have c1 := ha.cell 1 _ rfl
  have c2 := ha.cell 2 _ rfl
  have c3 := ha.cell 3 _ rfl
  have c4 := ha.cell 4 _ rfl
  have c5 := ha.cell 5 _ rfl
  have c6 := ha.cell 6 _ rfl
  have hld := ldRq20 ha
  go_simp
  try with_reducible rfl
 refine take_d19 (i := 2) (d := some 9) (v := ?_) rfl rfl (by kernel_rfl) (by kernel_rfl) (by kernel_rfl) (fun _ _ _ h => h) (Or.inl ⟨by rfl, ?_⟩) (by assumption) ?_
 rotate_left
 ·intro w hSw
  (try dsimp only at hSw)
  have ha := HX1.out.keep hSw
  have c0 := ha.cell 0 _ rfl
  have c1 := ha.cell 1 _ rfl
  have c2 := ha.cell 2 _ rfl
  have c3 := ha.cell 3 _ rfl
  have c4 := ha.cell 4 _ rfl
  have c5 := ha.cell 5 _ rfl
  have c6 := ha.cell 6 _ rfl
  have hld := ldRq20 ha
  go_simp
  try with_reducible rfl
 refine take_d19 (i := 3) (d := some 10) (v := ?_) rfl rfl (by kernel_rfl) (by kernel_rfl) (by kernel_rfl) (fun _ _ _ h => h) (Or.inl ⟨by rfl, ?_⟩) (by assumption) ?_
 rotate_left
 ·intro w hSw
  (try dsimp only at hSw)
  have ha := HX1.out.keep hSw
  have c0 := ha.cell 0 _ rfl
  have c1 := ha.cell 1 _ rfl
  have c2 := ha.cell 2 _ rfl
  have c3 := ha.cell 3 _ rfl
  have c4 := ha.cell 4 _ rfl
  have c5 := ha.cell 5 _ rfl
  have c6 := ha.cell 6 _ rfl
  have hld := ldRq20 ha
  go_simp
  try with_reducible rfl
 refine take_d19 (i := 4) (d := some 11) (v := ?_) rfl rfl (by kernel_rfl) (by kernel_rfl) (by kernel_rfl) (fun _ _ _ h => h) (Or.inl ⟨by rfl, ?_⟩) (by assumption) ?_
 rotate_left
 ·intro w hSw
  (try dsimp only at hSw)
  have ha := HX1.out.keep hSw
  have c0 := ha.cell 0 _ rfl
  have c1 := ha.cell 1 _ rfl
  have c2 := ha.cell 2 _ rfl
  have c3 := ha.cell 3 _ rfl
  have c4 := ha.cell 4 _ rfl
  have c5 := ha.cell 5 _ rfl
  have c6 := ha.cell 6 _ rfl
  have hld := ldRq20 ha
  go_simp
  try with_reducible rfl
 try simp only [Act.put, zA, zB, zC]
 refine wpAnyH_ready (rs := [5]) (by kernel_rfl) (by simp) ?_
 refine AllReadyH.cons rfl (fun K hK => ?_) AllReadyH.nil
 go_simp
 refine (HD.out _ (below_two HB1.out hHeld)).mono ?_
 rintro e wA ⟨⟨vo, n, vc, uo, k, uc, rfl, hn, ho, hk, hp⟩, hbA⟩
 have HAA := hid' (Ar.keep (show Ar w2.drew rb _ _ from HA2.out) hbA)
 have HNE : Hid (w2.drew.heap.size ≤ wA.heap.size) := hid' hbA.size
 have HTA : Hid (∀ W, Below w2.drew.heap.size wA W → TB19 W) := hid' (fun W hb => tb_below19 (tb_below19 (tb_below19 HT.out HB1.out) hHeld) (hbA.trans hb))
 have HFI := hid' (cfin20 w2.drew.heap.size m A HF.out vo uo n vc k uc wA hn ho hk hp (by have := H5.out; omega) hbA.size HTA.out)
 have HLR : Hid (rb < w2.drew.heap.size) := hid' HA2.out.lt
 unfold rpC at HFI
 unfold rpC
 have h2 := below_two hHeld hbA
 clear ho hp hn hk
 go_wp2_with fail
 refine hK.out _ _ h2 (fun _ => ?_)
 clear hK K
 try simp only [Act.put, zA, zB, zC]
 refine wpAnyH_ready (rs := [6]) (by kernel_rfl) (by simp) ?_
 refine AllReadyH.cons rfl (fun K hK => ?_) AllReadyH.nil
 go_simp
 refine HFI.out.mono ?_
 rintro e wC ⟨⟨vo2, n2, vc2, uo2, k2, uc2, rfl, hf1, hf2⟩, hbC⟩
 obtain ⟨bd, hbd⟩ : ∃ bd : ByteArray, (⟨(Ap.fin (m.data.toList == Fs.mHEAD) A).b.toArray⟩ : ByteArray) = bd := ⟨_, rfl⟩
 obtain ⟨sd, hsd⟩ : ∃ sd : Int, (Ap.fin (m.data.toList == Fs.mHEAD) A).s = sd := ⟨_, rfl⟩
 unfold rpC
 rw [hbd, hsd]
 have HAC : Hid (Ar wC rb 42 #[.int .i64 0, .slice none 0 0, .string ⟨#[]⟩, .slice none 0 0]) := hid' (by have := HAA.out; unfold Ar at *; rw [hbC.block rb HLR.out]; exact this)
 have HF1 := hid' hf1
 have HF2 := hid' hf2
 have h3 : Below w1.heap.size w1 wC := h2.trans (hbC.mono hHeld.size)
 clear hf1 hf2
 go_wp2_with fail
 refine hK.out _ _ h3 (fun _ => ?_)
 clear hK K
 try simp only [Act.put, zA, zB, zC]
 refine wpAnyH_ready (rs := [7]) (by kernel_rfl) (by simp) ?_
 refine AllReadyH.cons rfl (fun K hK => ?_) AllReadyH.nil
 refine step_store19 rfl 42 _ _ rfl rb #[.int .i64 sd, .slice vo2 n2 vc2, .string bd, .slice uo2 k2 uc2] rfl rfl 42 _ (HAC.out) sizeRp19 rfl (by simp [Value.oneCell']) ?_
 intro wf hawf huwf
 refine hK.out _ _ (h3.trans (huwf.below HRB.out)) (fun _ => ?_)
 clear hK K
 try simp only [Act.put]
 refine wpAnyH_done (by kernel_rfl) ?_ _
 have HWF := hid' hawf
 have HUF := hid' huwf
 go_wp2_with fail
 have hld := ldRp19 HWF.out
 refine bodyPost_ret (v := .agg #[.int .i64 sd, .slice vo2 n2 vc2, .string bd, .slice uo2 k2 uc2]) (by simp [results, Tryz.results10, asAddr, hld]) rfl ⟨⟨vo2, n2, vc2, uo2, k2, uc2, ?_, ft_updr20 HF1.out HUF.out HAC.out, ft_updr20 HF2.out HUF.out HAC.out⟩, (below_two HB1.out h3).trans (HUF.out.below (Nat.le_trans HB1.out.size HRB.out))⟩
 unfold rpC
 rw [hbd, hsd]

theorem cansC20 : AnsC20 AP20 := by
 intro B E b l B' sb KD q es r fv tv w h hc hf ht hbr hq hes hT
 obtain ⟨h1, h2⟩ := Ap.raw_fit l es r hes (fun x hx => (hbr.1 x hx).1) hq.p hq.b
 exact canswer20 _ _ (Ap.raw l es r) h1 h2 r fv tv w (fun W hb => cdraft20 B b l B' sb KD q es r fv tv W (h.aw.below hb) (hc.keep hb) (hf.keep hb) (ht.keep hb) hbr hq hes (tb_below19 hT hb)) hT

end Go.Proofs.YtcfbobegbmcbeaaGreatDoor
