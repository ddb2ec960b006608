/-
  The reader's useStart: by its contract.
-/
import Derived.Test.YtbpdhcfmdkmoiaaGreatDoorPnAX
namespace Go.Proofs.YtbpdhcfmdkmoiaaGreatDoor
open Go.RowKit

theorem Hr.three_p {l a b c : List UInt8} (h : Hr.three l = some (a, b, c)) : Hr.p1 l = a ∧ Hr.p2 l = b ∧ Hr.p3 l = c := by
  unfold Hr.three at h
  split at h
  · injection h with h
    injection h with h1 h
    injection h with h2 h3
    exact ⟨h1, h2, h3⟩
  · cases h
theorem Hr.cost_len {s : Hr.St} {n : Nat} (h : Hr.cost s + n ≤ 1048576) : n ≤ 1048576 ∧ s.fs.length ≤ 1048576 ∧ Ms.size s.fs ≤ 1125899906842624 ∧ (∀ f ∈ s.fs, f.n.size ≤ 1048576 ∧ f.v.size ≤ 1048576) ∧ s.m.size ≤ 1048576 ∧ s.t.size ≤ 1048576 ∧ s.ln.length ≤ 1048576 := by
  have h1 := Hr.size_fsH s.fs
  unfold Hr.cost Hr.lnH at h
  refine ⟨by omega, by omega, by omega, fun f hf => ?_, by omega, by omega, by omega⟩
  have := Hr.mem_fsH hf
  omega

set_option maxHeartbeats 4000000 in
set_option maxRecDepth 20000 in
theorem cstart21 (B b : Nat) (lv fv : Value) (s : Hr.St) (x : ByteArray) (w : World) (h : RN w B b (rnx b s.md) lv fv s) (hT : TB w) (hx : x.size ≤ 1048576) :
    Calls Tryz.prog 28 #[.pointer (some ⟨b, 0, none⟩), .string x] w (UP w B b lv fv (Hr.useStart s x.data.toList).1 (Hr.useStart s x.data.toList).2) := by
  have HSP : Hid (∀ W, Below w.heap.size w W → Calls Tryz.prog 34 #[.string x, .string ⟨#[32]⟩, .int .i64 4] W fun e w' => (∃ n cap, e = .returned (.slice (some ⟨W.heap.size, 0, none⟩) n cap) ∧ n ≤ 4 ∧ Spl21 x.data.toList w' W.heap.size n) ∧ Below W.heap.size W w') := hid' (fun W hb => csplit21 x W (hT.keep hb) hx)
  have HCL := hid' (fun c => Hr.cut_len c x.data.toList)
  have HXS : Hid (x.data.toList.length ≤ 1048576) := hid' (by rw [← Lib.size_eq]; exact hx)
  obtain ⟨P, hP⟩ : ∃ P, Hr.useStart s x.data.toList = P := ⟨_, rfl⟩
  have HP : Hid (P = if x.data.toList.isEmpty then (Hr.pc0, s) else if Hr.startE x.data.toList == 0 then (Hr.pc0, { s with bg := true, md := (.inl true), m := Hr.ba (Hr.p1 x.data.toList), t := Hr.ba (Hr.p2 x.data.toList), old := Hr.p3 x.data.toList == Hr.v10 }) else Hr.broke s (Hr.startE x.data.toList)) := hid' (by rw [← hP]; rfl)
  rw [hP]
  have hem : x.data.toList.isEmpty = (x.toList == []) := by rw [Lib.toList_data]; cases x.data.toList <;> rfl
  rw [hem] at HP
  clear hP hT hx hem
  have H := hid' h
  have HLT : Hid (∀ k, RS b lv fv k → k < w.heap.size) := hid' (fun k hk => (h.rs k hk).2)
  have HB0 := hid' h.lb
  clear h
  go_enter Tryz.func28, Tryz.ntmps28
  go_wp2_with (refine wpl_alloc 49 rfl rfl _ zeroPc21 ?_)
  intro rb w1 hrb ha1 hl1
  have HB1 := hid' hl1
  have HA1 := hid' ha1
  have HRB : Hid (w.heap.size ≤ rb) := hid' (by omega)
  have HR1 := hid' (H.out.keep hl1)
  have HRL1 : Hid (rb < w1.heap.size) := hid' ha1.lt
  have HN0 : Hid (¬ RS b lv fv rb) := hid' (fun hk => by have := HLT.out rb hk; omega)
  clear ha1 hl1 hrb
  cases c0 : (x.toList == [])
  rotate_left
  · have HE : Hid (P = (Hr.pc0, s)) := hid' (by rw [HP.out, c0]; rfl)
    go_wp2_with (refine wpl_store 49 _ _ rfl rfl rb (pcC (Hr.pc0) (.slice none 0 0) (.slice none 0 0)) (by kernel_rfl) (by kernel_rfl) _ _ HA1.out sizePc21 rfl (by simp [Value.oneCell', pcC]) ?_)
    intro wf hwf huf
    go_wp2
    have hld := ldPc21 hwf
    exact bodyPost_ret (v := pv0 (Hr.pc0)) (by simp [results, Tryz.results28, asAddr, hld, pv0]) rfl (by rw [HE.out]; exact up_plain21 HB1.out HRB.out HRL1.out (LF.refl _ _) HR1.out (RW.refl _ _ _) rfl rfl HLT.out huf)
  have HP2 : Hid (P = if Hr.startE x.data.toList == 0 then (Hr.pc0, { s with bg := true, md := (.inl true), m := Hr.ba (Hr.p1 x.data.toList), t := Hr.ba (Hr.p2 x.data.toList), old := Hr.p3 x.data.toList == Hr.v10 }) else Hr.broke s (Hr.startE x.data.toList)) := hid' (by rw [HP.out, c0]; rfl)
  clear HP
  go_wp2_with (go_at_call 34; refine (HSP.out _ HB1.out).mono ?_; rintro e w2 ⟨⟨n, cap, rfl, hn, hsp⟩, hb2⟩; refine Hid.out ?_)
  refine hid' ?_
  have HB2 := hid' (below_two HB1.out hb2)
  have HA2 := hid' (HA1.out.keep hb2)
  have HR2 := hid' (HR1.out.keep hb2)
  have HRL2 : Hid (rb < w2.heap.size) := hid' (Nat.lt_of_lt_of_le HRL1.out hb2.size)
  clear hb2
  obtain ⟨g, hg⟩ : ∃ g, w1.heap.size = g := ⟨_, rfl⟩
  rw [hg] at hsp ⊢
  have HGB : Hid (∀ k, RS b lv fv k → k ≠ g) := hid' (fun k hk e => by have := HLT.out k hk; have := HB1.out.size; omega)
  have HGR : Hid (g ≠ rb) := hid' (fun e => by have := HRL1.out; omega)
  clear hg c0
  unfold Spl21 at hsp
  cases ht : Hr.three x.data.toList with
  | none =>
    rw [ht] at hsp
    simp only at hsp
    have HE : Hid (P = Hr.broke s 400) := hid' (by rw [HP2.out, show Hr.startE x.data.toList = 400 from by unfold Hr.startE; rw [ht]]; rfl)
    have hn3 : ((n : Int) != 3) = true := by rw [bne_iff_ne]; omega
    clear ht hsp
    go_wp2_with (go_at_call 33; refine (cbreaks21 B b _ _ _ _ 400 _ HR2.out).mono ?_; rintro e w9 ⟨rfl, h9, hf9⟩; refine Hid.out ?_)
    refine hid' ?_
    have H9 := hid' h9
    have HF9 := hid' hf9
    have HA9 := hid' (hf9.ar HA2.out HN0.out)
    clear h9 hf9
    go_wp2_with (refine wpl_store 49 _ _ rfl rfl rb (pcC (Hr.brk 400) (.slice none 0 0) (.slice none 0 0)) (by kernel_rfl) (by kernel_rfl) _ _ HA9.out sizePc21 rfl (by simp [Value.oneCell', pcC]) ?_)
    intro wf hwf huf
    go_wp2
    have hld := ldPc21 hwf
    exact bodyPost_ret (v := pv0 (Hr.brk 400)) (by simp [results, Tryz.results28, asAddr, hld, pv0]) rfl (by rw [HE.out]; exact up_plain21 HB2.out HRB.out HRL2.out (HF9.out) H9.out (RW.none _ _ _) rfl rfl HLT.out huf)
  | some t =>
    obtain ⟨pa, pb, pc⟩ := t
    rw [ht] at hsp
    simp only at hsp
    obtain ⟨rfl, y0, y1, y2⟩ := hsp
    have hp := Hr.three_p ht
    have hse : Hr.startE x.data.toList = if pb.isEmpty || !Tx.isTok pa then 400 else if pc == Hr.v11 || pc == Hr.v10 then 0 else if Hr.isV pc then 505 else 400 := by unfold Hr.startE; rw [ht]
    obtain ⟨za, hza⟩ : ∃ z, Hr.ba pa = z := ⟨_, rfl⟩
    obtain ⟨zb, hzb⟩ : ∃ z, Hr.ba pb = z := ⟨_, rfl⟩
    obtain ⟨zc, hzc⟩ : ∃ z, Hr.ba pc = z := ⟨_, rfl⟩
    obtain ⟨tk, htk⟩ : ∃ tk, Tx.isTok pa = tk := ⟨_, rfl⟩
    obtain ⟨iv, hiv⟩ : ∃ iv, Hr.isV pc = iv := ⟨_, rfl⟩
    have hzl : za.data.toList = pa ∧ zb.data.toList = pb ∧ zc.data.toList = pc := ⟨by rw [← hza]; rfl, by rw [← hzb]; rfl, by rw [← hzc]; rfl⟩
    have hln : pa.length ≤ 1048576 ∧ pc.length ≤ 1048576 := by
      have h1 := HCL.out 32
      have h2 := HXS.out
      have h3 := Hr.cut_len 32 (Lib.cut x.data.toList [32]).2.1
      refine ⟨?_, ?_⟩
      · rw [← hp.1]; unfold Hr.p1; omega
      · rw [← hp.2.2]; unfold Hr.p3; omega
    have HTK : Hid (∀ W, Calls Tryz.prog 35 #[.string za] W fun e w' => e = .returned (.bool tk) ∧ w' = W) := hid' (fun W => by have := token_any za W (by rw [Lib.size_eq, hzl.1]; unfold maxLen; omega); rwa [hzl.1, htk] at this)
    have HIV : Hid (∀ W, Calls Tryz.prog 36 #[.string zc] W fun e w' => e = .returned (.bool iv) ∧ w' = W) := hid' (fun W => by have := civ21 zc W; rwa [hzl.2.2, hiv] at this)
    have HP3 : Hid (P = if (if (zb.toList == []) || !tk then (400 : Int) else if (zc.toList == Hr.v11) || (zc.toList == Hr.v10) then 0 else if iv then 505 else 400) == 0 then (Hr.pc0, { s with bg := true, md := (.inl true), m := za, t := zb, old := zc.toList == Hr.v10 }) else Hr.broke s (if (zb.toList == []) || !tk then (400 : Int) else if (zc.toList == Hr.v11) || (zc.toList == Hr.v10) then 0 else if iv then 505 else 400)) := hid' (by
      have e1 : pb.isEmpty = (zb.toList == []) := by rw [Lib.toList_data, hzl.2.1]; cases pb <;> rfl
      have e2 : zc.toList = pc := by rw [Lib.toList_data, hzl.2.2]
      rw [HP2.out, hse, hp.1, hp.2.1, hp.2.2, hza, hzb, htk, hiv, e1, e2])
    rw [hza] at y0
    rw [hzb] at y1
    rw [hzc] at y2
    clear hza hzb hzc htk hiv hzl hln hse hp ht HP2
    cases c1 : (zb.toList == [])
    rotate_left
    · have HE : Hid (P = Hr.broke s 400) := hid' (by rw [HP3.out, c1]; rfl)
      go_wp2_with (go_at_call 33; refine (cbreaks21 B b _ _ _ _ 400 _ HR2.out).mono ?_; rintro e w9 ⟨rfl, h9, hf9⟩; refine Hid.out ?_)
      refine hid' ?_
      have H9 := hid' h9
      have HF9 := hid' hf9
      have HA9 := hid' (hf9.ar HA2.out HN0.out)
      clear h9 hf9
      go_wp2_with (refine wpl_store 49 _ _ rfl rfl rb (pcC (Hr.brk 400) (.slice none 0 0) (.slice none 0 0)) (by kernel_rfl) (by kernel_rfl) _ _ HA9.out sizePc21 rfl (by simp [Value.oneCell', pcC]) ?_)
      intro wf hwf huf
      go_wp2
      have hld := ldPc21 hwf
      exact bodyPost_ret (v := pv0 (Hr.brk 400)) (by simp [results, Tryz.results28, asAddr, hld, pv0]) rfl (by rw [HE.out]; exact up_plain21 HB2.out HRB.out HRL2.out (HF9.out) H9.out (RW.none _ _ _) rfl rfl HLT.out huf)
    have HY0 := hid' y0
    have HY1 := hid' y1
    have HY2 := hid' y2
    cases tk
    · have HE : Hid (P = Hr.broke s 400) := hid' (by rw [HP3.out, c1]; rfl)
      go_wp2_with (go_at_call 35; refine (HTK.out _).mono ?_; rintro e w3 ⟨rfl, hw3⟩; subst w3; refine Hid.out ?_)
      refine hid' ?_
      go_wp2_with (go_at_call 33; refine (cbreaks21 B b _ _ _ _ 400 _ HR2.out).mono ?_; rintro e w9 ⟨rfl, h9, hf9⟩; refine Hid.out ?_)
      refine hid' ?_
      have H9 := hid' h9
      have HF9 := hid' hf9
      have HA9 := hid' (hf9.ar HA2.out HN0.out)
      clear h9 hf9
      go_wp2_with (refine wpl_store 49 _ _ rfl rfl rb (pcC (Hr.brk 400) (.slice none 0 0) (.slice none 0 0)) (by kernel_rfl) (by kernel_rfl) _ _ HA9.out sizePc21 rfl (by simp [Value.oneCell', pcC]) ?_)
      intro wf hwf huf
      go_wp2
      have hld := ldPc21 hwf
      exact bodyPost_ret (v := pv0 (Hr.brk 400)) (by simp [results, Tryz.results28, asAddr, hld, pv0]) rfl (by rw [HE.out]; exact up_plain21 HB2.out HRB.out HRL2.out (HF9.out) H9.out (RW.none _ _ _) rfl rfl HLT.out huf)
    go_wp2_with (go_at_call 35; refine (HTK.out _).mono ?_; rintro e w3 ⟨rfl, hw3⟩; subst w3; refine Hid.out ?_)
    refine hid' ?_
    cases v1 : (zc.toList == [72, 84, 84, 80, 47, 49, 46, 49])
    rotate_left
    · have v0 : (zc.toList == [72, 84, 84, 80, 47, 49, 46, 48]) = false := by rw [beq_iff_eq] at v1; rw [v1]; rfl
      have k6 : w2.cell? ⟨b, 6, none⟩ = some (.string s.m) := HR2.out.obj.cell 6 _ rfl
      have k7 : w2.cell? ⟨b, 7, none⟩ = some (.string s.t) := HR2.out.obj.cell 7 _ rfl
      have k8 : w2.cell? ⟨b, 8, none⟩ = some (.bool s.old) := HR2.out.obj.cell 8 _ rfl
      have e6 := HR2.out.obj.free 6
      have e7 := HR2.out.obj.free 7
      have e8 := HR2.out.obj.free 8
      go_wp2
      go_region
      have HNE : Hid (rb ≠ b) := hid' (fun e => HN0.out (.inl e))
      have HE : Hid (P = (Hr.pc0, { s with bg := true, md := (.inl true), m := za, t := zb, old := false })) := hid' (by rw [HP3.out, c1]; unfold Hr.v11 Hr.v10; rw [v1, v0]; rfl)
      have H3 := hid' ((((HR2.out.set (nv' := rnx b s.md) (s' := { s with m := za }) 6 (.string za) rfl rfl rfl).set (nv' := rnx b s.md) (s' := { s with m := za, t := zb }) 7 (.string zb) rfl rfl rfl).set (nv' := rnx b s.md) (s' := { s with m := za, t := zb, old := false }) 8 (.bool false) rfl rfl rfl).keep (Below.refl _ _).drew)
      have HA3 := hid' (Ar.keep (((HA2.out.other (Ne.symm HNE.out) 6 (.string za)).other (Ne.symm HNE.out) 7 (.string zb)).other (Ne.symm HNE.out) 8 (.bool false)) (Below.refl _ _).drew)
      have HF3 : Hid (LF (RS b lv fv) w2 ((((w2.setCell ⟨b, 6, none⟩ (.string za)).setCell ⟨b, 7, none⟩ (.string zb)).setCell ⟨b, 8, none⟩ (.bool false)).drew)) := hid' ((((RN.lf_set 6 _).trans (RN.lf_set 7 _) (fun _ _ => id)).trans (RN.lf_set 8 _) (fun _ _ => id)).trans (LF.of_below (Below.refl _ _).drew) (fun _ _ => id))
      clear k6 k7 k8 e6 e7 e8 y0 y1 y2
      generalize (((w2.setCell ⟨b, 6, none⟩ (.string za)).setCell ⟨b, 7, none⟩ (.string zb)).setCell ⟨b, 8, none⟩ (.bool false)).drew = w3 at *
      have c2 : w3.cell? ⟨b, 2, none⟩ = some (rnx b s.md) := H3.out.obj.cell 2 _ rfl
      have c3 : w3.cell? ⟨b, 3, none⟩ = some (.bool s.bg) := H3.out.obj.cell 3 _ rfl
      have f2 := H3.out.obj.free 2
      have f3 := H3.out.obj.free 3
      have hmf := hmf21
      unfold rnx mV at c2
      go_upto_region 14 with fail
      have H4 : Hid (RN ((w3.setCell ⟨b, 3, none⟩ (.bool true)).setCell ⟨b, 2, none⟩ (rnx b (.inl true))) B b (rnx b (.inl true)) lv fv { s with bg := true, md := (.inl true), m := za, t := zb, old := false }) := hid' ((H3.out.set (nv' := rnx b s.md) (s' := { s with bg := true, m := za, t := zb, old := false }) 3 _ rfl rfl rfl).next _ rfl rfl rfl)
      have HA4 : Hid (Ar ((w3.setCell ⟨b, 3, none⟩ (.bool true)).setCell ⟨b, 2, none⟩ (rnx b (.inl true))) rb 49 pcZ) := hid' ((HA3.out.other (Ne.symm HNE.out) _ _).other (Ne.symm HNE.out) _ _)
      have HF4 : Hid (LF (RS b lv fv) w2 ((w3.setCell ⟨b, 3, none⟩ (.bool true)).setCell ⟨b, 2, none⟩ (rnx b (.inl true)))) := hid' ((HF3.out.trans (RN.lf_set 3 _) (fun _ _ => id)).trans (RN.lf_set 2 _) (fun _ _ => id))
      unfold rnx mV rnum at H4 HA4 HF4
      clear H3 HA3 HF3 c2 c3 f2 f3 hmf
      generalize (w3.setCell ⟨b, 3, none⟩ (.bool true)).setCell ⟨b, 2, none⟩ (.func (.func 37) #[.pointer (some ⟨b, 0, none⟩)] #[]) = w4 at *
      go_wp2_with (refine wpl_store 49 _ _ rfl rfl rb (pcC (Hr.pc0) (.slice none 0 0) (.slice none 0 0)) (by kernel_rfl) (by kernel_rfl) _ _ HA4.out sizePc21 rfl (by simp [Value.oneCell', pcC]) ?_)
      intro wf hwf huf
      go_wp2
      have hld := ldPc21 hwf
      exact bodyPost_ret (v := pv0 (Hr.pc0)) (by simp [results, Tryz.results28, asAddr, hld, pv0]) rfl (by rw [HE.out]; exact up_plain21 HB2.out HRB.out HRL2.out HF4.out H4.out (RW.refl _ _ _) rfl rfl HLT.out huf)
    cases v0 : (zc.toList == [72, 84, 84, 80, 47, 49, 46, 48])
    rotate_left
    · have c1' := c1
      have k6 : w2.cell? ⟨b, 6, none⟩ = some (.string s.m) := HR2.out.obj.cell 6 _ rfl
      have k7 : w2.cell? ⟨b, 7, none⟩ = some (.string s.t) := HR2.out.obj.cell 7 _ rfl
      have k8 : w2.cell? ⟨b, 8, none⟩ = some (.bool s.old) := HR2.out.obj.cell 8 _ rfl
      have e6 := HR2.out.obj.free 6
      have e7 := HR2.out.obj.free 7
      have e8 := HR2.out.obj.free 8
      go_wp2
      go_region
      have HNE : Hid (rb ≠ b) := hid' (fun e => HN0.out (.inl e))
      have HE : Hid (P = (Hr.pc0, { s with bg := true, md := (.inl true), m := za, t := zb, old := true })) := hid' (by rw [HP3.out, c1]; unfold Hr.v11 Hr.v10; rw [v1, v0]; rfl)
      have H3 := hid' ((((HR2.out.set (nv' := rnx b s.md) (s' := { s with m := za }) 6 (.string za) rfl rfl rfl).set (nv' := rnx b s.md) (s' := { s with m := za, t := zb }) 7 (.string zb) rfl rfl rfl).set (nv' := rnx b s.md) (s' := { s with m := za, t := zb, old := true }) 8 (.bool true) rfl rfl rfl).keep (Below.refl _ _).drew)
      have HA3 := hid' (Ar.keep (((HA2.out.other (Ne.symm HNE.out) 6 (.string za)).other (Ne.symm HNE.out) 7 (.string zb)).other (Ne.symm HNE.out) 8 (.bool true)) (Below.refl _ _).drew)
      have HF3 : Hid (LF (RS b lv fv) w2 ((((w2.setCell ⟨b, 6, none⟩ (.string za)).setCell ⟨b, 7, none⟩ (.string zb)).setCell ⟨b, 8, none⟩ (.bool true)).drew)) := hid' ((((RN.lf_set 6 _).trans (RN.lf_set 7 _) (fun _ _ => id)).trans (RN.lf_set 8 _) (fun _ _ => id)).trans (LF.of_below (Below.refl _ _).drew) (fun _ _ => id))
      clear k6 k7 k8 e6 e7 e8 y0 y1 y2
      generalize (((w2.setCell ⟨b, 6, none⟩ (.string za)).setCell ⟨b, 7, none⟩ (.string zb)).setCell ⟨b, 8, none⟩ (.bool true)).drew = w3 at *
      have c2 : w3.cell? ⟨b, 2, none⟩ = some (rnx b s.md) := H3.out.obj.cell 2 _ rfl
      have c3 : w3.cell? ⟨b, 3, none⟩ = some (.bool s.bg) := H3.out.obj.cell 3 _ rfl
      have f2 := H3.out.obj.free 2
      have f3 := H3.out.obj.free 3
      have hmf := hmf21
      unfold rnx mV at c2
      go_upto_region 14 with fail
      have H4 : Hid (RN ((w3.setCell ⟨b, 3, none⟩ (.bool true)).setCell ⟨b, 2, none⟩ (rnx b (.inl true))) B b (rnx b (.inl true)) lv fv { s with bg := true, md := (.inl true), m := za, t := zb, old := true }) := hid' ((H3.out.set (nv' := rnx b s.md) (s' := { s with bg := true, m := za, t := zb, old := true }) 3 _ rfl rfl rfl).next _ rfl rfl rfl)
      have HA4 : Hid (Ar ((w3.setCell ⟨b, 3, none⟩ (.bool true)).setCell ⟨b, 2, none⟩ (rnx b (.inl true))) rb 49 pcZ) := hid' ((HA3.out.other (Ne.symm HNE.out) _ _).other (Ne.symm HNE.out) _ _)
      have HF4 : Hid (LF (RS b lv fv) w2 ((w3.setCell ⟨b, 3, none⟩ (.bool true)).setCell ⟨b, 2, none⟩ (rnx b (.inl true)))) := hid' ((HF3.out.trans (RN.lf_set 3 _) (fun _ _ => id)).trans (RN.lf_set 2 _) (fun _ _ => id))
      unfold rnx mV rnum at H4 HA4 HF4
      clear H3 HA3 HF3 c2 c3 f2 f3 hmf
      generalize (w3.setCell ⟨b, 3, none⟩ (.bool true)).setCell ⟨b, 2, none⟩ (.func (.func 37) #[.pointer (some ⟨b, 0, none⟩)] #[]) = w4 at *
      go_wp2_with (refine wpl_store 49 _ _ rfl rfl rb (pcC (Hr.pc0) (.slice none 0 0) (.slice none 0 0)) (by kernel_rfl) (by kernel_rfl) _ _ HA4.out sizePc21 rfl (by simp [Value.oneCell', pcC]) ?_)
      intro wf hwf huf
      go_wp2
      have hld := ldPc21 hwf
      exact bodyPost_ret (v := pv0 (Hr.pc0)) (by simp [results, Tryz.results28, asAddr, hld, pv0]) rfl (by rw [HE.out]; exact up_plain21 HB2.out HRB.out HRL2.out HF4.out H4.out (RW.refl _ _ _) rfl rfl HLT.out huf)
    cases iv
    · have HE : Hid (P = Hr.broke s 400) := hid' (by rw [HP3.out, c1]; unfold Hr.v11 Hr.v10; rw [v1, v0]; rfl)
      go_wp2_with (go_at_call 36; refine (HIV.out _).mono ?_; rintro e w3 ⟨rfl, hw3⟩; subst w3; refine Hid.out ?_)
      refine hid' ?_
      go_wp2_with (go_at_call 33; refine (cbreaks21 B b _ _ _ _ 400 _ HR2.out).mono ?_; rintro e w9 ⟨rfl, h9, hf9⟩; refine Hid.out ?_)
      refine hid' ?_
      have H9 := hid' h9
      have HF9 := hid' hf9
      have HA9 := hid' (hf9.ar HA2.out HN0.out)
      clear h9 hf9
      go_wp2_with (refine wpl_store 49 _ _ rfl rfl rb (pcC (Hr.brk 400) (.slice none 0 0) (.slice none 0 0)) (by kernel_rfl) (by kernel_rfl) _ _ HA9.out sizePc21 rfl (by simp [Value.oneCell', pcC]) ?_)
      intro wf hwf huf
      go_wp2
      have hld := ldPc21 hwf
      exact bodyPost_ret (v := pv0 (Hr.brk 400)) (by simp [results, Tryz.results28, asAddr, hld, pv0]) rfl (by rw [HE.out]; exact up_plain21 HB2.out HRB.out HRL2.out (HF9.out) H9.out (RW.none _ _ _) rfl rfl HLT.out huf)
    · have HE : Hid (P = Hr.broke s 505) := hid' (by rw [HP3.out, c1]; unfold Hr.v11 Hr.v10; rw [v1, v0]; rfl)
      go_wp2_with (go_at_call 36; refine (HIV.out _).mono ?_; rintro e w3 ⟨rfl, hw3⟩; subst w3; refine Hid.out ?_)
      refine hid' ?_
      go_wp2_with (go_at_call 33; refine (cbreaks21 B b _ _ _ _ 505 _ HR2.out).mono ?_; rintro e w9 ⟨rfl, h9, hf9⟩; refine Hid.out ?_)
      refine hid' ?_
      have H9 := hid' h9
      have HF9 := hid' hf9
      have HA9 := hid' (hf9.ar HA2.out HN0.out)
      clear h9 hf9
      go_wp2_with (refine wpl_store 49 _ _ rfl rfl rb (pcC (Hr.brk 505) (.slice none 0 0) (.slice none 0 0)) (by kernel_rfl) (by kernel_rfl) _ _ HA9.out sizePc21 rfl (by simp [Value.oneCell', pcC]) ?_)
      intro wf hwf huf
      go_wp2
      have hld := ldPc21 hwf
      exact bodyPost_ret (v := pv0 (Hr.brk 505)) (by simp [results, Tryz.results28, asAddr, hld, pv0]) rfl (by rw [HE.out]; exact up_plain21 HB2.out HRB.out HRL2.out (HF9.out) H9.out (RW.none _ _ _) rfl rfl HLT.out huf)

end Go.Proofs.YtbpdhcfmdkmoiaaGreatDoor
