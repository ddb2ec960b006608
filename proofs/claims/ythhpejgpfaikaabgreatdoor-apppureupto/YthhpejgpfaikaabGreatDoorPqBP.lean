/-
  What the row stands on.
-/
import Derived.Test.YthhpejgpfaikaabGreatDoorPqBF
import Derived.Test.YthhpejgpfaikaabGreatDoorPqBL
import Derived.Test.YthhpejgpfaikaabGreatDoorPqAS
import Derived.Test.YthhpejgpfaikaabGreatDoorPqBO
namespace Go.Proofs.YthhpejgpfaikaabGreatDoor
set_option maxHeartbeats 64000000
open Go.RowKit

theorem infoTg20 : (Tryz.prog.info? 62).map (fun i => (i.zero, i.size, i.bytes)) = some (some (.agg #[.int .u8 0, .string ⟨#[]⟩]), 2, 24) := by kernel_rfl
theorem ar_ne20 {w : World} {a b : Nat} {T T' : TypeId} {c c' : Array Value} (h : Ar w a T c) (h' : Ar w b T' c') (hT : T ≠ T') : a ≠ b := fun e => by
 unfold Ar at h h';rw [e, h'] at h;injection h with h;injection h with _ h _;exact hT h.symm
namespace Ap
def bad (x : Fr18) : Bool := x.1.h == 1 && (!x.2.data.toList.isEmpty && !Dk.path x.2.data.toList)
theorem check_def (l : List Fr18) : check l = if Rt.check (l.map (·.1)) == 0 then (if l.any bad then 130 else 0) else Rt.check (l.map (·.1)) := rfl
theorem any_at {l : List Fr18} {i : Nat} {x : Fr18} (h : l[i]? = some x) (hb : bad x = true) : l.any bad = true := List.any_eq_true.2 ⟨x, List.mem_of_getElem? h, hb⟩
theorem any_no {l : List Fr18} (h : ∀ (j : Nat) (x : Fr18), l[j]? = some x → bad x = false) : l.any bad = false := by
 rw [List.any_eq_false];intro x hx;obtain ⟨j, hj, he⟩ := List.getElem_of_mem hx;rw [h j x (by rw [List.getElem?_eq_getElem hj, he])];exact Bool.false_ne_true
theorem hands {l : List Fr18} (h : Rt.check (l.map (·.1)) = 0) : ∀ x ∈ l, 1 ≤ x.1.h ∧ x.1.h ≤ 4 := by
 intro x hx;unfold Rt.check at h;split at h
 ·cases h
 ·have h1 := ((Rt.chk_ok _ _).1 h).1 x.1 (List.mem_map.2 ⟨x, hx, rfl⟩);unfold Rt.badRo at h1;simp only [Bool.or_eq_false_iff, decide_eq_false_iff_not] at h1;omega
end Ap

set_option maxRecDepth 20000 in
theorem cnew20 : NewC20 AP20 := by
 intro ao n cap l w hn hnb hbr h hT;have HN := hid' hn;have HBR := hid' hbr;have HRW := hid' h;have HT := hid' hT;have HNW := hid' (fun W (hW : RW18 W (.slice ao n cap) l) => cnew18 ao n cap l hn (by omega) hbr.1 W hW);have HRO := hid' (fun (x : Fr18) (hx : x ∈ l) W => croot20 x.2 _ rfl W (by have := hbr.2 x hx; omega));have HCK := hid' (Ap.check_def l);have HNB := hid' hnb;obtain ⟨i0, hi0, hz0, hz1, hz2⟩ := minfo_parts infoTg20;have HIF := hid' hi0;have HZ0 := hid' hz0;have HZ1 := hid' hz1;have HZ2 := hid' hz2;clear hi0 hz0 hz1 hz2;generalize Ap.check l = ck at *;obtain ⟨rk, hrk⟩ : ∃ rk, Rt.check (l.map (·.1)) = rk := ⟨_, rfl⟩;have HHA : Hid (rk = 0 → ∀ x ∈ l, 1 ≤ x.1.h ∧ x.1.h ≤ 4) := hid' (fun h => Ap.hands (hrk.trans h));unfold newR18 at HNW;rw [hrk] at HNW HCK;clear hn hbr h hT hnb hrk;go_enter Tryz.func5, Tryz.ntmps5;go_wp2_with fail;refine (HNW.out w HRW.out).mono ?_;rintro e w1 ⟨⟨hz, rfl⟩ | ⟨rfl, rb, rfl, hrl, hrlt, hrt⟩, hb1⟩
 ·have hz2 : (rk != 0) = true := by unfold bne; rw [hz]; rfl
  have HE : Hid (ck = rk) := hid' (by rw [HCK.out, hz]; rfl);have HB1 := hid' hb1;have HZ := hid' hz;clear hb1 hz;go_wp2;go_ret2;exact ⟨.inr ⟨by rw [HE.out]; exact HZ.out, by rw [HE.out]; rfl⟩, HB1.out⟩
 ·have HB1 := hid' hb1;have HRT := hid' hrt;have HCK0 : Hid (ck = if l.any Ap.bad then 130 else 0) := hid' (by rw [HCK.out]; rfl);clear hb1 hrl hrlt hrt HCK;go_wp2_with (refine wpl_box 57 _ rfl rfl #[.pointer (some ⟨rb, 0, none⟩), .slice none 0 0] (by kernel_rfl) ?_);intro ob w2 hob ha2 hb2;have HA2 := hid' ha2;have HB2 := hid' hb2;have HOB := hid' hob;clear hob ha2 hb2;go_wp2;go_loopw [22] (fun s22 wr => ∃ (i : Nat) (so : Option Addr) (sc : Nat), s22 = .int .i64 (i : Int) ∧ i ≤ n ∧ Hid (Ar wr ob 57 #[.pointer (some ⟨rb, 0, none⟩), .slice so i sc]) ∧ Hid (wr.ownsRow w1.heap.size 62 2 (.slice so i sc) i (tC20 (l.take i))) ∧ Hid (∀ (j : Nat) (x : Fr18), j < i → l[j]? = some x → Ap.bad x = false) ∧ Hid (Below w1.heap.size w1 wr)) (fun s22 _ => n - (intOf s22).toNat)
  case atStart => exact ⟨0, none, 0, rfl, Nat.zero_le _, HA2, hid' (World.ownsRow_nil _ _ _ _), hid' (fun j x hj => absurd hj (Nat.not_lt_zero _)), HB2⟩
  case round =>
   obtain ⟨i, so, sc, rfl, hi, HA, HO, HI, HB⟩ := hrel;have hnb2 : n ≤ 1048577 := HNB.out;by_cases hlt : i < n
   ·have hlt2 : (i : Int) < (n : Int) := by omega
    obtain ⟨x, hx⟩ : ∃ x, l[i]? = some x := ⟨_, List.getElem?_eq_getElem (by rw [HN.out]; exact hlt)⟩;obtain ⟨a, hao, _, r0, r1, r2, r3⟩ := ((HRW.out.keep HB1.out).keep HB.out).four i x hx;subst hao;have HX := hid' hx;have HLT := hid' hlt;have HTK : Hid (tC20 (l.take (i + 1)) = tC20 (l.take i) ++ [.int .u8 x.1.h, .string x.2]) := hid' (by rw [List.take_add_one, hx, tC20_app]; rfl);clear hx hlt;obtain ⟨xm, hxm⟩ : ∃ xm : ByteArray, (⟨x.1.m.toArray⟩ : ByteArray) = xm := ⟨_, rfl⟩;obtain ⟨xp, hxp⟩ : ∃ xp : ByteArray, (⟨x.1.p.toArray⟩ : ByteArray) = xp := ⟨_, rfl⟩;obtain ⟨xh, hxh⟩ : ∃ xh, x.1.h = xh := ⟨_, rfl⟩;obtain ⟨xr, hxr⟩ : ∃ xr, x.2 = xr := ⟨_, rfl⟩;have HRX := hid' (HRO.out x (List.mem_of_getElem? HX.out));have HBX : Hid (Ap.bad x = (xh == 1 && !(xr.data.toList.isEmpty || Dk.path xr.data.toList))) := hid' (by unfold Ap.bad; rw [hxh, hxr, Bool.not_or]);rw [hxm] at r0;rw [hxp] at r1;rw [hxh] at r2 HTK;rw [hxr] at r3 HTK HRX;clear hxm hxp hxh hxr;have HW : Hid (Ar (wr.alloc (.cells #[.string xm, .string xp, .int .u8 xh, .string xr] 60)) wr.heap.size 60 #[.string xm, .string xp, .int .u8 xh, .string xr]) := hid' (heap_alloc_last wr _);have hbw := bl_alloc19 wr (.cells #[.string xm, .string xp, .int .u8 xh, .string xr] 60);have HBW := hid' (HB.out.trans (hbw.mono HB.out.size));have HAW := hid' (HA.out.keep hbw);have HOW := hid' (own_kp17 HO.out hbw);clear hbw;go_upto_region 8 with fail;obtain ⟨sb, hsb⟩ : ∃ sb, wr.heap.size = sb := ⟨_, rfl⟩;rw [hsb] at HW ⊢;generalize wr.alloc (.cells #[.string xm, .string xp, .int .u8 xh, .string xr] 60) = w5 at *;clear hsb r0 r1 r2 r3;have z2 := HW.out.cell 2 _ rfl;have z3 := HW.out.cell 3 _ rfl;obtain ⟨rok, hrok⟩ : ∃ rok, (xr.data.toList.isEmpty || Dk.path xr.data.toList) = rok := ⟨_, rfl⟩;rw [hrok] at HRX HBX;clear hrok;cases c1 : (xh == 1)
    ·have HBAD : Hid (Ap.bad x = false) := hid' (by rw [HBX.out, c1]; rfl);go_upto_region 10 with fail;clear z2 z3;have HFW : Hid (∀ W, Ar W sb 60 #[.string xm, .string xp, .int .u8 xh, .string xr] → W.cell? ⟨sb, 2, none⟩ = some (.int .u8 xh) ∧ W.cell? ⟨sb, 3, none⟩ = some (.string xr)) := hid' (fun W h => ⟨h.cell 2 _ rfl, h.cell 3 _ rfl⟩);have HNS : Hid (sb ≠ ob) := hid' (ar_ne20 (HW.out) (HAW.out) (by decide));refine wp_region_held_drew (S := fun W => Below w1.heap.size w1 W ∧ W.cell? ⟨sb, 2, none⟩ = some (.int .u8 xh) ∧ W.cell? ⟨sb, 3, none⟩ = some (.string xr)) (by kernel_rfl) ⟨(HBW.out).drew, HFW.out w5.drew (HW.out)⟩ (fun hHeld => ?_);refine take_d19 (i := 0) (d := some 35) (v := ?_) rfl rfl (by kernel_rfl) (by kernel_rfl) (by kernel_rfl) (fun _ _ _ h => h) (Or.inl ⟨by rfl, ?_⟩) (by assumption) ?_;rotate_left
     ·intro w hSw
      (try dsimp only at hSw)
      obtain ⟨_, z2, z3⟩ := hSw;go_simp
      try with_reducible rfl
     refine take_d19 (i := 1) (d := some 36) (v := ?_) rfl rfl (by kernel_rfl) (by kernel_rfl) (by kernel_rfl) (fun _ _ _ h => h) (Or.inl ⟨by rfl, ?_⟩) (by assumption) ?_;rotate_left
     ·intro w hSw
      (try dsimp only at hSw)
      obtain ⟨_, z2, z3⟩ := hSw;go_simp
      try with_reducible rfl
     refine take_d19 (i := 2) (d := some 37) (v := ?_) rfl rfl (by kernel_rfl) (by kernel_rfl) (by kernel_rfl) (fun _ _ _ h => h) (Or.inl ⟨by rfl, ?_⟩) (by assumption) ?_;rotate_left
     ·intro w hSw
      (try dsimp only at hSw)
      obtain ⟨_, z2, z3⟩ := hSw;go_simp
      try with_reducible rfl
     refine take_d19 (i := 3) (d := some 38) (v := ?_) rfl rfl (by kernel_rfl) (by kernel_rfl) (by kernel_rfl) (fun _ _ _ h => h) (Or.inl ⟨by rfl, ?_⟩) (by assumption) ?_;rotate_left
     ·intro w hSw
      (try dsimp only at hSw)
      obtain ⟨_, z2, z3⟩ := hSw;go_simp
      try with_reducible rfl
     refine take_d19 (i := 5) (d := some 40) (v := ?_) rfl rfl (by kernel_rfl) (by kernel_rfl) (by kernel_rfl) (fun _ _ _ h => h) (Or.inl ⟨by rfl, ?_⟩) (by assumption) ?_;rotate_left
     ·intro w hSw
      (try dsimp only at hSw)
      obtain ⟨_, z2, z3⟩ := hSw;go_simp
      try with_reducible rfl
     refine take_d19 (i := 6) (d := some 41) (v := ?_) rfl rfl (by kernel_rfl) (by kernel_rfl) (by kernel_rfl) (fun _ _ _ h => h) (Or.inl ⟨by rfl, ?_⟩) (by assumption) ?_;rotate_left
     ·intro w hSw
      (try dsimp only at hSw)
      obtain ⟨_, z2, z3⟩ := hSw;go_simp
      try with_reducible rfl
     refine take_d19 (i := 7) (d := some 42) (v := ?_) rfl rfl (by kernel_rfl) (by kernel_rfl) (by kernel_rfl) (fun _ _ _ h => h) (Or.inl ⟨by rfl, ?_⟩) (by assumption) ?_;rotate_left
     ·intro w hSw
      (try dsimp only at hSw)
      obtain ⟨_, z2, z3⟩ := hSw;go_simp
      try with_reducible rfl
     refine take_d19 (i := 8) (d := some 43) (v := ?_) rfl rfl (by kernel_rfl) (by kernel_rfl) (by kernel_rfl) (fun _ _ _ h => h) (Or.inl ⟨by rfl, ?_⟩) (by assumption) ?_;rotate_left
     ·intro w hSw
      (try dsimp only at hSw)
      obtain ⟨_, z2, z3⟩ := hSw;go_simp
      try with_reducible rfl
     refine take_d19 (i := 9) (d := some 44) (v := ?_) rfl rfl (by kernel_rfl) (by kernel_rfl) (by kernel_rfl) (fun _ _ _ h => h) (Or.inl ⟨by rfl, ?_⟩) (by assumption) ?_;rotate_left
     ·intro w hSw
      (try dsimp only at hSw)
      obtain ⟨_, z2, z3⟩ := hSw;go_simp
      try with_reducible rfl
     try simp only [Act.put, List.setIfInBounds_toArray, List.set_cons_zero, List.set_cons_succ]
     refine wpAnyH_ready (rs := [4, 10]) (by kernel_rfl) (by simp) ?_;refine AllReadyH.cons rfl (fun K hK => ?_) (AllReadyH.cons rfl (fun K hK => ?_) AllReadyH.nil)
     ·have c1 := (show Ar w5.drew ob _ _ from HAW.out).cell 1 _ rfl;go_simp;refine hK.out _ _ hHeld (fun hh1 => ?_);clear hK K c1
      try simp only [Act.put, List.setIfInBounds_toArray, List.set_cons_zero, List.set_cons_succ]
      refine wpAnyH_ready (rs := [10]) (by kernel_rfl) (by simp) ?_;refine AllReadyH.cons rfl (fun K hK => ?_) AllReadyH.nil;refine step_lit19 rfl (some 45) rfl 62 1 #[.int .u8 xh, .string xr] (by kernel_rfl) ?_;have hb2 := bl_alloc19 w5.drew (.cells #[.int .u8 xh, .string xr] 62);have HL3 : Hid (∀ j u, [Value.int .u8 xh, .string xr][j]? = some u → (w5.drew.alloc (.cells #[.int .u8 xh, .string xr] 62)).cell? ((⟨w5.drew.heap.size, 0, none⟩ : Addr).add j) = some u) := hid' (two_new w5.drew 62 (.int .u8 xh) (.string xr));obtain ⟨lb, hlb⟩ : ∃ lb, w5.drew.heap.size = lb := ⟨_, rfl⟩;obtain ⟨u2, hN2⟩ : ∃ u2, w5.drew.alloc (.cells #[.int .u8 xh, .string xr] 62) = u2 := ⟨_, rfl⟩;rw [hlb] at HL3;rw [hlb];rw [hN2] at HL3 hb2;rw [hN2];clear hlb hN2;have HAs2 := hid' (Ar.keep (show Ar w5.drew ob _ _ from HAW.out) hb2);have HOs2 := hid' (own_kp17 (show w5.drew.ownsRow w1.heap.size _ 2 _ i _ from HOW.out) hb2);have HRs2 := hid' (Ar.keep (show Ar w5.drew sb _ _ from HW.out) hb2);have HBs2 := hid' (((HBW.out).drew).trans (hb2.mono ((HBW.out).drew).size));clear hb2;refine hK.out _ _ ⟨HBs2.out, HFW.out _ HRs2.out⟩ (fun hh2 => ?_);clear hK K
      try simp only [Act.put, List.setIfInBounds_toArray, List.set_cons_zero, List.set_cons_succ]
      refine wpAnyH_ready (rs := [11]) (by kernel_rfl) (by simp) ?_;refine AllReadyH.cons rfl (fun K hK => ?_) AllReadyH.nil;refine step_app19 rfl (some 46) rfl _ _ 55 rfl w1.heap.size 62 i0 (.agg #[.int .u8 0, .string ⟨#[]⟩]) 2 24 Tryz.underlying55 HIF.out HZ0.out HZ1.out HZ2.out rfl (by decide) (.slice so i sc) i (tC20 (l.take i)) rfl (HOs2.out) ⟨lb, 0, none⟩ 1 1 [.int .u8 xh, .string xr] rfl rfl HL3.out (by simp [Value.oneCell']) (by have := HNB.out; have := HLT.out; unfold maxLen; omega) (by have := HNB.out; have := HLT.out; omega) (HBs2.out).size ?_;intro v4 w4 hrow hgrow;rw [← HTK.out] at hrow;obtain ⟨v4o, v4c, hv4⟩ := own_shape hrow;subst hv4;have HO4 := hid' hrow;have HA4 := hid' (ar_grown (HAs2.out) hgrow (fun j hj => own_apart (HOs2.out) (HAs2.out) (by decide) j hj));have HR4 := hid' (ar_grown (HRs2.out) hgrow (fun j hj => own_apart (HOs2.out) (HRs2.out) (by decide) j hj));have HB4 := hid' ((HBs2.out).grown hgrow (HBs2.out).size (fun j hj => (own_ty (HOs2.out) j hj).1));clear hrow hgrow;refine hK.out _ _ ⟨HB4.out, HFW.out _ HR4.out⟩ (fun h9 => ?_);clear hK K;refine take_d19 (i := 12) (d := some 47) (v := ?_) rfl rfl (by kernel_rfl) (by kernel_rfl) (by kernel_rfl) (fun _ _ _ h => h) (Or.inl ⟨by rfl, ?_⟩) (by assumption) ?_;rotate_left
      ·intro w hSw
       (try dsimp only at hSw)
       obtain ⟨_, z2, z3⟩ := hSw;go_simp
       try with_reducible rfl
      refine take_d19 (i := 13) (d := some 48) (v := ?_) rfl rfl (by kernel_rfl) (by kernel_rfl) (by kernel_rfl) (fun _ _ _ h => h) (Or.inl ⟨by rfl, ?_⟩) (by assumption) ?_;rotate_left
      ·intro w hSw
       (try dsimp only at hSw)
       obtain ⟨_, z2, z3⟩ := hSw;go_simp
       try with_reducible rfl
      try simp only [Act.put, List.setIfInBounds_toArray, List.set_cons_zero, List.set_cons_succ]
      refine wpAnyH_ready (rs := [14]) (by kernel_rfl) (by simp) ?_;refine AllReadyH.cons rfl (fun K hK => ?_) AllReadyH.nil;have z1 := HA4.out.cell 1 _ rfl;have f1 := HA4.out.free 1;have hu1 := upd_setCell w4 ob 1 (.slice v4o (i + 1) v4c);have HA6 : Hid (Ar (w4.setCell ⟨ob, 1, none⟩ (.slice v4o (i + 1) v4c)) ob 57 #[.pointer (some ⟨rb, 0, none⟩), .slice v4o (i + 1) v4c]) := hid' (HA4.out.set 1 _);have HR6 := hid' (hu1.keep HR4.out (fun e => HNS.out e));have HB6 := hid' (HB4.out.trans (hu1.below HOB.out));have HO6 := hid' (own_same HO4.out (fun j hj => hu1.block j (own_apart HO4.out HA4.out (by decide) j hj)));clear hu1;go_simp;refine hK.out _ _ ⟨HB6.out, HFW.out _ HR6.out⟩ (fun _ => ?_);clear hK K
      try simp only [Act.put]
      refine wpAnyH_done (by kernel_rfl) ?_ _;clear z1 f1 h9;generalize w4.setCell ⟨ob, 1, none⟩ (.slice v4o (i + 1) v4c) = w6x at *;go_wp2;go_roundw
      case rel =>
       refine ⟨i + 1, v4o, v4c, by go_num, by have := HLT.out; omega, HA6, HO6, hid' (fun j y hj hy => ?_), HB6⟩;by_cases hji : j < i
       ·exact HI.out j y hji hy
       ·obtain rfl : j = i := by omega
        rw [HX.out] at hy;injection hy with hy;subst hy;exact HBAD.out
      case measure => have := HLT.out; simp [intOf]; omega
     ·refine step_lit19 rfl (some 45) rfl 62 1 #[.int .u8 xh, .string xr] (by kernel_rfl) ?_;have hb1 := bl_alloc19 w5.drew (.cells #[.int .u8 xh, .string xr] 62);have HL3 : Hid (∀ j u, [Value.int .u8 xh, .string xr][j]? = some u → (w5.drew.alloc (.cells #[.int .u8 xh, .string xr] 62)).cell? ((⟨w5.drew.heap.size, 0, none⟩ : Addr).add j) = some u) := hid' (two_new w5.drew 62 (.int .u8 xh) (.string xr));obtain ⟨lb, hlb⟩ : ∃ lb, w5.drew.heap.size = lb := ⟨_, rfl⟩;obtain ⟨u1, hN1⟩ : ∃ u1, w5.drew.alloc (.cells #[.int .u8 xh, .string xr] 62) = u1 := ⟨_, rfl⟩;rw [hlb] at HL3;rw [hlb];rw [hN1] at HL3 hb1;rw [hN1];clear hlb hN1;have HAs1 := hid' (Ar.keep (show Ar w5.drew ob _ _ from HAW.out) hb1);have HOs1 := hid' (own_kp17 (show w5.drew.ownsRow w1.heap.size _ 2 _ i _ from HOW.out) hb1);have HRs1 := hid' (Ar.keep (show Ar w5.drew sb _ _ from HW.out) hb1);have HBs1 := hid' (((HBW.out).drew).trans (hb1.mono ((HBW.out).drew).size));clear hb1;refine hK.out _ _ ⟨HBs1.out, HFW.out _ HRs1.out⟩ (fun hh1 => ?_);clear hK K
      try simp only [Act.put, List.setIfInBounds_toArray, List.set_cons_zero, List.set_cons_succ]
      refine wpAnyH_ready (rs := [4]) (by kernel_rfl) (by simp) ?_;refine AllReadyH.cons rfl (fun K hK => ?_) AllReadyH.nil;have c1 := (HAs1.out).cell 1 _ rfl;go_simp;refine hK.out _ _ hh1 (fun hh2 => ?_);clear hK K c1
      try simp only [Act.put, List.setIfInBounds_toArray, List.set_cons_zero, List.set_cons_succ]
      refine wpAnyH_ready (rs := [11]) (by kernel_rfl) (by simp) ?_;refine AllReadyH.cons rfl (fun K hK => ?_) AllReadyH.nil;refine step_app19 rfl (some 46) rfl _ _ 55 rfl w1.heap.size 62 i0 (.agg #[.int .u8 0, .string ⟨#[]⟩]) 2 24 Tryz.underlying55 HIF.out HZ0.out HZ1.out HZ2.out rfl (by decide) (.slice so i sc) i (tC20 (l.take i)) rfl (HOs1.out) ⟨lb, 0, none⟩ 1 1 [.int .u8 xh, .string xr] rfl rfl HL3.out (by simp [Value.oneCell']) (by have := HNB.out; have := HLT.out; unfold maxLen; omega) (by have := HNB.out; have := HLT.out; omega) (HBs1.out).size ?_;intro v4 w4 hrow hgrow;rw [← HTK.out] at hrow;obtain ⟨v4o, v4c, hv4⟩ := own_shape hrow;subst hv4;have HO4 := hid' hrow;have HA4 := hid' (ar_grown (HAs1.out) hgrow (fun j hj => own_apart (HOs1.out) (HAs1.out) (by decide) j hj));have HR4 := hid' (ar_grown (HRs1.out) hgrow (fun j hj => own_apart (HOs1.out) (HRs1.out) (by decide) j hj));have HB4 := hid' ((HBs1.out).grown hgrow (HBs1.out).size (fun j hj => (own_ty (HOs1.out) j hj).1));clear hrow hgrow;refine hK.out _ _ ⟨HB4.out, HFW.out _ HR4.out⟩ (fun h9 => ?_);clear hK K;refine take_d19 (i := 12) (d := some 47) (v := ?_) rfl rfl (by kernel_rfl) (by kernel_rfl) (by kernel_rfl) (fun _ _ _ h => h) (Or.inl ⟨by rfl, ?_⟩) (by assumption) ?_;rotate_left
      ·intro w hSw
       (try dsimp only at hSw)
       obtain ⟨_, z2, z3⟩ := hSw;go_simp
       try with_reducible rfl
      refine take_d19 (i := 13) (d := some 48) (v := ?_) rfl rfl (by kernel_rfl) (by kernel_rfl) (by kernel_rfl) (fun _ _ _ h => h) (Or.inl ⟨by rfl, ?_⟩) (by assumption) ?_;rotate_left
      ·intro w hSw
       (try dsimp only at hSw)
       obtain ⟨_, z2, z3⟩ := hSw;go_simp
       try with_reducible rfl
      try simp only [Act.put, List.setIfInBounds_toArray, List.set_cons_zero, List.set_cons_succ]
      refine wpAnyH_ready (rs := [14]) (by kernel_rfl) (by simp) ?_;refine AllReadyH.cons rfl (fun K hK => ?_) AllReadyH.nil;have z1 := HA4.out.cell 1 _ rfl;have f1 := HA4.out.free 1;have hu1 := upd_setCell w4 ob 1 (.slice v4o (i + 1) v4c);have HA6 : Hid (Ar (w4.setCell ⟨ob, 1, none⟩ (.slice v4o (i + 1) v4c)) ob 57 #[.pointer (some ⟨rb, 0, none⟩), .slice v4o (i + 1) v4c]) := hid' (HA4.out.set 1 _);have HR6 := hid' (hu1.keep HR4.out (fun e => HNS.out e));have HB6 := hid' (HB4.out.trans (hu1.below HOB.out));have HO6 := hid' (own_same HO4.out (fun j hj => hu1.block j (own_apart HO4.out HA4.out (by decide) j hj)));clear hu1;go_simp;refine hK.out _ _ ⟨HB6.out, HFW.out _ HR6.out⟩ (fun _ => ?_);clear hK K
      try simp only [Act.put]
      refine wpAnyH_done (by kernel_rfl) ?_ _;clear z1 f1 h9;generalize w4.setCell ⟨ob, 1, none⟩ (.slice v4o (i + 1) v4c) = w6x at *;go_wp2;go_roundw
      case rel =>
       refine ⟨i + 1, v4o, v4c, by go_num, by have := HLT.out; omega, HA6, HO6, hid' (fun j y hj hy => ?_), HB6⟩;by_cases hji : j < i
       ·exact HI.out j y hji hy
       ·obtain rfl : j = i := by omega
        rw [HX.out] at hy;injection hy with hy;subst hy;exact HBAD.out
      case measure => have := HLT.out; simp [intOf]; omega
    ·cases rok
     ·have HE : Hid (ck = 130) := hid' (by rw [HCK0.out, Ap.any_at HX.out (by rw [HBX.out, c1]; rfl)]; rfl);go_wp2_with fail;refine (HRX.out w5).mono ?_;rintro e w6 ⟨rfl, hb6⟩;have HB6 := hid' (below_from HBW.out hb6 HBW.out.size);clear hb6;go_wp2;go_ret2;exact ⟨.inr ⟨by rw [HE.out]; rfl, by rw [HE.out]; rfl⟩, below_two HB1.out HB6.out⟩
     ·go_wp2_with fail;refine (HRX.out w5).mono ?_;rintro e w6 ⟨rfl, hb6⟩;have HW6 := hid' (HW.out.keep hb6);have HA6 := hid' (HAW.out.keep hb6);have HO6 := hid' (own_kp17 HOW.out hb6);have HB6 := hid' (below_from HBW.out hb6 HBW.out.size);clear hb6 z2 z3;have z2 := HW6.out.cell 2 _ rfl;have z3 := HW6.out.cell 3 _ rfl;have HBAD : Hid (Ap.bad x = false) := hid' (by rw [HBX.out, c1]; rfl);go_upto_region 10 with fail;clear z2 z3;have HFW : Hid (∀ W, Ar W sb 60 #[.string xm, .string xp, .int .u8 xh, .string xr] → W.cell? ⟨sb, 2, none⟩ = some (.int .u8 xh) ∧ W.cell? ⟨sb, 3, none⟩ = some (.string xr)) := hid' (fun W h => ⟨h.cell 2 _ rfl, h.cell 3 _ rfl⟩);have HNS : Hid (sb ≠ ob) := hid' (ar_ne20 (HW6.out) (HA6.out) (by decide));refine wp_region_held_drew (S := fun W => Below w1.heap.size w1 W ∧ W.cell? ⟨sb, 2, none⟩ = some (.int .u8 xh) ∧ W.cell? ⟨sb, 3, none⟩ = some (.string xr)) (by kernel_rfl) ⟨(HB6.out).drew, HFW.out w6.drew (HW6.out)⟩ (fun hHeld => ?_);refine take_d19 (i := 0) (d := some 35) (v := ?_) rfl rfl (by kernel_rfl) (by kernel_rfl) (by kernel_rfl) (fun _ _ _ h => h) (Or.inl ⟨by rfl, ?_⟩) (by assumption) ?_;rotate_left
      ·intro w hSw
       (try dsimp only at hSw)
       obtain ⟨_, z2, z3⟩ := hSw;go_simp
       try with_reducible rfl
      refine take_d19 (i := 1) (d := some 36) (v := ?_) rfl rfl (by kernel_rfl) (by kernel_rfl) (by kernel_rfl) (fun _ _ _ h => h) (Or.inl ⟨by rfl, ?_⟩) (by assumption) ?_;rotate_left
      ·intro w hSw
       (try dsimp only at hSw)
       obtain ⟨_, z2, z3⟩ := hSw;go_simp
       try with_reducible rfl
      refine take_d19 (i := 2) (d := some 37) (v := ?_) rfl rfl (by kernel_rfl) (by kernel_rfl) (by kernel_rfl) (fun _ _ _ h => h) (Or.inl ⟨by rfl, ?_⟩) (by assumption) ?_;rotate_left
      ·intro w hSw
       (try dsimp only at hSw)
       obtain ⟨_, z2, z3⟩ := hSw;go_simp
       try with_reducible rfl
      refine take_d19 (i := 3) (d := some 38) (v := ?_) rfl rfl (by kernel_rfl) (by kernel_rfl) (by kernel_rfl) (fun _ _ _ h => h) (Or.inl ⟨by rfl, ?_⟩) (by assumption) ?_;rotate_left
      ·intro w hSw
       (try dsimp only at hSw)
       obtain ⟨_, z2, z3⟩ := hSw;go_simp
       try with_reducible rfl
      refine take_d19 (i := 5) (d := some 40) (v := ?_) rfl rfl (by kernel_rfl) (by kernel_rfl) (by kernel_rfl) (fun _ _ _ h => h) (Or.inl ⟨by rfl, ?_⟩) (by assumption) ?_;rotate_left
      ·intro w hSw
       (try dsimp only at hSw)
       obtain ⟨_, z2, z3⟩ := hSw;go_simp
       try with_reducible rfl
      refine take_d19 (i := 6) (d := some 41) (v := ?_) rfl rfl (by kernel_rfl) (by kernel_rfl) (by kernel_rfl) (fun _ _ _ h => h) (Or.inl ⟨by rfl, ?_⟩) (by assumption) ?_;rotate_left
      ·intro w hSw
       (try dsimp only at hSw)
       obtain ⟨_, z2, z3⟩ := hSw;go_simp
       try with_reducible rfl
      refine take_d19 (i := 7) (d := some 42) (v := ?_) rfl rfl (by kernel_rfl) (by kernel_rfl) (by kernel_rfl) (fun _ _ _ h => h) (Or.inl ⟨by rfl, ?_⟩) (by assumption) ?_;rotate_left
      ·intro w hSw
       (try dsimp only at hSw)
       obtain ⟨_, z2, z3⟩ := hSw;go_simp
       try with_reducible rfl
      refine take_d19 (i := 8) (d := some 43) (v := ?_) rfl rfl (by kernel_rfl) (by kernel_rfl) (by kernel_rfl) (fun _ _ _ h => h) (Or.inl ⟨by rfl, ?_⟩) (by assumption) ?_;rotate_left
      ·intro w hSw
       (try dsimp only at hSw)
       obtain ⟨_, z2, z3⟩ := hSw;go_simp
       try with_reducible rfl
      refine take_d19 (i := 9) (d := some 44) (v := ?_) rfl rfl (by kernel_rfl) (by kernel_rfl) (by kernel_rfl) (fun _ _ _ h => h) (Or.inl ⟨by rfl, ?_⟩) (by assumption) ?_;rotate_left
      ·intro w hSw
       (try dsimp only at hSw)
       obtain ⟨_, z2, z3⟩ := hSw;go_simp
       try with_reducible rfl
      try simp only [Act.put, List.setIfInBounds_toArray, List.set_cons_zero, List.set_cons_succ]
      refine wpAnyH_ready (rs := [4, 10]) (by kernel_rfl) (by simp) ?_;refine AllReadyH.cons rfl (fun K hK => ?_) (AllReadyH.cons rfl (fun K hK => ?_) AllReadyH.nil)
      ·have c1 := (show Ar w6.drew ob _ _ from HA6.out).cell 1 _ rfl;go_simp;refine hK.out _ _ hHeld (fun hh1 => ?_);clear hK K c1
       try simp only [Act.put, List.setIfInBounds_toArray, List.set_cons_zero, List.set_cons_succ]
       refine wpAnyH_ready (rs := [10]) (by kernel_rfl) (by simp) ?_;refine AllReadyH.cons rfl (fun K hK => ?_) AllReadyH.nil;refine step_lit19 rfl (some 45) rfl 62 1 #[.int .u8 xh, .string xr] (by kernel_rfl) ?_;have hb2 := bl_alloc19 w6.drew (.cells #[.int .u8 xh, .string xr] 62);have HL3 : Hid (∀ j u, [Value.int .u8 xh, .string xr][j]? = some u → (w6.drew.alloc (.cells #[.int .u8 xh, .string xr] 62)).cell? ((⟨w6.drew.heap.size, 0, none⟩ : Addr).add j) = some u) := hid' (two_new w6.drew 62 (.int .u8 xh) (.string xr));obtain ⟨lb, hlb⟩ : ∃ lb, w6.drew.heap.size = lb := ⟨_, rfl⟩;obtain ⟨u2, hN2⟩ : ∃ u2, w6.drew.alloc (.cells #[.int .u8 xh, .string xr] 62) = u2 := ⟨_, rfl⟩;rw [hlb] at HL3;rw [hlb];rw [hN2] at HL3 hb2;rw [hN2];clear hlb hN2;have HAs2 := hid' (Ar.keep (show Ar w6.drew ob _ _ from HA6.out) hb2);have HOs2 := hid' (own_kp17 (show w6.drew.ownsRow w1.heap.size _ 2 _ i _ from HO6.out) hb2);have HRs2 := hid' (Ar.keep (show Ar w6.drew sb _ _ from HW6.out) hb2);have HBs2 := hid' (((HB6.out).drew).trans (hb2.mono ((HB6.out).drew).size));clear hb2;refine hK.out _ _ ⟨HBs2.out, HFW.out _ HRs2.out⟩ (fun hh2 => ?_);clear hK K
       try simp only [Act.put, List.setIfInBounds_toArray, List.set_cons_zero, List.set_cons_succ]
       refine wpAnyH_ready (rs := [11]) (by kernel_rfl) (by simp) ?_;refine AllReadyH.cons rfl (fun K hK => ?_) AllReadyH.nil;refine step_app19 rfl (some 46) rfl _ _ 55 rfl w1.heap.size 62 i0 (.agg #[.int .u8 0, .string ⟨#[]⟩]) 2 24 Tryz.underlying55 HIF.out HZ0.out HZ1.out HZ2.out rfl (by decide) (.slice so i sc) i (tC20 (l.take i)) rfl (HOs2.out) ⟨lb, 0, none⟩ 1 1 [.int .u8 xh, .string xr] rfl rfl HL3.out (by simp [Value.oneCell']) (by have := HNB.out; have := HLT.out; unfold maxLen; omega) (by have := HNB.out; have := HLT.out; omega) (HBs2.out).size ?_;intro v4 w4 hrow hgrow;rw [← HTK.out] at hrow;obtain ⟨v4o, v4c, hv4⟩ := own_shape hrow;subst hv4;have HO4 := hid' hrow;have HA4 := hid' (ar_grown (HAs2.out) hgrow (fun j hj => own_apart (HOs2.out) (HAs2.out) (by decide) j hj));have HR4 := hid' (ar_grown (HRs2.out) hgrow (fun j hj => own_apart (HOs2.out) (HRs2.out) (by decide) j hj));have HB4 := hid' ((HBs2.out).grown hgrow (HBs2.out).size (fun j hj => (own_ty (HOs2.out) j hj).1));clear hrow hgrow;refine hK.out _ _ ⟨HB4.out, HFW.out _ HR4.out⟩ (fun h9 => ?_);clear hK K;refine take_d19 (i := 12) (d := some 47) (v := ?_) rfl rfl (by kernel_rfl) (by kernel_rfl) (by kernel_rfl) (fun _ _ _ h => h) (Or.inl ⟨by rfl, ?_⟩) (by assumption) ?_;rotate_left
       ·intro w hSw
        (try dsimp only at hSw)
        obtain ⟨_, z2, z3⟩ := hSw;go_simp
        try with_reducible rfl
       refine take_d19 (i := 13) (d := some 48) (v := ?_) rfl rfl (by kernel_rfl) (by kernel_rfl) (by kernel_rfl) (fun _ _ _ h => h) (Or.inl ⟨by rfl, ?_⟩) (by assumption) ?_;rotate_left
       ·intro w hSw
        (try dsimp only at hSw)
        obtain ⟨_, z2, z3⟩ := hSw;go_simp
        try with_reducible rfl
       try simp only [Act.put, List.setIfInBounds_toArray, List.set_cons_zero, List.set_cons_succ]
       refine wpAnyH_ready (rs := [14]) (by kernel_rfl) (by simp) ?_;refine AllReadyH.cons rfl (fun K hK => ?_) AllReadyH.nil;have z1 := HA4.out.cell 1 _ rfl;have f1 := HA4.out.free 1;have hu1 := upd_setCell w4 ob 1 (.slice v4o (i + 1) v4c);have HA6 : Hid (Ar (w4.setCell ⟨ob, 1, none⟩ (.slice v4o (i + 1) v4c)) ob 57 #[.pointer (some ⟨rb, 0, none⟩), .slice v4o (i + 1) v4c]) := hid' (HA4.out.set 1 _);have HR6 := hid' (hu1.keep HR4.out (fun e => HNS.out e));have HB6 := hid' (HB4.out.trans (hu1.below HOB.out));have HO6 := hid' (own_same HO4.out (fun j hj => hu1.block j (own_apart HO4.out HA4.out (by decide) j hj)));clear hu1;go_simp;refine hK.out _ _ ⟨HB6.out, HFW.out _ HR6.out⟩ (fun _ => ?_);clear hK K
       try simp only [Act.put]
       refine wpAnyH_done (by kernel_rfl) ?_ _;clear z1 f1 h9;generalize w4.setCell ⟨ob, 1, none⟩ (.slice v4o (i + 1) v4c) = w6x at *;go_wp2;go_roundw
       case rel =>
        refine ⟨i + 1, v4o, v4c, by go_num, by have := HLT.out; omega, HA6, HO6, hid' (fun j y hj hy => ?_), HB6⟩;by_cases hji : j < i
        ·exact HI.out j y hji hy
        ·obtain rfl : j = i := by omega
         rw [HX.out] at hy;injection hy with hy;subst hy;exact HBAD.out
       case measure => have := HLT.out; simp [intOf]; omega
      ·refine step_lit19 rfl (some 45) rfl 62 1 #[.int .u8 xh, .string xr] (by kernel_rfl) ?_;have hb1 := bl_alloc19 w6.drew (.cells #[.int .u8 xh, .string xr] 62);have HL3 : Hid (∀ j u, [Value.int .u8 xh, .string xr][j]? = some u → (w6.drew.alloc (.cells #[.int .u8 xh, .string xr] 62)).cell? ((⟨w6.drew.heap.size, 0, none⟩ : Addr).add j) = some u) := hid' (two_new w6.drew 62 (.int .u8 xh) (.string xr));obtain ⟨lb, hlb⟩ : ∃ lb, w6.drew.heap.size = lb := ⟨_, rfl⟩;obtain ⟨u1, hN1⟩ : ∃ u1, w6.drew.alloc (.cells #[.int .u8 xh, .string xr] 62) = u1 := ⟨_, rfl⟩;rw [hlb] at HL3;rw [hlb];rw [hN1] at HL3 hb1;rw [hN1];clear hlb hN1;have HAs1 := hid' (Ar.keep (show Ar w6.drew ob _ _ from HA6.out) hb1);have HOs1 := hid' (own_kp17 (show w6.drew.ownsRow w1.heap.size _ 2 _ i _ from HO6.out) hb1);have HRs1 := hid' (Ar.keep (show Ar w6.drew sb _ _ from HW6.out) hb1);have HBs1 := hid' (((HB6.out).drew).trans (hb1.mono ((HB6.out).drew).size));clear hb1;refine hK.out _ _ ⟨HBs1.out, HFW.out _ HRs1.out⟩ (fun hh1 => ?_);clear hK K
       try simp only [Act.put, List.setIfInBounds_toArray, List.set_cons_zero, List.set_cons_succ]
       refine wpAnyH_ready (rs := [4]) (by kernel_rfl) (by simp) ?_;refine AllReadyH.cons rfl (fun K hK => ?_) AllReadyH.nil;have c1 := (HAs1.out).cell 1 _ rfl;go_simp;refine hK.out _ _ hh1 (fun hh2 => ?_);clear hK K c1
       try simp only [Act.put, List.setIfInBounds_toArray, List.set_cons_zero, List.set_cons_succ]
       refine wpAnyH_ready (rs := [11]) (by kernel_rfl) (by simp) ?_;refine AllReadyH.cons rfl (fun K hK => ?_) AllReadyH.nil;refine step_app19 rfl (some 46) rfl _ _ 55 rfl w1.heap.size 62 i0 (.agg #[.int .u8 0, .string ⟨#[]⟩]) 2 24 Tryz.underlying55 HIF.out HZ0.out HZ1.out HZ2.out rfl (by decide) (.slice so i sc) i (tC20 (l.take i)) rfl (HOs1.out) ⟨lb, 0, none⟩ 1 1 [.int .u8 xh, .string xr] rfl rfl HL3.out (by simp [Value.oneCell']) (by have := HNB.out; have := HLT.out; unfold maxLen; omega) (by have := HNB.out; have := HLT.out; omega) (HBs1.out).size ?_;intro v4 w4 hrow hgrow;rw [← HTK.out] at hrow;obtain ⟨v4o, v4c, hv4⟩ := own_shape hrow;subst hv4;have HO4 := hid' hrow;have HA4 := hid' (ar_grown (HAs1.out) hgrow (fun j hj => own_apart (HOs1.out) (HAs1.out) (by decide) j hj));have HR4 := hid' (ar_grown (HRs1.out) hgrow (fun j hj => own_apart (HOs1.out) (HRs1.out) (by decide) j hj));have HB4 := hid' ((HBs1.out).grown hgrow (HBs1.out).size (fun j hj => (own_ty (HOs1.out) j hj).1));clear hrow hgrow;refine hK.out _ _ ⟨HB4.out, HFW.out _ HR4.out⟩ (fun h9 => ?_);clear hK K;refine take_d19 (i := 12) (d := some 47) (v := ?_) rfl rfl (by kernel_rfl) (by kernel_rfl) (by kernel_rfl) (fun _ _ _ h => h) (Or.inl ⟨by rfl, ?_⟩) (by assumption) ?_;rotate_left
       ·intro w hSw
        (try dsimp only at hSw)
        obtain ⟨_, z2, z3⟩ := hSw;go_simp
        try with_reducible rfl
       refine take_d19 (i := 13) (d := some 48) (v := ?_) rfl rfl (by kernel_rfl) (by kernel_rfl) (by kernel_rfl) (fun _ _ _ h => h) (Or.inl ⟨by rfl, ?_⟩) (by assumption) ?_;rotate_left
       ·intro w hSw
        (try dsimp only at hSw)
        obtain ⟨_, z2, z3⟩ := hSw;go_simp
        try with_reducible rfl
       try simp only [Act.put, List.setIfInBounds_toArray, List.set_cons_zero, List.set_cons_succ]
       refine wpAnyH_ready (rs := [14]) (by kernel_rfl) (by simp) ?_;refine AllReadyH.cons rfl (fun K hK => ?_) AllReadyH.nil;have z1 := HA4.out.cell 1 _ rfl;have f1 := HA4.out.free 1;have hu1 := upd_setCell w4 ob 1 (.slice v4o (i + 1) v4c);have HA6 : Hid (Ar (w4.setCell ⟨ob, 1, none⟩ (.slice v4o (i + 1) v4c)) ob 57 #[.pointer (some ⟨rb, 0, none⟩), .slice v4o (i + 1) v4c]) := hid' (HA4.out.set 1 _);have HR6 := hid' (hu1.keep HR4.out (fun e => HNS.out e));have HB6 := hid' (HB4.out.trans (hu1.below HOB.out));have HO6 := hid' (own_same HO4.out (fun j hj => hu1.block j (own_apart HO4.out HA4.out (by decide) j hj)));clear hu1;go_simp;refine hK.out _ _ ⟨HB6.out, HFW.out _ HR6.out⟩ (fun _ => ?_);clear hK K
       try simp only [Act.put]
       refine wpAnyH_done (by kernel_rfl) ?_ _;clear z1 f1 h9;generalize w4.setCell ⟨ob, 1, none⟩ (.slice v4o (i + 1) v4c) = w6x at *;go_wp2;go_roundw
       case rel =>
        refine ⟨i + 1, v4o, v4c, by go_num, by have := HLT.out; omega, HA6, HO6, hid' (fun j y hj hy => ?_), HB6⟩;by_cases hji : j < i
        ·exact HI.out j y hji hy
        ·obtain rfl : j = i := by omega
         rw [HX.out] at hy;injection hy with hy;subst hy;exact HBAD.out
       case measure => have := HLT.out; simp [intOf]; omega
   ·obtain rfl : i = n := by omega
    have hlt2 : ¬ (i : Int) < (i : Int) := by omega
    have HE : Hid (ck = 0) := hid' (by rw [HCK0.out, Ap.any_no (fun j x hx => HI.out j x (by rw [← HN.out]; exact (List.getElem?_eq_some_iff.1 hx).1) hx)]; rfl);have HAW : Hid (AW20 wr w.heap.size ob l) := hid' ⟨rb, so, i, sc, HA.out, Nat.le_trans HB1.out.size HOB.out, HN.out, own_base19 (by have := HO.out; rwa [List.take_of_length_le (by rw [HN.out]; exact Nat.le_refl _)] at this) HB1.out.size, HRT.out.below HB.out, HHA.out trivial⟩;clear hlt;go_wp2;go_ret2;exact ⟨.inl ⟨HE.out, ob, rfl, AP20.of HAW.out⟩, below_two HB1.out HB.out⟩


theorem ew_keep20 {w w' : World} {v : Value} {l : List Dk.En} (h : EW19 w v l) (hb : Below w.heap.size w w') : EW19 w' v l := by
 have h0 := h;rcases h with h | ⟨a, cap, hv, hcs⟩
 ·exact .inl h
 ·refine .inr ⟨a, cap, hv, fun i e he => ?_⟩;subst hv;obtain ⟨a2, h2, hc⟩ := h0.at hb i e he;obtain rfl : a = a2 := Option.some.inj h2;exact ⟨Nat.lt_of_lt_of_le (hcs i e he).1 hb.size, hc⟩
namespace Ap
theorem mid_small (a : Rp) : (mid a).fs.length ≤ a.fs.length + 1 ∧ (mid a).ts.length ≤ a.ts.length := by
 unfold mid;split
 ·exact ⟨Nat.le_succ _, Nat.zero_le _⟩
 ·split
  ·exact ⟨by simp, Nat.zero_le _⟩
  ·exact ⟨Nat.le_succ _, Nat.le_refl _⟩
theorem fin_small (h : Bool) (a : Rp) : (fin h a).fs.length ≤ a.fs.length + 1 ∧ (fin h a).ts.length ≤ a.ts.length := by
 have h1 := mid_small a;unfold fin;split
 ·exact ⟨h1.1, Nat.zero_le _⟩
 ·exact h1
theorem raw_ts (l : List (Rt.Ro × ByteArray)) (es : List Dk.En) (r : Rq) : (raw l es r).ts.length ≤ r.ts.length := by
 unfold raw;split
 ·exact Nat.zero_le _
 ·split
  ·unfold met;split
   ·exact Nat.zero_le _
   ·split
    ·exact Nat.zero_le _
    ·split
     ·exact Nat.zero_le _
     ·split
      ·unfold by'
       split
       ·exact Nat.zero_le _
       ·split
        ·exact Nat.le_refl _
        ·split
         ·exact Nat.zero_le _
         ·exact Nat.zero_le _
      ·exact Nat.zero_le _
  ·exact Nat.zero_le _
end Ap
theorem ans_small20 (l : List Fr18) (es : List Dk.En) (r : Ap.Rq) (hbr : BR20 l) (hq : BQ20 r) (hes : ∀ e ∈ es, EN19 e) : (Ap.ans l es r).fs.length ≤ 6 ∧ (Ap.ans l es r).ts.length ≤ 1048576 := by
 obtain ⟨_, h2⟩ := Ap.raw_fit l es r hes (fun x hx => (hbr.1 x hx).1) hq.p hq.b;have h3 := Ap.raw_ts l es r;have h4 := Ap.fin_small (r.m.data.toList == Fs.mHEAD) (Ap.raw l es r);have h5 := hq.tl;unfold Ap.ans;omega

end Go.Proofs.YthhpejgpfaikaabGreatDoor
