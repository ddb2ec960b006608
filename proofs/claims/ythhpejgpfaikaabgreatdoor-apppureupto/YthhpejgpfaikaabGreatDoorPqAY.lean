/-
  What the row stands on.
-/
import Derived.Deep.RegionHeld3
import Derived.Test.YthhpejgpfaikaabGreatDoorPqAU
import Derived.Test.YthhpejgpfaikaabGreatDoorPqAX
namespace Go.Proofs.YthhpejgpfaikaabGreatDoor
set_option maxHeartbeats 64000000
open Go.RowKit

section
variable {P : Program} {Q : Exit → Act → World → Prop}
theorem step_appN20 {w : World} {ops : Array Oper} {o : Oper} {a : Act} {K : Act → World → Prop} {E : Prop} (hgd : o.guard = none) (d : Option Tmp) (hd : o.dst = d) (s x : Operand) (t : TypeId)
  (ho : o.op = .call { callee := .builtin .append, args := #[s, x], argTypes := #[t, t] })
  (base : Nat) (e : TypeId) (i : TypeInfo) (size : Nat) (ht : P.underlying t = some (.slice e)) (hi : P.info? e = some i)
  (v : Value) (n : Nat) (xs : List Value) (hs : a.eval s = v) (hown : w.ownsRow base e size v n xs) (hx : a.eval x = .slice none 0 0)
  (h : K (a.put d v) w) :
  if Region.wanted o (yielded ops a.tmps) = true then Oper.wp P o a w K Q else E := by
 subst hd;have hw : Region.wanted o (yielded ops a.tmps) = true := by simp [Region.wanted, hgd]
 rw [if_pos hw];have hrun := run_append_owned_none (P := P) (w := w) base t o.type e i size ht hi v n xs hown;unfold Oper.wp execOp;simp only [ho, resolve, invoke, builtin, Sem.run_bind, Sem.run_pure, Result.andThen_ok, List.map_toArray, List.map_cons, List.map_nil, hs, hx, hrun];exact h
end

set_option maxRecDepth 20000 in
theorem cfile20 (B sb : Nat) (KD : Nat → Prop) (q : Int) (es : List Dk.En) (r : Ap.Rq) (fv tv : Value) (cl root : ByteArray) (po : Option Addr) (pm pc B0 : Nat) (ps : List (List UInt8 × List UInt8)) (w : World) (hc : CS w B sb KD q es) (hf : FW w fv r.fs) (hl : r.fs.length ≤ 1048576) (hz : Tg.vsz r.fs ≤ 1048576) (hr : root.size ≤ 1048576) (ht : cl.size ≤ 1048576) (hes : ∀ e ∈ es, EN19 e) (hm : ps.length = pm) (h : w.ownsRow B0 165 2 (.slice po pm pc) pm (qC18 ps)) (hps : ∀ c ∈ ps, c.2.length ≤ 1048576) (hT : TB19 w) :
  Calls Tryz.prog 59 #[.agg (cC20 (.pointer (some ⟨sb, 0, none⟩)) r fv tv cl root (.slice po pm pc))] w fun e w' => RP20 w w' e (Ap.of (Fs.ans es root.data.toList r.m.data.toList cl.data.toList ((ps.getLast?.map (·.2)).getD []) r.fs)) := by
 obtain ⟨rest, hrest⟩ : ∃ rest : ByteArray, ⟨((ps.getLast?.map (·.2)).getD []).toArray⟩ = rest := ⟨_, rfl⟩;have hrl : (ps.getLast?.map (·.2)).getD [] = rest.data.toList := by rw [← hrest]
 have hrs : rest.size ≤ 1048576 := by
  rw [Lib.size_eq, ← hrl];cases hg : ps.getLast? with
  | none => exact Nat.zero_le _
  | some c => exact hps c (List.mem_of_getLast? hg)
 have HR := hid' (fun W (hW : W.ownsRow B0 165 2 (.slice po pm pc) pm (qC18 ps)) => crest20 (.pointer (some ⟨sb, 0, none⟩)) r fv tv cl root po pm pc B0 ps W hm hW);rw [hrest] at HR;have HA := hid' (fun W (hcs : CS W B sb KD q es) (hW : FW W fv r.fs) (hh : TB19 W) => cans19 B sb KD q es root r.m cl rest fv r.fs W hcs hW hl hz hr ht hrs hes hh);rw [hrl];have HC := hid' hc;have HF := hid' hf;have HT := hid' hT;have HO := hid' h;obtain ⟨m, sc, au, p, fs, b, ts⟩ := r;simp only at HA HF ⊢;unfold cC20 at HR ⊢;simp only at HR ⊢;generalize Fs.ans es root.data.toList m.data.toList cl.data.toList rest.data.toList fs = A at *;clear hc hf hl hz hr ht hes hm h hps hT hrest hrl hrs;go_enter Tryz.func59, Tryz.ntmps59;go_wp2_with (refine wpl_box 108 _ rfl rfl #[.pointer (some ⟨sb, 0, none⟩), .string m, .string sc, .string au, .string p, fv, .string b, tv, .string cl, .string root, .slice po pm pc] (by kernel_rfl) ?_);intro xb w1 hg1 ha1 hb1;have HX1 := hid' ha1;have HB1 := hid' hb1;clear hg1 ha1 hb1;go_wp2_with (refine wpl_alloc 38 rfl rfl _ zeroRp19 ?_);intro rb w2 hrb ha2 hl2;have HA2 := hid' ha2;have HB2 := hid' hl2;have HRB := hid' hrb;have HRL := hid' ha2.lt;clear hrb ha2 hl2;go_upto_region 1 with fail;refine wp_region_held_drew (S := fun W => Below w1.heap.size w1 W) (by kernel_rfl) (HB2.out.drew) (fun hHeld => ?_);refine take_d19 (i := 0) (d := some 3) (v := ?_) rfl rfl (by kernel_rfl) (by kernel_rfl) (by kernel_rfl) (fun _ _ _ h => h) (Or.inl ⟨by rfl, ?_⟩) (by assumption) ?_;rotate_left
 ·intro w hSw;go_simp
  try with_reducible rfl
 refine take_d19 (i := 1) (d := some 4) (v := ?_) rfl rfl (by kernel_rfl) (by kernel_rfl) (by kernel_rfl) (fun _ _ _ h => h) (Or.inl ⟨by rfl, ?_⟩) (by assumption) ?_;rotate_left
 ·intro w hSw
  (try dsimp only at hSw)
  have c0 := (HX1.out.keep hSw).cell 0 _ rfl;go_simp
  try with_reducible rfl
 refine take_d19 (i := 2) (d := some 5) (v := ?_) rfl rfl (by kernel_rfl) (by kernel_rfl) (by kernel_rfl) (fun _ _ _ h => h) (Or.inl ⟨by rfl, ?_⟩) (by assumption) ?_;rotate_left
 ·intro w hSw;go_simp
  try with_reducible rfl
 refine take_d19 (i := 3) (d := some 6) (v := ?_) rfl rfl (by kernel_rfl) (by kernel_rfl) (by kernel_rfl) (fun _ _ _ h => h) (Or.inl ⟨by rfl, ?_⟩) (by assumption) ?_;rotate_left
 ·intro w hSw
  (try dsimp only at hSw)
  have c9 := (HX1.out.keep hSw).cell 9 _ rfl;go_simp
  try with_reducible rfl
 refine take_d19 (i := 4) (d := some 7) (v := ?_) rfl rfl (by kernel_rfl) (by kernel_rfl) (by kernel_rfl) (fun _ _ _ h => h) (Or.inl ⟨by rfl, ?_⟩) (by assumption) ?_;rotate_left
 ·intro w hSw;go_simp
  try with_reducible rfl
 refine take_d19 (i := 5) (d := some 8) (v := ?_) rfl rfl (by kernel_rfl) (by kernel_rfl) (by kernel_rfl) (fun _ _ _ h => h) (Or.inl ⟨by rfl, ?_⟩) (by assumption) ?_;rotate_left
 ·intro w hSw;go_simp
  try with_reducible rfl
 refine take_d19 (i := 6) (d := some 9) (v := ?_) rfl rfl (by kernel_rfl) (by kernel_rfl) (by kernel_rfl) (fun _ _ _ h => h) (Or.inl ⟨by rfl, ?_⟩) (by assumption) ?_;rotate_left
 ·intro w hSw
  (try dsimp only at hSw)
  have c1 := (HX1.out.keep hSw).cell 1 _ rfl;go_simp
  try with_reducible rfl
 refine take_d19 (i := 7) (d := some 10) (v := ?_) rfl rfl (by kernel_rfl) (by kernel_rfl) (by kernel_rfl) (fun _ _ _ h => h) (Or.inl ⟨by rfl, ?_⟩) (by assumption) ?_;rotate_left
 ·intro w hSw;go_simp
  try with_reducible rfl
 refine take_d19 (i := 8) (d := some 11) (v := ?_) rfl rfl (by kernel_rfl) (by kernel_rfl) (by kernel_rfl) (fun _ _ _ h => h) (Or.inl ⟨by rfl, ?_⟩) (by assumption) ?_;rotate_left
 ·intro w hSw
  (try dsimp only at hSw)
  have c8 := (HX1.out.keep hSw).cell 8 _ rfl;go_simp
  try with_reducible rfl
 refine take_d19 (i := 9) (d := some 12) (v := ?_) rfl rfl (by kernel_rfl) (by kernel_rfl) (by kernel_rfl) (fun _ _ _ h => h) (Or.inl ⟨by rfl, ?_⟩) (by assumption) ?_;rotate_left
 ·intro w hSw
  (try dsimp only at hSw)
  have ha := HX1.out.keep hSw;have c0 := ha.cell 0 _ rfl;have c1 := ha.cell 1 _ rfl;have c2 := ha.cell 2 _ rfl;have c3 := ha.cell 3 _ rfl;have c4 := ha.cell 4 _ rfl;have c5 := ha.cell 5 _ rfl;have c6 := ha.cell 6 _ rfl;have c7 := ha.cell 7 _ rfl;have c8 := ha.cell 8 _ rfl;have c9 := ha.cell 9 _ rfl;have c10 := ha.cell 10 _ rfl;go_simp
  try with_reducible rfl
 refine take_d19 (i := 11) (d := some 14) (v := ?_) rfl rfl (by kernel_rfl) (by kernel_rfl) (by kernel_rfl) (fun _ _ _ h => h) (Or.inl ⟨by rfl, ?_⟩) (by assumption) ?_;rotate_left
 ·intro w hSw;go_simp
  try with_reducible rfl
 refine take_d19 (i := 12) (d := some 15) (v := ?_) rfl rfl (by kernel_rfl) (by kernel_rfl) (by kernel_rfl) (fun _ _ _ h => h) (Or.inl ⟨by rfl, ?_⟩) (by assumption) ?_;rotate_left
 ·intro w hSw;go_simp
  try with_reducible rfl
 refine take_d19 (i := 13) (d := some 16) (v := ?_) rfl rfl (by kernel_rfl) (by kernel_rfl) (by kernel_rfl) (fun _ _ _ h => h) (Or.inl ⟨by rfl, ?_⟩) (by assumption) ?_;rotate_left
 ·intro w hSw
  (try dsimp only at hSw)
  have c5 := (HX1.out.keep hSw).cell 5 _ rfl;go_simp
  try with_reducible rfl
 try simp only [Act.put, List.setIfInBounds_toArray, List.set_cons_zero, List.set_cons_succ]
 refine wpAnyH_ready (rs := [10]) (by kernel_rfl) (by simp) ?_;refine AllReadyH.cons rfl (fun K hK => ?_) AllReadyH.nil;go_simp;refine (HR.out _ (own_kp17 (own_kp17 HO.out HB1.out) hHeld)).mono ?_;rintro e wA ⟨rfl, hbA⟩;have HAA := hid' (Ar.keep (show Ar w2.drew rb _ _ from HA2.out) hbA);go_wp2_with fail;refine hK.out _ _ (below_two hHeld hbA) (fun hHeld2 => ?_);clear hK K
 try simp only [Act.put, List.setIfInBounds_toArray, List.set_cons_zero, List.set_cons_succ]
 refine wpAnyH_ready (rs := [14]) (by kernel_rfl) (by simp) ?_;refine AllReadyH.cons rfl (fun K hK => ?_) AllReadyH.nil;go_simp;refine (HA.out _ ((HC.out.keep HB1.out).keep hHeld2) ((HF.out.keep HB1.out).keep hHeld2) (tb_below19 (tb_below19 HT.out HB1.out) hHeld2)).mono ?_;rintro e wC ⟨⟨vo, n, vc, rfl, hn, ho⟩, hbC⟩;have HN := hid' hn;have HOC := hid' ho;have HAC := hid' (HAA.out.keep hbC);have HLA : Hid (rb < wA.heap.size) := hid' HAA.out.lt;have HWA := hid' (below_two HB1.out hHeld2);have HBC := hid' hbC;clear hn ho;go_wp2_with fail;refine hK.out _ _ (below_two hHeld2 hbC) (fun hHeld3 => ?_);clear hK K
 try simp only [Act.put, List.setIfInBounds_toArray, List.set_cons_zero, List.set_cons_succ]
 unfold rpC;obtain ⟨bd, hbd⟩ : ∃ bd : ByteArray, (⟨A.b.toArray⟩ : ByteArray) = bd := ⟨_, rfl⟩;obtain ⟨sd, hsd⟩ : ∃ sd : Int, A.s = sd := ⟨_, rfl⟩;rw [hbd, hsd];refine wpAnyH_ready (rs := [15]) (by kernel_rfl) (by simp) ?_;refine AllReadyH.cons rfl (fun K hK => ?_) AllReadyH.nil;refine step_store19 rfl 38 _ _ rfl rb #[.int .i64 sd, .slice vo n vc, .string bd, .slice none 0 0] rfl rfl 38 _ (HAC.out) sizeRp19 rfl (by simp [Value.oneCell']) ?_;intro wf hawf huwf;refine hK.out _ _ (hHeld3.trans (huwf.below HRB.out)) (fun _ => ?_);clear hK K
 try simp only [Act.put]
 refine wpAnyH_done (by kernel_rfl) ?_ _;have HWF := hid' hawf;have HUF := hid' huwf;have HBD := hid' hbd;have HSD := hid' hsd;clear hawf huwf hbA hbC hHeld hHeld2 hHeld3 hbd hsd;go_wp2_with fail;have hld := ldRp19 HWF.out;exact bodyPost_ret (v := .agg #[.int .i64 sd, .slice vo n vc, .string bd, .slice none 0 0]) (by simp [results, Tryz.results59, asAddr, hld]) rfl (rp_done20 (Ap.of A) HSD.out HBD.out HWA.out HLA.out (Nat.le_trans HB1.out.size HRB.out) HBC.out HN.out HOC.out rfl (World.ownsRow_nil _ _ _ _) HUF.out)

set_option maxRecDepth 20000 in
theorem cechoS20 (sp : Value) (r : Ap.Rq) (fv : Value) (ua : Addr) (un uc : Nat) (cl root : ByteArray) (pv : Value) (w : World) (hf : FW w fv r.fs) (ht : FW w (.slice (some ua) un uc) r.ts) (hfl : r.fs.length ≤ 1048576) (hl : r.ts.length ≤ 1048576) (hun : r.ts.length = un) :
  Calls Tryz.prog 60 #[.agg (cC20 sp r fv (.slice (some ua) un uc) cl root pv)] w fun e w' => RP20 w w' e (Ap.echo r) := by
 have HK := hid' (fun W (hW : FW W fv r.fs) => ckind20 sp r fv (.slice (some ua) un uc) cl root pv W hW hfl);obtain ⟨kd, hkd⟩ : ∃ kd, Ap.kindOf r.fs = kd := ⟨_, rfl⟩;rw [hkd] at HK;unfold Ap.echo;rw [hkd];have HF := hid' hf;have HTV := hid' ht;have HL := hid' hl;have HUN := hid' hun;have HUB : Hid (un ≤ 1048576) := hid' (by rw [← hun]; exact hl);obtain ⟨m, sc, au, p, fs, b, ts⟩ := r;simp only at HF HTV HL HUN ⊢;unfold cC20 at HK ⊢;simp only at HK ⊢;clear hf ht hfl hl hun hkd;obtain ⟨i0, hi0, hz0, hz1, hz2⟩ := minfo_parts infoF14;have HI := hid' hi0;have HZ0 := hid' hz0;have HZ1 := hid' hz1;have HZ2 := hid' hz2;clear hi0 hz0 hz1 hz2;go_enter Tryz.func60, Tryz.ntmps60;go_wp2_with (refine wpl_box 108 _ rfl rfl #[sp, .string m, .string sc, .string au, .string p, fv, .string b, .slice (some ua) un uc, .string cl, .string root, pv] (by kernel_rfl) ?_);intro xb w1 hg1 ha1 hb1;have HX1 := hid' ha1;have HB1 := hid' hb1;clear hg1 ha1 hb1;go_wp2_with (refine wpl_alloc 38 rfl rfl _ zeroRp19 ?_);intro rb w2 hrb ha2 hl2;have HA2 := hid' ha2;have HB2 := hid' hl2;have HRB := hid' hrb;have HRL := hid' ha2.lt;have HSZ := hid' (below_two HB1.out hl2).size;clear hrb ha2 hl2;have HTC : Hid (∀ W, Below w1.heap.size w1 W → ∀ j u, (fC ts)[j]? = some u → W.cell? (ua.add j) = some u) := hid' (fun W hb j u hj => by
  rcases (HTV.out.keep HB1.out).keep hb with ⟨hv, _⟩ | ⟨a, cap, hv, _, hcs⟩
  ·cases hv
  ·injection hv with hv _ _;injection hv with hv;subst hv;exact (hcs j u hj).2)
 go_upto_region 1 with fail;refine wp_region_held_drew (S := fun W => Below w1.heap.size w1 W) (by kernel_rfl) (HB2.out.drew) (fun hHeld => ?_);refine take_d19 (i := 0) (d := some 3) (v := ?_) rfl rfl (by kernel_rfl) (by kernel_rfl) (by kernel_rfl) (fun _ _ _ h => h) (Or.inl ⟨by rfl, ?_⟩) (by assumption) ?_;rotate_left
 ·intro w hSw
  (try dsimp only at hSw)
  have ha := HX1.out.keep hSw;have c0 := ha.cell 0 _ rfl;have c1 := ha.cell 1 _ rfl;have c2 := ha.cell 2 _ rfl;have c3 := ha.cell 3 _ rfl;have c4 := ha.cell 4 _ rfl;have c5 := ha.cell 5 _ rfl;have c6 := ha.cell 6 _ rfl;have c7 := ha.cell 7 _ rfl;have c8 := ha.cell 8 _ rfl;have c9 := ha.cell 9 _ rfl;have c10 := ha.cell 10 _ rfl;go_simp
  try with_reducible rfl
 refine take_d19 (i := 3) (d := some 6) (v := ?_) rfl rfl (by kernel_rfl) (by kernel_rfl) (by kernel_rfl) (fun _ _ _ h => h) (Or.inl ⟨by rfl, ?_⟩) (by assumption) ?_;rotate_left
 ·intro w hSw;go_simp
  try with_reducible rfl
 refine take_d19 (i := 4) (d := some 7) (v := ?_) rfl rfl (by kernel_rfl) (by kernel_rfl) (by kernel_rfl) (fun _ _ _ h => h) (Or.inl ⟨by rfl, ?_⟩) (by assumption) ?_;rotate_left
 ·intro w hSw;go_simp
  try with_reducible rfl
 refine take_d19 (i := 5) (d := some 8) (v := ?_) rfl rfl (by kernel_rfl) (by kernel_rfl) (by kernel_rfl) (fun _ _ _ h => h) (Or.inl ⟨by rfl, ?_⟩) (by assumption) ?_;rotate_left
 ·intro w hSw
  (try dsimp only at hSw)
  have c6 := (HX1.out.keep hSw).cell 6 _ rfl;go_simp
  try with_reducible rfl
 refine take_d19 (i := 6) (d := some 9) (v := ?_) rfl rfl (by kernel_rfl) (by kernel_rfl) (by kernel_rfl) (fun _ _ _ h => h) (Or.inl ⟨by rfl, ?_⟩) (by assumption) ?_;rotate_left
 ·intro w hSw;go_simp
  try with_reducible rfl
 refine take_d19 (i := 7) (d := some 10) (v := ?_) rfl rfl (by kernel_rfl) (by kernel_rfl) (by kernel_rfl) (fun _ _ _ h => h) (Or.inl ⟨by rfl, ?_⟩) (by assumption) ?_;rotate_left
 ·intro w hSw;go_simp
  try with_reducible rfl
 refine take_d19 (i := 8) (d := some 11) (v := ?_) rfl rfl (by kernel_rfl) (by kernel_rfl) (by kernel_rfl) (fun _ _ _ h => h) (Or.inl ⟨by rfl, ?_⟩) (by assumption) ?_;rotate_left
 ·intro w hSw
  (try dsimp only at hSw)
  have c7 := (HX1.out.keep hSw).cell 7 _ rfl;go_simp
  try with_reducible rfl
 try simp only [Act.put, List.setIfInBounds_toArray, List.set_cons_zero, List.set_cons_succ]
 refine wpAnyH_ready (rs := [1]) (by kernel_rfl) (by simp) ?_;refine AllReadyH.cons rfl (fun K hK => ?_) AllReadyH.nil;go_simp;refine (HK.out _ ((HF.out.keep HB1.out).keep hHeld)).mono ?_;rintro e W1 ⟨rfl, hb1⟩;have HA1 := hid' (Ar.keep (show Ar w2.drew rb _ _ from HA2.out) hb1);have HBB1 := hid' (below_two (show Below w2.heap.size w2 w2.drew from (Below.refl _ _).drew) hb1);go_wp2_with fail;refine hK.out _ _ (below_two hHeld hb1) (fun hh1 => ?_);clear hK K
 try simp only [Act.put, List.setIfInBounds_toArray, List.set_cons_zero, List.set_cons_succ]
 refine wpAnyH_ready (rs := [2]) (by kernel_rfl) (by simp) ?_;refine AllReadyH.cons rfl (fun K hK => ?_) AllReadyH.nil;go_simp;refine (cct20 kd _).mono ?_;rintro e W2 ⟨⟨ro, rfl, ho⟩, hb2⟩;have HA2 := hid' (Ar.keep HA1.out hb2);have HBB2 := hid' (below_two HBB1.out hb2);have HOC2 := hid' (own_base19 ho HBB1.out.size);clear ho;go_wp2_with fail;refine hK.out _ _ (below_two hh1 hb2) (fun hh2 => ?_);clear hK K
 try simp only [Act.put, List.setIfInBounds_toArray, List.set_cons_zero, List.set_cons_succ]
 refine wpAnyH_ready (rs := [9]) (by kernel_rfl) (by simp) ?_;refine AllReadyH.cons rfl (fun K hK => ?_) AllReadyH.nil;refine step_app19 rfl (some 12) rfl _ _ 23 rfl W2.heap.size 44 i0 (.agg #[.string ⟨#[]⟩, .string ⟨#[]⟩]) 2 32 Tryz.underlying23 HI.out HZ0.out HZ1.out HZ2.out rfl (by decide) (.slice none 0 0) 0 [] rfl (World.ownsRow_nil _ _ _ _) ua un uc (fC ts) rfl (by rw [fC_length, HUN.out]) (HTC.out _ hh2) (fC_one19 ts) (by have := HUB.out; unfold maxLen; omega) (by have := HUB.out; omega) (Nat.le_refl _) ?_;intro v3 W3 hrow hgrow;have hb3 : Below W2.heap.size W2 W3 := below_grown19 (Below.refl _ _) (Nat.le_refl _) (World.ownsRow_nil _ _ _ _) hgrow;rw [List.nil_append, Nat.zero_add] at hrow;obtain ⟨to', tc, hv3⟩ := own_shape hrow;subst hv3;have HA3 := hid' (Ar.keep HA2.out hb3);have HBB3 := hid' (below_two HBB2.out hb3);have HOC3 := hid' (own_kp17 HOC2.out hb3);have HOA3 := hid' (own_base19 hrow HBB2.out.size);clear hrow hgrow;refine hK.out _ _ (below_two hh2 hb3) (fun hh3 => ?_);clear hK K;refine take_d19 (i := 10) (d := some 13) (v := ?_) rfl rfl (by kernel_rfl) (by kernel_rfl) (by kernel_rfl) (fun _ _ _ h => h) (Or.inl ⟨by rfl, ?_⟩) (by assumption) ?_;rotate_left
 ·intro w hSw;go_simp
  try with_reducible rfl
 try simp only [Act.put, List.setIfInBounds_toArray, List.set_cons_zero, List.set_cons_succ]
 refine wpAnyH_ready (rs := [11]) (by kernel_rfl) (by simp) ?_;refine AllReadyH.cons rfl (fun K hK => ?_) AllReadyH.nil;refine step_store19 rfl 38 _ _ rfl rb #[.int .i64 200, .slice ro 1 1, .string b, .slice to' un tc] rfl rfl 38 _ (HA3.out) sizeRp19 rfl (by simp [Value.oneCell']) ?_;intro wf hawf huwf;refine hK.out _ _ (hh3.trans (huwf.below HRB.out)) (fun _ => ?_);clear hK K
 try simp only [Act.put]
 refine wpAnyH_done (by kernel_rfl) ?_ _;have HWF := hid' hawf;have HUF := hid' huwf;go_wp2_with fail;have hld := ldRp19 HWF.out;exact bodyPost_ret (v := .agg #[.int .i64 200, .slice ro 1 1, .string b, .slice to' un tc]) (by simp [results, Tryz.results60, asAddr, hld]) rfl (rp_done20 ⟨200, [⟨Fs.str Fs.nCT, kd⟩], b.data.toList, ts⟩ rfl rfl (below_two HB1.out HB2.out) HRL.out (Nat.le_trans HB1.out.size HRB.out) HBB3.out rfl HOC3.out HUN.out HOA3.out HUF.out)

set_option maxRecDepth 20000 in
theorem cechoN20 (sp : Value) (r : Ap.Rq) (fv : Value) (cl root : ByteArray) (pv : Value) (w : World) (hf : FW w fv r.fs) (ht : FW w (.slice none 0 0) r.ts) (hfl : r.fs.length ≤ 1048576) (hl : r.ts.length ≤ 1048576) :
  Calls Tryz.prog 60 #[.agg (cC20 sp r fv (.slice none 0 0) cl root pv)] w fun e w' => RP20 w w' e (Ap.echo r) := by
 have HK := hid' (fun W (hW : FW W fv r.fs) => ckind20 sp r fv (.slice none 0 0) cl root pv W hW hfl);obtain ⟨kd, hkd⟩ : ∃ kd, Ap.kindOf r.fs = kd := ⟨_, rfl⟩;rw [hkd] at HK;unfold Ap.echo;rw [hkd];have HF := hid' hf;have HTV := hid' ht;have HL := hid' hl

 have HU0 : Hid (r.ts = []) := hid' (by obtain ⟨_, _, h⟩ := ht.shape; injection h with _ h _; exact List.eq_nil_of_length_eq_zero h.symm);obtain ⟨m, sc, au, p, fs, b, ts⟩ := r;simp only at HF HTV HL HU0 ⊢;unfold cC20 at HK ⊢;simp only at HK ⊢;clear hf ht hfl hl hkd;obtain ⟨i0, hi0, hz0, hz1, hz2⟩ := minfo_parts infoF14;have HI := hid' hi0;have HZ0 := hid' hz0;have HZ1 := hid' hz1;have HZ2 := hid' hz2;clear hi0 hz0 hz1 hz2;go_enter Tryz.func60, Tryz.ntmps60;go_wp2_with (refine wpl_box 108 _ rfl rfl #[sp, .string m, .string sc, .string au, .string p, fv, .string b, .slice none 0 0, .string cl, .string root, pv] (by kernel_rfl) ?_);intro xb w1 hg1 ha1 hb1;have HX1 := hid' ha1;have HB1 := hid' hb1;clear hg1 ha1 hb1;go_wp2_with (refine wpl_alloc 38 rfl rfl _ zeroRp19 ?_);intro rb w2 hrb ha2 hl2;have HA2 := hid' ha2;have HB2 := hid' hl2;have HRB := hid' hrb;have HRL := hid' ha2.lt;have HSZ := hid' (below_two HB1.out hl2).size;clear hrb ha2 hl2;obtain rfl : ts = [] := HU0.out;go_upto_region 1 with fail;refine wp_region_held_drew (S := fun W => Below w1.heap.size w1 W) (by kernel_rfl) (HB2.out.drew) (fun hHeld => ?_);refine take_d19 (i := 0) (d := some 3) (v := ?_) rfl rfl (by kernel_rfl) (by kernel_rfl) (by kernel_rfl) (fun _ _ _ h => h) (Or.inl ⟨by rfl, ?_⟩) (by assumption) ?_;rotate_left
 ·intro w hSw
  (try dsimp only at hSw)
  have ha := HX1.out.keep hSw;have c0 := ha.cell 0 _ rfl;have c1 := ha.cell 1 _ rfl;have c2 := ha.cell 2 _ rfl;have c3 := ha.cell 3 _ rfl;have c4 := ha.cell 4 _ rfl;have c5 := ha.cell 5 _ rfl;have c6 := ha.cell 6 _ rfl;have c7 := ha.cell 7 _ rfl;have c8 := ha.cell 8 _ rfl;have c9 := ha.cell 9 _ rfl;have c10 := ha.cell 10 _ rfl;go_simp
  try with_reducible rfl
 refine take_d19 (i := 3) (d := some 6) (v := ?_) rfl rfl (by kernel_rfl) (by kernel_rfl) (by kernel_rfl) (fun _ _ _ h => h) (Or.inl ⟨by rfl, ?_⟩) (by assumption) ?_;rotate_left
 ·intro w hSw;go_simp
  try with_reducible rfl
 refine take_d19 (i := 4) (d := some 7) (v := ?_) rfl rfl (by kernel_rfl) (by kernel_rfl) (by kernel_rfl) (fun _ _ _ h => h) (Or.inl ⟨by rfl, ?_⟩) (by assumption) ?_;rotate_left
 ·intro w hSw;go_simp
  try with_reducible rfl
 refine take_d19 (i := 5) (d := some 8) (v := ?_) rfl rfl (by kernel_rfl) (by kernel_rfl) (by kernel_rfl) (fun _ _ _ h => h) (Or.inl ⟨by rfl, ?_⟩) (by assumption) ?_;rotate_left
 ·intro w hSw
  (try dsimp only at hSw)
  have c6 := (HX1.out.keep hSw).cell 6 _ rfl;go_simp
  try with_reducible rfl
 refine take_d19 (i := 6) (d := some 9) (v := ?_) rfl rfl (by kernel_rfl) (by kernel_rfl) (by kernel_rfl) (fun _ _ _ h => h) (Or.inl ⟨by rfl, ?_⟩) (by assumption) ?_;rotate_left
 ·intro w hSw;go_simp
  try with_reducible rfl
 refine take_d19 (i := 7) (d := some 10) (v := ?_) rfl rfl (by kernel_rfl) (by kernel_rfl) (by kernel_rfl) (fun _ _ _ h => h) (Or.inl ⟨by rfl, ?_⟩) (by assumption) ?_;rotate_left
 ·intro w hSw;go_simp
  try with_reducible rfl
 refine take_d19 (i := 8) (d := some 11) (v := ?_) rfl rfl (by kernel_rfl) (by kernel_rfl) (by kernel_rfl) (fun _ _ _ h => h) (Or.inl ⟨by rfl, ?_⟩) (by assumption) ?_;rotate_left
 ·intro w hSw
  (try dsimp only at hSw)
  have c7 := (HX1.out.keep hSw).cell 7 _ rfl;go_simp
  try with_reducible rfl
 try simp only [Act.put, List.setIfInBounds_toArray, List.set_cons_zero, List.set_cons_succ]
 refine wpAnyH_ready (rs := [1]) (by kernel_rfl) (by simp) ?_;refine AllReadyH.cons rfl (fun K hK => ?_) AllReadyH.nil;go_simp;refine (HK.out _ ((HF.out.keep HB1.out).keep hHeld)).mono ?_;rintro e W1 ⟨rfl, hb1⟩;have HA1 := hid' (Ar.keep (show Ar w2.drew rb _ _ from HA2.out) hb1);have HBB1 := hid' (below_two (show Below w2.heap.size w2 w2.drew from (Below.refl _ _).drew) hb1);go_wp2_with fail;refine hK.out _ _ (below_two hHeld hb1) (fun hh1 => ?_);clear hK K
 try simp only [Act.put, List.setIfInBounds_toArray, List.set_cons_zero, List.set_cons_succ]
 refine wpAnyH_ready (rs := [2]) (by kernel_rfl) (by simp) ?_;refine AllReadyH.cons rfl (fun K hK => ?_) AllReadyH.nil;go_simp;refine (cct20 kd _).mono ?_;rintro e W2 ⟨⟨ro, rfl, ho⟩, hb2⟩;have HA2 := hid' (Ar.keep HA1.out hb2);have HBB2 := hid' (below_two HBB1.out hb2);have HOC2 := hid' (own_base19 ho HBB1.out.size);clear ho;go_wp2_with fail;refine hK.out _ _ (below_two hh1 hb2) (fun hh2 => ?_);clear hK K
 try simp only [Act.put, List.setIfInBounds_toArray, List.set_cons_zero, List.set_cons_succ]
 refine wpAnyH_ready (rs := [9]) (by kernel_rfl) (by simp) ?_;refine AllReadyH.cons rfl (fun K hK => ?_) AllReadyH.nil;refine step_appN20 rfl (some 12) rfl _ _ 23 rfl W2.heap.size 44 i0 2 Tryz.underlying23 HI.out (.slice none 0 0) 0 [] rfl (World.ownsRow_nil _ _ _ _) rfl ?_;refine hK.out _ _ hh2 (fun hh3 => ?_);clear hK K;refine take_d19 (i := 10) (d := some 13) (v := ?_) rfl rfl (by kernel_rfl) (by kernel_rfl) (by kernel_rfl) (fun _ _ _ h => h) (Or.inl ⟨by rfl, ?_⟩) (by assumption) ?_;rotate_left
 ·intro w hSw;go_simp
  try with_reducible rfl
 try simp only [Act.put, List.setIfInBounds_toArray, List.set_cons_zero, List.set_cons_succ]
 refine wpAnyH_ready (rs := [11]) (by kernel_rfl) (by simp) ?_;refine AllReadyH.cons rfl (fun K hK => ?_) AllReadyH.nil;refine step_store19 rfl 38 _ _ rfl rb #[.int .i64 200, .slice ro 1 1, .string b, .slice none 0 0] rfl rfl 38 _ (HA2.out) sizeRp19 rfl (by simp [Value.oneCell']) ?_;intro wf hawf huwf;refine hK.out _ _ (hh3.trans (huwf.below HRB.out)) (fun _ => ?_);clear hK K
 try simp only [Act.put]
 refine wpAnyH_done (by kernel_rfl) ?_ _;have HWF := hid' hawf;have HUF := hid' huwf;go_wp2_with fail;have hld := ldRp19 HWF.out;exact bodyPost_ret (v := .agg #[.int .i64 200, .slice ro 1 1, .string b, .slice none 0 0]) (by simp [results, Tryz.results60, asAddr, hld]) rfl (rp_done20 ⟨200, [⟨Fs.str Fs.nCT, kd⟩], b.data.toList, []⟩ rfl rfl (below_two HB1.out HB2.out) HRL.out (Nat.le_trans HB1.out.size HRB.out) HBB2.out rfl HOC2.out rfl (World.ownsRow_nil _ _ _ _) HUF.out)

theorem cecho20 (sp : Value) (r : Ap.Rq) (fv tv : Value) (cl root : ByteArray) (pv : Value) (w : World) (hf : FW w fv r.fs) (ht : FW w tv r.ts) (hfl : r.fs.length ≤ 1048576) (hl : r.ts.length ≤ 1048576) :
  Calls Tryz.prog 60 #[.agg (cC20 sp r fv tv cl root pv)] w fun e w' => RP20 w w' e (Ap.echo r) := by
 rcases ht with ⟨rfl, h⟩ | ⟨a, cap, rfl, h⟩
 ·exact cechoN20 sp r fv cl root pv w hf (.inl ⟨rfl, h⟩) hfl hl
 ·exact cechoS20 sp r fv a _ cap cl root pv w hf (.inr ⟨a, cap, rfl, h⟩) hfl hl rfl


theorem own_uf20 {w w' : World} {B b n : Nat} {e : TypeId} {s : Nat} {v : Value} {xs : List Value} {p q : Value} (h : w.ownsRow B e s v n xs) (hu : UF b w w') (hb : Ar w b 123 #[p, q]) (h1 : e ≠ 123) (h2 : e ≠ 5) : w'.ownsRow B e s v n xs :=
 own_same h (fun k hk => by
  obtain ⟨_, cs, hc⟩ := own_ty h k hk;refine hu.block k (own_lt h k hk) (fun ek => ?_) (fun ds fz hd => ?_)
  ·subst ek;unfold Ar at hb;rw [hb] at hc;injection hc with hc;injection hc with _ hc _;exact h1 hc.symm
  ·rw [hc] at hd;injection hd with hd;injection hd with _ hd _;exact h2 hd)
theorem str4_20 (x y : ByteArray) (a b : List UInt8) (hx : (⟨a.toArray⟩ : ByteArray) = x) (hy : (⟨b.toArray⟩ : ByteArray) = y) : (((⟨#[32]⟩ : ByteArray) ++ x) ++ ⟨#[61]⟩) ++ y = ⟨(32 :: (a ++ 61 :: b)).toArray⟩ := by
 subst hx hy;apply ByteArray.ext;apply Array.toList_inj.1;simp [ByteArray.data_append]

set_option maxRecDepth 20000 in
theorem chello20 (sp : Value) (r : Ap.Rq) (fv tv : Value) (cl root : ByteArray) (po : Option Addr) (pm pc B0 : Nat) (ps : List (List UInt8 × List UInt8)) (w : World) (hm : ps.length = pm) (h : w.ownsRow B0 165 2 (.slice po pm pc) pm (qC18 ps)) (hpn : pm ≤ 4194305) (hps : ∀ c ∈ ps, c.1.length ≤ 4194304 ∧ c.2.length ≤ 4194304) :
  Calls Tryz.prog 61 #[.agg (cC20 sp r fv tv cl root (.slice po pm pc))] w fun e w' => RP20 w w' e (Ap.hello ps) := by
 have HLT := hid' (fun i => Ap.line_take ps i 4194304 4194304 hps);have HM := hid' hm;have HO := hid' h;have HPN := hid' hpn;have HPS := hid' hps;obtain ⟨m, sc, au, p, fs, b, ts⟩ := r;unfold cC20;clear hm h hpn hps;go_enter Tryz.func61, Tryz.ntmps61;go_wp2_with (refine wpl_box 108 _ rfl rfl #[sp, .string m, .string sc, .string au, .string p, fv, .string b, tv, .string cl, .string root, .slice po pm pc] (by kernel_rfl) ?_);intro xb w1 hg1 ha1 hb1;have HX1 := hid' ha1;have HB1 := hid' hb1;clear hg1 ha1 hb1;go_wp2_with (refine wpl_alloc 38 rfl rfl _ zeroRp19 ?_);intro rb w2 hrb ha2 hl2;have HA2 := hid' ha2;have HB2 := hid' (below_two HB1.out hl2);have HX2 := hid' (HX1.out.keep hl2);have HRB := hid' (Nat.le_trans HB1.out.size hrb);clear hrb ha2 hl2;have HS3 : Hid (Bld (w2.alloc (.cells #[.pointer none, .slice none 0 0] 123)) w2.heap.size w2.heap.size []) := hid' (bld_new w2 _ _ (Nat.le_refl _) (heap_alloc_last w2 _));have HB3 := hid' (bl_alloc19 w2 (.cells #[.pointer none, .slice none 0 0] 123));go_upto_region 2 with fail;obtain ⟨bb, hbb⟩ : ∃ bb, w2.heap.size = bb := ⟨_, rfl⟩;rw [hbb] at HS3 HB3 ⊢;obtain ⟨w3, hw3⟩ : ∃ w3, w2.alloc (.cells #[.pointer none, .slice none 0 0] 123) = w3 := ⟨_, rfl⟩;rw [hw3] at HS3 HB3 ⊢;rw [← hbb] at HB3;have HS3 : Hid (Bld w3 w2.heap.size bb []) := hid' (by rw [hbb]; exact HS3.out);clear hbb hw3;have HW1 := hid' (writeString_any w2.heap.size bb [] [104, 101, 108, 108, 111] w3 HS3.out (by decide) HB3.out.size);go_wp2_with fail;refine HW1.out.mono ?_;rintro e w4 ⟨rfl, h1, h2, _⟩;have HS4 : Hid (Bld w4 w2.heap.size bb (Ap.line (ps.take 0))) := hid' (by rw [List.take_zero]; exact h1);have HB4 := hid' (HB3.out.trans h2);have x10 := (HX2.out.keep HB4.out).cell 10 _ rfl;clear h1 h2 HW1;go_wp2;go_loopw [10] (fun s10 wr => ∃ i : Nat, s10 = .int .i64 (i : Int) ∧ i ≤ pm ∧ Hid (Bld wr w2.heap.size bb (Ap.line (ps.take i))) ∧ Hid (Below w2.heap.size w2 wr)) (fun s10 _ => pm - (intOf s10).toNat)
 case atStart => exact ⟨0, rfl, Nat.zero_le _, HS4, HB4⟩
 case round =>
  clear x10;obtain ⟨i, rfl, hi, HS, HB⟩ := hrel;have hpb : pm ≤ 4194305 := HPN.out;by_cases hlt : i < pm
  ·have hlt2 : (i : Int) < (pm : Int) := by omega
   obtain ⟨c, hc⟩ : ∃ c, ps[i]? = some c := ⟨_, List.getElem?_eq_getElem (by rw [HM.out]; exact hlt)⟩;obtain ⟨g, hpo, hgl, y0, y1⟩ := own_pm20 (own_kp17 (own_kp17 HO.out HB2.out) HB.out) i c hc;subst hpo;have HNX := hid' (Ap.line_next hc);have HCS := hid' (HPS.out c (List.mem_of_getElem? hc));obtain ⟨x, hx⟩ : ∃ x : ByteArray, (⟨c.1.toArray⟩ : ByteArray) = x := ⟨_, rfl⟩;obtain ⟨y, hy⟩ : ∃ y : ByteArray, (⟨c.2.toArray⟩ : ByteArray) = y := ⟨_, rfl⟩;rw [hx] at y0;rw [hy] at y1;have HXY := hid' (str4_20 x y c.1 c.2 hx hy);have hxs : x.size ≤ 4194304 := by rw [← hx, size_l16]; exact HCS.out.1
   have hys : y.size ≤ 4194304 := by rw [← hy, size_l16]; exact HCS.out.2
   have s1 : 1 + x.size ≤ 9223372036854775807 := by omega
   have s2 : 1 + x.size + 1 ≤ 9223372036854775807 := by omega
   have s3 : 1 + x.size + 1 + y.size ≤ 9223372036854775807 := by omega
   have HW : Hid (Ar (wr.alloc (.cells #[.string x, .string y] 165)) wr.heap.size 165 #[.string x, .string y]) := hid' (heap_alloc_last wr _);have hbw := bl_alloc19 wr (.cells #[.string x, .string y] 165);have HBW := hid' (HB.out.trans (hbw.mono HB.out.size));have HSW : Hid (Bld (wr.alloc (.cells #[.string x, .string y] 165)) w2.heap.size bb (Ap.line (ps.take i))) := hid' (bld_keep HS.out hbw);clear hc hlt hgl hx hy hbw;go_upto_region 6 with fail;obtain ⟨sb, hsb⟩ : ∃ sb, wr.heap.size = sb := ⟨_, rfl⟩;rw [hsb] at HW ⊢;generalize wr.alloc (.cells #[.string x, .string y] 165) = w5 at *;clear hsb y0 y1;have z0 := HW.out.cell 0 _ rfl;have z1 := HW.out.cell 1 _ rfl;have HWS := hid' (writeString_any w2.heap.size bb (Ap.line (ps.take i)) (32 :: (c.1 ++ 61 :: c.2)) w5 HSW.out (by
    have h1 := HLT.out i;have h2 := HPN.out;have h3 := HM.out;have h4 := HCS.out;simp only [List.length_cons, List.length_append];omega) HBW.out.size)
   rw [← HXY.out] at HWS;go_wp2_with fail;refine HWS.out.mono ?_;rintro e w6 ⟨rfl, h1, h2, _⟩;have HS6 : Hid (Bld w6 w2.heap.size bb (Ap.line (ps.take (i + 1)))) := hid' (by rw [HNX.out]; exact h1);have HB6 := hid' (HBW.out.trans h2);clear h1 h2 HWS;go_wp2;go_roundw
   case rel => exact ⟨i + 1, by go_num, by omega, HS6, HB6⟩
   case measure => simp [intOf]; omega
  ·obtain rfl : i = pm := by omega
   have hlt2 : ¬ (i : Int) < (i : Int) := by omega
   have HSF : Hid (Bld wr w2.heap.size bb (Ap.line ps)) := hid' (by have := HS.out; rwa [List.take_of_length_le (by rw [HM.out]; exact Nat.le_refl _)] at this);have HWN := hid' (writeString_any w2.heap.size bb (Ap.line ps) [10] wr HSF.out (by
    have h1 := HLT.out i;have h2 := HPN.out;have h3 := HM.out;rw [List.take_of_length_le (by omega)] at h1;simp only [List.length_cons, List.length_nil];omega) HB.out.size)
   clear hlt;go_wp2_with fail;refine HWN.out.mono ?_;rintro e w5 ⟨rfl, h1, h2, _⟩;have HS5 : Hid (Bld w5 w2.heap.size bb (Ap.says ps)) := hid' h1;have HB5 := hid' (HB.out.trans h2);clear h1 h2 HWN;go_wp2_with fail;refine (cct20 ⟨#[116, 101, 120, 116, 47, 112, 108, 97, 105, 110]⟩ w5).mono ?_;rintro e w6 ⟨⟨vo, rfl, ho⟩, hb6⟩;have HS6 := hid' (bld_keep HS5.out hb6);have HO6 := hid' (own_base19 ho HB5.out.size);have HB6 := hid' (HB5.out.trans (hb6.mono HB5.out.size));clear ho hb6;have HST := hid' (string_any w2.heap.size bb (Ap.says ps) w6 HS6.out HB6.out.size);obtain ⟨bp, bq, hbo⟩ := bld_obj HS6.out;have HBO := hid' hbo;clear hbo;go_wp2_with fail;refine HST.out.mono ?_;rintro e w7 ⟨rfl, h2, h3⟩;have HO7 := hid' (own_uf20 HO6.out h3 HBO.out (by decide) (by decide));have HB7 := hid' (HB6.out.trans h2);have HA7 := hid' (HA2.out.keep HB7.out);clear h2 h3 HST;obtain ⟨bd, hbd⟩ : ∃ bd : ByteArray, (⟨(Ap.says ps).toArray⟩ : ByteArray) = bd := ⟨_, rfl⟩;rw [hbd];have HBD := hid' hbd;clear hbd;go_wp2_with (refine wpl_store 38 _ _ rfl rfl rb #[.int .i64 200, .slice vo 1 1, .string bd, .slice none 0 0] (by kernel_rfl) (by kernel_rfl) _ _ HA7.out sizeRp19 rfl (by simp [Value.oneCell']) ?_);intro wf hwf huf;go_wp2;have hld := ldRp19 hwf;exact bodyPost_ret (v := .agg #[.int .i64 200, .slice vo 1 1, .string bd, .slice none 0 0]) (by simp [results, Tryz.results61, asAddr, hld]) rfl (rp_done20 (Ap.hello ps) rfl HBD.out HB2.out HA2.out.lt HRB.out HB7.out rfl HO7.out rfl (World.ownsRow_nil _ _ _ _) huf)

end Go.Proofs.YthhpejgpfaikaabGreatDoor
