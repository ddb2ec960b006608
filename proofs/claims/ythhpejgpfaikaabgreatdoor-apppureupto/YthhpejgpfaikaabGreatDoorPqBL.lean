/-
  What the row stands on.
-/
import Derived.Test.YthhpejgpfaikaabGreatDoorPqAY
import Derived.Test.YthhpejgpfaikaabGreatDoorPqAZ
import Derived.Test.YthhpejgpfaikaabGreatDoorPqBK
namespace Go.Proofs.YthhpejgpfaikaabGreatDoor
set_option maxHeartbeats 64000000
open Go.RowKit

def tC20 (l : List Fr18) : List Value := l.flatMap fun x => [.int .u8 x.1.h, .string x.2]
theorem tC20_app (l m : List Fr18) : tC20 (l ++ m) = tC20 l ++ tC20 m := by simp [tC20]
theorem tC20_at (l : List Fr18) (i : Nat) (p : Fr18) (h : l[i]? = some p) : (tC20 l)[i * 2 + 0]? = some (.int .u8 p.1.h) ∧ (tC20 l)[i * 2 + 1]? = some (.string p.2) := by
 induction l generalizing i with
 | nil => simp at h
 | cons a r ih =>
  rw [show tC20 (a :: r) = .int .u8 a.1.h :: .string a.2 :: tC20 r from rfl];cases i with
  | zero => simp at h; subst h; exact ⟨rfl, rfl⟩
  | succ i =>
   rw [List.getElem?_cons_succ] at h;rw [show (i + 1) * 2 + 0 = (i * 2 + 0) + 1 + 1 by omega, show (i + 1) * 2 + 1 = (i * 2 + 1) + 1 + 1 by omega];simp only [List.getElem?_cons_succ];exact ih i h
def AW20 (w : World) (B b : Nat) (l : List Fr18) : Prop := ∃ (rb : Nat) (so : Option Addr) (sn sc : Nat),
 Ar w b 57 #[.pointer (some ⟨rb, 0, none⟩), .slice so sn sc] ∧ B ≤ b ∧ l.length = sn ∧ w.ownsRow B 62 2 (.slice so sn sc) sn (tC20 l) ∧ RT18 w B rb (l.map (·.1)) ∧ ∀ x ∈ l, 1 ≤ x.1.h ∧ x.1.h ≤ 4
theorem AW20.keep {w w' : World} {B b : Nat} {l : List Fr18} (h : AW20 w B b l) (hb : ∀ k, B ≤ k → k < w.heap.size → w'.heap[k]? = w.heap[k]?) : AW20 w' B b l := by
 obtain ⟨rb, so, sn, sc, h1, h2, h3, h4, h5, h6⟩ := h;refine ⟨rb, so, sn, sc, ?_, h2, h3, own_same h4 (fun k hk => hb k (own_ge19 h4 k hk) (own_lt h4 k hk)), h5.keep hb, h6⟩;have := hb b h2 h1.lt;unfold Ar at *;rw [this]; exact h1
theorem AW20.below {w w' : World} {B b : Nat} {l : List Fr18} (h : AW20 w B b l) (hb : Below w.heap.size w w') : AW20 w' B b l := h.keep (fun k _ hk => hb.block k hk)
def AP20 (w : World) (B E b : Nat) (l : List Fr18) : Prop := E ≤ w.heap.size ∧ ∃ W : World, W.heap.size = E ∧ (∀ k, B ≤ k → k < E → w.heap[k]? = W.heap[k]?) ∧ AW20 W B b l
theorem ak20 : AK20 AP20 where
 keep := fun ⟨h1, W, h2, h3, h4⟩ hs hb => ⟨Nat.le_trans h1 hs, W, h2, fun k h5 h6 => (hb k h5 h6).trans (h3 k h5 h6), h4⟩
 le := fun h => h.1
theorem AP20.aw {w : World} {B E b : Nat} {l : List Fr18} (h : AP20 w B E b l) : AW20 w B b l := by
 obtain ⟨_, W, h2, h3, h4⟩ := h;exact h4.keep (fun k h5 h6 => h3 k h5 (by omega))
theorem AP20.of {w : World} {B b : Nat} {l : List Fr18} (h : AW20 w B b l) : AP20 w B w.heap.size b l := ⟨Nat.le_refl _, w, rfl, fun _ _ _ => rfl, h⟩
theorem own_tg20 {w : World} {B : Nat} {ao : Option Addr} {n cap : Nat} {l : List Fr18} (h : w.ownsRow B 62 2 (.slice ao n cap) n (tC20 l)) (i : Nat) (x : Fr18) (hx : l[i]? = some x) : ∃ g, ao = some ⟨g, 0, none⟩ ∧ g < w.heap.size ∧ w.cell? ⟨g, i * 2, none⟩ = some (.int .u8 x.1.h) ∧ w.cell? ⟨g, i * 2 + 1, none⟩ = some (.string x.2) := by
 obtain ⟨k0, k1⟩ := tC20_at l i x hx;have hlt := (List.getElem?_eq_some_iff.1 k1).1;rcases h.2 with ⟨_, h0⟩ | ⟨g, cap', cur, h1, h2⟩
 ·rw [h.1, h0] at hlt; omega
 ·injection h1 with h1 h3 h4;subst h1;have c0 := h.cells (g := g) rfl _ _ k0;have c1 := h.cells (g := g) rfl _ _ k1;rw [Addr.add_mid, Nat.zero_add] at c0 c1;exact ⟨g, rfl, own_lt h g rfl, c0, c1⟩

set_option maxRecDepth 20000 in
theorem chandled120 (A : Ap.Rp) (sp : Value) (r : Ap.Rq) (fv tv : Value) (cl root : ByteArray) (pv : Value) (w : World) (hc : ∀ W, Below w.heap.size w W → Calls Tryz.prog 59 #[.agg (cC20 sp r fv tv cl root pv)] W fun e w' => RP20 W w' e A) :
  Calls Tryz.prog 39 #[.agg (cC20 sp r fv tv cl root pv), .int .u8 1] w fun e w' => RP20 w w' e A := by
 have HC := hid' hc;obtain ⟨m, sc, au, p, fs, b, ts⟩ := r;unfold cC20 at HC ⊢;simp only at HC ⊢;clear hc;go_enter Tryz.func39, Tryz.ntmps39;go_wp2_with (refine wpl_box 108 _ rfl rfl #[sp, .string m, .string sc, .string au, .string p, fv, .string b, tv, .string cl, .string root, pv] (by kernel_rfl) ?_);intro xb w1 hg1 ha1 hb1;have HX1 := hid' ha1;have HB1 := hid' hb1;clear hg1 ha1 hb1;go_wp2_with (refine wpl_alloc 38 rfl rfl _ zeroRp19 ?_);intro rb w2 hrb ha2 hl2;have HA2 := hid' ha2;have HB2 := hid' hl2;have HRB := hid' hrb;have HRL := hid' ha2.lt;clear hrb ha2 hl2;go_upto_region 2 with fail;have HSB : Hid (Ar (w2.alloc (.cells #[.nilFunc, .func (.func 59) #[] #[], .func (.func 60) #[] #[], .func (.func 61) #[] #[], .func (.func 62) #[] #[]] 142)) w2.heap.size 142 #[.nilFunc, .func (.func 59) #[] #[], .func (.func 60) #[] #[], .func (.func 61) #[] #[], .func (.func 62) #[] #[]]) := hid' (heap_alloc_last w2 _);have hb3 := bl_alloc19 w2 (.cells #[.nilFunc, .func (.func 59) #[] #[], .func (.func 60) #[] #[], .func (.func 61) #[] #[], .func (.func 62) #[] #[]] 142);have HNE : Hid (w2.heap.size ≠ rb) := hid' (fun e => by have := HRL.out; omega);have HA3 := hid' (HA2.out.keep hb3);have HB3 := hid' (below_two HB2.out hb3);have HBB3 : Hid (Below w2.heap.size w2 (w2.alloc (.cells #[.nilFunc, .func (.func 59) #[] #[], .func (.func 60) #[] #[], .func (.func 61) #[] #[], .func (.func 62) #[] #[]] 142))) := hid' hb3;obtain ⟨sb, hsb⟩ : ∃ sb, w2.heap.size = sb := ⟨_, rfl⟩;rw [hsb] at HSB HNE;rw [hsb];have HSL : Hid (w1.heap.size ≤ (w2.alloc (.cells #[.nilFunc, .func (.func 59) #[] #[], .func (.func 60) #[] #[], .func (.func 61) #[] #[], .func (.func 62) #[] #[]] 142)).heap.size) := hid' HB3.out.size;generalize w2.alloc (.cells #[.nilFunc, .func (.func 59) #[] #[], .func (.func 60) #[] #[], .func (.func 61) #[] #[], .func (.func 62) #[] #[]] 142) = w3 at *;clear hsb hb3;refine wp_region_held_drew (S := fun W => Below w1.heap.size w1 W ∧ Ar W sb 142 #[.nilFunc, .func (.func 59) #[] #[], .func (.func 60) #[] #[], .func (.func 61) #[] #[], .func (.func 62) #[] #[]]) (by kernel_rfl) ⟨HB3.out.drew, HSB.out⟩ (fun hHeld => ?_);refine take_d19 (i := 0) (d := some 7) (v := ?_) rfl rfl (by kernel_rfl) (by kernel_rfl) (by kernel_rfl) (fun _ _ _ h => h) (Or.inl ⟨by rfl, ?_⟩) (by assumption) ?_;rotate_left
 ·intro w hSw;go_simp
  try with_reducible rfl
 refine take_d19 (i := 1) (d := some 8) (v := ?_) rfl rfl (by kernel_rfl) (by kernel_rfl) (by kernel_rfl) (fun _ _ _ h => h) (Or.inl ⟨by rfl, ?_⟩) (by assumption) ?_;rotate_left
 ·intro w hSw;go_simp
  try with_reducible rfl
 refine take_d19 (i := 2) (d := some 9) (v := ?_) rfl rfl (by kernel_rfl) (by kernel_rfl) (by kernel_rfl) (fun _ _ _ h => h) (Or.inl ⟨by rfl, ?_⟩) (by assumption) ?_;rotate_left
 ·intro w hSw;go_simp
  try with_reducible rfl
 refine take_d19 (i := 3) (d := some 10) (v := ?_) rfl rfl (by kernel_rfl) (by kernel_rfl) (by kernel_rfl) (fun _ _ _ h => h) (Or.inl ⟨by rfl, ?_⟩) (by assumption) ?_;rotate_left
 ·intro w hSw
  (try dsimp only at hSw)
  have d1 := hSw.2.cell 1 _ rfl;go_simp
  try with_reducible rfl
 refine take_d19 (i := 4) (d := some 11) (v := ?_) rfl rfl (by kernel_rfl) (by kernel_rfl) (by kernel_rfl) (fun _ _ _ h => h) (Or.inl ⟨by rfl, ?_⟩) (by assumption) ?_;rotate_left
 ·intro w hSw
  (try dsimp only at hSw)
  have ha := HX1.out.keep hSw.1;have c0 := ha.cell 0 _ rfl;have c1 := ha.cell 1 _ rfl;have c2 := ha.cell 2 _ rfl;have c3 := ha.cell 3 _ rfl;have c4 := ha.cell 4 _ rfl;have c5 := ha.cell 5 _ rfl;have c6 := ha.cell 6 _ rfl;have c7 := ha.cell 7 _ rfl;have c8 := ha.cell 8 _ rfl;have c9 := ha.cell 9 _ rfl;have c10 := ha.cell 10 _ rfl;go_simp
  try with_reducible rfl
 try simp only [Act.put, List.setIfInBounds_toArray, List.set_cons_zero, List.set_cons_succ]
 refine wpAnyH_ready (rs := [5]) (by kernel_rfl) (by simp) ?_;refine AllReadyH.cons rfl (fun K hK => ?_) AllReadyH.nil;go_simp;refine (HC.out _ (below_two HB1.out hHeld.1)).mono ?_;rintro e wA ⟨⟨vo, n, vc, uo, k, uc, rfl, hn, ho, hk, hp⟩, hbA⟩;unfold rpC;obtain ⟨bd, hbd⟩ : ∃ bd : ByteArray, (⟨A.b.toArray⟩ : ByteArray) = bd := ⟨_, rfl⟩;obtain ⟨sd, hsd⟩ : ∃ sd : Int, A.s = sd := ⟨_, rfl⟩;rw [hbd, hsd];have HAA := hid' (Ar.keep (show Ar w3.drew rb _ _ from HA3.out) hbA);have HBB := hid' (below_two (show Below w2.heap.size w2 w3.drew from HBB3.out.drew) hbA);have HO := hid' (own_base19 ho HBB3.out.size);have HP := hid' (own_base19 hp HBB3.out.size);clear ho hp;go_wp2_with fail;refine hK.out _ _ ⟨below_two hHeld.1 hbA, Ar.keep hHeld.2 hbA⟩ (fun hHeld2 => ?_);clear hK K
 try simp only [Act.put, List.setIfInBounds_toArray, List.set_cons_zero, List.set_cons_succ]
 refine wpAnyH_ready (rs := [6]) (by kernel_rfl) (by simp) ?_;refine AllReadyH.cons rfl (fun K hK => ?_) AllReadyH.nil;refine step_store19 rfl 38 _ _ rfl rb #[.int .i64 sd, .slice vo n vc, .string bd, .slice uo k uc] rfl rfl 38 _ (HAA.out) sizeRp19 rfl (by simp [Value.oneCell']) ?_;intro wf hawf huwf;refine hK.out _ _ (⟨hHeld2.1.trans (huwf.below HRB.out), huwf.keep hHeld2.2 (fun e => HNE.out e)⟩) (fun _ => ?_);clear hK K
 try simp only [Act.put]
 refine wpAnyH_done (by kernel_rfl) ?_ _;have HWF := hid' hawf;have HUF := hid' huwf;go_wp2_with fail;have hld := ldRp19 HWF.out;exact bodyPost_ret (v := .agg #[.int .i64 sd, .slice vo n vc, .string bd, .slice uo k uc]) (by simp [results, Tryz.results39, asAddr, hld]) rfl (rp_done20 A hsd hbd (below_two HB1.out HB2.out) HRL.out (Nat.le_trans HB1.out.size HRB.out) HBB.out hn HO.out hk HP.out HUF.out)

set_option maxRecDepth 20000 in
theorem chandled220 (A : Ap.Rp) (sp : Value) (r : Ap.Rq) (fv tv : Value) (cl root : ByteArray) (pv : Value) (w : World) (hc : ∀ W, Below w.heap.size w W → Calls Tryz.prog 60 #[.agg (cC20 sp r fv tv cl root pv)] W fun e w' => RP20 W w' e A) :
  Calls Tryz.prog 39 #[.agg (cC20 sp r fv tv cl root pv), .int .u8 2] w fun e w' => RP20 w w' e A := by
 have HC := hid' hc;obtain ⟨m, sc, au, p, fs, b, ts⟩ := r;unfold cC20 at HC ⊢;simp only at HC ⊢;clear hc;go_enter Tryz.func39, Tryz.ntmps39;go_wp2_with (refine wpl_box 108 _ rfl rfl #[sp, .string m, .string sc, .string au, .string p, fv, .string b, tv, .string cl, .string root, pv] (by kernel_rfl) ?_);intro xb w1 hg1 ha1 hb1;have HX1 := hid' ha1;have HB1 := hid' hb1;clear hg1 ha1 hb1;go_wp2_with (refine wpl_alloc 38 rfl rfl _ zeroRp19 ?_);intro rb w2 hrb ha2 hl2;have HA2 := hid' ha2;have HB2 := hid' hl2;have HRB := hid' hrb;have HRL := hid' ha2.lt;clear hrb ha2 hl2;go_upto_region 2 with fail;have HSB : Hid (Ar (w2.alloc (.cells #[.nilFunc, .func (.func 59) #[] #[], .func (.func 60) #[] #[], .func (.func 61) #[] #[], .func (.func 62) #[] #[]] 142)) w2.heap.size 142 #[.nilFunc, .func (.func 59) #[] #[], .func (.func 60) #[] #[], .func (.func 61) #[] #[], .func (.func 62) #[] #[]]) := hid' (heap_alloc_last w2 _);have hb3 := bl_alloc19 w2 (.cells #[.nilFunc, .func (.func 59) #[] #[], .func (.func 60) #[] #[], .func (.func 61) #[] #[], .func (.func 62) #[] #[]] 142);have HNE : Hid (w2.heap.size ≠ rb) := hid' (fun e => by have := HRL.out; omega);have HA3 := hid' (HA2.out.keep hb3);have HB3 := hid' (below_two HB2.out hb3);have HBB3 : Hid (Below w2.heap.size w2 (w2.alloc (.cells #[.nilFunc, .func (.func 59) #[] #[], .func (.func 60) #[] #[], .func (.func 61) #[] #[], .func (.func 62) #[] #[]] 142))) := hid' hb3;obtain ⟨sb, hsb⟩ : ∃ sb, w2.heap.size = sb := ⟨_, rfl⟩;rw [hsb] at HSB HNE;rw [hsb];have HSL : Hid (w1.heap.size ≤ (w2.alloc (.cells #[.nilFunc, .func (.func 59) #[] #[], .func (.func 60) #[] #[], .func (.func 61) #[] #[], .func (.func 62) #[] #[]] 142)).heap.size) := hid' HB3.out.size;generalize w2.alloc (.cells #[.nilFunc, .func (.func 59) #[] #[], .func (.func 60) #[] #[], .func (.func 61) #[] #[], .func (.func 62) #[] #[]] 142) = w3 at *;clear hsb hb3;refine wp_region_held_drew (S := fun W => Below w1.heap.size w1 W ∧ Ar W sb 142 #[.nilFunc, .func (.func 59) #[] #[], .func (.func 60) #[] #[], .func (.func 61) #[] #[], .func (.func 62) #[] #[]]) (by kernel_rfl) ⟨HB3.out.drew, HSB.out⟩ (fun hHeld => ?_);refine take_d19 (i := 0) (d := some 7) (v := ?_) rfl rfl (by kernel_rfl) (by kernel_rfl) (by kernel_rfl) (fun _ _ _ h => h) (Or.inl ⟨by rfl, ?_⟩) (by assumption) ?_;rotate_left
 ·intro w hSw;go_simp
  try with_reducible rfl
 refine take_d19 (i := 1) (d := some 8) (v := ?_) rfl rfl (by kernel_rfl) (by kernel_rfl) (by kernel_rfl) (fun _ _ _ h => h) (Or.inl ⟨by rfl, ?_⟩) (by assumption) ?_;rotate_left
 ·intro w hSw;go_simp
  try with_reducible rfl
 refine take_d19 (i := 2) (d := some 9) (v := ?_) rfl rfl (by kernel_rfl) (by kernel_rfl) (by kernel_rfl) (fun _ _ _ h => h) (Or.inl ⟨by rfl, ?_⟩) (by assumption) ?_;rotate_left
 ·intro w hSw;go_simp
  try with_reducible rfl
 refine take_d19 (i := 3) (d := some 10) (v := ?_) rfl rfl (by kernel_rfl) (by kernel_rfl) (by kernel_rfl) (fun _ _ _ h => h) (Or.inl ⟨by rfl, ?_⟩) (by assumption) ?_;rotate_left
 ·intro w hSw
  (try dsimp only at hSw)
  have d2 := hSw.2.cell 2 _ rfl;go_simp
  try with_reducible rfl
 refine take_d19 (i := 4) (d := some 11) (v := ?_) rfl rfl (by kernel_rfl) (by kernel_rfl) (by kernel_rfl) (fun _ _ _ h => h) (Or.inl ⟨by rfl, ?_⟩) (by assumption) ?_;rotate_left
 ·intro w hSw
  (try dsimp only at hSw)
  have ha := HX1.out.keep hSw.1;have c0 := ha.cell 0 _ rfl;have c1 := ha.cell 1 _ rfl;have c2 := ha.cell 2 _ rfl;have c3 := ha.cell 3 _ rfl;have c4 := ha.cell 4 _ rfl;have c5 := ha.cell 5 _ rfl;have c6 := ha.cell 6 _ rfl;have c7 := ha.cell 7 _ rfl;have c8 := ha.cell 8 _ rfl;have c9 := ha.cell 9 _ rfl;have c10 := ha.cell 10 _ rfl;go_simp
  try with_reducible rfl
 try simp only [Act.put, List.setIfInBounds_toArray, List.set_cons_zero, List.set_cons_succ]
 refine wpAnyH_ready (rs := [5]) (by kernel_rfl) (by simp) ?_;refine AllReadyH.cons rfl (fun K hK => ?_) AllReadyH.nil;go_simp;refine (HC.out _ (below_two HB1.out hHeld.1)).mono ?_;rintro e wA ⟨⟨vo, n, vc, uo, k, uc, rfl, hn, ho, hk, hp⟩, hbA⟩;unfold rpC;obtain ⟨bd, hbd⟩ : ∃ bd : ByteArray, (⟨A.b.toArray⟩ : ByteArray) = bd := ⟨_, rfl⟩;obtain ⟨sd, hsd⟩ : ∃ sd : Int, A.s = sd := ⟨_, rfl⟩;rw [hbd, hsd];have HAA := hid' (Ar.keep (show Ar w3.drew rb _ _ from HA3.out) hbA);have HBB := hid' (below_two (show Below w2.heap.size w2 w3.drew from HBB3.out.drew) hbA);have HO := hid' (own_base19 ho HBB3.out.size);have HP := hid' (own_base19 hp HBB3.out.size);clear ho hp;go_wp2_with fail;refine hK.out _ _ ⟨below_two hHeld.1 hbA, Ar.keep hHeld.2 hbA⟩ (fun hHeld2 => ?_);clear hK K
 try simp only [Act.put, List.setIfInBounds_toArray, List.set_cons_zero, List.set_cons_succ]
 refine wpAnyH_ready (rs := [6]) (by kernel_rfl) (by simp) ?_;refine AllReadyH.cons rfl (fun K hK => ?_) AllReadyH.nil;refine step_store19 rfl 38 _ _ rfl rb #[.int .i64 sd, .slice vo n vc, .string bd, .slice uo k uc] rfl rfl 38 _ (HAA.out) sizeRp19 rfl (by simp [Value.oneCell']) ?_;intro wf hawf huwf;refine hK.out _ _ (⟨hHeld2.1.trans (huwf.below HRB.out), huwf.keep hHeld2.2 (fun e => HNE.out e)⟩) (fun _ => ?_);clear hK K
 try simp only [Act.put]
 refine wpAnyH_done (by kernel_rfl) ?_ _;have HWF := hid' hawf;have HUF := hid' huwf;go_wp2_with fail;have hld := ldRp19 HWF.out;exact bodyPost_ret (v := .agg #[.int .i64 sd, .slice vo n vc, .string bd, .slice uo k uc]) (by simp [results, Tryz.results39, asAddr, hld]) rfl (rp_done20 A hsd hbd (below_two HB1.out HB2.out) HRL.out (Nat.le_trans HB1.out.size HRB.out) HBB.out hn HO.out hk HP.out HUF.out)

set_option maxRecDepth 20000 in
theorem chandled320 (A : Ap.Rp) (sp : Value) (r : Ap.Rq) (fv tv : Value) (cl root : ByteArray) (pv : Value) (w : World) (hc : ∀ W, Below w.heap.size w W → Calls Tryz.prog 61 #[.agg (cC20 sp r fv tv cl root pv)] W fun e w' => RP20 W w' e A) :
  Calls Tryz.prog 39 #[.agg (cC20 sp r fv tv cl root pv), .int .u8 3] w fun e w' => RP20 w w' e A := by
 have HC := hid' hc;obtain ⟨m, sc, au, p, fs, b, ts⟩ := r;unfold cC20 at HC ⊢;simp only at HC ⊢;clear hc;go_enter Tryz.func39, Tryz.ntmps39;go_wp2_with (refine wpl_box 108 _ rfl rfl #[sp, .string m, .string sc, .string au, .string p, fv, .string b, tv, .string cl, .string root, pv] (by kernel_rfl) ?_);intro xb w1 hg1 ha1 hb1;have HX1 := hid' ha1;have HB1 := hid' hb1;clear hg1 ha1 hb1;go_wp2_with (refine wpl_alloc 38 rfl rfl _ zeroRp19 ?_);intro rb w2 hrb ha2 hl2;have HA2 := hid' ha2;have HB2 := hid' hl2;have HRB := hid' hrb;have HRL := hid' ha2.lt;clear hrb ha2 hl2;go_upto_region 2 with fail;have HSB : Hid (Ar (w2.alloc (.cells #[.nilFunc, .func (.func 59) #[] #[], .func (.func 60) #[] #[], .func (.func 61) #[] #[], .func (.func 62) #[] #[]] 142)) w2.heap.size 142 #[.nilFunc, .func (.func 59) #[] #[], .func (.func 60) #[] #[], .func (.func 61) #[] #[], .func (.func 62) #[] #[]]) := hid' (heap_alloc_last w2 _);have hb3 := bl_alloc19 w2 (.cells #[.nilFunc, .func (.func 59) #[] #[], .func (.func 60) #[] #[], .func (.func 61) #[] #[], .func (.func 62) #[] #[]] 142);have HNE : Hid (w2.heap.size ≠ rb) := hid' (fun e => by have := HRL.out; omega);have HA3 := hid' (HA2.out.keep hb3);have HB3 := hid' (below_two HB2.out hb3);have HBB3 : Hid (Below w2.heap.size w2 (w2.alloc (.cells #[.nilFunc, .func (.func 59) #[] #[], .func (.func 60) #[] #[], .func (.func 61) #[] #[], .func (.func 62) #[] #[]] 142))) := hid' hb3;obtain ⟨sb, hsb⟩ : ∃ sb, w2.heap.size = sb := ⟨_, rfl⟩;rw [hsb] at HSB HNE;rw [hsb];have HSL : Hid (w1.heap.size ≤ (w2.alloc (.cells #[.nilFunc, .func (.func 59) #[] #[], .func (.func 60) #[] #[], .func (.func 61) #[] #[], .func (.func 62) #[] #[]] 142)).heap.size) := hid' HB3.out.size;generalize w2.alloc (.cells #[.nilFunc, .func (.func 59) #[] #[], .func (.func 60) #[] #[], .func (.func 61) #[] #[], .func (.func 62) #[] #[]] 142) = w3 at *;clear hsb hb3;refine wp_region_held_drew (S := fun W => Below w1.heap.size w1 W ∧ Ar W sb 142 #[.nilFunc, .func (.func 59) #[] #[], .func (.func 60) #[] #[], .func (.func 61) #[] #[], .func (.func 62) #[] #[]]) (by kernel_rfl) ⟨HB3.out.drew, HSB.out⟩ (fun hHeld => ?_);refine take_d19 (i := 0) (d := some 7) (v := ?_) rfl rfl (by kernel_rfl) (by kernel_rfl) (by kernel_rfl) (fun _ _ _ h => h) (Or.inl ⟨by rfl, ?_⟩) (by assumption) ?_;rotate_left
 ·intro w hSw;go_simp
  try with_reducible rfl
 refine take_d19 (i := 1) (d := some 8) (v := ?_) rfl rfl (by kernel_rfl) (by kernel_rfl) (by kernel_rfl) (fun _ _ _ h => h) (Or.inl ⟨by rfl, ?_⟩) (by assumption) ?_;rotate_left
 ·intro w hSw;go_simp
  try with_reducible rfl
 refine take_d19 (i := 2) (d := some 9) (v := ?_) rfl rfl (by kernel_rfl) (by kernel_rfl) (by kernel_rfl) (fun _ _ _ h => h) (Or.inl ⟨by rfl, ?_⟩) (by assumption) ?_;rotate_left
 ·intro w hSw;go_simp
  try with_reducible rfl
 refine take_d19 (i := 3) (d := some 10) (v := ?_) rfl rfl (by kernel_rfl) (by kernel_rfl) (by kernel_rfl) (fun _ _ _ h => h) (Or.inl ⟨by rfl, ?_⟩) (by assumption) ?_;rotate_left
 ·intro w hSw
  (try dsimp only at hSw)
  have d3 := hSw.2.cell 3 _ rfl;go_simp
  try with_reducible rfl
 refine take_d19 (i := 4) (d := some 11) (v := ?_) rfl rfl (by kernel_rfl) (by kernel_rfl) (by kernel_rfl) (fun _ _ _ h => h) (Or.inl ⟨by rfl, ?_⟩) (by assumption) ?_;rotate_left
 ·intro w hSw
  (try dsimp only at hSw)
  have ha := HX1.out.keep hSw.1;have c0 := ha.cell 0 _ rfl;have c1 := ha.cell 1 _ rfl;have c2 := ha.cell 2 _ rfl;have c3 := ha.cell 3 _ rfl;have c4 := ha.cell 4 _ rfl;have c5 := ha.cell 5 _ rfl;have c6 := ha.cell 6 _ rfl;have c7 := ha.cell 7 _ rfl;have c8 := ha.cell 8 _ rfl;have c9 := ha.cell 9 _ rfl;have c10 := ha.cell 10 _ rfl;go_simp
  try with_reducible rfl
 try simp only [Act.put, List.setIfInBounds_toArray, List.set_cons_zero, List.set_cons_succ]
 refine wpAnyH_ready (rs := [5]) (by kernel_rfl) (by simp) ?_;refine AllReadyH.cons rfl (fun K hK => ?_) AllReadyH.nil;go_simp;refine (HC.out _ (below_two HB1.out hHeld.1)).mono ?_;rintro e wA ⟨⟨vo, n, vc, uo, k, uc, rfl, hn, ho, hk, hp⟩, hbA⟩;unfold rpC;obtain ⟨bd, hbd⟩ : ∃ bd : ByteArray, (⟨A.b.toArray⟩ : ByteArray) = bd := ⟨_, rfl⟩;obtain ⟨sd, hsd⟩ : ∃ sd : Int, A.s = sd := ⟨_, rfl⟩;rw [hbd, hsd];have HAA := hid' (Ar.keep (show Ar w3.drew rb _ _ from HA3.out) hbA);have HBB := hid' (below_two (show Below w2.heap.size w2 w3.drew from HBB3.out.drew) hbA);have HO := hid' (own_base19 ho HBB3.out.size);have HP := hid' (own_base19 hp HBB3.out.size);clear ho hp;go_wp2_with fail;refine hK.out _ _ ⟨below_two hHeld.1 hbA, Ar.keep hHeld.2 hbA⟩ (fun hHeld2 => ?_);clear hK K
 try simp only [Act.put, List.setIfInBounds_toArray, List.set_cons_zero, List.set_cons_succ]
 refine wpAnyH_ready (rs := [6]) (by kernel_rfl) (by simp) ?_;refine AllReadyH.cons rfl (fun K hK => ?_) AllReadyH.nil;refine step_store19 rfl 38 _ _ rfl rb #[.int .i64 sd, .slice vo n vc, .string bd, .slice uo k uc] rfl rfl 38 _ (HAA.out) sizeRp19 rfl (by simp [Value.oneCell']) ?_;intro wf hawf huwf;refine hK.out _ _ (⟨hHeld2.1.trans (huwf.below HRB.out), huwf.keep hHeld2.2 (fun e => HNE.out e)⟩) (fun _ => ?_);clear hK K
 try simp only [Act.put]
 refine wpAnyH_done (by kernel_rfl) ?_ _;have HWF := hid' hawf;have HUF := hid' huwf;go_wp2_with fail;have hld := ldRp19 HWF.out;exact bodyPost_ret (v := .agg #[.int .i64 sd, .slice vo n vc, .string bd, .slice uo k uc]) (by simp [results, Tryz.results39, asAddr, hld]) rfl (rp_done20 A hsd hbd (below_two HB1.out HB2.out) HRL.out (Nat.le_trans HB1.out.size HRB.out) HBB.out hn HO.out hk HP.out HUF.out)

set_option maxRecDepth 20000 in
theorem chandled420 (A : Ap.Rp) (sp : Value) (r : Ap.Rq) (fv tv : Value) (cl root : ByteArray) (pv : Value) (w : World) (hc : ∀ W, Below w.heap.size w W → Calls Tryz.prog 62 #[.agg (cC20 sp r fv tv cl root pv)] W fun e w' => RP20 W w' e A) :
  Calls Tryz.prog 39 #[.agg (cC20 sp r fv tv cl root pv), .int .u8 4] w fun e w' => RP20 w w' e A := by
 have HC := hid' hc;obtain ⟨m, sc, au, p, fs, b, ts⟩ := r;unfold cC20 at HC ⊢;simp only at HC ⊢;clear hc;go_enter Tryz.func39, Tryz.ntmps39;go_wp2_with (refine wpl_box 108 _ rfl rfl #[sp, .string m, .string sc, .string au, .string p, fv, .string b, tv, .string cl, .string root, pv] (by kernel_rfl) ?_);intro xb w1 hg1 ha1 hb1;have HX1 := hid' ha1;have HB1 := hid' hb1;clear hg1 ha1 hb1;go_wp2_with (refine wpl_alloc 38 rfl rfl _ zeroRp19 ?_);intro rb w2 hrb ha2 hl2;have HA2 := hid' ha2;have HB2 := hid' hl2;have HRB := hid' hrb;have HRL := hid' ha2.lt;clear hrb ha2 hl2;go_upto_region 2 with fail;have HSB : Hid (Ar (w2.alloc (.cells #[.nilFunc, .func (.func 59) #[] #[], .func (.func 60) #[] #[], .func (.func 61) #[] #[], .func (.func 62) #[] #[]] 142)) w2.heap.size 142 #[.nilFunc, .func (.func 59) #[] #[], .func (.func 60) #[] #[], .func (.func 61) #[] #[], .func (.func 62) #[] #[]]) := hid' (heap_alloc_last w2 _);have hb3 := bl_alloc19 w2 (.cells #[.nilFunc, .func (.func 59) #[] #[], .func (.func 60) #[] #[], .func (.func 61) #[] #[], .func (.func 62) #[] #[]] 142);have HNE : Hid (w2.heap.size ≠ rb) := hid' (fun e => by have := HRL.out; omega);have HA3 := hid' (HA2.out.keep hb3);have HB3 := hid' (below_two HB2.out hb3);have HBB3 : Hid (Below w2.heap.size w2 (w2.alloc (.cells #[.nilFunc, .func (.func 59) #[] #[], .func (.func 60) #[] #[], .func (.func 61) #[] #[], .func (.func 62) #[] #[]] 142))) := hid' hb3;obtain ⟨sb, hsb⟩ : ∃ sb, w2.heap.size = sb := ⟨_, rfl⟩;rw [hsb] at HSB HNE;rw [hsb];have HSL : Hid (w1.heap.size ≤ (w2.alloc (.cells #[.nilFunc, .func (.func 59) #[] #[], .func (.func 60) #[] #[], .func (.func 61) #[] #[], .func (.func 62) #[] #[]] 142)).heap.size) := hid' HB3.out.size;generalize w2.alloc (.cells #[.nilFunc, .func (.func 59) #[] #[], .func (.func 60) #[] #[], .func (.func 61) #[] #[], .func (.func 62) #[] #[]] 142) = w3 at *;clear hsb hb3;refine wp_region_held_drew (S := fun W => Below w1.heap.size w1 W ∧ Ar W sb 142 #[.nilFunc, .func (.func 59) #[] #[], .func (.func 60) #[] #[], .func (.func 61) #[] #[], .func (.func 62) #[] #[]]) (by kernel_rfl) ⟨HB3.out.drew, HSB.out⟩ (fun hHeld => ?_);refine take_d19 (i := 0) (d := some 7) (v := ?_) rfl rfl (by kernel_rfl) (by kernel_rfl) (by kernel_rfl) (fun _ _ _ h => h) (Or.inl ⟨by rfl, ?_⟩) (by assumption) ?_;rotate_left
 ·intro w hSw;go_simp
  try with_reducible rfl
 refine take_d19 (i := 1) (d := some 8) (v := ?_) rfl rfl (by kernel_rfl) (by kernel_rfl) (by kernel_rfl) (fun _ _ _ h => h) (Or.inl ⟨by rfl, ?_⟩) (by assumption) ?_;rotate_left
 ·intro w hSw;go_simp
  try with_reducible rfl
 refine take_d19 (i := 2) (d := some 9) (v := ?_) rfl rfl (by kernel_rfl) (by kernel_rfl) (by kernel_rfl) (fun _ _ _ h => h) (Or.inl ⟨by rfl, ?_⟩) (by assumption) ?_;rotate_left
 ·intro w hSw;go_simp
  try with_reducible rfl
 refine take_d19 (i := 3) (d := some 10) (v := ?_) rfl rfl (by kernel_rfl) (by kernel_rfl) (by kernel_rfl) (fun _ _ _ h => h) (Or.inl ⟨by rfl, ?_⟩) (by assumption) ?_;rotate_left
 ·intro w hSw
  (try dsimp only at hSw)
  have d4 := hSw.2.cell 4 _ rfl;go_simp
  try with_reducible rfl
 refine take_d19 (i := 4) (d := some 11) (v := ?_) rfl rfl (by kernel_rfl) (by kernel_rfl) (by kernel_rfl) (fun _ _ _ h => h) (Or.inl ⟨by rfl, ?_⟩) (by assumption) ?_;rotate_left
 ·intro w hSw
  (try dsimp only at hSw)
  have ha := HX1.out.keep hSw.1;have c0 := ha.cell 0 _ rfl;have c1 := ha.cell 1 _ rfl;have c2 := ha.cell 2 _ rfl;have c3 := ha.cell 3 _ rfl;have c4 := ha.cell 4 _ rfl;have c5 := ha.cell 5 _ rfl;have c6 := ha.cell 6 _ rfl;have c7 := ha.cell 7 _ rfl;have c8 := ha.cell 8 _ rfl;have c9 := ha.cell 9 _ rfl;have c10 := ha.cell 10 _ rfl;go_simp
  try with_reducible rfl
 try simp only [Act.put, List.setIfInBounds_toArray, List.set_cons_zero, List.set_cons_succ]
 refine wpAnyH_ready (rs := [5]) (by kernel_rfl) (by simp) ?_;refine AllReadyH.cons rfl (fun K hK => ?_) AllReadyH.nil;go_simp;refine (HC.out _ (below_two HB1.out hHeld.1)).mono ?_;rintro e wA ⟨⟨vo, n, vc, uo, k, uc, rfl, hn, ho, hk, hp⟩, hbA⟩;unfold rpC;obtain ⟨bd, hbd⟩ : ∃ bd : ByteArray, (⟨A.b.toArray⟩ : ByteArray) = bd := ⟨_, rfl⟩;obtain ⟨sd, hsd⟩ : ∃ sd : Int, A.s = sd := ⟨_, rfl⟩;rw [hbd, hsd];have HAA := hid' (Ar.keep (show Ar w3.drew rb _ _ from HA3.out) hbA);have HBB := hid' (below_two (show Below w2.heap.size w2 w3.drew from HBB3.out.drew) hbA);have HO := hid' (own_base19 ho HBB3.out.size);have HP := hid' (own_base19 hp HBB3.out.size);clear ho hp;go_wp2_with fail;refine hK.out _ _ ⟨below_two hHeld.1 hbA, Ar.keep hHeld.2 hbA⟩ (fun hHeld2 => ?_);clear hK K
 try simp only [Act.put, List.setIfInBounds_toArray, List.set_cons_zero, List.set_cons_succ]
 refine wpAnyH_ready (rs := [6]) (by kernel_rfl) (by simp) ?_;refine AllReadyH.cons rfl (fun K hK => ?_) AllReadyH.nil;refine step_store19 rfl 38 _ _ rfl rb #[.int .i64 sd, .slice vo n vc, .string bd, .slice uo k uc] rfl rfl 38 _ (HAA.out) sizeRp19 rfl (by simp [Value.oneCell']) ?_;intro wf hawf huwf;refine hK.out _ _ (⟨hHeld2.1.trans (huwf.below HRB.out), huwf.keep hHeld2.2 (fun e => HNE.out e)⟩) (fun _ => ?_);clear hK K
 try simp only [Act.put]
 refine wpAnyH_done (by kernel_rfl) ?_ _;have HWF := hid' hawf;have HUF := hid' huwf;go_wp2_with fail;have hld := ldRp19 HWF.out;exact bodyPost_ret (v := .agg #[.int .i64 sd, .slice vo n vc, .string bd, .slice uo k uc]) (by simp [results, Tryz.results39, asAddr, hld]) rfl (rp_done20 A hsd hbd (below_two HB1.out HB2.out) HRL.out (Nat.le_trans HB1.out.size HRB.out) HBB.out hn HO.out hk HP.out HUF.out)

theorem chandled20 (x : Fr18) (h1 : 1 ≤ x.1.h) (h4 : x.1.h ≤ 4) (B sb : Nat) (KD : Nat → Prop) (q : Int) (es : List Dk.En) (r : Ap.Rq) (fv tv : Value) (cl : ByteArray) (po : Option Addr) (pm pc B0 : Nat) (ps : List (List UInt8 × List UInt8)) (w : World) (hc : CS w B sb KD q es) (hf : FW w fv r.fs) (htv : FW w tv r.ts) (hq : BQ20 r) (hr : x.2.size ≤ 1048576) (ht : cl.size ≤ 1048576) (hes : ∀ e ∈ es, EN19 e) (hm : ps.length = pm) (h : w.ownsRow B0 165 2 (.slice po pm pc) pm (qC18 ps)) (hpn : pm ≤ 4194305) (hps : ∀ c ∈ ps, c.1.length ≤ 4194304 ∧ c.2.length ≤ 1048576) (hT : TB19 w) :
  Calls Tryz.prog 39 #[.agg (cC20 (.pointer (some ⟨sb, 0, none⟩)) r fv tv cl x.2 (.slice po pm pc)), .int .u8 x.1.h] w fun e w' => RP20 w w' e (Ap.by' x es r cl.data.toList ps) := by
 have hh : x.1.h = 1 ∨ x.1.h = 2 ∨ x.1.h = 3 ∨ x.1.h = 4 := by omega
 unfold Ap.by'
 rcases hh with hh | hh | hh | hh
 ·rw [hh];exact chandled120 _ _ r fv tv cl x.2 _ w (fun W hb => cfile20 B sb KD q es r fv tv cl x.2 po pm pc B0 ps W (hc.keep hb) (hf.keep hb) hq.fl hq.fz hr ht hes hm (own_kp17 h hb) (fun c hc => (hps c hc).2) (tb_below19 hT hb))
 ·rw [hh];exact chandled220 _ _ r fv tv cl x.2 _ w (fun W hb => cecho20 _ r fv tv cl x.2 _ W (hf.keep hb) (htv.keep hb) hq.fl hq.tl)
 ·rw [hh];exact chandled320 _ _ r fv tv cl x.2 _ w (fun W hb => chello20 _ r fv tv cl x.2 po pm pc B0 ps W hm (own_kp17 h hb) hpn (fun c hc => ⟨(hps c hc).1, Nat.le_trans (hps c hc).2 (by decide)⟩))
 ·rw [hh];exact chandled420 _ _ r fv tv cl x.2 _ w (fun W hb => cgone20 _ r fv tv cl x.2 _ W (tb_below19 hT hb))

end Go.Proofs.YthhpejgpfaikaabGreatDoor
