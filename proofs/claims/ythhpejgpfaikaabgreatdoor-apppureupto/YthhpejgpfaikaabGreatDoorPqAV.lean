/-
  What the row stands on.
-/
import Derived.Test.YthhpejgpfaikaabGreatDoorPqAK
import Derived.Test.YthhpejgpfaikaabGreatDoorPqAL
import Derived.Test.YthhpejgpfaikaabGreatDoorPqAU
import Derived.Test.YthhpejgpfaikaabGreatDoorPqAR
namespace Go.Proofs.YthhpejgpfaikaabGreatDoor
set_option maxHeartbeats 64000000
open Go.RowKit

set_option maxRecDepth 20000 in
theorem cseveral19 (p y : ByteArray) (t q : Int) (he : EN19 ⟨p, y, t, q⟩) (hp : p.size ≤ 140737488355328) (ro : Option Addr) (m rc : Nat) (rs : List Rg.Rn) (hm : rs.length = m) (hmb : m ≤ 1048576) (w : World) (hrs : RW16 w ro rs) (hT : TB19 w) :
  Calls Tryz.prog 158 #[.agg #[.string p, .string y, .int .i64 t, .int .i64 q], .slice ro m rc] w fun e w' => RP19 w w' e (Fs.sev (Fs.kind p.data.toList) ⟨p, y, t, q⟩ rs) := by
 have hy := he.b;simp only at hy;obtain ⟨ln, hln⟩ : ∃ ln : ByteArray, ⟨(Fs.line y.data.toList).toArray⟩ = ln := ⟨_, rfl⟩;have hll : Fs.line y.data.toList = ln.data.toList := by rw [← hln]
 have hls : ln.size ≤ 25 := by
  rw [Lib.size_eq, ← hll];obtain ⟨q, hq, e⟩ := Fs.line_ex y.data.toList;rw [e];exact Rg.line_len _ (Nat.lt_of_le_of_lt hq.2.2 (by have := Lib.size_eq y; omega))
 have HLN : Hid (∀ W, TB19 W → Calls Tryz.prog 191 #[.string y] W fun e w' => e = .returned (.string ln) ∧ Below W.heap.size W w') := hid' (fun W h => by
  obtain ⟨q, hq, e⟩ := Fs.line_ex y.data.toList;have := cline16 y q hq W (by omega) h;rw [← e, hln] at this;exact this)
 have HT := hid' hT;have HK := hid' (fun W => ckind19 p _ rfl hp W);obtain ⟨kd, hkd⟩ : ∃ kd : ByteArray, ⟨(Fs.kind p.data.toList).toArray⟩ = kd := ⟨_, rfl⟩;have hkl : Fs.kind p.data.toList = kd.data.toList := by rw [← hkd]
 have hks : kd.size ≤ 24 := by rw [Lib.size_eq, ← hkl]; exact Fs.kind_le _
 rw [hkd] at HK;have HP := hid' (fun W (h : TB19 W) (hr : RW16 W ro rs) => cparts16 y kd ln ro m rc rs hm hmb W hr (by omega) (by omega) (by omega) h);have HH := hid' (fun W (h : TB19 W) => cheads19 p y t q he (⟨#[109, 117, 108, 116, 105, 112, 97, 114, 116, 47, 98, 121, 116, 101, 114, 97, 110, 103, 101, 115, 59, 32, 98, 111, 117, 110, 100, 97, 114, 121, 61]⟩ ++ ln) W h);unfold RP19 Fs.sev;rw [hll, hkl];have hmp : (⟨#[109, 117, 108, 116, 105, 112, 97, 114, 116, 47, 98, 121, 116, 101, 114, 97, 110, 103, 101, 115, 59, 32, 98, 111, 117, 110, 100, 97, 114, 121, 61]⟩ ++ ln : ByteArray).data.toList = Fs.vMP ++ ln.data.toList := by simp [ByteArray.data_append, Fs.vMP]
 rw [hmp] at HH;have HL := hid' (head_len19 (Fs.vMP ++ ln.data.toList) ⟨p, y, t, q⟩);generalize Fs.head (Fs.vMP ++ ln.data.toList) ⟨p, y, t, q⟩ = fs at *;simp only;obtain ⟨pt, hpt⟩ : ∃ pt : ByteArray, ⟨(Rg.partsS y.data.toList kd.data.toList ln.data.toList rs).toArray⟩ = pt := ⟨_, rfl⟩;rw [hpt] at HP ⊢;generalize Rg.partsE y.data.toList rs = pe at *;have hsum : 31 + ln.size ≤ 9223372036854775807 := by omega
 have HRS := hid' hrs;unfold rpC;clear hT he hp hkd hkl hln hll hpt hls hks hm hmb hmp hrs hy;go_enter Tryz.func158, Tryz.ntmps158;go_wp2_with (refine wpl_box 68 _ rfl rfl #[.string p, .string y, .int .i64 t, .int .i64 q] (by kernel_rfl) ?_);intro xb w1 hg1 ha1 hb1;have HX1 := hid' ha1;have HB1 := hid' hb1;clear hg1 ha1 hb1;go_wp2_with (refine wpl_alloc 38 rfl rfl _ zeroRp19 ?_);intro rb w2 hrb ha2 hl2;have HA2 := hid' ha2;have HB2 := hid' (below_two HB1.out hl2);have HRB : Hid (w.heap.size ≤ rb) := hid' (Nat.le_trans HB1.out.size hrb);have HX2 := hid' (HX1.out.keep hl2);have x1 := HX2.out.cell 1 _ rfl;clear hrb ha2 hl2 HX1 HB1;go_wp2_with fail;refine (HLN.out w2 (tb_below19 HT.out HB2.out)).mono ?_;rintro e w3 ⟨rfl, hb3⟩;have HX3 := hid' (HX2.out.keep hb3);have HA3 := hid' (HA2.out.keep hb3);have HB3 := hid' (below_two HB2.out hb3);have x0 := HX3.out.cell 0 _ rfl;clear hb3 x1 HX2 HA2 HB2;go_wp2_with fail;refine (HK.out w3).mono ?_;rintro e w4 ⟨rfl, hb4⟩;have HX4 := hid' (HX3.out.keep hb4);have HA4 := hid' (HA3.out.keep hb4);have HB4 := hid' (below_two HB3.out hb4);clear hb4 x0 HX3 HA3 HB3;go_wp2_with fail;refine (HP.out w4 (tb_below19 HT.out HB4.out) (HRS.out.below HB4.out)).mono ?_;rintro e w5 ⟨rfl, hb5⟩;have HX5 := hid' (HX4.out.keep hb5);have HA5 := hid' (HA4.out.keep hb5);have HB5 := hid' (below_two HB4.out hb5);have x0 := HX5.out.cell 0 _ rfl;have x1 := HX5.out.cell 1 _ rfl;have x2 := HX5.out.cell 2 _ rfl;have x3 := HX5.out.cell 3 _ rfl;clear hb5 HX4 HA4 HB4;go_wp2_with fail;refine (HH.out w5 (tb_below19 HT.out HB5.out)).mono ?_;rintro e w6 ⟨⟨vo, vc, rfl, ho6⟩, hb6⟩;have HO6 := hid' ho6;have HA6 := hid' (HA5.out.keep hb6);have HB6 := hid' (below_two HB5.out hb6);have HLA := hid' HA5.out.lt;have HW6 := hid' HB5.out.size;clear hb6 ho6 x0 x1 x2 x3 HX5 HA5 HB5;go_wp2_with (refine wpl_store 38 _ _ rfl rfl rb #[.int .i64 206, .slice vo 4 vc, .string pt, .slice none 0 0] (by kernel_rfl) (by kernel_rfl) _ _ HA6.out sizeRp19 rfl (by simp [Value.oneCell']) ?_);intro wf hwf huf;go_wp2;have hld := ldRp19 hwf;exact bodyPost_ret (v := .agg #[.int .i64 206, .slice vo 4 vc, .string pt, .slice none 0 0]) (by simp [results, Tryz.results158, asAddr, hld]) rfl ⟨⟨vo, 4, vc, rfl, HL.out, own_upd19 HO6.out huf HLA.out HW6.out⟩, HB6.out.trans (huf.below HRB.out)⟩

namespace Fs
def Lst (k : List T8) (x : ByteArray) : Prop := (k = [] ∧ x = ⟨#[]⟩) ∨ ∃ a, k = a ++ [x.data.toList]
theorem Lst.one {k : List T8} {x : ByteArray} (h : Lst k x) (hk : k.length = 1) : k = [x.data.toList] := by
 rcases h with ⟨rfl, _⟩ | ⟨a, rfl⟩
 ·cases hk
 ·rw [List.length_append, List.length_cons, List.length_nil] at hk;rw [List.eq_nil_of_length_eq_zero (show a.length = 0 by omega)];rfl
end Fs
def AP19 (on : Bool) (vs : List Fs.T8) (e : Ending) : Prop :=
 ∃ (x : ByteArray) (b : Bool), e = .returned (.tuple #[.string x, .bool b]) ∧ x.size ≤ 1048576 ∧ ((b = true ∧ on = true ∧ vs = [x.data.toList]) ∨ (b = false ∧ (on = false ∨ vs.length ≠ 1)))
theorem ap19_no {on : Bool} {vs : List Fs.T8} {x : ByteArray} (hx : x.size ≤ 1048576) (h : on = false ∨ vs.length ≠ 1) : AP19 on vs (.returned (.tuple #[.string x, .bool false])) := ⟨x, false, rfl, hx, .inr ⟨rfl, h⟩⟩
theorem ap19_yes {vs : List Fs.T8} {x : ByteArray} (hx : x.size ≤ 1048576) (h : vs = [x.data.toList]) : AP19 true vs (.returned (.tuple #[.string x, .bool true])) := ⟨x, true, rfl, hx, .inl ⟨rfl, rfl, h⟩⟩
theorem vsz_le19 {l : List Fd} {f : Fd} (h : f ∈ l) : f.v.size ≤ Tg.vsz l := by
 unfold Tg.vsz
 induction l with
 | nil => cases h
 | cons a r ih =>
  rcases List.mem_cons.1 h with rfl | h
  ·simp; omega
  ·have := ih h; simp only [List.map_cons, List.sum_cons]; omega

set_option maxRecDepth 20000 in
theorem casked19 (mt : ByteArray) (bG : Bool) (g1 : (mt.toList == [71, 69, 84]) = bG) (v : Value) (l : List Fd) (p y : ByteArray) (t q : Int) (he : EN19 ⟨p, y, t, q⟩) (w : World) (h : FW w v l) (hl : l.length ≤ 1048576) (hz : Tg.vsz l ≤ 1048576) (hT : TB19 w) :
  Calls Tryz.prog 117 #[.string mt, v, .agg #[.string y, .int .i64 t, .int .i64 q]] w fun e w' => AP19 (bG && Tg.sam l (Tg.mk q y.size) t) (Tg.vals l Fs.nRG) e ∧ Below w.heap.size w w' := by
 obtain ⟨ao, cap, rfl⟩ := h.shape;obtain ⟨hy, t0, t1, q0, q1⟩ := he;simp only at hy t0 t1 q0 q1;have HSM := hid' (fun W (hh : FW W (.slice ao l.length cap) l) (ht : TB19 W) => csame19 (.slice ao l.length cap) l y t q _ rfl W hh hl hz (by omega) (by omega) q1 ht.1);unfold flC at HSM;obtain ⟨n, hn⟩ : ∃ n, l.length = n := ⟨_, rfl⟩;rw [hn] at h hl HSM ⊢;have H := hid' h;have HN := hid' hn;have HLL := hid' hl;have HT := hid' hT;have HVS : Hid (∀ f ∈ l, f.v.size ≤ 1048576) := hid' (fun f hf => Nat.le_trans (vsz_le19 hf) hz);generalize Tg.sam l (Tg.mk q y.size) t = sm at *;clear h hn hT hz hy t0 t1 q0 q1;go_enter Tryz.func117, Tryz.ntmps117;go_wp2_with (refine wpl_box 66 _ rfl rfl #[.string y, .int .i64 t, .int .i64 q] (by kernel_rfl) ?_);intro xb w1 hg1 ha1 hb1;have HX1 := hid' ha1;have HB1 := hid' hb1;clear hg1 ha1 hb1;go_wp2;go_loopw [8, 9, 14] (fun s8 s9 s14 wr => ∃ (k c : Nat) (x : ByteArray), s14 = .int .i64 (k : Int) ∧ s9 = .int .i64 (c : Int) ∧ s8 = .string x ∧ k ≤ n ∧ Hid (c ≤ k) ∧ Hid (Fs.Lst (Tg.vals (l.take k) Fs.nRG) x) ∧ Hid ((Tg.vals (l.take k) Fs.nRG).length = c) ∧ Hid (x.size ≤ 1048576) ∧ Hid (Below w1.heap.size w1 wr)) (fun _ _ s14 _ => n - (intOf s14).toNat)
 case atStart => exact ⟨0, 0, ⟨#[]⟩, rfl, rfl, rfl, Nat.zero_le _, hid' (Nat.le_refl _), hid' (.inl ⟨rfl, rfl⟩), hid' rfl, hid' (by decide), hid' (Below.refl _ _)⟩
 case round =>
  obtain ⟨k, c, x, rfl, rfl, rfl, hk, HCK, HI, HC, HXS, HB⟩ := hrel;by_cases hlt : k < n
  ·have hlt2 : (k : Int) < (n : Int) := by omega
   obtain ⟨f, hf⟩ : ∃ f, l[k]? = some f := ⟨_, List.getElem?_eq_getElem (by rw [HN.out]; exact hlt)⟩;obtain ⟨a, hao, y0, y1⟩ := (H.out.keep (below_two HB1.out HB.out)).two k f hf;subst hao;have hvt := Tg.vals_take (nm := Fs.nRG) hf;have HFV := hid' (HVS.out f (List.mem_of_getElem? hf));have HB2 := hid' (below_two HB.out (bl_alloc19 wr (.cells #[.string f.n, .string f.v] 44)));have HW : Hid (Ar (wr.alloc (.cells #[.string f.n, .string f.v] 44)) wr.heap.size 44 #[.string f.n, .string f.v]) := hid' (heap_alloc_last wr _);have hcw : IntKind.i64.wrap ((c : Int) + 1) = ((c + 1 : Nat) : Int) := by rw [wrp _ (by omega) (by have := HCK.out; have := HLL.out; omega)]; omega
   have hnm : (f.n.data.toList == Fs.nRG) = (f.n.toList == [114, 97, 110, 103, 101]) := by rw [ba_list]; rfl
   rw [hnm] at hvt;go_upto_region 5 with fail;obtain ⟨fb, hfb⟩ : ∃ fb, wr.heap.size = fb := ⟨_, rfl⟩;rw [hfb] at HW ⊢;generalize wr.alloc (.cells #[.string f.n, .string f.v] 44) = w2 at *;clear hfb hnm hf y0 y1;have z0 := HW.out.cell 0 _ rfl;have z1 := HW.out.cell 1 _ rfl;cases c1 : (f.n.toList == [114, 97, 110, 103, 101])
   ·rw [c1] at hvt;simp only [Bool.false_eq_true, if_false, List.append_nil] at hvt;have HVT := hid' hvt;clear hvt hcw;go_wp2;go_roundw
    case rel => exact ⟨k + 1, c, x, by go_num, rfl, rfl, by omega, hid' (Nat.le_succ_of_le HCK.out), hid' (by rw [HVT.out]; exact HI.out), hid' (by rw [HVT.out]; exact HC.out), HXS, HB2⟩
    case measure => simp [intOf]; omega
   ·rw [c1] at hvt;simp only [if_true] at hvt;have HVT := hid' hvt;clear hvt;go_wp2;go_roundw
    case rel => exact ⟨k + 1, c + 1, f.v, by go_num, by simp, rfl, by omega, hid' (Nat.succ_le_succ HCK.out), hid' (.inr ⟨_, HVT.out⟩), hid' (by rw [HVT.out, List.length_append, HC.out]; rfl), HFV, HB2⟩
    case measure => simp [intOf]; omega
  ·obtain rfl : k = n := by omega
   have hlt2 : ¬ (k : Int) < (k : Int) := by omega
   have HV : Hid (Fs.Lst (Tg.vals l Fs.nRG) x) := hid' (by have := HI.out; rwa [List.take_of_length_le (by rw [HN.out]; exact Nat.le_refl _)] at this);have HVC : Hid ((Tg.vals l Fs.nRG).length = c) := hid' (by have := HC.out; rwa [List.take_of_length_le (by rw [HN.out]; exact Nat.le_refl _)] at this);have hx := HX1.out.keep HB.out;have x0 := hx.cell 0 _ rfl;have x1 := hx.cell 1 _ rfl;have x2 := hx.cell 2 _ rfl;clear hlt HI HC hx;cases bG
   ·go_wp2;go_ret2;exact ⟨ap19_no HXS.out (.inl rfl), below_two HB1.out HB.out⟩
   ·by_cases hc1 : c = 1
    ·have hc2 : ((c : Int) == 1) = true := by rw [hc1]; rfl
     have HVO := hid' (HV.out.one (by rw [HVC.out]; exact hc1));clear hc1;go_wp2_with fail;refine (HSM.out wr (H.out.keep (below_two HB1.out HB.out)) (tb_below19 HT.out (below_two HB1.out HB.out))).mono ?_;rintro e w3 ⟨rfl, hb3⟩;have HB3 := hid' (below_two (below_two HB1.out HB.out) hb3);clear hb3;go_wp2;go_ret2;cases sm
     ·exact ⟨ap19_no HXS.out (.inl rfl), HB3.out⟩
     ·exact ⟨ap19_yes HXS.out HVO.out, HB3.out⟩
    ·have hc2 : ((c : Int) == 1) = false := by simp; omega
     have HVO : Hid ((Tg.vals l Fs.nRG).length ≠ 1) := hid' (by rw [HVC.out]; exact hc1);clear hc1;go_wp2;go_ret2;exact ⟨ap19_no HXS.out (.inr HVO.out), below_two HB1.out HB.out⟩


namespace Pt
def dv (c : UInt8) : Int := if 0 ≤ hx c then hx c else 0
theorem dv_bd (c : UInt8) : 0 ≤ dv c ∧ dv c ≤ 15 := by
 have := hx_bd c;unfold dv;split <;> omega
theorem or16 (a b : Int) (ha0 : 0 ≤ a) (ha : a ≤ 15) (hb0 : 0 ≤ b) (hb : b ≤ 15) : Go.bits .or .u8 (a * 16) b = 16 * a + b := by
 obtain ⟨x, rfl⟩ : ∃ x : Nat, a = (x : Int) := ⟨a.toNat, by omega⟩;obtain ⟨y, rfl⟩ : ∃ y : Nat, b = (y : Int) := ⟨b.toNat, by omega⟩;have key : ∀ x : Fin 16, ∀ y : Fin 16, Go.bits .or .u8 ((x.val : Int) * 16) (y.val : Int) = 16 * (x.val : Int) + (y.val : Int) := by decide +kernel
 exact key ⟨x, by omega⟩ ⟨y, by omega⟩
end Pt

theorem cdig17 (c : UInt8) (w : World) : Calls Tryz.prog 104 #[.int .u8 (c.toNat : Int)] w fun e w' => e = .returned (.tuple #[.int .u8 (Pt.dv c), .bool (decide (0 ≤ Pt.hx c))]) ∧ w' = w := by
 obtain ⟨x, hx⟩ : ∃ x : Int, (c.toNat : Int) = x := ⟨_, rfl⟩;have hx0 : 0 ≤ x := by omega
 have hx1 : x < 256 := by have := c.toNat_lt; omega
 have HE : Hid (Pt.hx c = Tx.dgr x) := hid' (by unfold Pt.hx; rw [hx]);have HV : Hid (∀ v : Int, 0 ≤ v → Tx.dgr x = v → Pt.dv c = v ∧ decide (0 ≤ Pt.hx c) = true) := hid' (fun v h0 hv => by
  unfold Pt.dv;rw [HE.out, hv, if_pos h0, decide_eq_true h0]; exact ⟨rfl, rfl⟩)
 have HN : Hid (Tx.dgr x = -1 → Pt.dv c = 0 ∧ decide (0 ≤ Pt.hx c) = false) := hid' (fun hv => by
  unfold Pt.dv;rw [HE.out, hv]; exact ⟨rfl, rfl⟩)
 rw [hx];clear hx HE;by_cases h1 : 48 ≤ x
 ·by_cases h2 : x ≤ 57
  ·have HR := hid' (HV.out (x - 48) (by omega) (by unfold Tx.dgr Tx.digC; rw [decide_eq_true h1, decide_eq_true h2]; rfl));go_enter Tryz.func104, Tryz.ntmps104;go_wp2;go_ret2;exact ⟨by rw [HR.out.1, HR.out.2]; go_num, rfl⟩
  ·by_cases h5 : 65 ≤ x
   ·by_cases h6 : x ≤ 70
    ·have h3 : ¬ 97 ≤ x := by omega
     have HR := hid' (HV.out (x - 65 + 10) (by omega) (by unfold Tx.dgr Tx.digC; rw [decide_eq_true h1, decide_eq_false h2, decide_eq_false h3, decide_eq_true h5, decide_eq_true h6]; simp; omega));go_enter Tryz.func104, Tryz.ntmps104;go_wp2;go_ret2;exact ⟨by rw [HR.out.1, HR.out.2]; go_num, rfl⟩
    ·by_cases h3 : 97 ≤ x
     ·by_cases h4 : x ≤ 102
      ·have HR := hid' (HV.out (x - 97 + 10) (by omega) (by unfold Tx.dgr Tx.digC; rw [decide_eq_true h1, decide_eq_false h2, decide_eq_true h3, decide_eq_true h4]; simp; omega));go_enter Tryz.func104, Tryz.ntmps104;go_wp2;go_ret2;exact ⟨by rw [HR.out.1, HR.out.2]; go_num, rfl⟩
      ·have HR := hid' (HN.out (by unfold Tx.dgr Tx.digC; rw [decide_eq_true h1, decide_eq_false h2, decide_eq_true h3, decide_eq_false h4, decide_eq_true h5, decide_eq_false h6]; rfl));go_enter Tryz.func104, Tryz.ntmps104;go_wp2;go_ret2;exact ⟨by rw [HR.out.1, HR.out.2]; rfl, rfl⟩
     ·have HR := hid' (HN.out (by unfold Tx.dgr Tx.digC; rw [decide_eq_true h1, decide_eq_false h2, decide_eq_false h3, decide_eq_true h5, decide_eq_false h6]; rfl));go_enter Tryz.func104, Tryz.ntmps104;go_wp2;go_ret2;exact ⟨by rw [HR.out.1, HR.out.2]; rfl, rfl⟩
   ·have h3 : ¬ 97 ≤ x := by omega
    have HR := hid' (HN.out (by unfold Tx.dgr Tx.digC; rw [decide_eq_true h1, decide_eq_false h2, decide_eq_false h3, decide_eq_false h5]; rfl));go_enter Tryz.func104, Tryz.ntmps104;go_wp2;go_ret2;exact ⟨by rw [HR.out.1, HR.out.2]; rfl, rfl⟩
 ·have h3 : ¬ 97 ≤ x := by omega
  have h5 : ¬ 65 ≤ x := by omega
  have HR := hid' (HN.out (by unfold Tx.dgr Tx.digC; rw [decide_eq_false h1, decide_eq_false h3, decide_eq_false h5]; rfl));go_enter Tryz.func104, Tryz.ntmps104;go_wp2;go_ret2;exact ⟨by rw [HR.out.1, HR.out.2]; rfl, rfl⟩

theorem cread17s (s : ByteArray) (hs : s.size < 2) (w : World) : Calls Tryz.prog 76 #[.string s] w fun e w' => e = .returned (.tuple #[.int .u8 0, .bool false]) ∧ w' = w := by
 have h2 : (s.size : Int) < 2 := by omega
 go_enter Tryz.func76, Tryz.ntmps76;go_wp2;go_ret2;exact ⟨rfl, rfl⟩

theorem cread17 (s : ByteArray) (h0 : 0 < s.size) (h1 : 1 < s.size) (hb : s.size ≤ 9223372036854775807) (w : World) : Calls Tryz.prog 76 #[.string s] w fun e w' => e = .returned (.tuple #[.int .u8 ((16 : Int) * Pt.dv s[0] + Pt.dv s[1]), .bool (decide (0 ≤ Pt.hx s[0]) && decide (0 ≤ Pt.hx s[1]))]) ∧ w' = w := by
 have h2 : ¬ (s.size : Int) < 2 := by omega
 have g0 : (0 : Int) < (s.size : Int) := by omega
 have g1 : (1 : Int) < (s.size : Int) := by omega
 have H0 := hid' (fun W => cdig17 s[0] W);have H1 := hid' (fun W => cdig17 s[1] W);have b0 := Pt.dv_bd s[0];have b1 := Pt.dv_bd s[1];generalize Pt.dv s[0] = a at *;generalize Pt.dv s[1] = b at *;generalize decide (0 ≤ Pt.hx s[0]) = p at *;generalize decide (0 ≤ Pt.hx s[1]) = q at *;have HOR := hid' (Pt.or16 a b b0.1 b0.2 b1.1 b1.2);go_enter Tryz.func76, Tryz.ntmps76;go_wp2_with fail;refine (H0.out _).mono ?_;rintro e w1 ⟨rfl, hw⟩;subst w1;go_wp2_with fail;refine (H1.out _).mono ?_;rintro e w1 ⟨rfl, hw⟩;subst w1;cases p
 ·go_wp2;go_ret2;exact ⟨by rw [← HOR.out]; rfl, rfl⟩
 ·go_wp2;go_ret2;exact ⟨by rw [← HOR.out]; rfl, rfl⟩

theorem cescb17 (c : UInt8) (w : World) : Calls Tryz.prog 77 #[.int .u8 (c.toNat : Int)] w fun e w' => e = .returned (.bool (Pt.okb (c.toNat : Int))) ∧ w' = w := by
 obtain ⟨x, hx⟩ : ∃ x : Int, (c.toNat : Int) = x := ⟨_, rfl⟩;have hx0 : 0 ≤ x := by omega
 have hx1 : x < 256 := by have := c.toNat_lt; omega
 rw [hx];clear hx;have HE : Hid (Pt.okb x = (!decide (x < 32) && (!(x == 127) && !(x == 47)))) := hid' rfl;by_cases h1 : x < 32
 ·have g1 : ¬ 32 ≤ x := by omega
  rw [decide_eq_true h1] at HE;go_enter Tryz.func77, Tryz.ntmps77;go_wp2;go_ret;exact ⟨by rw [HE.out]; rfl, rfl⟩
 ·have g1 : 32 ≤ x := by omega
  rw [decide_eq_false h1] at HE;cases h2 : (x == 127)
  ·have g2 : (x != 127) = true := by unfold bne; rw [h2]; rfl
   rw [h2] at HE;cases h3 : (x == 47)
   ·have g3 : (x != 47) = true := by unfold bne; rw [h3]; rfl
    rw [h3] at HE;go_enter Tryz.func77, Tryz.ntmps77;go_wp2;go_ret;exact ⟨by rw [HE.out]; rfl, rfl⟩
   ·have g3 : (x != 47) = false := by unfold bne; rw [h3]; rfl
    rw [h3] at HE;go_enter Tryz.func77, Tryz.ntmps77;go_wp2;go_ret;exact ⟨by rw [HE.out]; rfl, rfl⟩
  ·have g2 : (x != 127) = false := by unfold bne; rw [h2]; rfl
   rw [h2] at HE;go_enter Tryz.func77, Tryz.ntmps77;go_wp2;go_ret;exact ⟨by rw [HE.out]; rfl, rfl⟩

namespace Pt
def plI (x : Int) : Bool := (decide (97 ≤ x) && decide (x ≤ 122)) || (decide (65 ≤ x) && decide (x ≤ 90)) || (decide (48 ≤ x) && decide (x ≤ 57)) || x == 45 || x == 46 || x == 95 || x == 126 || x == 47
theorem plI_is (c : UInt8) : plain c = plI (c.toNat : Int) := by
 have key : ∀ c : Fin 256, plain (UInt8.ofNat c.val) = plI ((UInt8.ofNat c.val).toNat : Int) := by decide +kernel
 have := key ⟨c.toNat, c.toNat_lt⟩;simpa using this
end Pt

theorem cbare17 (c : UInt8) (w : World) : Calls Tryz.prog 177 #[.int .u8 (c.toNat : Int)] w fun e w' => e = .returned (.bool (Pt.plain c)) ∧ w' = w := by
 have HE := hid' (Pt.plI_is c);obtain ⟨x, hx⟩ : ∃ x : Int, (c.toNat : Int) = x := ⟨_, rfl⟩;have hx0 : 0 ≤ x := by omega
 have hx1 : x < 256 := by have := c.toNat_lt; omega
 rw [hx] at HE ⊢;clear hx;by_cases a0 : 97 ≤ x
 ·by_cases b0 : x ≤ 122
  ·have HR : Hid (Pt.plain c = true) := hid' (by rw [HE.out]; unfold Pt.plI; rw [decide_eq_true a0, decide_eq_true b0]; rfl);go_enter Tryz.func177, Tryz.ntmps177;go_wp2;go_ret;exact ⟨by rw [HR.out]; rfl, rfl⟩
  ·by_cases a1 : 65 ≤ x
   ·by_cases b1 : x ≤ 90
    ·have HR : Hid (Pt.plain c = true) := hid' (by rw [HE.out]; unfold Pt.plI; rw [decide_eq_true a0, decide_eq_false b0, decide_eq_true a1, decide_eq_true b1]; rfl);go_enter Tryz.func177, Tryz.ntmps177;go_wp2;go_ret;exact ⟨by rw [HR.out]; rfl, rfl⟩
    ·by_cases a2 : 48 ≤ x
     ·by_cases b2 : x ≤ 57
      ·have HR : Hid (Pt.plain c = true) := hid' (by rw [HE.out]; unfold Pt.plI; rw [decide_eq_true a0, decide_eq_false b0, decide_eq_true a1, decide_eq_false b1, decide_eq_true a2, decide_eq_true b2]; rfl);go_enter Tryz.func177, Tryz.ntmps177;go_wp2;go_ret;exact ⟨by rw [HR.out]; rfl, rfl⟩
      ·cases e0 : (x == 45)
       ·cases e1 : (x == 46)
        ·cases e2 : (x == 95)
         ·cases e3 : (x == 126)
          ·cases e4 : (x == 47)
           ·have HR : Hid (Pt.plain c = false) := hid' (by rw [HE.out]; unfold Pt.plI; rw [decide_eq_true a0, decide_eq_false b0, decide_eq_true a1, decide_eq_false b1, decide_eq_true a2, decide_eq_false b2, e0, e1, e2, e3, e4]; rfl);go_enter Tryz.func177, Tryz.ntmps177;go_wp2;go_ret;exact ⟨by rw [HR.out]; rfl, rfl⟩
           ·have HR : Hid (Pt.plain c = true) := hid' (by rw [HE.out]; unfold Pt.plI; rw [decide_eq_true a0, decide_eq_false b0, decide_eq_true a1, decide_eq_false b1, decide_eq_true a2, decide_eq_false b2, e0, e1, e2, e3, e4]; rfl);go_enter Tryz.func177, Tryz.ntmps177;go_wp2;go_ret;exact ⟨by rw [HR.out]; rfl, rfl⟩
          ·have HR : Hid (Pt.plain c = true) := hid' (by rw [HE.out]; unfold Pt.plI; rw [decide_eq_true a0, decide_eq_false b0, decide_eq_true a1, decide_eq_false b1, decide_eq_true a2, decide_eq_false b2, e0, e1, e2, e3]; rfl);go_enter Tryz.func177, Tryz.ntmps177;go_wp2;go_ret;exact ⟨by rw [HR.out]; rfl, rfl⟩
         ·have HR : Hid (Pt.plain c = true) := hid' (by rw [HE.out]; unfold Pt.plI; rw [decide_eq_true a0, decide_eq_false b0, decide_eq_true a1, decide_eq_false b1, decide_eq_true a2, decide_eq_false b2, e0, e1, e2]; rfl);go_enter Tryz.func177, Tryz.ntmps177;go_wp2;go_ret;exact ⟨by rw [HR.out]; rfl, rfl⟩
        ·have HR : Hid (Pt.plain c = true) := hid' (by rw [HE.out]; unfold Pt.plI; rw [decide_eq_true a0, decide_eq_false b0, decide_eq_true a1, decide_eq_false b1, decide_eq_true a2, decide_eq_false b2, e0, e1]; rfl);go_enter Tryz.func177, Tryz.ntmps177;go_wp2;go_ret;exact ⟨by rw [HR.out]; rfl, rfl⟩
       ·have HR : Hid (Pt.plain c = true) := hid' (by rw [HE.out]; unfold Pt.plI; rw [decide_eq_true a0, decide_eq_false b0, decide_eq_true a1, decide_eq_false b1, decide_eq_true a2, decide_eq_false b2, e0]; rfl);go_enter Tryz.func177, Tryz.ntmps177;go_wp2;go_ret;exact ⟨by rw [HR.out]; rfl, rfl⟩
     ·cases e0 : (x == 45)
      ·cases e1 : (x == 46)
       ·cases e2 : (x == 95)
        ·cases e3 : (x == 126)
         ·cases e4 : (x == 47)
          ·have HR : Hid (Pt.plain c = false) := hid' (by rw [HE.out]; unfold Pt.plI; rw [decide_eq_true a0, decide_eq_false b0, decide_eq_true a1, decide_eq_false b1, decide_eq_false a2, e0, e1, e2, e3, e4]; rfl);go_enter Tryz.func177, Tryz.ntmps177;go_wp2;go_ret;exact ⟨by rw [HR.out]; rfl, rfl⟩
          ·have HR : Hid (Pt.plain c = true) := hid' (by rw [HE.out]; unfold Pt.plI; rw [decide_eq_true a0, decide_eq_false b0, decide_eq_true a1, decide_eq_false b1, decide_eq_false a2, e0, e1, e2, e3, e4]; rfl);go_enter Tryz.func177, Tryz.ntmps177;go_wp2;go_ret;exact ⟨by rw [HR.out]; rfl, rfl⟩
         ·have HR : Hid (Pt.plain c = true) := hid' (by rw [HE.out]; unfold Pt.plI; rw [decide_eq_true a0, decide_eq_false b0, decide_eq_true a1, decide_eq_false b1, decide_eq_false a2, e0, e1, e2, e3]; rfl);go_enter Tryz.func177, Tryz.ntmps177;go_wp2;go_ret;exact ⟨by rw [HR.out]; rfl, rfl⟩
        ·have HR : Hid (Pt.plain c = true) := hid' (by rw [HE.out]; unfold Pt.plI; rw [decide_eq_true a0, decide_eq_false b0, decide_eq_true a1, decide_eq_false b1, decide_eq_false a2, e0, e1, e2]; rfl);go_enter Tryz.func177, Tryz.ntmps177;go_wp2;go_ret;exact ⟨by rw [HR.out]; rfl, rfl⟩
       ·have HR : Hid (Pt.plain c = true) := hid' (by rw [HE.out]; unfold Pt.plI; rw [decide_eq_true a0, decide_eq_false b0, decide_eq_true a1, decide_eq_false b1, decide_eq_false a2, e0, e1]; rfl);go_enter Tryz.func177, Tryz.ntmps177;go_wp2;go_ret;exact ⟨by rw [HR.out]; rfl, rfl⟩
      ·have HR : Hid (Pt.plain c = true) := hid' (by rw [HE.out]; unfold Pt.plI; rw [decide_eq_true a0, decide_eq_false b0, decide_eq_true a1, decide_eq_false b1, decide_eq_false a2, e0]; rfl);go_enter Tryz.func177, Tryz.ntmps177;go_wp2;go_ret;exact ⟨by rw [HR.out]; rfl, rfl⟩
   ·by_cases a2 : 48 ≤ x
    ·by_cases b2 : x ≤ 57
     ·have HR : Hid (Pt.plain c = true) := hid' (by rw [HE.out]; unfold Pt.plI; rw [decide_eq_true a0, decide_eq_false b0, decide_eq_false a1, decide_eq_true a2, decide_eq_true b2]; rfl);go_enter Tryz.func177, Tryz.ntmps177;go_wp2;go_ret;exact ⟨by rw [HR.out]; rfl, rfl⟩
     ·cases e0 : (x == 45)
      ·cases e1 : (x == 46)
       ·cases e2 : (x == 95)
        ·cases e3 : (x == 126)
         ·cases e4 : (x == 47)
          ·have HR : Hid (Pt.plain c = false) := hid' (by rw [HE.out]; unfold Pt.plI; rw [decide_eq_true a0, decide_eq_false b0, decide_eq_false a1, decide_eq_true a2, decide_eq_false b2, e0, e1, e2, e3, e4]; rfl);go_enter Tryz.func177, Tryz.ntmps177;go_wp2;go_ret;exact ⟨by rw [HR.out]; rfl, rfl⟩
          ·have HR : Hid (Pt.plain c = true) := hid' (by rw [HE.out]; unfold Pt.plI; rw [decide_eq_true a0, decide_eq_false b0, decide_eq_false a1, decide_eq_true a2, decide_eq_false b2, e0, e1, e2, e3, e4]; rfl);go_enter Tryz.func177, Tryz.ntmps177;go_wp2;go_ret;exact ⟨by rw [HR.out]; rfl, rfl⟩
         ·have HR : Hid (Pt.plain c = true) := hid' (by rw [HE.out]; unfold Pt.plI; rw [decide_eq_true a0, decide_eq_false b0, decide_eq_false a1, decide_eq_true a2, decide_eq_false b2, e0, e1, e2, e3]; rfl);go_enter Tryz.func177, Tryz.ntmps177;go_wp2;go_ret;exact ⟨by rw [HR.out]; rfl, rfl⟩
        ·have HR : Hid (Pt.plain c = true) := hid' (by rw [HE.out]; unfold Pt.plI; rw [decide_eq_true a0, decide_eq_false b0, decide_eq_false a1, decide_eq_true a2, decide_eq_false b2, e0, e1, e2]; rfl);go_enter Tryz.func177, Tryz.ntmps177;go_wp2;go_ret;exact ⟨by rw [HR.out]; rfl, rfl⟩
       ·have HR : Hid (Pt.plain c = true) := hid' (by rw [HE.out]; unfold Pt.plI; rw [decide_eq_true a0, decide_eq_false b0, decide_eq_false a1, decide_eq_true a2, decide_eq_false b2, e0, e1]; rfl);go_enter Tryz.func177, Tryz.ntmps177;go_wp2;go_ret;exact ⟨by rw [HR.out]; rfl, rfl⟩
      ·have HR : Hid (Pt.plain c = true) := hid' (by rw [HE.out]; unfold Pt.plI; rw [decide_eq_true a0, decide_eq_false b0, decide_eq_false a1, decide_eq_true a2, decide_eq_false b2, e0]; rfl);go_enter Tryz.func177, Tryz.ntmps177;go_wp2;go_ret;exact ⟨by rw [HR.out]; rfl, rfl⟩
    ·cases e0 : (x == 45)
     ·cases e1 : (x == 46)
      ·cases e2 : (x == 95)
       ·cases e3 : (x == 126)
        ·cases e4 : (x == 47)
         ·have HR : Hid (Pt.plain c = false) := hid' (by rw [HE.out]; unfold Pt.plI; rw [decide_eq_true a0, decide_eq_false b0, decide_eq_false a1, decide_eq_false a2, e0, e1, e2, e3, e4]; rfl);go_enter Tryz.func177, Tryz.ntmps177;go_wp2;go_ret;exact ⟨by rw [HR.out]; rfl, rfl⟩
         ·have HR : Hid (Pt.plain c = true) := hid' (by rw [HE.out]; unfold Pt.plI; rw [decide_eq_true a0, decide_eq_false b0, decide_eq_false a1, decide_eq_false a2, e0, e1, e2, e3, e4]; rfl);go_enter Tryz.func177, Tryz.ntmps177;go_wp2;go_ret;exact ⟨by rw [HR.out]; rfl, rfl⟩
        ·have HR : Hid (Pt.plain c = true) := hid' (by rw [HE.out]; unfold Pt.plI; rw [decide_eq_true a0, decide_eq_false b0, decide_eq_false a1, decide_eq_false a2, e0, e1, e2, e3]; rfl);go_enter Tryz.func177, Tryz.ntmps177;go_wp2;go_ret;exact ⟨by rw [HR.out]; rfl, rfl⟩
       ·have HR : Hid (Pt.plain c = true) := hid' (by rw [HE.out]; unfold Pt.plI; rw [decide_eq_true a0, decide_eq_false b0, decide_eq_false a1, decide_eq_false a2, e0, e1, e2]; rfl);go_enter Tryz.func177, Tryz.ntmps177;go_wp2;go_ret;exact ⟨by rw [HR.out]; rfl, rfl⟩
      ·have HR : Hid (Pt.plain c = true) := hid' (by rw [HE.out]; unfold Pt.plI; rw [decide_eq_true a0, decide_eq_false b0, decide_eq_false a1, decide_eq_false a2, e0, e1]; rfl);go_enter Tryz.func177, Tryz.ntmps177;go_wp2;go_ret;exact ⟨by rw [HR.out]; rfl, rfl⟩
     ·have HR : Hid (Pt.plain c = true) := hid' (by rw [HE.out]; unfold Pt.plI; rw [decide_eq_true a0, decide_eq_false b0, decide_eq_false a1, decide_eq_false a2, e0]; rfl);go_enter Tryz.func177, Tryz.ntmps177;go_wp2;go_ret;exact ⟨by rw [HR.out]; rfl, rfl⟩
 ·by_cases a1 : 65 ≤ x
  ·by_cases b1 : x ≤ 90
   ·have HR : Hid (Pt.plain c = true) := hid' (by rw [HE.out]; unfold Pt.plI; rw [decide_eq_false a0, decide_eq_true a1, decide_eq_true b1]; rfl);go_enter Tryz.func177, Tryz.ntmps177;go_wp2;go_ret;exact ⟨by rw [HR.out]; rfl, rfl⟩
   ·by_cases a2 : 48 ≤ x
    ·by_cases b2 : x ≤ 57
     ·have HR : Hid (Pt.plain c = true) := hid' (by rw [HE.out]; unfold Pt.plI; rw [decide_eq_false a0, decide_eq_true a1, decide_eq_false b1, decide_eq_true a2, decide_eq_true b2]; rfl);go_enter Tryz.func177, Tryz.ntmps177;go_wp2;go_ret;exact ⟨by rw [HR.out]; rfl, rfl⟩
     ·cases e0 : (x == 45)
      ·cases e1 : (x == 46)
       ·cases e2 : (x == 95)
        ·cases e3 : (x == 126)
         ·cases e4 : (x == 47)
          ·have HR : Hid (Pt.plain c = false) := hid' (by rw [HE.out]; unfold Pt.plI; rw [decide_eq_false a0, decide_eq_true a1, decide_eq_false b1, decide_eq_true a2, decide_eq_false b2, e0, e1, e2, e3, e4]; rfl);go_enter Tryz.func177, Tryz.ntmps177;go_wp2;go_ret;exact ⟨by rw [HR.out]; rfl, rfl⟩
          ·have HR : Hid (Pt.plain c = true) := hid' (by rw [HE.out]; unfold Pt.plI; rw [decide_eq_false a0, decide_eq_true a1, decide_eq_false b1, decide_eq_true a2, decide_eq_false b2, e0, e1, e2, e3, e4]; rfl);go_enter Tryz.func177, Tryz.ntmps177;go_wp2;go_ret;exact ⟨by rw [HR.out]; rfl, rfl⟩
         ·have HR : Hid (Pt.plain c = true) := hid' (by rw [HE.out]; unfold Pt.plI; rw [decide_eq_false a0, decide_eq_true a1, decide_eq_false b1, decide_eq_true a2, decide_eq_false b2, e0, e1, e2, e3]; rfl);go_enter Tryz.func177, Tryz.ntmps177;go_wp2;go_ret;exact ⟨by rw [HR.out]; rfl, rfl⟩
        ·have HR : Hid (Pt.plain c = true) := hid' (by rw [HE.out]; unfold Pt.plI; rw [decide_eq_false a0, decide_eq_true a1, decide_eq_false b1, decide_eq_true a2, decide_eq_false b2, e0, e1, e2]; rfl);go_enter Tryz.func177, Tryz.ntmps177;go_wp2;go_ret;exact ⟨by rw [HR.out]; rfl, rfl⟩
       ·have HR : Hid (Pt.plain c = true) := hid' (by rw [HE.out]; unfold Pt.plI; rw [decide_eq_false a0, decide_eq_true a1, decide_eq_false b1, decide_eq_true a2, decide_eq_false b2, e0, e1]; rfl);go_enter Tryz.func177, Tryz.ntmps177;go_wp2;go_ret;exact ⟨by rw [HR.out]; rfl, rfl⟩
      ·have HR : Hid (Pt.plain c = true) := hid' (by rw [HE.out]; unfold Pt.plI; rw [decide_eq_false a0, decide_eq_true a1, decide_eq_false b1, decide_eq_true a2, decide_eq_false b2, e0]; rfl);go_enter Tryz.func177, Tryz.ntmps177;go_wp2;go_ret;exact ⟨by rw [HR.out]; rfl, rfl⟩
    ·cases e0 : (x == 45)
     ·cases e1 : (x == 46)
      ·cases e2 : (x == 95)
       ·cases e3 : (x == 126)
        ·cases e4 : (x == 47)
         ·have HR : Hid (Pt.plain c = false) := hid' (by rw [HE.out]; unfold Pt.plI; rw [decide_eq_false a0, decide_eq_true a1, decide_eq_false b1, decide_eq_false a2, e0, e1, e2, e3, e4]; rfl);go_enter Tryz.func177, Tryz.ntmps177;go_wp2;go_ret;exact ⟨by rw [HR.out]; rfl, rfl⟩
         ·have HR : Hid (Pt.plain c = true) := hid' (by rw [HE.out]; unfold Pt.plI; rw [decide_eq_false a0, decide_eq_true a1, decide_eq_false b1, decide_eq_false a2, e0, e1, e2, e3, e4]; rfl);go_enter Tryz.func177, Tryz.ntmps177;go_wp2;go_ret;exact ⟨by rw [HR.out]; rfl, rfl⟩
        ·have HR : Hid (Pt.plain c = true) := hid' (by rw [HE.out]; unfold Pt.plI; rw [decide_eq_false a0, decide_eq_true a1, decide_eq_false b1, decide_eq_false a2, e0, e1, e2, e3]; rfl);go_enter Tryz.func177, Tryz.ntmps177;go_wp2;go_ret;exact ⟨by rw [HR.out]; rfl, rfl⟩
       ·have HR : Hid (Pt.plain c = true) := hid' (by rw [HE.out]; unfold Pt.plI; rw [decide_eq_false a0, decide_eq_true a1, decide_eq_false b1, decide_eq_false a2, e0, e1, e2]; rfl);go_enter Tryz.func177, Tryz.ntmps177;go_wp2;go_ret;exact ⟨by rw [HR.out]; rfl, rfl⟩
      ·have HR : Hid (Pt.plain c = true) := hid' (by rw [HE.out]; unfold Pt.plI; rw [decide_eq_false a0, decide_eq_true a1, decide_eq_false b1, decide_eq_false a2, e0, e1]; rfl);go_enter Tryz.func177, Tryz.ntmps177;go_wp2;go_ret;exact ⟨by rw [HR.out]; rfl, rfl⟩
     ·have HR : Hid (Pt.plain c = true) := hid' (by rw [HE.out]; unfold Pt.plI; rw [decide_eq_false a0, decide_eq_true a1, decide_eq_false b1, decide_eq_false a2, e0]; rfl);go_enter Tryz.func177, Tryz.ntmps177;go_wp2;go_ret;exact ⟨by rw [HR.out]; rfl, rfl⟩
  ·by_cases a2 : 48 ≤ x
   ·by_cases b2 : x ≤ 57
    ·have HR : Hid (Pt.plain c = true) := hid' (by rw [HE.out]; unfold Pt.plI; rw [decide_eq_false a0, decide_eq_false a1, decide_eq_true a2, decide_eq_true b2]; rfl);go_enter Tryz.func177, Tryz.ntmps177;go_wp2;go_ret;exact ⟨by rw [HR.out]; rfl, rfl⟩
    ·cases e0 : (x == 45)
     ·cases e1 : (x == 46)
      ·cases e2 : (x == 95)
       ·cases e3 : (x == 126)
        ·cases e4 : (x == 47)
         ·have HR : Hid (Pt.plain c = false) := hid' (by rw [HE.out]; unfold Pt.plI; rw [decide_eq_false a0, decide_eq_false a1, decide_eq_true a2, decide_eq_false b2, e0, e1, e2, e3, e4]; rfl);go_enter Tryz.func177, Tryz.ntmps177;go_wp2;go_ret;exact ⟨by rw [HR.out]; rfl, rfl⟩
         ·have HR : Hid (Pt.plain c = true) := hid' (by rw [HE.out]; unfold Pt.plI; rw [decide_eq_false a0, decide_eq_false a1, decide_eq_true a2, decide_eq_false b2, e0, e1, e2, e3, e4]; rfl);go_enter Tryz.func177, Tryz.ntmps177;go_wp2;go_ret;exact ⟨by rw [HR.out]; rfl, rfl⟩
        ·have HR : Hid (Pt.plain c = true) := hid' (by rw [HE.out]; unfold Pt.plI; rw [decide_eq_false a0, decide_eq_false a1, decide_eq_true a2, decide_eq_false b2, e0, e1, e2, e3]; rfl);go_enter Tryz.func177, Tryz.ntmps177;go_wp2;go_ret;exact ⟨by rw [HR.out]; rfl, rfl⟩
       ·have HR : Hid (Pt.plain c = true) := hid' (by rw [HE.out]; unfold Pt.plI; rw [decide_eq_false a0, decide_eq_false a1, decide_eq_true a2, decide_eq_false b2, e0, e1, e2]; rfl);go_enter Tryz.func177, Tryz.ntmps177;go_wp2;go_ret;exact ⟨by rw [HR.out]; rfl, rfl⟩
      ·have HR : Hid (Pt.plain c = true) := hid' (by rw [HE.out]; unfold Pt.plI; rw [decide_eq_false a0, decide_eq_false a1, decide_eq_true a2, decide_eq_false b2, e0, e1]; rfl);go_enter Tryz.func177, Tryz.ntmps177;go_wp2;go_ret;exact ⟨by rw [HR.out]; rfl, rfl⟩
     ·have HR : Hid (Pt.plain c = true) := hid' (by rw [HE.out]; unfold Pt.plI; rw [decide_eq_false a0, decide_eq_false a1, decide_eq_true a2, decide_eq_false b2, e0]; rfl);go_enter Tryz.func177, Tryz.ntmps177;go_wp2;go_ret;exact ⟨by rw [HR.out]; rfl, rfl⟩
   ·cases e0 : (x == 45)
    ·cases e1 : (x == 46)
     ·cases e2 : (x == 95)
      ·cases e3 : (x == 126)
       ·cases e4 : (x == 47)
        ·have HR : Hid (Pt.plain c = false) := hid' (by rw [HE.out]; unfold Pt.plI; rw [decide_eq_false a0, decide_eq_false a1, decide_eq_false a2, e0, e1, e2, e3, e4]; rfl);go_enter Tryz.func177, Tryz.ntmps177;go_wp2;go_ret;exact ⟨by rw [HR.out]; rfl, rfl⟩
        ·have HR : Hid (Pt.plain c = true) := hid' (by rw [HE.out]; unfold Pt.plI; rw [decide_eq_false a0, decide_eq_false a1, decide_eq_false a2, e0, e1, e2, e3, e4]; rfl);go_enter Tryz.func177, Tryz.ntmps177;go_wp2;go_ret;exact ⟨by rw [HR.out]; rfl, rfl⟩
       ·have HR : Hid (Pt.plain c = true) := hid' (by rw [HE.out]; unfold Pt.plI; rw [decide_eq_false a0, decide_eq_false a1, decide_eq_false a2, e0, e1, e2, e3]; rfl);go_enter Tryz.func177, Tryz.ntmps177;go_wp2;go_ret;exact ⟨by rw [HR.out]; rfl, rfl⟩
      ·have HR : Hid (Pt.plain c = true) := hid' (by rw [HE.out]; unfold Pt.plI; rw [decide_eq_false a0, decide_eq_false a1, decide_eq_false a2, e0, e1, e2]; rfl);go_enter Tryz.func177, Tryz.ntmps177;go_wp2;go_ret;exact ⟨by rw [HR.out]; rfl, rfl⟩
     ·have HR : Hid (Pt.plain c = true) := hid' (by rw [HE.out]; unfold Pt.plI; rw [decide_eq_false a0, decide_eq_false a1, decide_eq_false a2, e0, e1]; rfl);go_enter Tryz.func177, Tryz.ntmps177;go_wp2;go_ret;exact ⟨by rw [HR.out]; rfl, rfl⟩
    ·have HR : Hid (Pt.plain c = true) := hid' (by rw [HE.out]; unfold Pt.plI; rw [decide_eq_false a0, decide_eq_false a1, decide_eq_false a2, e0]; rfl);go_enter Tryz.func177, Tryz.ntmps177;go_wp2;go_ret;exact ⟨by rw [HR.out]; rfl, rfl⟩

end Go.Proofs.YthhpejgpfaikaabGreatDoor
