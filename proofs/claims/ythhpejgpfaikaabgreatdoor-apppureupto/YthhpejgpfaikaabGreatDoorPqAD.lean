/-
  What the row stands on.
-/
import Derived.Deep.RegionHeld3
import Derived.Test.YthhpejgpfaikaabGreatDoorPqAB
import Derived.Test.YthhpejgpfaikaabGreatDoorPqAC
import Derived.Test.YthhpejgpfaikaabGreatDoorShCont
import Derived.Shelf.SlicesQ.IndexFunc
import Derived.Laws.StructEq
namespace Go.Proofs.YthhpejgpfaikaabGreatDoor
set_option maxHeartbeats 64000000
open Go.RowKit

namespace Tg
def mk (q : Int) (n : Nat) : List UInt8 := 34 :: (Lib.itoa (max q 0) ++ 45 :: (Lib.itoa (n : Int) ++ [34]))
def mkB (q : Int) (n : Nat) : ByteArray := ⟨(mk q n).toArray⟩
theorem mk_cat (a b : List UInt8) : ((((⟨#[34]⟩ : ByteArray) ++ ⟨a.toArray⟩) ++ ⟨#[45]⟩) ++ ⟨b.toArray⟩) ++ ⟨#[34]⟩ = ⟨(34 :: (a ++ 45 :: (b ++ [34]))).toArray⟩ := by
 apply ByteArray.ext; simp
end Tg
def flC (y : ByteArray) (t q : Int) : Array Value := #[.string y, .int .i64 t, .int .i64 q]

set_option maxRecDepth 20000 in
theorem cmake15 (y : ByteArray) (t q : Int) (w : World) (hy : y.size ≤ 9223372036854775807) (q0 : -9223372036854775808 ≤ q) (q1 : q ≤ 9223372036854775807) (hT : Lib.TabIs Tryz.prog w "internal/strconv.uint64pow10" .u64 Lib.pow10Tab) :
  Calls Tryz.prog 152 #[.agg (flC y t q)] w fun e w' => e = .returned (.string (Tg.mkB q y.size)) ∧ Below w.heap.size w w' := by
 have HT := hid' hT;unfold flC;have HX : Hid (Ar (w.alloc (.cells #[.string y, .int .i64 t, .int .i64 q] 66)) w.heap.size 66 #[.string y, .int .i64 t, .int .i64 q]) := hid' (heap_alloc_last w _);have HB1 := hid' (bl_alloc w (.cells #[.string y, .int .i64 t, .int .i64 q] 66));clear hT;obtain ⟨a, ha⟩ : ∃ a, Lib.itoa (max q 0) = a := ⟨_, rfl⟩;obtain ⟨b, hb⟩ : ∃ b, Lib.itoa (y.size : Int) = b := ⟨_, rfl⟩;have la : a.length ≤ 21 := by rw [← ha]; exact Tx.itoa_le _ 19 (by omega)
 have lb : b.length ≤ 21 := by rw [← hb]; exact Tx.itoa_le _ 19 (by omega)
 have HAB : Hid (Tg.mkB q y.size = ⟨(34 :: (a ++ 45 :: (b ++ [34]))).toArray⟩) := hid' (by unfold Tg.mkB Tg.mk; rw [ha, hb]);have HA := hid' ha;have HBB := hid' hb;have k1 : ¬ 9223372036854775807 < 1 + a.length := by omega
 have k2 : ¬ 9223372036854775807 < 1 + a.length + 1 := by omega
 have k3 : ¬ 9223372036854775807 < 1 + a.length + 1 + b.length := by omega
 have k4 : ¬ 9223372036854775807 < 1 + a.length + 1 + b.length + 1 := by omega
 clear ha hb;go_enter Tryz.func152, Tryz.ntmps152;go_upto_region 1 with fail;obtain ⟨xb, hxb⟩ : ∃ xb, w.heap.size = xb := ⟨_, rfl⟩;rw [hxb] at HX ⊢;generalize w.alloc (.cells #[.string y, .int .i64 t, .int .i64 q] 66) = w1 at *;have hS : w1.cell? ⟨xb, 0, none⟩ = some (.string y) ∧ w1.cell? ⟨xb, 2, none⟩ = some (.int .i64 q) := ⟨HX.out.cell 0 _ rfl, HX.out.cell 2 _ rfl⟩;clear hxb;go_region_held3 (fun W => W.cell? ⟨xb, 0, none⟩ = some (.string y) ∧ W.cell? ⟨xb, 2, none⟩ = some (.int .i64 q)) (first | assumption) (first
  | (go_at_call 34; refine (decimal_any (max q 0) (by omega) (by omega) _ (tab_below HT.out HB1.out.drew)).mono ?_; rw [HA.out]; rintro e wa ⟨rfl, hba⟩; have hba2 : Below w1.heap.size w1 wa := ⟨hba.os, hba.tape, hba.output, hba.size, hba.block⟩; have HBa := hid' hba2; have hxa := HX.out.keep hba2; have hSa := And.intro (hxa.cell 0 _ rfl) (hxa.cell 2 _ rfl); have HXa := hid' hxa; clear hba hba2 hxa)
  | (go_at_call 34; refine (decimal_any (y.size : Int) (by omega) (by omega) _ (tab_below HT.out (below_two HB1.out HBa.out))).mono ?_; rw [HBB.out]; rintro e wb ⟨rfl, hbb⟩; have hxb := HXa.out.keep hbb; have hSb := And.intro (hxb.cell 0 _ rfl) (hxb.cell 2 _ rfl); have HBb := hid' (below_two HBa.out hbb); clear hbb hxb))
 go_wp2;go_ret;refine ⟨?_, below_two HB1.out HBb.out⟩;rw [HAB.out, ← Tg.mk_cat];rfl


namespace Tg
def strong (a b : Tag) : Bool := !a.w && !b.w && (a.v == b.v)
def weak (a b : Tag) : Bool := a.v == b.v
end Tg
def tA (t : Tg.Tag) : Value := .agg #[.bool t.w, .string ⟨t.v.toArray⟩]
theorem noStand15 : Tryz.prog.stoodInHeld 250 = false := by kernel_rfl
theorem fieldsOf15 : Tryz.prog.underlying 250 = some (.struct (Tryz.prog.fieldsOf 250)) := by kernel_rfl
set_option maxRecDepth 20000 in
theorem eqC15 (a b : Tg.Tag) (w : World) : (binOp .eql 250 (.agg #[.bool a.w, .string ⟨a.v.toArray⟩]) (.agg #[.bool b.w, .string ⟨b.v.toArray⟩])).run Tryz.prog w = .ok (.bool (a.w == b.w && a.v == b.v)) w := by
 rw [run_eql_struct, show (10000 : Nat) = 9999 + 1 by rfl, run_equalIn_agg w 9999 250 _ _ fieldsOf15 noStand15];simp only [Program.fieldsOf, Tryz.underlying250];go_simp;by_cases h1 : a.w = b.w <;> by_cases h2 : a.v = b.v <;> simp [h1, h2]

theorem bl_two15 (w : World) (x y : Obj) : Below w.heap.size w ((w.alloc x).alloc y) := (bl_alloc w x).trans ((bl_alloc _ y).mono (by simp))

theorem cstrong15 (a b : Tg.Tag) (r : Bool) (hr : Tg.strong a b = r) (w : World) : Calls Tryz.prog 178 #[tA a, tA b] w fun e w' => e = .returned (.bool r) ∧ Below w.heap.size w w' := by
 unfold tA;have hq := eqC15 a b;unfold Tg.strong at hr;cases ha : a.w <;> cases hb : b.w <;> cases hv : (a.v == b.v)
 all_goals
  rw [ha, hb, hv] at hq hr;subst hr;go_enter Tryz.func178, Tryz.ntmps178;go_wp2;go_ret;exact ⟨rfl, bl_two15 _ _ _⟩

theorem cweak15 (a b : Tg.Tag) (r : Bool) (hr : Tg.weak a b = r) (w : World) : Calls Tryz.prog 149 #[tA a, tA b] w fun e w' => e = .returned (.bool r) ∧ Below w.heap.size w w' := by
 unfold tA;unfold Tg.weak at hr;go_enter Tryz.func149, Tryz.ntmps149;go_wp2;go_ret;exact ⟨by rw [← hr]; rfl, bl_two15 _ _ _⟩

theorem cown15 (y : ByteArray) (t q : Int) (m : List UInt8) (hm : Tg.mk q y.size = m) (w : World) (hy : y.size ≤ 9223372036854775807) (q0 : -9223372036854775808 ≤ q) (q1 : q ≤ 9223372036854775807) (hT : Lib.TabIs Tryz.prog w "internal/strconv.uint64pow10" .u64 Lib.pow10Tab) :
  Calls Tryz.prog 181 #[.agg (flC y t q)] w fun e w' => e = .returned (tA ⟨false, m⟩) ∧ Below w.heap.size w w' := by
 have HM : Hid (Tg.mkB q y.size = ⟨m.toArray⟩) := hid' (by unfold Tg.mkB; rw [hm]);have HT := hid' hT;unfold tA flC;clear hT hm;go_enter Tryz.func181, Tryz.ntmps181;go_upto_region 1 with fail;have HB1 := hid' (bl_two15 w (.cells #[.string y, .int .i64 t, .int .i64 q] 66) (.cells #[.bool false, .string ⟨#[]⟩] 250));have HX : Hid (Ar ((w.alloc (.cells #[.string y, .int .i64 t, .int .i64 q] 66)).alloc (.cells #[.bool false, .string ⟨#[]⟩] 250)) (w.alloc (.cells #[.string y, .int .i64 t, .int .i64 q] 66)).heap.size 250 #[.bool false, .string ⟨#[]⟩]) := hid' (heap_alloc_last _ _);have HF : Hid (Ar ((w.alloc (.cells #[.string y, .int .i64 t, .int .i64 q] 66)).alloc (.cells #[.bool false, .string ⟨#[]⟩] 250)) w.heap.size 66 #[.string y, .int .i64 t, .int .i64 q]) := hid' (Ar.keep (heap_alloc_last w _) (bl_alloc _ _));have hsz : (w.alloc (.cells #[.string y, .int .i64 t, .int .i64 q] 66)).heap.size = w.heap.size + 1 := by simp
 rw [hsz] at HX;obtain ⟨xb, hxb⟩ : ∃ xb, w.heap.size = xb := ⟨_, rfl⟩;have HG : Hid (w.heap.size ≤ xb + 1) := hid' (by omega);rw [hxb] at HX HF ⊢;generalize (w.alloc (.cells #[.string y, .int .i64 t, .int .i64 q] 66)).alloc (.cells #[.bool false, .string ⟨#[]⟩] 250) = w1 at *;have p0 := HF.out.cell 0 _ rfl;have p1 := HF.out.cell 1 _ rfl;have p2 := HF.out.cell 2 _ rfl;clear hsz hxb;go_wp2_with fail;refine (cmake15 y t q _ hy q0 q1 (tab_below HT.out HB1.out)).mono ?_;rintro e w2 ⟨rfl, hb2⟩;have HB2 := hid' (below_two HB1.out hb2);have HX2 := hid' (HX.out.keep hb2);rw [HM.out];clear hb2 p0 p1 p2;go_wp2_with (refine wpl_store 250 _ _ rfl rfl (xb + 1) #[.bool false, .string ⟨m.toArray⟩] (by rfl) (by rfl) _ _ HX2.out sizeC15 rfl (by simp [Value.oneCell']) ?_);intro w3 ha3 hu3;have hld := ldC15 ha3;have HB3 := hid' (HB2.out.trans (hu3.below HG.out));clear ha3 hu3;go_wp2;exact bodyPost_ret (v := .agg #[.bool false, .string ⟨m.toArray⟩]) (by simp [results, Tryz.results181, asAddr, hld]) rfl ⟨rfl, HB3.out⟩


set_option maxRecDepth 20000 in
theorem cinS15 (x : Tg.Tag) (m : List UInt8) (b7 b12 : Nat) (W : World) (h7 : W.cell? ⟨b7, 0, none⟩ = some (.func (.func 178) #[] #[])) (h0 : W.cell? ⟨b12, 0, none⟩ = some (.bool false)) (h1 : W.cell? ⟨b12, 1, none⟩ = some (.string ⟨m.toArray⟩)) (l7 : b7 < W.heap.size) (l12 : b12 < W.heap.size) :
  Calls Tryz.prog 183 #[.agg (tV x).toArray, .pointer (some ⟨b7, 0, none⟩), .pointer (some ⟨b12, 0, none⟩)] W fun e w' => e = .returned (.bool (Tg.strong x ⟨false, m⟩)) ∧ Below W.heap.size W w' := by
 obtain ⟨r, hr⟩ : ∃ r, Tg.strong x ⟨false, m⟩ = r := ⟨_, rfl⟩;have HC := hid' (fun W => cstrong15 x ⟨false, m⟩ r hr W);rw [hr];clear hr;unfold tA at HC;have HB1 := hid' (bl_alloc W (.cells #[.bool x.w, .string ⟨x.v.toArray⟩] 250));have HX : Hid (Ar (W.alloc (.cells #[.bool x.w, .string ⟨x.v.toArray⟩] 250)) W.heap.size 250 #[.bool x.w, .string ⟨x.v.toArray⟩]) := hid' (heap_alloc_last _ _);have k7 := (HB1.out.cell (p := ⟨b7, 0, none⟩) l7).trans h7;have k0 := (HB1.out.cell (p := ⟨b12, 0, none⟩) l12).trans h0;have k1 := (HB1.out.cell (p := ⟨b12, 1, none⟩) l12).trans h1;clear h7 h0 h1 l7 l12;unfold tV;go_enter Tryz.func183, Tryz.ntmps183;go_upto_region 1 with fail;obtain ⟨xb, hxb⟩ : ∃ xb, W.heap.size = xb := ⟨_, rfl⟩;rw [hxb] at HX ⊢;generalize W.alloc (.cells #[.bool x.w, .string ⟨x.v.toArray⟩] 250) = w1 at *;have p0 := HX.out.cell 0 _ rfl;have p1 := HX.out.cell 1 _ rfl;clear hxb;go_wp2_with fail;refine (HC.out _).mono ?_;rintro e w2 ⟨rfl, hb2⟩;have HB2 := hid' (below_two HB1.out hb2);clear hb2;go_wp2;go_ret;exact ⟨rfl, HB2.out⟩

set_option maxRecDepth 20000 in
theorem cnmS15 (s : ByteArray) (l : List UInt8) (hl : s.data.toList = l) (ts : List Tg.Tag) (hts : Tg.tags l = ts) (hst : Tg.star l = false) (hne : 0 < ts.length) (y : ByteArray) (t q : Int) (m : List UInt8) (hm : Tg.mk q y.size = m) (r : Bool) (hr : ts.any (fun x => Tg.strong x ⟨false, m⟩) = r) (w : World) (hs : s.size ≤ 1048576) (hy : y.size ≤ 9223372036854775807) (q0 : -9223372036854775808 ≤ q) (q1 : q ≤ 9223372036854775807) (hT : Lib.TabIs Tryz.prog w "internal/strconv.uint64pow10" .u64 Lib.pow10Tab) :
  Calls Tryz.prog 148 #[.string s, .agg (flC y t q), .bool true, .func (.func 178) #[] #[]] w fun e w' => e = .returned (.bool r) ∧ Below w.heap.size w w' := by
 have HT := hid' hT;have HP := hid' (fun W => cparse15 s l hl W hs);rw [hst, hts] at HP;have HNE := hid' hne;unfold flC;have HO := hid' (fun W (h : Lib.TabIs Tryz.prog W "internal/strconv.uint64pow10" .u64 Lib.pow10Tab) => cown15 y t q m hm W hy q0 q1 h);unfold flC tA at HO;have HR := hid' hr;clear hT hts hst hm hr hne;go_enter Tryz.func148, Tryz.ntmps148;go_upto_region 3 with fail;have HB1 := hid' (bl_two15 w (.cells #[.string y, .int .i64 t, .int .i64 q] 66) (.cells #[.func (.func 178) #[] #[]] 216));have H7 : Hid (Ar ((w.alloc (.cells #[.string y, .int .i64 t, .int .i64 q] 66)).alloc (.cells #[.func (.func 178) #[] #[]] 216)) (w.alloc (.cells #[.string y, .int .i64 t, .int .i64 q] 66)).heap.size 216 #[.func (.func 178) #[] #[]]) := hid' (heap_alloc_last _ _);have HF : Hid (Ar ((w.alloc (.cells #[.string y, .int .i64 t, .int .i64 q] 66)).alloc (.cells #[.func (.func 178) #[] #[]] 216)) w.heap.size 66 #[.string y, .int .i64 t, .int .i64 q]) := hid' (Ar.keep (heap_alloc_last w _) (bl_alloc _ _));have hsz : (w.alloc (.cells #[.string y, .int .i64 t, .int .i64 q] 66)).heap.size = w.heap.size + 1 := by simp
 rw [hsz] at H7;obtain ⟨xb, hxb⟩ : ∃ xb, w.heap.size = xb := ⟨_, rfl⟩;rw [hxb] at H7 HF ⊢;obtain ⟨b7, hb7⟩ : ∃ b7, xb + 1 = b7 := ⟨_, rfl⟩;rw [hb7] at H7 ⊢;generalize (w.alloc (.cells #[.string y, .int .i64 t, .int .i64 q] 66)).alloc (.cells #[.func (.func 178) #[] #[]] 216) = w1 at *;clear hsz hxb hb7;go_wp2_with fail;refine (HP.out _).mono ?_;rintro e w2 ⟨⟨n, ro, rc, rfl, hn, hown⟩, hb2⟩;have HB2 := hid' (below_two HB1.out hb2);have H72 := hid' (H7.out.keep hb2);have HF2 := hid' (HF.out.keep hb2);have HW2 := hid' hown;have HN := hid' hn;have hsome : ∃ g, ro = some ⟨g, 0, none⟩ := by
  rcases hown.2 with ⟨_, h0⟩ | ⟨g, cap, cur, h1, _⟩
  ·have := HNE.out; omega
  ·injection h1 with h1 _ _; exact ⟨g, h1⟩
 obtain ⟨g, rfl⟩ := hsome;clear hb2 hown hn;have p0 := HF2.out.cell 0 _ rfl;have p1 := HF2.out.cell 1 _ rfl;have p2 := HF2.out.cell 2 _ rfl;go_wp2_with fail;refine (HO.out _ (tab_below HT.out HB2.out)).mono ?_;rintro e w3 ⟨rfl, hb3⟩;have HB3 := hid' (below_two HB2.out hb3);have H73 := hid' (H72.out.keep hb3);have HW3 := hid' (own_keep15 HW2.out hb3);clear hb3 p0 p1 p2 HW2 H72 HF2;have HB4 := hid' (below_two HB3.out (bl_alloc w3 (.cells #[.bool false, .string ⟨m.toArray⟩] 250)));have H12 : Hid (Ar (w3.alloc (.cells #[.bool false, .string ⟨m.toArray⟩] 250)) w3.heap.size 250 #[.bool false, .string ⟨m.toArray⟩]) := hid' (heap_alloc_last _ _);have H74 := hid' (H73.out.keep (bl_alloc w3 (.cells #[.bool false, .string ⟨m.toArray⟩] 250)));have HW4 := hid' (HW3.out.alloc (.cells #[.bool false, .string ⟨m.toArray⟩] 250));go_upto_region 5 with fail;obtain ⟨b12, hb12⟩ : ∃ b12, w3.heap.size = b12 := ⟨_, rfl⟩;rw [hb12] at H12 ⊢;generalize w3.alloc (.cells #[.bool false, .string ⟨m.toArray⟩] 250) = w4 at *;clear hb12;have hPred : ∀ W, Below w4.heap.size w4 W → PredBelow Tryz.prog 183 #[.pointer (some ⟨b7, 0, none⟩), .pointer (some ⟨b12, 0, none⟩)] (fun x : Tg.Tag => .agg (tV x).toArray) (fun x => Tg.strong x ⟨false, m⟩) W := fun W hW V x hV => by
  have a7 := (H74.out.keep hW).keep hV;have a12 := (H12.out.keep hW).keep hV;refine (cinS15 x m b7 b12 V (a7.cell 0 _ rfl) (a12.cell 0 _ rfl) (a12.cell 1 _ rfl) a7.lt a12.lt).mono ?_;rintro e w' ⟨rfl, hb⟩;exact ⟨rfl, below_two hV hb⟩
 have hgl : g < w4.heap.size := own_lt HW4.out g rfl;have hn9 : n ≤ 9223372036854775807 := by
  rcases HW4.out.2 with ⟨_, h0⟩ | ⟨_, _, _, _, _, _, h4, h5, _⟩
  ·omega
  ·unfold maxLen at h5; omega
 haveI : Inhabited Tg.Tag := ⟨⟨false, []⟩⟩
 have hcells : ∀ W, Below w4.heap.size w4 W → ∀ j, j < ts.length → ∀ i v, (tV ts[j]!)[i]? = some v → W.cell? ⟨g, 0 + j * 2 + i, none⟩ = some v := fun W hW j hj i v hv => by
  have hi : i < 2 := (List.getElem?_eq_some_iff.1 hv).1;have hg2 : ts[j]? = some ts[j]! := by rw [List.getElem?_eq_getElem hj, List.getElem!_eq_getElem?_getD, List.getElem?_eq_getElem hj]; rfl
  have h1 := t_at ts j _ hg2 i hi;have h2 := HW4.out.cells (g := g) rfl _ v (h1.trans hv);rw [Addr.add_mid] at h2;rw [Nat.zero_add] at h2 ⊢;exact (hW.cell (p := ⟨g, j * 2 + i, none⟩) hgl).trans h2
 have hcon : ∀ W, Below w4.heap.size w4 W → Calls Tryz.prog 182 #[.slice (some ⟨g, 0, none⟩) n rc, .func (.func 183) #[] #[.pointer (some ⟨b7, 0, none⟩), .pointer (some ⟨b12, 0, none⟩)]] W fun e w' => e = .returned (.bool r) ∧ Below W.heap.size W w' := fun W hW => by
  have := AnyQ.slices_ContainsFunc Tryz.lcont 2 Tryz.isAgg250 Tryz.sizeOf250 tV (fun _ => rfl) (fun x => Tg.strong x ⟨false, m⟩) 183 _ (enters_of Tryz.func183 (by kernel_rfl) rfl) g 0 n rc ts W (hPred W hW) (by rw [HN.out]; exact Nat.le_refl _) hn9 (Nat.lt_of_lt_of_le hgl hW.size) (hcells W hW);rw [List.take_of_length_le (by rw [HN.out]; exact Nat.le_refl _), HR.out] at this;exact this
 have HCON := hid' hcon;clear hcon hcells hgl hPred hn9;go_wp2_with fail;refine (HCON.out _ (Below.refl _ _)).mono ?_;rintro e w5 ⟨rfl, hb5⟩;have HB5 := hid' (below_two HB4.out hb5);clear hb5;go_wp2;go_ret;exact ⟨rfl, HB5.out⟩

set_option maxRecDepth 20000 in
theorem cinW15 (x : Tg.Tag) (m : List UInt8) (b7 b12 : Nat) (W : World) (h7 : W.cell? ⟨b7, 0, none⟩ = some (.func (.func 149) #[] #[])) (h0 : W.cell? ⟨b12, 0, none⟩ = some (.bool false)) (h1 : W.cell? ⟨b12, 1, none⟩ = some (.string ⟨m.toArray⟩)) (l7 : b7 < W.heap.size) (l12 : b12 < W.heap.size) :
  Calls Tryz.prog 183 #[.agg (tV x).toArray, .pointer (some ⟨b7, 0, none⟩), .pointer (some ⟨b12, 0, none⟩)] W fun e w' => e = .returned (.bool (Tg.weak x ⟨false, m⟩)) ∧ Below W.heap.size W w' := by
 obtain ⟨r, hr⟩ : ∃ r, Tg.weak x ⟨false, m⟩ = r := ⟨_, rfl⟩;have HC := hid' (fun W => cweak15 x ⟨false, m⟩ r hr W);rw [hr];clear hr;unfold tA at HC;have HB1 := hid' (bl_alloc W (.cells #[.bool x.w, .string ⟨x.v.toArray⟩] 250));have HX : Hid (Ar (W.alloc (.cells #[.bool x.w, .string ⟨x.v.toArray⟩] 250)) W.heap.size 250 #[.bool x.w, .string ⟨x.v.toArray⟩]) := hid' (heap_alloc_last _ _);have k7 := (HB1.out.cell (p := ⟨b7, 0, none⟩) l7).trans h7;have k0 := (HB1.out.cell (p := ⟨b12, 0, none⟩) l12).trans h0;have k1 := (HB1.out.cell (p := ⟨b12, 1, none⟩) l12).trans h1;clear h7 h0 h1 l7 l12;unfold tV;go_enter Tryz.func183, Tryz.ntmps183;go_upto_region 1 with fail;obtain ⟨xb, hxb⟩ : ∃ xb, W.heap.size = xb := ⟨_, rfl⟩;rw [hxb] at HX ⊢;generalize W.alloc (.cells #[.bool x.w, .string ⟨x.v.toArray⟩] 250) = w1 at *;have p0 := HX.out.cell 0 _ rfl;have p1 := HX.out.cell 1 _ rfl;clear hxb;go_wp2_with fail;refine (HC.out _).mono ?_;rintro e w2 ⟨rfl, hb2⟩;have HB2 := hid' (below_two HB1.out hb2);clear hb2;go_wp2;go_ret;exact ⟨rfl, HB2.out⟩

set_option maxRecDepth 20000 in
theorem cnmW15 (s : ByteArray) (l : List UInt8) (hl : s.data.toList = l) (ts : List Tg.Tag) (hts : Tg.tags l = ts) (hst : Tg.star l = false) (hne : 0 < ts.length) (y : ByteArray) (t q : Int) (m : List UInt8) (hm : Tg.mk q y.size = m) (r : Bool) (hr : ts.any (fun x => Tg.weak x ⟨false, m⟩) = r) (w : World) (hs : s.size ≤ 1048576) (hy : y.size ≤ 9223372036854775807) (q0 : -9223372036854775808 ≤ q) (q1 : q ≤ 9223372036854775807) (hT : Lib.TabIs Tryz.prog w "internal/strconv.uint64pow10" .u64 Lib.pow10Tab) :
  Calls Tryz.prog 148 #[.string s, .agg (flC y t q), .bool true, .func (.func 149) #[] #[]] w fun e w' => e = .returned (.bool r) ∧ Below w.heap.size w w' := by
 have HT := hid' hT;have HP := hid' (fun W => cparse15 s l hl W hs);rw [hst, hts] at HP;have HNE := hid' hne;unfold flC;have HO := hid' (fun W (h : Lib.TabIs Tryz.prog W "internal/strconv.uint64pow10" .u64 Lib.pow10Tab) => cown15 y t q m hm W hy q0 q1 h);unfold flC tA at HO;have HR := hid' hr;clear hT hts hst hm hr hne;go_enter Tryz.func148, Tryz.ntmps148;go_upto_region 3 with fail;have HB1 := hid' (bl_two15 w (.cells #[.string y, .int .i64 t, .int .i64 q] 66) (.cells #[.func (.func 149) #[] #[]] 216));have H7 : Hid (Ar ((w.alloc (.cells #[.string y, .int .i64 t, .int .i64 q] 66)).alloc (.cells #[.func (.func 149) #[] #[]] 216)) (w.alloc (.cells #[.string y, .int .i64 t, .int .i64 q] 66)).heap.size 216 #[.func (.func 149) #[] #[]]) := hid' (heap_alloc_last _ _);have HF : Hid (Ar ((w.alloc (.cells #[.string y, .int .i64 t, .int .i64 q] 66)).alloc (.cells #[.func (.func 149) #[] #[]] 216)) w.heap.size 66 #[.string y, .int .i64 t, .int .i64 q]) := hid' (Ar.keep (heap_alloc_last w _) (bl_alloc _ _));have hsz : (w.alloc (.cells #[.string y, .int .i64 t, .int .i64 q] 66)).heap.size = w.heap.size + 1 := by simp
 rw [hsz] at H7;obtain ⟨xb, hxb⟩ : ∃ xb, w.heap.size = xb := ⟨_, rfl⟩;rw [hxb] at H7 HF ⊢;obtain ⟨b7, hb7⟩ : ∃ b7, xb + 1 = b7 := ⟨_, rfl⟩;rw [hb7] at H7 ⊢;generalize (w.alloc (.cells #[.string y, .int .i64 t, .int .i64 q] 66)).alloc (.cells #[.func (.func 149) #[] #[]] 216) = w1 at *;clear hsz hxb hb7;go_wp2_with fail;refine (HP.out _).mono ?_;rintro e w2 ⟨⟨n, ro, rc, rfl, hn, hown⟩, hb2⟩;have HB2 := hid' (below_two HB1.out hb2);have H72 := hid' (H7.out.keep hb2);have HF2 := hid' (HF.out.keep hb2);have HW2 := hid' hown;have HN := hid' hn;have hsome : ∃ g, ro = some ⟨g, 0, none⟩ := by
  rcases hown.2 with ⟨_, h0⟩ | ⟨g, cap, cur, h1, _⟩
  ·have := HNE.out; omega
  ·injection h1 with h1 _ _; exact ⟨g, h1⟩
 obtain ⟨g, rfl⟩ := hsome;clear hb2 hown hn;have p0 := HF2.out.cell 0 _ rfl;have p1 := HF2.out.cell 1 _ rfl;have p2 := HF2.out.cell 2 _ rfl;go_wp2_with fail;refine (HO.out _ (tab_below HT.out HB2.out)).mono ?_;rintro e w3 ⟨rfl, hb3⟩;have HB3 := hid' (below_two HB2.out hb3);have H73 := hid' (H72.out.keep hb3);have HW3 := hid' (own_keep15 HW2.out hb3);clear hb3 p0 p1 p2 HW2 H72 HF2;have HB4 := hid' (below_two HB3.out (bl_alloc w3 (.cells #[.bool false, .string ⟨m.toArray⟩] 250)));have H12 : Hid (Ar (w3.alloc (.cells #[.bool false, .string ⟨m.toArray⟩] 250)) w3.heap.size 250 #[.bool false, .string ⟨m.toArray⟩]) := hid' (heap_alloc_last _ _);have H74 := hid' (H73.out.keep (bl_alloc w3 (.cells #[.bool false, .string ⟨m.toArray⟩] 250)));have HW4 := hid' (HW3.out.alloc (.cells #[.bool false, .string ⟨m.toArray⟩] 250));go_upto_region 5 with fail;obtain ⟨b12, hb12⟩ : ∃ b12, w3.heap.size = b12 := ⟨_, rfl⟩;rw [hb12] at H12 ⊢;generalize w3.alloc (.cells #[.bool false, .string ⟨m.toArray⟩] 250) = w4 at *;clear hb12;have hPred : ∀ W, Below w4.heap.size w4 W → PredBelow Tryz.prog 183 #[.pointer (some ⟨b7, 0, none⟩), .pointer (some ⟨b12, 0, none⟩)] (fun x : Tg.Tag => .agg (tV x).toArray) (fun x => Tg.weak x ⟨false, m⟩) W := fun W hW V x hV => by
  have a7 := (H74.out.keep hW).keep hV;have a12 := (H12.out.keep hW).keep hV;refine (cinW15 x m b7 b12 V (a7.cell 0 _ rfl) (a12.cell 0 _ rfl) (a12.cell 1 _ rfl) a7.lt a12.lt).mono ?_;rintro e w' ⟨rfl, hb⟩;exact ⟨rfl, below_two hV hb⟩
 have hgl : g < w4.heap.size := own_lt HW4.out g rfl;have hn9 : n ≤ 9223372036854775807 := by
  rcases HW4.out.2 with ⟨_, h0⟩ | ⟨_, _, _, _, _, _, h4, h5, _⟩
  ·omega
  ·unfold maxLen at h5; omega
 haveI : Inhabited Tg.Tag := ⟨⟨false, []⟩⟩
 have hcells : ∀ W, Below w4.heap.size w4 W → ∀ j, j < ts.length → ∀ i v, (tV ts[j]!)[i]? = some v → W.cell? ⟨g, 0 + j * 2 + i, none⟩ = some v := fun W hW j hj i v hv => by
  have hi : i < 2 := (List.getElem?_eq_some_iff.1 hv).1;have hg2 : ts[j]? = some ts[j]! := by rw [List.getElem?_eq_getElem hj, List.getElem!_eq_getElem?_getD, List.getElem?_eq_getElem hj]; rfl
  have h1 := t_at ts j _ hg2 i hi;have h2 := HW4.out.cells (g := g) rfl _ v (h1.trans hv);rw [Addr.add_mid] at h2;rw [Nat.zero_add] at h2 ⊢;exact (hW.cell (p := ⟨g, j * 2 + i, none⟩) hgl).trans h2
 have hcon : ∀ W, Below w4.heap.size w4 W → Calls Tryz.prog 182 #[.slice (some ⟨g, 0, none⟩) n rc, .func (.func 183) #[] #[.pointer (some ⟨b7, 0, none⟩), .pointer (some ⟨b12, 0, none⟩)]] W fun e w' => e = .returned (.bool r) ∧ Below W.heap.size W w' := fun W hW => by
  have := AnyQ.slices_ContainsFunc Tryz.lcont 2 Tryz.isAgg250 Tryz.sizeOf250 tV (fun _ => rfl) (fun x => Tg.weak x ⟨false, m⟩) 183 _ (enters_of Tryz.func183 (by kernel_rfl) rfl) g 0 n rc ts W (hPred W hW) (by rw [HN.out]; exact Nat.le_refl _) hn9 (Nat.lt_of_lt_of_le hgl hW.size) (hcells W hW);rw [List.take_of_length_le (by rw [HN.out]; exact Nat.le_refl _), HR.out] at this;exact this
 have HCON := hid' hcon;clear hcon hcells hgl hPred hn9;go_wp2_with fail;refine (HCON.out _ (Below.refl _ _)).mono ?_;rintro e w5 ⟨rfl, hb5⟩;have HB5 := hid' (below_two HB4.out hb5);clear hb5;go_wp2;go_ret;exact ⟨rfl, HB5.out⟩


theorem infoS15 : (Tryz.prog.info? 9).map (fun i => (i.zero, i.size, i.bytes)) = some (some (.string ⟨#[]⟩), 1, 16) := by kernel_rfl
theorem one_cell15 (w : World) (T : TypeId) (x0 : Value) : ∀ j v, [x0][j]? = some v → (w.alloc (.cells #[x0] T)).cell? ((⟨w.heap.size, 0, none⟩ : Addr).add j) = some v := by
 intro j v h;rw [Addr.add_mid, Nat.zero_add];have hA : Ar (w.alloc (.cells #[x0] T)) w.heap.size T #[x0] := heap_alloc_last w _;exact hA.cell j v (by simpa using h)


theorem qS15 (w : World) (a : Option Addr) (n c : Nat) : (binOp .neq 76 (.slice a n c) (.slice none 0 0)).run Tryz.prog w = .ok (.bool (!a.isNone)) w := run_neq_slice_nil_any w _ _ a n c 0 0 Tryz.underlying76

end Go.Proofs.YthhpejgpfaikaabGreatDoor
