/-
  What the row stands on.
-/
import Derived.Test.YthhpejgpfaikaabGreatDoorPqBA
import Derived.Test.YthhpejgpfaikaabGreatDoorPqAH
import Derived.RangeFuncBox
import Derived.RangeFuncLeaves
import Derived.RangeFuncNested
import Derived.RangeFuncBound
import Derived.RangeFuncCalls
import Derived.Shelf.Abstract
import Derived.Shelf.AbstractIn
import Derived.Shelf.RegionOpen
import Derived.WalkKit
import Derived.OwnWalkIn
import Derived.TacticsInMore
import Derived.LoopNIn
import Derived.LoopIn
import Derived.Maps.AppendAt
import Derived.Sort.OwnSorted
import Derived.Sort.KeysCollected
namespace Go.Proofs.YthhpejgpfaikaabGreatDoor
set_option maxHeartbeats 64000000
open Go.RowKit

theorem mkindP18 (s : ByteArray) (w : World) : (method 429 146 (.string s) "ostler/route.kind").run Tryz.prog w = .ok (286, (.string s)) w := by kernel_rfl
theorem mkindC18 (w : World) : (method 429 149 (.agg #[]) "ostler/route.kind").run Tryz.prog w = .ok (294, (.agg #[])) w := by kernel_rfl
theorem mkindR18 (w : World) : (method 429 148 (.agg #[]) "ostler/route.kind").run Tryz.prog w = .ok (290, (.agg #[])) w := by kernel_rfl
theorem mshapeP18 (s : ByteArray) (w : World) : (method 429 146 (.string s) "ostler/route.shape").run Tryz.prog w = .ok (287, (.string s)) w := by kernel_rfl
theorem mshapeC18 (w : World) : (method 429 149 (.agg #[]) "ostler/route.shape").run Tryz.prog w = .ok (295, (.agg #[])) w := by kernel_rfl
theorem mshapeR18 (w : World) : (method 429 148 (.agg #[]) "ostler/route.shape").run Tryz.prog w = .ok (291, (.agg #[])) w := by kernel_rfl
theorem mtakeP18 (s : ByteArray) (w : World) : (method 429 146 (.string s) "ostler/route.take").run Tryz.prog w = .ok (288, (.string s)) w := by kernel_rfl
theorem mtakeC18 (w : World) : (method 429 149 (.agg #[]) "ostler/route.take").run Tryz.prog w = .ok (296, (.agg #[])) w := by kernel_rfl
theorem mtakeR18 (w : World) : (method 429 148 (.agg #[]) "ostler/route.take").run Tryz.prog w = .ok (292, (.agg #[])) w := by kernel_rfl
theorem mcatchP18 (s : ByteArray) (w : World) : (method 429 146 (.string s) "ostler/route.catch").run Tryz.prog w = .ok (285, (.string s)) w := by kernel_rfl
theorem mcatchC18 (w : World) : (method 429 149 (.agg #[]) "ostler/route.catch").run Tryz.prog w = .ok (293, (.agg #[])) w := by kernel_rfl
theorem mcatchR18 (w : World) : (method 429 148 (.agg #[]) "ostler/route.catch").run Tryz.prog w = .ok (289, (.agg #[])) w := by kernel_rfl

theorem kindP18 (s : ByteArray) (w : World) : Calls Tryz.prog 286 #[.string s] w fun e w' => e = .returned (.int .u8 0) ∧ Below w.heap.size w w' := by
 go_enter Tryz.func286, Tryz.ntmps286;go_wp2;go_ret;exact ⟨rfl, Below.refl _ _⟩

theorem kindC18 (w : World) : Calls Tryz.prog 294 #[.agg #[]] w fun e w' => e = .returned (.int .u8 1) ∧ Below w.heap.size w w' := by
 go_enter Tryz.func294, Tryz.ntmps294;go_wp2;go_ret;exact ⟨rfl, bl_alloc17 w _⟩

theorem kindR18 (w : World) : Calls Tryz.prog 290 #[.agg #[]] w fun e w' => e = .returned (.int .u8 2) ∧ Below w.heap.size w w' := by
 go_enter Tryz.func290, Tryz.ntmps290;go_wp2;go_ret;exact ⟨rfl, bl_alloc17 w _⟩

theorem shapeP18 (s : ByteArray) (w : World) : Calls Tryz.prog 287 #[.string s] w fun e w' => e = .returned (.string s) ∧ Below w.heap.size w w' := by
 go_enter Tryz.func287, Tryz.ntmps287;go_wp2;go_ret;exact ⟨rfl, Below.refl _ _⟩

theorem shapeC18 (w : World) : Calls Tryz.prog 295 #[.agg #[]] w fun e w' => e = .returned (.string ⟨#[123, 125]⟩) ∧ Below w.heap.size w w' := by
 go_enter Tryz.func295, Tryz.ntmps295;go_wp2;go_ret;exact ⟨rfl, bl_alloc17 w _⟩

theorem shapeR18 (w : World) : Calls Tryz.prog 291 #[.agg #[]] w fun e w' => e = .returned (.string ⟨#[123, 46, 46, 46, 125]⟩) ∧ Below w.heap.size w w' := by
 go_enter Tryz.func291, Tryz.ntmps291;go_wp2;go_ret;exact ⟨rfl, bl_alloc17 w _⟩

theorem takeR18 (ao : Option Addr) (n cap : Nat) (w : World) : Calls Tryz.prog 292 #[.agg #[], .slice ao n cap] w fun e w' => e = .returned (.tuple #[.int .i64 (n : Int), .bool true]) ∧ Below w.heap.size w w' := by
 go_enter Tryz.func292, Tryz.ntmps292;go_wp2;go_ret2;exact ⟨rfl, bl_alloc17 w _⟩

theorem takeC0_18 (ao : Option Addr) (cap : Nat) (w : World) : Calls Tryz.prog 296 #[.agg #[], .slice ao 0 cap] w fun e w' => e = .returned (.tuple #[.int .i64 0, .bool false]) ∧ Below w.heap.size w w' := by
 go_enter Tryz.func296, Tryz.ntmps296;go_wp2;go_ret2;exact ⟨rfl, bl_alloc17 w _⟩

theorem takeC18 (ao : Option Addr) (n cap : Nat) (hn : 0 < n) (w : World) : Calls Tryz.prog 296 #[.agg #[], .slice ao n cap] w fun e w' => e = .returned (.tuple #[.int .i64 1, .bool true]) ∧ Below w.heap.size w w' := by
 have h1 : ((n : Int) == 0) = false := beq_false_of_ne (by omega);clear hn;go_enter Tryz.func296, Tryz.ntmps296;go_wp2;go_ret2;exact ⟨rfl, bl_alloc17 w _⟩
def TS18 (w : World) (ao : Option Addr) (k : List (List UInt8)) : Prop := ∀ (i : Nat) (p : List UInt8), k[i]? = some p → ∃ g o, ao = some ⟨g, o, none⟩ ∧ g < w.heap.size ∧ w.cell? ⟨g, o + i, none⟩ = some (.string ⟨p.toArray⟩)
theorem TS18.below {w w' : World} {ao : Option Addr} {k : List (List UInt8)} (h : TS18 w ao k) (hb : Below w.heap.size w w') : TS18 w' ao k := fun i p hp => by
 obtain ⟨g, o, h1, h2, h3⟩ := h i p hp;exact ⟨g, o, h1, Nat.lt_of_lt_of_le h2 hb.size, (hb.cell (p := ⟨g, o + i, none⟩) h2).trans h3⟩
theorem TS18.of {w : World} {ao : Option Addr} {k : List (List UInt8)} (h : SR17 w ao k) : TS18 w ao k := fun i p hp => by
 obtain ⟨g, h1, h2, h3⟩ := h i p hp;exact ⟨g, 0, h1, h2, by rw [Nat.zero_add]; exact h3⟩
theorem TS18.nil (w : World) (ao : Option Addr) : TS18 w ao [] := fun i p hp => by simp at hp

theorem takeP0_18 (s : ByteArray) (ao : Option Addr) (cap : Nat) (w : World) : Calls Tryz.prog 288 #[.string s, .slice ao 0 cap] w fun e w' => e = .returned (.tuple #[.int .i64 0, .bool false]) ∧ Below w.heap.size w w' := by
 go_enter Tryz.func288, Tryz.ntmps288;go_wp2;go_ret2;exact ⟨rfl, Below.refl _ _⟩

theorem takeP18 (s : ByteArray) (x : List UInt8) (hs : s.data.toList = x) (ao : Option Addr) (n cap : Nat) (r : List (List UInt8)) (hn : (x :: r).length = n) (w : World) (h : TS18 w ao (x :: r)) : Calls Tryz.prog 288 #[.string s, .slice ao n cap] w fun e w' => e = .returned (.tuple #[.int .i64 1, .bool true]) ∧ Below w.heap.size w w' := by
 obtain ⟨g, o, rfl, hg, hc⟩ := h 0 x rfl;rw [Nat.add_zero] at hc;have h1 : ((n : Int) == 0) = false := beq_false_of_ne (by simp at hn; omega);have h2 : (0 : Int) < (n : Int) := by simp at hn; omega
 obtain ⟨z, hz⟩ : ∃ z : ByteArray, (⟨x.toArray⟩ : ByteArray) = z := ⟨_, rfl⟩;rw [hz] at hc;have hzx : z.data.toList = x := by rw [← hz]
 have e1 : (z.toList == s.toList) = true := by rw [Lib.toList_data, Lib.toList_data, hs, hzx]; simp
 clear hn h hs hz hzx;go_enter Tryz.func288, Tryz.ntmps288;go_wp2;go_ret2;exact ⟨rfl, Below.refl _ _⟩

theorem takePn18 (s : ByteArray) (t x : List UInt8) (hs : s.data.toList = t) (hx : (x == t) = false) (ao : Option Addr) (n cap : Nat) (r : List (List UInt8)) (hn : (x :: r).length = n) (w : World) (h : TS18 w ao (x :: r)) : Calls Tryz.prog 288 #[.string s, .slice ao n cap] w fun e w' => e = .returned (.tuple #[.int .i64 0, .bool false]) ∧ Below w.heap.size w w' := by
 obtain ⟨g, o, rfl, hg, hc⟩ := h 0 x rfl;rw [Nat.add_zero] at hc;have h1 : ((n : Int) == 0) = false := beq_false_of_ne (by simp at hn; omega);have h2 : (0 : Int) < (n : Int) := by simp at hn; omega
 obtain ⟨z, hz⟩ : ∃ z : ByteArray, (⟨x.toArray⟩ : ByteArray) = z := ⟨_, rfl⟩;rw [hz] at hc;have hzx : z.data.toList = x := by rw [← hz]
 have e1 : (z.toList == s.toList) = false := by rw [Lib.toList_data, Lib.toList_data, hs, hzx]; exact hx
 clear hn h hs hz hzx hx;go_enter Tryz.func288, Tryz.ntmps288;go_wp2;go_ret2;exact ⟨rfl, Below.refl _ _⟩


theorem size_l18 (l : List UInt8) : (⟨l.toArray⟩ : ByteArray).size = l.length := by simp [ByteArray.size]
set_option maxRecDepth 100000 in
theorem wstrC18 (B b : Nat) (bs : List Value) (s : ByteArray) (w : World) (h : Lib.IsBuilder 123 5 B b bs w) (hlen : bs.length + s.size ≤ 140737488355328) (hBw : B ≤ w.heap.size) :
  Calls Tryz.prog 46 #[.pointer (some ⟨b, 0, none⟩), .string s] w fun e w' => e = .returned (.tuple #[.int .i64 (s.size : Int), .nilIface]) ∧ (Lib.IsBuilder 123 5 B b (bs ++ Lib.strCells s) w' ∧ Below B w w') := by
 obtain ⟨i0, hi, hz0, hz1, hz2⟩ := info_parts infoByte;have hcc : Calls Tryz.prog 72 #[.pointer (some ⟨b, 0, none⟩)] w fun e w' => e = .returned (.tuple #[]) ∧ (Lib.BuilderAt 123 5 B b (.pointer (some ⟨b, 0, none⟩)) bs w' ∧ Below B w w') := by
  rcases h with h | h
  ·refine (copyCheck_fresh b w h.cell0 h.shape h.frozen0).mono ?_;rintro e w' ⟨rfl, rfl⟩;exact ⟨rfl, h.used _, (Below.refl B w).setCell (p := ⟨b, 0, none⟩) h.1 _⟩
  ·refine (copyCheck_used b w h.cell0).mono ?_;rintro e w' ⟨rfl, rfl⟩;exact ⟨rfl, h, Below.refl B _⟩
 have HCC := hid' hcc;clear hcc h;go_enter Tryz.func46, Tryz.ntmps46;go_wp2_with fail;refine HCC.out.mono ?_;rintro e w1 ⟨rfl, h1, hb1⟩;clear HCC;obtain ⟨hB, v, hbk, hown, hne⟩ := h1;have c0 : w1.cell? ⟨b, 0, none⟩ = some (.pointer (some ⟨b, 0, none⟩)) := by rw [Lib.cell_of_heap hbk]; rfl
 have c1 : w1.cell? ⟨b, 1, none⟩ = some v := by rw [Lib.cell_of_heap hbk]; rfl
 go_wp2_with (at_builtin; refine Lib.wpList_append_own_string _ rfl _ _ 78 9 rfl B 5 i0 Tryz.underlying78 Tryz.underlying9 hi hz0 hz1 hz2 _ _ _ rfl hown s rfl ?c3 ?c4 ?c5 ?_)
 case c3 => unfold maxLen; omega
 case c4 => omega
 case c5 => have := hb1.size; omega
 intro v' w2 hown' hgrow _;have hlt : b < w1.heap.size := (Array.getElem?_eq_some_iff.1 hbk).1;have hb2 : w2.heap[b]? = some (.cells #[.pointer (some ⟨b, 0, none⟩), v] 123 (0, 0)) := by
  rw [hgrow.block b (by omega) (fun e => hne e.symm)];exact hbk
 have d1 : w2.cell? ⟨b, 1, none⟩ = some v := by rw [Lib.cell_of_heap hb2]; rfl
 have f1 : w2.frozen? ⟨b, 1, none⟩ = false := Lib.frozen_of_heap hb2 1;obtain ⟨ao, n', cap, rfl⟩ : ∃ ao n' cap, v' = .slice ao n' cap := by
  rcases hown'.2 with ⟨h, _⟩ | ⟨g, cap, cur, hv, _⟩
  ·exact ⟨_, _, _, h⟩
  ·exact ⟨_, _, _, hv⟩
 go_wp2;go_ret2;refine ⟨rfl, ?_, ?_⟩
 ·exact .inr (Lib.BuilderAt.put (T := 123) (e := 5) hB hb2 (bs' := bs ++ Lib.strCells s) (by simpa [Lib.strCells_length] using hown') (by decide))
 ·exact (hb1.grown hgrow (by have := hb1.size; omega) (fun k hk => (hown.lt k hk).1)).setCell (p := ⟨b, 1, none⟩) hB _

theorem wstr18 (B b : Nat) (l s : List UInt8) (w : World) (h : Bld w B b l) (hlen : l.length + s.length ≤ 140737488355328) (hBw : B ≤ w.heap.size) :
  Calls Tryz.prog 46 #[.pointer (some ⟨b, 0, none⟩), .string ⟨s.toArray⟩] w fun e w' => e = .returned (.tuple #[.int .i64 (s.length : Int), .nilIface]) ∧ (Bld w' B b (l ++ s) ∧ Below B w w') := by
 refine (wstrC18 B b (Lib.byteCells l) ⟨s.toArray⟩ w h (by rw [Lib.byteCells_length, size_l18]; exact hlen) hBw).mono ?_;rintro e w' ⟨rfl, h1, h2⟩;refine ⟨by rw [size_l18], ?_, h2⟩;have : Lib.byteCells (l ++ s) = Lib.byteCells l ++ Lib.strCells ⟨s.toArray⟩ := by simp [Lib.byteCells, Lib.strCells]
 unfold Bld;rw [this];exact h1

theorem str18 (B b : Nat) (l : List UInt8) (w : World) (h : Bld w B b l) (hBw : B ≤ w.heap.size) :
  Calls Tryz.prog 47 #[.pointer (some ⟨b, 0, none⟩)] w fun e w' => e = .returned (.string ⟨l.toArray⟩) ∧ Below B w w' := by
 refine (Tryz.Builder_String_any_k B b l w (Lib.IsBuilderF.of h) hBw).mono ?_;rintro e w' ⟨rfl, _, hb, ho⟩;exact ⟨rfl, hb⟩
theorem zeroBd18 : (Tryz.prog.info? 123).map (fun i => i.zero) = some (some (.agg #[.pointer none, .slice none 0 0])) := by kernel_rfl
def PU18 (w : World) (ao : Option Addr) (ps : List Rt.Prt) : Prop := ∀ (i : Nat) (p : Rt.Prt), ps[i]? = some p → ∃ g, ao = some ⟨g, 0, none⟩ ∧ g < w.heap.size ∧ w.cell? ⟨g, i, none⟩ = some (pU18 p)
theorem PU18.below {w w' : World} {ao : Option Addr} {ps : List Rt.Prt} (h : PU18 w ao ps) (hb : Below w.heap.size w w') : PU18 w' ao ps := fun i p hp => by
 obtain ⟨g, h1, h2, h3⟩ := h i p hp;exact ⟨g, h1, Nat.lt_of_lt_of_le h2 hb.size, (hb.cell (p := ⟨g, i, none⟩) h2).trans h3⟩

set_option maxRecDepth 20000 in
theorem cshape18 (ao : Option Addr) (n cap : Nat) (ps : List Rt.Prt) (hn : ps.length = n) (hnb : n ≤ 4194305) (hg : ∀ p ∈ ps, Rt.Gp p) (hsz : (Rt.txt ps).length ≤ 67108864) (w : World) (h : PU18 w ao ps) :
  Calls Tryz.prog 28 #[.slice ao n cap] w fun e w' => e = .returned (.string ⟨(Rt.txt ps).toArray⟩) ∧ Below w.heap.size w w' := by
 have H := hid' h;have HN := hid' hn;have HG := hid' hg;have HSZ := hid' hsz;clear h hn hg hsz;go_enter Tryz.func28, Tryz.ntmps28;go_wp2_with (refine wpl_alloc 123 rfl rfl _ zeroBd18 ?_);intro b w1 hb1 ha1 hl1;have HS1 : Hid (Bld w1 w.heap.size b [] ∧ Below w.heap.size w w1) := hid' ⟨bld_new w b w1 hb1 ha1, hl1⟩;clear hb1 ha1 hl1;go_wp2;go_loopw [8] (fun s8 wr => ∃ i : Nat, s8 = .int .i64 (i : Int) ∧ i ≤ n ∧ Hid (Bld wr w.heap.size b (Rt.txt (ps.take i))) ∧ Hid (Below w.heap.size w wr)) (fun s8 _ => n - (intOf s8).toNat)
 case atStart => exact ⟨0, rfl, Nat.zero_le _, hid' HS1.out.1, hid' HS1.out.2⟩
 case round =>
  obtain ⟨i, rfl, hi, HO, HB⟩ := hrel;by_cases hlt : i < n
  ·have hlt2 : (i : Int) < (n : Int) := by omega
   obtain ⟨p, hp⟩ : ∃ p, ps[i]? = some p := ⟨_, List.getElem?_eq_getElem (by rw [HN.out]; exact hlt)⟩;obtain ⟨g, rfl, hgl, y0⟩ := H.out i p hp;have y1 := (HB.out.cell (p := ⟨g, i, none⟩) hgl).trans y0;have HGP := hid' (HG.out p (List.mem_of_getElem? hp));have HTK : Hid (Rt.txt (ps.take (i + 1)) = Rt.txt (ps.take i) ++ [47] ++ Rt.shp p) := hid' (by rw [List.take_add_one, hp]; simp [Rt.txt]);have HTL : Hid ((Rt.txt (ps.take (i + 1))).length ≤ (Rt.txt ps).length) := hid' (by
    conv => rhs; rw [← List.take_append_drop (i + 1) ps]
    unfold Rt.txt;rw [List.flatMap_append, List.length_append];omega)
   have HW1 := hid' (wstr18 w.heap.size b (Rt.txt (ps.take i)) [47] wr HO.out (by have := HSZ.out; have := HTL.out; rw [HTK.out] at this; simp at this; simp; omega) HB.out.size);clear hp y0;rcases Rt.k3 HGP.out with hk | hk | hk
   ·have e1 : pU18 p = .iface 146 (.string ⟨p.t.toArray⟩) := by unfold pU18; rw [hk]; rfl
    rw [e1] at y1;have HSP : Hid (Rt.shp p = p.t) := hid' (by unfold Rt.shp; rw [hk]; rfl);have mm := mshapeP18 ⟨p.t.toArray⟩;go_wp2_with fail;refine HW1.out.mono ?_;rintro e w2 ⟨rfl, h1, h2⟩;have HO2 := hid' h1;have HB2 := hid' (HB.out.trans h2);clear h1 h2;go_wp2_with fail;refine (shapeP18 ⟨p.t.toArray⟩ w2).mono ?_;rintro e w3 ⟨rfl, h3⟩;have HB3 := hid' (HB2.out.trans (h3.mono HB2.out.size));have HO3 := hid' (bld_keep HO2.out h3);have HW2 := hid' (wstr18 w.heap.size b _ (p.t) w3 HO3.out (by have := HSZ.out; have := HTL.out; rw [HTK.out, HSP.out, List.length_append] at this; omega) HB3.out.size);clear h3;go_wp2_with fail;refine HW2.out.mono ?_;rintro e w4 ⟨rfl, h1, h2⟩;have HO4 := hid' h1;have HB4 := hid' (HB3.out.trans h2);clear h1 h2;go_wp2;go_roundw
    case rel => exact ⟨i + 1, by go_num, by omega, hid' (by rw [HTK.out, HSP.out]; exact HO4.out), HB4⟩
    case measure => simp [intOf]; omega
   ·have e1 : pU18 p = .iface 149 (.agg #[]) := by unfold pU18; rw [hk]; rfl
    rw [e1] at y1;have HSP : Hid (Rt.shp p = [123, 125]) := hid' (by unfold Rt.shp; rw [hk]; rfl);have mm := mshapeC18;go_wp2_with fail;refine HW1.out.mono ?_;rintro e w2 ⟨rfl, h1, h2⟩;have HO2 := hid' h1;have HB2 := hid' (HB.out.trans h2);clear h1 h2;go_wp2_with fail;refine (shapeC18 w2).mono ?_;rintro e w3 ⟨rfl, h3⟩;have HB3 := hid' (HB2.out.trans (h3.mono HB2.out.size));have HO3 := hid' (bld_keep HO2.out h3);have HW2 := hid' (wstr18 w.heap.size b _ ([123, 125]) w3 HO3.out (by have := HSZ.out; have := HTL.out; rw [HTK.out, HSP.out, List.length_append] at this; omega) HB3.out.size);clear h3;go_wp2_with fail;refine HW2.out.mono ?_;rintro e w4 ⟨rfl, h1, h2⟩;have HO4 := hid' h1;have HB4 := hid' (HB3.out.trans h2);clear h1 h2;go_wp2;go_roundw
    case rel => exact ⟨i + 1, by go_num, by omega, hid' (by rw [HTK.out, HSP.out]; exact HO4.out), HB4⟩
    case measure => simp [intOf]; omega
   ·have e1 : pU18 p = .iface 148 (.agg #[]) := by unfold pU18; rw [hk]; rfl
    rw [e1] at y1;have HSP : Hid (Rt.shp p = [123, 46, 46, 46, 125]) := hid' (by unfold Rt.shp; rw [hk]; rfl);have mm := mshapeR18;go_wp2_with fail;refine HW1.out.mono ?_;rintro e w2 ⟨rfl, h1, h2⟩;have HO2 := hid' h1;have HB2 := hid' (HB.out.trans h2);clear h1 h2;go_wp2_with fail;refine (shapeR18 w2).mono ?_;rintro e w3 ⟨rfl, h3⟩;have HB3 := hid' (HB2.out.trans (h3.mono HB2.out.size));have HO3 := hid' (bld_keep HO2.out h3);have HW2 := hid' (wstr18 w.heap.size b _ ([123, 46, 46, 46, 125]) w3 HO3.out (by have := HSZ.out; have := HTL.out; rw [HTK.out, HSP.out, List.length_append] at this; omega) HB3.out.size);clear h3;go_wp2_with fail;refine HW2.out.mono ?_;rintro e w4 ⟨rfl, h1, h2⟩;have HO4 := hid' h1;have HB4 := hid' (HB3.out.trans h2);clear h1 h2;go_wp2;go_roundw
    case rel => exact ⟨i + 1, by go_num, by omega, hid' (by rw [HTK.out, HSP.out]; exact HO4.out), HB4⟩
    case measure => simp [intOf]; omega
  ·have hlt2 : ¬ (i : Int) < (n : Int) := by omega
   have HT : Hid (Rt.txt (ps.take i) = Rt.txt ps) := hid' (by rw [List.take_of_length_le (by rw [HN.out]; omega)]);rw [HT.out] at HO;have HST := hid' (str18 w.heap.size b (Rt.txt ps) wr HO.out HB.out.size);go_wp2_with fail;refine HST.out.mono ?_;rintro e w2 ⟨rfl, h2⟩;have HB2 := hid' (HB.out.trans h2);clear h2;go_wp2;go_ret;exact ⟨rfl, HB2.out⟩


theorem cjoin18 (ao : Option Addr) (n cap : Nat) (k : List (List UInt8)) (hn : k.length = n) (hc : n ≤ cap) (w : World) (h : TS18 w ao k) (hsz : (k.map List.length).sum + k.length ≤ 16777216) :
  Calls Tryz.prog 79 #[.slice ao n cap, .string ⟨#[47]⟩] w fun e w' => e = .returned (.string ⟨(Pt.join k).toArray⟩) ∧ Below w.heap.size w w' := by
 cases k with
 | nil =>
  obtain rfl : 0 = n := hn;refine (Tryz.strings_Join_none ao cap ⟨#[47]⟩ w).mono ?_;rintro e w' ⟨rfl, rfl⟩;exact ⟨rfl, Below.refl _ _⟩
 | cons p r =>
  obtain ⟨g, o, rfl, hg, _⟩ := h 0 p rfl;obtain ⟨xs, hxs⟩ : ∃ xs : List ByteArray, xs = (p :: r).map (fun x => (⟨x.toArray⟩ : ByteArray)) := ⟨_, rfl⟩;have e1 : xs.map (·.data.toList) = p :: r := by rw [hxs, List.map_map]; simp [Function.comp_def]
  have e2 : xs.length = n := by rw [hxs, List.length_map]; exact hn
  have hj := Pt.join_len (p :: r);have c := Tryz.strings_Join g o cap xs ⟨#[47]⟩ w (fun j x hx => by
   rw [hxs, List.getElem?_map] at hx;obtain ⟨q, hq, rfl⟩ := Option.map_eq_some_iff.1 hx;obtain ⟨g', o', hg', _, h2⟩ := h j q hq;injection hg' with hg';injection hg' with hg' ho';subst hg' ho';exact h2) hg (by rw [e2, ← hn]; omega) (by rw [e2]; exact hc) (by
    rw [e1, show (⟨#[47]⟩ : ByteArray).data.toList = [47] from rfl, Pt.join_lib]; omega)
  rw [e1, e2, show (⟨#[47]⟩ : ByteArray).data.toList = [47] from rfl, Pt.join_lib] at c;exact c

theorem catchP18 (s : ByteArray) (ro : Option Addr) (c rc : Nat) (ao : Option Addr) (n cap : Nat) (f : Bool) (w : World) :
  Calls Tryz.prog 285 #[.string s, .slice ro c rc, .slice ao n cap, .bool f] w fun e w' => e = .returned (.slice ro c rc) ∧ Below w.heap.size w w' := by
 go_enter Tryz.func285, Tryz.ntmps285;go_wp2;go_ret;exact ⟨rfl, Below.refl _ _⟩
def ctR18 (B : Nat) (c : Nat) (Z : List (List UInt8)) (x : List UInt8) (w : World) (e : Ending) (w' : World) : Prop := ∃ ro rc, e = .returned (.slice ro (c + 1) rc) ∧ w'.ownsRow B 9 1 (.slice ro (c + 1) rc) (c + 1) (sC17 (Z ++ [x])) ∧ Below B w w'

theorem catchC18 (B : Nat) (ro : Option Addr) (c rc : Nat) (Z : List (List UInt8)) (ao : Option Addr) (cap : Nat) (x : List UInt8) (f : Bool) (hcb : c ≤ 4194305) (w : World) (hB : B ≤ w.heap.size) (hO : w.ownsRow B 9 1 (.slice ro c rc) c (sC17 Z)) (h : TS18 w ao [x]) :
  Calls Tryz.prog 293 #[.agg #[], .slice ro c rc, .slice ao 1 cap, .bool f] w (ctR18 B c Z x w) := by
 obtain ⟨i0, hi0, hz0, hz1, hz2⟩ := minfo17 infoS17;have HI := hid' hi0;have HZ0 := hid' hz0;have HZ1 := hid' hz1;have HZ2 := hid' hz2;clear hi0 hz0 hz1 hz2;obtain ⟨g, o, rfl, hg, hc⟩ := h 0 x rfl;have HA : Hid ((w.alloc (.cells #[] 149)).ownsRow B 9 1 (.slice ro c rc) c (sC17 Z)) := hid' (hO.alloc _);have HC : Hid (∀ j u, [Value.string ⟨x.toArray⟩][j]? = some u → (w.alloc (.cells #[] 149)).cell? ((⟨g, o, none⟩ : Addr).add j) = some u) := hid' (fun j u hj => by
  cases j with
  | zero =>
   simp at hj;subst hj;rw [Addr.add_mid];exact ((bl_alloc17 w _).cell (p := ⟨g, o + 0, none⟩) hg).trans hc
  | succ j => simp at hj)
 have HBW := hid' hB;have HO := hid' hO;clear h hg hc hO hB;go_enter Tryz.func293, Tryz.ntmps293;go_wp2_with (at_builtin; refine wpList_append_own_at _ rfl _ _ 76 rfl B 9 i0 (.string ⟨#[]⟩) 1 16 Tryz.underlying76 HI.out HZ0.out HZ1.out HZ2.out rfl (by decide) (.slice ro c rc) c (sC17 Z) rfl HA.out ⟨g, o, none⟩ 1 cap [.string ⟨x.toArray⟩] rfl rfl HC.out (by simp [Value.oneCell']) (by unfold maxLen; omega) (by omega) (by simp; have := HBW.out; omega) ?_; intro v3 w3 hown3 hgrow3 _ _; refine Hid.out ?_);refine hid' ?_;have e : sC17 Z ++ [Value.string ⟨x.toArray⟩] = sC17 (Z ++ [x]) := by rw [sC17_app]; rfl
 rw [e] at hown3;obtain ⟨v3o, v3c, hv3⟩ := own_shape17 hown3;subst hv3;have HO3 := hid' hown3;have HB3 : Hid (Below B w w3) := hid' (((Below.refl B w).alloc HBW.out _).grown hgrow3 (by simp; have := HBW.out; omega) (fun k hk => (HA.out.lt k hk).1));clear hown3 hgrow3 e;go_wp2;go_ret;exact ⟨v3o, v3c, rfl, HO3.out, HB3.out⟩

set_option maxRecDepth 20000 in
theorem catchR18 (B : Nat) (ro : Option Addr) (c rc : Nat) (Z : List (List UInt8)) (ao : Option Addr) (n cap : Nat) (k : List (List UInt8)) (f : Bool) (hn : k.length = n) (hcp : n ≤ cap) (hsz : (k.map List.length).sum + k.length ≤ 16777216) (hcb : c ≤ 4194305) (w : World) (hB : B ≤ w.heap.size) (hO : w.ownsRow B 9 1 (.slice ro c rc) c (sC17 Z)) (h : TS18 w ao k) :
  Calls Tryz.prog 289 #[.agg #[], .slice ro c rc, .slice ao n cap, .bool f] w (ctR18 B c Z (Pt.join k ++ (if !k.isEmpty && f then [47] else [])) w) := by
 obtain ⟨i0, hi0, hz0, hz1, hz2⟩ := minfo17 infoS17;have HI := hid' hi0;have HZ0 := hid' hz0;have HZ1 := hid' hz1;have HZ2 := hid' hz2;clear hi0 hz0 hz1 hz2;have hJL : (Pt.join k).length ≤ 16777216 := Nat.le_trans (Pt.join_len _) hsz;have HJ := hid' (cjoin18 ao n cap k hn hcp (w.alloc (.cells #[] 148)) (h.below (bl_alloc17 w _)) hsz);obtain ⟨V, hV⟩ : ∃ V, Pt.join k ++ (if !k.isEmpty && f then [47] else []) = V := ⟨_, rfl⟩;rw [hV];obtain ⟨J, hJ⟩ : ∃ J, Pt.join k = J := ⟨_, rfl⟩;rw [hJ] at HJ hJL hV;obtain ⟨jj, hjj⟩ : ∃ z : ByteArray, (⟨J.toArray⟩ : ByteArray) = z := ⟨_, rfl⟩;have kk1 : ¬ 9223372036854775807 < jj.size + 1 := by rw [← hjj]; simp [ByteArray.size]; omega
 have HBW := hid' hB;have HO := hid' hO;rw [hjj] at HJ;cases f
 ·rw [Bool.and_false] at hV;simp only [Bool.false_eq_true, if_false] at hV;have hzz : jj = jj := rfl;have HVZ : Hid ((⟨V.toArray⟩ : ByteArray) = jj) := hid' (by rw [← hV, ← hjj]; simp);clear hV hJ hjj hn hsz hO h hB hJL hzz;go_enter Tryz.func289, Tryz.ntmps289;go_wp2_with fail;refine HJ.out.mono ?_;rintro e w1 ⟨rfl, hb1⟩;have HB1 : Hid (Below w.heap.size w w1) := hid' (below_two (bl_alloc17 w _) hb1);clear hb1;have HSZ1 : Hid (B ≤ w1.heap.size) := hid' (Nat.le_trans HBW.out HB1.out.size);have HA : Hid ((w1.alloc (.cells #[.string jj] 9)).ownsRow B 9 1 (.slice ro c rc) c (sC17 Z)) := hid' ((own_kp17 HO.out HB1.out).alloc _);go_wp2_with (at_builtin; refine wpList_append_own_at _ rfl _ _ 76 rfl B 9 i0 (.string ⟨#[]⟩) 1 16 Tryz.underlying76 HI.out HZ0.out HZ1.out HZ2.out rfl (by decide) (.slice ro c rc) c (sC17 Z) rfl HA.out ⟨w1.heap.size, 0, none⟩ 1 1 [.string jj] rfl rfl (one_cell17 _ _ _) (by simp [Value.oneCell']) (by unfold maxLen; omega) (by omega) (by simp; have := HSZ1.out; omega) ?_; intro v3 w3 hown3 hgrow3 _ _; refine Hid.out ?_);refine hid' ?_;have e : sC17 Z ++ [Value.string jj] = sC17 (Z ++ [V]) := by rw [sC17_app, ← HVZ.out]; rfl
  rw [e] at hown3;obtain ⟨v3o, v3c, hv3⟩ := own_shape17 hown3;subst hv3;have HO3 := hid' hown3;have HB3 : Hid (Below B w w3) := hid' (((HB1.out.mono HBW.out).alloc HSZ1.out _).grown hgrow3 (by simp; have := HSZ1.out; omega) (fun k hk => (HA.out.lt k hk).1));clear hown3 hgrow3 e;go_wp2;go_ret;exact ⟨v3o, v3c, rfl, HO3.out, HB3.out⟩
 ·by_cases hk : k = []
  ·obtain rfl : 0 = n := by rw [← hn, hk]; rfl
   rw [hk] at hV;simp only [List.isEmpty_nil, Bool.not_true, Bool.false_and, Bool.false_eq_true, if_false] at hV;clear hk;have hzz : jj = jj := rfl;have HVZ : Hid ((⟨V.toArray⟩ : ByteArray) = jj) := hid' (by rw [← hV, ← hjj]; simp);clear hV hJ hjj hsz hO h hB hJL hzz;go_enter Tryz.func289, Tryz.ntmps289;go_wp2_with fail;refine HJ.out.mono ?_;rintro e w1 ⟨rfl, hb1⟩;have HB1 : Hid (Below w.heap.size w w1) := hid' (below_two (bl_alloc17 w _) hb1);clear hb1;have HSZ1 : Hid (B ≤ w1.heap.size) := hid' (Nat.le_trans HBW.out HB1.out.size);have HA : Hid ((w1.alloc (.cells #[.string jj] 9)).ownsRow B 9 1 (.slice ro c rc) c (sC17 Z)) := hid' ((own_kp17 HO.out HB1.out).alloc _);go_wp2_with (at_builtin; refine wpList_append_own_at _ rfl _ _ 76 rfl B 9 i0 (.string ⟨#[]⟩) 1 16 Tryz.underlying76 HI.out HZ0.out HZ1.out HZ2.out rfl (by decide) (.slice ro c rc) c (sC17 Z) rfl HA.out ⟨w1.heap.size, 0, none⟩ 1 1 [.string jj] rfl rfl (one_cell17 _ _ _) (by simp [Value.oneCell']) (by unfold maxLen; omega) (by omega) (by simp; have := HSZ1.out; omega) ?_; intro v3 w3 hown3 hgrow3 _ _; refine Hid.out ?_);refine hid' ?_;have e : sC17 Z ++ [Value.string jj] = sC17 (Z ++ [V]) := by rw [sC17_app, ← HVZ.out]; rfl
   rw [e] at hown3;obtain ⟨v3o, v3c, hv3⟩ := own_shape17 hown3;subst hv3;have HO3 := hid' hown3;have HB3 : Hid (Below B w w3) := hid' (((HB1.out.mono HBW.out).alloc HSZ1.out _).grown hgrow3 (by simp; have := HSZ1.out; omega) (fun k hk => (HA.out.lt k hk).1));clear hown3 hgrow3 e;go_wp2;go_ret;exact ⟨v3o, v3c, rfl, HO3.out, HB3.out⟩
  ·have hn0 : (0 : Int) < (n : Int) := by have := List.length_pos_iff.2 hk; omega
   have hke : k.isEmpty = false := by rw [List.isEmpty_eq_false_iff]; exact hk
   rw [hke] at hV;simp only [Bool.not_false, Bool.true_and, if_true] at hV;clear hk hke;obtain ⟨zz, hzz⟩ : ∃ z : ByteArray, jj ++ ⟨#[47]⟩ = z := ⟨_, rfl⟩;have HVZ : Hid ((⟨V.toArray⟩ : ByteArray) = zz) := hid' (by rw [← hV, ← hzz, ← hjj]; apply ByteArray.ext; simp);clear hV hJ hjj hn hsz hO h hB hJL;go_enter Tryz.func289, Tryz.ntmps289;go_wp2_with fail;refine HJ.out.mono ?_;rintro e w1 ⟨rfl, hb1⟩;have HB1 : Hid (Below w.heap.size w w1) := hid' (below_two (bl_alloc17 w _) hb1);clear hb1;have HSZ1 : Hid (B ≤ w1.heap.size) := hid' (Nat.le_trans HBW.out HB1.out.size);have HA : Hid ((w1.alloc (.cells #[.string zz] 9)).ownsRow B 9 1 (.slice ro c rc) c (sC17 Z)) := hid' ((own_kp17 HO.out HB1.out).alloc _);go_wp2_with (at_builtin; refine wpList_append_own_at _ rfl _ _ 76 rfl B 9 i0 (.string ⟨#[]⟩) 1 16 Tryz.underlying76 HI.out HZ0.out HZ1.out HZ2.out rfl (by decide) (.slice ro c rc) c (sC17 Z) rfl HA.out ⟨w1.heap.size, 0, none⟩ 1 1 [.string zz] rfl rfl (one_cell17 _ _ _) (by simp [Value.oneCell']) (by unfold maxLen; omega) (by omega) (by simp; have := HSZ1.out; omega) ?_; intro v3 w3 hown3 hgrow3 _ _; refine Hid.out ?_);refine hid' ?_;have e : sC17 Z ++ [Value.string zz] = sC17 (Z ++ [V]) := by rw [sC17_app, ← HVZ.out]; rfl
   rw [e] at hown3;obtain ⟨v3o, v3c, hv3⟩ := own_shape17 hown3;subst hv3;have HO3 := hid' hown3;have HB3 : Hid (Below B w w3) := hid' (((HB1.out.mono HBW.out).alloc HSZ1.out _).grown hgrow3 (by simp; have := HSZ1.out; omega) (fun k hk => (HA.out.lt k hk).1));clear hown3 hgrow3 e;go_wp2;go_ret;exact ⟨v3o, v3c, rfl, HO3.out, HB3.out⟩

open Go.RowKit Go.Shelf Go.Sort

attribute [local go_sem] Oper.semAt_some

def Txs18 (n₀ : Nat) (W : World) (sv : Value) (zs : List (List UInt8)) : Prop :=
 (sv = .slice none 0 0 ∧ zs = []) ∨ ∃ b cap, sv = .slice (some ⟨b, 0, none⟩) zs.length cap ∧ b < n₀ ∧ ∀ (j : Nat) (z : List UInt8), zs[j]? = some z → W.cell? ⟨b, j, none⟩ = some (encStr z)
theorem Txs18.below {n₀ : Nat} {A B : World} (h : Below n₀ A B) {sv : Value} {zs : List (List UInt8)} (hx : Txs18 n₀ A sv zs) : Txs18 n₀ B sv zs := by
 rcases hx with e | ⟨b, cap, e, hb, hc⟩
 ·exact .inl e
 ·exact .inr ⟨b, cap, e, hb, fun j z hz => (h.cell (p := ⟨b, j, none⟩) hb).trans (hc j z hz)⟩

set_option maxRecDepth 100000 in
theorem valA18 (F : Fence) (n : Nat) (h7 : F.fn 97) (hro : F.round = none) (hn : 1 ≤ n) (l Bs n₀ b cap len : Nat) (zs : List (List UInt8)) (hlen : zs.length = len) (hreach : len ≤ 4194306) (hb : b < n₀) (J Jx : List (List UInt8) → World → Prop)
  (hY : ∀ pre x W, J pre W → pre.length < zs.length → YieldAt F (n - 1) Tryz.prog l #[encStr x] W fun e W' =>
   (e = .returned (.bool true) ∧ J (pre ++ [x]) W' ∧ Below n₀ W W') ∨ (e = .returned (.bool false) ∧ Jx (pre ++ [x]) W'))
  (W : World) (hBs : W.cell? ⟨Bs, 0, none⟩ = some (.slice (some ⟨b, 0, none⟩) len cap)) (hc : ∀ (j : Nat) (z : List UInt8), zs[j]? = some z → W.cell? ⟨b, j, none⟩ = some (encStr z)) (h0 : J [] W) :
  CallsIn F n Tryz.prog 97 #[.func (.yield l) #[] #[], .pointer (some ⟨Bs, 0, none⟩)] W fun e W' => (∃ v, e = .returned v) ∧ ((∃ ys, ys = zs ∧ J ys W') ∨ (∃ pre, pre <+: zs ∧ Jx pre W')) := by
 refine callsIn_of_wp Tryz.func97 rfl h7 ?_ hro;simp only [Tryz.ntmps97, List.size_toArray, List.length_cons, List.length_nil, Nat.reduceAdd, Nat.reduceSub, Array.replicate_succ, Array.replicate_zero, List.push_toArray, List.append_toArray, List.nil_append, List.cons_append]
 gi_wp2
 gi_loopw [7] (fun i wr => ∃ k : Nat, k ≤ len ∧ i = .int .i64 k ∧ J (zs.take k) wr ∧ Below n₀ W wr)
  (fun i _ => len - (intOf i).toNat)
 case atStart => exact ⟨0, Nat.zero_le _, rfl, h0, Below.refl _ _⟩
 case round =>
  obtain ⟨k, hk, rfl, hJs, hnx⟩ := hrel;by_cases hlt : k < len
  ·obtain ⟨z, hz⟩ : ∃ z, zs[k]? = some z := ⟨_, List.getElem?_eq_getElem (by rw [hlen]; exact hlt)⟩;have hcx : wr.cell? ⟨b, k, none⟩ = some (encStr z) := (hnx.cell (p := ⟨b, k, none⟩) hb).trans (hc k z hz);have htk : zs.take (k + 1) = zs.take k ++ [z] := by rw [List.take_add_one, hz]; rfl
   obtain ⟨fn, tmps, assign, body, hy, hR⟩ := hY _ z wr hJs (by rw [List.length_take, hlen]; omega);unfold encStr at hcx hy
   gi_wp2
   refine hR.mono ?_;rintro e W3 (⟨rfl, hJ3, hk3⟩ | ⟨rfl, hJx3⟩)
   ·gi_wp2
    go_roundw
    case rel => exact ⟨k + 1, by omega, by simp, by rw [htk]; exact hJ3, hnx.trans hk3⟩
    case measure => simp [intOf]; omega
   ·gi_wp2
    refine bodyPost_ret (results_none rfl _ _ _) rfl ?_;exact ⟨⟨_, rfl⟩, .inr ⟨_, by rw [← htk]; exact List.take_prefix _ _, hJx3⟩⟩
  ·obtain rfl : k = len := by omega
   gi_wp2
   go_end0;exact ⟨⟨_, rfl⟩, .inl ⟨_, List.take_of_length_le (by omega), hJs⟩⟩

set_option maxRecDepth 100000 in
theorem valN18 (F : Fence) (n : Nat) (h7 : F.fn 97) (hro : F.round = none) (l Bs : Nat) (J : List (List UInt8) → World → Prop) (W : World) (hBs : W.cell? ⟨Bs, 0, none⟩ = some (.slice none 0 0)) (h0 : J [] W) :
  CallsIn F n Tryz.prog 97 #[.func (.yield l) #[] #[], .pointer (some ⟨Bs, 0, none⟩)] W fun e W' => (∃ v, e = .returned v) ∧ J [] W' := by
 refine callsIn_of_wp Tryz.func97 rfl h7 ?_ hro;simp only [Tryz.ntmps97, List.size_toArray, List.length_cons, List.length_nil, Nat.reduceAdd, Nat.reduceSub, Array.replicate_succ, Array.replicate_zero, List.push_toArray, List.append_toArray, List.nil_append, List.cons_append]
 gi_wp2
 gi_loopw [7] (fun i wr => i = .int .i64 0 ∧ J [] wr) (fun _ _ => 0)
 case atStart => exact ⟨rfl, h0⟩
 case round =>
  obtain ⟨rfl, hJs⟩ := hrel
  gi_wp2
  go_end0;exact ⟨⟨_, rfl⟩, hJs⟩

theorem valF18 (F : Fence) (n : Nat) (h5 : F.fn 69) (hro : F.round = none) (a : Option Addr) (len cap : Nat) (w : World) :
  CallsIn F n Tryz.prog 69 #[.slice a len cap] w fun e w' => e = .returned (.func (.func 97) #[] #[.pointer (some ⟨w.heap.size, 0, none⟩)]) ∧ w' = w.alloc (.cells #[.slice a len cap] 76) := by
 refine callsIn_of_wp Tryz.func69 rfl h5 ?_ hro;simp only [Tryz.ntmps69, List.size_toArray, List.length_cons, List.length_nil, Nat.reduceAdd, Nat.reduceSub, Array.replicate_succ, Array.replicate_zero, List.push_toArray, List.append_toArray, List.nil_append, List.cons_append]
 gi_wp2
 go_ret;exact ⟨rfl, rfl⟩

theorem valS18 (F : Fence) (n : Nat) (h7 : F.fn 97) (hro : F.round = none) (hn : 1 ≤ n) (Bs n₀ : Nat) (sv : Value) (zs : List (List UInt8)) (hreach : zs.length ≤ 4194306) (w : World) (hBs : Bs < w.heap.size) (hn₀ : n₀ ≤ w.heap.size)
  (hc : w.cell? ⟨Bs, 0, none⟩ = some sv) (hI : Txs18 n₀ w sv zs) :
  SeqStopsK F n Tryz.prog 97 #[.pointer (some ⟨Bs, 0, none⟩)] (fun x : List UInt8 => #[encStr x]) (Below n₀) (fun ys => ys = zs) (fun pre => pre <+: zs) zs.length w := fun l J Jx W hW _ _ hY h0 => by
 have hc' := (hW.cell (p := ⟨Bs, 0, none⟩) hBs).trans hc;rcases hI.below (hW.mono hn₀) with ⟨rfl, rfl⟩ | ⟨b, cap, rfl, hb, hcs⟩
 ·exact (valN18 F n h7 hro l Bs J W hc' h0).mono fun e W' ⟨he, hj⟩ => ⟨he, .inl ⟨_, rfl, hj⟩⟩
 ·exact valA18 F n h7 hro hn l Bs n₀ b cap zs.length zs rfl hreach hb J Jx hY W hc' hcs h0

end Go.Proofs.YthhpejgpfaikaabGreatDoor
