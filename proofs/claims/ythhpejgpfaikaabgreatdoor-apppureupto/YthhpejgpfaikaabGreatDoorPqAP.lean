/-
  What the row stands on.
-/
import Derived.Test.YthhpejgpfaikaabGreatDoorShClone
import Derived.Deep.RegionHeld3
import Derived.Test.YthhpejgpfaikaabGreatDoorPqAO
import Derived.Test.YthhpejgpfaikaabGreatDoorShelfP
import Derived.Shelf.Strings.Split
import Derived.BigRegion
import Derived.Laws.MakeOwn
import Derived.Laws.StructEq
import Derived.Test.YthhpejgpfaikaabGreatDoorProg
import Derived.Deep.Slices
import Derived.Deep.Strs
import Derived.SizedLaws
import Derived.RowKit
import Derived.ProofKit
import Derived.OpenShut
import Derived.Lib.Strings
import Derived.Test.YthhpejgpfaikaabGreatDoorPqAN
namespace Go.Proofs.YthhpejgpfaikaabGreatDoor
set_option maxHeartbeats 64000000
open Go.RowKit
open Go.ChangeMaps (setBlock heap_setBlock_same heap_setBlock_other)

theorem sget13 (B s : Nat) (K : Nat → Prop) (q : Int) (es : List Dk.En) (x : ByteArray) (w : World) (h : CS w B s K q es) (_hx : x.size ≤ 140737488355328) : Calls Tryz.prog 113 #[.pointer (some ⟨s, 0, none⟩), .string x] w fun e w' => e = .returned (.tuple #[fileV (Dk.get x.data.toList es), .bool (Dk.has x.data.toList es)]) ∧ Below w.heap.size w w' := by
 obtain ⟨m, E, clock, h, _⟩ := h;obtain ⟨y, i, j, hf⟩ := fileV_sh (Dk.get x.data.toList es);obtain ⟨r, hr⟩ : ∃ r, Dk.has x.data.toList es = r := ⟨_, rfl⟩;have HF := hid' hf;have HR := hid' hr;have H := hid' h;clear h hf hr;go_enter Tryz.func113, Tryz.ntmps113;go_wp2_with (refine wpl_alloc 66 rfl rfl #[.string ⟨#[]⟩, .int .i64 0, .int .i64 0] dzeroF ?_);intro b0 w0 hb0 ha0 hbe0;have HX := hid' ha0;have HB0 := hid' hbe0;have HG0 := hid' hb0;have HC := hid' (H.out.keep hbe0);have hlk := HC.out.look x;have c0 := HC.out.hd.cell 0 _ rfl;rw [HF.out, HR.out] at hlk;clear hb0 ha0 hbe0;go_upto_region 4 with fail;have HB1 : Hid (Below w0.heap.size w0 (w0.alloc (.cells #[.string y, .int .i64 i, .int .i64 j] 66))) := hid' ((Below.refl _ _).alloc (Nat.le_refl _) _);have HA1 : Hid (Ar (w0.alloc (.cells #[.string y, .int .i64 i, .int .i64 j] 66)) w0.heap.size 66 #[.string y, .int .i64 i, .int .i64 j]) := hid' (heap_alloc_last w0 _);have HX1 := hid' (HX.out.keep HB1.out);have HB2 := hid' (below_two HB0.out HB1.out);obtain ⟨fb, hfb⟩ : ∃ fb, w0.heap.size = fb := ⟨_, rfl⟩;rw [hfb] at HA1 ⊢;generalize w0.alloc (.cells #[.string y, .int .i64 i, .int .i64 j] 66) = w1 at *;have hl := dldF HA1.out;have p0 := HA1.out.cell 0 _ rfl;have p1 := HA1.out.cell 1 _ rfl;have p2 := HA1.out.cell 2 _ rfl;clear hlk c0 HB1 hfb HC HX;go_wp2_with (refine wpl_store 66 _ _ rfl rfl b0 #[.string y, .int .i64 i, .int .i64 j] (by kernel_rfl) (by kernel_rfl) _ _ HX1.out dsizeF rfl (by simp [Value.oneCell']) ?_);intro w2 ha2 hu2;have hld := dldF ha2;have HB3 := hid' (HB2.out.trans (hu2.below HG0.out));clear ha2 hu2 hl p0 p1 p2;go_wp2;refine bodyPost_ret (v := .tuple #[.agg #[.string y, .int .i64 i, .int .i64 j], .bool r]) (by simp [results, Tryz.results113, asAddr, hld]) rfl ⟨by rw [HF.out, HR.out], HB3.out⟩

theorem cs_alloc {w : World} {b : Nat} {u v : Value} (h : w.cell? ⟨b, 0, none⟩ = some u ∧ w.cell? ⟨b, 1, none⟩ = some v) (o : Obj) : (w.alloc o).cell? ⟨b, 0, none⟩ = some u ∧ (w.alloc o).cell? ⟨b, 1, none⟩ = some v :=
 ⟨(World.cell?_alloc_some w _ o (by rw [h.1]; rfl)).trans h.1, (World.cell?_alloc_some w _ o (by rw [h.2]; rfl)).trans h.2⟩
theorem clone13 (m : Nat) (E : Array MapEntry) (clock : Nat) (w : World) (hb : w.heap[m]? = some (.map E clock)) : Calls Tryz.prog 21 #[.map (some m)] w fun e w' => e = .returned (.map (some w.heap.size)) ∧ w' = w.alloc (.map E clock) :=
 AnyW.maps_Clone Tryz.lclone m E clock w hb

theorem csnap13 (B b : Nat) (K : Nat → Prop) (q : Int) (es : List Dk.En) (w : World) (h : CD w B b K q es) : Calls Tryz.prog 9 #[.pointer (some ⟨b, 0, none⟩)] w fun e w' => (∃ s Ks, e = .returned (.pointer (some ⟨s, 0, none⟩)) ∧ CS w' w.heap.size s Ks q es) ∧ Below w.heap.size w w' := by
 obtain ⟨m, E, clock, h, _⟩ := h;have H := hid' h;have hS : w.drew.cell? ⟨b, 0, none⟩ = some (.map (some m)) ∧ w.drew.cell? ⟨b, 1, none⟩ = some (.int .i64 q) := ⟨h.hd.cell 0 _ rfl, h.hd.cell 1 _ rfl⟩;clear h;go_enter Tryz.func9, Tryz.ntmps9;go_upto_region 3 with fail;go_region_held3 (fun W => W.cell? ⟨b, 0, none⟩ = some (.map (some m)) ∧ W.cell? ⟨b, 1, none⟩ = some (.int .i64 q)) (first | assumption | exact cs_alloc (by assumption) _) (first
  | (go_at_call 21; refine (clone13 m E clock w.drew H.out.mp.hd).mono ?_; rintro e w1 ⟨rfl, hw1⟩; have hb1 : Below w.heap.size w w1 := (by rw [hw1]; exact ((Below.refl _ w).drew).alloc (Nat.le_refl _) _); have hS1 := And.intro ((H.out.keep hb1).hd.cell 0 _ rfl) ((H.out.keep hb1).hd.cell 1 _ rfl); have HB1 := hid' hb1; have HM1 : Hid (Mp pk fk w1 w.heap.size (fg es) es.length E clock) := hid' (by rw [hw1]; exact ⟨(MapKept.heap_alloc w.drew _).1, H.out.mp.sz, H.out.mp.all, H.out.mp.nd, H.out.mp.has, H.out.mp.st, H.out.mp.nb⟩); clear hb1 hw1))
 all_goals
  have HA2 : Hid (Ar (w1.alloc (.cells #[.map (some w.heap.size), .int .i64 q] 74)) w1.heap.size 74 #[.map (some w.heap.size), .int .i64 q]) := hid' (heap_alloc_last w1 _);have HB2 : Hid (Below w1.heap.size w1 (w1.alloc (.cells #[.map (some w.heap.size), .int .i64 q] 74))) := hid' ((Below.refl _ _).alloc (Nat.le_refl _) _);go_wp2;go_ret;exact ⟨⟨_, fun k => k = w1.heap.size ∨ k = w.heap.size, rfl, w.heap.size, E, clock, ⟨HB1.out.size, Nat.le_refl _, HA2.out, HM1.out.other (HB2.out.block _ HM1.out.lt), H.out.ok, H.out.le⟩, fun _ => Iff.rfl⟩, below_two HB1.out HB2.out⟩

theorem mput_fg {es : List Dk.En} (h : Dk.Ok es) (e : Dk.En) : mput (fg es) e.path e = fg (Dk.put e es) := by
 funext k
 unfold mput fg;rw [Dk.get_put' h];show _ = if k.data.toList = e.path.data.toList then _ else _
 by_cases hk : k = e.path
 ·subst hk; rw [if_pos rfl, if_pos rfl]
 ·rw [if_neg hk, if_neg (fun e => hk (ba_ext e))]
theorem upd_block (w : World) (m : Nat) (o : Obj) : Upd m w (setBlock w m o) :=
 ⟨rfl, rfl, rfl, by simp [setBlock], fun k hk => by simp only [setBlock]; exact Array.getElem?_setIfInBounds_ne (fun e => hk e.symm)⟩

section
variable {ops : Array Oper} {rest : List Oper} {o : Oper} {a : Act} {w : World} {Q : Exit → Act → World → Prop}
end


namespace Dk
def pcs : Tx8 → Tx8 → List Tx8
 | cur, [] => [cur]
 | cur, c :: r => if c = 47 then cur :: pcs [] r else pcs (cur ++ [c]) r
theorem pcs_app (r : Tx8) : ∀ (a cur : Tx8), (∀ c ∈ a, c ≠ 47) → pcs cur (a ++ r) = pcs (cur ++ a) r
 | [], cur, _ => by simp
 | c :: a, cur, h => by
  rw [List.cons_append, pcs, if_neg (h c (by simp)), pcs_app r a (cur ++ [c]) (fun d hd => h d (by simp [hd]))];simp
theorem pcs_none (a : Tx8) (h : ∀ c ∈ a, c ≠ 47) : pcs [] a = [a] := by
 have := pcs_app [] a [] h;simpa [pcs] using this
theorem splitK_pcs : ∀ (k : Nat) (s : Tx8), s.count 47 = k → Lib.splitK [47] 0 k s = pcs [] s
 | 0, s, h => by
  rw [Lib.splitK, pcs_none];intro c hc e;subst e;have := List.count_pos_iff.2 hc;omega
 | k + 1, s, h => by
  rw [Lib.splitK, Lib.index_one];have hge := Lib.indexByte_ge s 47;by_cases h1 : Lib.indexByte s 47 = -1
  ·exfalso;have h2 := Lib.indexByte_none h1;have h3 : 0 < s.count 47 := by omega
   obtain ⟨i, hi⟩ := List.getElem?_of_mem (List.count_pos_iff.1 h3);exact h2 i hi
  ·obtain ⟨o, ho⟩ : ∃ o : Nat, Lib.indexByte s 47 = (o : Int) := ⟨(Lib.indexByte s 47).toNat, by omega⟩;obtain ⟨h2, h3⟩ := Lib.indexByte_some ho;obtain ⟨hl, h4⟩ := List.getElem?_eq_some_iff.1 h2;rw [if_neg (by simpa using h1), ho];have e : s = s.take o ++ 47 :: s.drop (o + 1) := by
    conv => lhs; rw [← List.take_append_drop o s, List.drop_eq_getElem_cons hl, h4]
   have h5 : ∀ c ∈ s.take o, c ≠ 47 := by
    intro c hc e;subst e;obtain ⟨i, hi⟩ := List.getElem?_of_mem hc;have hio : i < o := by have := (List.getElem?_eq_some_iff.1 hi).1; rw [List.length_take] at this; omega
    rw [List.getElem?_take, if_pos hio] at hi;exact h3 i hio hi
   have h6 : (s.drop (o + 1)).count 47 = k := by
    have h7 : (s.take o).count 47 = 0 := List.count_eq_zero.2 (fun hc => h5 47 hc rfl);rw [e, List.count_append, h7, List.count_cons] at h;simp at h;omega
   have h8 : pcs [] s = s.take o :: pcs [] (s.drop (o + 1)) := by
    conv => lhs; rw [e]
    rw [pcs_app _ _ _ h5, pcs, if_pos rfl];simp
   rw [h8];simp only [Int.toNat_natCast, Nat.add_zero, List.length_cons, List.length_nil, Nat.zero_add];rw [splitK_pcs k _ h6]
def pln (c : UInt8) : Bool := decide (32 ≤ c.toNat) && decide (c.toNat ≤ 126)
theorem pOk_pcs : ∀ (l cur : Tx8), pOk cur l = (l.all pln && (pcs cur l).all good)
 | [], cur => by simp [pOk, pcs]
 | c :: r, cur => by
  rw [pOk, pcs];split
  ·rename_i hc;subst hc;rw [pOk_pcs r []];simp only [List.all_cons];rw [show pln 47 = true from rfl];cases good cur <;> cases r.all pln <;> simp
  ·rw [pOk_pcs r (cur ++ [c])];simp only [List.all_cons, pln, Bool.and_assoc]
theorem path_parts (l : Tx8) : path l = (Lib.hasPrefix l [47] && (decide (l.length ≤ 255) && (l.all pln && (pcs [] (Lib.trimPrefix l [47])).all good))) := by
 cases l with
 | nil => simp [path, Lib.hasPrefix]
 | cons c r =>
  rw [path, pOk_pcs];by_cases hc : c = 47
  ·subst hc;have e1 : Lib.hasPrefix (47 :: r) [47] = true := by simp [Lib.hasPrefix]
   rw [e1];unfold Lib.trimPrefix;rw [e1];simp only [List.length_cons, List.all_cons, if_true, List.length_nil, Nat.zero_add, List.drop_succ_cons, List.drop_zero];rw [show pln 47 = true from rfl];simp
  ·have e1 : Lib.hasPrefix (c :: r) [47] = false := by simp only [Lib.hasPrefix, List.isPrefixOf, Bool.and_true]; exact beq_false_of_ne (fun e => hc e.symm)
   rw [e1, show (c == 47) = false by simpa using hc];simp
end Dk

theorem info9 : (Tryz.prog.info? 9).map (fun i => (i.zero, i.size, i.bytes)) = some (some (.string ByteArray.empty), 1, 16) := by kernel_rfl
theorem indexB_slash (x : ByteArray) : Lib.indexB x ⟨#[47]⟩ = Lib.indexByte x.data.toList 47 := Lib.index_one _ _
theorem countB_slash (x : ByteArray) : Lib.countB x ⟨#[47]⟩ = x.data.toList.count 47 := Lib.count_one _ _
theorem split13 (s : ByteArray) (w : World) (hs : s.size ≤ 255) : Calls Tryz.prog 42 #[.string s, .string ⟨#[47]⟩] w fun e w' => ∃ ps : List ByteArray, e = .returned (.slice (some ⟨w.heap.size, 0, none⟩) ps.length ps.length) ∧ w' = w.alloc (.cells (ps.map Value.string).toArray 9) ∧ ps.map (·.data.toList) = Dk.pcs [] s.data.toList ∧ ps.length ≤ 256 := by
 have hle := Lib.countB_le ⟨#[47]⟩ (by decide) s.size s (Nat.le_refl _);have hlen := Lib.splitB_all ⟨#[47]⟩ (by decide) 0 _ s rfl;have c := Any.strings_genSplit_core Tryz.lays221 info9 s ⟨#[47]⟩ 0 (-1) (Lib.countB s ⟨#[47]⟩ + 1) w (by omega) (by decide) (Nat.zero_le _)
  (fun x cs _ => by rw [indexB_slash]; exact Tryz.strings_Index_one x 47 _)
  (by rw [countB_slash]; exact Tryz.strings_Count_one s 47 w) (by decide) (by decide) (by rw [if_pos (by decide)]; omega)
 rw [Nat.add_sub_cancel, hlen] at c;have e2 : Lib.cellsOf (Lib.splitB ⟨#[47]⟩ 0 (Lib.countB s ⟨#[47]⟩) s) (Lib.countB s ⟨#[47]⟩ + 1) = ((Lib.splitB ⟨#[47]⟩ 0 (Lib.countB s ⟨#[47]⟩) s).map Value.string).toArray := by rw [← hlen]; exact Lib.cellsOf_full _
 rw [e2] at c;have hd := Lib.splitB_data ⟨#[47]⟩ 0 (Lib.countB s ⟨#[47]⟩) s;rw [Dk.splitK_pcs _ _ (countB_slash s).symm] at hd;obtain ⟨ps, hps⟩ : ∃ ps, Lib.splitB ⟨#[47]⟩ 0 (Lib.countB s ⟨#[47]⟩) s = ps := ⟨_, rfl⟩;rw [hps] at c hd hlen;rw [← hlen] at c;have HD := hid' hd;have HL : Hid (ps.length ≤ 256) := hid' (by omega);have C : Hid (Calls Tryz.prog 64 #[.string s, .string ⟨#[47]⟩, .int .i64 0, .int .i64 (-1)] w fun e w' => e = .returned (.slice (some ⟨w.heap.size, 0, none⟩) ps.length ps.length) ∧ w' = w.alloc (.cells (ps.map Value.string).toArray 9)) := hid' c;clear c hd e2 hlen hps hle;go_enter Tryz.func42, Tryz.ntmps42;go_wp2_with fail;refine C.out.mono ?_;rintro e w1 ⟨rfl, hw⟩;have HW := hid' hw;clear hw;go_wp2;go_ret;exact ⟨ps, rfl, HW.out, HD.out, HL.out⟩

theorem cplain13 (s : ByteArray) (r : Bool) (hr : s.data.toList.all Dk.pln = r) (w : World) (hs : s.size ≤ 140737488355328) : Calls Tryz.prog 48 #[.string s] w fun e w' => e = .returned (.bool r) ∧ w' = w := by
 obtain ⟨L, hL⟩ : ∃ L, s.data.toList = L := ⟨_, rfl⟩;have HL := hid' hL;have hsz : L.length = s.size := by rw [← hL, ← Lib.size_eq]
 have HSZ := hid' hsz;rw [hL] at hr;have HR := hid' hr;clear hr hL hsz;go_enter Tryz.func48, Tryz.ntmps48;go_wp2;go_loopw [6] (fun s6 wr => ∃ k : Nat, s6 = .int .i64 (k : Int) ∧ k ≤ s.size ∧ wr = w ∧ Hid (r = (L.drop k).all Dk.pln)) (fun s6 _ => s.size - (intOf s6).toNat)
 case atStart => exact ⟨0, rfl, Nat.zero_le _, rfl, hid' HR.out.symm⟩
 case round =>
  obtain ⟨k, rfl, hk, hwr, HK⟩ := hrel;subst wr;by_cases hlt : k < s.size
  ·have hlt2 : (k : Int) < (s.size : Int) := by omega
   have hck : L[k]? = some s[k] := by rw [← HL.out, List.getElem?_eq_getElem (by rw [← Lib.size_eq]; exact hlt)]; rfl
   have hdr := drop_one L k _ hck;have HB2 : Hid (r = (Dk.pln s[k] && (L.drop (k + 1)).all Dk.pln)) := hid' (by rw [HK.out, hdr, List.all_cons]);clear hck hdr HK;by_cases d1 : s[k].toNat < 32
   ·have HF : Hid (r = false) := hid' (by rw [HB2.out]; unfold Dk.pln; rw [decide_eq_false (by omega)]; rfl);have d1' : (s[k].toNat : Int) < 32 := by omega
    go_wp2;go_ret;exact ⟨by rw [HF.out]; rfl, rfl⟩
   have d1' : ¬ (s[k].toNat : Int) < 32 := by omega
   by_cases d2 : 126 < s[k].toNat
   ·have HF : Hid (r = false) := hid' (by rw [HB2.out]; unfold Dk.pln; rw [decide_eq_false (show ¬ s[k].toNat ≤ 126 by omega)]; simp);have d2' : (126 : Int) < (s[k].toNat : Int) := by omega
    clear d1;go_wp2;go_ret;exact ⟨by rw [HF.out]; rfl, rfl⟩
   have d2' : ¬ (126 : Int) < (s[k].toNat : Int) := by omega
   have HN : Hid (r = (L.drop (k + 1)).all Dk.pln) := hid' (by rw [HB2.out]; unfold Dk.pln; rw [decide_eq_true (show 32 ≤ s[k].toNat by omega), decide_eq_true (show s[k].toNat ≤ 126 by omega)]; rfl);clear d1 d2;go_wp2;go_roundw
   case rel => exact ⟨k + 1, by go_num, by omega, by first | rfl | trivial, HN⟩
   case measure => simp [intOf]; omega
  ·obtain rfl : k = s.size := by omega
   have hlt2 : ¬ (s.size : Int) < (s.size : Int) := by omega
   have HF : Hid (r = true) := hid' (by rw [HK.out, List.drop_of_length_le (by rw [HSZ.out]; exact Nat.le_refl _)]; rfl);go_wp2;go_ret;exact ⟨by rw [HF.out]; rfl, rfl⟩

set_option maxRecDepth 20000 in
theorem cpath13 (x : ByteArray) (b : Bool) (hb : Dk.path x.data.toList = b) (w : World) (hx : x.size ≤ 140737488355328) : Calls Tryz.prog 29 #[.string x] w fun e w' => e = .returned (.bool b) ∧ Below w.heap.size w w' := by
 rw [Dk.path_parts] at hb;have HB := hid' hb;have HC := hid' (Tryz.strings_CutPrefix x ⟨#[47]⟩ w);obtain ⟨hp, hhp⟩ : ∃ hp, Lib.hasPrefix x.data.toList [47] = hp := ⟨_, rfl⟩;have HHP := hid' hhp;obtain ⟨y, hy⟩ : ∃ y : ByteArray, (⟨(Lib.trimPrefix x.data.toList [47]).toArray⟩ : ByteArray) = y := ⟨_, rfl⟩;have HY := hid' hy;have HLX : Hid (x.data.toList.length = x.size) := hid' (by rw [← Lib.size_eq]);clear hb hhp hy;go_enter Tryz.func29, Tryz.ntmps29;go_wp2_with fail;refine HC.out.mono ?_;rw [HHP.out, HY.out];rintro e w1 ⟨rfl, hw1⟩;subst w1;cases hp
 ·have HF : Hid (b = false) := hid' (by rw [← HB.out, HHP.out]; rfl);go_wp2;go_ret;exact ⟨by rw [HF.out]; rfl, Below.refl _ _⟩
 by_cases h1 : 255 < x.size
 ·have h1' : (255 : Int) < (x.size : Int) := by omega
  have HF : Hid (b = false) := hid' (by rw [← HB.out, HHP.out, decide_eq_false (show ¬ x.data.toList.length ≤ 255 by rw [HLX.out]; omega)]; rfl);go_wp2;go_ret;exact ⟨by rw [HF.out]; rfl, Below.refl _ _⟩
 have h1' : ¬ (255 : Int) < (x.size : Int) := by omega
 obtain ⟨r, hr⟩ : ∃ r, x.data.toList.all Dk.pln = r := ⟨_, rfl⟩;have HR := hid' hr;clear hr;go_wp2_with fail;refine (cplain13 x r HR.out w hx).mono ?_;rintro e w1 ⟨rfl, hw1⟩;subst w1;cases r
 ·have HF : Hid (b = false) := hid' (by rw [← HB.out, HR.out]; simp);go_wp2;go_ret;exact ⟨by rw [HF.out]; rfl, Below.refl _ _⟩
 have HYL : Hid (y.data.toList = Lib.trimPrefix x.data.toList [47]) := hid' (by rw [← HY.out]);have HYS : Hid (y.size ≤ 255) := hid' (by
  rw [Lib.size_eq, HYL.out];unfold Lib.trimPrefix;rw [HHP.out];simp only [if_true, List.length_drop];have := HLX.out;omega)
 have HB2 : Hid (b = (Dk.pcs [] y.data.toList).all Dk.good) := hid' (by rw [← HB.out, HHP.out, HR.out, decide_eq_true (show x.data.toList.length ≤ 255 by rw [HLX.out]; omega), HYL.out]; rfl);go_wp2_with fail;refine (split13 y w HYS.out).mono ?_;rintro e w1 ⟨ps, rfl, hw1, hps, hlen⟩;obtain ⟨n, hn⟩ : ∃ n, ps.length = n := ⟨_, rfl⟩;have HBW : Hid (Below w.heap.size w w1) := hid' (by rw [hw1]; exact (Below.refl _ _).alloc (Nat.le_refl _) _);have HA : Hid (Ar w1 w.heap.size 9 (ps.map Value.string).toArray) := hid' (by rw [hw1]; exact heap_alloc_last w _);have HB3 : Hid (b = ps.all (fun p => Dk.good p.data.toList)) := hid' (by rw [HB2.out, ← hps, List.all_map]; rfl);obtain ⟨bl, hbl⟩ : ∃ bl, w.heap.size = bl := ⟨_, rfl⟩;rw [hbl] at HA;rw [hn] at hlen;rw [hn, hbl];have HN := hid' hn;clear hw1 hps hn hbl HB2 HB HC HHP HY HYL HYS HR HLX;go_wp2;go_loopw [27] (fun s27 wr => ∃ k : Nat, s27 = .int .i64 (k : Int) ∧ k ≤ n ∧ wr = w1 ∧ Hid (b = (ps.drop k).all (fun p => Dk.good p.data.toList))) (fun s27 _ => n - (intOf s27).toNat)
 case atStart => exact ⟨0, rfl, Nat.zero_le _, rfl, HB3⟩
 case round =>
  obtain ⟨k, rfl, hk, hwr, HK⟩ := hrel;subst wr;by_cases hlt : k < n
  ·have hlt2 : (k : Int) < (n : Int) := by omega
   obtain ⟨p, hp⟩ : ∃ p, ps[k]? = some p := ⟨_, List.getElem?_eq_getElem (by rw [HN.out]; exact hlt)⟩;have hcell : w1.cell? ⟨bl, k, none⟩ = some (.string p) := HA.out.cell k _ (by simp [hp]);have HB4 : Hid (b = (Dk.good p.toList && (ps.drop (k + 1)).all (fun p => Dk.good p.data.toList))) := hid' (by
    obtain ⟨h1, h2⟩ := List.getElem?_eq_some_iff.1 hp;rw [HK.out, List.drop_eq_getElem_cons h1, h2, List.all_cons, Lib.toList_data])
   clear hp HK;by_cases g1 : (p.toList == []) = true
   ·have HF : Hid (b = false) := hid' (by rw [HB4.out]; simp only [Dk.good, g1]; rfl);go_wp2;go_ret;exact ⟨by rw [HF.out]; rfl, HBW.out⟩
   have g1' : (p.toList == []) = false := by simpa using g1
   by_cases g2 : (p.toList == [46]) = true
   ·have HF : Hid (b = false) := hid' (by rw [HB4.out]; simp only [Dk.good, g2]; simp);clear g1;go_wp2;go_ret;exact ⟨by rw [HF.out]; rfl, HBW.out⟩
   have g2' : (p.toList == [46]) = false := by simpa using g2
   by_cases g3 : (p.toList == [46, 46]) = true
   ·have HF : Hid (b = false) := hid' (by rw [HB4.out]; simp only [Dk.good, g3]; simp);clear g1 g2;go_wp2;go_ret;exact ⟨by rw [HF.out]; rfl, HBW.out⟩
   have g3' : (p.toList == [46, 46]) = false := by simpa using g3
   have HN2 : Hid (b = (ps.drop (k + 1)).all (fun p => Dk.good p.data.toList)) := hid' (by
    rw [HB4.out];have : Dk.good p.toList = true := by unfold Dk.good; rw [g1', g2', g3']; rfl
    rw [this]; rfl)
   clear g1 g2 g3;go_wp2;go_roundw
   case rel => exact ⟨k + 1, by go_num, by omega, by first | rfl | trivial, HN2⟩
   case measure => simp [intOf]; omega
  ·obtain rfl : k = n := by omega
   have hlt2 : ¬ (k : Int) < (k : Int) := by omega
   have HF : Hid (b = true) := hid' (by rw [HK.out, List.drop_of_length_le (by rw [HN.out]; exact Nat.le_refl _)]; rfl);clear hlt;go_wp2;go_ret;exact ⟨by rw [HF.out]; rfl, HBW.out⟩

open Go.ChangeMaps (setBlock heap_setBlock_same heap_setBlock_other)

theorem eqmF (m : Nat) (W : World) : (binOp .eql 70 (.map (some m)) (.map none)).run Tryz.prog W = .ok (.bool false) W := by kernel_rfl

set_option maxRecDepth 20000 in
theorem cput13 {es es' : List Dk.En} {q q' t c : Int} {x y : ByteArray} (ho : PutOf13 es q x y t c es' q') (B b : Nat) (K : Nat → Prop) (w : World) (h : CD w B b K q es) (hx : x.size ≤ 140737488355328) (_hy : y.size ≤ 140737488425328) (hq0 : 0 ≤ q) (hq : q ≤ 9223372036854775806) :
  Calls Tryz.prog 17 #[.pointer (some ⟨b, 0, none⟩), .string x, .string y, .int .i64 t] w fun e w' => e = .returned (.int .i64 c) ∧ ∃ K', CD w' B b K' q' es' ∧ LF K w w' ∧ ∀ k, K' k → K k ∨ w.heap.size ≤ k := by
 obtain ⟨m, E, clock, h, hK⟩ := h;have H := hid' h;have HK := hid' hK;clear h hK;rcases ho with ⟨rfl, h1, rfl, rfl⟩ | ⟨rfl, ⟨h1, h2⟩, rfl, rfl⟩ | ⟨rfl, ⟨h1, h2, h3⟩, rfl, rfl⟩ | ⟨rfl, ⟨h1, h2, h3, h4, h5⟩, rfl, rfl⟩ | ⟨rfl, ⟨h1, h2, h3, h4⟩, rfl, rfl⟩
 ·have HP := hid' (cpath13 x false h1 w hx);clear h1;go_enter Tryz.func17, Tryz.ntmps17;go_wp2_with fail;refine HP.out.mono ?_;rintro e w1 ⟨rfl, hb1⟩;have HB := hid' hb1;clear hb1;go_wp2;go_ret;exact ⟨rfl, K, ⟨m, E, clock, H.out.keep HB.out, HK.out⟩, LF.of_below HB.out, fun _ hk => .inl hk⟩
 ·have HP := hid' (cpath13 x true h1 w hx);have h2' : (65536 : Int) < (y.size : Int) := by omega
  clear h1;go_enter Tryz.func17, Tryz.ntmps17;go_wp2_with fail;refine HP.out.mono ?_;rintro e w1 ⟨rfl, hb1⟩;have HB := hid' hb1;clear hb1;go_wp2;go_ret;exact ⟨rfl, K, ⟨m, E, clock, H.out.keep HB.out, HK.out⟩, LF.of_below HB.out, fun _ hk => .inl hk⟩
 ·have HP := hid' (cpath13 x true h1 w hx);have h2' : ¬ (65536 : Int) < (y.size : Int) := by omega
  clear h1;go_enter Tryz.func17, Tryz.ntmps17;go_wp2_with fail;refine HP.out.mono ?_;rintro e w1 ⟨rfl, hb1⟩;have HB := hid' hb1;clear hb1;by_cases h6 : t < 0
  ·clear h3;go_wp2;go_ret;exact ⟨rfl, K, ⟨m, E, clock, H.out.keep HB.out, HK.out⟩, LF.of_below HB.out, fun _ hk => .inl hk⟩
  ·have h7 : 253402300799 < t := by omega
   clear h3;go_wp2;go_ret;exact ⟨rfl, K, ⟨m, E, clock, H.out.keep HB.out, HK.out⟩, LF.of_below HB.out, fun _ hk => .inl hk⟩
 ·have HP := hid' (cpath13 x true h1 w hx);have h2' : ¬ (65536 : Int) < (y.size : Int) := by omega
  have h6 : ¬ t < 0 := by omega
  have h7 : ¬ 253402300799 < t := by omega
  obtain ⟨n, hn⟩ : ∃ n, es'.length = n := ⟨_, rfl⟩;rw [hn] at h5;have h5' : (1024 : Int) ≤ (n : Int) := by omega
  have HN := hid' hn;have HH := hid' h4;clear h1 h3 h4 hn;go_enter Tryz.func17, Tryz.ntmps17;go_wp2_with fail;refine HP.out.mono ?_;rintro e w1 ⟨rfl, hb1⟩;have HB := hid' hb1;have HC := hid' (H.out.keep hb1);clear hb1;go_wp2_with fail;refine (chas13 x false HH.out w1 HC.out).mono ?_;rintro e w2 ⟨rfl, hb2⟩;have HB2 := hid' (below_two HB.out hb2);have HC2 := hid' (HC.out.keep hb2);have c0 := HC2.out.hd.cell 0 _ rfl;have hln := HC2.out.mp.len utm 3;rw [HN.out] at hln;clear hb2;go_wp2;go_ret;exact ⟨rfl, K, ⟨m, E, clock, HC2.out, HK.out⟩, LF.of_below HB2.out, fun _ hk => .inl hk⟩
 ·have HP := hid' (cpath13 x true h1 w hx);have h2' : ¬ (65536 : Int) < (y.size : Int) := by omega
  have h6 : ¬ t < 0 := by omega
  have h7 : ¬ 253402300799 < t := by omega
  obtain ⟨n, hn⟩ : ∃ n, es.length = n := ⟨_, rfl⟩;obtain ⟨r, hr⟩ : ∃ r, Dk.has x.data.toList es = r := ⟨_, rfl⟩;have HN := hid' hn;have HH := hid' hr;have H4 := hid' h4;have heq := eqmF m;clear h1 h3 h4 hn hr;go_enter Tryz.func17, Tryz.ntmps17;go_wp2_with fail;refine HP.out.mono ?_;rintro e w1 ⟨rfl, hb1⟩;have HB := hid' hb1;have HC := hid' (H.out.keep hb1);clear hb1;go_wp2_with fail;refine (chas13 x r HH.out w1 HC.out).mono ?_;rintro e w2 ⟨rfl, hb2⟩;have HB2 := hid' (below_two HB.out hb2);have HC2 := hid' (HC.out.keep hb2);have c0 := HC2.out.hd.cell 0 _ rfl;have c1 := HC2.out.hd.cell 1 _ rfl;have f1 := HC2.out.hd.free 1;have hln := HC2.out.mp.len utm 3;rw [HN.out] at hln;have HR : Hid (r = false → (n : Int) < 1024) := hid' (by
   intro hrf;have := H4.out;rw [HH.out, hrf, HN.out] at this;rcases this with h | h
   ·cases h
   ·omega)
  clear hb2;cases r
  ·have h8 : ¬ (1024 : Int) ≤ (n : Int) := by have := HR.out rfl; omega
   go_upto_region 14 with fail;have HU3 := hid' (upd_setCell w2 b 1 (.int .i64 (q + 1)));have HA3 : Hid (Ar (w2.setCell ⟨b, 1, none⟩ (.int .i64 (q + 1))) b 73 #[.map (some m), .int .i64 (q + 1)]) := hid' (by have := HC2.out.hd.set 1 (.int .i64 (q + 1)); simpa using this);have HM3 := hid' (HC2.out.mp.other (HU3.out.block m HC2.out.apart.symm));generalize w2.setCell ⟨b, 1, none⟩ (.int .i64 (q + 1)) = w3 at *;have HMd : Hid (Mp pk fk w3.drew m (fg es) es.length E clock) := hid' (HM3.out.other rfl);obtain ⟨E', clock', hrun, hmp⟩ := HMd.out.store ky utm x ⟨x, y, t, q + 1⟩;have hrun' : (Instr.mapUpdate 70 (.map (some m)) (.string x) (.agg #[.string y, .int .i64 t, .int .i64 (q + 1)])).run Tryz.prog w3.drew = .ok () (setBlock w3.drew m (.map E' clock')) := hrun;have HMP := hid' hmp;have HUB := hid' (upd_block w3.drew m (.map E' clock'));generalize setBlock w3.drew m (.map E' clock') = w4 at *;have hS : w3.drew.cell? ⟨b, 0, none⟩ = some (.map (some m)) ∧ w3.drew.cell? ⟨b, 1, none⟩ = some (.int .i64 (q + 1)) := ⟨HA3.out.cell 0 _ rfl, HA3.out.cell 1 _ rfl⟩;have HA4 := hid' (HUB.out.keep (Ar.drew HA3.out) HC2.out.apart);have hS4 : w4.cell? ⟨b, 0, none⟩ = some (.map (some m)) ∧ w4.cell? ⟨b, 1, none⟩ = some (.int .i64 (q + 1)) := ⟨HA4.out.cell 0 _ rfl, HA4.out.cell 1 _ rfl⟩;clear c0 c1 f1 hln heq hrun hmp HMd;go_region_held3 (fun W => W.cell? ⟨b, 0, none⟩ = some (.map (some m)) ∧ W.cell? ⟨b, 1, none⟩ = some (.int .i64 (q + 1))) (first | assumption) (fail);go_wp2;go_ret;have hm := HMP.out;rw [mput_fg HC2.out.ok ⟨x, y, t, q + 1⟩] at hm;obtain ⟨hlen, hle⟩ : (if (fg es x).isSome = true then es.length else es.length + 1) = (Dk.put ⟨x, y, t, q + 1⟩ es).length ∧ (Dk.put ⟨x, y, t, q + 1⟩ es).length ≤ 1024 := by
    have hl := HC2.out.le;have hr := HR.out;have hnn := HN.out;unfold fg;rw [← Dk.get_has HC2.out.ok, HH.out];obtain ⟨_, _, _, _, _, hl2, _⟩ := Dk.put_no es ⟨x, y, t, q + 1⟩ HC2.out.ok HH.out;have := hr (by first | exact rfl | trivial);rw [hl2];exact ⟨rfl, by omega⟩
   rw [hlen] at hm;have hlf : LF K w2 w4 := ((LF.of_upd (S := K) HU3.out ((HK.out b).2 (.inl rfl))).trans (LF.of_below (S := K) ((Below.refl _ w3).drew)) (fun _ _ h => h)).trans (LF.of_upd (S := K) HUB.out ((HK.out m).2 (.inr rfl))) (fun _ _ h => h);exact ⟨rfl, K, ⟨m, E', clock', ⟨HC2.out.lo, HC2.out.lm, HA4.out, hm, Dk.put_ok es _ HC2.out.ok, hle⟩, HK.out⟩, (LF.of_below (S := K) HB2.out).trans hlf (fun _ _ h => h), fun _ hk => .inl hk⟩
  ·go_upto_region 14 with fail;have HU3 := hid' (upd_setCell w2 b 1 (.int .i64 (q + 1)));have HA3 : Hid (Ar (w2.setCell ⟨b, 1, none⟩ (.int .i64 (q + 1))) b 73 #[.map (some m), .int .i64 (q + 1)]) := hid' (by have := HC2.out.hd.set 1 (.int .i64 (q + 1)); simpa using this);have HM3 := hid' (HC2.out.mp.other (HU3.out.block m HC2.out.apart.symm));generalize w2.setCell ⟨b, 1, none⟩ (.int .i64 (q + 1)) = w3 at *;have HMd : Hid (Mp pk fk w3.drew m (fg es) es.length E clock) := hid' (HM3.out.other rfl);obtain ⟨E', clock', hrun, hmp⟩ := HMd.out.store ky utm x ⟨x, y, t, q + 1⟩;have hrun' : (Instr.mapUpdate 70 (.map (some m)) (.string x) (.agg #[.string y, .int .i64 t, .int .i64 (q + 1)])).run Tryz.prog w3.drew = .ok () (setBlock w3.drew m (.map E' clock')) := hrun;have HMP := hid' hmp;have HUB := hid' (upd_block w3.drew m (.map E' clock'));generalize setBlock w3.drew m (.map E' clock') = w4 at *;have hS : w3.drew.cell? ⟨b, 0, none⟩ = some (.map (some m)) ∧ w3.drew.cell? ⟨b, 1, none⟩ = some (.int .i64 (q + 1)) := ⟨HA3.out.cell 0 _ rfl, HA3.out.cell 1 _ rfl⟩;have HA4 := hid' (HUB.out.keep (Ar.drew HA3.out) HC2.out.apart);have hS4 : w4.cell? ⟨b, 0, none⟩ = some (.map (some m)) ∧ w4.cell? ⟨b, 1, none⟩ = some (.int .i64 (q + 1)) := ⟨HA4.out.cell 0 _ rfl, HA4.out.cell 1 _ rfl⟩;clear c0 c1 f1 hln heq hrun hmp HMd;go_region_held3 (fun W => W.cell? ⟨b, 0, none⟩ = some (.map (some m)) ∧ W.cell? ⟨b, 1, none⟩ = some (.int .i64 (q + 1))) (first | assumption) (fail);go_wp2;go_ret;have hm := HMP.out;rw [mput_fg HC2.out.ok ⟨x, y, t, q + 1⟩] at hm;obtain ⟨hlen, hle⟩ : (if (fg es x).isSome = true then es.length else es.length + 1) = (Dk.put ⟨x, y, t, q + 1⟩ es).length ∧ (Dk.put ⟨x, y, t, q + 1⟩ es).length ≤ 1024 := by
    have hl := HC2.out.le;have hr := HR.out;have hnn := HN.out;unfold fg;rw [← Dk.get_has HC2.out.ok, HH.out];obtain ⟨_, _, _, _, _, _, _, hl2, _⟩ := Dk.put_yes es ⟨x, y, t, q + 1⟩ HC2.out.ok HH.out;rw [hl2];exact ⟨rfl, hl⟩
   rw [hlen] at hm;have hlf : LF K w2 w4 := ((LF.of_upd (S := K) HU3.out ((HK.out b).2 (.inl rfl))).trans (LF.of_below (S := K) ((Below.refl _ w3).drew)) (fun _ _ h => h)).trans (LF.of_upd (S := K) HUB.out ((HK.out m).2 (.inr rfl))) (fun _ _ h => h);exact ⟨rfl, K, ⟨m, E', clock', ⟨HC2.out.lo, HC2.out.lm, HA4.out, hm, Dk.put_ok es _ HC2.out.ok, hle⟩, HK.out⟩, (LF.of_below (S := K) HB2.out).trans hlf (fun _ _ h => h), fun _ hk => .inl hk⟩

end Go.Proofs.YthhpejgpfaikaabGreatDoor
