/-
  What the row stands on.
-/
import Derived.Test.YthhpejgpfaikaabGreatDoorProg
import Derived.WalkKit
import Derived.Laws.Cover1
import Derived.Laws.OwnMore
import Derived.Great.BuildSlice
import Derived.Deep.QuietTactic
import Derived.BigQuiet
import Derived.Maps.AppendAt
import Derived.Deep.CutRange
import Derived.Test.YthhpejgpfaikaabGreatDoorPqAA
import Derived.Test.YthhpejgpfaikaabGreatDoorPqAB
import Derived.Test.YthhpejgpfaikaabGreatDoorShelfP
import Derived.Shelf.Strings.SlTrimAscii
namespace Go.Proofs.YthhpejgpfaikaabGreatDoor
set_option maxHeartbeats 64000000
open Go.RowKit

theorem bl_alloc (w : World) (x : Obj) : Below w.heap.size w (w.alloc x) := (Below.refl _ _).alloc (Nat.le_refl _) _
theorem own_keep15 {w w' : World} {B : Nat} {e : TypeId} {s : Nat} {v : Value} {n : Nat} {xs : List Value} (h : w.ownsRow B e s v n xs) (hb : Below w.heap.size w w') : w'.ownsRow B e s v n xs := own_same h (fun j hj => hb.block j (own_lt h j hj))

def tV (t : Tg.Tag) : List Value := [.bool t.w, .string ⟨t.v.toArray⟩]
def tC (l : List Tg.Tag) : List Value := l.flatMap tV
theorem tC_append (l m : List Tg.Tag) : tC (l ++ m) = tC l ++ tC m := by simp [tC]
theorem tC_length (l : List Tg.Tag) : (tC l).length = l.length * 2 := by
 induction l with
 | nil => rfl
 | cons a r ih => simp only [tC, List.flatMap_cons, List.length_append, List.length_cons] at *; simp [tV] at *; omega
theorem t_at (l : List Tg.Tag) (i : Nat) (p : Tg.Tag) (h : l[i]? = some p) : ∀ j, j < 2 → (tC l)[i * 2 + j]? = (tV p)[j]? := by
 induction l generalizing i with
 | nil => simp at h
 | cons a r ih =>
  intro j hj;rw [show tC (a :: r) = tV a ++ tC r from rfl];cases i with
  | zero => simp at h; subst h; rw [List.getElem?_append_left (by simp [tV]; omega)]; congr 1; omega
  | succ i =>
   rw [List.getElem?_append_right (by simp [tV]; omega), show (i + 1) * 2 + j - (tV a).length = i * 2 + j by simp [tV]; omega];exact ih i (by simpa using h) j hj
theorem own_two {w : World} {B : Nat} {e : TypeId} {ao : Option Addr} {n m cap : Nat} {l : List Tg.Tag} (h : w.ownsRow B e 2 (.slice ao n cap) m (tC l)) (i : Nat) (p : Tg.Tag) (hp : l[i]? = some p) : ∃ g, ao = some ⟨g, 0, none⟩ ∧ w.cell? ⟨g, i * 2, none⟩ = some (.bool p.w) ∧ w.cell? ⟨g, i * 2 + 1, none⟩ = some (.string ⟨p.v.toArray⟩) := by
 have hlt : i * 2 < (tC l).length := by rw [tC_length]; have := (List.getElem?_eq_some_iff.1 hp).1; omega
 rcases h.2 with ⟨_, h0⟩ | ⟨g, cap', cur, h1, h2⟩
 ·rw [h.1, h0] at hlt; omega
 ·injection h1 with h1 h3 h4;subst h1;have key : ∀ j u, j < 2 → (tV p)[j]? = some u → w.cell? ⟨g, i * 2 + j, none⟩ = some u := fun j u hj hu => by
   have := h.cells (g := g) rfl _ u ((t_at l i p hp j hj).trans hu)
   rwa [Addr.add_mid, Nat.zero_add] at this
  exact ⟨g, rfl, key 0 _ (by omega) rfl, key 1 _ (by omega) rfl⟩

theorem zeroC15 : (Tryz.prog.info? 250).map (fun i => i.zero) = some (some (.agg #[.bool false, .string ⟨#[]⟩])) := by kernel_rfl
theorem sizeC15 : (Tryz.prog.info? 250).map (·.size) = some 2 := by kernel_rfl
theorem infoC15 : (Tryz.prog.info? 250).map (fun i => (i.zero, i.size, i.bytes)) = some (some (.agg #[.bool false, .string ⟨#[]⟩]), 2, 24) := by kernel_rfl
theorem ldC15 {w : World} {b : Nat} {x0 x1 : Value} (h : Ar w b 250 #[x0, x1]) : (loadVar 250 ⟨b, 0, none⟩).run Tryz.prog w = .ok (.agg #[x0, x1]) w :=
 run_loadVar_row (P := Tryz.prog) w b 250 250 _ (0, 0) _ h Tryz.underlying250 rfl sizeC15

namespace Tg
theorem inn_at {m : List UInt8} {k : Nat} (h : k < inn m) : ∃ c, m[k]? = some c ∧ etB c = true := by
 unfold inn at h
 induction m generalizing k with
 | nil => simp at h
 | cons x r ih =>
  rw [List.takeWhile_cons] at h;cases hx : etB x
  ·rw [hx] at h; simp at h
  ·rw [hx] at h;cases k with
   | zero => exact ⟨x, rfl, hx⟩
   | succ k => simpa using ih (by simpa using h)
theorem inn_stop {m : List UInt8} {c : UInt8} (h : m[inn m]? = some c) : etB c = false := by
 unfold inn at h
 induction m with
 | nil => simp at h
 | cons x r ih =>
  rw [List.takeWhile_cons] at h;cases hx : etB x
  ·rw [hx] at h; simp at h; subst h; exact hx
  ·rw [hx] at h; simp at h; exact ih h
end Tg


namespace Tg
theorem in_at (s : ByteArray) (a k : Nat) (h : a + k < s.size) (hk : k < inn (s.data.toList.drop a)) : etC (s[a + k].toNat : Int) = true := by
 obtain ⟨c, h1, h2⟩ := inn_at hk;rw [List.getElem?_drop, Tx.get_byte s _ h] at h1;injection h1 with h1;subst h1;exact h2
theorem in_stop (s : ByteArray) (a k : Nat) (h : a + k < s.size) (hk : inn (s.data.toList.drop a) = k) : etC (s[a + k].toNat : Int) = false := by
 have h1 : (s.data.toList.drop a)[inn (s.data.toList.drop a)]? = some s[a + k] := by
  rw [hk, List.getElem?_drop, Tx.get_byte s _ h]
 exact inn_stop h1
theorem ext_td (s : ByteArray) (a b : Nat) : s.extract a b = ⟨((s.data.toList.drop a).take (b - a)).toArray⟩ := by
 apply ByteArray.ext;rw [ByteArray.data_extract];apply Array.toList_inj.1;simp [Array.toList_extract, List.extract_eq_take_drop]
end Tg


namespace Tg
theorem done_none {l : List UInt8} (hs : star l = false) (h : go true l = none) : tags l = [] ∧ err l = 150 := by
 have h1 : tags l = [] := by unfold tags; rw [hs, h]; rfl
 refine ⟨h1, ?_⟩;unfold err; rw [hs, h1]; rfl
theorem done_some {l : List UInt8} {os : List Tag} (hs : star l = false) (h : go true l = some os) : tags l = os ∧ err l = if os.isEmpty then 150 else 0 := by
 have h1 : tags l = os := by unfold tags; rw [hs, h]; rfl
 refine ⟨h1, ?_⟩;unfold err; rw [hs, h1]; rfl
theorem done_star {l : List UInt8} (hs : star l = true) : tags l = [] ∧ err l = 0 := by
 unfold err tags; rw [hs]; exact ⟨rfl, rfl⟩
theorem nOf_le {l : List UInt8} (h : isOne l = true) : nOf l ≤ l.length := by
 have hne : l ≠ [] := by rintro rfl; revert h; decide
 exact ((one_app (b := []) hne (fun x hx => by cases hx)).2 h).2.2
theorem nOf_pos (l : List UInt8) : 2 ≤ nOf l := by unfold nOf; omega
theorem drop_c {l : List UInt8} {k : Nat} {c : UInt8} (hc : l[k]? = some c) : l.drop k = c :: l.drop (k + 1) := by
 obtain ⟨h1, h2⟩ := List.getElem?_eq_some_iff.1 hc;rw [List.drop_eq_getElem_cons h1, h2]
theorem map_app {o : Option (List Tag)} {os : List Tag} {t : Tag} : (o.map (t :: ·)).map (os ++ ·) = o.map ((os ++ [t]) ++ ·) := by
 cases o <;> simp
theorem star_at (s : ByteArray) (l : List UInt8) (h : s.data.toList = Tx.trim l) : (s.toList == [42]) = star l := by
 unfold star;rw [Lib.toList_data, h]
theorem size_of_l (l : List UInt8) : (⟨l.toArray⟩ : ByteArray).size = l.length := by simp [ByteArray.size]
end Tg


namespace Tg
theorem u8_is {c : UInt8} {n : Nat} (hn : n < 256) : (c == UInt8.ofNat n) = ((c.toNat : Int) == (n : Int)) := by
 rw [Bool.eq_iff_iff, beq_iff_eq, beq_iff_eq];constructor
 ·rintro rfl; rw [UInt8.toNat_ofNat', Nat.mod_eq_of_lt hn]
 ·intro h;apply UInt8.toNat_inj.1;rw [UInt8.toNat_ofNat', Nat.mod_eq_of_lt hn]; omega
theorem blk_in (c : UInt8) : ([32, 9] : List UInt8).contains c = Tx.blkB c := by
 unfold Tx.blkB Tx.blkC;rw [List.contains_cons, List.contains_cons, List.contains_nil, Bool.or_false];rw [show (c == 32) = ((c.toNat : Int) == ((32 : Nat) : Int)) from u8_is (by decide), show (c == 9) = ((c.toNat : Int) == ((9 : Nat) : Int)) from u8_is (by decide)];rfl
theorem sep_in (c : UInt8) : ([32, 9, 44] : List UInt8).contains c = sepB c := by
 unfold sepB;rw [← blk_in];simp only [List.contains_cons, List.contains_nil, Bool.or_false, Bool.or_assoc]
theorem trim_sep (l : List UInt8) : Lib.trimLeftS l [32, 9, 44] = pieces l := by
 unfold Lib.trimLeftS pieces;congr 1
 funext c
 exact sep_in c
theorem trim_blk (l : List UInt8) : Lib.trimLeftS l [32, 9] = l.dropWhile Tx.blkB := by
 unfold Lib.trimLeftS;congr 1
 funext c
 exact blk_in c
theorem pre_one (l : List UInt8) (c : UInt8) : Lib.hasPrefix l [c] = (l.head? == some c) := by
 unfold Lib.hasPrefix;cases l with
 | nil => rfl
 | cons a r => simp [List.isPrefixOf]; exact Bool.beq_comm
theorem pre_wk (l : List UInt8) : Lib.hasPrefix l [87, 47] = wk l := by
 unfold Lib.hasPrefix wk
 match l with
 | [] => rfl
 | [a] => simp [List.isPrefixOf]
 | a :: b :: r => simp [List.isPrefixOf]; rw [Bool.beq_comm (a := a), Bool.beq_comm (a := b)]
theorem cut_wk (l : List UInt8) : Lib.trimPrefix l [87, 47] = opq l := by
 unfold Lib.trimPrefix opq wn;rw [pre_wk];cases wk l <;> rfl
theorem cut_q (l : List UInt8) : Lib.trimPrefix l [34] = if l.head? == some 34 then l.drop 1 else l := by
 unfold Lib.trimPrefix;rw [pre_one];rfl
def fV (l : List UInt8) : Value := if isOne l then .tuple #[.agg (tV (tagOf l)).toArray, .string ⟨(l.drop (nOf l)).toArray⟩, .bool true] else .tuple #[.agg #[.bool false, .string ⟨#[]⟩], .string ⟨#[]⟩, .bool false]
theorem fV_no {l : List UInt8} (h : isOne l = false) : fV l = .tuple #[.agg #[.bool false, .string ⟨#[]⟩], .string ⟨#[]⟩, .bool false] := by unfold fV; rw [h]; rfl
theorem fV_yes {l : List UInt8} (h : isOne l = true) : fV l = .tuple #[.agg #[.bool (tagOf l).w, .string ⟨(tagOf l).v.toArray⟩], .string ⟨(l.drop (nOf l)).toArray⟩, .bool true] := by unfold fV; rw [h]; rfl
end Tg

theorem cinner15 (c : Int) (b : Bool) (hb : Tg.etC c = b) (w : World) : Calls Tryz.prog 227 #[.int .u8 c] w fun e w' => e = .returned (.bool b) ∧ w' = w := by
 subst hb;unfold Tg.etC;cases h1 : (c == 33) <;> cases h2 : decide (35 ≤ c) <;> cases h3 : decide (c ≤ 126) <;> cases h4 : decide (128 ≤ c)
 all_goals
  go_enter Tryz.func227, Tryz.ntmps227;go_wp2;go_ret;exact ⟨rfl, rfl⟩

theorem cpieces15 (s : ByteArray) (l : List UInt8) (hl : s.data.toList = l) (r : ByteArray) (hr : (⟨(Tg.pieces l).toArray⟩ : ByteArray) = r) (w : World) :
  Calls Tryz.prog 199 #[.string s] w fun e w' => e = .returned (.string r) ∧ Below w.heap.size w w' := by
 have hcon := Any.strings_TrimLeft_laid Tryz.lays161 (by kernel_rfl) s ⟨#[32, 9, 44]⟩ w (by decide) (ascii_of_all (by decide));change Calls Tryz.prog 226 _ _ (fun e w' => e = .returned (.string ⟨(Lib.trimLeftS s.data.toList [32, 9, 44]).toArray⟩) ∧ Below w.heap.size w w') at hcon;rw [Tg.trim_sep, hl, hr] at hcon;clear hr;go_enter Tryz.func199, Tryz.ntmps199;go_wp2_with (go_at_call 226; refine hcon.mono ?_; rintro e w' ⟨rfl, hB⟩);go_ret;exact ⟨rfl, hB⟩

theorem cends15 (s : ByteArray) (l : List UInt8) (hl : s.data.toList = l) (b : Bool) (hb : Tg.ends l = b) (w : World) :
  Calls Tryz.prog 201 #[.string s] w fun e w' => e = .returned (.bool b) ∧ Below w.heap.size w w' := by
 have hcon := Any.strings_TrimLeft_laid Tryz.lays161 (by kernel_rfl) s ⟨#[32, 9]⟩ w (by decide) (ascii_of_all (by decide));change Calls Tryz.prog 226 _ _ (fun e w' => e = .returned (.string ⟨(Lib.trimLeftS s.data.toList [32, 9]).toArray⟩) ∧ Below w.heap.size w w') at hcon;rw [Tg.trim_blk, hl] at hcon;unfold Tg.ends at hb;obtain ⟨u, hu⟩ : ∃ u, l.dropWhile Tx.blkB = u := ⟨_, rfl⟩;rw [hu] at hcon hb;obtain ⟨x, hx⟩ : ∃ x : ByteArray, (⟨u.toArray⟩ : ByteArray) = x := ⟨_, rfl⟩;have hxl : x.data.toList = u := by rw [← hx]
 rw [hx] at hcon;have HP : Hid (∀ W, Calls Tryz.prog 51 #[.string x, .string ⟨#[44]⟩] W fun e w' => e = .returned (.bool (u.head? == some 44)) ∧ w' = W) := hid' (fun W => by have := Tryz.strings_HasPrefix x ⟨#[44]⟩ W; rw [← Tg.pre_one, ← hxl]; exact this);have HC := hid' hcon;have e1 : (x.toList == []) = (u == []) := by rw [Lib.toList_data, hxl]
 clear hcon hu hx hxl;rw [← e1] at hb;cases h1 : (x.toList == [])
 ·rw [h1, Bool.false_or] at hb;rw [hb] at HP;clear e1;go_enter Tryz.func201, Tryz.ntmps201;go_wp2_with fail;refine HC.out.mono ?_;rintro e w1 ⟨rfl, hb1⟩;go_wp2_with fail;refine (HP.out _).mono ?_;rintro e w2 ⟨rfl, hw2⟩;subst w2;go_wp2;go_ret;exact ⟨rfl, hb1⟩
 ·rw [h1, Bool.true_or] at hb;subst hb;clear e1;go_enter Tryz.func201, Tryz.ntmps201;go_wp2_with fail;refine HC.out.mono ?_;rintro e w1 ⟨rfl, hb1⟩;go_wp2;go_ret;exact ⟨rfl, hb1⟩

set_option maxRecDepth 20000 in
theorem cfirst15 (s : ByteArray) (l : List UInt8) (hl : s.data.toList = l) (w : World) (hs : s.size ≤ 140737488355328) :
  Calls Tryz.prog 200 #[.string s] w fun e w' => e = .returned (Tg.fV l) ∧ Below w.heap.size w w' := by
 have HC1 : Hid (∀ W, Calls Tryz.prog 41 #[.string s, .string ⟨#[87, 47]⟩] W fun e w' => e = .returned (.tuple #[.string ⟨(Tg.opq l).toArray⟩, .bool (Tg.wk l)]) ∧ w' = W) := hid' (fun W => by
  have := Tryz.strings_CutPrefix s ⟨#[87, 47]⟩ W;rw [hl] at this;rw [← Tg.pre_wk, ← Tg.cut_wk]; exact this)
 obtain ⟨o, ho⟩ : ∃ o : ByteArray, (⟨(Tg.opq l).toArray⟩ : ByteArray) = o := ⟨_, rfl⟩;have HO : Hid (o.data.toList = Tg.opq l) := hid' (by rw [← ho]);have hos : o.size ≤ 140737488355328 := by
  rw [← ho, Tg.size_of_l]; unfold Tg.opq;rw [List.length_drop, ← hl, ← Lib.size_eq]; omega
 obtain ⟨wkb, hwk⟩ : ∃ b, Tg.wk l = b := ⟨_, rfl⟩;rw [ho, hwk] at HC1;have HWK := hid' hwk;have HC2 : Hid (∀ W, Calls Tryz.prog 41 #[.string o, .string ⟨#[34]⟩] W fun e w' => e = .returned (.tuple #[.string ⟨(if (Tg.opq l).head? == some 34 then (Tg.opq l).drop 1 else Tg.opq l).toArray⟩, .bool ((Tg.opq l).head? == some 34)]) ∧ w' = W) := hid' (fun W => by
  have := Tryz.strings_CutPrefix o ⟨#[34]⟩ W;rw [HO.out] at this;rw [← Tg.cut_q, ← Tg.pre_one]; exact this)
 obtain ⟨x, hx⟩ : ∃ x : ByteArray, (⟨(if (Tg.opq l).head? == some 34 then (Tg.opq l).drop 1 else Tg.opq l).toArray⟩ : ByteArray) = x := ⟨_, rfl⟩;obtain ⟨is, his⟩ : ∃ b, ((Tg.opq l).head? == some 34) = b := ⟨_, rfl⟩;have HXL : Hid (x.data.toList = if is then (Tg.opq l).drop 1 else Tg.opq l) := hid' (by rw [← hx, his]);rw [hx, his] at HC2;have HIS := hid' his;have hxs : x.size ≤ 140737488355328 := by
  rw [Lib.size_eq, HXL.out, ← HO.out];rw [Lib.size_eq] at hos;cases is <;> simp only [Bool.false_eq_true, if_false, if_true, List.length_drop] <;> omega
 obtain ⟨z, hz⟩ : ∃ z, Tg.inn x.data.toList = z := ⟨_, rfl⟩;have HZ := hid' hz;have hzb : z ≤ x.size := by rw [← hz, Lib.size_eq]; exact Tg.inn_le _
 have HP : Hid (∀ W, Calls Tryz.prog 51 #[.string (x.extract z x.size), .string ⟨#[34]⟩] W fun e w' => e = .returned (.bool ((x.data.toList.drop z).head? == some 34)) ∧ w' = W) := hid' (fun W => by
  have := Tryz.strings_HasPrefix (x.extract z x.size) ⟨#[34]⟩ W;rw [Tg.ext_td, List.take_of_length_le (by rw [List.length_drop, ← Lib.size_eq]; exact Nat.le_refl _)] at this ⊢;rw [← Tg.pre_one]; exact this)
 obtain ⟨hp, hhp⟩ : ∃ b, ((x.data.toList.drop z).head? == some 34) = b := ⟨_, rfl⟩;rw [hhp] at HP;have HHP := hid' hhp;have hxe : x = ByteArray.empty → x.size = 0 := fun e => by rw [e]; rfl
 clear ho hwk hx his hz hhp hl hs;go_enter Tryz.func200, Tryz.ntmps200
 go_wp2_with (refine wpl_alloc 250 rfl rfl #[.bool false, .string ⟨#[]⟩] zeroC15 ?_);intro b0 w0 hb0 ha0 hbe0;have HX := hid' ha0;have HB0 := hid' hbe0;have HG0 := hid' hb0;clear hb0 ha0 hbe0;go_wp2_with fail;refine (HC1.out _).mono ?_;rintro e w1 ⟨rfl, hw1⟩;subst w1;go_wp2_with fail;refine (HC2.out _).mono ?_;rintro e w1 ⟨rfl, hw1⟩;subst w1;go_wp2;go_loopw [9] (fun s9 wr => ∃ k : Nat, s9 = .int .i64 (k : Int) ∧ k ≤ z ∧ Hid (wr = w0)) (fun s9 _ => z - (intOf s9).toNat)
 case atStart => exact ⟨0, rfl, Nat.zero_le _, hid' rfl⟩
 case round =>
  obtain ⟨k, rfl, hk, HW⟩ := hrel;obtain rfl := HW.out;by_cases hkz : k < z
  ·have hks : k < x.size := by omega
   have hks2 : (k : Int) < (x.size : Int) := by omega
   have he : Tg.etC (x[k].toNat : Int) = true := by
    have := Tg.in_at x 0 k (by omega) (by rw [List.drop_zero, HZ.out]; exact hkz);simpa using this
   go_wp2_with fail;refine (cinner15 _ _ he _).mono ?_;rintro e wq ⟨rfl, hwq⟩;subst hwq;go_wp2;go_roundw
   case rel => exact ⟨k + 1, by go_num, by omega, HW⟩
   case measure => simp [intOf]; omega
  ·obtain rfl : k = z := by omega
   have hkx : (k : Int) ≤ (x.size : Int) := by omega
   by_cases hks : k < x.size
   ·have hks2 : (k : Int) < (x.size : Int) := by omega
    have he : Tg.etC (x[k].toNat : Int) = false := by
     have := Tg.in_stop x 0 k (by omega) (by rw [List.drop_zero, HZ.out]);simpa using this
    cases is
    ·have HV : Hid (Tg.fV l = .tuple #[.agg #[.bool false, .string ⟨#[]⟩], .string ⟨#[]⟩, .bool false]) := hid' (Tg.fV_no (by unfold Tg.isOne; rw [HIS.out]; rfl));go_wp2_with fail;refine (cinner15 _ _ he _).mono ?_;rintro e wq ⟨rfl, hwq⟩;subst hwq;clear he;go_wp2_with (refine wpl_store 250 _ _ rfl rfl b0 #[.bool false, .string ⟨#[]⟩] (by kernel_rfl) (by kernel_rfl) _ _ HX.out sizeC15 rfl (by simp [Value.oneCell']) ?_);intro w2 ha2 hu2;have hld := ldC15 ha2;have HB2 := hid' (HB0.out.trans (hu2.below HG0.out));clear ha2 hu2;go_wp2;exact bodyPost_ret (v := .tuple #[.agg #[.bool false, .string ⟨#[]⟩], .string ⟨#[]⟩, .bool false]) (by simp [results, Tryz.results200, asAddr, hld]) rfl ⟨by rw [HV.out], HB2.out⟩
    ·have HSZ : Hid (Tg.sz l = k) := hid' (by rw [← HZ.out, HXL.out]; rfl);have HPQ : Hid ((((Tg.opq l).drop (1 + k)).head? == some 34) = hp) := hid' (by
      have := HHP.out;rw [HXL.out, if_pos rfl, List.drop_drop] at this;exact this)
     cases hp
     ·have HV : Hid (Tg.fV l = .tuple #[.agg #[.bool false, .string ⟨#[]⟩], .string ⟨#[]⟩, .bool false]) := hid' (Tg.fV_no (by unfold Tg.isOne; rw [HIS.out, HSZ.out, HPQ.out]; rfl));go_wp2_with fail;refine (cinner15 _ _ he _).mono ?_;rintro e wq ⟨rfl, hwq⟩;subst hwq;clear he;go_wp2_with fail;refine (HP.out _).mono ?_;rintro e w1 ⟨rfl, hw1⟩;subst w1;go_wp2_with (refine wpl_store 250 _ _ rfl rfl b0 #[.bool false, .string ⟨#[]⟩] (by kernel_rfl) (by kernel_rfl) _ _ HX.out sizeC15 rfl (by simp [Value.oneCell']) ?_);intro w2 ha2 hu2;have hld := ldC15 ha2;have HB2 := hid' (HB0.out.trans (hu2.below HG0.out));clear ha2 hu2;go_wp2;exact bodyPost_ret (v := .tuple #[.agg #[.bool false, .string ⟨#[]⟩], .string ⟨#[]⟩, .bool false]) (by simp [results, Tryz.results200, asAddr, hld]) rfl ⟨by rw [HV.out], HB2.out⟩
     ·have H1 : Hid (Tg.isOne l = true) := hid' (by unfold Tg.isOne; rw [HIS.out, HSZ.out, HPQ.out]; rfl);have hko : k + 2 ≤ o.size := by
       rw [Lib.size_eq, HO.out];rcases Nat.lt_or_ge (1 + k) (Tg.opq l).length with h | h
       ·omega
       ·have := HPQ.out;rw [List.drop_eq_nil_of_le h] at this;cases this
      have hko2 : (k : Int) + 2 ≤ (o.size : Int) := by omega
      have hko3 : 1 + k + 1 ≤ o.size := by omega
      have HV : Hid (Tg.fV l = .tuple #[.agg #[.bool wkb, .string (o.extract 0 (k + 2))], .string (o.extract (k + 2) o.size), .bool true]) := hid' (by
       rw [Tg.fV_yes H1.out];unfold Tg.tagOf Tg.nOf;rw [HWK.out, HSZ.out, Tg.ext_td, Tg.ext_td, HO.out, List.drop_zero, Nat.sub_zero, List.take_of_length_le (l := (Tg.opq l).drop (k + 2)) (by rw [List.length_drop, ← HO.out, ← Lib.size_eq]; exact Nat.le_refl _)];unfold Tg.opq;rw [List.drop_drop])
      go_wp2_with fail;refine (cinner15 _ _ he _).mono ?_;rintro e wq ⟨rfl, hwq⟩;subst hwq;clear he;go_wp2_with fail;refine (HP.out _).mono ?_;rintro e w1 ⟨rfl, hw1⟩;subst w1;go_wp2;have p0 := HX.out.cell 0 _ rfl;have p1 := HX.out.cell 1 _ rfl;have pf := HX.out.free 0;have pg := HX.out.free 1;go_region;have HA2 : Hid (Ar (((wq.setCell ⟨b0, 0, none⟩ (.bool wkb)).setCell ⟨b0, 1, none⟩ (.string (o.extract 0 (1 + k + 1)))).drew) b0 250 #[.bool wkb, .string (o.extract 0 (1 + k + 1))]) := hid' (((HX.out.set 0 (.bool wkb)).set 1 (.string (o.extract 0 (1 + k + 1)))).drew);have HB2 : Hid (Below w.heap.size w (((wq.setCell ⟨b0, 0, none⟩ (.bool wkb)).setCell ⟨b0, 1, none⟩ (.string (o.extract 0 (1 + k + 1)))).drew)) := hid' (Below.drew (HB0.out.trans (((upd_setCell wq b0 0 (.bool wkb)).below HG0.out).trans ((upd_setCell _ b0 1 (.string (o.extract 0 (1 + k + 1)))).below HG0.out))));have hld := ldC15 HA2.out;clear p0 p1 pf pg;go_wp2;exact bodyPost_ret (v := .tuple #[.agg #[.bool wkb, .string (o.extract 0 (1 + k + 1))], .string (o.extract (1 + k + 1) o.size), .bool true]) (by simp [results, Tryz.results200, asAddr, hld]) rfl ⟨by rw [HV.out, show 1 + k + 1 = k + 2 by omega], HB2.out⟩
   ·have hks2 : ¬ (k : Int) < (x.size : Int) := by omega
    cases is
    ·have HV : Hid (Tg.fV l = .tuple #[.agg #[.bool false, .string ⟨#[]⟩], .string ⟨#[]⟩, .bool false]) := hid' (Tg.fV_no (by unfold Tg.isOne; rw [HIS.out]; rfl))
     skip
     go_wp2_with (refine wpl_store 250 _ _ rfl rfl b0 #[.bool false, .string ⟨#[]⟩] (by kernel_rfl) (by kernel_rfl) _ _ HX.out sizeC15 rfl (by simp [Value.oneCell']) ?_);intro w2 ha2 hu2;have hld := ldC15 ha2;have HB2 := hid' (HB0.out.trans (hu2.below HG0.out));clear ha2 hu2;go_wp2;exact bodyPost_ret (v := .tuple #[.agg #[.bool false, .string ⟨#[]⟩], .string ⟨#[]⟩, .bool false]) (by simp [results, Tryz.results200, asAddr, hld]) rfl ⟨by rw [HV.out], HB2.out⟩
    ·have HSZ : Hid (Tg.sz l = k) := hid' (by rw [← HZ.out, HXL.out]; rfl);have HPQ : Hid ((((Tg.opq l).drop (1 + k)).head? == some 34) = hp) := hid' (by
      have := HHP.out;rw [HXL.out, if_pos rfl, List.drop_drop] at this;exact this)
     cases hp
     ·have HV : Hid (Tg.fV l = .tuple #[.agg #[.bool false, .string ⟨#[]⟩], .string ⟨#[]⟩, .bool false]) := hid' (Tg.fV_no (by unfold Tg.isOne; rw [HIS.out, HSZ.out, HPQ.out]; rfl))
      skip
      go_wp2_with fail;refine (HP.out _).mono ?_;rintro e w1 ⟨rfl, hw1⟩;subst w1;go_wp2_with (refine wpl_store 250 _ _ rfl rfl b0 #[.bool false, .string ⟨#[]⟩] (by kernel_rfl) (by kernel_rfl) _ _ HX.out sizeC15 rfl (by simp [Value.oneCell']) ?_);intro w2 ha2 hu2;have hld := ldC15 ha2;have HB2 := hid' (HB0.out.trans (hu2.below HG0.out));clear ha2 hu2;go_wp2;exact bodyPost_ret (v := .tuple #[.agg #[.bool false, .string ⟨#[]⟩], .string ⟨#[]⟩, .bool false]) (by simp [results, Tryz.results200, asAddr, hld]) rfl ⟨by rw [HV.out], HB2.out⟩
     ·have H1 : Hid (Tg.isOne l = true) := hid' (by unfold Tg.isOne; rw [HIS.out, HSZ.out, HPQ.out]; rfl);have hko : k + 2 ≤ o.size := by
       rw [Lib.size_eq, HO.out];rcases Nat.lt_or_ge (1 + k) (Tg.opq l).length with h | h
       ·omega
       ·have := HPQ.out;rw [List.drop_eq_nil_of_le h] at this;cases this
      have hko2 : (k : Int) + 2 ≤ (o.size : Int) := by omega
      have hko3 : 1 + k + 1 ≤ o.size := by omega
      have HV : Hid (Tg.fV l = .tuple #[.agg #[.bool wkb, .string (o.extract 0 (k + 2))], .string (o.extract (k + 2) o.size), .bool true]) := hid' (by
       rw [Tg.fV_yes H1.out];unfold Tg.tagOf Tg.nOf;rw [HWK.out, HSZ.out, Tg.ext_td, Tg.ext_td, HO.out, List.drop_zero, Nat.sub_zero, List.take_of_length_le (l := (Tg.opq l).drop (k + 2)) (by rw [List.length_drop, ← HO.out, ← Lib.size_eq]; exact Nat.le_refl _)];unfold Tg.opq;rw [List.drop_drop])
      skip
      go_wp2_with fail;refine (HP.out _).mono ?_;rintro e w1 ⟨rfl, hw1⟩;subst w1;go_wp2;have p0 := HX.out.cell 0 _ rfl;have p1 := HX.out.cell 1 _ rfl;have pf := HX.out.free 0;have pg := HX.out.free 1;go_region;have HA2 : Hid (Ar (((wr.setCell ⟨b0, 0, none⟩ (.bool wkb)).setCell ⟨b0, 1, none⟩ (.string (o.extract 0 (1 + k + 1)))).drew) b0 250 #[.bool wkb, .string (o.extract 0 (1 + k + 1))]) := hid' (((HX.out.set 0 (.bool wkb)).set 1 (.string (o.extract 0 (1 + k + 1)))).drew);have HB2 : Hid (Below w.heap.size w (((wr.setCell ⟨b0, 0, none⟩ (.bool wkb)).setCell ⟨b0, 1, none⟩ (.string (o.extract 0 (1 + k + 1)))).drew)) := hid' (Below.drew (HB0.out.trans (((upd_setCell wr b0 0 (.bool wkb)).below HG0.out).trans ((upd_setCell _ b0 1 (.string (o.extract 0 (1 + k + 1)))).below HG0.out))));have hld := ldC15 HA2.out;clear p0 p1 pf pg;go_wp2;exact bodyPost_ret (v := .tuple #[.agg #[.bool wkb, .string (o.extract 0 (1 + k + 1))], .string (o.extract (1 + k + 1) o.size), .bool true]) (by simp [results, Tryz.results200, asAddr, hld]) rfl ⟨by rw [HV.out, show 1 + k + 1 = k + 2 by omega], HB2.out⟩


namespace Tg
theorem pieces_le (l : List UInt8) : (pieces l).length ≤ l.length := (List.dropWhile_sublist sepB).length_le
theorem step_no {u : List UInt8} {c : UInt8} {r : List UInt8} (hu : u = c :: r) (hb : Tx.blkB c = false ∧ (c == 44) = false) (h : isOne u = false) : go true u = none := by
 rw [go_step hu hb.1 hb.2, h]; rfl
theorem step_bad {u : List UInt8} {c : UInt8} {r : List UInt8} (hu : u = c :: r) (hb : Tx.blkB c = false ∧ (c == 44) = false) (h : ends (u.drop (nOf u)) = false) : go true u = none := by
 rw [go_step hu hb.1 hb.2, h, Bool.and_false]; rfl
theorem step_yes {u : List UInt8} {c : UInt8} {r : List UInt8} (hu : u = c :: r) (hb : Tx.blkB c = false ∧ (c == 44) = false) (h1 : isOne u = true) (h2 : ends (u.drop (nOf u)) = true) : go true u = (go true (pieces (u.drop (nOf u)))).map (tagOf u :: ·) := by
 rw [go_step hu hb.1 hb.2, h1, h2]; rfl
end Tg

set_option maxRecDepth 20000 in
theorem cparse15 (s : ByteArray) (l : List UInt8) (hl : s.data.toList = l) (w : World) (hs : s.size ≤ 1048576) :
  Calls Tryz.prog 180 #[.string s] w fun e w' => (∃ m ro rc, e = .returned (.tuple #[.slice ro m rc, .bool (Tg.star l), .int .i64 (Tg.err l)]) ∧ (Tg.tags l).length = m ∧ w'.ownsRow w.heap.size 250 2 (.slice ro m rc) m (tC (Tg.tags l))) ∧ Below w.heap.size w w' := by
 obtain ⟨i0, hi0, hz0, hz1, hz2⟩ := minfo_parts infoC15;have HI := hid' hi0;have HZ0 := hid' hz0;have HZ1 := hid' hz1;have HZ2 := hid' hz2;clear hi0 hz0 hz1 hz2;have q22 : ∀ (w : World) (a : Option Addr) (n c : Nat), (binOp .eql 246 (.slice a n c) (.slice none 0 0)).run Tryz.prog w = .ok (.bool a.isNone) w := fun w a n c => Lib.run_eql_slice_nil w _ _ a n c 0 0 Tryz.underlying246;have hR := trim_any s w (by unfold maxLen; omega);rw [hl] at hR;obtain ⟨t, ht⟩ : ∃ t : ByteArray, (⟨(Tx.trim l).toArray⟩ : ByteArray) = t := ⟨_, rfl⟩;have HT : Hid (t.data.toList = Tx.trim l) := hid' (by rw [← ht]);rw [ht] at hR;have HR := hid' hR;clear hR ht;obtain ⟨r0, hr0⟩ : ∃ r0 : ByteArray, (⟨(Tg.pieces l).toArray⟩ : ByteArray) = r0 := ⟨_, rfl⟩;have HR0 : Hid (r0.data.toList = Tg.pieces l) := hid' (by rw [← hr0]);have hrs : r0.size ≤ s.size := by
  rw [Lib.size_eq, HR0.out, Lib.size_eq s, hl]; exact Tg.pieces_le l
 have HP0 := hid' (cpieces15 s l hl r0 hr0 w);clear hr0;cases hst : Tg.star l
 ·have HST := hid' hst;have hs2 : (t.toList == [42]) = false := by rw [Tg.star_at t l HT.out]; exact hst
  clear hst;go_enter Tryz.func180, Tryz.ntmps180;go_wp2_with fail;refine HR.out.mono ?_;rintro e wq ⟨rfl, hwq⟩;subst wq;go_wp2_with fail;refine HP0.out.mono ?_;rintro e wq ⟨rfl, hbq⟩;have HBQ := hid' hbq;clear hbq hs2;go_wp2;go_loopw [5, 6] (fun s5 s6 wr => ∃ (m : Nat) (r : ByteArray) (p : List UInt8) (os : List Tg.Tag) (ro : Option Addr) (rc : Nat), s6 = .string r ∧ s5 = .slice ro m rc ∧ m + r.size ≤ s.size ∧ (m = 0 → ro = none) ∧ Hid (r.data.toList = Tg.pieces p) ∧ Hid (os.length = m) ∧ Hid (Tg.go true l = (Tg.go true r.data.toList).map (os ++ ·)) ∧ Hid (wr.ownsRow w.heap.size 250 2 (.slice ro m rc) m (tC os)) ∧ Hid (Below w.heap.size w wr)) (fun _ s6 _ => Tx.strLen s6)
  case atStart => exact ⟨0, r0, l, [], none, 0, rfl, rfl, by omega, fun _ => rfl, HR0, hid' rfl, hid' (by rw [HR0.out, Tg.go_pieces]; simp), hid' (World.ownsRow_nil _ _ _ _), HBQ⟩
  case round =>
   obtain ⟨m, r, p, os, ro, rc, rfl, rfl, hms, hmn, HRP, HML, HG, HO, HB⟩ := hrel;obtain ⟨u, hu⟩ : ∃ u, r.data.toList = u := ⟨_, rfl⟩;have HU := hid' hu;rw [hu] at HG HRP;have hsz : r.size = u.length := by rw [Lib.size_eq, hu]
   have hne : r.toList.isEmpty = u.isEmpty := by rw [Lib.toList_data, hu]
   clear hu;cases hc : u with
   | nil =>
    rw [hc] at hne HG hsz;have hne2 : r.toList.isEmpty = true := by rw [hne]; rfl
    have HE : Hid (Tg.tags l = os ∧ Tg.err l = if os.isEmpty then 150 else 0) := hid' (Tg.done_some HST.out (by rw [HG.out, Tg.go_nil]; simp));clear hne;by_cases hm0 : m = 0
    ·obtain rfl := hmn hm0;subst hm0;have hos : os = [] := List.eq_nil_of_length_eq_zero HML.out;have HE2 : Hid (Tg.tags l = [] ∧ Tg.err l = 150) := hid' (by rw [HE.out.1, HE.out.2, hos]; exact ⟨rfl, rfl⟩);clear hos;go_wp2;go_ret3;exact ⟨⟨0, none, 0, by rw [HE2.out.2]; rfl, by rw [HE2.out.1]; rfl, by rw [HE2.out.1]; exact World.ownsRow_nil _ _ _ _⟩, HB.out⟩
    ·have hsome : ∃ g, ro = some ⟨g, 0, none⟩ := by
      rcases HO.out.2 with ⟨_, h0⟩ | ⟨g, cap, cur, h1, _⟩
      ·exact absurd h0 hm0
      ·injection h1 with h1 _ _; exact ⟨g, h1⟩
     obtain ⟨g, rfl⟩ := hsome;have HE2 : Hid (Tg.err l = 0) := hid' (by
      rw [HE.out.2];cases os with
      | nil => exact absurd HML.out.symm hm0
      | cons a b => rfl)
     go_wp2;go_ret3;exact ⟨⟨m, some ⟨g, 0, none⟩, rc, by rw [HE2.out]; rfl, by rw [HE.out.1]; exact HML.out, by rw [HE.out.1]; exact HO.out⟩, HB.out⟩
   | cons c q =>
    have HC := hid' hc;have HCB := hid' (Tg.pieces_head (by rw [← HRP.out]; exact hc));have hne2 : r.toList.isEmpty = false := by rw [hne, hc]; rfl
    clear hne hc;cases h1 : Tg.isOne u
    ·have HE : Hid (Tg.tags l = [] ∧ Tg.err l = 150) := hid' (Tg.done_none HST.out (by rw [HG.out, Tg.step_no HC.out HCB.out h1]; rfl));have HFV := hid' (Tg.fV_no h1);clear h1;go_wp2_with fail;refine (cfirst15 r u HU.out _ (by omega)).mono ?_;rw [HFV.out];rintro e wq ⟨rfl, hbq⟩;have HBq := hid' (below_two HB.out hbq);clear hbq;go_wp2;go_ret3;exact ⟨⟨0, none, 0, by rw [HE.out.2]; rfl, by rw [HE.out.1]; rfl, by rw [HE.out.1]; exact World.ownsRow_nil _ _ _ _⟩, below_two HBq.out (bl_alloc _ _)⟩
    ·have HFV := hid' (Tg.fV_yes h1);obtain ⟨n, hn⟩ : ∃ n, Tg.nOf u = n := ⟨_, rfl⟩;obtain ⟨g, hg⟩ : ∃ g, Tg.tagOf u = g := ⟨_, rfl⟩;obtain ⟨y, hy⟩ : ∃ y : ByteArray, (⟨(u.drop n).toArray⟩ : ByteArray) = y := ⟨_, rfl⟩;have HY : Hid (y.data.toList = u.drop n) := hid' (by rw [← hy]);have hn1 : 2 ≤ n := by rw [← hn]; exact Tg.nOf_pos u
     have hn2 : n ≤ u.length := by rw [← hn]; exact Tg.nOf_le h1
     have hys : y.size + n = r.size := by rw [Lib.size_eq, HY.out, List.length_drop, hsz]; omega
     rw [hn, hg, hy] at HFV;cases h2 : Tg.ends (u.drop n)
     ·have HE : Hid (Tg.tags l = [] ∧ Tg.err l = 150) := hid' (Tg.done_none HST.out (by rw [HG.out, Tg.step_bad HC.out HCB.out (by rw [hn]; exact h2)]; rfl));have HEN := hid' h2;clear h1 h2 hn hg hy;go_wp2_with fail;refine (cfirst15 r u HU.out _ (by omega)).mono ?_;rw [HFV.out];rintro e wq ⟨rfl, hbq⟩;have HBq := hid' (below_two HB.out hbq);have HBa := hid' (below_two HBq.out (bl_alloc wq (.cells #[.bool g.w, .string ⟨g.v.toArray⟩] 250)));clear hbq;go_wp2_with fail;generalize wq.alloc (.cells #[.bool g.w, .string ⟨g.v.toArray⟩] 250) = w1 at *;refine (cends15 y _ HY.out false HEN.out _).mono ?_;rintro e w2 ⟨rfl, hb2⟩;have HB2 := hid' (below_two HBa.out hb2);clear hb2;go_wp2;go_ret3;exact ⟨⟨0, none, 0, by rw [HE.out.2]; rfl, by rw [HE.out.1]; rfl, by rw [HE.out.1]; exact World.ownsRow_nil _ _ _ _⟩, HB2.out⟩
     ·obtain ⟨r2, hr2⟩ : ∃ r2 : ByteArray, (⟨(Tg.pieces (u.drop n)).toArray⟩ : ByteArray) = r2 := ⟨_, rfl⟩;have HR2 : Hid (r2.data.toList = Tg.pieces (u.drop n)) := hid' (by rw [← hr2]);have hr2s : r2.size ≤ y.size := by rw [Lib.size_eq, HR2.out, Lib.size_eq, HY.out]; exact Tg.pieces_le _
      have HP2 := hid' (fun W => cpieces15 y _ HY.out r2 hr2 W);have HG2 : Hid (Tg.go true l = (Tg.go true r2.data.toList).map ((os ++ [g]) ++ ·)) := hid' (by
       rw [HG.out, Tg.step_yes HC.out HCB.out h1 (by rw [hn]; exact h2), hn, hg, HR2.out];exact Tg.map_app)
      have HEN := hid' h2;clear h1 h2 hn hg hy hr2;go_wp2_with fail;refine (cfirst15 r u HU.out _ (by omega)).mono ?_;rw [HFV.out];rintro e wq ⟨rfl, hbq⟩;have HBq := hid' (below_two HB.out hbq);have HOq := hid' (own_keep15 HO.out hbq);have HBa := hid' (below_two HBq.out (bl_alloc wq (.cells #[.bool g.w, .string ⟨g.v.toArray⟩] 250)));have HOa := hid' (HOq.out.alloc (.cells #[.bool g.w, .string ⟨g.v.toArray⟩] 250));have HL : Hid (Ar (wq.alloc (.cells #[.bool g.w, .string ⟨g.v.toArray⟩] 250)) wq.heap.size 250 #[.bool g.w, .string ⟨g.v.toArray⟩]) := hid' (heap_alloc_last wq _);clear hbq;go_wp2_with fail;obtain ⟨fb, hfb⟩ : ∃ fb, wq.heap.size = fb := ⟨_, rfl⟩;rw [hfb] at HL ⊢;generalize wq.alloc (.cells #[.bool g.w, .string ⟨g.v.toArray⟩] 250) = w1 at *;clear hfb;refine (cends15 y _ HY.out true HEN.out _).mono ?_;rintro e w2 ⟨rfl, hb2⟩;have HB2 := hid' (below_two HBa.out hb2);have HO2 := hid' (own_keep15 HOa.out hb2);have HL2 := hid' (HL.out.keep hb2);have p0 := HL2.out.cell 0 _ rfl;have p1 := HL2.out.cell 1 _ rfl;have HA : Hid ((w2.alloc (.cells #[.bool g.w, .string ⟨g.v.toArray⟩] 250)).ownsRow w.heap.size 250 2 (.slice ro m rc) m (tC os)) := hid' (HO2.out.alloc _);clear hb2 HL HBa HOa;go_wp2_with (at_builtin; refine wpList_append_own_at _ rfl _ _ 246 rfl w.heap.size 250 i0 (.agg #[.bool false, .string ⟨#[]⟩]) 2 24 Tryz.underlying246 HI.out HZ0.out HZ1.out HZ2.out rfl (by decide) (.slice ro m rc) m (tC os) rfl HA.out ⟨w2.heap.size, 0, none⟩ 1 1 [.bool g.w, .string ⟨g.v.toArray⟩] rfl rfl (two_new _ _ _ _) (by simp [Value.oneCell']) (by unfold maxLen; omega) (by omega) (by simp; have := HB2.out.size; omega) ?_; intro v3 w3 hown3 hgrow3 _ _; refine Hid.out ?_);refine hid' ?_;have e : tC os ++ [Value.bool g.w, .string ⟨g.v.toArray⟩] = tC (os ++ [g]) := by rw [tC_append]; simp [tV, tC]
      rw [e] at hown3;obtain ⟨v3o, v3c, hv3⟩ := own_shape hown3;subst hv3;have HO3 := hid' hown3;have HB3 : Hid (Below w.heap.size w w3) := hid' ((HB2.out.alloc HB2.out.size _).grown hgrow3 (by simp; have := HB2.out.size; omega) (fun k hk => (HA.out.lt k hk).1));clear hown3 hgrow3 e p0 p1;go_wp2_with fail;refine (HP2.out _).mono ?_;rintro e w4 ⟨rfl, hb4⟩;have HB4 := hid' (below_two HB3.out hb4);have HO4 := hid' (own_keep15 HO3.out hb4);clear hb4;go_wp2;go_roundw
      case rel => exact ⟨m + 1, r2, u.drop n, os ++ [g], v3o, v3c, rfl, rfl, by omega, fun h => by omega, HR2, hid' (by rw [List.length_append, HML.out]; rfl), HG2, HO4, HB4⟩
      case measure => simp [Tx.strLen]; omega
 ·have HST := hid' hst;have HE := hid' (Tg.done_star hst);have hs2 : (t.toList == [42]) = true := by rw [Tg.star_at t l HT.out]; exact hst
  clear hst;go_enter Tryz.func180, Tryz.ntmps180;go_wp2_with fail;refine HR.out.mono ?_;rintro e wq ⟨rfl, hwq⟩;subst wq;go_wp2;go_ret3;exact ⟨⟨0, none, 0, by rw [HE.out.2]; rfl, by rw [HE.out.1]; rfl, by rw [HE.out.1]; exact World.ownsRow_nil _ _ _ _⟩, Below.refl _ _⟩

end Go.Proofs.YthhpejgpfaikaabGreatDoor
