/-
  What the row stands on.
-/
import Derived.Test.YthhpejgpfaikaabGreatDoorPqAH
import Derived.Test.YthhpejgpfaikaabGreatDoorPqAI
import Derived.Test.YthhpejgpfaikaabGreatDoorPqAB
import Derived.Test.YthhpejgpfaikaabGreatDoorPqAE
import Derived.Deep.RegionHeld3
import Derived.Laws.StructEq
namespace Go.Proofs.YthhpejgpfaikaabGreatDoor
set_option maxHeartbeats 64000000
open Go.RowKit

structure UF (b : Nat) (w w' : World) : Prop where
 size : w.heap.size ≤ w'.heap.size
 block : ∀ k, k < w.heap.size → k ≠ b → (∀ cs fz, w.heap[k]? ≠ some (.cells cs 5 fz)) → w'.heap[k]? = w.heap[k]?
theorem UF.of_below {b : Nat} {w w' : World} (h : Below w.heap.size w w') : UF b w w' := ⟨h.size, fun k hk _ _ => h.block k hk⟩
theorem UF.of_set (b i : Nat) (v : Value) (w : World) : UF b w (w.setCell ⟨b, i, none⟩ v) := ⟨by simp [World.setCell], fun k _ hb _ => (upd_setCell w b i v).block k hb⟩
theorem UF.trans {b : Nat} {w w1 w2 : World} (h1 : UF b w w1) (h2 : UF b w1 w2) : UF b w w2 :=
 ⟨Nat.le_trans h1.size h2.size, fun k hk hb hn => (h2.block k (Nat.lt_of_lt_of_le hk h1.size) hb (fun cs fz hc => hn cs fz (by rw [← h1.block k hk hb hn]; exact hc))).trans (h1.block k hk hb hn)⟩
theorem UF.ar {b c : Nat} {w w' : World} {T : TypeId} {cs : Array Value} (h : UF b w w') (ha : Ar w c T cs) (hb : c ≠ b) (hT : T ≠ 5) : Ar w' c T cs := by
 have := h.block c ha.lt hb (fun ds fz hd => by unfold Ar at ha; rw [ha] at hd; injection hd with hd; injection hd with _ h2 _; exact hT h2);unfold Ar at *;rw [this]; exact ha
theorem bld_obj {w : World} {B b : Nat} {l : List UInt8} (h : Bld w B b l) : ∃ p q, Ar w b 123 #[p, q] := by
 rcases h with ⟨_, v, hbk, _⟩ | ⟨_, v, hbk, _⟩
 ·exact ⟨_, v, hbk⟩
 ·exact ⟨_, v, hbk⟩
set_option maxRecDepth 100000 in
theorem writeString_cells (B b : Nat) (bs : List Value) (s : ByteArray) (w : World) (h : Lib.IsBuilder 123 5 B b bs w) (hlen : bs.length + s.size ≤ 140737488355328) (hBw : B ≤ w.heap.size) :
  Calls Tryz.prog 46 #[.pointer (some ⟨b, 0, none⟩), .string s] w fun e w' => e = .returned (.tuple #[.int .i64 (s.size : Int), .nilIface]) ∧ (Lib.IsBuilder 123 5 B b (bs ++ Lib.strCells s) w' ∧ Below B w w' ∧ UF b w w') := by
 obtain ⟨i0, hi, hz0, hz1, hz2⟩ := info_parts infoByte;have HU : Hid (∀ w1, Lib.BuilderAt 123 5 B b (.pointer (some ⟨b, 0, none⟩)) bs w1 ∧ (w1 = w ∨ w1 = w.setCell ⟨b, 0, none⟩ (.pointer (some ⟨b, 0, none⟩))) → UF b w w1) := hid' fun w1 ⟨_, hw⟩ => by
  rcases hw with rfl | rfl
  ·exact UF.of_below (Below.refl _ _)
  ·exact UF.of_set _ _ _ _
 have hcc : Calls Tryz.prog 72 #[.pointer (some ⟨b, 0, none⟩)] w fun e w' => e = .returned (.tuple #[]) ∧ (Lib.BuilderAt 123 5 B b (.pointer (some ⟨b, 0, none⟩)) bs w' ∧ Below B w w' ∧ UF b w w') := by
  rcases h with h | h
  ·refine (copyCheck_fresh b w h.cell0 h.shape h.frozen0).mono ?_;rintro e w' ⟨rfl, rfl⟩;exact ⟨rfl, h.used _, (Below.refl B w).setCell (p := ⟨b, 0, none⟩) h.1 _, UF.of_set _ _ _ _⟩
  ·refine (copyCheck_used b w h.cell0).mono ?_;rintro e w' ⟨rfl, rfl⟩;exact ⟨rfl, h, Below.refl B _, UF.of_below (Below.refl _ _)⟩
 have HCC := hid' hcc;clear hcc HU h;go_enter Tryz.func46, Tryz.ntmps46;go_wp2_with fail;refine HCC.out.mono ?_;rintro e w1 ⟨rfl, h1, hb1, hu1⟩;clear HCC;obtain ⟨hB, v, hbk, hown, hne⟩ := h1;have c0 : w1.cell? ⟨b, 0, none⟩ = some (.pointer (some ⟨b, 0, none⟩)) := by rw [Lib.cell_of_heap hbk]; rfl
 have c1 : w1.cell? ⟨b, 1, none⟩ = some v := by rw [Lib.cell_of_heap hbk]; rfl
 go_wp2_with (at_builtin; refine Lib.wpList_append_own_string _ rfl _ _ 78 9 rfl B 5 i0 Tryz.underlying78 Tryz.underlying9 hi hz0 hz1 hz2 _ _ _ rfl hown s rfl ?c3 ?c4 ?c5 ?_)
 case c3 => unfold maxLen; omega
 case c4 => omega
 case c5 => have := hb1.size; omega
 intro v' w2 hown' hgrow _;have hlt : b < w1.heap.size := (Array.getElem?_eq_some_iff.1 hbk).1;have hb2 : w2.heap[b]? = some (.cells #[.pointer (some ⟨b, 0, none⟩), v] 123 (0, 0)) := by
  rw [hgrow.block b (by omega) (fun e => hne e.symm)];exact hbk
 have d1 : w2.cell? ⟨b, 1, none⟩ = some v := by rw [Lib.cell_of_heap hb2]; rfl
 have f1 : w2.frozen? ⟨b, 1, none⟩ = false := Lib.frozen_of_heap hb2 1;obtain ⟨ao, n', cap, rfl⟩ : ∃ ao n' cap, v' = .slice ao n' cap := by
  rcases hown'.2 with ⟨h, _⟩ | ⟨g, cap, cur, hv, _⟩
  ·exact ⟨_, _, _, h⟩
  ·exact ⟨_, _, _, hv⟩
 have HUG : Hid (UF b w1 w2) := hid' ⟨hgrow.size, fun k hk _ hn => hgrow.block k hk (fun e => by
  rcases hown.2 with ⟨rfl, _⟩ | ⟨g, cap, cur, rfl, _, hg, _⟩
  ·simp [Value.ownBlock] at e
  ·simp [Value.ownBlock] at e;subst e;exact hn cur (0, 0) hg)⟩
 have HU1 := hid' hu1;clear hu1;go_wp2;go_ret2;refine ⟨rfl, ?_, ?_, (HU1.out.trans HUG.out).trans (UF.of_set _ _ _ _)⟩
 ·exact .inr (Lib.BuilderAt.put (T := 123) (e := 5) hB hb2 (bs' := bs ++ Lib.strCells s) (by simpa [Lib.strCells_length] using hown') (by decide))
 ·exact (hb1.grown hgrow (by have := hb1.size; omega) (fun k hk => (hown.lt k hk).1)).setCell (p := ⟨b, 1, none⟩) hB _

theorem writeString_any (B b : Nat) (l s : List UInt8) (w : World) (h : Bld w B b l) (hlen : l.length + s.length ≤ 140737488355328) (hBw : B ≤ w.heap.size) :
  Calls Tryz.prog 46 #[.pointer (some ⟨b, 0, none⟩), .string ⟨s.toArray⟩] w fun e w' => e = .returned (.tuple #[.int .i64 (s.length : Int), .nilIface]) ∧ (Bld w' B b (l ++ s) ∧ Below B w w' ∧ UF b w w') := by
 refine (writeString_cells B b (Lib.byteCells l) ⟨s.toArray⟩ w h (by rw [Lib.byteCells_length, size_l16]; exact hlen) hBw).mono ?_;rintro e w' ⟨rfl, h1, h2⟩;refine ⟨by rw [size_l16], ?_, h2⟩;have : Lib.byteCells (l ++ s) = Lib.byteCells l ++ Lib.strCells ⟨s.toArray⟩ := by simp [Lib.byteCells, Lib.strCells]
 unfold Bld;rw [this];exact h1

theorem string_any (B b : Nat) (l : List UInt8) (w : World) (h : Bld w B b l) (hBw : B ≤ w.heap.size) :
  Calls Tryz.prog 47 #[.pointer (some ⟨b, 0, none⟩)] w fun e w' => e = .returned (.string ⟨l.toArray⟩) ∧ Below B w w' ∧ UF b w w' := by
 refine (Tryz.Builder_String_any_k B b l w (Lib.IsBuilderF.of h) hBw).mono ?_;rintro e w' ⟨rfl, _, hb, ho⟩;refine ⟨rfl, hb, hb.size, fun k hk hne hn => ?_⟩;obtain ⟨o, hk'⟩ : ∃ o, w.heap[k]? = some o := ⟨_, Array.getElem?_eq_getElem hk⟩;rw [ho k o hk' (by simpa using hne) (fun c fz e => hn c fz (by rw [hk', e])), hk']

theorem ar_ne16 {w : World} {a b : Nat} {T T' : TypeId} {c c' : Array Value} (h : Ar w a T c) (h' : Ar w b T' c') (hT : T ≠ T') : a ≠ b := fun e => by
 unfold Ar at h h';rw [e, h'] at h;injection h with h;injection h with _ h _;exact hT h.symm
def TR16 (w : World) (ao : Option Addr) (ts : List (List UInt8)) : Prop := (ts = [] ∧ ao = none) ∨ ∃ g, ao = some ⟨g, 0, none⟩ ∧ Ar w g 9 (sC16 ts).toArray
theorem TR16.uf {b : Nat} {w w' : World} {ao : Option Addr} {ts : List (List UInt8)} {p q : Value} (h : TR16 w ao ts) (hu : UF b w w') (hb : Ar w b 123 #[p, q]) : TR16 w' ao ts := by
 rcases h with h | ⟨g, h1, h2⟩
 ·exact .inl h
 ·exact .inr ⟨g, h1, hu.ar h2 (ar_ne16 h2 hb (by decide)) (by decide)⟩
theorem TR16.at {w : World} {ao : Option Addr} {ts : List (List UInt8)} (h : TR16 w ao ts) (i : Nat) (t : List UInt8) (ht : ts[i]? = some t) : ∃ g, ao = some ⟨g, 0, none⟩ ∧ w.cell? ⟨g, i, none⟩ = some (.string ⟨t.toArray⟩) := by
 rcases h with ⟨rfl, _⟩ | ⟨g, h1, h2⟩
 ·simp at ht
 ·exact ⟨g, h1, h2.cell i _ (by unfold sC16; rw [List.getElem?_toArray, List.getElem?_map, ht]; rfl)⟩

set_option maxRecDepth 20000 in
theorem cwline16 (B b n cap : Nat) (ao : Option Addr) (l : List UInt8) (ts : List (List UInt8)) (hn : ts.length = n) (hnb : n ≤ 1048576) (w : World) (hb : Bld w B b l) (ht : TR16 w ao ts) (hlen : l.length + ts.flatten.length + 2 ≤ 140737488355328) (hBw : B ≤ w.heap.size) :
  Calls Tryz.prog 215 #[.pointer (some ⟨b, 0, none⟩), .slice ao n cap] w fun e w' => e = .returned (.tuple #[]) ∧ Bld w' B b (l ++ ts.flatten ++ [13, 10]) ∧ Below B w w' ∧ UF b w w' := by
 have HBd := hid' hb;have HTR := hid' ht;have HN := hid' hn;have HLEN := hid' hlen;have HBW := hid' hBw;have HOB := hid' (bld_obj hb);clear hb ht hn hlen hBw;go_enter Tryz.func215, Tryz.ntmps215;go_wp2;go_loopw [8] (fun s8 wr => ∃ i : Nat, s8 = .int .i64 (i : Int) ∧ i ≤ n ∧ Hid (Bld wr B b (l ++ (ts.take i).flatten)) ∧ Hid (TR16 wr ao ts) ∧ Hid (Below B w wr) ∧ Hid (UF b w wr)) (fun s8 _ => n - (intOf s8).toNat)
 case atStart => exact ⟨0, rfl, Nat.zero_le _, hid' (by simpa using HBd.out), HTR, hid' (Below.refl _ _), hid' (UF.of_below (Below.refl _ _))⟩
 case round =>
  obtain ⟨i, rfl, hi, HB, HT, HBe, HU⟩ := hrel;by_cases hlt : i < n
  ·have hlt2 : (i : Int) < (n : Int) := by omega
   obtain ⟨t, htt⟩ : ∃ t, ts[i]? = some t := ⟨_, List.getElem?_eq_getElem (by rw [HN.out]; exact hlt)⟩;obtain ⟨g, rfl, y0⟩ := HT.out.at i t htt;have HTK : Hid ((ts.take (i + 1)).flatten = (ts.take i).flatten ++ t) := hid' (by rw [List.take_add_one, htt]; simp);have HFL : Hid ((ts.take (i + 1)).flatten.length ≤ ts.flatten.length) := hid' (by
    conv => rhs; rw [← List.take_append_drop (i + 1) ts, List.flatten_append, List.length_append]
    omega)
   have HWS := hid' (fun W (h : Bld W B b (l ++ (ts.take i).flatten)) (hW : B ≤ W.heap.size) => writeString_any B b (l ++ (ts.take i).flatten) t W h (by
    have h1 := HFL.out;have h2 := HLEN.out;rw [HTK.out, List.length_append] at h1;rw [List.length_append];omega) hW)
   clear htt;go_wp2_with fail;refine (HWS.out _ HB.out (Nat.le_trans HBW.out HBe.out.size)).mono ?_;rintro e w2 ⟨rfl, h1, h2, h3⟩;have HB2 : Hid (Bld w2 B b (l ++ (ts.take (i + 1)).flatten)) := hid' (by rw [HTK.out, ← List.append_assoc]; exact h1);have HBe2 := hid' (HBe.out.trans h2);have HU2 := hid' (HU.out.trans h3);have HT2 : Hid (TR16 w2 (some ⟨g, 0, none⟩) ts) := hid' (by obtain ⟨p, q, hpq⟩ := bld_obj HB.out; exact HT.out.uf h3 hpq);clear h1 h2 h3 y0;go_wp2;go_roundw
   case rel => exact ⟨i + 1, by go_num, by omega, HB2, HT2, HBe2, HU2⟩
   case measure => simp [intOf]; omega
  ·have hlt2 : ¬ (i : Int) < (n : Int) := by omega
   have HTK : Hid (ts.take i = ts) := hid' (List.take_of_length_le (by rw [HN.out]; omega));rw [HTK.out] at HB;clear hlt;have HWS := hid' (fun W (h : Bld W B b (l ++ ts.flatten)) (hW : B ≤ W.heap.size) => writeString_any B b (l ++ ts.flatten) [13, 10] W h (by rw [List.length_append]; exact HLEN.out) hW);go_wp2_with fail;refine (HWS.out _ HB.out (Nat.le_trans HBW.out HBe.out.size)).mono ?_;rintro e w2 ⟨rfl, h1, h2, h3⟩;have HB2 := hid' h1;have HBe2 := hid' (HBe.out.trans h2);have HU2 := hid' (HU.out.trans h3);clear h1 h2 h3;go_wp2;go_end0;exact ⟨rfl, HB2.out, HBe2.out, HU2.out⟩

namespace Rg
theorem addm_eq (p : T8) : Tx.addm p = ([Tx.trim p]).filter (fun q => !(q == [])) := by
 unfold Tx.addm;cases h : Tx.trim p <;> rfl
theorem mems_plain : ∀ (l cur : T8), 34 ∉ l → Tx.mems cur false false l = ((cutA cur l).map Tx.trim).filter (fun q => !(q == [])) := by
 intro l
 induction l with
 | nil => intro cur _; rw [Tx.mems, cutA, addm_eq]; rfl
 | cons c r ih =>
  intro cur h;have hc : (c == 34) = false := beq_false_of_ne (fun e => h (by rw [e]; simp));have hr : 34 ∉ r := fun e => h (List.mem_cons_of_mem _ e);rw [Tx.mems, cutA, hc];by_cases h44 : c = 44
  ·subst h44;rw [if_pos rfl, if_neg (by decide), if_neg (by decide), if_neg (by decide), if_pos (by decide), ih [] hr, addm_eq, List.map_cons, ← List.filter_append];rfl
  ·rw [if_neg h44, if_neg (by decide), if_neg (by decide), if_neg (by simp), if_neg (by simpa using h44), ih _ hr]
theorem list_plain {l : T8} (h : 34 ∉ l) : Tx.list l = pcs l := mems_plain l [] h
theorem mem_dw {c : UInt8} (hc : Tx.blkB c = false) : ∀ {l : T8}, c ∈ l → c ∈ l.dropWhile Tx.blkB := by
 intro l
 induction l with
 | nil => intro h; exact h
 | cons x r ih =>
  intro h;rw [List.dropWhile_cons];cases hx : Tx.blkB x
  ·exact h
  ·rcases List.mem_cons.1 h with rfl | h
   ·rw [hc] at hx; cases hx
   ·exact ih h
theorem mem_trim {c : UInt8} (hc : Tx.blkB c = false) {l : T8} (h : c ∈ l) : c ∈ Tx.trim l := by
 unfold Tx.trim Tx.trimR Tx.trimL;rw [List.mem_reverse];refine mem_dw hc ?_;rw [List.mem_reverse];exact mem_dw hc h
theorem blk34 : Tx.blkB 34 = false := by decide
theorem addm_quote {p : T8} (h : 34 ∈ p) : ∃ q ∈ Tx.addm p, 34 ∈ q := by
 have h1 := mem_trim blk34 h;unfold Tx.addm;cases ht : Tx.trim p with
 | nil => rw [ht] at h1; simp at h1
 | cons a b => exact ⟨a :: b, by simp, by rw [← ht]; exact h1⟩
theorem mems_quote : ∀ (l cur : T8) (q e : Bool), (34 ∈ cur ∨ 34 ∈ l) → ∃ p ∈ Tx.mems cur q e l, 34 ∈ p := by
 intro l
 induction l with
 | nil =>
  intro cur q e h;rw [Tx.mems];exact addm_quote (h.resolve_right (by simp))
 | cons c r ih =>
  intro cur q e h;have h2 : 34 ∈ cur ++ [c] ∨ 34 ∈ r := by
   rcases h with h | h
   ·exact .inl (List.mem_append_left _ h)
   ·rcases List.mem_cons.1 h with h | h
    ·exact .inl (by rw [← h]; simp)
    ·exact .inr h
  rw [Tx.mems];split
  ·exact ih _ _ _ h2
  ·split
   ·exact ih _ _ _ h2
   ·split
    ·exact ih _ _ _ h2
    ·split
     ·rename_i hc;have hc44 : c = 44 := by
       rw [Bool.and_eq_true] at hc;exact eq_of_beq hc.2
      rcases h with h | h
      ·obtain ⟨p, hp, h3⟩ := addm_quote h;exact ⟨p, List.mem_append_left _ hp, h3⟩
      ·rcases List.mem_cons.1 h with h | h
       ·rw [hc44] at h; exact absurd h (by decide)
       ·obtain ⟨p, hp, h3⟩ := ih [] q false (.inr h);exact ⟨p, List.mem_append_right _ hp, h3⟩
     ·exact ih _ _ _ h2
theorem cutA_quote : ∀ (l cur : T8), (34 ∈ cur ∨ 34 ∈ l) → ∃ p ∈ cutA cur l, 34 ∈ p := by
 intro l
 induction l with
 | nil => intro cur h; exact ⟨cur, by simp [cutA], h.resolve_right (by simp)⟩
 | cons c r ih =>
  intro cur h;rw [cutA];split
  ·rename_i hc;rcases h with h | h
   ·exact ⟨cur, by simp, h⟩
   ·rcases List.mem_cons.1 h with h | h
    ·rw [hc] at h; exact absurd h (by decide)
    ·obtain ⟨p, hp, h3⟩ := ih [] (.inr h);exact ⟨p, List.mem_cons_of_mem _ hp, h3⟩
  ·refine ih _ ?_;rcases h with h | h
   ·exact .inl (List.mem_append_left _ h)
   ·rcases List.mem_cons.1 h with h | h
    ·exact .inl (by rw [← h]; simp)
    ·exact .inr h
theorem pcs_quote {l : T8} (h : 34 ∈ l) : ∃ p ∈ pcs l, 34 ∈ p := by
 obtain ⟨p, hp, h3⟩ := cutA_quote l [] (.inr h);have h4 := mem_trim blk34 h3;refine ⟨Tx.trim p, ?_, h4⟩;unfold pcs;refine List.mem_filter.2 ⟨List.mem_map_of_mem hp, ?_⟩;cases ht : Tx.trim p with
 | nil => rw [ht] at h4; simp at h4
 | cons a b => rfl
theorem digB_no {l : T8} (h : digB l = true) : 34 ∉ l := by
 intro hm;unfold digB at h;rw [Bool.and_eq_true, Bool.and_eq_true] at h;have h1 := eq_of_beq h.2;unfold Tx.num at h1;split at h1
 ·revert h1; decide
 ·rename_i h2;simp only [Bool.or_eq_true, not_or] at h2;have h3 := h2.2;simp only [Bool.not_eq_true', Bool.not_eq_false] at h3;unfold Tx.digs Tx.allC at h3;have := List.all_eq_true.1 h3 34 hm
  revert this; decide
theorem split_at {l : T8} (h : hasD l = true) : l = l.take (ahead l) ++ 45 :: l.drop (ahead l + 1) := by
 have h1 := ahead_stop h;obtain ⟨h2, h3⟩ := List.getElem?_eq_some_iff.1 h1;have h4 : l.drop (ahead l) = 45 :: l.drop (ahead l + 1) := by rw [List.drop_eq_getElem_cons h2, h3]
 rw [← h4, List.take_append_drop]
theorem pc_no {l : T8} {n : Int} (h : (pc l n).2.2 = true) : 34 ∉ l := by
 intro hm;unfold pc at h;split at h
 ·rename_i hd;rw [split_at hd, List.mem_append, List.mem_cons] at hm;simp only at h;split at h
  ·rename_i h0;rcases hm with hm | hm | hm
   ·rw [h0] at hm; simp at hm
   ·exact absurd hm (by decide)
   ·exact digB_no h (by rw [h0] at hm ⊢; exact hm)
  ·split at h
   ·rename_i h1;rcases hm with hm | hm | hm
    ·exact digB_no h hm
    ·exact absurd hm (by decide)
    ·rw [h1, List.drop_length] at hm; simp at hm
   ·simp only [Bool.and_eq_true] at h;rcases hm with hm | hm | hm
    ·exact digB_no h.1.1 hm
    ·exact absurd hm (by decide)
    ·exact digB_no h.1.2 hm
 ·cases h
theorem list_good (l : T8) (n : Int) : (34 ∉ l ∧ Tx.list l = pcs l) ∨ ((Tx.list l).all (fun p => (pc p n).2.2) = false ∧ (pcs l).all (fun p => (pc p n).2.2) = false) := by
 by_cases h : 34 ∈ l
 ·right;refine ⟨?_, ?_⟩
  ·obtain ⟨p, hp, h1⟩ := mems_quote l [] false false (.inr h);rw [Bool.eq_false_iff]; intro ht;exact pc_no (List.all_eq_true.1 ht p hp) h1
  ·obtain ⟨p, hp, h1⟩ := pcs_quote h;rw [Bool.eq_false_iff]; intro ht;exact pc_no (List.all_eq_true.1 ht p hp) h1
 ·exact .inl ⟨h, list_plain h⟩
theorem err_list {l : T8} {n : Int} (n0 : ¬ n < 0) (hh : (l.take 6 == head6) = true) :
  (err l n = if (Tx.list (l.drop 6)).isEmpty || !(Tx.list (l.drop 6)).all (fun p => (pc p n).2.2) then 160 else if 8 < (Tx.list (l.drop 6)).length then 4 else if (outs (Tx.list (l.drop 6)) n).isEmpty then 161 else 0) ∧ (err l n = 0 → res l n = outs (Tx.list (l.drop 6)) n) := by
 have h0 : err l n = if (pcs (l.drop 6)).isEmpty || !(pcs (l.drop 6)).all (fun p => (pc p n).2.2) then 160 else if 8 < (pcs (l.drop 6)).length then 4 else if (outs (pcs (l.drop 6)) n).isEmpty then 161 else 0 := by unfold err; rw [if_neg n0, if_pos hh]
 rcases list_good (l.drop 6) n with ⟨_, h⟩ | ⟨h1, h2⟩
 ·rw [h];exact ⟨h0, fun e => by unfold res; rw [e]; rfl⟩
 ·rw [h2, Bool.not_false, Bool.or_true, if_pos rfl] at h0;rw [h1, Bool.not_false, Bool.or_true, if_pos rfl];exact ⟨h0, fun e => by rw [h0] at e; exact absurd e (by decide)⟩
def wth (r : Rn) (n : Int) : Bool := decide (0 ≤ r.a) && (decide (r.a ≤ r.b) && decide (r.b < n))
theorem pc_wth {l : T8} {n : Int} (n0 : 0 ≤ n) (h : (pc l n).2.2 = true) : wth (pc l n).1 n = (pc l n).2.1 := by
 have key : ∀ (a b : Int) (q : Prop) [Decidable q], ((0 ≤ a ∧ a ≤ b ∧ b < n) ↔ q) → wth ⟨a, b⟩ n = decide q := by
  intro a b q _ hq;unfold wth;rw [Bool.eq_iff_iff];simp only [Bool.and_eq_true, decide_eq_true_iff];exact hq
 unfold pc at h ⊢;split at h
 ·rename_i hd;rw [if_pos hd];simp only at h ⊢;have hx := digN_bd (l.take (ahead l));have hy := digN_bd (l.drop (ahead l + 1));split at h
  ·rename_i h0;rw [if_pos h0];simp only;rw [key _ _ (0 < digN (l.drop (ahead l + 1)) ∧ 0 < n) (by omega), Bool.decide_and]
  ·rename_i h0;rw [if_neg h0];split at h
   ·rename_i h1;rw [if_pos h1];exact key _ _ _ (by omega)
   ·rename_i h1;rw [if_neg h1];simp only [Bool.and_eq_true, decide_eq_true_iff] at h;exact key _ _ _ (by have := h.2; omega)
 ·cases h
def cB (l : T8) : Bool := decide (l.length ≤ 15) && ((Tx.num 10 l).2 == 0)
theorem cB_eq (l : T8) : cB l = digB l := by
 unfold cB digB;cases l with
 | nil => rfl
 | cons a b => simp
theorem digN_ok {l : T8} (h : digB l = true) : digN l = (Tx.num 10 l).1 := by
 unfold digB at h;unfold digN;simp only [Bool.and_eq_true, decide_eq_true_iff] at h;rw [if_pos h.1]
theorem occ45 (l : T8) (j : Nat) : Lib.occAt l [45] j = (l[j]? == some 45) := by
 unfold Lib.occAt;rw [← List.head?_drop];cases l.drop j with
 | nil => rfl
 | cons c r => rw [List.head?_cons]; simp only [List.isPrefixOf, Bool.and_true]; rw [Option.some_beq_some, Bool.beq_comm]
theorem cut_dash (l : T8) : Lib.cut l [45] = if hasD l then (l.take (ahead l), l.drop (ahead l + 1), true) else (l, [], false) := by
 cases h : hasD l
 ·have : Lib.index l [45] = -1 := Lib.index_none (fun j _ => by
   rw [occ45];cases hq : l[j]? with
   | none => rfl
   | some c => rw [Option.some_beq_some]; exact ahead_all h j c hq)
  unfold Lib.cut;rw [this]; rfl
 ·have : Lib.index l [45] = (ahead l : Int) := Lib.index_first (Nat.le_of_lt (ahead_lt h)) (by rw [occ45, ahead_stop h]; rfl) (fun j hj => by
   obtain ⟨c, h1, h2⟩ := ahead_at hj;rw [occ45, h1, Option.some_beq_some]; exact h2)
  unfold Lib.cut;rw [this, if_pos (by omega)];rfl
end Rg


def rgV (r : Rg.Rn) : List Value := [.int .i64 r.a, .int .i64 r.b]
def rgC (l : List Rg.Rn) : List Value := l.flatMap rgV
theorem rgC_app (l m : List Rg.Rn) : rgC (l ++ m) = rgC l ++ rgC m := by simp [rgC]
theorem two_new16 (w : World) (T : TypeId) (x0 x1 : Value) : ∀ j v, [x0, x1][j]? = some v → (w.alloc (.cells #[x0, x1] T)).cell? ((⟨w.heap.size, 0, none⟩ : Addr).add j) = some v := by
 intro j v h;rw [Addr.add_mid, Nat.zero_add];have hA : Ar (w.alloc (.cells #[x0, x1] T)) w.heap.size T #[x0, x1] := heap_alloc_last w _;exact hA.cell j v (by simpa using h)
theorem own_str16 {w : World} {B : Nat} {e : TypeId} {ao : Option Addr} {n m cap : Nat} {l : List (List UInt8)} (h : w.ownsRow B e 1 (.slice ao n cap) m (sC16 l)) (i : Nat) (p : List UInt8) (hp : l[i]? = some p) : ∃ g, ao = some ⟨g, 0, none⟩ ∧ w.cell? ⟨g, i, none⟩ = some (.string ⟨p.toArray⟩) := by
 have hx : (sC16 l)[i]? = some (.string ⟨p.toArray⟩) := by unfold sC16; rw [List.getElem?_map, hp]; rfl
 have hlt := (List.getElem?_eq_some_iff.1 hx).1;rcases h.2 with ⟨_, h0⟩ | ⟨g, cap', cur, h1, h2⟩
 ·rw [h.1, h0] at hlt; omega
 ·injection h1 with h1 h3 h4;subst h1;have := h.cells (g := g) rfl i _ hx;rw [Addr.add_mid, Nat.zero_add] at this;exact ⟨g, rfl, this⟩
theorem own_diff16 {w : World} {B B' : Nat} {e e' : TypeId} {s s' : Nat} {v v' : Value} {n n' : Nat} {xs xs' : List Value} (h : w.ownsRow B e s v n xs) (h' : w.ownsRow B' e' s' v' n' xs') (hne : e ≠ e') : ∀ k, v.ownBlock = some k → v'.ownBlock ≠ some k := fun k hk hk' => by
 obtain ⟨_, c1, h1⟩ := own_ty h k hk;obtain ⟨_, c2, h2⟩ := own_ty h' k hk';rw [h1] at h2;simp at h2;exact hne h2.2

namespace Rg
theorem outs_take {ps : List T8} {k : Nat} {p : T8} (n : Int) (h : ps[k]? = some p) : outs (ps.take (k + 1)) n = outs (ps.take k) n ++ (if (pc p n).2.1 then [(pc p n).1] else []) := by
 unfold outs;rw [List.take_add_one, h];simp only [Option.toList_some, List.filter_append, List.map_append, List.filter_cons, List.filter_nil];cases (pc p n).2.1 <;> rfl
theorem all_take {ps : List T8} {k : Nat} {p : T8} (g : T8 → Bool) (h : ps[k]? = some p) : (ps.take (k + 1)).all g = ((ps.take k).all g && g p) := by
 rw [List.take_add_one, h]; simp
end Rg


theorem cnum16 (s : ByteArray) (l : List UInt8) (hl : s.data.toList = l) (hs : s.size ≤ 1048576) : ∃ z : Int, (Rg.digB l = true → z = Rg.digN l) ∧ ∀ (w : World),
  Calls Tryz.prog 212 #[.string s] w fun e w' => e = .returned (.tuple #[.int .i64 z, .bool (Rg.digB l)]) ∧ w' = w := by
 have HSZ : Hid (s.size = l.length) := hid' (by rw [Lib.size_eq, hl]);by_cases h2 : (15 : Int) < (s.size : Int)
 ·have HN : Hid (Rg.digB l = false) := hid' (by unfold Rg.digB; rw [decide_eq_false (show ¬ l.length ≤ 15 by have := HSZ.out; omega), Bool.and_false]; rfl);refine ⟨0, (fun h => by rw [HN.out] at h; cases h), fun w => ?_⟩;rw [HN.out];go_enter Tryz.func212, Tryz.ntmps212;go_wp2;go_ret2;exact ⟨rfl, rfl⟩
 ·have HN : Hid (Rg.digB l = ((Tx.num 10 l).2 == 0)) := hid' (by rw [← Rg.cB_eq]; unfold Rg.cB; rw [decide_eq_true (show l.length ≤ 15 by have := HSZ.out; omega), Bool.true_and]);have HNM := hid' (fun w => number_any s w (by unfold maxLen; omega));rw [hl] at HNM;have HOK : Hid (Rg.digB l = true → (Tx.num 10 l).1 = Rg.digN l) := hid' (fun h => (Rg.digN_ok h).symm);obtain ⟨a, ha⟩ : ∃ a, (Tx.num 10 l).1 = a := ⟨_, rfl⟩;obtain ⟨b, hb⟩ : ∃ b, (Tx.num 10 l).2 = b := ⟨_, rfl⟩;rw [ha] at HOK HNM;rw [hb] at HN HNM;clear ha hb;refine ⟨a, HOK.out, fun w => ?_⟩;rw [HN.out];go_enter Tryz.func212, Tryz.ntmps212;go_wp2_with fail;refine (HNM.out _).mono ?_;rintro e w1 ⟨rfl, hw⟩;subst w1;go_wp2;go_ret2;exact ⟨rfl, rfl⟩

theorem cwth16 (r : Rg.Rn) (n : Int) (w : World) :
  Calls Tryz.prog 189 #[.agg #[.int .i64 r.a, .int .i64 r.b], .int .i64 n] w fun e w' => e = .returned (.bool (Rg.wth r n)) ∧ Below w.heap.size w w' := by
 obtain ⟨a, b⟩ := r;have HX : Hid (Ar (w.alloc (.cells #[.int .i64 a, .int .i64 b] 227)) w.heap.size 227 #[.int .i64 a, .int .i64 b]) := hid' (heap_alloc_last w _);have HB1 := hid' (bl_alloc w (.cells #[.int .i64 a, .int .i64 b] 227));by_cases h1 : (0 : Int) ≤ a
 ·by_cases h2 : a ≤ b
  ·have HW : Hid (Rg.wth ⟨a, b⟩ n = decide (b < n)) := hid' (by unfold Rg.wth; simp only; rw [decide_eq_true h1, decide_eq_true h2, Bool.true_and, Bool.true_and]);go_enter Tryz.func189, Tryz.ntmps189;go_wp2;go_ret;exact ⟨by rw [HW.out]; rfl, HB1.out⟩
  ·have HW : Hid (Rg.wth ⟨a, b⟩ n = false) := hid' (by unfold Rg.wth; simp only; rw [decide_eq_false h2, Bool.false_and, Bool.and_false]);go_enter Tryz.func189, Tryz.ntmps189;go_wp2;go_ret;exact ⟨by rw [HW.out]; rfl, HB1.out⟩
 ·have HW : Hid (Rg.wth ⟨a, b⟩ n = false) := hid' (by unfold Rg.wth; simp only; rw [decide_eq_false h1, Bool.false_and]);go_enter Tryz.func189, Tryz.ntmps189;go_wp2;go_ret;exact ⟨by rw [HW.out]; rfl, HB1.out⟩


theorem told_cat16 (a b c : List UInt8) : (((((⟨#[98, 121, 116, 101, 115, 32]⟩ : ByteArray) ++ ⟨a.toArray⟩) ++ ⟨#[45]⟩) ++ ⟨b.toArray⟩) ++ ⟨#[47]⟩) ++ ⟨c.toArray⟩ = ⟨(Rg.sBytes ++ (a ++ 45 :: (b ++ 47 :: c))).toArray⟩ := by
 apply ByteArray.ext; simp [Rg.sBytes]


set_option maxRecDepth 20000 in
theorem ctold16 (r : Rg.Rn) (n : Int) (w : World) (a0 : -9223372036854775808 ≤ r.a) (a1 : r.a ≤ 9223372036854775807) (b0 : -9223372036854775808 ≤ r.b) (b1 : r.b ≤ 9223372036854775807) (n0 : -9223372036854775808 ≤ n) (n1 : n ≤ 9223372036854775807) (hT : TB16 w) :
  Calls Tryz.prog 190 #[.agg #[.int .i64 r.a, .int .i64 r.b], .int .i64 n] w fun e w' => e = .returned (.string ⟨(Rg.told r n).toArray⟩) ∧ Below w.heap.size w w' := by
 obtain ⟨ra, rb⟩ := r;simp only at *;have HX : Hid (Ar (w.alloc (.cells #[.int .i64 ra, .int .i64 rb] 227)) w.heap.size 227 #[.int .i64 ra, .int .i64 rb]) := hid' (heap_alloc_last w _);have HB1 := hid' (bl_alloc w (.cells #[.int .i64 ra, .int .i64 rb] 227));obtain ⟨a, ha⟩ : ∃ a, Lib.itoa ra = a := ⟨_, rfl⟩;obtain ⟨b, hb⟩ : ∃ b, Lib.itoa rb = b := ⟨_, rfl⟩;obtain ⟨c, hc⟩ : ∃ c, Lib.itoa n = c := ⟨_, rfl⟩;have la : a.length ≤ 21 := by rw [← ha]; exact Tx.itoa_le _ 19 (by omega)
 have lb : b.length ≤ 21 := by rw [← hb]; exact Tx.itoa_le _ 19 (by omega)
 have lc : c.length ≤ 21 := by rw [← hc]; exact Tx.itoa_le _ 19 (by omega)
 have HAB : Hid (Rg.told ⟨ra, rb⟩ n = Rg.sBytes ++ (a ++ 45 :: (b ++ 47 :: c))) := hid' (by unfold Rg.told; rw [ha, hb, hc]);have HD1 := hid' (fun W (h : Below w.heap.size w W) => decimal_any ra a0 a1 W (hT.keep h).1);have HD2 := hid' (fun W (h : Below w.heap.size w W) => decimal_any rb b0 b1 W (hT.keep h).1);have HD3 := hid' (fun W (h : Below w.heap.size w W) => decimal_any n n0 n1 W (hT.keep h).1);rw [ha] at HD1;rw [hb] at HD2;rw [hc] at HD3;have k1 : ¬ 9223372036854775807 < 6 + a.length := by omega
 have k2 : ¬ 9223372036854775807 < 6 + a.length + 1 := by omega
 have k3 : ¬ 9223372036854775807 < 6 + a.length + 1 + b.length := by omega
 have k4 : ¬ 9223372036854775807 < 6 + a.length + 1 + b.length + 1 := by omega
 have k5 : ¬ 9223372036854775807 < 6 + a.length + 1 + b.length + 1 + c.length := by omega
 clear ha hb hc hT;go_enter Tryz.func190, Tryz.ntmps190;go_upto_region 1 with fail;obtain ⟨xb, hxb⟩ : ∃ xb, w.heap.size = xb := ⟨_, rfl⟩;rw [hxb] at HX ⊢;generalize w.alloc (.cells #[.int .i64 ra, .int .i64 rb] 227) = w1 at *;clear hxb;have sOf : ∀ W W1 : World, (Below w1.heap.size w1 W ∧ W.cell? ⟨xb, 0, none⟩ = some (.int .i64 ra) ∧ W.cell? ⟨xb, 1, none⟩ = some (.int .i64 rb)) → Below W.heap.size W W1 → (Below w1.heap.size w1 W1 ∧ W1.cell? ⟨xb, 0, none⟩ = some (.int .i64 ra) ∧ W1.cell? ⟨xb, 1, none⟩ = some (.int .i64 rb)) := fun W W1 h hb => ⟨below_two h.1 hb, (HX.out.keep (below_two h.1 hb)).cell 0 _ rfl, (HX.out.keep (below_two h.1 hb)).cell 1 _ rfl⟩
 have hS : Below w1.heap.size w1 w1 ∧ w1.cell? ⟨xb, 0, none⟩ = some (.int .i64 ra) ∧ w1.cell? ⟨xb, 1, none⟩ = some (.int .i64 rb) := ⟨Below.refl _ _, HX.out.cell 0 _ rfl, HX.out.cell 1 _ rfl⟩;go_region_held3 (fun W => Below w1.heap.size w1 W ∧ W.cell? ⟨xb, 0, none⟩ = some (.int .i64 ra) ∧ W.cell? ⟨xb, 1, none⟩ = some (.int .i64 rb))
  (first | assumption | exact sOf _ _ (by assumption) (by assumption) | exact sOf _ _ (by assumption) ((Below.refl _ _).drew))
  (first
   | (go_at_call 34; with_reducible refine (HD1.out _ ?_).mono ?_; exact below_two HB1.out (And.left (by assumption)); rintro e wz ⟨rfl, hbz⟩)
   | (go_at_call 34; with_reducible refine (HD2.out _ ?_).mono ?_; exact below_two HB1.out (And.left (by assumption)); rintro e wz ⟨rfl, hbz⟩)
   | (go_at_call 34; with_reducible refine (HD3.out _ ?_).mono ?_; exact below_two HB1.out (And.left (by assumption)); rintro e wz ⟨rfl, hbz⟩))
 have hz : Below w1.heap.size w1 wz := And.left (by assumption : Below w1.heap.size w1 wz ∧ wz.cell? ⟨xb, 0, none⟩ = some (.int .i64 ra) ∧ wz.cell? ⟨xb, 1, none⟩ = some (.int .i64 rb));have HBB := hid' (below_two HB1.out hz);clear sOf hS hz;go_wp2;go_ret;refine ⟨?_, HBB.out⟩;rw [HAB.out, ← told_cat16];rfl

theorem cunmet16 (n : Int) (w : World) (n0 : -9223372036854775808 ≤ n) (n1 : n ≤ 9223372036854775807) (hT : TB16 w) :
  Calls Tryz.prog 156 #[.int .i64 n] w fun e w' => e = .returned (.string ⟨(Rg.unmet n).toArray⟩) ∧ Below w.heap.size w w' := by
 obtain ⟨c, hc⟩ : ∃ c, Lib.itoa n = c := ⟨_, rfl⟩;have lc : c.length ≤ 21 := by rw [← hc]; exact Tx.itoa_le _ 19 (by omega)
 have HD := hid' (decimal_any n n0 n1 w hT.1);rw [hc] at HD;have HU : Hid ((⟨(Rg.unmet n).toArray⟩ : ByteArray) = (⟨#[98, 121, 116, 101, 115, 32, 42, 47]⟩ : ByteArray) ++ ⟨c.toArray⟩) := hid' (by unfold Rg.unmet; rw [hc]; apply ByteArray.ext; simp);have k1 : ¬ 9223372036854775807 < 8 + c.length := by omega
 clear hc hT;go_enter Tryz.func156, Tryz.ntmps156;go_wp2_with fail;refine HD.out.mono ?_;rintro e w1 ⟨rfl, hb1⟩;go_wp2;go_ret;exact ⟨by rw [HU.out]; rfl, hb1⟩


namespace Rg
end Rg

theorem rgC_length (l : List Rg.Rn) : (rgC l).length = l.length * 2 := by
 induction l with
 | nil => rfl
 | cons a r ih => simp only [rgC, List.flatMap_cons, List.length_append, List.length_cons] at *; simp [rgV] at *; omega
theorem rg_at (l : List Rg.Rn) (i : Nat) (p : Rg.Rn) (h : l[i]? = some p) : ∀ j, j < 2 → (rgC l)[i * 2 + j]? = (rgV p)[j]? := by
 induction l generalizing i with
 | nil => simp at h
 | cons a r ih =>
  intro j hj;rw [show rgC (a :: r) = rgV a ++ rgC r from rfl];cases i with
  | zero => simp at h; subst h; rw [List.getElem?_append_left (by simp [rgV]; omega)]; congr 1; omega
  | succ i =>
   rw [List.getElem?_append_right (by simp [rgV]; omega), show (i + 1) * 2 + j - (rgV a).length = i * 2 + j by simp [rgV]; omega];exact ih i (by simpa using h) j hj
theorem own_two16 {w : World} {B : Nat} {e : TypeId} {ao : Option Addr} {n m cap : Nat} {l : List Rg.Rn} (h : w.ownsRow B e 2 (.slice ao n cap) m (rgC l)) (i : Nat) (p : Rg.Rn) (hp : l[i]? = some p) : ∃ g, ao = some ⟨g, 0, none⟩ ∧ w.cell? ⟨g, i * 2, none⟩ = some (.int .i64 p.a) ∧ w.cell? ⟨g, i * 2 + 1, none⟩ = some (.int .i64 p.b) := by
 have hlt : i * 2 < (rgC l).length := by rw [rgC_length]; have := (List.getElem?_eq_some_iff.1 hp).1; omega
 rcases h.2 with ⟨_, h0⟩ | ⟨g, cap', cur, h1, h2⟩
 ·rw [h.1, h0] at hlt; omega
 ·injection h1 with h1 h3 h4;subst h1;have key : ∀ j u, j < 2 → (rgV p)[j]? = some u → w.cell? ⟨g, i * 2 + j, none⟩ = some u := fun j u hj hu => by
   have := h.cells (g := g) rfl _ u ((rg_at l i p hp j hj).trans hu)
   rwa [Addr.add_mid, Nat.zero_add] at this
  exact ⟨g, rfl, key 0 _ (by omega) rfl, key 1 _ (by omega) rfl⟩

def RW16 (w : World) (ao : Option Addr) (rs : List Rg.Rn) : Prop := ∀ (i : Nat) (p : Rg.Rn), rs[i]? = some p → ∃ a : Addr, ao = some a ∧ (a.add (i * 2)).block < w.heap.size ∧ w.cell? (a.add (i * 2)) = some (.int .i64 p.a) ∧ w.cell? ⟨(a.add (i * 2)).block, (a.add (i * 2)).off + 1, none⟩ = some (.int .i64 p.b)
theorem RW16.nil (w : World) (ao : Option Addr) : RW16 w ao [] := fun i p h => by simp at h
theorem RW16.below {w w' : World} {ao : Option Addr} {rs : List Rg.Rn} (h : RW16 w ao rs) (hb : Below w.heap.size w w') : RW16 w' ao rs := fun i p hp => by
 obtain ⟨a, ha, hl, c0, c1⟩ := h i p hp;exact ⟨a, ha, Nat.lt_of_lt_of_le hl hb.size, (hb.cell hl).trans c0, (hb.cell (p := ⟨(a.add (i * 2)).block, (a.add (i * 2)).off + 1, none⟩) hl).trans c1⟩
theorem RW16.own {w : World} {B : Nat} {e : TypeId} {ao : Option Addr} {n m cap : Nat} {l : List Rg.Rn} (h : w.ownsRow B e 2 (.slice ao n cap) m (rgC l)) : RW16 w ao l := fun i p hp => by
 obtain ⟨g, rfl, h0, h1⟩ := own_two16 h i p hp;have e : (⟨g, 0, none⟩ : Addr).add (i * 2) = ⟨g, i * 2, none⟩ := by rw [Addr.add_mid, Nat.zero_add]
 refine ⟨⟨g, 0, none⟩, rfl, ?_, by rw [e]; exact h0, by rw [e]; exact h1⟩;rw [e];exact own_lt h g rfl
theorem RW16.take {w : World} {ao : Option Addr} {rs rs' : List Rg.Rn} (h : RW16 w ao (rs ++ rs')) : RW16 w ao rs := fun i p hp => h i p (by rw [List.getElem?_append_left (List.getElem?_eq_some_iff.1 hp).1]; exact hp)
theorem RW16.lit {w : World} {g : Nat} {T : TypeId} {l : List Rg.Rn} (h : Ar w g T (rgC l).toArray) : RW16 w (some ⟨g, 0, none⟩) l := fun i p hp => by
 have e : (⟨g, 0, none⟩ : Addr).add (i * 2) = ⟨g, i * 2, none⟩ := by rw [Addr.add_mid, Nat.zero_add]
 refine ⟨⟨g, 0, none⟩, rfl, by rw [e]; exact h.lt, ?_, ?_⟩
 ·rw [e];exact h.cell (i * 2) _ (by rw [List.getElem?_toArray]; exact rg_at l i p hp 0 (by omega))
 ·rw [e];exact h.cell (i * 2 + 1) _ (by rw [List.getElem?_toArray]; exact rg_at l i p hp 1 (by omega))

end Go.Proofs.YthhpejgpfaikaabGreatDoor
