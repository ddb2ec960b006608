/-
  What the row stands on.
-/
import Derived.Deep.RegionHeld3
import Derived.Test.YthhpejgpfaikaabGreatDoorPqAE
import Derived.Lib.Join
import Derived.Test.YthhpejgpfaikaabGreatDoorPqAA
import Derived.Test.YthhpejgpfaikaabGreatDoorPqAD
namespace Go.Proofs.YthhpejgpfaikaabGreatDoor
set_option maxHeartbeats 64000000
open Go.RowKit

theorem number_date (s : ByteArray) (hs : s.size ≤ maxLen) (w : World) :
  Calls Tryz.prog 228 #[.string s] w fun e w' => e = .returned (.int .i64 (Dt.nmb s.data.toList)) ∧ w' = w := by
 go_enter Tryz.func228, Tryz.ntmps228;go_wp2_with fail;refine (number_any s _ hs).mono ?_;rintro e w1 ⟨rfl, rfl⟩;go_wp2;go_ret;exact ⟨rfl, rfl⟩

theorem wrap_id' (x : Int) (h0 : -1000000000000000 ≤ x) (h1 : x ≤ 1000000000000000) : IntKind.i64.wrap x = x := by
 rw [IntKind.wrap_i64]; omega
theorem ba_of (s : ByteArray) : s = ⟨s.data.toList.toArray⟩ := by simp

theorem monthNamed_any (l : List UInt8) (w : World) :
  Calls Tryz.prog 229 #[.string ⟨l.toArray⟩] w fun e w' => e = .returned (.int .i64 (Dt.mth l)) ∧ w' = w := by
 go_enter Tryz.func229, Tryz.ntmps229;go_wp2;go_loop [3, 4] (fun _ v => ∃ k : Nat, k ≤ 12 ∧ v = .int .i64 k ∧ ∀ i : Int, 0 ≤ i → i < k → Dt.mon i ≠ l) (fun _ v => 12 - (intOf v).toNat)
 case atStart => exact ⟨0, by decide, rfl, fun i a b => absurd b (by omega)⟩
 case round =>
  obtain ⟨k, k1, rfl, hk⟩ := hrel;have HK := hid' hk;clear hk;by_cases h12 : k < 12
  ·by_cases ht : Dt.mon k = l
   ·have hte : (Dt.mon k == l) = true := by simp [ht]
    have HF : Hid ((k : Int) = Dt.mth l) := hid' (by rw [← ht, Dt.mth_mon k (by omega) (by omega)]);clear ht;go_wp2_with (go_at_call 209; refine (name_mon k (by omega) (by omega) _).mono ?_; rintro e w' ⟨rfl, rfl⟩);go_ret;exact ⟨ret_int HF.out, rfl⟩
   ·have hte : (Dt.mon k == l) = false := by simp [ht]
    have HN : Hid (∀ i : Int, 0 ≤ i → i < ((k + 1 : Nat) : Int) → Dt.mon i ≠ l) := hid' fun i a b => by
     by_cases h : i = k
     ·subst h; exact ht
     ·exact HK.out i a (by omega)
    clear ht;go_wp2_with (go_at_call 209; refine (name_mon k (by omega) (by omega) _).mono ?_; rintro e w' ⟨rfl, rfl⟩);go_round
    case rel => exact ⟨k + 1, by omega, by go_num, HN.out⟩
    case measure => simp [intOf]; omega
  ·have HF : Hid ((0 : Int) = Dt.mth l) := hid' (Dt.mth_none l fun i a b => HK.out i a (by omega)).symm;go_wp2;go_ret;exact ⟨ret_int HF.out, rfl⟩

theorem cut_list (s : ByteArray) (a b : Nat) : (s.extract a b).data.toList = (s.data.toList.drop a).take (b - a) := by
 simp [ByteArray.data_extract, Array.toList_extract, List.extract_eq_take_drop]

theorem readDay_any (s : ByteArray) (hs : s.size = 11) (w : World) :
  Calls Tryz.prog 203 #[.string s] w fun e w' => e = .returned (.int .i64 (Dt.rday s.data.toList)) ∧ Below w.heap.size w w' := by
 obtain ⟨Y, hY⟩ : ∃ Y, Dt.nmb (s.extract 7 11).data.toList = Y := ⟨_, rfl⟩;obtain ⟨M, hM⟩ : ∃ M, Dt.mth (s.extract 3 6).data.toList = M := ⟨_, rfl⟩;obtain ⟨D, hD⟩ : ∃ D, Dt.nmb (s.extract 0 2).data.toList = D := ⟨_, rfl⟩;have b1 : 0 ≤ Y ∧ Y < 10000 := by
  have h := Dt.nmb_bd (s.extract 7 11).data.toList;rw [hY, show (s.extract 7 11).data.toList.length = 4 by rw [← Lib.size_eq]; simp [hs]] at h;exact h
 have b3 : 0 ≤ D ∧ D < 100 := by
  have h := Dt.nmb_bd (s.extract 0 2).data.toList;rw [hD, show (s.extract 0 2).data.toList.length = 2 by rw [← Lib.size_eq]; simp [hs]] at h;exact h
 have b2 : 0 ≤ M ∧ M ≤ 11 := by rw [← hM]; exact Dt.mth_bd _
 obtain ⟨b10, b11⟩ := b1;obtain ⟨b20, b21⟩ := b2;obtain ⟨b30, b31⟩ := b3;obtain ⟨b40, b41⟩ := Dt.dYz_bd Y b10 (by omega);obtain ⟨b50, b51⟩ := Dt.dM_bd M Y b20 (by omega);have HF : Hid (Dt.dYz Y + Dt.dM M Y + D - 1 = Dt.rday s.data.toList) := hid' (by
  rw [← hY, ← hM, ← hD, cut_list, cut_list, cut_list]; rfl)
 have HY := hid' hY;have HM := hid' hM;have HD := hid' hD;clear hY hM hD;go_enter Tryz.func203, Tryz.ntmps203;go_wp2_with fail;refine (number_date (s.extract 7 11) (by simp [hs]; unfold maxLen; omega) _).mono ?_;rintro e w1 ⟨rfl, rfl⟩;rw [HY.out];go_wp2;have hS : Below w1.heap.size w1 w1 := Below.refl _ _;go_region_held3 (fun W => Below w1.heap.size w1 W) (first | assumption | exact below_two (by assumption) (by assumption) | exact Below.drew (by assumption))
  (first
  | (go_at_call 206; refine (aheadYear_any Y (by omega) (by omega) _).mono ?_; rintro e wa ⟨rfl, rfl⟩)
  | (go_at_call 229; rw [ba_of (s.extract 3 6)]; refine (monthNamed_any (s.extract 3 6).data.toList _).mono ?_; rintro e wa ⟨rfl, rfl⟩; rw [HM.out])
  | (go_at_call 208; refine (aheadMonth_any M Y (by omega) (by omega) (by omega) _).mono ?_; rintro e w2 ⟨rfl, hb2⟩)
  | (go_at_call 228; refine (number_date (s.extract 0 2) (by simp [hs]; unfold maxLen; omega) _).mono ?_; rintro e w3 ⟨rfl, rfl⟩; rw [HD.out]))
 go_wp2;go_ret;exact ⟨ret_int (by rw [wrap_id' (Dt.dYz Y + Dt.dM M Y) (by omega) (by omega), wrap_id' (Dt.dYz Y + Dt.dM M Y + D) (by omega) (by omega), wrap_id' _ (by omega) (by omega)]; exact HF.out), by assumption⟩

set_option maxRecDepth 20000 in
theorem readClock_any (s : ByteArray) (hs : s.size = 8) (w : World) :
  Calls Tryz.prog 204 #[.string s] w fun e w' => e = .returned (.int .i64 (Dt.rclock s.data.toList)) ∧ Below w.heap.size w w' := by
 obtain ⟨Y, hY⟩ : ∃ Y, Dt.nmb (s.extract 0 2).data.toList = Y := ⟨_, rfl⟩;obtain ⟨M, hM⟩ : ∃ M, Dt.nmb (s.extract 3 5).data.toList = M := ⟨_, rfl⟩;obtain ⟨D, hD⟩ : ∃ D, Dt.nmb (s.extract 6 8).data.toList = D := ⟨_, rfl⟩;have b1 : 0 ≤ Y ∧ Y < 100 := by
  have h := Dt.nmb_bd (s.extract 0 2).data.toList;rw [hY, show (s.extract 0 2).data.toList.length = 2 by rw [← Lib.size_eq]; simp [hs]] at h;exact h
 have b2 : 0 ≤ M ∧ M < 100 := by
  have h := Dt.nmb_bd (s.extract 3 5).data.toList;rw [hM, show (s.extract 3 5).data.toList.length = 2 by rw [← Lib.size_eq]; simp [hs]] at h;exact h
 have b3 : 0 ≤ D ∧ D < 100 := by
  have h := Dt.nmb_bd (s.extract 6 8).data.toList;rw [hD, show (s.extract 6 8).data.toList.length = 2 by rw [← Lib.size_eq]; simp [hs]] at h;exact h
 obtain ⟨b10, b11⟩ := b1;obtain ⟨b20, b21⟩ := b2;obtain ⟨b30, b31⟩ := b3;have HF : Hid (Y * 3600 + M * 60 + D = Dt.rclock s.data.toList) := hid' (by
  rw [← hY, ← hM, ← hD, cut_list, cut_list, cut_list]; rfl)
 have HY := hid' hY;have HM := hid' hM;have HD := hid' hD;clear hY hM hD;go_enter Tryz.func204, Tryz.ntmps204;have hS : Below w.heap.size w w := Below.refl _ _;go_wp2;go_region_held3 (fun W => Below w.heap.size w W) (first | assumption | exact below_two (by assumption) (by assumption) | exact Below.drew (by assumption))
  (first
  | (go_at_call 228; with_reducible refine (number_date (s.extract 0 2) (by simp [hs]; unfold maxLen; omega) _).mono ?_; rintro e wa ⟨rfl, rfl⟩; rw [HY.out])
  | (go_at_call 228; with_reducible refine (number_date (s.extract 3 5) (by simp [hs]; unfold maxLen; omega) _).mono ?_; rintro e wa ⟨rfl, rfl⟩; rw [HM.out])
  | (go_at_call 228; with_reducible refine (number_date (s.extract 6 8) (by simp [hs]; unfold maxLen; omega) _).mono ?_; rintro e wa ⟨rfl, rfl⟩; rw [HD.out]))
 go_wp2;go_ret;exact ⟨ret_int (by rw [wrap_id' (Y * 3600) (by omega) (by omega), wrap_id' (M * 60) (by omega) (by omega), wrap_id' (Y * 3600 + M * 60) (by omega) (by omega), wrap_id' _ (by omega) (by omega)]; exact HF.out), by assumption⟩


theorem rday_bd (l : List UInt8) (h : l.length = 11) : -1000001 ≤ Dt.rday l ∧ Dt.rday l ≤ 4001000 := by
 have a := Dt.nmb_bd ((l.drop 7).take 4);have b := Dt.nmb_bd (l.take 2);rw [show ((l.drop 7).take 4).length = 4 by simp [h]] at a;rw [show (l.take 2).length = 2 by simp [h]] at b;obtain ⟨c0, c1⟩ := Dt.mth_bd ((l.drop 3).take 3);have d := Dt.dYz_bd (Dt.nmb ((l.drop 7).take 4)) a.1 (by omega);have e := Dt.dM_bd (Dt.mth ((l.drop 3).take 3)) (Dt.nmb ((l.drop 7).take 4)) c0 (by omega);unfold Dt.rday;omega
theorem rclock_bd (l : List UInt8) (h : l.length = 8) : 0 ≤ Dt.rclock l ∧ Dt.rclock l ≤ 400000 := by
 have a := Dt.nmb_bd (l.take 2);have b := Dt.nmb_bd ((l.drop 3).take 2);have c := Dt.nmb_bd ((l.drop 6).take 2);rw [show (l.take 2).length = 2 by simp [h]] at a;rw [show ((l.drop 3).take 2).length = 2 by simp [h]] at b;rw [show ((l.drop 6).take 2).length = 2 by simp [h]] at c;unfold Dt.rclock;omega

theorem parse_29 (s : ByteArray) (hl : s.size = 29) (n : Int) (hn : n = Dt.rsec s.data.toList) (v : List UInt8) (f : Int) (r : Int × Int)
  (hf : Hid (∀ w, Lib.TabIs Tryz.prog w "internal/strconv.uint64pow10" .u64 Lib.pow10Tab → Calls Tryz.prog 151 #[.int .i64 n] w fun e w' => e = .returned (.tuple #[.string ⟨v.toArray⟩, .int .i64 f]) ∧ Below w.heap.size w w'))
  (hr : (f = 0 ∧ v = s.data.toList ∧ r = (n, 0)) ∨ ((f = 0 ∧ v ≠ s.data.toList ∨ f = 5) ∧ r = (0, 20)))
  (w : World) (htab : Lib.TabIs Tryz.prog w "internal/strconv.uint64pow10" .u64 Lib.pow10Tab) :
  Calls Tryz.prog 184 #[.string s] w fun e w' => e = .returned (.tuple #[.int .i64 r.1, .int .i64 r.2]) ∧ Below w.heap.size w w' := by
 have HT := hid' htab;clear htab;obtain ⟨A, hA⟩ : ∃ A, Dt.rday (s.extract 5 16).data.toList = A := ⟨_, rfl⟩;obtain ⟨B, hB⟩ : ∃ B, Dt.rclock (s.extract 17 25).data.toList = B := ⟨_, rfl⟩;have b1 : -1000001 ≤ A ∧ A ≤ 4001000 := by
  rw [← hA]; exact rday_bd _ (by rw [← Lib.size_eq]; simp [hl])
 have b2 : 0 ≤ B ∧ B ≤ 400000 := by
  rw [← hB]; exact rclock_bd _ (by rw [← Lib.size_eq]; simp [hl])
 have hab : A * 86400 + B = n := by
  rw [hn, ← hA, ← hB, cut_list, cut_list]; rfl
 obtain ⟨b10, b11⟩ := b1;obtain ⟨b20, b21⟩ := b2;have HA := hid' hA;have HB := hid' hB;have hw : IntKind.i64.wrap (IntKind.i64.wrap (A * 86400) + B) = n := by
  rw [wrap_id' (A * 86400) (by omega) (by omega), wrap_id' _ (by omega) (by omega)]; exact hab
 have s1 : (s.extract 5 16).size = 11 := by simp [hl]
 have s2 : (s.extract 17 25).size = 8 := by simp [hl]
 have hS : Below w.heap.size w w := Below.refl _ _;have HN := hid' hn;have HAB := hid' hab;clear hA hB hn hab;rcases hr with ⟨rfl, hv, rfl⟩ | ⟨⟨rfl, hv⟩ | rfl, rfl⟩
 ·have hve : (v == s.toList) = true := by rw [hv, Lib.toList_data]; simp
  clear hv;go_enter Tryz.func184, Tryz.ntmps184;go_wp2;go_region_held3 (fun W => Below w.heap.size w W) (first | assumption | exact below_two (by assumption) (by assumption) | exact Below.drew (by assumption))
   (first
   | (go_at_call 203; refine (readDay_any (s.extract 5 16) s1 _).mono ?_; rintro e wa ⟨rfl, hba⟩; rw [HA.out])
   | (go_at_call 204; refine (readClock_any (s.extract 17 25) s2 _).mono ?_; rintro e wb ⟨rfl, hbb⟩; rw [HB.out]))
  go_wp2_with fail;refine (hf.out _ (tab_below HT.out (by assumption))).mono ?_;rintro e w3 ⟨rfl, hb3⟩;go_wp2;go_ret2;exact ⟨rfl, below_two (by assumption) hb3⟩
 ·have hve : (v == s.toList) = false := by rw [Lib.toList_data]; simpa using hv
  clear hv;go_enter Tryz.func184, Tryz.ntmps184;go_wp2;go_region_held3 (fun W => Below w.heap.size w W) (first | assumption | exact below_two (by assumption) (by assumption) | exact Below.drew (by assumption))
   (first
   | (go_at_call 203; refine (readDay_any (s.extract 5 16) s1 _).mono ?_; rintro e wa ⟨rfl, hba⟩; rw [HA.out])
   | (go_at_call 204; refine (readClock_any (s.extract 17 25) s2 _).mono ?_; rintro e wb ⟨rfl, hbb⟩; rw [HB.out]))
  go_wp2_with fail;refine (hf.out _ (tab_below HT.out (by assumption))).mono ?_;rintro e w3 ⟨rfl, hb3⟩;go_wp2;go_ret2;exact ⟨rfl, below_two (by assumption) hb3⟩
 ·clear HN;go_enter Tryz.func184, Tryz.ntmps184;go_wp2;go_region_held3 (fun W => Below w.heap.size w W) (first | assumption | exact below_two (by assumption) (by assumption) | exact Below.drew (by assumption))
   (first
   | (go_at_call 203; refine (readDay_any (s.extract 5 16) s1 _).mono ?_; rintro e wa ⟨rfl, hba⟩; rw [HA.out])
   | (go_at_call 204; refine (readClock_any (s.extract 17 25) s2 _).mono ?_; rintro e wb ⟨rfl, hbb⟩; rw [HB.out]))
  go_wp2_with fail;refine (hf.out _ (tab_below HT.out (by assumption))).mono ?_;rintro e w3 ⟨rfl, hb3⟩;go_wp2;go_ret2;exact ⟨rfl, below_two (by assumption) hb3⟩

theorem parse_yes (n : Int) (l : List UInt8) (h : Dt.Dated n l) (w : World) (htab : Lib.TabIs Tryz.prog w "internal/strconv.uint64pow10" .u64 Lib.pow10Tab) :
  Calls Tryz.prog 184 #[.string ⟨l.toArray⟩] w fun e w' => e = .returned (.tuple #[.int .i64 n, .int .i64 0]) ∧ Below w.heap.size w w' :=
 parse_29 ⟨l.toArray⟩ (by rw [Lib.size_eq]; exact h.len) n h.rsec.symm l 0 (n, 0) (hid' fun w ht => format_any n l h w ht) (Or.inl ⟨rfl, rfl, rfl⟩) w htab

theorem parse_short (s : ByteArray) (hl : s.size ≠ 29) (w : World) :
  Calls Tryz.prog 184 #[.string s] w fun e w' => e = .returned (.tuple #[.int .i64 0, .int .i64 20]) ∧ Below w.heap.size w w' := by
 have h : ((s.size : Int) == 29) = false := beq_eq_false_iff_ne.2 (by omega);go_enter Tryz.func184, Tryz.ntmps184;go_wp2;go_ret2;exact ⟨rfl, Below.refl _ _⟩

theorem parse_no (s : ByteArray) (h : ∀ n, ¬ Dt.Dated n s.data.toList) (w : World) (htab : Lib.TabIs Tryz.prog w "internal/strconv.uint64pow10" .u64 Lib.pow10Tab) :
  Calls Tryz.prog 184 #[.string s] w fun e w' => e = .returned (.tuple #[.int .i64 0, .int .i64 20]) ∧ Below w.heap.size w w' := by
 by_cases hl : s.size = 29
 ·by_cases hr : 0 ≤ Dt.rsec s.data.toList ∧ Dt.rsec s.data.toList ≤ 253402300799
  ·obtain ⟨v, hv⟩ := Dt.dated_ex _ hr.1 hr.2;refine parse_29 s hl _ rfl v 0 (0, 20) (hid' fun w ht => format_any _ v hv w ht) (Or.inr ⟨Or.inl ⟨rfl, ?_⟩, rfl⟩) w htab;intro e; rw [e] at hv; exact h _ hv
  ·exact parse_29 s hl _ rfl [] 5 (0, 20) (hid' fun w _ => (format_none _ (by omega) w).mono fun e w' ⟨a, b⟩ => ⟨a, by rw [b]; exact Below.refl _ _⟩) (Or.inr ⟨Or.inr rfl, rfl⟩) w htab
 ·exact parse_short s hl w

namespace Dt
def onB (n y m d : Int) : Bool :=
 decide (0 ≤ n) && (decide (n ≤ 253402300799) && (decide (1970 ≤ y) && (decide (y ≤ 9999) && (decide (dY y ≤ n / 86400) && (decide (n / 86400 < dY (y + 1)) && (decide (0 ≤ m) && (decide (m ≤ 11) && (decide (dM m y ≤ n / 86400 - dY y) && (decide (n / 86400 - dY y < dM (m + 1) y) && decide (d = n / 86400 - dY y - dM m y + 1))))))))))
theorem onB_is {n y m d : Int} (h : onB n y m d = true) : On n y m d := by
 unfold onB at h;simp only [Bool.and_eq_true, decide_eq_true_eq] at h;obtain ⟨a, b, c, d', e, f, g, i, j, k, l⟩ := h;exact ⟨a, b, c, d', e, f, g, i, j, k, l⟩
theorem onB_of {n y m d : Int} (h : On n y m d) : onB n y m d = true := by
 unfold onB;simp only [Bool.and_eq_true, decide_eq_true_eq];exact ⟨h.n0, h.n1, h.y0, h.y1, h.ylo, h.yhi, h.m0, h.m1, h.mlo, h.mhi, h.deq⟩
def inY (n : Int) (y : Nat) : Option (List UInt8) := (List.range 12).findSome? fun (m : Nat) => if onB n y m (n / 86400 - dY y - dM m y + 1) then some (line n y m (n / 86400 - dY y - dM m y + 1)) else none
def fmtC (n : Int) : List UInt8 := ((List.range (10000 + n.toNat)).findSome? (inY n)).getD []
theorem inY_some {n : Int} {y : Nat} {l : List UInt8} (h : inY n y = some l) : Dated n l := by
 unfold inY at h;obtain ⟨m, _, hm⟩ := List.exists_of_findSome?_eq_some h;split at hm
 ·rename_i hb;exact ⟨_, _, _, onB_is hb, (Option.some.inj hm).symm⟩
 ·cases hm
theorem fmtC_dated {n : Int} (h : fmtC n ≠ []) : Dated n (fmtC n) := by
 unfold fmtC at h ⊢;cases hq : (List.range (10000 + n.toNat)).findSome? (inY n) with
 | none => rw [hq] at h; exact absurd rfl h
 | some l =>
  obtain ⟨y, _, hy⟩ := List.exists_of_findSome?_eq_some hq;exact inY_some hy
theorem fmtC_of {n : Int} {l : List UInt8} (h : Dated n l) : fmtC n = l := by
 have hd := h;obtain ⟨y, m, d, ho, _⟩ := hd;have hne : fmtC n ≠ [] := by
  unfold fmtC;cases hq : (List.range (10000 + n.toNat)).findSome? (inY n) with
  | none =>
   exfalso;have h1 := List.findSome?_eq_none_iff.1 hq y.toNat (List.mem_range.2 (by have := ho.y1; omega));unfold inY at h1;have h2 := List.findSome?_eq_none_iff.1 h1 m.toNat (List.mem_range.2 (by have := ho.m1; omega));have ey : ((y.toNat : Nat) : Int) = y := by have := ho.y0; omega
   have em : ((m.toNat : Nat) : Int) = m := by have := ho.m0; omega
   rw [ey, em, ← ho.deq, if_pos (onB_of ho)] at h2;cases h2
  | some k =>
   obtain ⟨y', _, hy⟩ := List.exists_of_findSome?_eq_some hq;have hk := (inY_some hy).len;intro e;rw [Option.getD_some] at e;rw [e] at hk;cases hk
 exact (fmtC_dated hne).uniq h
def dprC (l : List UInt8) : Int × Int := if fmtC (rsec l) == l && !l.isEmpty then (rsec l, 0) else (0, 20)
theorem dprC_of {n : Int} {l : List UInt8} (h : Dated n l) : dprC l = (n, 0) := by
 unfold dprC;rw [h.rsec, fmtC_of h, if_pos (by rw [beq_self_eq_true, Bool.true_and]; have := h.len; cases l with | nil => cases this | cons a r => rfl)]
theorem dprC_no {l : List UInt8} (h : ∀ n, ¬ Dated n l) : dprC l = (0, 20) := by
 unfold dprC;rw [if_neg];intro hc;rw [Bool.and_eq_true, beq_iff_eq] at hc;obtain ⟨h1, h2⟩ := hc;have hne : fmtC (rsec l) ≠ [] := by rw [h1]; intro e; rw [e] at h2; cases h2
 have := fmtC_dated hne;rw [h1] at this;exact h _ this
end Dt


namespace Tg
def vals (l : List Fd) (nm : List UInt8) : List (List UInt8) := (l.filter (fun f => f.n.data.toList == nm)).map (·.v.data.toList)
def vjoin (l : List Fd) (nm : List UInt8) : List UInt8 := Lib.join (vals l nm) [44, 32]
def dprs (l : List UInt8) : Int × Int := Dt.dprC l
def nmB (alike : Tag → Tag → Bool) (l m : List UInt8) : Bool := star l || (tags l).any (fun x => alike x ⟨false, m⟩)
def dte (l : List Fd) (nm : List UInt8) : Int × Bool := match vals l nm with
 | [v] => ((dprs v).1, (dprs v).2 == 0)
 | _ => (0, false)
def nIM : List UInt8 := [105, 102, 45, 109, 97, 116, 99, 104]
def nIU : List UInt8 := [105, 102, 45, 117, 110, 109, 111, 100, 105, 102, 105, 101, 100, 45, 115, 105, 110, 99, 101]
def nNM : List UInt8 := [105, 102, 45, 110, 111, 110, 101, 45, 109, 97, 116, 99, 104]
def nMS : List UInt8 := [105, 102, 45, 109, 111, 100, 105, 102, 105, 101, 100, 45, 115, 105, 110, 99, 101]
def nIR : List UInt8 := [105, 102, 45, 114, 97, 110, 103, 101]
def may (l : List Fd) (m : List UInt8) (t : Int) : Bool := if (vals l nIM).isEmpty then (!(dte l nIU).2 || decide (t ≤ (dte l nIU).1)) else nmB strong (vjoin l nIM) m
def dec (reads : Bool) (l : List Fd) (m : List UInt8) (t : Int) : Int :=
  if may l m t then
    (if (vals l nNM).isEmpty then (if (dte l nMS).2 && (reads && decide (t ≤ (dte l nMS).1)) then 304 else 0)
     else if nmB weak (vjoin l nNM) m then (if reads then 304 else 412) else 0)
  else 412
def sam (l : List Fd) (m : List UInt8) (t : Int) : Bool :=
 if (vals l nIR).isEmpty then true
 else match tags (vjoin l nIR) with
  | [x] => strong x ⟨false, m⟩
  | _ => (dprs (vjoin l nIR)).2 == 0 && (dprs (vjoin l nIR)).1 == t
def vsz (l : List Fd) : Nat := (l.map (fun f => f.v.size + 2)).sum
theorem vals_take {l : List Fd} {nm : List UInt8} {k : Nat} {f : Fd} (h : l[k]? = some f) : vals (l.take (k + 1)) nm = vals (l.take k) nm ++ (if f.n.data.toList == nm then [f.v.data.toList] else []) := by
 unfold vals;rw [List.take_add_one, h, List.filter_append, List.map_append];congr 1;cases hq : (f.n.data.toList == nm) <;> simp [hq]
theorem vals_sum (l : List Fd) (nm : List UInt8) : ((vals l nm).map List.length).sum + 2 * (vals l nm).length ≤ vsz l := by
 unfold vals vsz
 induction l with
 | nil => simp
 | cons a r ih =>
  rw [List.filter_cons];split
  ·simp only [List.map_cons, List.sum_cons, List.length_cons] at *;rw [← Lib.size_eq];omega
  ·simp only [List.map_cons, List.sum_cons] at *;omega
theorem join_len2 : ∀ k : List (List UInt8), (Lib.join k [44, 32]).length ≤ (k.map List.length).sum + 2 * k.length
 | [] => by simp [Lib.join_nil]
 | [p] => by rw [Lib.join_one]; simp
 | p :: q :: r => by
  have ih := join_len2 (q :: r);rw [Lib.join_cons] at *;simp only [Lib.joinTail, List.map_cons, List.flatten_cons, List.length_append, List.length_cons, List.length_nil, List.sum_cons] at *;omega
theorem vjoin_len (l : List Fd) (nm : List UInt8) : (vjoin l nm).length ≤ vsz l := Nat.le_trans (join_len2 _) (vals_sum l nm)
end Tg
def sC19 (l : List (List UInt8)) : List Value := l.map fun x => .string ⟨x.toArray⟩
theorem sC19_app (a b : List (List UInt8)) : sC19 (a ++ b) = sC19 a ++ sC19 b := by unfold sC19; rw [List.map_append]

set_option maxRecDepth 20000 in
theorem cvals19 (v : Value) (l : List Fd) (nm : ByteArray) (nl : List UInt8) (hnm : nm.data.toList = nl) (w : World) (h : FW w v l) (hl : l.length ≤ 1048576) :
  Calls Tryz.prog 179 #[v, .string nm] w fun e w' => (∃ m ro rc, e = .returned (.slice ro m rc) ∧ (Tg.vals l nl).length = m ∧ ro.isNone = (Tg.vals l nl).isEmpty ∧ m ≤ rc ∧ w'.ownsRow w.heap.size 9 1 (.slice ro m rc) m (sC19 (Tg.vals l nl))) ∧ Below w.heap.size w w' := by
 obtain ⟨i0, hi0, hz0, hz1, hz2⟩ := minfo_parts infoS15;have HI := hid' hi0;have HZ0 := hid' hz0;have HZ1 := hid' hz1;have HZ2 := hid' hz2;clear hi0 hz0 hz1 hz2;obtain ⟨ao, cap, rfl⟩ := h.shape;have H := hid' h;obtain ⟨n, hn⟩ : ∃ n, l.length = n := ⟨_, rfl⟩;have HN := hid' hn;have HNM := hid' hnm;rw [hn] at hl H ⊢;clear h hn hnm;go_enter Tryz.func179, Tryz.ntmps179;go_wp2;go_loopw [5, 10] (fun s5 s10 wr => ∃ (k c : Nat) (ro : Option Addr) (rc : Nat), s10 = .int .i64 (k : Int) ∧ s5 = .slice ro c rc ∧ k ≤ n ∧ c ≤ k ∧ Hid ((Tg.vals (l.take k) nl).length = c) ∧ Hid (ro.isNone = (Tg.vals (l.take k) nl).isEmpty) ∧ Hid (wr.ownsRow w.heap.size 9 1 (.slice ro c rc) c (sC19 (Tg.vals (l.take k) nl))) ∧ Hid (Below w.heap.size w wr)) (fun _ s10 _ => n - (intOf s10).toNat)
 case atStart => exact ⟨0, 0, none, 0, rfl, rfl, Nat.zero_le _, Nat.le_refl _, hid' rfl, hid' rfl, hid' (World.ownsRow_nil _ _ _ _), hid' (Below.refl _ _)⟩
 case round =>
  obtain ⟨k, c, ro, rc, rfl, rfl, hk, hck, HCL, HNO, HO, HB⟩ := hrel;by_cases hlt : k < n
  ·have hlt2 : (k : Int) < (n : Int) := by omega
   obtain ⟨f, hf⟩ : ∃ f, l[k]? = some f := ⟨_, List.getElem?_eq_getElem (by rw [HN.out]; exact hlt)⟩;obtain ⟨a, e1, x0, x1⟩ := FW.two (H.out.keep HB.out) k f hf;subst e1;have HVT := hid' (Tg.vals_take (nm := nl) hf);have hne : (f.n.toList == nm.toList) = (f.n.data.toList == nl) := by rw [Lib.toList_data, Lib.toList_data, HNM.out]
   have HYS : Hid (sC19 [f.v.data.toList] = [.string f.v]) := hid' rfl;have HB2 := hid' (below_two HB.out (bl_alloc wr (.cells #[.string f.n, .string f.v] 44)));have HL : Hid (Ar (wr.alloc (.cells #[.string f.n, .string f.v] 44)) wr.heap.size 44 #[.string f.n, .string f.v]) := hid' (heap_alloc_last wr _);have HO1 := hid' (own_keep15 HO.out (bl_alloc wr (.cells #[.string f.n, .string f.v] 44)));clear hf;go_upto_region 5 with fail;clear x0 x1;obtain ⟨xb, hxb⟩ : ∃ xb, wr.heap.size = xb := ⟨_, rfl⟩;rw [hxb] at HL ⊢;generalize wr.alloc (.cells #[.string f.n, .string f.v] 44) = w1 at *;clear hxb;have p0 := HL.out.cell 0 _ rfl;have p1 := HL.out.cell 1 _ rfl;cases hq : (f.n.data.toList == nl)
   ·rw [hq] at hne HVT;have HV2 : Hid (Tg.vals (l.take (k + 1)) nl = Tg.vals (l.take k) nl) := hid' (by rw [HVT.out]; simp);go_wp2;go_roundw
    case rel => exact ⟨k + 1, c, ro, rc, by go_num, rfl, by omega, by omega, hid' (by rw [HV2.out]; exact HCL.out), hid' (by rw [HV2.out]; exact HNO.out), hid' (by rw [HV2.out]; exact HO1.out), HB2⟩
    case measure => simp [intOf]; omega
   ·rw [hq] at hne HVT;have HV2 : Hid (Tg.vals (l.take (k + 1)) nl = Tg.vals (l.take k) nl ++ [f.v.data.toList]) := hid' HVT.out;have HA : Hid ((w1.alloc (.cells #[.string f.v] 9)).ownsRow w.heap.size 9 1 (.slice ro c rc) c (sC19 (Tg.vals (l.take k) nl))) := hid' (HO1.out.alloc _);go_wp2_with (at_builtin; refine wpList_append_own_at _ rfl _ _ 76 rfl w.heap.size 9 i0 (.string ⟨#[]⟩) 1 16 Tryz.underlying76 HI.out HZ0.out HZ1.out HZ2.out rfl (by decide) (.slice ro c rc) c (sC19 (Tg.vals (l.take k) nl)) rfl HA.out ⟨w1.heap.size, 0, none⟩ 1 1 [.string f.v] rfl rfl (one_cell15 _ _ _) (by simp [Value.oneCell']) (by unfold maxLen; omega) (by omega) (by simp; have := HB2.out.size; omega) ?_; intro v3 w3 hown3 hgrow3 hnil _; refine Hid.out ?_);refine hid' ?_;obtain ⟨v3o, v3c, hv3⟩ := own_shape hown3;subst hv3;have HNO3 : Hid (v3o.isNone = (Tg.vals (l.take (k + 1)) nl).isEmpty) := hid' (by
     rw [HV2.out];cases v3o with
     | none =>
      exfalso;rcases hown3.2 with ⟨_, h0⟩ | ⟨g, cap, cur, h1, _⟩
      ·omega
      ·cases h1
     | some a => simp)
    have HO3 : Hid (w3.ownsRow w.heap.size 9 1 (.slice v3o (c + 1) v3c) (c + 1) (sC19 (Tg.vals (l.take (k + 1)) nl))) := hid' (by rw [HV2.out, sC19_app, HYS.out]; exact hown3);have HB3 : Hid (Below w.heap.size w w3) := hid' ((HB2.out.alloc HB2.out.size _).grown hgrow3 (by simp; have := HB2.out.size; omega) (fun k hk => (HA.out.lt k hk).1));clear hown3 hgrow3 hnil p0 p1;go_wp2;go_roundw
    case rel => exact ⟨k + 1, c + 1, v3o, v3c, by go_num, rfl, by omega, by omega, hid' (by rw [HV2.out, List.length_append, HCL.out]; rfl), HNO3, HO3, HB3⟩
    case measure => simp [intOf]; omega
  ·have hlt2 : ¬ (k : Int) < (n : Int) := by omega
   have HTk : Hid (l.take k = l) := hid' (List.take_of_length_le (by rw [HN.out]; omega));rw [HTk.out] at HCL HO HNO;have HCP : Hid (c ≤ rc) := hid' (by
    rcases HO.out.2 with ⟨h1, h2⟩ | ⟨g, cap, cur, h1, _, _, h3, _⟩
    ·injection h1 with _ e2 e3; omega
    ·injection h1 with _ e2 e3; subst e3; exact h3)
   clear hlt;go_wp2;go_ret;exact ⟨⟨c, ro, rc, rfl, HCL.out, HNO.out, HCP.out, HO.out⟩, HB.out⟩

end Go.Proofs.YthhpejgpfaikaabGreatDoor
