/-
  What the row stands on.
-/
import Derived.BigQuiet
import Derived.Test.YthhpejgpfaikaabGreatDoorPqAZ
import Derived.Test.YthhpejgpfaikaabGreatDoorShelfP
import Derived.Shelf.Strings.Split
import Derived.Lib.Join
import Derived.Test.YthhpejgpfaikaabGreatDoorPqAT
namespace Go.Proofs.YthhpejgpfaikaabGreatDoor
set_option maxHeartbeats 64000000
open Go.RowKit

namespace Rt
theorem vis_f {c : UInt8} (h : (c.toNat : Int) < 33 ∨ (126 : Int) < (c.toNat : Int) ∨ ((c.toNat : Int) == 123) = true ∨ ((c.toNat : Int) == 125) = true) : vis c = false := by
 unfold vis;rcases h with h | h | h | h
 ·rw [decide_eq_true (show c.toNat < 33 by omega)]; rfl
 ·rw [decide_eq_true (show 126 < c.toNat by omega)]; simp
 ·have : c = 123 := UInt8.toNat_inj.1 (by have := eq_of_beq h; simp; omega);rw [this]; rfl
 ·have : c = 125 := UInt8.toNat_inj.1 (by have := eq_of_beq h; simp; omega);rw [this]; rfl
theorem vis_t {c : UInt8} (h1 : ¬ (c.toNat : Int) < 33) (h2 : ¬ (126 : Int) < (c.toNat : Int)) (h3 : ((c.toNat : Int) == 123) = false) (h4 : ((c.toNat : Int) == 125) = false) : vis c = true := by
 unfold vis;have e3 : (c == 123) = false := beq_false_of_ne (fun e => by rw [e] at h3; revert h3; decide);have e4 : (c == 125) = false := beq_false_of_ne (fun e => by rw [e] at h4; revert h4; decide);rw [decide_eq_false (show ¬ c.toNat < 33 by omega), decide_eq_false (show ¬ 126 < c.toNat by omega), e3, e4]; rfl
def plainB (l : T8) : Bool := l.all vis && !l.isEmpty
theorem plain_bad {l : T8} {k : Nat} {c : UInt8} (h : l[k]? = some c) (hc : vis c = false) : plainB l = false := by
 unfold plainB;have : l.all vis = false := by
  rw [Bool.eq_false_iff];intro ht;have := List.all_eq_true.1 ht c (List.mem_of_getElem? h);rw [hc] at this; cases this
 rw [this]; rfl
theorem plain_all {l : T8} (h : ∀ (k : Nat) (c : UInt8), l[k]? = some c → vis c = true) : plainB l = !l.isEmpty := by
 unfold plainB;have : l.all vis = true := by
  rw [List.all_eq_true];intro d hd;obtain ⟨k, hk, hkd⟩ := List.mem_iff_getElem.1 hd;exact h k d (by rw [List.getElem?_eq_getElem hk, hkd])
 rw [this]; rfl
end Rt
theorem Below.dN18 {B : Nat} {w w' : World} (h : Below B w w') (n : Nat) : Below B w (w'.drewN n) := ⟨h.os, h.tape, h.output, h.size, h.block⟩

set_option maxRecDepth 20000 in
theorem cplain18 (s : ByteArray) (l : List UInt8) (hl : s.data.toList = l) (w : World) (hs : s.size ≤ 4194304) :
  Calls Tryz.prog 65 #[.string s] w fun e w' => e = .returned (.bool (Rt.plainB l)) ∧ w' = w := by
 have HSZ : Hid (s.size = l.length) := hid' (by rw [Lib.size_eq, hl]);have HGB : Hid (∀ k (h : k < s.size), l[k]? = some s[k]) := hid' (fun k h => by rw [← hl]; exact Tx.get_byte s k h);have hse : s.toList.isEmpty = l.isEmpty := by rw [Lib.toList_data, hl]
 have HSE := hid' hse;clear hl hse;go_enter Tryz.func65, Tryz.ntmps65;go_wp2;go_loopw [6] (fun s6 wr => ∃ k : Nat, s6 = .int .i64 (k : Int) ∧ k ≤ s.size ∧ Hid (∀ j c, l[j]? = some c → j < k → Rt.vis c = true) ∧ Hid (wr = w)) (fun s6 _ => s.size - (intOf s6).toNat)
 case atStart => exact ⟨0, rfl, Nat.zero_le _, hid' (fun j _ _ h => absurd h (Nat.not_lt_zero _)), hid' rfl⟩
 case round =>
  obtain ⟨k, rfl, hk, HV, HW⟩ := hrel;obtain rfl := HW.out;by_cases hlt : k < s.size
  ·have hlt2 : (k : Int) < (s.size : Int) := by omega
   have HBD : Hid (Rt.vis s[k] = false → Rt.plainB l = false) := hid' (fun h => Rt.plain_bad (HGB.out k hlt) h);have HGO : Hid (Rt.vis s[k] = true → ∀ j c, l[j]? = some c → j < k + 1 → Rt.vis c = true) := hid' (fun h j c hc hj => by
    by_cases hjk : j = k
    ·subst hjk;rw [HGB.out j hlt] at hc;injection hc with hc;rw [← hc]; exact h
    ·exact HV.out j c hc (by omega))
   by_cases a1 : (s[k].toNat : Int) < 33
   ·have HF := hid' (HBD.out (Rt.vis_f (.inl a1)));go_wp2;go_ret;exact ⟨by rw [HF.out]; rfl, rfl⟩
   ·by_cases a2 : (126 : Int) < (s[k].toNat : Int)
    ·have HF := hid' (HBD.out (Rt.vis_f (.inr (.inl a2))));go_wp2;go_ret;exact ⟨by rw [HF.out]; rfl, rfl⟩
    ·cases a3 : ((s[k].toNat : Int) == 123)
     ·cases a4 : ((s[k].toNat : Int) == 125)
      ·have HN := hid' (HGO.out (Rt.vis_t a1 a2 a3 a4));go_wp2;go_roundw
       case rel => exact ⟨k + 1, by go_num, by omega, HN, hid' (by trivial)⟩
       case measure => simp [intOf]; omega
      ·have HF := hid' (HBD.out (Rt.vis_f (.inr (.inr (.inr a4)))));go_wp2;go_ret;exact ⟨by rw [HF.out]; rfl, rfl⟩
     ·have HF := hid' (HBD.out (Rt.vis_f (.inr (.inr (.inl a3)))));go_wp2;go_ret;exact ⟨by rw [HF.out]; rfl, rfl⟩
  ·have hlt2 : ¬ (k : Int) < (s.size : Int) := by omega
   have HE : Hid (Rt.plainB l = !l.isEmpty) := hid' (Rt.plain_all (fun j c hc => HV.out j c hc (by
    have := (List.getElem?_eq_some_iff.1 hc).1;have := HSZ.out;omega)))
   have hse := HSE.out;clear hlt;cases hle : l.isEmpty
   ·rw [hle] at hse HE;go_wp2;go_ret;exact ⟨by rw [HE.out]; rfl, rfl⟩
   ·rw [hle] at hse HE;go_wp2;go_ret;exact ⟨by rw [HE.out]; rfl, rfl⟩

set_option maxRecDepth 20000 in
theorem cname18 (s : ByteArray) (l : List UInt8) (hl : s.data.toList = l) (w : World) (hs : s.size ≤ 4194304) :
  Calls Tryz.prog 67 #[.string s] w fun e w' => e = .returned (.bool (Rt.nameB l)) ∧ Below w.heap.size w w' := by
 have HSZ : Hid (s.size = l.length) := hid' (by rw [Lib.size_eq, hl]);have HGB : Hid (∀ k (h : k < s.size), l[k]? = some s[k]) := hid' (fun k h => by rw [← hl]; exact Tx.get_byte s k h);have hse : s.toList.isEmpty = l.isEmpty := by rw [Lib.toList_data, hl]
 have HSE := hid' hse;clear hl hse;go_enter Tryz.func67, Tryz.ntmps67;go_wp2;go_loopw [8] (fun s8 wr => ∃ k : Nat, s8 = .int .i64 (k : Int) ∧ k ≤ s.size ∧ Hid (∀ j c, l[j]? = some c → j < k → Rt.okAt j c = true) ∧ Hid (Below w.heap.size w wr)) (fun s8 _ => s.size - (intOf s8).toNat)
 case atStart => exact ⟨0, rfl, Nat.zero_le _, hid' (fun j _ _ h => absurd h (Nat.not_lt_zero _)), hid' (Below.refl _ _)⟩
 case round =>
  obtain ⟨k, rfl, hk, HV, HW⟩ := hrel;by_cases hlt : k < s.size
  ·have hlt2 : (k : Int) < (s.size : Int) := by omega
   have HBD : Hid (Rt.okAt k s[k] = false → Rt.nameB l = false) := hid' (fun h => Rt.name_bad (HGB.out k hlt) h);have HGO : Hid (Rt.okAt k s[k] = true → ∀ j c, l[j]? = some c → j < k + 1 → Rt.okAt j c = true) := hid' (fun h j c hc hj => by
    by_cases hjk : j = k
    ·subst hjk;rw [HGB.out j hlt] at hc;injection hc with hc;rw [← hc]; exact h
    ·exact HV.out j c hc (by omega))
   by_cases a1 : (s[k].toNat : Int) < 48
   ·have HF := hid' (HBD.out (by unfold Rt.okAt; rw [Rt.low_f (by omega), Rt.dg_f (by omega), Bool.and_false]; rfl));have b1 : ¬ (97 : Int) ≤ (s[k].toNat : Int) := by omega
    have b2 : ¬ (48 : Int) ≤ (s[k].toNat : Int) := by omega
    clear a1;go_upto_region 4 with fail;go_quiet (fail);go_wp2;go_ret;exact ⟨by rw [HF.out]; rfl, Below.dN18 HW.out _⟩
   ·by_cases a2 : (s[k].toNat : Int) ≤ 57
    ·have b1 : ¬ (97 : Int) ≤ (s[k].toNat : Int) := by omega
     have b2 : (48 : Int) ≤ (s[k].toNat : Int) := by omega
     clear a1;cases k0 : ((k : Int) == 0)
     ·have hk0 : ¬ k = 0 := by have := beq_eq_false_iff_ne.1 k0; omega
      have HN := hid' (HGO.out (by unfold Rt.okAt; rw [Rt.dg_t b2 a2, decide_eq_false hk0]; simp));clear hk0;go_upto_region 4 with fail;go_quiet (fail);go_wp2;go_roundw
      case rel => exact ⟨k + 1, by go_num, by omega, HN, hid' (Below.dN18 HW.out _)⟩
      case measure => simp [intOf]; omega
     ·have hk0 : k = 0 := by have := eq_of_beq k0; omega
      have HF := hid' (HBD.out (by unfold Rt.okAt; rw [Rt.low_f (by omega), decide_eq_true hk0]; rfl));clear hk0;go_upto_region 4 with fail;go_quiet (fail);go_wp2;go_ret;exact ⟨by rw [HF.out]; rfl, Below.dN18 HW.out _⟩
    ·have b2 : (48 : Int) ≤ (s[k].toNat : Int) := by omega
     clear a1;by_cases b1 : (97 : Int) ≤ (s[k].toNat : Int)
     ·by_cases b3 : (s[k].toNat : Int) ≤ 122
      ·have HN := hid' (HGO.out (by unfold Rt.okAt; rw [Rt.low_t b1 b3]; rfl));go_upto_region 4 with fail;go_quiet (fail);go_wp2;go_roundw
       case rel => exact ⟨k + 1, by go_num, by omega, HN, hid' (Below.dN18 HW.out _)⟩
       case measure => simp [intOf]; omega
      ·have HF := hid' (HBD.out (by unfold Rt.okAt; rw [Rt.low_f (by omega), Rt.dg_f (by omega), Bool.and_false]; rfl));go_upto_region 4 with fail;go_quiet (fail);go_wp2;go_ret;exact ⟨by rw [HF.out]; rfl, Below.dN18 HW.out _⟩
     ·have HF := hid' (HBD.out (by unfold Rt.okAt; rw [Rt.low_f (by omega), Rt.dg_f (by omega), Bool.and_false]; rfl));go_upto_region 4 with fail;go_quiet (fail);go_wp2;go_ret;exact ⟨by rw [HF.out]; rfl, Below.dN18 HW.out _⟩
  ·have hlt2 : ¬ (k : Int) < (s.size : Int) := by omega
   have HE : Hid (Rt.nameB l = !l.isEmpty) := hid' (Rt.name_all (fun j c hc => HV.out j c hc (by
    have := (List.getElem?_eq_some_iff.1 hc).1;have := HSZ.out;omega)))
   have hse := HSE.out;clear hlt;cases hle : l.isEmpty
   ·rw [hle] at hse HE;go_wp2;go_ret;exact ⟨by rw [HE.out]; rfl, HW.out⟩
   ·rw [hle] at hse HE;go_wp2;go_ret;exact ⟨by rw [HE.out]; rfl, HW.out⟩


def pU18 (p : Rt.Prt) : Value := if p.k == 0 then .iface 146 (.string ⟨p.t.toArray⟩) else if p.k == 1 then .iface 149 (.agg #[]) else .iface 148 (.agg #[])
def nmU18 (p : Rt.Prt) : List UInt8 := if p.k == 0 then [] else p.t

theorem cutp_yes18 (s z : ByteArray) (c : UInt8) (r : List UInt8) (h : s.data.toList = c :: r) (hz : z.data.toList = r) (w : World) : Calls Tryz.prog 41 #[.string s, .string ⟨#[c]⟩] w fun e w' => e = .returned (.tuple #[.string z, .bool true]) ∧ w' = w := by
 have hp : Lib.hasPrefix s.data.toList (⟨#[c]⟩ : ByteArray).data.toList = true := by rw [h]; simp [Lib.hasPrefix]
 have ht : Lib.trimPrefix s.data.toList (⟨#[c]⟩ : ByteArray).data.toList = r := by unfold Lib.trimPrefix; rw [hp, h]; rfl
 have hzz : (⟨r.toArray⟩ : ByteArray) = z := by rw [← hz]
 refine (Tryz.strings_CutPrefix s ⟨#[c]⟩ w).mono ?_;rintro e w' ⟨rfl, rfl⟩;rw [hp, ht, hzz];exact ⟨rfl, rfl⟩

theorem cutp_no18 (s : ByteArray) (c : UInt8) (h : (s.data.toList.head? == some c) = false) (w : World) : Calls Tryz.prog 41 #[.string s, .string ⟨#[c]⟩] w fun e w' => e = .returned (.tuple #[.string s, .bool false]) ∧ w' = w := by
 have hp : Lib.hasPrefix s.data.toList (⟨#[c]⟩ : ByteArray).data.toList = false := by
  cases hs : s.data.toList with
  | nil => rfl
  | cons a r =>
   rw [hs] at h;simp at h;rw [Bool.eq_false_iff];intro ht;have h2 := List.isPrefixOf_iff_prefix.1 ht;exact h (List.cons_prefix_cons.1 h2).1.symm
 have ht : Lib.trimPrefix s.data.toList (⟨#[c]⟩ : ByteArray).data.toList = s.data.toList := by unfold Lib.trimPrefix; rw [hp]; rfl
 refine (Tryz.strings_CutPrefix s ⟨#[c]⟩ w).mono ?_;rintro e w' ⟨rfl, rfl⟩;rw [hp, ht];exact ⟨rfl, rfl⟩

theorem cuts_yes18 (s t z : ByteArray) (r : List UInt8) (h : s.data.toList = r ++ t.data.toList) (hz : z.data.toList = r) (hs : s.size ≤ 4194304) (w : World) : Calls Tryz.prog 66 #[.string s, .string t] w fun e w' => e = .returned (.tuple #[.string z, .bool true]) ∧ w' = w := by
 have hp : Lib.hasSuffix s.data.toList t.data.toList = true := by rw [h]; exact List.isSuffixOf_iff_suffix.2 (List.suffix_append _ _)
 have ht : Lib.trimSuffix s.data.toList t.data.toList = r := by unfold Lib.trimSuffix; rw [hp, h]; simp
 have hzz : (⟨r.toArray⟩ : ByteArray) = z := by rw [← hz]
 refine (Tryz.strings_CutSuffix s t w (by omega)).mono ?_;rintro e w' ⟨rfl, rfl⟩;rw [hp, ht, hzz];exact ⟨rfl, rfl⟩

theorem cuts_no18 (s t : ByteArray) (h : t.data.toList.isSuffixOf s.data.toList = false) (hs : s.size ≤ 4194304) (w : World) : Calls Tryz.prog 66 #[.string s, .string t] w fun e w' => e = .returned (.tuple #[.string s, .bool false]) ∧ w' = w := by
 have hp : Lib.hasSuffix s.data.toList t.data.toList = false := h;have ht : Lib.trimSuffix s.data.toList t.data.toList = s.data.toList := by unfold Lib.trimSuffix; rw [hp]; rfl
 refine (Tryz.strings_CutSuffix s t w (by omega)).mono ?_;rintro e w' ⟨rfl, rfl⟩;rw [hp, ht];exact ⟨rfl, rfl⟩

theorem cuts_any18 (s t : ByteArray) (hs : s.size ≤ 4194304) (w : World) : Calls Tryz.prog 66 #[.string s, .string t] w fun e w' => (∃ z b, e = .returned (.tuple #[.string z, .bool b])) ∧ w' = w := by
 refine (Tryz.strings_CutSuffix s t w (by omega)).mono ?_;rintro e w' ⟨rfl, rfl⟩;exact ⟨⟨_, _, rfl⟩, rfl⟩
def ppU18 (l : List UInt8) (e : Ending) : Prop := ∃ v nm b, e = .returned (.tuple #[v, .string nm, .bool b]) ∧ b = (Rt.prt l).2 ∧ (b = true → v = pU18 (Rt.prt l).1 ∧ nm = ⟨(nmU18 (Rt.prt l).1).toArray⟩)

set_option maxRecDepth 20000 in
theorem cpart18 (s : ByteArray) (l : List UInt8) (hl : s.data.toList = l) (w : World) (hs : s.size ≤ 4194304) :
  Calls Tryz.prog 43 #[.string s] w fun e w' => ppU18 l e ∧ Below w.heap.size w w' := by
 have hsz : s.size = l.length := by rw [Lib.size_eq, hl]
 have ba : ∀ r : List UInt8, ∃ z : ByteArray, z.data.toList = r := fun r => ⟨⟨r.toArray⟩, by simp⟩
 by_cases h1 : (l.head? == some 123) = true
 ·obtain ⟨r, hr⟩ : ∃ r, l = 123 :: r := by
   cases l with
   | nil => cases h1
   | cons a r => simp at h1; exact ⟨r, by rw [h1]⟩
  obtain ⟨z, hz⟩ := ba r;have hzs : z.size ≤ 4194304 := by rw [Lib.size_eq, hz]; rw [hr] at hsz; simp at hsz; omega
  have HC1 := hid' (fun W => cutp_yes18 s z 123 r (by rw [hl, hr]) hz W);by_cases h2 : (r.getLast? == some 125) = true
  ·obtain ⟨m, hm⟩ : ∃ m, r = m ++ [125] := by
    have := eq_of_beq h2;exact List.getLast?_eq_some_iff.1 this
   obtain ⟨zm, hzm⟩ := ba m;have hzms : zm.size ≤ 4194304 := by rw [Lib.size_eq, hzm]; rw [Lib.size_eq, hz, hm] at hzs; simp at hzs; omega
   have HC2 := hid' (fun W => cuts_yes18 z ⟨#[125]⟩ zm m (by rw [hz, hm]) hzm hzs W);cases h3 : ([46, 46, 46] : List UInt8).isSuffixOf m
   ·have HC3 := hid' (fun W => cuts_no18 zm ⟨#[46, 46, 46]⟩ (by rw [hzm]; exact h3) hzms W);have HC4 := hid' (fun W => cname18 zm m hzm W hzms);have HP : Hid (Rt.prt l = (⟨1, m⟩, Rt.nameB m)) := hid' (by rw [hr, hm]; exact Rt.prt_c2 h3);have HZM : Hid (zm = ⟨m.toArray⟩) := hid' (by rw [← hzm]);clear hl hsz h1 hr hz h2 hm hzm h3;cases h4 : Rt.nameB m
    ·rw [h4] at HC4 HP;go_enter Tryz.func43, Tryz.ntmps43;go_wp2_with fail;refine (HC1.out _).mono ?_;rintro e w1 ⟨rfl, hw1⟩; subst w1;go_wp2_with fail;refine (HC2.out _).mono ?_;rintro e w1 ⟨rfl, hw1⟩; subst w1;go_wp2_with fail;refine (HC3.out _).mono ?_;rintro e w1 ⟨rfl, hw1⟩; subst w1;go_wp2_with fail;refine (HC4.out _).mono ?_;rintro e w1 ⟨rfl, hb1⟩;have HB1 := hid' hb1;clear hb1;go_wp2;go_ret3;exact ⟨⟨_, _, _, rfl, by rw [HP.out], fun h => by cases h⟩, HB1.out⟩
    ·rw [h4] at HC4 HP;go_enter Tryz.func43, Tryz.ntmps43;go_wp2_with fail;refine (HC1.out _).mono ?_;rintro e w1 ⟨rfl, hw1⟩; subst w1;go_wp2_with fail;refine (HC2.out _).mono ?_;rintro e w1 ⟨rfl, hw1⟩; subst w1;go_wp2_with fail;refine (HC3.out _).mono ?_;rintro e w1 ⟨rfl, hw1⟩; subst w1;go_wp2_with fail;refine (HC4.out _).mono ?_;rintro e w1 ⟨rfl, hb1⟩;have HB1 := hid' hb1;clear hb1;go_wp2;go_ret3;exact ⟨⟨_, _, _, rfl, by rw [HP.out], fun _ => by rw [HP.out]; exact ⟨rfl, HZM.out⟩⟩, HB1.out⟩
   ·obtain ⟨n, hn⟩ : ∃ n, n ++ [46, 46, 46] = m := List.isSuffixOf_iff_suffix.1 h3;obtain ⟨zn, hzn⟩ := ba n;have hzns : zn.size ≤ 4194304 := by rw [Lib.size_eq, hzn]; rw [Lib.size_eq, hzm, ← hn] at hzms; simp at hzms; omega
    have HC3 := hid' (fun W => cuts_yes18 zm ⟨#[46, 46, 46]⟩ zn n (by rw [hzm, ← hn]) hzn hzms W);have HC4 := hid' (fun W => cname18 zn n hzn W hzns);have HP : Hid (Rt.prt l = (⟨2, n⟩, Rt.nameB n)) := hid' (by rw [hr, hm, ← hn]; exact Rt.prt_c3);have HZM : Hid (zn = ⟨n.toArray⟩) := hid' (by rw [← hzn]);clear hl hsz h1 hr hz h2 hm hzm h3 hn hzn;cases h4 : Rt.nameB n
    ·rw [h4] at HC4 HP;go_enter Tryz.func43, Tryz.ntmps43;go_wp2_with fail;refine (HC1.out _).mono ?_;rintro e w1 ⟨rfl, hw1⟩; subst w1;go_wp2_with fail;refine (HC2.out _).mono ?_;rintro e w1 ⟨rfl, hw1⟩; subst w1;go_wp2_with fail;refine (HC3.out _).mono ?_;rintro e w1 ⟨rfl, hw1⟩; subst w1;go_wp2_with fail;refine (HC4.out _).mono ?_;rintro e w1 ⟨rfl, hb1⟩;have HB1 := hid' hb1;clear hb1;go_wp2;go_ret3;exact ⟨⟨_, _, _, rfl, by rw [HP.out], fun h => by cases h⟩, HB1.out⟩
    ·rw [h4] at HC4 HP;go_enter Tryz.func43, Tryz.ntmps43;go_wp2_with fail;refine (HC1.out _).mono ?_;rintro e w1 ⟨rfl, hw1⟩; subst w1;go_wp2_with fail;refine (HC2.out _).mono ?_;rintro e w1 ⟨rfl, hw1⟩; subst w1;go_wp2_with fail;refine (HC3.out _).mono ?_;rintro e w1 ⟨rfl, hw1⟩; subst w1;go_wp2_with fail;refine (HC4.out _).mono ?_;rintro e w1 ⟨rfl, hb1⟩;have HB1 := hid' hb1;clear hb1;go_wp2;go_ret3;exact ⟨⟨_, _, _, rfl, by rw [HP.out], fun _ => by rw [HP.out]; exact ⟨rfl, HZM.out⟩⟩, HB1.out⟩
  ·rw [Bool.not_eq_true] at h2;have HC2 := hid' (fun W => cuts_no18 z ⟨#[125]⟩ (by
    rw [hz, Bool.eq_false_iff];intro hc;obtain ⟨m, hm⟩ := List.isSuffixOf_iff_suffix.1 hc;rw [← hm, List.getLast?_append] at h2
    revert h2
    simp) hzs W)
   have HC3 := hid' (fun W => cuts_any18 z ⟨#[46, 46, 46]⟩ hzs W);have HP : Hid ((Rt.prt l).2 = false) := hid' (by rw [hr]; exact Rt.prt_c1 h2);clear hl hsz h1 hr hz h2;go_enter Tryz.func43, Tryz.ntmps43;go_wp2_with fail;refine (HC1.out _).mono ?_;rintro e w1 ⟨rfl, hw1⟩; subst w1;go_wp2_with fail;refine (HC2.out _).mono ?_;rintro e w1 ⟨rfl, hw1⟩; subst w1;go_wp2_with fail;refine (HC3.out _).mono ?_;rintro e w1 ⟨⟨z3, b3, rfl⟩, hw1⟩; subst w1;go_wp2;go_ret3;exact ⟨⟨_, _, _, rfl, by rw [HP.out], fun h => by cases h⟩, Below.refl _ _⟩
 ·rw [Bool.not_eq_true] at h1;have HC1 := hid' (fun W => cutp_no18 s 123 (by rw [hl]; exact h1) W);have HC2 := hid' (fun W => cplain18 s l hl W hs);have HP := hid' (Rt.prt_c0 h1);have HZM : Hid (s = ⟨l.toArray⟩) := hid' (by rw [← hl]);clear hl hsz h1;obtain ⟨b, hb⟩ : ∃ b, Rt.plainB l = b := ⟨_, rfl⟩;have HBB : Hid ((Rt.prt l).2 = b) := hid' (by rw [HP.out.1, ← hb]; rfl);rw [hb] at HC2;clear hb;go_enter Tryz.func43, Tryz.ntmps43;go_wp2_with fail;refine (HC1.out _).mono ?_;rintro e w1 ⟨rfl, hw1⟩; subst w1;go_wp2_with fail;refine (HC2.out _).mono ?_;rintro e w1 ⟨rfl, hw1⟩; subst w1;go_wp2;go_ret3;refine ⟨⟨_, _, _, rfl, HBB.out.symm, fun h => ?_⟩, Below.refl _ _⟩;rw [HP.out.2 (HBB.out.trans h)];exact ⟨by rw [HZM.out]; rfl, rfl⟩


namespace Pt
theorem cutS_none (a : T8) (h : ∀ c ∈ a, c ≠ 47) : cutS [] a = [a] := by
 have := cutS_app a [] [] (fun e => h 47 e rfl);rw [List.append_nil] at this;rw [this]; simp [cutS]
theorem splitK_cutS : ∀ (k : Nat) (s : T8), s.count 47 = k → Lib.splitK [47] 0 k s = cutS [] s
 | 0, s, h => by
  rw [Lib.splitK, cutS_none];intro c hc e;subst e;have := List.count_pos_iff.2 hc;omega
 | k + 1, s, h => by
  rw [Lib.splitK, Lib.index_one];have hge := Lib.indexByte_ge s 47;by_cases h1 : Lib.indexByte s 47 = -1
  ·exfalso;have h2 := Lib.indexByte_none h1;have h3 : 0 < s.count 47 := by omega
   obtain ⟨i, hi⟩ := List.getElem?_of_mem (List.count_pos_iff.1 h3);exact h2 i hi
  ·obtain ⟨o, ho⟩ : ∃ o : Nat, Lib.indexByte s 47 = (o : Int) := ⟨(Lib.indexByte s 47).toNat, by omega⟩;obtain ⟨h2, h3⟩ := Lib.indexByte_some ho;obtain ⟨hl, h4⟩ := List.getElem?_eq_some_iff.1 h2;rw [if_neg (by simpa using h1), ho];have e : s = s.take o ++ 47 :: s.drop (o + 1) := by
    conv => lhs; rw [← List.take_append_drop o s, List.drop_eq_getElem_cons hl, h4]
   have h5 : 47 ∉ s.take o := by
    intro hc;obtain ⟨i, hi⟩ := List.getElem?_of_mem hc;have hio : i < o := by have := (List.getElem?_eq_some_iff.1 hi).1; rw [List.length_take] at this; omega
    rw [List.getElem?_take, if_pos hio] at hi;exact h3 i hio hi
   have h6 : (s.drop (o + 1)).count 47 = k := by
    have h7 : (s.take o).count 47 = 0 := List.count_eq_zero.2 h5;rw [e, List.count_append, h7, List.count_cons] at h;simp at h;omega
   have h8 : cutS [] s = s.take o :: cutS [] (s.drop (o + 1)) := by
    conv => lhs; rw [e]
    rw [cutS_app _ _ _ h5, cutS, if_pos (by decide)];simp
   rw [h8];simp only [Int.toNat_natCast, Nat.add_zero, List.length_cons, List.length_nil, Nat.zero_add];rw [splitK_cutS k _ h6]
theorem join_lib : ∀ k : List T8, Lib.join k [47] = join k
 | [] => rfl
 | [p] => by rw [Lib.join_one]; rfl
 | p :: q :: r => by
  rw [Lib.join_cons, join, ← join_lib (q :: r), Lib.join_cons];simp [Lib.joinTail]
theorem preI_none {l : T8} (h : Lib.indexByte l 63 = -1) : pre l = l ∧ qry l = [] := by
 have h1 : ∀ x ∈ l, (!(x == 63)) = true := by
  intro x hx;obtain ⟨k, hk⟩ := List.getElem?_of_mem hx;have := Lib.indexByte_none h k;rw [hk] at this;simp;rintro rfl;exact this rfl
 have h2 : pre l = l := by
  unfold pre;have := List.takeWhile_append_of_pos (l₂ := []) h1;simpa using this
 refine ⟨h2, ?_⟩;unfold qry;rw [h2];exact List.drop_eq_nil_of_le (by omega)
theorem preI_some {l : T8} {o : Nat} (h : Lib.indexByte l 63 = (o : Int)) : pre l = l.take o ∧ qry l = l.drop (o + 1) ∧ o < l.length := by
 obtain ⟨h1, h2⟩ := Lib.indexByte_some h;obtain ⟨hl, h3⟩ := List.getElem?_eq_some_iff.1 h1;have e : l = l.take o ++ 63 :: l.drop (o + 1) := by
  conv => lhs; rw [← List.take_append_drop o l, List.drop_eq_getElem_cons hl, h3]
 have h4 : ∀ x ∈ l.take o, (!(x == 63)) = true := by
  intro x hx;obtain ⟨k, hk⟩ := List.getElem?_of_mem hx;have hko : k < o := by have := (List.getElem?_eq_some_iff.1 hk).1; rw [List.length_take] at this; omega
  rw [List.getElem?_take, if_pos hko] at hk;have := h2 k hko;rw [hk] at this;simp;rintro rfl;exact this rfl
 have h5 : pre l = l.take o := by
  unfold pre
  conv => lhs; rw [e]
  rw [List.takeWhile_append_of_pos h4, List.takeWhile_cons];simp
 refine ⟨h5, ?_, hl⟩;unfold qry;rw [h5, List.length_take, Nat.min_eq_left (by omega)]
end Pt

theorem info17s : (Tryz.prog.info? 9).map (fun i => (i.zero, i.size, i.bytes)) = some (some (.string ByteArray.empty), 1, 16) := by kernel_rfl
theorem indexB_slash17 (x : ByteArray) : Lib.indexB x ⟨#[47]⟩ = Lib.indexByte x.data.toList 47 := Lib.index_one _ _
theorem countB_slash17 (x : ByteArray) : Lib.countB x ⟨#[47]⟩ = x.data.toList.count 47 := Lib.count_one _ _

theorem split17 (s : ByteArray) (l : List UInt8) (hl : s.data.toList = l) (w : World) (hs : s.size ≤ 4194304) : Calls Tryz.prog 42 #[.string s, .string ⟨#[47]⟩] w fun e w' => (∃ n g, e = .returned (.slice (some ⟨g, 0, none⟩) n n) ∧ (Pt.cutS [] l).length = n ∧ SR17 w' (some ⟨g, 0, none⟩) (Pt.cutS [] l)) ∧ Below w.heap.size w w' := by
 have hle := Lib.countB_le ⟨#[47]⟩ (by decide) s.size s (Nat.le_refl _);have hlen := Lib.splitB_all ⟨#[47]⟩ (by decide) 0 _ s rfl;have c := Any.strings_genSplit_core Tryz.lays221 info17s s ⟨#[47]⟩ 0 (-1) (Lib.countB s ⟨#[47]⟩ + 1) w (by omega) (by decide) (Nat.zero_le _)
  (fun x cs _ => by rw [indexB_slash17]; exact Tryz.strings_Index_one x 47 _)
  (by rw [countB_slash17]; exact Tryz.strings_Count_one s 47 w) (by decide) (by decide) (by rw [if_pos (by decide)]; omega)
 rw [Nat.add_sub_cancel, hlen] at c;have e2 : Lib.cellsOf (Lib.splitB ⟨#[47]⟩ 0 (Lib.countB s ⟨#[47]⟩) s) (Lib.countB s ⟨#[47]⟩ + 1) = ((Lib.splitB ⟨#[47]⟩ 0 (Lib.countB s ⟨#[47]⟩) s).map Value.string).toArray := by rw [← hlen]; exact Lib.cellsOf_full _
 rw [e2] at c;have hd := Lib.splitB_data ⟨#[47]⟩ 0 (Lib.countB s ⟨#[47]⟩) s;rw [Pt.splitK_cutS _ _ (countB_slash17 s).symm, hl] at hd;obtain ⟨ps, hps⟩ : ∃ ps, Lib.splitB ⟨#[47]⟩ 0 (Lib.countB s ⟨#[47]⟩) s = ps := ⟨_, rfl⟩;rw [hps] at c hd hlen;rw [← hlen] at c;have HSR : Hid (SR17 (w.alloc (.cells (ps.map Value.string).toArray 9)) (some ⟨w.heap.size, 0, none⟩) (Pt.cutS [] l)) := hid' (fun i p hp => by
  refine ⟨w.heap.size, rfl, by simp, ?_⟩;rw [← hd, List.getElem?_map] at hp;obtain ⟨q, hq, rfl⟩ := Option.map_eq_some_iff.1 hp;have hA : Ar (w.alloc (.cells (ps.map Value.string).toArray 9)) w.heap.size 9 (ps.map Value.string).toArray := heap_alloc_last w _;exact hA.cell i _ (by simp [hq]))
 have HD : Hid ((Pt.cutS [] l).length = ps.length) := hid' (by rw [← hd, List.length_map]);have C : Hid (Calls Tryz.prog 64 #[.string s, .string ⟨#[47]⟩, .int .i64 0, .int .i64 (-1)] w fun e w' => e = .returned (.slice (some ⟨w.heap.size, 0, none⟩) ps.length ps.length) ∧ w' = w.alloc (.cells (ps.map Value.string).toArray 9)) := hid' c;clear c hd e2 hlen hps hle hl;go_enter Tryz.func42, Tryz.ntmps42;go_wp2_with fail;refine C.out.mono ?_;rintro e w1 ⟨rfl, hw⟩;have HW := hid' hw;clear hw;go_wp2;go_ret;exact ⟨⟨ps.length, w.heap.size, rfl, HD.out, by rw [HW.out]; exact HSR.out⟩, by rw [HW.out]; exact bl_alloc17 w _⟩

theorem cjoin17 (ao : Option Addr) (n cap : Nat) (k : List (List UInt8)) (hn : k.length = n) (hc : n ≤ cap) (w : World) (h : SR17 w ao k) (hsz : (k.map List.length).sum + k.length ≤ 16777216) :
  Calls Tryz.prog 79 #[.slice ao n cap, .string ⟨#[47]⟩] w fun e w' => e = .returned (.string ⟨(Pt.join k).toArray⟩) ∧ Below w.heap.size w w' := by
 cases k with
 | nil =>
  obtain rfl : 0 = n := hn;refine (Tryz.strings_Join_none ao cap ⟨#[47]⟩ w).mono ?_;rintro e w' ⟨rfl, rfl⟩;exact ⟨rfl, Below.refl _ _⟩
 | cons p r =>
  obtain ⟨g, rfl, hg, _⟩ := h 0 p rfl;obtain ⟨xs, hxs⟩ : ∃ xs : List ByteArray, xs = (p :: r).map (fun x => (⟨x.toArray⟩ : ByteArray)) := ⟨_, rfl⟩;have e1 : xs.map (·.data.toList) = p :: r := by rw [hxs, List.map_map]; simp [Function.comp_def]
  have e2 : xs.length = n := by rw [hxs, List.length_map]; exact hn
  have hj := Pt.join_len (p :: r);have c := Tryz.strings_Join g 0 cap xs ⟨#[47]⟩ w (fun j x hx => by
   rw [hxs, List.getElem?_map] at hx;obtain ⟨q, hq, rfl⟩ := Option.map_eq_some_iff.1 hx;obtain ⟨g', hg', _, h2⟩ := h j q hq;injection hg' with hg';injection hg' with hg';subst hg';rw [Nat.zero_add];exact h2) hg (by rw [e2, ← hn]; omega) (by rw [e2]; exact hc) (by
    rw [e1, show (⟨#[47]⟩ : ByteArray).data.toList = [47] from rfl, Pt.join_lib]; omega)
  rw [e1, e2, show (⟨#[47]⟩ : ByteArray).data.toList = [47] from rfl, Pt.join_lib] at c;exact c

theorem scut17 (s : ByteArray) (l : List UInt8) (hl : s.data.toList = l) (w : World) (hs : s.size ≤ 4194304) :
  Calls Tryz.prog 74 #[.string s, .string ⟨#[63]⟩] w fun e w' => (∃ y, e = .returned (.tuple #[.string ⟨(Pt.pre l).toArray⟩, .string ⟨(Pt.qry l).toArray⟩, .bool y])) ∧ Below w.heap.size w w' := by
 subst hl;have hge := Lib.indexByte_ge s.data.toList 63;by_cases h1 : Lib.indexByte s.data.toList 63 = -1
 ·have HE := hid' (Pt.preI_none h1);go_enter Tryz.func74, Tryz.ntmps74;go_wp2_with fail;refine (Tryz.stringslite_Index_one s 63 _).mono ?_;rintro e w1 ⟨rfl, rfl⟩;rw [h1];clear hge h1;go_wp2;go_ret3;exact ⟨⟨false, by rw [HE.out.1, HE.out.2]; rfl⟩, Below.refl _ _⟩
 ·obtain ⟨o, ho⟩ : ∃ o : Nat, Lib.indexByte s.data.toList 63 = (o : Int) := ⟨(Lib.indexByte s.data.toList 63).toNat, by omega⟩;obtain ⟨he, he2, hlt⟩ := Pt.preI_some ho;have HE : Hid ((⟨(Pt.pre s.data.toList).toArray⟩ : ByteArray) = s.extract 0 o) := hid' (by rw [he, ext_td17]; simp);have HE2 : Hid ((⟨(Pt.qry s.data.toList).toArray⟩ : ByteArray) = s.extract (o + 1) s.size) := hid' (by
   rw [he2, ext_td17, List.take_of_length_le (by rw [List.length_drop, Lib.size_eq]; omega)])
  have hlt2 : o < s.size := by rw [Lib.size_eq]; exact hlt
  have hlt3 : (o : Int) < (s.size : Int) := by omega
  have hle : (o : Int) ≤ (s.size : Int) := by omega
  have hle1 : (o : Int) + 1 ≤ (s.size : Int) := by omega
  have ho0 : (0 : Int) ≤ (o : Int) := by omega
  have hle2 : o ≤ s.size := by omega
  have hle3 : o + 1 ≤ s.size := by omega
  clear hge h1 he he2 hlt;go_enter Tryz.func74, Tryz.ntmps74;go_wp2_with fail;refine (Tryz.stringslite_Index_one s 63 _).mono ?_;rintro e w1 ⟨rfl, rfl⟩;rw [ho];clear ho;go_wp2;go_quiet (fail);go_wp2;go_ret3;exact ⟨⟨true, by rw [HE.out, HE2.out]; rfl⟩, below_drewN _ _⟩

theorem ccut17 (s : ByteArray) (l : List UInt8) (hl : s.data.toList = l) (w : World) (hs : s.size ≤ 4194304) :
  Calls Tryz.prog 50 #[.string s, .string ⟨#[63]⟩] w fun e w' => (∃ y, e = .returned (.tuple #[.string ⟨(Pt.pre l).toArray⟩, .string ⟨(Pt.qry l).toArray⟩, .bool y])) ∧ Below w.heap.size w w' := by
 have HC := hid' (scut17 s l hl w hs);clear hl;go_enter Tryz.func50, Tryz.ntmps50;go_wp2_with fail;refine HC.out.mono ?_;rintro e w1 ⟨⟨y, rfl⟩, hb⟩;have HB := hid' hb;clear hb;go_wp2;go_ret3;exact ⟨⟨y, rfl⟩, HB.out⟩

set_option maxRecDepth 20000 in
theorem xparts17 (s : ByteArray) (l : List UInt8) (hl : s.data.toList = l) (w : World) (hs : s.size ≤ 4194304) :
  Calls Tryz.prog 80 #[.string s] w fun e w' => (∃ m ro rc, e = .returned (.slice ro m rc) ∧ (Pt.parts l).length = m ∧ w'.ownsRow w.heap.size 9 1 (.slice ro m rc) m (sC17 (Pt.parts l))) ∧ Below w.heap.size w w' := by
 obtain ⟨i0, hi0, hz0, hz1, hz2⟩ := minfo17 infoS17;have HI := hid' hi0;have HZ0 := hid' hz0;have HZ1 := hid' hz1;have HZ2 := hid' hz2;clear hi0 hz0 hz1 hz2;have HCU := hid' (split17 s l hl w hs);have HPD : Hid (Pt.parts l = (Pt.cutS [] l).filter (fun p => !p.isEmpty)) := hid' rfl;have hpl : (Pt.cutS [] l).length ≤ 4194305 := by have := Pt.cutS_len l; rw [← hl, ← Lib.size_eq] at this; rw [← hl]; omega
 obtain ⟨ps, hps⟩ : ∃ ps, Pt.cutS [] l = ps := ⟨_, rfl⟩;rw [hps] at HCU HPD hpl;clear hl hps;go_enter Tryz.func80, Tryz.ntmps80;go_wp2_with fail;refine HCU.out.mono ?_;rintro e w1 ⟨⟨m, sg, rfl, hm, hsr⟩, hb1⟩;have HM := hid' hm;have HSR := hid' hsr;have HB1 := hid' hb1;rw [hm] at hpl;clear hm hsr hb1 HCU;go_wp2;go_loopw [3, 9] (fun s3 s9 wr => ∃ (k c : Nat) (ro : Option Addr) (rc : Nat), s9 = .int .i64 (k : Int) ∧ s3 = .slice ro c rc ∧ k ≤ m ∧ c ≤ k ∧ Hid (((ps.take k).filter (fun p => !p.isEmpty)).length = c) ∧ Hid (wr.ownsRow w1.heap.size 9 1 (.slice ro c rc) c (sC17 ((ps.take k).filter (fun p => !p.isEmpty)))) ∧ Hid (Below w1.heap.size w1 wr)) (fun _ s9 _ => m - (intOf s9).toNat)
 case atStart => exact ⟨0, 0, none, 0, rfl, rfl, Nat.zero_le _, Nat.le_refl _, hid' rfl, hid' (World.ownsRow_nil _ _ _ _), hid' (Below.refl _ _)⟩
 case round =>
  obtain ⟨k, c, ro, rc, rfl, rfl, hk, hck, HCL, HO, HB⟩ := hrel;by_cases hlt : k < m
  ·have hlt2 : (k : Int) < (m : Int) := by omega
   obtain ⟨p, hp⟩ : ∃ p, ps[k]? = some p := ⟨_, List.getElem?_eq_getElem (by rw [HM.out]; exact hlt)⟩;obtain ⟨g, hgg, _, y0⟩ := (HSR.out.below HB.out) k p hp;obtain rfl : sg = g := by injection hgg with h; injection h
   have HFT : Hid ((ps.take (k + 1)).filter (fun p => !p.isEmpty) = (ps.take k).filter (fun p => !p.isEmpty) ++ (if !p.isEmpty then [p] else [])) := hid' (by rw [List.take_add_one, hp, List.filter_append]; congr 1; simp [List.filter_cons]);obtain ⟨y, hy⟩ : ∃ y : ByteArray, (⟨p.toArray⟩ : ByteArray) = y := ⟨_, rfl⟩;have hye : y.toList.isEmpty = p.isEmpty := by rw [← hy, Lib.toList_data]
   have HYS : Hid (sC17 [p] = [.string y]) := hid' (by unfold sC17; rw [← hy]; rfl);rw [hy] at y0;clear hp hy hgg;cases pe : p.isEmpty
   ·rw [pe] at hye HFT;have HF2 : Hid ((ps.take (k + 1)).filter (fun p => !p.isEmpty) = (ps.take k).filter (fun p => !p.isEmpty) ++ [p]) := hid' HFT.out;have HA : Hid ((wr.alloc (.cells #[.string y] 9)).ownsRow w1.heap.size 9 1 (.slice ro c rc) c (sC17 ((ps.take k).filter (fun p => !p.isEmpty)))) := hid' (HO.out.alloc _);go_wp2_with (at_builtin; refine wpList_append_own_at _ rfl _ _ 76 rfl w1.heap.size 9 i0 (.string ⟨#[]⟩) 1 16 Tryz.underlying76 HI.out HZ0.out HZ1.out HZ2.out rfl (by decide) (.slice ro c rc) c (sC17 ((ps.take k).filter (fun p => !p.isEmpty))) rfl HA.out ⟨wr.heap.size, 0, none⟩ 1 1 [.string y] rfl rfl (one_cell17 _ _ _) (by simp [Value.oneCell']) (by unfold maxLen; omega) (by omega) (by simp; have := HB.out.size; omega) ?_; intro v3 w3 hown3 hgrow3 _ _; refine Hid.out ?_);refine hid' ?_;have e : sC17 ((ps.take k).filter (fun p => !p.isEmpty)) ++ [Value.string y] = sC17 ((ps.take (k + 1)).filter (fun p => !p.isEmpty)) := by rw [HF2.out, sC17_app, HYS.out]
    rw [e] at hown3;obtain ⟨v3o, v3c, hv3⟩ := own_shape17 hown3;subst hv3;have HO3 := hid' hown3;have HB3 : Hid (Below w1.heap.size w1 w3) := hid' ((HB.out.alloc HB.out.size _).grown hgrow3 (by simp; have := HB.out.size; omega) (fun k hk => (HA.out.lt k hk).1));clear hown3 hgrow3 e;go_wp2;go_roundw
    case rel => exact ⟨k + 1, c + 1, v3o, v3c, by go_num, rfl, by omega, by omega, hid' (by rw [HF2.out, List.length_append, HCL.out]; rfl), HO3, HB3⟩
    case measure => simp [intOf]; omega
   ·rw [pe] at hye HFT;have HF2 : Hid ((ps.take (k + 1)).filter (fun p => !p.isEmpty) = (ps.take k).filter (fun p => !p.isEmpty)) := hid' (by rw [HFT.out]; simp);go_wp2;go_roundw
    case rel => exact ⟨k + 1, c, ro, rc, by go_num, rfl, by omega, by omega, hid' (by rw [HF2.out]; exact HCL.out), hid' (by rw [HF2.out]; exact HO.out), HB⟩
    case measure => simp [intOf]; omega
  ·have hlt2 : ¬ (k : Int) < (m : Int) := by omega
   have HTk : Hid (ps.take k = ps) := hid' (List.take_of_length_le (by rw [HM.out]; omega));rw [HTk.out, ← HPD.out] at HCL HO;clear hlt;go_wp2;go_ret;exact ⟨⟨c, ro, rc, rfl, HCL.out, own_base17 HO.out HB1.out.size⟩, below_two HB1.out HB.out⟩

end Go.Proofs.YthhpejgpfaikaabGreatDoor
