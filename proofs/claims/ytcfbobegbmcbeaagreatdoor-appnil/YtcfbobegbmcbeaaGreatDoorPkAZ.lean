/-
  The document's name, alike and Shape: by their contracts.
-/
import Derived.Deep.RegionHeld3
import Derived.Test.YtcfbobegbmcbeaaGreatDoorPkAQ
import Derived.BigQuiet
import Derived.Test.YtcfbobegbmcbeaaGreatDoorPkAY
import Derived.Test.YtcfbobegbmcbeaaGreatDoorShelfS
namespace Go.Proofs.YtcfbobegbmcbeaaGreatDoor
open Go.RowKit

namespace Rt
def okAt (k : Nat) (c : UInt8) : Bool := isLow c || (!decide (k = 0) && isDg c)
theorem name_bad {l : T8} {k : Nat} {c : UInt8} (h : l[k]? = some c) (hc : okAt k c = false) : nameB l = false := by
 cases l with
 | nil => simp at h
 | cons a r =>
  unfold okAt at hc
  rw [Bool.or_eq_false_iff] at hc
  rw [nameB]
  cases k with
  | zero => simp at h; subst h; rw [hc.1]; rfl
  | succ k =>
   have hm : c ∈ r := List.mem_of_getElem? (by simpa using h)
   have h2 := hc.2
   rw [show decide (k + 1 = 0) = false by simp, Bool.not_false, Bool.true_and] at h2
   have : r.all (fun d => isLow d || isDg d) = false := by
    rw [Bool.eq_false_iff]
    intro ht
    have := List.all_eq_true.1 ht c hm
    rw [hc.1, h2] at this; cases this
   rw [this, Bool.and_false]
theorem name_all {l : T8} (h : ∀ k c, l[k]? = some c → okAt k c = true) : nameB l = !l.isEmpty := by
 cases l with
 | nil => rfl
 | cons a r =>
  rw [nameB]
  have h0 : isLow a = true := by
   have := h 0 a rfl
   unfold okAt at this
   simpa using this
  have h1 : r.all (fun d => isLow d || isDg d) = true := by
   rw [List.all_eq_true]
   intro d hd
   obtain ⟨k, hk, hkd⟩ := List.mem_iff_getElem.1 hd
   have := h (k + 1) d (by rw [List.getElem?_cons_succ, List.getElem?_eq_getElem hk, hkd])
   unfold okAt at this
   simpa using this
  rw [h0, h1]; rfl
theorem low_t {c : UInt8} (h1 : (97 : Int) ≤ (c.toNat : Int)) (h2 : (c.toNat : Int) ≤ 122) : isLow c = true := by
 unfold isLow; rw [decide_eq_true (show 97 ≤ c.toNat by omega), decide_eq_true (show c.toNat ≤ 122 by omega)]; rfl
theorem low_f {c : UInt8} (h : ¬ ((97 : Int) ≤ (c.toNat : Int) ∧ (c.toNat : Int) ≤ 122)) : isLow c = false := by
 unfold isLow
 cases hq : (decide (97 ≤ c.toNat) && decide (c.toNat ≤ 122))
 ·rfl
 ·rw [Bool.and_eq_true, decide_eq_true_iff, decide_eq_true_iff] at hq
  exact absurd ⟨by omega, by omega⟩ h
theorem dg_f {c : UInt8} (h : ¬ ((48 : Int) ≤ (c.toNat : Int) ∧ (c.toNat : Int) ≤ 57)) : isDg c = false := by
 unfold isDg
 cases hq : (decide (48 ≤ c.toNat) && decide (c.toNat ≤ 57))
 ·rfl
 ·rw [Bool.and_eq_true, decide_eq_true_iff, decide_eq_true_iff] at hq
  exact absurd ⟨by omega, by omega⟩ h
theorem dg_t {c : UInt8} (h1 : (48 : Int) ≤ (c.toNat : Int)) (h2 : (c.toNat : Int) ≤ 57) : isDg c = true := by
 unfold isDg; rw [decide_eq_true (show 48 ≤ c.toNat by omega), decide_eq_true (show c.toNat ≤ 57 by omega)]; rfl
end Rt

open Go.RowKit

namespace Rt
theorem vis_f {c : UInt8} (h : (c.toNat : Int) < 33 ∨ (126 : Int) < (c.toNat : Int) ∨ ((c.toNat : Int) == 123) = true ∨ ((c.toNat : Int) == 125) = true) : vis c = false := by
 unfold vis
 rcases h with h | h | h | h
 ·rw [decide_eq_true (show c.toNat < 33 by omega)]; rfl
 ·rw [decide_eq_true (show 126 < c.toNat by omega)]; simp
 ·have : c = 123 := UInt8.toNat_inj.1 (by have := eq_of_beq h; simp; omega)
  rw [this]; rfl
 ·have : c = 125 := UInt8.toNat_inj.1 (by have := eq_of_beq h; simp; omega)
  rw [this]; rfl
theorem vis_t {c : UInt8} (h1 : ¬ (c.toNat : Int) < 33) (h2 : ¬ (126 : Int) < (c.toNat : Int)) (h3 : ((c.toNat : Int) == 123) = false) (h4 : ((c.toNat : Int) == 125) = false) : vis c = true := by
 unfold vis
 have e3 : (c == 123) = false := beq_false_of_ne (fun e => by rw [e] at h3; revert h3; decide)
 have e4 : (c == 125) = false := beq_false_of_ne (fun e => by rw [e] at h4; revert h4; decide)
 rw [decide_eq_false (show ¬ c.toNat < 33 by omega), decide_eq_false (show ¬ 126 < c.toNat by omega), e3, e4]; rfl
def plainB (l : T8) : Bool := l.all vis && !l.isEmpty
theorem plain_bad {l : T8} {k : Nat} {c : UInt8} (h : l[k]? = some c) (hc : vis c = false) : plainB l = false := by
 unfold plainB
 have : l.all vis = false := by
  rw [Bool.eq_false_iff]
  intro ht
  have := List.all_eq_true.1 ht c (List.mem_of_getElem? h)
  rw [hc] at this; cases this
 rw [this]; rfl
theorem plain_all {l : T8} (h : ∀ (k : Nat) (c : UInt8), l[k]? = some c → vis c = true) : plainB l = !l.isEmpty := by
 unfold plainB
 have : l.all vis = true := by
  rw [List.all_eq_true]
  intro d hd
  obtain ⟨k, hk, hkd⟩ := List.mem_iff_getElem.1 hd
  exact h k d (by rw [List.getElem?_eq_getElem hk, hkd])
 rw [this]; rfl
end Rt
theorem Below.dN18 {B : Nat} {w w' : World} (h : Below B w w') (n : Nat) : Below B w (w'.drewN n) := ⟨h.os, h.tape, h.output, h.size, h.block⟩

set_option maxHeartbeats 2000000 in
set_option maxRecDepth 20000 in
theorem cplain18 (s : ByteArray) (l : List UInt8) (hl : s.data.toList = l) (w : World) (hs : s.size ≤ 4194304) :
  Calls Tryz.prog 67 #[.string s] w fun e w' => e = .returned (.bool (Rt.plainB l)) ∧ w' = w := by
 have HSZ : Hid (s.size = l.length) := hid' (by rw [Lib.size_eq, hl])
 have HGB : Hid (∀ k (h : k < s.size), l[k]? = some s[k]) := hid' (fun k h => by rw [← hl]; exact Tx.get_byte s k h)
 have hse : s.toList.isEmpty = l.isEmpty := by rw [Lib.toList_data, hl]
 have HSE := hid' hse
 clear hl hse
 go_enter Tryz.func67, Tryz.ntmps67
 go_wp2
 go_loopw [6] (fun s6 wr => ∃ k : Nat, s6 = .int .i64 (k : Int) ∧ k ≤ s.size ∧ Hid (∀ j c, l[j]? = some c → j < k → Rt.vis c = true) ∧ Hid (wr = w)) (fun s6 _ => s.size - (intOf s6).toNat)
 case atStart => exact ⟨0, rfl, Nat.zero_le _, hid' (fun j _ _ h => absurd h (Nat.not_lt_zero _)), hid' rfl⟩
 case round =>
  obtain ⟨k, rfl, hk, HV, HW⟩ := hrel
  obtain rfl := HW.out
  by_cases hlt : k < s.size
  ·have hlt2 : (k : Int) < (s.size : Int) := by omega
   have HBD : Hid (Rt.vis s[k] = false → Rt.plainB l = false) := hid' (fun h => Rt.plain_bad (HGB.out k hlt) h)
   have HGO : Hid (Rt.vis s[k] = true → ∀ j c, l[j]? = some c → j < k + 1 → Rt.vis c = true) := hid' (fun h j c hc hj => by
    by_cases hjk : j = k
    ·subst hjk
     rw [HGB.out j hlt] at hc
     injection hc with hc
     rw [← hc]; exact h
    ·exact HV.out j c hc (by omega))
   by_cases a1 : (s[k].toNat : Int) < 33
   ·have HF := hid' (HBD.out (Rt.vis_f (.inl a1)))
    go_wp2
    go_ret
    exact ⟨by rw [HF.out]; rfl, rfl⟩
   ·by_cases a2 : (126 : Int) < (s[k].toNat : Int)
    ·have HF := hid' (HBD.out (Rt.vis_f (.inr (.inl a2))))
     go_wp2
     go_ret
     exact ⟨by rw [HF.out]; rfl, rfl⟩
    ·cases a3 : ((s[k].toNat : Int) == 123)
     ·cases a4 : ((s[k].toNat : Int) == 125)
      ·have HN := hid' (HGO.out (Rt.vis_t a1 a2 a3 a4))
       go_wp2
       go_roundw
       case rel => exact ⟨k + 1, by go_num, by omega, HN, hid' (by trivial)⟩
       case measure => simp [intOf]; omega
      ·have HF := hid' (HBD.out (Rt.vis_f (.inr (.inr (.inr a4)))))
       go_wp2
       go_ret
       exact ⟨by rw [HF.out]; rfl, rfl⟩
     ·have HF := hid' (HBD.out (Rt.vis_f (.inr (.inr (.inl a3)))))
      go_wp2
      go_ret
      exact ⟨by rw [HF.out]; rfl, rfl⟩
  ·have hlt2 : ¬ (k : Int) < (s.size : Int) := by omega
   have HE : Hid (Rt.plainB l = !l.isEmpty) := hid' (Rt.plain_all (fun j c hc => HV.out j c hc (by
    have := (List.getElem?_eq_some_iff.1 hc).1
    have := HSZ.out
    omega)))
   have hse := HSE.out
   clear hlt
   cases hle : l.isEmpty
   ·rw [hle] at hse HE
    go_wp2
    go_ret
    exact ⟨by rw [HE.out]; rfl, rfl⟩
   ·rw [hle] at hse HE
    go_wp2
    go_ret
    exact ⟨by rw [HE.out]; rfl, rfl⟩

set_option maxHeartbeats 4000000 in
set_option maxRecDepth 20000 in
theorem cname18 (s : ByteArray) (l : List UInt8) (hl : s.data.toList = l) (w : World) (hs : s.size ≤ 4194304) :
  Calls Tryz.prog 69 #[.string s] w fun e w' => e = .returned (.bool (Rt.nameB l)) ∧ Below w.heap.size w w' := by
 have HSZ : Hid (s.size = l.length) := hid' (by rw [Lib.size_eq, hl])
 have HGB : Hid (∀ k (h : k < s.size), l[k]? = some s[k]) := hid' (fun k h => by rw [← hl]; exact Tx.get_byte s k h)
 have hse : s.toList.isEmpty = l.isEmpty := by rw [Lib.toList_data, hl]
 have HSE := hid' hse
 clear hl hse
 go_enter Tryz.func69, Tryz.ntmps69
 go_wp2
 go_loopw [8] (fun s8 wr => ∃ k : Nat, s8 = .int .i64 (k : Int) ∧ k ≤ s.size ∧ Hid (∀ j c, l[j]? = some c → j < k → Rt.okAt j c = true) ∧ Hid (Below w.heap.size w wr)) (fun s8 _ => s.size - (intOf s8).toNat)
 case atStart => exact ⟨0, rfl, Nat.zero_le _, hid' (fun j _ _ h => absurd h (Nat.not_lt_zero _)), hid' (Below.refl _ _)⟩
 case round =>
  obtain ⟨k, rfl, hk, HV, HW⟩ := hrel
  by_cases hlt : k < s.size
  ·have hlt2 : (k : Int) < (s.size : Int) := by omega
   have HBD : Hid (Rt.okAt k s[k] = false → Rt.nameB l = false) := hid' (fun h => Rt.name_bad (HGB.out k hlt) h)
   have HGO : Hid (Rt.okAt k s[k] = true → ∀ j c, l[j]? = some c → j < k + 1 → Rt.okAt j c = true) := hid' (fun h j c hc hj => by
    by_cases hjk : j = k
    ·subst hjk
     rw [HGB.out j hlt] at hc
     injection hc with hc
     rw [← hc]; exact h
    ·exact HV.out j c hc (by omega))
   by_cases a1 : (s[k].toNat : Int) < 48
   ·have HF := hid' (HBD.out (by unfold Rt.okAt; rw [Rt.low_f (by omega), Rt.dg_f (by omega), Bool.and_false]; rfl))
    have b1 : ¬ (97 : Int) ≤ (s[k].toNat : Int) := by omega
    have b2 : ¬ (48 : Int) ≤ (s[k].toNat : Int) := by omega
    clear a1
    go_upto_region 4 with fail
    go_quiet (fail)
    go_wp2
    go_ret
    exact ⟨by rw [HF.out]; rfl, Below.dN18 HW.out _⟩
   ·by_cases a2 : (s[k].toNat : Int) ≤ 57
    ·have b1 : ¬ (97 : Int) ≤ (s[k].toNat : Int) := by omega
     have b2 : (48 : Int) ≤ (s[k].toNat : Int) := by omega
     clear a1
     cases k0 : ((k : Int) == 0)
     ·have hk0 : ¬ k = 0 := by have := beq_eq_false_iff_ne.1 k0; omega
      have HN := hid' (HGO.out (by unfold Rt.okAt; rw [Rt.dg_t b2 a2, decide_eq_false hk0]; simp))
      clear hk0
      go_upto_region 4 with fail
      go_quiet (fail)
      go_wp2
      go_roundw
      case rel => exact ⟨k + 1, by go_num, by omega, HN, hid' (Below.dN18 HW.out _)⟩
      case measure => simp [intOf]; omega
     ·have hk0 : k = 0 := by have := eq_of_beq k0; omega
      have HF := hid' (HBD.out (by unfold Rt.okAt; rw [Rt.low_f (by omega), decide_eq_true hk0]; rfl))
      clear hk0
      go_upto_region 4 with fail
      go_quiet (fail)
      go_wp2
      go_ret
      exact ⟨by rw [HF.out]; rfl, Below.dN18 HW.out _⟩
    ·have b2 : (48 : Int) ≤ (s[k].toNat : Int) := by omega
     clear a1
     by_cases b1 : (97 : Int) ≤ (s[k].toNat : Int)
     ·by_cases b3 : (s[k].toNat : Int) ≤ 122
      ·have HN := hid' (HGO.out (by unfold Rt.okAt; rw [Rt.low_t b1 b3]; rfl))
       go_upto_region 4 with fail
       go_quiet (fail)
       go_wp2
       go_roundw
       case rel => exact ⟨k + 1, by go_num, by omega, HN, hid' (Below.dN18 HW.out _)⟩
       case measure => simp [intOf]; omega
      ·have HF := hid' (HBD.out (by unfold Rt.okAt; rw [Rt.low_f (by omega), Rt.dg_f (by omega), Bool.and_false]; rfl))
       go_upto_region 4 with fail
       go_quiet (fail)
       go_wp2
       go_ret
       exact ⟨by rw [HF.out]; rfl, Below.dN18 HW.out _⟩
     ·have HF := hid' (HBD.out (by unfold Rt.okAt; rw [Rt.low_f (by omega), Rt.dg_f (by omega), Bool.and_false]; rfl))
      go_upto_region 4 with fail
      go_quiet (fail)
      go_wp2
      go_ret
      exact ⟨by rw [HF.out]; rfl, Below.dN18 HW.out _⟩
  ·have hlt2 : ¬ (k : Int) < (s.size : Int) := by omega
   have HE : Hid (Rt.nameB l = !l.isEmpty) := hid' (Rt.name_all (fun j c hc => HV.out j c hc (by
    have := (List.getElem?_eq_some_iff.1 hc).1
    have := HSZ.out
    omega)))
   have hse := HSE.out
   clear hlt
   cases hle : l.isEmpty
   ·rw [hle] at hse HE
    go_wp2
    go_ret
    exact ⟨by rw [HE.out]; rfl, HW.out⟩
   ·rw [hle] at hse HE
    go_wp2
    go_ret
    exact ⟨by rw [HE.out]; rfl, HW.out⟩

open Go.RowKit

def pU18 (p : Rt.Prt) : Value := if p.k == 0 then .iface 147 (.string ⟨p.t.toArray⟩) else if p.k == 1 then .iface 150 (.agg #[]) else .iface 149 (.agg #[])
def nmU18 (p : Rt.Prt) : List UInt8 := if p.k == 0 then [] else p.t

theorem cutp_yes18 (s z : ByteArray) (c : UInt8) (r : List UInt8) (h : s.data.toList = c :: r) (hz : z.data.toList = r) (w : World) : Calls Tryz.prog 43 #[.string s, .string ⟨#[c]⟩] w fun e w' => e = .returned (.tuple #[.string z, .bool true]) ∧ w' = w := by
 have hp : Lib.hasPrefix s.data.toList (⟨#[c]⟩ : ByteArray).data.toList = true := by rw [h]; simp [Lib.hasPrefix]
 have ht : Lib.trimPrefix s.data.toList (⟨#[c]⟩ : ByteArray).data.toList = r := by unfold Lib.trimPrefix; rw [hp, h]; rfl
 have hzz : (⟨r.toArray⟩ : ByteArray) = z := by rw [← hz]
 refine (Tryz.strings_CutPrefix s ⟨#[c]⟩ w).mono ?_
 rintro e w' ⟨rfl, rfl⟩
 rw [hp, ht, hzz]
 exact ⟨rfl, rfl⟩

theorem cutp_no18 (s : ByteArray) (c : UInt8) (h : (s.data.toList.head? == some c) = false) (w : World) : Calls Tryz.prog 43 #[.string s, .string ⟨#[c]⟩] w fun e w' => e = .returned (.tuple #[.string s, .bool false]) ∧ w' = w := by
 have hp : Lib.hasPrefix s.data.toList (⟨#[c]⟩ : ByteArray).data.toList = false := by
  cases hs : s.data.toList with
  | nil => rfl
  | cons a r =>
   rw [hs] at h
   simp at h
   rw [Bool.eq_false_iff]
   intro ht
   have h2 := List.isPrefixOf_iff_prefix.1 ht
   exact h (List.cons_prefix_cons.1 h2).1.symm
 have ht : Lib.trimPrefix s.data.toList (⟨#[c]⟩ : ByteArray).data.toList = s.data.toList := by unfold Lib.trimPrefix; rw [hp]; rfl
 refine (Tryz.strings_CutPrefix s ⟨#[c]⟩ w).mono ?_
 rintro e w' ⟨rfl, rfl⟩
 rw [hp, ht]
 exact ⟨rfl, rfl⟩

theorem cuts_yes18 (s t z : ByteArray) (r : List UInt8) (h : s.data.toList = r ++ t.data.toList) (hz : z.data.toList = r) (hs : s.size ≤ 4194304) (w : World) : Calls Tryz.prog 68 #[.string s, .string t] w fun e w' => e = .returned (.tuple #[.string z, .bool true]) ∧ w' = w := by
 have hp : Lib.hasSuffix s.data.toList t.data.toList = true := by rw [h]; exact List.isSuffixOf_iff_suffix.2 (List.suffix_append _ _)
 have ht : Lib.trimSuffix s.data.toList t.data.toList = r := by unfold Lib.trimSuffix; rw [hp, h]; simp
 have hzz : (⟨r.toArray⟩ : ByteArray) = z := by rw [← hz]
 refine (Tryz.strings_CutSuffix s t w (by omega)).mono ?_
 rintro e w' ⟨rfl, rfl⟩
 rw [hp, ht, hzz]
 exact ⟨rfl, rfl⟩

theorem cuts_no18 (s t : ByteArray) (h : t.data.toList.isSuffixOf s.data.toList = false) (hs : s.size ≤ 4194304) (w : World) : Calls Tryz.prog 68 #[.string s, .string t] w fun e w' => e = .returned (.tuple #[.string s, .bool false]) ∧ w' = w := by
 have hp : Lib.hasSuffix s.data.toList t.data.toList = false := h
 have ht : Lib.trimSuffix s.data.toList t.data.toList = s.data.toList := by unfold Lib.trimSuffix; rw [hp]; rfl
 refine (Tryz.strings_CutSuffix s t w (by omega)).mono ?_
 rintro e w' ⟨rfl, rfl⟩
 rw [hp, ht]
 exact ⟨rfl, rfl⟩

theorem cuts_any18 (s t : ByteArray) (hs : s.size ≤ 4194304) (w : World) : Calls Tryz.prog 68 #[.string s, .string t] w fun e w' => (∃ z b, e = .returned (.tuple #[.string z, .bool b])) ∧ w' = w := by
 refine (Tryz.strings_CutSuffix s t w (by omega)).mono ?_
 rintro e w' ⟨rfl, rfl⟩
 exact ⟨⟨_, _, rfl⟩, rfl⟩
def ppU18 (l : List UInt8) (e : Ending) : Prop := ∃ v nm b, e = .returned (.tuple #[v, .string nm, .bool b]) ∧ b = (Rt.prt l).2 ∧ (b = true → v = pU18 (Rt.prt l).1 ∧ nm = ⟨(nmU18 (Rt.prt l).1).toArray⟩)

set_option maxHeartbeats 4000000 in
set_option maxRecDepth 20000 in
theorem cpart18 (s : ByteArray) (l : List UInt8) (hl : s.data.toList = l) (w : World) (hs : s.size ≤ 4194304) :
  Calls Tryz.prog 45 #[.string s] w fun e w' => ppU18 l e ∧ Below w.heap.size w w' := by
 have hsz : s.size = l.length := by rw [Lib.size_eq, hl]
 have ba : ∀ r : List UInt8, ∃ z : ByteArray, z.data.toList = r := fun r => ⟨⟨r.toArray⟩, by simp⟩
 by_cases h1 : (l.head? == some 123) = true
 ·obtain ⟨r, hr⟩ : ∃ r, l = 123 :: r := by
   cases l with
   | nil => cases h1
   | cons a r => simp at h1; exact ⟨r, by rw [h1]⟩
  obtain ⟨z, hz⟩ := ba r
  have hzs : z.size ≤ 4194304 := by rw [Lib.size_eq, hz]; rw [hr] at hsz; simp at hsz; omega
  have HC1 := hid' (fun W => cutp_yes18 s z 123 r (by rw [hl, hr]) hz W)
  by_cases h2 : (r.getLast? == some 125) = true
  ·obtain ⟨m, hm⟩ : ∃ m, r = m ++ [125] := by
    have := eq_of_beq h2
    exact List.getLast?_eq_some_iff.1 this
   obtain ⟨zm, hzm⟩ := ba m
   have hzms : zm.size ≤ 4194304 := by rw [Lib.size_eq, hzm]; rw [Lib.size_eq, hz, hm] at hzs; simp at hzs; omega
   have HC2 := hid' (fun W => cuts_yes18 z ⟨#[125]⟩ zm m (by rw [hz, hm]) hzm hzs W)
   cases h3 : ([46, 46, 46] : List UInt8).isSuffixOf m
   ·have HC3 := hid' (fun W => cuts_no18 zm ⟨#[46, 46, 46]⟩ (by rw [hzm]; exact h3) hzms W)
    have HC4 := hid' (fun W => cname18 zm m hzm W hzms)
    have HP : Hid (Rt.prt l = (⟨1, m⟩, Rt.nameB m)) := hid' (by rw [hr, hm]; exact Rt.prt_c2 h3)
    have HZM : Hid (zm = ⟨m.toArray⟩) := hid' (by rw [← hzm])
    clear hl hsz h1 hr hz h2 hm hzm h3
    cases h4 : Rt.nameB m
    ·rw [h4] at HC4 HP
     go_enter Tryz.func45, Tryz.ntmps45
     go_wp2_with fail
     refine (HC1.out _).mono ?_
     rintro e w1 ⟨rfl, hw1⟩; subst w1
     go_wp2_with fail
     refine (HC2.out _).mono ?_
     rintro e w1 ⟨rfl, hw1⟩; subst w1
     go_wp2_with fail
     refine (HC3.out _).mono ?_
     rintro e w1 ⟨rfl, hw1⟩; subst w1
     go_wp2_with fail
     refine (HC4.out _).mono ?_
     rintro e w1 ⟨rfl, hb1⟩
     have HB1 := hid' hb1
     clear hb1
     go_wp2
     go_ret3
     exact ⟨⟨_, _, _, rfl, by rw [HP.out], fun h => by cases h⟩, HB1.out⟩
    ·rw [h4] at HC4 HP
     go_enter Tryz.func45, Tryz.ntmps45
     go_wp2_with fail
     refine (HC1.out _).mono ?_
     rintro e w1 ⟨rfl, hw1⟩; subst w1
     go_wp2_with fail
     refine (HC2.out _).mono ?_
     rintro e w1 ⟨rfl, hw1⟩; subst w1
     go_wp2_with fail
     refine (HC3.out _).mono ?_
     rintro e w1 ⟨rfl, hw1⟩; subst w1
     go_wp2_with fail
     refine (HC4.out _).mono ?_
     rintro e w1 ⟨rfl, hb1⟩
     have HB1 := hid' hb1
     clear hb1
     go_wp2
     go_ret3
     exact ⟨⟨_, _, _, rfl, by rw [HP.out], fun _ => by rw [HP.out]; exact ⟨rfl, HZM.out⟩⟩, HB1.out⟩
   ·obtain ⟨n, hn⟩ : ∃ n, n ++ [46, 46, 46] = m := List.isSuffixOf_iff_suffix.1 h3
    obtain ⟨zn, hzn⟩ := ba n
    have hzns : zn.size ≤ 4194304 := by rw [Lib.size_eq, hzn]; rw [Lib.size_eq, hzm, ← hn] at hzms; simp at hzms; omega
    have HC3 := hid' (fun W => cuts_yes18 zm ⟨#[46, 46, 46]⟩ zn n (by rw [hzm, ← hn]) hzn hzms W)
    have HC4 := hid' (fun W => cname18 zn n hzn W hzns)
    have HP : Hid (Rt.prt l = (⟨2, n⟩, Rt.nameB n)) := hid' (by rw [hr, hm, ← hn]; exact Rt.prt_c3)
    have HZM : Hid (zn = ⟨n.toArray⟩) := hid' (by rw [← hzn])
    clear hl hsz h1 hr hz h2 hm hzm h3 hn hzn
    cases h4 : Rt.nameB n
    ·rw [h4] at HC4 HP
     go_enter Tryz.func45, Tryz.ntmps45
     go_wp2_with fail
     refine (HC1.out _).mono ?_
     rintro e w1 ⟨rfl, hw1⟩; subst w1
     go_wp2_with fail
     refine (HC2.out _).mono ?_
     rintro e w1 ⟨rfl, hw1⟩; subst w1
     go_wp2_with fail
     refine (HC3.out _).mono ?_
     rintro e w1 ⟨rfl, hw1⟩; subst w1
     go_wp2_with fail
     refine (HC4.out _).mono ?_
     rintro e w1 ⟨rfl, hb1⟩
     have HB1 := hid' hb1
     clear hb1
     go_wp2
     go_ret3
     exact ⟨⟨_, _, _, rfl, by rw [HP.out], fun h => by cases h⟩, HB1.out⟩
    ·rw [h4] at HC4 HP
     go_enter Tryz.func45, Tryz.ntmps45
     go_wp2_with fail
     refine (HC1.out _).mono ?_
     rintro e w1 ⟨rfl, hw1⟩; subst w1
     go_wp2_with fail
     refine (HC2.out _).mono ?_
     rintro e w1 ⟨rfl, hw1⟩; subst w1
     go_wp2_with fail
     refine (HC3.out _).mono ?_
     rintro e w1 ⟨rfl, hw1⟩; subst w1
     go_wp2_with fail
     refine (HC4.out _).mono ?_
     rintro e w1 ⟨rfl, hb1⟩
     have HB1 := hid' hb1
     clear hb1
     go_wp2
     go_ret3
     exact ⟨⟨_, _, _, rfl, by rw [HP.out], fun _ => by rw [HP.out]; exact ⟨rfl, HZM.out⟩⟩, HB1.out⟩
  ·rw [Bool.not_eq_true] at h2
   have HC2 := hid' (fun W => cuts_no18 z ⟨#[125]⟩ (by
    rw [hz, Bool.eq_false_iff]
    intro hc
    obtain ⟨m, hm⟩ := List.isSuffixOf_iff_suffix.1 hc
    rw [← hm, List.getLast?_append] at h2
    revert h2
    simp) hzs W)
   have HC3 := hid' (fun W => cuts_any18 z ⟨#[46, 46, 46]⟩ hzs W)
   have HP : Hid ((Rt.prt l).2 = false) := hid' (by rw [hr]; exact Rt.prt_c1 h2)
   clear hl hsz h1 hr hz h2
   go_enter Tryz.func45, Tryz.ntmps45
   go_wp2_with fail
   refine (HC1.out _).mono ?_
   rintro e w1 ⟨rfl, hw1⟩; subst w1
   go_wp2_with fail
   refine (HC2.out _).mono ?_
   rintro e w1 ⟨rfl, hw1⟩; subst w1
   go_wp2_with fail
   refine (HC3.out _).mono ?_
   rintro e w1 ⟨⟨z3, b3, rfl⟩, hw1⟩; subst w1
   go_wp2
   go_ret3
   exact ⟨⟨_, _, _, rfl, by rw [HP.out], fun h => by cases h⟩, Below.refl _ _⟩
 ·rw [Bool.not_eq_true] at h1
  have HC1 := hid' (fun W => cutp_no18 s 123 (by rw [hl]; exact h1) W)
  have HC2 := hid' (fun W => cplain18 s l hl W hs)
  have HP := hid' (Rt.prt_c0 h1)
  have HZM : Hid (s = ⟨l.toArray⟩) := hid' (by rw [← hl])
  clear hl hsz h1
  obtain ⟨b, hb⟩ : ∃ b, Rt.plainB l = b := ⟨_, rfl⟩
  have HBB : Hid ((Rt.prt l).2 = b) := hid' (by rw [HP.out.1, ← hb]; rfl)
  rw [hb] at HC2
  clear hb
  go_enter Tryz.func45, Tryz.ntmps45
  go_wp2_with fail
  refine (HC1.out _).mono ?_
  rintro e w1 ⟨rfl, hw1⟩; subst w1
  go_wp2_with fail
  refine (HC2.out _).mono ?_
  rintro e w1 ⟨rfl, hw1⟩; subst w1
  go_wp2
  go_ret3
  refine ⟨⟨_, _, _, rfl, HBB.out.symm, fun h => ?_⟩, Below.refl _ _⟩
  rw [HP.out.2 (HBB.out.trans h)]
  exact ⟨by rw [HZM.out]; rfl, rfl⟩

end Go.Proofs.YtcfbobegbmcbeaaGreatDoor
