/-
  The code's plainText and nameText: by their contracts.
  The code's parsePart: by its contract; what a part is in memory.
  The parts' methods: by their contracts.
  strings.Builder.WriteString at this program, and the code's shapeText: by their contracts.
  strings.Join of a slice of texts; the parts' catch: by their contracts.
-/
import Derived.Test.YtfdjimjiikeciaaGreatDoorRtPl18
import Derived.Test.YtfdjimjiikeciaaGreatDoorRtA
import Derived.BigQuiet
import Derived.Test.YtfdjimjiikeciaaGreatDoorShelf
import Derived.Test.YtfdjimjiikeciaaGreatDoorPxD
import Derived.Test.YtfdjimjiikeciaaGreatDoorHuffB
namespace Go.Proofs.YtfdjimjiikeciaaGreatDoor
open Go.RowKit

namespace Rt
theorem vis_f {c : UInt8} (h : (c.toNat : Int) < 33 ∨ (126 : Int) < (c.toNat : Int) ∨ ((c.toNat : Int) == 123) = true ∨ ((c.toNat : Int) == 125) = true) : vis c = false := by
  unfold vis
  rcases h with h | h | h | h
  · rw [decide_eq_true (show c.toNat < 33 by omega)]; rfl
  · rw [decide_eq_true (show 126 < c.toNat by omega)]; simp
  · have : c = 123 := UInt8.toNat_inj.1 (by have := eq_of_beq h; simp; omega)
    rw [this]; rfl
  · have : c = 125 := UInt8.toNat_inj.1 (by have := eq_of_beq h; simp; omega)
    rw [this]; rfl
theorem vis_t {c : UInt8} (h1 : ¬ (c.toNat : Int) < 33) (h2 : ¬ (126 : Int) < (c.toNat : Int)) (h3 : ((c.toNat : Int) == 123) = false) (h4 : ((c.toNat : Int) == 125) = false) : vis c = true := by
  unfold vis
  have e3 : (c == 123) = false := beq_false_of_ne (fun e => by rw [e] at h3; revert h3; decide)
  have e4 : (c == 125) = false := beq_false_of_ne (fun e => by rw [e] at h4; revert h4; decide)
  rw [decide_eq_false (show ¬ c.toNat < 33 by omega), decide_eq_false (show ¬ 126 < c.toNat by omega), e3, e4]; rfl
def plainB (l : T8) : Bool := l.all vis && !l.isEmpty
theorem plain_bad {l : T8} {k : Nat} {c : UInt8} (h : l[k]? = some c) (hc : vis c = false) : plainB l = false := by
  unfold plainB
  have : l.all vis = false := by
    rw [Bool.eq_false_iff]
    intro ht
    have := List.all_eq_true.1 ht c (List.mem_of_getElem? h)
    rw [hc] at this; cases this
  rw [this]; rfl
theorem plain_all {l : T8} (h : ∀ (k : Nat) (c : UInt8), l[k]? = some c → vis c = true) : plainB l = !l.isEmpty := by
  unfold plainB
  have : l.all vis = true := by
    rw [List.all_eq_true]
    intro d hd
    obtain ⟨k, hk, hkd⟩ := List.mem_iff_getElem.1 hd
    exact h k d (by rw [List.getElem?_eq_getElem hk, hkd])
  rw [this]; rfl
end Rt
theorem Below.dN18 {B : Nat} {w w' : World} (h : Below B w w') (n : Nat) : Below B w (w'.drewN n) := ⟨h.os, h.tape, h.output, h.size, h.block⟩

set_option maxHeartbeats 2000000 in
set_option maxRecDepth 20000 in
theorem cplain18 (s : ByteArray) (l : List UInt8) (hl : s.data.toList = l) (w : World) (hs : s.size ≤ 4194304) :
    Calls Tryz.prog 60 #[.string s] w fun e w' => e = .returned (.bool (Rt.plainB l)) ∧ w' = w := by
  have HSZ : Hid (s.size = l.length) := hid' (by rw [Lib.size_eq, hl])
  have HGB : Hid (∀ k (h : k < s.size), l[k]? = some s[k]) := hid' (fun k h => by rw [← hl]; exact Tx.get_byte s k h)
  have hse : s.toList.isEmpty = l.isEmpty := by rw [Lib.toList_data, hl]
  have HSE := hid' hse
  clear hl hse
  go_enter Tryz.func60, Tryz.ntmps60
  go_wp2
  go_loopw [6] (fun s6 wr => ∃ k : Nat, s6 = .int .i64 (k : Int) ∧ k ≤ s.size ∧ Hid (∀ j c, l[j]? = some c → j < k → Rt.vis c = true) ∧ Hid (wr = w)) (fun s6 _ => s.size - (intOf s6).toNat)
  case atStart => exact ⟨0, rfl, Nat.zero_le _, hid' (fun j _ _ h => absurd h (Nat.not_lt_zero _)), hid' rfl⟩
  case round =>
    obtain ⟨k, rfl, hk, HV, HW⟩ := hrel
    obtain rfl := HW.out
    by_cases hlt : k < s.size
    · have hlt2 : (k : Int) < (s.size : Int) := by omega
      have HBD : Hid (Rt.vis s[k] = false → Rt.plainB l = false) := hid' (fun h => Rt.plain_bad (HGB.out k hlt) h)
      have HGO : Hid (Rt.vis s[k] = true → ∀ j c, l[j]? = some c → j < k + 1 → Rt.vis c = true) := hid' (fun h j c hc hj => by
        by_cases hjk : j = k
        · subst hjk
          rw [HGB.out j hlt] at hc
          injection hc with hc
          rw [← hc]; exact h
        · exact HV.out j c hc (by omega))
      by_cases a1 : (s[k].toNat : Int) < 33
      · have HF := hid' (HBD.out (Rt.vis_f (.inl a1)))
        go_wp2
        go_ret
        exact ⟨by rw [HF.out]; rfl, rfl⟩
      · by_cases a2 : (126 : Int) < (s[k].toNat : Int)
        · have HF := hid' (HBD.out (Rt.vis_f (.inr (.inl a2))))
          go_wp2
          go_ret
          exact ⟨by rw [HF.out]; rfl, rfl⟩
        · cases a3 : ((s[k].toNat : Int) == 123)
          · cases a4 : ((s[k].toNat : Int) == 125)
            · have HN := hid' (HGO.out (Rt.vis_t a1 a2 a3 a4))
              go_wp2
              go_roundw
              case rel => exact ⟨k + 1, by go_num, by omega, HN, hid' (by trivial)⟩
              case measure => simp [intOf]; omega
            · have HF := hid' (HBD.out (Rt.vis_f (.inr (.inr (.inr a4)))))
              go_wp2
              go_ret
              exact ⟨by rw [HF.out]; rfl, rfl⟩
          · have HF := hid' (HBD.out (Rt.vis_f (.inr (.inr (.inl a3)))))
            go_wp2
            go_ret
            exact ⟨by rw [HF.out]; rfl, rfl⟩
    · have hlt2 : ¬ (k : Int) < (s.size : Int) := by omega
      have HE : Hid (Rt.plainB l = !l.isEmpty) := hid' (Rt.plain_all (fun j c hc => HV.out j c hc (by
        have := (List.getElem?_eq_some_iff.1 hc).1
        have := HSZ.out
        omega)))
      have hse := HSE.out
      clear hlt
      cases hle : l.isEmpty
      · rw [hle] at hse HE
        go_wp2
        go_ret
        exact ⟨by rw [HE.out]; rfl, rfl⟩
      · rw [hle] at hse HE
        go_wp2
        go_ret
        exact ⟨by rw [HE.out]; rfl, rfl⟩

set_option maxHeartbeats 4000000 in
set_option maxRecDepth 20000 in
theorem cname18 (s : ByteArray) (l : List UInt8) (hl : s.data.toList = l) (w : World) (hs : s.size ≤ 4194304) :
    Calls Tryz.prog 62 #[.string s] w fun e w' => e = .returned (.bool (Rt.nameB l)) ∧ Below w.heap.size w w' := by
  have HSZ : Hid (s.size = l.length) := hid' (by rw [Lib.size_eq, hl])
  have HGB : Hid (∀ k (h : k < s.size), l[k]? = some s[k]) := hid' (fun k h => by rw [← hl]; exact Tx.get_byte s k h)
  have hse : s.toList.isEmpty = l.isEmpty := by rw [Lib.toList_data, hl]
  have HSE := hid' hse
  clear hl hse
  go_enter Tryz.func62, Tryz.ntmps62
  go_wp2
  go_loopw [8] (fun s8 wr => ∃ k : Nat, s8 = .int .i64 (k : Int) ∧ k ≤ s.size ∧ Hid (∀ j c, l[j]? = some c → j < k → Rt.okAt j c = true) ∧ Hid (Below w.heap.size w wr)) (fun s8 _ => s.size - (intOf s8).toNat)
  case atStart => exact ⟨0, rfl, Nat.zero_le _, hid' (fun j _ _ h => absurd h (Nat.not_lt_zero _)), hid' (Below.refl _ _)⟩
  case round =>
    obtain ⟨k, rfl, hk, HV, HW⟩ := hrel
    by_cases hlt : k < s.size
    · have hlt2 : (k : Int) < (s.size : Int) := by omega
      have HBD : Hid (Rt.okAt k s[k] = false → Rt.nameB l = false) := hid' (fun h => Rt.name_bad (HGB.out k hlt) h)
      have HGO : Hid (Rt.okAt k s[k] = true → ∀ j c, l[j]? = some c → j < k + 1 → Rt.okAt j c = true) := hid' (fun h j c hc hj => by
        by_cases hjk : j = k
        · subst hjk
          rw [HGB.out j hlt] at hc
          injection hc with hc
          rw [← hc]; exact h
        · exact HV.out j c hc (by omega))
      by_cases a1 : (s[k].toNat : Int) < 48
      · have HF := hid' (HBD.out (by unfold Rt.okAt; rw [Rt.low_f (by omega), Rt.dg_f (by omega), Bool.and_false]; rfl))
        have b1 : ¬ (97 : Int) ≤ (s[k].toNat : Int) := by omega
        have b2 : ¬ (48 : Int) ≤ (s[k].toNat : Int) := by omega
        clear a1
        go_upto_region 4 with fail
        go_quiet (fail)
        go_wp2
        go_ret
        exact ⟨by rw [HF.out]; rfl, Below.dN18 HW.out _⟩
      · by_cases a2 : (s[k].toNat : Int) ≤ 57
        · have b1 : ¬ (97 : Int) ≤ (s[k].toNat : Int) := by omega
          have b2 : (48 : Int) ≤ (s[k].toNat : Int) := by omega
          clear a1
          cases k0 : ((k : Int) == 0)
          · have hk0 : ¬ k = 0 := by have := beq_eq_false_iff_ne.1 k0; omega
            have HN := hid' (HGO.out (by unfold Rt.okAt; rw [Rt.dg_t b2 a2, decide_eq_false hk0]; simp))
            clear hk0
            go_upto_region 4 with fail
            go_quiet (fail)
            go_wp2
            go_roundw
            case rel => exact ⟨k + 1, by go_num, by omega, HN, hid' (Below.dN18 HW.out _)⟩
            case measure => simp [intOf]; omega
          · have hk0 : k = 0 := by have := eq_of_beq k0; omega
            have HF := hid' (HBD.out (by unfold Rt.okAt; rw [Rt.low_f (by omega), decide_eq_true hk0]; rfl))
            clear hk0
            go_upto_region 4 with fail
            go_quiet (fail)
            go_wp2
            go_ret
            exact ⟨by rw [HF.out]; rfl, Below.dN18 HW.out _⟩
        · have b2 : (48 : Int) ≤ (s[k].toNat : Int) := by omega
          clear a1
          by_cases b1 : (97 : Int) ≤ (s[k].toNat : Int)
          · by_cases b3 : (s[k].toNat : Int) ≤ 122
            · have HN := hid' (HGO.out (by unfold Rt.okAt; rw [Rt.low_t b1 b3]; rfl))
              go_upto_region 4 with fail
              go_quiet (fail)
              go_wp2
              go_roundw
              case rel => exact ⟨k + 1, by go_num, by omega, HN, hid' (Below.dN18 HW.out _)⟩
              case measure => simp [intOf]; omega
            · have HF := hid' (HBD.out (by unfold Rt.okAt; rw [Rt.low_f (by omega), Rt.dg_f (by omega), Bool.and_false]; rfl))
              go_upto_region 4 with fail
              go_quiet (fail)
              go_wp2
              go_ret
              exact ⟨by rw [HF.out]; rfl, Below.dN18 HW.out _⟩
          · have HF := hid' (HBD.out (by unfold Rt.okAt; rw [Rt.low_f (by omega), Rt.dg_f (by omega), Bool.and_false]; rfl))
            go_upto_region 4 with fail
            go_quiet (fail)
            go_wp2
            go_ret
            exact ⟨by rw [HF.out]; rfl, Below.dN18 HW.out _⟩
    · have hlt2 : ¬ (k : Int) < (s.size : Int) := by omega
      have HE : Hid (Rt.nameB l = !l.isEmpty) := hid' (Rt.name_all (fun j c hc => HV.out j c hc (by
        have := (List.getElem?_eq_some_iff.1 hc).1
        have := HSZ.out
        omega)))
      have hse := HSE.out
      clear hlt
      cases hle : l.isEmpty
      · rw [hle] at hse HE
        go_wp2
        go_ret
        exact ⟨by rw [HE.out]; rfl, HW.out⟩
      · rw [hle] at hse HE
        go_wp2
        go_ret
        exact ⟨by rw [HE.out]; rfl, HW.out⟩

end Go.Proofs.YtfdjimjiikeciaaGreatDoor

namespace Go.Proofs.YtfdjimjiikeciaaGreatDoor
open Go.RowKit

/-- A part as the code keeps it: an interface value. -/
def pU18 (p : Rt.Prt) : Value := if p.k == 0 then .iface 121 (.string ⟨p.t.toArray⟩) else if p.k == 1 then .iface 124 (.agg #[]) else .iface 123 (.agg #[])
def nmU18 (p : Rt.Prt) : List UInt8 := if p.k == 0 then [] else p.t

theorem cutp_yes18 (s z : ByteArray) (c : UInt8) (r : List UInt8) (h : s.data.toList = c :: r) (hz : z.data.toList = r) (w : World) : Calls Tryz.prog 36 #[.string s, .string ⟨#[c]⟩] w fun e w' => e = .returned (.tuple #[.string z, .bool true]) ∧ w' = w := by
  have hp : Lib.hasPrefix s.data.toList (⟨#[c]⟩ : ByteArray).data.toList = true := by rw [h]; simp [Lib.hasPrefix]
  have ht : Lib.trimPrefix s.data.toList (⟨#[c]⟩ : ByteArray).data.toList = r := by unfold Lib.trimPrefix; rw [hp, h]; rfl
  have hzz : (⟨r.toArray⟩ : ByteArray) = z := by rw [← hz]
  refine (Tryz.strings_CutPrefix s ⟨#[c]⟩ w).mono ?_
  rintro e w' ⟨rfl, rfl⟩
  rw [hp, ht, hzz]
  exact ⟨rfl, rfl⟩

theorem cutp_no18 (s : ByteArray) (c : UInt8) (h : (s.data.toList.head? == some c) = false) (w : World) : Calls Tryz.prog 36 #[.string s, .string ⟨#[c]⟩] w fun e w' => e = .returned (.tuple #[.string s, .bool false]) ∧ w' = w := by
  have hp : Lib.hasPrefix s.data.toList (⟨#[c]⟩ : ByteArray).data.toList = false := by
    cases hs : s.data.toList with
    | nil => rfl
    | cons a r =>
      rw [hs] at h
      simp at h
      rw [Bool.eq_false_iff]
      intro ht
      have h2 := List.isPrefixOf_iff_prefix.1 ht
      exact h (List.cons_prefix_cons.1 h2).1.symm
  have ht : Lib.trimPrefix s.data.toList (⟨#[c]⟩ : ByteArray).data.toList = s.data.toList := by unfold Lib.trimPrefix; rw [hp]; rfl
  refine (Tryz.strings_CutPrefix s ⟨#[c]⟩ w).mono ?_
  rintro e w' ⟨rfl, rfl⟩
  rw [hp, ht]
  exact ⟨rfl, rfl⟩

theorem cuts_yes18 (s t z : ByteArray) (r : List UInt8) (h : s.data.toList = r ++ t.data.toList) (hz : z.data.toList = r) (hs : s.size ≤ 4194304) (w : World) : Calls Tryz.prog 61 #[.string s, .string t] w fun e w' => e = .returned (.tuple #[.string z, .bool true]) ∧ w' = w := by
  have hp : Lib.hasSuffix s.data.toList t.data.toList = true := by rw [h]; exact List.isSuffixOf_iff_suffix.2 (List.suffix_append _ _)
  have ht : Lib.trimSuffix s.data.toList t.data.toList = r := by unfold Lib.trimSuffix; rw [hp, h]; simp
  have hzz : (⟨r.toArray⟩ : ByteArray) = z := by rw [← hz]
  refine (Tryz.strings_CutSuffix s t w (by omega)).mono ?_
  rintro e w' ⟨rfl, rfl⟩
  rw [hp, ht, hzz]
  exact ⟨rfl, rfl⟩

theorem cuts_no18 (s t : ByteArray) (h : t.data.toList.isSuffixOf s.data.toList = false) (hs : s.size ≤ 4194304) (w : World) : Calls Tryz.prog 61 #[.string s, .string t] w fun e w' => e = .returned (.tuple #[.string s, .bool false]) ∧ w' = w := by
  have hp : Lib.hasSuffix s.data.toList t.data.toList = false := h
  have ht : Lib.trimSuffix s.data.toList t.data.toList = s.data.toList := by unfold Lib.trimSuffix; rw [hp]; rfl
  refine (Tryz.strings_CutSuffix s t w (by omega)).mono ?_
  rintro e w' ⟨rfl, rfl⟩
  rw [hp, ht]
  exact ⟨rfl, rfl⟩

theorem cuts_any18 (s t : ByteArray) (hs : s.size ≤ 4194304) (w : World) : Calls Tryz.prog 61 #[.string s, .string t] w fun e w' => (∃ z b, e = .returned (.tuple #[.string z, .bool b])) ∧ w' = w := by
  refine (Tryz.strings_CutSuffix s t w (by omega)).mono ?_
  rintro e w' ⟨rfl, rfl⟩
  exact ⟨⟨_, _, rfl⟩, rfl⟩
/-- What parsePart answers. -/
def ppU18 (l : List UInt8) (e : Ending) : Prop := ∃ v nm b, e = .returned (.tuple #[v, .string nm, .bool b]) ∧ b = (Rt.prt l).2 ∧ (b = true → v = pU18 (Rt.prt l).1 ∧ nm = ⟨(nmU18 (Rt.prt l).1).toArray⟩)

set_option maxHeartbeats 4000000 in
set_option maxRecDepth 20000 in
theorem cpart18 (s : ByteArray) (l : List UInt8) (hl : s.data.toList = l) (w : World) (hs : s.size ≤ 4194304) :
    Calls Tryz.prog 38 #[.string s] w fun e w' => ppU18 l e ∧ Below w.heap.size w w' := by
  have hsz : s.size = l.length := by rw [Lib.size_eq, hl]
  have ba : ∀ r : List UInt8, ∃ z : ByteArray, z.data.toList = r := fun r => ⟨⟨r.toArray⟩, by simp⟩
  by_cases h1 : (l.head? == some 123) = true
  · obtain ⟨r, hr⟩ : ∃ r, l = 123 :: r := by
      cases l with
      | nil => cases h1
      | cons a r => simp at h1; exact ⟨r, by rw [h1]⟩
    obtain ⟨z, hz⟩ := ba r
    have hzs : z.size ≤ 4194304 := by rw [Lib.size_eq, hz]; rw [hr] at hsz; simp at hsz; omega
    have HC1 := hid' (fun W => cutp_yes18 s z 123 r (by rw [hl, hr]) hz W)
    by_cases h2 : (r.getLast? == some 125) = true
    · obtain ⟨m, hm⟩ : ∃ m, r = m ++ [125] := by
        have := eq_of_beq h2
        exact List.getLast?_eq_some_iff.1 this
      obtain ⟨zm, hzm⟩ := ba m
      have hzms : zm.size ≤ 4194304 := by rw [Lib.size_eq, hzm]; rw [Lib.size_eq, hz, hm] at hzs; simp at hzs; omega
      have HC2 := hid' (fun W => cuts_yes18 z ⟨#[125]⟩ zm m (by rw [hz, hm]) hzm hzs W)
      cases h3 : ([46, 46, 46] : List UInt8).isSuffixOf m
      · have HC3 := hid' (fun W => cuts_no18 zm ⟨#[46, 46, 46]⟩ (by rw [hzm]; exact h3) hzms W)
        have HC4 := hid' (fun W => cname18 zm m hzm W hzms)
        have HP : Hid (Rt.prt l = (⟨1, m⟩, Rt.nameB m)) := hid' (by rw [hr, hm]; exact Rt.prt_c2 h3)
        have HZM : Hid (zm = ⟨m.toArray⟩) := hid' (by rw [← hzm])
        clear hl hsz h1 hr hz h2 hm hzm h3
        cases h4 : Rt.nameB m
        · rw [h4] at HC4 HP
          go_enter Tryz.func38, Tryz.ntmps38
          go_wp2_with fail
          refine (HC1.out _).mono ?_
          rintro e w1 ⟨rfl, hw1⟩; subst w1
          go_wp2_with fail
          refine (HC2.out _).mono ?_
          rintro e w1 ⟨rfl, hw1⟩; subst w1
          go_wp2_with fail
          refine (HC3.out _).mono ?_
          rintro e w1 ⟨rfl, hw1⟩; subst w1
          go_wp2_with fail
          refine (HC4.out _).mono ?_
          rintro e w1 ⟨rfl, hb1⟩
          have HB1 := hid' hb1
          clear hb1
          go_wp2
          go_ret3
          exact ⟨⟨_, _, _, rfl, by rw [HP.out], fun h => by cases h⟩, HB1.out⟩
        · rw [h4] at HC4 HP
          go_enter Tryz.func38, Tryz.ntmps38
          go_wp2_with fail
          refine (HC1.out _).mono ?_
          rintro e w1 ⟨rfl, hw1⟩; subst w1
          go_wp2_with fail
          refine (HC2.out _).mono ?_
          rintro e w1 ⟨rfl, hw1⟩; subst w1
          go_wp2_with fail
          refine (HC3.out _).mono ?_
          rintro e w1 ⟨rfl, hw1⟩; subst w1
          go_wp2_with fail
          refine (HC4.out _).mono ?_
          rintro e w1 ⟨rfl, hb1⟩
          have HB1 := hid' hb1
          clear hb1
          go_wp2
          go_ret3
          exact ⟨⟨_, _, _, rfl, by rw [HP.out], fun _ => by rw [HP.out]; exact ⟨rfl, HZM.out⟩⟩, HB1.out⟩
      · obtain ⟨n, hn⟩ : ∃ n, n ++ [46, 46, 46] = m := List.isSuffixOf_iff_suffix.1 h3
        obtain ⟨zn, hzn⟩ := ba n
        have hzns : zn.size ≤ 4194304 := by rw [Lib.size_eq, hzn]; rw [Lib.size_eq, hzm, ← hn] at hzms; simp at hzms; omega
        have HC3 := hid' (fun W => cuts_yes18 zm ⟨#[46, 46, 46]⟩ zn n (by rw [hzm, ← hn]) hzn hzms W)
        have HC4 := hid' (fun W => cname18 zn n hzn W hzns)
        have HP : Hid (Rt.prt l = (⟨2, n⟩, Rt.nameB n)) := hid' (by rw [hr, hm, ← hn]; exact Rt.prt_c3)
        have HZM : Hid (zn = ⟨n.toArray⟩) := hid' (by rw [← hzn])
        clear hl hsz h1 hr hz h2 hm hzm h3 hn hzn
        cases h4 : Rt.nameB n
        · rw [h4] at HC4 HP
          go_enter Tryz.func38, Tryz.ntmps38
          go_wp2_with fail
          refine (HC1.out _).mono ?_
          rintro e w1 ⟨rfl, hw1⟩; subst w1
          go_wp2_with fail
          refine (HC2.out _).mono ?_
          rintro e w1 ⟨rfl, hw1⟩; subst w1
          go_wp2_with fail
          refine (HC3.out _).mono ?_
          rintro e w1 ⟨rfl, hw1⟩; subst w1
          go_wp2_with fail
          refine (HC4.out _).mono ?_
          rintro e w1 ⟨rfl, hb1⟩
          have HB1 := hid' hb1
          clear hb1
          go_wp2
          go_ret3
          exact ⟨⟨_, _, _, rfl, by rw [HP.out], fun h => by cases h⟩, HB1.out⟩
        · rw [h4] at HC4 HP
          go_enter Tryz.func38, Tryz.ntmps38
          go_wp2_with fail
          refine (HC1.out _).mono ?_
          rintro e w1 ⟨rfl, hw1⟩; subst w1
          go_wp2_with fail
          refine (HC2.out _).mono ?_
          rintro e w1 ⟨rfl, hw1⟩; subst w1
          go_wp2_with fail
          refine (HC3.out _).mono ?_
          rintro e w1 ⟨rfl, hw1⟩; subst w1
          go_wp2_with fail
          refine (HC4.out _).mono ?_
          rintro e w1 ⟨rfl, hb1⟩
          have HB1 := hid' hb1
          clear hb1
          go_wp2
          go_ret3
          exact ⟨⟨_, _, _, rfl, by rw [HP.out], fun _ => by rw [HP.out]; exact ⟨rfl, HZM.out⟩⟩, HB1.out⟩
    · rw [Bool.not_eq_true] at h2
      have HC2 := hid' (fun W => cuts_no18 z ⟨#[125]⟩ (by
        rw [hz, Bool.eq_false_iff]
        intro hc
        obtain ⟨m, hm⟩ := List.isSuffixOf_iff_suffix.1 hc
        rw [← hm, List.getLast?_append] at h2
        revert h2
        simp) hzs W)
      have HC3 := hid' (fun W => cuts_any18 z ⟨#[46, 46, 46]⟩ hzs W)
      have HP : Hid ((Rt.prt l).2 = false) := hid' (by rw [hr]; exact Rt.prt_c1 h2)
      clear hl hsz h1 hr hz h2
      go_enter Tryz.func38, Tryz.ntmps38
      go_wp2_with fail
      refine (HC1.out _).mono ?_
      rintro e w1 ⟨rfl, hw1⟩; subst w1
      go_wp2_with fail
      refine (HC2.out _).mono ?_
      rintro e w1 ⟨rfl, hw1⟩; subst w1
      go_wp2_with fail
      refine (HC3.out _).mono ?_
      rintro e w1 ⟨⟨z3, b3, rfl⟩, hw1⟩; subst w1
      go_wp2
      go_ret3
      exact ⟨⟨_, _, _, rfl, by rw [HP.out], fun h => by cases h⟩, Below.refl _ _⟩
  · rw [Bool.not_eq_true] at h1
    have HC1 := hid' (fun W => cutp_no18 s 123 (by rw [hl]; exact h1) W)
    have HC2 := hid' (fun W => cplain18 s l hl W hs)
    have HP := hid' (Rt.prt_c0 h1)
    have HZM : Hid (s = ⟨l.toArray⟩) := hid' (by rw [← hl])
    clear hl hsz h1
    obtain ⟨b, hb⟩ : ∃ b, Rt.plainB l = b := ⟨_, rfl⟩
    have HBB : Hid ((Rt.prt l).2 = b) := hid' (by rw [HP.out.1, ← hb]; rfl)
    rw [hb] at HC2
    clear hb
    go_enter Tryz.func38, Tryz.ntmps38
    go_wp2_with fail
    refine (HC1.out _).mono ?_
    rintro e w1 ⟨rfl, hw1⟩; subst w1
    go_wp2_with fail
    refine (HC2.out _).mono ?_
    rintro e w1 ⟨rfl, hw1⟩; subst w1
    go_wp2
    go_ret3
    refine ⟨⟨_, _, _, rfl, HBB.out.symm, fun h => ?_⟩, Below.refl _ _⟩
    rw [HP.out.2 (HBB.out.trans h)]
    exact ⟨by rw [HZM.out]; rfl, rfl⟩

end Go.Proofs.YtfdjimjiikeciaaGreatDoor

namespace Go.Proofs.YtfdjimjiikeciaaGreatDoor
open Go.RowKit

theorem mkindP18 (s : ByteArray) (w : World) : (method 284 121 (.string s) "ostler/route.kind").run Tryz.prog w = .ok (135, (.string s)) w := by kernel_rfl
theorem mkindC18 (w : World) : (method 284 124 (.agg #[]) "ostler/route.kind").run Tryz.prog w = .ok (143, (.agg #[])) w := by kernel_rfl
theorem mkindR18 (w : World) : (method 284 123 (.agg #[]) "ostler/route.kind").run Tryz.prog w = .ok (139, (.agg #[])) w := by kernel_rfl
theorem mshapeP18 (s : ByteArray) (w : World) : (method 284 121 (.string s) "ostler/route.shape").run Tryz.prog w = .ok (136, (.string s)) w := by kernel_rfl
theorem mshapeC18 (w : World) : (method 284 124 (.agg #[]) "ostler/route.shape").run Tryz.prog w = .ok (144, (.agg #[])) w := by kernel_rfl
theorem mshapeR18 (w : World) : (method 284 123 (.agg #[]) "ostler/route.shape").run Tryz.prog w = .ok (140, (.agg #[])) w := by kernel_rfl
theorem mtakeP18 (s : ByteArray) (w : World) : (method 284 121 (.string s) "ostler/route.take").run Tryz.prog w = .ok (137, (.string s)) w := by kernel_rfl
theorem mtakeC18 (w : World) : (method 284 124 (.agg #[]) "ostler/route.take").run Tryz.prog w = .ok (145, (.agg #[])) w := by kernel_rfl
theorem mtakeR18 (w : World) : (method 284 123 (.agg #[]) "ostler/route.take").run Tryz.prog w = .ok (141, (.agg #[])) w := by kernel_rfl
theorem mcatchP18 (s : ByteArray) (w : World) : (method 284 121 (.string s) "ostler/route.catch").run Tryz.prog w = .ok (134, (.string s)) w := by kernel_rfl
theorem mcatchC18 (w : World) : (method 284 124 (.agg #[]) "ostler/route.catch").run Tryz.prog w = .ok (142, (.agg #[])) w := by kernel_rfl
theorem mcatchR18 (w : World) : (method 284 123 (.agg #[]) "ostler/route.catch").run Tryz.prog w = .ok (138, (.agg #[])) w := by kernel_rfl

set_option maxHeartbeats 1000000 in
theorem kindP18 (s : ByteArray) (w : World) : Calls Tryz.prog 135 #[.string s] w fun e w' => e = .returned (.int .u8 0) ∧ Below w.heap.size w w' := by
  go_enter Tryz.func135, Tryz.ntmps135
  go_wp2
  go_ret
  exact ⟨rfl, Below.refl _ _⟩

set_option maxHeartbeats 1000000 in
theorem kindC18 (w : World) : Calls Tryz.prog 143 #[.agg #[]] w fun e w' => e = .returned (.int .u8 1) ∧ Below w.heap.size w w' := by
  go_enter Tryz.func143, Tryz.ntmps143
  go_wp2
  go_ret
  exact ⟨rfl, bl_alloc17 w _⟩

set_option maxHeartbeats 1000000 in
theorem kindR18 (w : World) : Calls Tryz.prog 139 #[.agg #[]] w fun e w' => e = .returned (.int .u8 2) ∧ Below w.heap.size w w' := by
  go_enter Tryz.func139, Tryz.ntmps139
  go_wp2
  go_ret
  exact ⟨rfl, bl_alloc17 w _⟩

set_option maxHeartbeats 1000000 in
theorem shapeP18 (s : ByteArray) (w : World) : Calls Tryz.prog 136 #[.string s] w fun e w' => e = .returned (.string s) ∧ Below w.heap.size w w' := by
  go_enter Tryz.func136, Tryz.ntmps136
  go_wp2
  go_ret
  exact ⟨rfl, Below.refl _ _⟩

set_option maxHeartbeats 1000000 in
theorem shapeC18 (w : World) : Calls Tryz.prog 144 #[.agg #[]] w fun e w' => e = .returned (.string ⟨#[123, 125]⟩) ∧ Below w.heap.size w w' := by
  go_enter Tryz.func144, Tryz.ntmps144
  go_wp2
  go_ret
  exact ⟨rfl, bl_alloc17 w _⟩

set_option maxHeartbeats 1000000 in
theorem shapeR18 (w : World) : Calls Tryz.prog 140 #[.agg #[]] w fun e w' => e = .returned (.string ⟨#[123, 46, 46, 46, 125]⟩) ∧ Below w.heap.size w w' := by
  go_enter Tryz.func140, Tryz.ntmps140
  go_wp2
  go_ret
  exact ⟨rfl, bl_alloc17 w _⟩

set_option maxHeartbeats 1000000 in
theorem takeR18 (ao : Option Addr) (n cap : Nat) (w : World) : Calls Tryz.prog 141 #[.agg #[], .slice ao n cap] w fun e w' => e = .returned (.tuple #[.int .i64 (n : Int), .bool true]) ∧ Below w.heap.size w w' := by
  go_enter Tryz.func141, Tryz.ntmps141
  go_wp2
  go_ret2
  exact ⟨rfl, bl_alloc17 w _⟩

set_option maxHeartbeats 1000000 in
theorem takeC0_18 (ao : Option Addr) (cap : Nat) (w : World) : Calls Tryz.prog 145 #[.agg #[], .slice ao 0 cap] w fun e w' => e = .returned (.tuple #[.int .i64 0, .bool false]) ∧ Below w.heap.size w w' := by
  go_enter Tryz.func145, Tryz.ntmps145
  go_wp2
  go_ret2
  exact ⟨rfl, bl_alloc17 w _⟩

set_option maxHeartbeats 1000000 in
theorem takeC18 (ao : Option Addr) (n cap : Nat) (hn : 0 < n) (w : World) : Calls Tryz.prog 145 #[.agg #[], .slice ao n cap] w fun e w' => e = .returned (.tuple #[.int .i64 1, .bool true]) ∧ Below w.heap.size w w' := by
  have h1 : ((n : Int) == 0) = false := beq_false_of_ne (by omega)
  clear hn
  go_enter Tryz.func145, Tryz.ntmps145
  go_wp2
  go_ret2
  exact ⟨rfl, bl_alloc17 w _⟩
/-- A slice of texts that can be read. -/
def TS18 (w : World) (ao : Option Addr) (k : List (List UInt8)) : Prop := ∀ (i : Nat) (p : List UInt8), k[i]? = some p → ∃ g o, ao = some ⟨g, o, none⟩ ∧ g < w.heap.size ∧ w.cell? ⟨g, o + i, none⟩ = some (.string ⟨p.toArray⟩)
theorem TS18.below {w w' : World} {ao : Option Addr} {k : List (List UInt8)} (h : TS18 w ao k) (hb : Below w.heap.size w w') : TS18 w' ao k := fun i p hp => by
  obtain ⟨g, o, h1, h2, h3⟩ := h i p hp
  exact ⟨g, o, h1, Nat.lt_of_lt_of_le h2 hb.size, (hb.cell (p := ⟨g, o + i, none⟩) h2).trans h3⟩
theorem TS18.of {w : World} {ao : Option Addr} {k : List (List UInt8)} (h : SR17 w ao k) : TS18 w ao k := fun i p hp => by
  obtain ⟨g, h1, h2, h3⟩ := h i p hp
  exact ⟨g, 0, h1, h2, by rw [Nat.zero_add]; exact h3⟩
theorem TS18.nil (w : World) (ao : Option Addr) : TS18 w ao [] := fun i p hp => by simp at hp

set_option maxHeartbeats 1000000 in
theorem takeP0_18 (s : ByteArray) (ao : Option Addr) (cap : Nat) (w : World) : Calls Tryz.prog 137 #[.string s, .slice ao 0 cap] w fun e w' => e = .returned (.tuple #[.int .i64 0, .bool false]) ∧ Below w.heap.size w w' := by
  go_enter Tryz.func137, Tryz.ntmps137
  go_wp2
  go_ret2
  exact ⟨rfl, Below.refl _ _⟩

set_option maxHeartbeats 1000000 in
theorem takeP18 (s : ByteArray) (x : List UInt8) (hs : s.data.toList = x) (ao : Option Addr) (n cap : Nat) (r : List (List UInt8)) (hn : (x :: r).length = n) (w : World) (h : TS18 w ao (x :: r)) : Calls Tryz.prog 137 #[.string s, .slice ao n cap] w fun e w' => e = .returned (.tuple #[.int .i64 1, .bool true]) ∧ Below w.heap.size w w' := by
  obtain ⟨g, o, rfl, hg, hc⟩ := h 0 x rfl
  rw [Nat.add_zero] at hc
  have h1 : ((n : Int) == 0) = false := beq_false_of_ne (by simp at hn; omega)
  have h2 : (0 : Int) < (n : Int) := by simp at hn; omega
  obtain ⟨z, hz⟩ : ∃ z : ByteArray, (⟨x.toArray⟩ : ByteArray) = z := ⟨_, rfl⟩
  rw [hz] at hc
  have hzx : z.data.toList = x := by rw [← hz]
  have e1 : (z.toList == s.toList) = true := by rw [Lib.toList_data, Lib.toList_data, hs, hzx]; simp
  clear hn h hs hz hzx
  go_enter Tryz.func137, Tryz.ntmps137
  go_wp2
  go_ret2
  exact ⟨rfl, Below.refl _ _⟩

set_option maxHeartbeats 1000000 in
theorem takePn18 (s : ByteArray) (t x : List UInt8) (hs : s.data.toList = t) (hx : (x == t) = false) (ao : Option Addr) (n cap : Nat) (r : List (List UInt8)) (hn : (x :: r).length = n) (w : World) (h : TS18 w ao (x :: r)) : Calls Tryz.prog 137 #[.string s, .slice ao n cap] w fun e w' => e = .returned (.tuple #[.int .i64 0, .bool false]) ∧ Below w.heap.size w w' := by
  obtain ⟨g, o, rfl, hg, hc⟩ := h 0 x rfl
  rw [Nat.add_zero] at hc
  have h1 : ((n : Int) == 0) = false := beq_false_of_ne (by simp at hn; omega)
  have h2 : (0 : Int) < (n : Int) := by simp at hn; omega
  obtain ⟨z, hz⟩ : ∃ z : ByteArray, (⟨x.toArray⟩ : ByteArray) = z := ⟨_, rfl⟩
  rw [hz] at hc
  have hzx : z.data.toList = x := by rw [← hz]
  have e1 : (z.toList == s.toList) = false := by rw [Lib.toList_data, Lib.toList_data, hs, hzx]; exact hx
  clear hn h hs hz hzx hx
  go_enter Tryz.func137, Tryz.ntmps137
  go_wp2
  go_ret2
  exact ⟨rfl, Below.refl _ _⟩

end Go.Proofs.YtfdjimjiikeciaaGreatDoor

namespace Go.Proofs.YtfdjimjiikeciaaGreatDoor
open Go.RowKit

theorem size_l18 (l : List UInt8) : (⟨l.toArray⟩ : ByteArray).size = l.length := by simp [ByteArray.size]
set_option maxHeartbeats 2000000 in
set_option maxRecDepth 100000 in
theorem wstrC18 (B b : Nat) (bs : List Value) (s : ByteArray) (w : World) (h : Lib.IsBuilder 100 5 B b bs w) (hlen : bs.length + s.size ≤ 140737488355328) (hBw : B ≤ w.heap.size) :
    Calls Tryz.prog 41 #[.pointer (some ⟨b, 0, none⟩), .string s] w fun e w' => e = .returned (.tuple #[.int .i64 (s.size : Int), .nilIface]) ∧ (Lib.IsBuilder 100 5 B b (bs ++ Lib.strCells s) w' ∧ Below B w w') := by
  obtain ⟨i0, hi, hz0, hz1, hz2⟩ := info_parts infoByte
  have hcc : Calls Tryz.prog 66 #[.pointer (some ⟨b, 0, none⟩)] w fun e w' => e = .returned (.tuple #[]) ∧ (Lib.BuilderAt 100 5 B b (.pointer (some ⟨b, 0, none⟩)) bs w' ∧ Below B w w') := by
    rcases h with h | h
    · refine (copyCheck_fresh b w h.cell0 h.shape h.frozen0).mono ?_
      rintro e w' ⟨rfl, rfl⟩
      exact ⟨rfl, h.used _, (Below.refl B w).setCell (p := ⟨b, 0, none⟩) h.1 _⟩
    · refine (copyCheck_used b w h.cell0).mono ?_
      rintro e w' ⟨rfl, rfl⟩
      exact ⟨rfl, h, Below.refl B _⟩
  have HCC := hid' hcc
  clear hcc h
  go_enter Tryz.func41, Tryz.ntmps41
  go_wp2_with fail
  refine HCC.out.mono ?_
  rintro e w1 ⟨rfl, h1, hb1⟩
  clear HCC
  obtain ⟨hB, v, hbk, hown, hne⟩ := h1
  have c0 : w1.cell? ⟨b, 0, none⟩ = some (.pointer (some ⟨b, 0, none⟩)) := by rw [Lib.cell_of_heap hbk]; rfl
  have c1 : w1.cell? ⟨b, 1, none⟩ = some v := by rw [Lib.cell_of_heap hbk]; rfl
  go_wp2_with (at_builtin; refine Lib.wpList_append_own_string _ rfl _ _ 98 9 rfl B 5 i0 Tryz.underlying98 Tryz.underlying9 hi hz0 hz1 hz2 _ _ _ rfl hown s rfl ?c3 ?c4 ?c5 ?_)
  case c3 => unfold maxLen; omega
  case c4 => omega
  case c5 => have := hb1.size; omega
  intro v' w2 hown' hgrow _
  have hlt : b < w1.heap.size := (Array.getElem?_eq_some_iff.1 hbk).1
  have hb2 : w2.heap[b]? = some (.cells #[.pointer (some ⟨b, 0, none⟩), v] 100 (0, 0)) := by
    rw [hgrow.block b (by omega) (fun e => hne e.symm)]
    exact hbk
  have d1 : w2.cell? ⟨b, 1, none⟩ = some v := by rw [Lib.cell_of_heap hb2]; rfl
  have f1 : w2.frozen? ⟨b, 1, none⟩ = false := Lib.frozen_of_heap hb2 1
  obtain ⟨ao, n', cap, rfl⟩ : ∃ ao n' cap, v' = .slice ao n' cap := by
    rcases hown'.2 with ⟨h, _⟩ | ⟨g, cap, cur, hv, _⟩
    · exact ⟨_, _, _, h⟩
    · exact ⟨_, _, _, hv⟩
  go_wp2
  go_ret2
  refine ⟨rfl, ?_, ?_⟩
  · exact .inr (Lib.BuilderAt.put (T := 100) (e := 5) hB hb2 (bs' := bs ++ Lib.strCells s) (by simpa [Lib.strCells_length] using hown') (by decide))
  · exact (hb1.grown hgrow (by have := hb1.size; omega) (fun k hk => (hown.lt k hk).1)).setCell (p := ⟨b, 1, none⟩) hB _

theorem wstr18 (B b : Nat) (l s : List UInt8) (w : World) (h : Bld w B b l) (hlen : l.length + s.length ≤ 140737488355328) (hBw : B ≤ w.heap.size) :
    Calls Tryz.prog 41 #[.pointer (some ⟨b, 0, none⟩), .string ⟨s.toArray⟩] w fun e w' => e = .returned (.tuple #[.int .i64 (s.length : Int), .nilIface]) ∧ (Bld w' B b (l ++ s) ∧ Below B w w') := by
  refine (wstrC18 B b (Lib.byteCells l) ⟨s.toArray⟩ w h (by rw [Lib.byteCells_length, size_l18]; exact hlen) hBw).mono ?_
  rintro e w' ⟨rfl, h1, h2⟩
  refine ⟨by rw [size_l18], ?_, h2⟩
  have : Lib.byteCells (l ++ s) = Lib.byteCells l ++ Lib.strCells ⟨s.toArray⟩ := by simp [Lib.byteCells, Lib.strCells]
  unfold Bld
  rw [this]
  exact h1


theorem str18 (B b : Nat) (l : List UInt8) (w : World) (h : Bld w B b l) (hBw : B ≤ w.heap.size) :
    Calls Tryz.prog 42 #[.pointer (some ⟨b, 0, none⟩)] w fun e w' => e = .returned (.string ⟨l.toArray⟩) ∧ Below B w w' := by
  refine (Tryz.Builder_String_any_k B b l w (Lib.IsBuilderF.of h) hBw).mono ?_
  rintro e w' ⟨rfl, _, hb, ho⟩
  exact ⟨rfl, hb⟩
theorem zeroBd18 : (Tryz.prog.info? 100).map (fun i => i.zero) = some (some (.agg #[.pointer none, .slice none 0 0])) := by kernel_rfl
/-- A row of parts that can be read. -/
def PU18 (w : World) (ao : Option Addr) (ps : List Rt.Prt) : Prop := ∀ (i : Nat) (p : Rt.Prt), ps[i]? = some p → ∃ g, ao = some ⟨g, 0, none⟩ ∧ g < w.heap.size ∧ w.cell? ⟨g, i, none⟩ = some (pU18 p)
theorem PU18.below {w w' : World} {ao : Option Addr} {ps : List Rt.Prt} (h : PU18 w ao ps) (hb : Below w.heap.size w w') : PU18 w' ao ps := fun i p hp => by
  obtain ⟨g, h1, h2, h3⟩ := h i p hp
  exact ⟨g, h1, Nat.lt_of_lt_of_le h2 hb.size, (hb.cell (p := ⟨g, i, none⟩) h2).trans h3⟩

set_option maxHeartbeats 2000000 in
set_option maxRecDepth 20000 in
theorem cshape18 (ao : Option Addr) (n cap : Nat) (ps : List Rt.Prt) (hn : ps.length = n) (hnb : n ≤ 4194305) (hg : ∀ p ∈ ps, Rt.Gp p) (hsz : (Rt.txt ps).length ≤ 67108864) (w : World) (h : PU18 w ao ps) :
    Calls Tryz.prog 20 #[.slice ao n cap] w fun e w' => e = .returned (.string ⟨(Rt.txt ps).toArray⟩) ∧ Below w.heap.size w w' := by
  have H := hid' h
  have HN := hid' hn
  have HG := hid' hg
  have HSZ := hid' hsz
  clear h hn hg hsz
  go_enter Tryz.func20, Tryz.ntmps20
  go_wp2_with (refine wpl_alloc 100 rfl rfl _ zeroBd18 ?_)
  intro b w1 hb1 ha1 hl1
  have HS1 : Hid (Bld w1 w.heap.size b [] ∧ Below w.heap.size w w1) := hid' ⟨bld_new w b w1 hb1 ha1, hl1⟩
  clear hb1 ha1 hl1
  go_wp2
  go_loopw [8] (fun s8 wr => ∃ i : Nat, s8 = .int .i64 (i : Int) ∧ i ≤ n ∧ Hid (Bld wr w.heap.size b (Rt.txt (ps.take i))) ∧ Hid (Below w.heap.size w wr)) (fun s8 _ => n - (intOf s8).toNat)
  case atStart => exact ⟨0, rfl, Nat.zero_le _, hid' HS1.out.1, hid' HS1.out.2⟩
  case round =>
    obtain ⟨i, rfl, hi, HO, HB⟩ := hrel
    by_cases hlt : i < n
    · have hlt2 : (i : Int) < (n : Int) := by omega
      obtain ⟨p, hp⟩ : ∃ p, ps[i]? = some p := ⟨_, List.getElem?_eq_getElem (by rw [HN.out]; exact hlt)⟩
      obtain ⟨g, rfl, hgl, y0⟩ := H.out i p hp
      have y1 := (HB.out.cell (p := ⟨g, i, none⟩) hgl).trans y0
      have HGP := hid' (HG.out p (List.mem_of_getElem? hp))
      have HTK : Hid (Rt.txt (ps.take (i + 1)) = Rt.txt (ps.take i) ++ [47] ++ Rt.shp p) := hid' (by rw [List.take_add_one, hp]; simp [Rt.txt])
      have HTL : Hid ((Rt.txt (ps.take (i + 1))).length ≤ (Rt.txt ps).length) := hid' (by
        conv => rhs; rw [← List.take_append_drop (i + 1) ps]
        unfold Rt.txt
        rw [List.flatMap_append, List.length_append]
        omega)
      have HW1 := hid' (wstr18 w.heap.size b (Rt.txt (ps.take i)) [47] wr HO.out (by have := HSZ.out; have := HTL.out; rw [HTK.out] at this; simp at this; simp; omega) HB.out.size)
      clear hp y0
      rcases Rt.k3 HGP.out with hk | hk | hk
      · have e1 : pU18 p = .iface 121 (.string ⟨p.t.toArray⟩) := by unfold pU18; rw [hk]; rfl
        rw [e1] at y1
        have HSP : Hid (Rt.shp p = p.t) := hid' (by unfold Rt.shp; rw [hk]; rfl)
        have mm := mshapeP18 ⟨p.t.toArray⟩
        go_wp2_with fail
        refine HW1.out.mono ?_
        rintro e w2 ⟨rfl, h1, h2⟩
        have HO2 := hid' h1
        have HB2 := hid' (HB.out.trans h2)
        clear h1 h2
        go_wp2_with fail
        refine (shapeP18 ⟨p.t.toArray⟩ w2).mono ?_
        rintro e w3 ⟨rfl, h3⟩
        have HB3 := hid' (HB2.out.trans (h3.mono HB2.out.size))
        have HO3 := hid' (bld_keep HO2.out h3)
        have HW2 := hid' (wstr18 w.heap.size b _ (p.t) w3 HO3.out (by have := HSZ.out; have := HTL.out; rw [HTK.out, HSP.out, List.length_append] at this; omega) HB3.out.size)
        clear h3
        go_wp2_with fail
        refine HW2.out.mono ?_
        rintro e w4 ⟨rfl, h1, h2⟩
        have HO4 := hid' h1
        have HB4 := hid' (HB3.out.trans h2)
        clear h1 h2
        go_wp2
        go_roundw
        case rel => exact ⟨i + 1, by go_num, by omega, hid' (by rw [HTK.out, HSP.out]; exact HO4.out), HB4⟩
        case measure => simp [intOf]; omega
      · have e1 : pU18 p = .iface 124 (.agg #[]) := by unfold pU18; rw [hk]; rfl
        rw [e1] at y1
        have HSP : Hid (Rt.shp p = [123, 125]) := hid' (by unfold Rt.shp; rw [hk]; rfl)
        have mm := mshapeC18
        go_wp2_with fail
        refine HW1.out.mono ?_
        rintro e w2 ⟨rfl, h1, h2⟩
        have HO2 := hid' h1
        have HB2 := hid' (HB.out.trans h2)
        clear h1 h2
        go_wp2_with fail
        refine (shapeC18 w2).mono ?_
        rintro e w3 ⟨rfl, h3⟩
        have HB3 := hid' (HB2.out.trans (h3.mono HB2.out.size))
        have HO3 := hid' (bld_keep HO2.out h3)
        have HW2 := hid' (wstr18 w.heap.size b _ ([123, 125]) w3 HO3.out (by have := HSZ.out; have := HTL.out; rw [HTK.out, HSP.out, List.length_append] at this; omega) HB3.out.size)
        clear h3
        go_wp2_with fail
        refine HW2.out.mono ?_
        rintro e w4 ⟨rfl, h1, h2⟩
        have HO4 := hid' h1
        have HB4 := hid' (HB3.out.trans h2)
        clear h1 h2
        go_wp2
        go_roundw
        case rel => exact ⟨i + 1, by go_num, by omega, hid' (by rw [HTK.out, HSP.out]; exact HO4.out), HB4⟩
        case measure => simp [intOf]; omega
      · have e1 : pU18 p = .iface 123 (.agg #[]) := by unfold pU18; rw [hk]; rfl
        rw [e1] at y1
        have HSP : Hid (Rt.shp p = [123, 46, 46, 46, 125]) := hid' (by unfold Rt.shp; rw [hk]; rfl)
        have mm := mshapeR18
        go_wp2_with fail
        refine HW1.out.mono ?_
        rintro e w2 ⟨rfl, h1, h2⟩
        have HO2 := hid' h1
        have HB2 := hid' (HB.out.trans h2)
        clear h1 h2
        go_wp2_with fail
        refine (shapeR18 w2).mono ?_
        rintro e w3 ⟨rfl, h3⟩
        have HB3 := hid' (HB2.out.trans (h3.mono HB2.out.size))
        have HO3 := hid' (bld_keep HO2.out h3)
        have HW2 := hid' (wstr18 w.heap.size b _ ([123, 46, 46, 46, 125]) w3 HO3.out (by have := HSZ.out; have := HTL.out; rw [HTK.out, HSP.out, List.length_append] at this; omega) HB3.out.size)
        clear h3
        go_wp2_with fail
        refine HW2.out.mono ?_
        rintro e w4 ⟨rfl, h1, h2⟩
        have HO4 := hid' h1
        have HB4 := hid' (HB3.out.trans h2)
        clear h1 h2
        go_wp2
        go_roundw
        case rel => exact ⟨i + 1, by go_num, by omega, hid' (by rw [HTK.out, HSP.out]; exact HO4.out), HB4⟩
        case measure => simp [intOf]; omega
    · have hlt2 : ¬ (i : Int) < (n : Int) := by omega
      have HT : Hid (Rt.txt (ps.take i) = Rt.txt ps) := hid' (by rw [List.take_of_length_le (by rw [HN.out]; omega)])
      rw [HT.out] at HO
      have HST := hid' (str18 w.heap.size b (Rt.txt ps) wr HO.out HB.out.size)
      go_wp2_with fail
      refine HST.out.mono ?_
      rintro e w2 ⟨rfl, h2⟩
      have HB2 := hid' (HB.out.trans h2)
      clear h2
      go_wp2
      go_ret
      exact ⟨rfl, HB2.out⟩

end Go.Proofs.YtfdjimjiikeciaaGreatDoor

namespace Go.Proofs.YtfdjimjiikeciaaGreatDoor
open Go.RowKit

theorem cjoin18 (ao : Option Addr) (n cap : Nat) (k : List (List UInt8)) (hn : k.length = n) (hc : n ≤ cap) (w : World) (h : TS18 w ao k) (hsz : (k.map List.length).sum + k.length ≤ 16777216) :
    Calls Tryz.prog 54 #[.slice ao n cap, .string ⟨#[47]⟩] w fun e w' => e = .returned (.string ⟨(Pt.join k).toArray⟩) ∧ Below w.heap.size w w' := by
  cases k with
  | nil =>
    obtain rfl : 0 = n := hn
    refine (Tryz.strings_Join_none ao cap ⟨#[47]⟩ w).mono ?_
    rintro e w' ⟨rfl, rfl⟩
    exact ⟨rfl, Below.refl _ _⟩
  | cons p r =>
    obtain ⟨g, o, rfl, hg, _⟩ := h 0 p rfl
    obtain ⟨xs, hxs⟩ : ∃ xs : List ByteArray, xs = (p :: r).map (fun x => (⟨x.toArray⟩ : ByteArray)) := ⟨_, rfl⟩
    have e1 : xs.map (·.data.toList) = p :: r := by rw [hxs, List.map_map]; simp [Function.comp_def]
    have e2 : xs.length = n := by rw [hxs, List.length_map]; exact hn
    have hj := Pt.join_len (p :: r)
    have c := Tryz.strings_Join g o cap xs ⟨#[47]⟩ w (fun j x hx => by
      rw [hxs, List.getElem?_map] at hx
      obtain ⟨q, hq, rfl⟩ := Option.map_eq_some_iff.1 hx
      obtain ⟨g', o', hg', _, h2⟩ := h j q hq
      injection hg' with hg'
      injection hg' with hg' ho'
      subst hg' ho'
      exact h2) hg (by rw [e2, ← hn]; omega) (by rw [e2]; exact hc) (by
        rw [e1, show (⟨#[47]⟩ : ByteArray).data.toList = [47] from rfl, Pt.join_lib]; omega)
    rw [e1, e2, show (⟨#[47]⟩ : ByteArray).data.toList = [47] from rfl, Pt.join_lib] at c
    exact c

set_option maxHeartbeats 1000000 in
theorem catchP18 (s : ByteArray) (ro : Option Addr) (c rc : Nat) (ao : Option Addr) (n cap : Nat) (f : Bool) (w : World) :
    Calls Tryz.prog 134 #[.string s, .slice ro c rc, .slice ao n cap, .bool f] w fun e w' => e = .returned (.slice ro c rc) ∧ Below w.heap.size w w' := by
  go_enter Tryz.func134, Tryz.ntmps134
  go_wp2
  go_ret
  exact ⟨rfl, Below.refl _ _⟩
/-- What a catch leaves: a row of texts of one's own, with one more. -/
def ctR18 (B : Nat) (c : Nat) (Z : List (List UInt8)) (x : List UInt8) (w : World) (e : Ending) (w' : World) : Prop := ∃ ro rc, e = .returned (.slice ro (c + 1) rc) ∧ w'.ownsRow B 9 1 (.slice ro (c + 1) rc) (c + 1) (sC17 (Z ++ [x])) ∧ Below B w w'

set_option maxHeartbeats 1000000 in
theorem catchC18 (B : Nat) (ro : Option Addr) (c rc : Nat) (Z : List (List UInt8)) (ao : Option Addr) (cap : Nat) (x : List UInt8) (f : Bool) (hcb : c ≤ 4194305) (w : World) (hB : B ≤ w.heap.size) (hO : w.ownsRow B 9 1 (.slice ro c rc) c (sC17 Z)) (h : TS18 w ao [x]) :
    Calls Tryz.prog 142 #[.agg #[], .slice ro c rc, .slice ao 1 cap, .bool f] w (ctR18 B c Z x w) := by
  obtain ⟨i0, hi0, hz0, hz1, hz2⟩ := minfo17 infoS17
  have HI := hid' hi0
  have HZ0 := hid' hz0
  have HZ1 := hid' hz1
  have HZ2 := hid' hz2
  clear hi0 hz0 hz1 hz2
  obtain ⟨g, o, rfl, hg, hc⟩ := h 0 x rfl
  have HA : Hid ((w.alloc (.cells #[] 124)).ownsRow B 9 1 (.slice ro c rc) c (sC17 Z)) := hid' (hO.alloc _)
  have HC : Hid (∀ j u, [Value.string ⟨x.toArray⟩][j]? = some u → (w.alloc (.cells #[] 124)).cell? ((⟨g, o, none⟩ : Addr).add j) = some u) := hid' (fun j u hj => by
    cases j with
    | zero =>
      simp at hj
      subst hj
      rw [Addr.add_mid]
      exact ((bl_alloc17 w _).cell (p := ⟨g, o + 0, none⟩) hg).trans hc
    | succ j => simp at hj)
  have HBW := hid' hB
  have HO := hid' hO
  clear h hg hc hO hB
  go_enter Tryz.func142, Tryz.ntmps142
  go_wp2_with (at_builtin; refine wpList_append_own_at _ rfl _ _ 47 rfl B 9 i0 (.string ⟨#[]⟩) 1 16 Tryz.underlying47 HI.out HZ0.out HZ1.out HZ2.out rfl (by decide) (.slice ro c rc) c (sC17 Z) rfl HA.out ⟨g, o, none⟩ 1 cap [.string ⟨x.toArray⟩] rfl rfl HC.out (by simp [Value.oneCell']) (by unfold maxLen; omega) (by omega) (by simp; have := HBW.out; omega) ?_; intro v3 w3 hown3 hgrow3 _ _; refine Hid.out ?_)
  refine hid' ?_
  have e : sC17 Z ++ [Value.string ⟨x.toArray⟩] = sC17 (Z ++ [x]) := by rw [sC17_app]; rfl
  rw [e] at hown3
  obtain ⟨v3o, v3c, hv3⟩ := own_shape17 hown3
  subst hv3
  have HO3 := hid' hown3
  have HB3 : Hid (Below B w w3) := hid' (((Below.refl B w).alloc HBW.out _).grown hgrow3 (by simp; have := HBW.out; omega) (fun k hk => (HA.out.lt k hk).1))
  clear hown3 hgrow3 e
  go_wp2
  go_ret
  exact ⟨v3o, v3c, rfl, HO3.out, HB3.out⟩

set_option maxHeartbeats 2000000 in
set_option maxRecDepth 20000 in
theorem catchR18 (B : Nat) (ro : Option Addr) (c rc : Nat) (Z : List (List UInt8)) (ao : Option Addr) (n cap : Nat) (k : List (List UInt8)) (f : Bool) (hn : k.length = n) (hcp : n ≤ cap) (hsz : (k.map List.length).sum + k.length ≤ 16777216) (hcb : c ≤ 4194305) (w : World) (hB : B ≤ w.heap.size) (hO : w.ownsRow B 9 1 (.slice ro c rc) c (sC17 Z)) (h : TS18 w ao k) :
    Calls Tryz.prog 138 #[.agg #[], .slice ro c rc, .slice ao n cap, .bool f] w (ctR18 B c Z (Pt.join k ++ (if !k.isEmpty && f then [47] else [])) w) := by
  obtain ⟨i0, hi0, hz0, hz1, hz2⟩ := minfo17 infoS17
  have HI := hid' hi0
  have HZ0 := hid' hz0
  have HZ1 := hid' hz1
  have HZ2 := hid' hz2
  clear hi0 hz0 hz1 hz2
  have hJL : (Pt.join k).length ≤ 16777216 := Nat.le_trans (Pt.join_len _) hsz
  have HJ := hid' (cjoin18 ao n cap k hn hcp (w.alloc (.cells #[] 123)) (h.below (bl_alloc17 w _)) hsz)
  obtain ⟨V, hV⟩ : ∃ V, Pt.join k ++ (if !k.isEmpty && f then [47] else []) = V := ⟨_, rfl⟩
  rw [hV]
  obtain ⟨J, hJ⟩ : ∃ J, Pt.join k = J := ⟨_, rfl⟩
  rw [hJ] at HJ hJL hV
  obtain ⟨jj, hjj⟩ : ∃ z : ByteArray, (⟨J.toArray⟩ : ByteArray) = z := ⟨_, rfl⟩
  have kk1 : ¬ 9223372036854775807 < jj.size + 1 := by rw [← hjj]; simp [ByteArray.size]; omega
  have HBW := hid' hB
  have HO := hid' hO
  rw [hjj] at HJ
  cases f
  · rw [Bool.and_false] at hV
    simp only [Bool.false_eq_true, if_false] at hV
    have hzz : jj = jj := rfl
    have HVZ : Hid ((⟨V.toArray⟩ : ByteArray) = jj) := hid' (by rw [← hV, ← hjj]; simp)
    clear hV hJ hjj hn hsz hO h hB hJL hzz
    go_enter Tryz.func138, Tryz.ntmps138
    go_wp2_with fail
    refine HJ.out.mono ?_
    rintro e w1 ⟨rfl, hb1⟩
    have HB1 : Hid (Below w.heap.size w w1) := hid' (below_two (bl_alloc17 w _) hb1)
    clear hb1
    have HSZ1 : Hid (B ≤ w1.heap.size) := hid' (Nat.le_trans HBW.out HB1.out.size)
    have HA : Hid ((w1.alloc (.cells #[.string jj] 9)).ownsRow B 9 1 (.slice ro c rc) c (sC17 Z)) := hid' ((own_kp17 HO.out HB1.out).alloc _)
    go_wp2_with (at_builtin; refine wpList_append_own_at _ rfl _ _ 47 rfl B 9 i0 (.string ⟨#[]⟩) 1 16 Tryz.underlying47 HI.out HZ0.out HZ1.out HZ2.out rfl (by decide) (.slice ro c rc) c (sC17 Z) rfl HA.out ⟨w1.heap.size, 0, none⟩ 1 1 [.string jj] rfl rfl (one_cell17 _ _ _) (by simp [Value.oneCell']) (by unfold maxLen; omega) (by omega) (by simp; have := HSZ1.out; omega) ?_; intro v3 w3 hown3 hgrow3 _ _; refine Hid.out ?_)
    refine hid' ?_
    have e : sC17 Z ++ [Value.string jj] = sC17 (Z ++ [V]) := by rw [sC17_app, ← HVZ.out]; rfl
    rw [e] at hown3
    obtain ⟨v3o, v3c, hv3⟩ := own_shape17 hown3
    subst hv3
    have HO3 := hid' hown3
    have HB3 : Hid (Below B w w3) := hid' (((HB1.out.mono HBW.out).alloc HSZ1.out _).grown hgrow3 (by simp; have := HSZ1.out; omega) (fun k hk => (HA.out.lt k hk).1))
    clear hown3 hgrow3 e
    go_wp2
    go_ret
    exact ⟨v3o, v3c, rfl, HO3.out, HB3.out⟩
  · by_cases hk : k = []
    · obtain rfl : 0 = n := by rw [← hn, hk]; rfl
      rw [hk] at hV
      simp only [List.isEmpty_nil, Bool.not_true, Bool.false_and, Bool.false_eq_true, if_false] at hV
      clear hk
      have hzz : jj = jj := rfl
      have HVZ : Hid ((⟨V.toArray⟩ : ByteArray) = jj) := hid' (by rw [← hV, ← hjj]; simp)
      clear hV hJ hjj hsz hO h hB hJL hzz
      go_enter Tryz.func138, Tryz.ntmps138
      go_wp2_with fail
      refine HJ.out.mono ?_
      rintro e w1 ⟨rfl, hb1⟩
      have HB1 : Hid (Below w.heap.size w w1) := hid' (below_two (bl_alloc17 w _) hb1)
      clear hb1
      have HSZ1 : Hid (B ≤ w1.heap.size) := hid' (Nat.le_trans HBW.out HB1.out.size)
      have HA : Hid ((w1.alloc (.cells #[.string jj] 9)).ownsRow B 9 1 (.slice ro c rc) c (sC17 Z)) := hid' ((own_kp17 HO.out HB1.out).alloc _)
      go_wp2_with (at_builtin; refine wpList_append_own_at _ rfl _ _ 47 rfl B 9 i0 (.string ⟨#[]⟩) 1 16 Tryz.underlying47 HI.out HZ0.out HZ1.out HZ2.out rfl (by decide) (.slice ro c rc) c (sC17 Z) rfl HA.out ⟨w1.heap.size, 0, none⟩ 1 1 [.string jj] rfl rfl (one_cell17 _ _ _) (by simp [Value.oneCell']) (by unfold maxLen; omega) (by omega) (by simp; have := HSZ1.out; omega) ?_; intro v3 w3 hown3 hgrow3 _ _; refine Hid.out ?_)
      refine hid' ?_
      have e : sC17 Z ++ [Value.string jj] = sC17 (Z ++ [V]) := by rw [sC17_app, ← HVZ.out]; rfl
      rw [e] at hown3
      obtain ⟨v3o, v3c, hv3⟩ := own_shape17 hown3
      subst hv3
      have HO3 := hid' hown3
      have HB3 : Hid (Below B w w3) := hid' (((HB1.out.mono HBW.out).alloc HSZ1.out _).grown hgrow3 (by simp; have := HSZ1.out; omega) (fun k hk => (HA.out.lt k hk).1))
      clear hown3 hgrow3 e
      go_wp2
      go_ret
      exact ⟨v3o, v3c, rfl, HO3.out, HB3.out⟩
    · have hn0 : (0 : Int) < (n : Int) := by have := List.length_pos_iff.2 hk; omega
      have hke : k.isEmpty = false := by rw [List.isEmpty_eq_false_iff]; exact hk
      rw [hke] at hV
      simp only [Bool.not_false, Bool.true_and, if_true] at hV
      clear hk hke
      obtain ⟨zz, hzz⟩ : ∃ z : ByteArray, jj ++ ⟨#[47]⟩ = z := ⟨_, rfl⟩
      have HVZ : Hid ((⟨V.toArray⟩ : ByteArray) = zz) := hid' (by rw [← hV, ← hzz, ← hjj]; apply ByteArray.ext; simp)
      clear hV hJ hjj hn hsz hO h hB hJL
      go_enter Tryz.func138, Tryz.ntmps138
      go_wp2_with fail
      refine HJ.out.mono ?_
      rintro e w1 ⟨rfl, hb1⟩
      have HB1 : Hid (Below w.heap.size w w1) := hid' (below_two (bl_alloc17 w _) hb1)
      clear hb1
      have HSZ1 : Hid (B ≤ w1.heap.size) := hid' (Nat.le_trans HBW.out HB1.out.size)
      have HA : Hid ((w1.alloc (.cells #[.string zz] 9)).ownsRow B 9 1 (.slice ro c rc) c (sC17 Z)) := hid' ((own_kp17 HO.out HB1.out).alloc _)
      go_wp2_with (at_builtin; refine wpList_append_own_at _ rfl _ _ 47 rfl B 9 i0 (.string ⟨#[]⟩) 1 16 Tryz.underlying47 HI.out HZ0.out HZ1.out HZ2.out rfl (by decide) (.slice ro c rc) c (sC17 Z) rfl HA.out ⟨w1.heap.size, 0, none⟩ 1 1 [.string zz] rfl rfl (one_cell17 _ _ _) (by simp [Value.oneCell']) (by unfold maxLen; omega) (by omega) (by simp; have := HSZ1.out; omega) ?_; intro v3 w3 hown3 hgrow3 _ _; refine Hid.out ?_)
      refine hid' ?_
      have e : sC17 Z ++ [Value.string zz] = sC17 (Z ++ [V]) := by rw [sC17_app, ← HVZ.out]; rfl
      rw [e] at hown3
      obtain ⟨v3o, v3c, hv3⟩ := own_shape17 hown3
      subst hv3
      have HO3 := hid' hown3
      have HB3 : Hid (Below B w w3) := hid' (((HB1.out.mono HBW.out).alloc HSZ1.out _).grown hgrow3 (by simp; have := HSZ1.out; omega) (fun k hk => (HA.out.lt k hk).1))
      clear hown3 hgrow3 e
      go_wp2
      go_ret
      exact ⟨v3o, v3c, rfl, HO3.out, HB3.out⟩

end Go.Proofs.YtfdjimjiikeciaaGreatDoor
