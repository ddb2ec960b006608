/-
  The code's changed and Parse: by their contracts.
-/
import Derived.Test.YtekpjbhhbklboaaDoorPrT
import Derived.Test.YtekpjbhhbklboaaDoorTrims
namespace Go.Proofs.YtekpjbhhbklboaaDoor
open Go.RowKit

theorem ar_second' (w : World) (t : TypeId) (c : Array Value) (x : Obj) : Ar ((w.alloc x).alloc (.cells c t)) (w.heap.size + 1) t c := by
  have := heap_alloc_last (w.alloc x) (.cells c t)
  have e : (w.alloc x).heap.size = w.heap.size + 1 := by simp
  rw [e] at this
  exact this
theorem bl2' (w : World) (x y : Obj) : Below w.heap.size w ((w.alloc x).alloc y) := below_two ((Below.refl _ _).alloc (Nat.le_refl _) _) ((Below.refl _ _).alloc (Nat.le_refl _) _)

set_option maxHeartbeats 2000000 in
set_option maxRecDepth 20000 in
theorem cchg_no (u : Nat) (p : Bool) (t : List UInt8) (h : Lib.hasPrefix t [117, 61] = false) (w : World) :
    Calls Tryd.prog 26 #[.agg #[.int .i64 (u : Int), .bool p], .string ⟨t.toArray⟩] w fun e w' => e = .returned (.agg #[.int .i64 (u : Int), .bool (Pr.chgP p t)]) ∧ Below w.heap.size w w' := by
  have HP := hid' h
  clear h
  cases h1 : (t == [105]) with
  | true =>
    have HE : Hid (Pr.chgP p t = true) := hid' (by unfold Pr.chgP; rw [if_pos h1])
    go_enter Tryd.func26, Tryd.ntmps26
    go_wp2_with fail
    refine (Tryd.strings_CutPrefix ⟨t.toArray⟩ ⟨#[117, 61]⟩ _).mono ?_
    rintro e w1 ⟨rfl, hw⟩
    subst w1
    rw [show Lib.hasPrefix (⟨t.toArray⟩ : ByteArray).data.toList (⟨#[117, 61]⟩ : ByteArray).data.toList = false from HP.out]
    clear h1
    go_wp2
    refine bodyPost_ret (v := .agg #[.int .i64 (u : Int), .bool true]) (by simp [results, Tryd.results26, asAddr, ldPri (ar_second' _ _ _ _)]) rfl ⟨by rw [HE.out], bl2' _ _ _⟩
  | false =>
    cases h2 : (t == [105, 61, 63, 49]) with
    | true =>
      have HE : Hid (Pr.chgP p t = true) := hid' (by unfold Pr.chgP; rw [if_neg (by rw [h1]; simp), if_pos h2])
      go_enter Tryd.func26, Tryd.ntmps26
      go_wp2_with fail
      refine (Tryd.strings_CutPrefix ⟨t.toArray⟩ ⟨#[117, 61]⟩ _).mono ?_
      rintro e w1 ⟨rfl, hw⟩
      subst w1
      rw [show Lib.hasPrefix (⟨t.toArray⟩ : ByteArray).data.toList (⟨#[117, 61]⟩ : ByteArray).data.toList = false from HP.out]
      clear h1 h2
      go_wp2
      refine bodyPost_ret (v := .agg #[.int .i64 (u : Int), .bool true]) (by simp [results, Tryd.results26, asAddr, ldPri (ar_second' _ _ _ _)]) rfl ⟨by rw [HE.out], bl2' _ _ _⟩
    | false =>
      cases h3 : (t == [105, 61, 63, 48]) with
      | true =>
        have HE : Hid (Pr.chgP p t = false) := hid' (by unfold Pr.chgP; rw [if_neg (by rw [h1]; simp), if_neg (by rw [h2]; simp), if_pos h3])
        go_enter Tryd.func26, Tryd.ntmps26
        go_wp2_with fail
        refine (Tryd.strings_CutPrefix ⟨t.toArray⟩ ⟨#[117, 61]⟩ _).mono ?_
        rintro e w1 ⟨rfl, hw⟩
        subst w1
        rw [show Lib.hasPrefix (⟨t.toArray⟩ : ByteArray).data.toList (⟨#[117, 61]⟩ : ByteArray).data.toList = false from HP.out]
        clear h1 h2 h3
        go_wp2
        refine bodyPost_ret (v := .agg #[.int .i64 (u : Int), .bool false]) (by simp [results, Tryd.results26, asAddr, ldPri (ar_second' _ _ _ _)]) rfl ⟨by rw [HE.out], bl2' _ _ _⟩
      | false =>
        have HE : Hid (Pr.chgP p t = p) := hid' (by unfold Pr.chgP; rw [if_neg (by rw [h1]; simp), if_neg (by rw [h2]; simp), if_neg (by rw [h3]; simp)])
        go_enter Tryd.func26, Tryd.ntmps26
        go_wp2_with fail
        refine (Tryd.strings_CutPrefix ⟨t.toArray⟩ ⟨#[117, 61]⟩ _).mono ?_
        rintro e w1 ⟨rfl, hw⟩
        subst w1
        rw [show Lib.hasPrefix (⟨t.toArray⟩ : ByteArray).data.toList (⟨#[117, 61]⟩ : ByteArray).data.toList = false from HP.out]
        clear h1 h2 h3
        go_wp2
        refine bodyPost_ret (v := .agg #[.int .i64 (u : Int), .bool p]) (by simp [results, Tryd.results26, asAddr, ldPri (ar_second' _ _ _ _)]) rfl ⟨by rw [HE.out], bl2' _ _ _⟩

set_option maxHeartbeats 2000000 in
set_option maxRecDepth 20000 in
theorem cchg_yes (u : Nat) (p : Bool) (t : List UInt8) (h : Lib.hasPrefix t [117, 61] = true) (w : World) :
    Calls Tryd.prog 26 #[.agg #[.int .i64 (u : Int), .bool p], .string ⟨t.toArray⟩] w fun e w' => e = .returned (.agg #[.int .i64 ((Pr.chgU u t : Nat) : Int), .bool (Pr.chgP p t)]) ∧ Below w.heap.size w w' := by
  have HP := hid' h
  obtain ⟨d, hd⟩ : ∃ d, Lib.trimPrefix t [117, 61] = d := ⟨_, rfl⟩
  have ht := Pr.pre_yes h
  rw [hd] at ht
  have HT := hid' hd
  have h1 : (t == [105]) = false := by rw [ht]; simp
  have h2 : (t == [105, 61, 63, 49]) = false := by rw [ht]; simp
  have h3 : (t == [105, 61, 63, 48]) = false := by rw [ht]; simp
  have HPP : Hid (Pr.chgP p t = p) := hid' (by rw [ht]; exact Pr.chgP_pre)
  clear h hd
  by_cases hl : d.length = 1
  · obtain ⟨c, rfl⟩ : ∃ c, d = [c] := by
      match d, hl with
      | [c], _ => exact ⟨c, rfl⟩
    have hz : ∀ h, (⟨#[c]⟩ : ByteArray)[0]'h = c := fun _ => rfl
    by_cases hlo : c.toNat < 48
    · have HE : Hid (Pr.chgU u t = u) := hid' (by rw [ht]; exact Pr.chgU_out (by omega))
      have k1 : ¬ (48 : Int) ≤ (c.toNat : Int) := by omega
      have k2 : decide ((48 : Int) ≤ (c.toNat : Int)) = false := decide_eq_false k1
      have k3 : decide (48 ≤ c.toNat) = false := decide_eq_false (by omega)
      clear ht hl
      go_enter Tryd.func26, Tryd.ntmps26
      go_wp2_with fail
      refine (Tryd.strings_CutPrefix ⟨t.toArray⟩ ⟨#[117, 61]⟩ _).mono ?_
      rintro e w1 ⟨rfl, hw⟩
      subst w1
      rw [show Lib.hasPrefix (⟨t.toArray⟩ : ByteArray).data.toList (⟨#[117, 61]⟩ : ByteArray).data.toList = true from HP.out, show Lib.trimPrefix (⟨t.toArray⟩ : ByteArray).data.toList (⟨#[117, 61]⟩ : ByteArray).data.toList = [c] from HT.out]
      clear h1 h2 h3
      go_wp2
      refine bodyPost_ret (v := .agg #[.int .i64 (u : Int), .bool p]) (by simp [results, Tryd.results26, asAddr, ldPri (ar_second' _ _ _ _)]) rfl ⟨by rw [HE.out, HPP.out], bl2' _ _ _⟩
    by_cases hhi : 55 < c.toNat
    · have HE : Hid (Pr.chgU u t = u) := hid' (by rw [ht]; exact Pr.chgU_out (by omega))
      have k1 : (48 : Int) ≤ (c.toNat : Int) := by omega
      have k2 : decide ((48 : Int) ≤ (c.toNat : Int)) = true := decide_eq_true k1
      have k4 : ¬ (c.toNat : Int) ≤ (55 : Int) := by omega
      have k5 : decide ((c.toNat : Int) ≤ (55 : Int)) = false := decide_eq_false k4
      have k6 : decide (c.toNat ≤ 55) = false := decide_eq_false (by omega)
      clear ht hl hlo
      go_enter Tryd.func26, Tryd.ntmps26
      go_wp2_with fail
      refine (Tryd.strings_CutPrefix ⟨t.toArray⟩ ⟨#[117, 61]⟩ _).mono ?_
      rintro e w1 ⟨rfl, hw⟩
      subst w1
      rw [show Lib.hasPrefix (⟨t.toArray⟩ : ByteArray).data.toList (⟨#[117, 61]⟩ : ByteArray).data.toList = true from HP.out, show Lib.trimPrefix (⟨t.toArray⟩ : ByteArray).data.toList (⟨#[117, 61]⟩ : ByteArray).data.toList = [c] from HT.out]
      clear h1 h2 h3
      go_wp2
      refine bodyPost_ret (v := .agg #[.int .i64 (u : Int), .bool p]) (by simp [results, Tryd.results26, asAddr, ldPri (ar_second' _ _ _ _)]) rfl ⟨by rw [HE.out, HPP.out], bl2' _ _ _⟩
    · obtain ⟨m, hm⟩ : ∃ m, c.toNat = m + 48 := ⟨c.toNat - 48, by omega⟩
      have HE : Hid (Pr.chgU u t = m) := hid' (by rw [ht, Pr.chgU_yes (by omega)]; omega)
      have hm2 : (c.toNat : Int) = (m : Int) + 48 := by omega
      have hm7 : m ≤ 7 := by omega
      have HM := hid' hm
      clear ht hl hlo hhi hm
      go_enter Tryd.func26, Tryd.ntmps26
      go_wp2_with fail
      refine (Tryd.strings_CutPrefix ⟨t.toArray⟩ ⟨#[117, 61]⟩ _).mono ?_
      rintro e w1 ⟨rfl, hw⟩
      subst w1
      rw [show Lib.hasPrefix (⟨t.toArray⟩ : ByteArray).data.toList (⟨#[117, 61]⟩ : ByteArray).data.toList = true from HP.out, show Lib.trimPrefix (⟨t.toArray⟩ : ByteArray).data.toList (⟨#[117, 61]⟩ : ByteArray).data.toList = [c] from HT.out]
      clear h1 h2 h3
      go_wp2
      refine bodyPost_ret (v := .agg #[.int .i64 (m : Int), .bool p]) (by simp [results, Tryd.results26, asAddr, ldPri (ar_second' _ _ _ _)]) rfl ⟨by rw [HE.out, HPP.out], bl2' _ _ _⟩
  · have HE : Hid (Pr.chgU u t = u) := hid' (by rw [ht]; exact Pr.chgU_long hl)
    have k1 : ((d.length : Int) == 1) = false := beq_false_of_ne (by omega)
    have k2 : (d.length == 1) = false := beq_false_of_ne hl
    clear ht hl
    go_enter Tryd.func26, Tryd.ntmps26
    go_wp2_with fail
    refine (Tryd.strings_CutPrefix ⟨t.toArray⟩ ⟨#[117, 61]⟩ _).mono ?_
    rintro e w1 ⟨rfl, hw⟩
    subst w1
    rw [show Lib.hasPrefix (⟨t.toArray⟩ : ByteArray).data.toList (⟨#[117, 61]⟩ : ByteArray).data.toList = true from HP.out, show Lib.trimPrefix (⟨t.toArray⟩ : ByteArray).data.toList (⟨#[117, 61]⟩ : ByteArray).data.toList = d from HT.out]
    clear h1 h2 h3
    go_wp2
    refine bodyPost_ret (v := .agg #[.int .i64 (u : Int), .bool p]) (by simp [results, Tryd.results26, asAddr, ldPri (ar_second' _ _ _ _)]) rfl ⟨by rw [HE.out, HPP.out], bl2' _ _ _⟩

theorem cchg_any (u : Nat) (p : Bool) (t : List UInt8) (w : World) :
    Calls Tryd.prog 26 #[.agg #[.int .i64 (u : Int), .bool p], .string ⟨t.toArray⟩] w fun e w' => e = .returned (.agg #[.int .i64 ((Pr.chgU u t : Nat) : Int), .bool (Pr.chgP p t)]) ∧ Below w.heap.size w w' := by
  cases h : Lib.hasPrefix t [117, 61] with
  | true => exact cchg_yes u p t h w
  | false =>
    rw [Pr.chgU_no h]
    exact cchg_no u p t h w

end Go.Proofs.YtekpjbhhbklboaaDoor
