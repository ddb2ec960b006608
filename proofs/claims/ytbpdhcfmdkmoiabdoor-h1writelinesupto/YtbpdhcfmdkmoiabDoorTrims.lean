/-
  Trim, Value and the document's Trim, Value, each by its contract.
-/
import Derived.Test.YtbpdhcfmdkmoiabDoorBytes
import Derived.Test.YtbpdhcfmdkmoiabDoorLists
namespace Go.Proofs.YtbpdhcfmdkmoiabDoor
open Go.RowKit

theorem ret_str {a b : ByteArray} (h : a = b) : Ending.returned (.string a) = .returned (.string b) := by rw [h]

set_option maxHeartbeats 1000000 in
theorem trim_any (s : ByteArray) (w : World) (hs : s.size ≤ maxLen) :
    Calls Tryd.prog 30 #[.string s] w fun e w' => e = .returned (.string ⟨(Tx.trim s.data.toList).toArray⟩) ∧ w' = w := by
  unfold maxLen at hs
  go_enter Tryd.func30, Tryd.ntmps30
  go_wp2
  go_loop [3] (fun i => ∃ k : Nat, k ≤ s.size ∧ i = .int .i64 k ∧ ∀ x ∈ s.data.toList.take k, Tx.blkB x = true) (fun i => s.size - (intOf i).toNat)
  case atStart => exact ⟨0, Nat.zero_le _, rfl, fun x hx => by simp at hx⟩
  case round =>
    obtain ⟨k, hk, rfl, hall⟩ := hrel
    have HA : Hid (∀ x ∈ s.data.toList.take k, Tx.blkB x = true) := hall
    clear hall
    by_cases hlt : ∃ h : k < s.size, Tx.blkC (s[k].toNat : Int) = true
    · obtain ⟨hlt, ht⟩ := hlt
      have HS : Hid (∀ x ∈ s.data.toList.take (k + 1), Tx.blkB x = true) := Tx.blk_snoc s k hlt HA.out ht
      go_wp2_with (go_at_call 42; refine (isBlank_any _ _).mono ?_; rintro e w' ⟨rfl, rfl⟩)
      go_round
      case rel => exact ⟨k + 1, by omega, by go_num, HS.out⟩
      case measure => simp [intOf]; omega
    · have H1 : Hid (∀ x, s.data.toList[k]? = some x → Tx.blkB x = false) := by
        intro x hx
        by_cases h : k < s.size
        · rw [Tx.get_byte s k h, Option.some.injEq] at hx; subst hx
          have : ¬ Tx.blkC (s[k].toNat : Int) = true := fun hb => hlt ⟨h, hb⟩
          simpa [Tx.blkB] using this
        · rw [List.getElem?_eq_none (by rw [← Lib.size_eq]; omega)] at hx; cases hx
      have H0 : ∀ h : k < s.size, Tx.blkC (s[k].toNat : Int) = false := fun h => by
        have := H1.out s[k] (Tx.get_byte s k h); exact this
      clear hlt
      by_cases hlt : k < s.size
      · have ht := H0 hlt
        clear H0
        go_wp2_with (go_at_call 42; refine (isBlank_any _ _).mono ?_; rintro e w' ⟨rfl, rfl⟩)
        go_loop [4] (fun j => ∃ m : Nat, k ≤ m ∧ m ≤ s.size ∧ j = .int .i64 m ∧ ∀ x ∈ s.data.toList.drop m, Tx.blkB x = true) (fun j => (intOf j).toNat)
        case atStart => exact ⟨s.size, hk, Nat.le_refl _, rfl, Tx.drop_all s⟩
        case round =>
          obtain ⟨m, hkm, hms, rfl, hall⟩ := hrel
          have HM : Hid (∀ x ∈ s.data.toList.drop m, Tx.blkB x = true) := hall
          clear hall
          by_cases hlt2 : k < m
          · obtain ⟨m, rfl⟩ : ∃ m', m = m' + 1 := ⟨m - 1, by omega⟩
            have hm1 : m < s.size := by omega
            by_cases ht2 : Tx.blkC (s[m].toNat : Int) = true
            · have HS : Hid (∀ x ∈ s.data.toList.drop m, Tx.blkB x = true) := Tx.blk_pre s m hm1 HM.out ht2
              go_wp2_with (go_at_call 42; refine (isBlank_any _ _).mono ?_; rintro e w' ⟨rfl, rfl⟩)
              go_round
              case rel => exact ⟨m, by omega, by omega, by go_num, HS.out⟩
              case measure => simp [intOf]
            · replace ht2 : Tx.blkC (s[m].toNat : Int) = false := by simpa using ht2
              have HF : Hid (s.extract k (m + 1) = ⟨(Tx.trim s.data.toList).toArray⟩) := Tx.trim_cut s k (m + 1) (by omega) hms HA.out HM.out H1.out (fun x _ hx => by
                rw [Nat.add_sub_cancel, Tx.get_byte s m hm1, Option.some.injEq] at hx; subst hx; exact ht2)
              go_wp2_with (go_at_call 42; refine (isBlank_any _ _).mono ?_; rintro e w' ⟨rfl, rfl⟩)
              go_ret
              exact ⟨ret_str (by exact HF.out), rfl⟩
          · have HF : Hid (s.extract k m = ⟨(Tx.trim s.data.toList).toArray⟩) := Tx.trim_cut s k m (by omega) hms HA.out HM.out H1.out (fun x h _ => absurd h hlt2)
            go_wp2
            go_ret
            exact ⟨ret_str (by exact HF.out), rfl⟩
      · clear H0
        obtain rfl : k = s.size := by omega
        go_wp2
        go_loop [4] (fun j => j = .int .i64 s.size) (fun _ => 0)
        case atStart => rfl
        case round =>
          obtain rfl := hrel
          have HF : Hid (ByteArray.empty = ⟨(Tx.trim s.data.toList).toArray⟩) := (show ByteArray.empty = s.extract s.size s.size by simp).trans <| Tx.trim_cut s s.size s.size (Nat.le_refl _) (Nat.le_refl _) HA.out (Tx.drop_all s) H1.out (fun x h _ => absurd h (Nat.lt_irrefl _))
          go_wp2
          go_ret
          exact ⟨ret_str (by exact HF.out), rfl⟩

set_option maxHeartbeats 1000000 in
theorem value_any (s : ByteArray) (w : World) (hs : s.size ≤ maxLen) :
    Calls Tryd.prog 20 #[.string s] w fun e w' => e = .returned (.bool (Tx.isVal s.data.toList)) ∧ w' = w := by
  unfold maxLen at hs
  go_enter Tryd.func20, Tryd.ntmps20
  go_wp2
  go_loop [3] (fun i => ∃ k : Nat, k ≤ s.size ∧ i = .int .i64 k ∧ Tx.allC Tx.valC (s.data.toList.take k) = true) (fun i => s.size - (intOf i).toNat)
  case atStart => exact ⟨0, Nat.zero_le _, rfl, rfl⟩
  case round =>
    obtain ⟨k, hk, rfl, hall⟩ := hrel
    by_cases hlt : k < s.size
    · have HS : Hid (Tx.allC Tx.valC (s.data.toList.take (k + 1)) = (Tx.allC Tx.valC (s.data.toList.take k) && Tx.valC (s[k].toNat : Int))) := Tx.allC_snoc Tx.valC s k hlt
      have HA : Hid (Tx.allC Tx.valC (s.data.toList.take k) = true) := hall
      clear hall
      by_cases ht : Tx.valC (s[k].toNat : Int) = true
      · go_wp2_with (go_at_call 29; refine (isValueByte_any _ _).mono ?_; rintro e w' ⟨rfl, rfl⟩)
        go_round
        case rel => exact ⟨k + 1, by omega, by go_num, by rw [HS.out, HA.out, ht]; rfl⟩
        case measure => simp [intOf]; omega
      · replace ht : Tx.valC (s[k].toNat : Int) = false := by simpa using ht
        have HF : Hid (Tx.isVal s.data.toList = false) := Tx.isVal_no s k hlt ht
        go_wp2_with (go_at_call 29; refine (isValueByte_any _ _).mono ?_; rintro e w' ⟨rfl, rfl⟩)
        go_ret
        exact ⟨ret_bool (by rw [HF.out]), rfl⟩
    · have HF : Hid (Tx.isVal s.data.toList = decide ((Tx.trim s.data.toList).length = s.size)) := Tx.isVal_trim s k (by omega) hall
      clear hall
      go_wp2_with (go_at_call 30; refine (trim_any _ _ hs).mono ?_; rintro e w' ⟨rfl, rfl⟩)
      all_goals go_ret
      all_goals exact ⟨ret_bool (by rw [HF.out, Bool.eq_iff_iff, beq_iff_eq, decide_eq_true_eq]; omega), rfl⟩

end Go.Proofs.YtbpdhcfmdkmoiabDoor
