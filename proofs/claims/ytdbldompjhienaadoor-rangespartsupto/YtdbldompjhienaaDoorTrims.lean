/-
  Trim, Value and the document's Trim, Value, each by its contract.
-/
import Derived.Test.YtdbldompjhienaaDoorBytes
import Derived.Test.YtdbldompjhienaaDoorLists
namespace Go.Proofs.YtdbldompjhienaaDoor
open Go.RowKit

theorem ret_str {a b : ByteArray} (h : a = b) : Ending.returned (.string a) = .returned (.string b) := by rw [h]

set_option maxHeartbeats 1000000 in
theorem trim_any (s : ByteArray) (w : World) (hs : s.size ≤ maxLen) :
    Calls Tryd.prog 45 #[.string s] w fun e w' => e = .returned (.string ⟨(Tx.trim s.data.toList).toArray⟩) ∧ w' = w := by
  unfold maxLen at hs
  go_enter Tryd.func45, Tryd.ntmps45
  go_wp2
  go_loop [3] (fun i => ∃ k : Nat, k ≤ s.size ∧ i = .int .i64 k ∧ ∀ x ∈ s.data.toList.take k, Tx.blkB x = true) (fun i => s.size - (intOf i).toNat)
  case atStart => exact ⟨0, Nat.zero_le _, rfl, fun x hx => by simp at hx⟩
  case round =>
    obtain ⟨k, hk, rfl, hall⟩ := hrel
    have HA : Hid (∀ x ∈ s.data.toList.take k, Tx.blkB x = true) := hall
    clear hall
    by_cases hlt : ∃ h : k < s.size, Tx.blkC (s[k].toNat : Int) = true
    · obtain ⟨hlt, ht⟩ := hlt
      have HS : Hid (∀ x ∈ s.data.toList.take (k + 1), Tx.blkB x = true) := Tx.blk_snoc s k hlt HA.out ht
      go_wp2_with (go_at_call 54; refine (isBlank_any _ _).mono ?_; rintro e w' ⟨rfl, rfl⟩)
      go_round
      case rel => exact ⟨k + 1, by omega, by go_num, HS.out⟩
      case measure => simp [intOf]; omega
    · have H1 : Hid (∀ x, s.data.toList[k]? = some x → Tx.blkB x = false) := by
        intro x hx
        by_cases h : k < s.size
        · rw [Tx.get_byte s k h, Option.some.injEq] at hx; subst hx
          have : ¬ Tx.blkC (s[k].toNat : Int) = true := fun hb => hlt ⟨h, hb⟩
          simpa [Tx.blkB] using this
        · rw [List.getElem?_eq_none (by rw [← Lib.size_eq]; omega)] at hx; cases hx
      have H0 : ∀ h : k < s.size, Tx.blkC (s[k].toNat : Int) = false := fun h => by
        have := H1.out s[k] (Tx.get_byte s k h); exact this
      clear hlt
      by_cases hlt : k < s.size
      · have ht := H0 hlt
        clear H0
        go_wp2_with (go_at_call 54; refine (isBlank_any _ _).mono ?_; rintro e w' ⟨rfl, rfl⟩)
        go_loop [4] (fun j => ∃ m : Nat, k ≤ m ∧ m ≤ s.size ∧ j = .int .i64 m ∧ ∀ x ∈ s.data.toList.drop m, Tx.blkB x = true) (fun j => (intOf j).toNat)
        case atStart => exact ⟨s.size, hk, Nat.le_refl _, rfl, Tx.drop_all s⟩
        case round =>
          obtain ⟨m, hkm, hms, rfl, hall⟩ := hrel
          have HM : Hid (∀ x ∈ s.data.toList.drop m, Tx.blkB x = true) := hall
          clear hall
          by_cases hlt2 : k < m
          · obtain ⟨m, rfl⟩ : ∃ m', m = m' + 1 := ⟨m - 1, by omega⟩
            have hm1 : m < s.size := by omega
            by_cases ht2 : Tx.blkC (s[m].toNat : Int) = true
            · have HS : Hid (∀ x ∈ s.data.toList.drop m, Tx.blkB x = true) := Tx.blk_pre s m hm1 HM.out ht2
              go_wp2_with (go_at_call 54; refine (isBlank_any _ _).mono ?_; rintro e w' ⟨rfl, rfl⟩)
              go_round
              case rel => exact ⟨m, by omega, by omega, by go_num, HS.out⟩
              case measure => simp [intOf]
            · replace ht2 : Tx.blkC (s[m].toNat : Int) = false := by simpa using ht2
              have HF : Hid (s.extract k (m + 1) = ⟨(Tx.trim s.data.toList).toArray⟩) := Tx.trim_cut s k (m + 1) (by omega) hms HA.out HM.out H1.out (fun x _ hx => by
                rw [Nat.add_sub_cancel, Tx.get_byte s m hm1, Option.some.injEq] at hx; subst hx; exact ht2)
              go_wp2_with (go_at_call 54; refine (isBlank_any _ _).mono ?_; rintro e w' ⟨rfl, rfl⟩)
              go_ret
              exact ⟨ret_str (by exact HF.out), rfl⟩
          · have HF : Hid (s.extract k m = ⟨(Tx.trim s.data.toList).toArray⟩) := Tx.trim_cut s k m (by omega) hms HA.out HM.out H1.out (fun x h _ => absurd h hlt2)
            go_wp2
            go_ret
            exact ⟨ret_str (by exact HF.out), rfl⟩
      · clear H0
        obtain rfl : k = s.size := by omega
        go_wp2
        go_loop [4] (fun j => j = .int .i64 s.size) (fun _ => 0)
        case atStart => rfl
        case round =>
          obtain rfl := hrel
          have HF : Hid (ByteArray.empty = ⟨(Tx.trim s.data.toList).toArray⟩) := (show ByteArray.empty = s.extract s.size s.size by simp).trans <| Tx.trim_cut s s.size s.size (Nat.le_refl _) (Nat.le_refl _) HA.out (Tx.drop_all s) H1.out (fun x h _ => absurd h (Nat.lt_irrefl _))
          go_wp2
          go_ret
          exact ⟨ret_str (by exact HF.out), rfl⟩

set_option maxHeartbeats 1000000 in
theorem rTrim_any (s : ByteArray) (w : World) (hs : s.size ≤ maxLen) :
    Calls Tryd.prog 38 #[.string s] w fun e w' => e = .returned (.string ⟨(Tx.trim s.data.toList).toArray⟩) ∧ w' = w := by
  unfold maxLen at hs
  go_enter Tryd.func38, Tryd.ntmps38
  go_wp2
  go_loop [0] (fun v => ∃ t : ByteArray, v = .string t ∧ t.size ≤ s.size ∧ Tx.trimL t.data.toList = Tx.trimL s.data.toList) (fun v => Tx.strLen v)
  case atStart => exact ⟨s, rfl, Nat.le_refl _, rfl⟩
  case round =>
    obtain ⟨t, rfl, hts, heq⟩ := hrel
    have HE : Hid (Tx.trimL t.data.toList = Tx.trimL s.data.toList) := heq
    clear heq
    by_cases hlt : ∃ h : 0 < t.size, Tx.blkC (t[0].toNat : Int) = true
    · obtain ⟨h0, ht⟩ := hlt
      have HS : Hid (Tx.trimL (t.extract 1 t.size).data.toList = Tx.trimL s.data.toList) := (Tx.trimL_tail t h0 ht).trans HE.out
      go_wp2_with (go_at_call 48; refine (rBlank_any _ _).mono ?_; rintro e w' ⟨rfl, rfl⟩)
      go_round
      case rel => exact ⟨t.extract 1 t.size, rfl, by simp; omega, HS.out⟩
      case measure => simp [Tx.strLen]; omega
    · have H1 : Hid (t.data.toList = Tx.trimL s.data.toList) := by
        refine Eq.trans (Tx.trimL_stop _ ?_).symm HE.out
        intro x hx
        by_cases h : 0 < t.size
        · rw [List.head?_eq_getElem?, Tx.get_byte t 0 h, Option.some.injEq] at hx; subst hx
          have : ¬ Tx.blkC (t[0].toNat : Int) = true := fun hb => hlt ⟨h, hb⟩
          simpa [Tx.blkB] using this
        · rw [List.head?_eq_getElem?, List.getElem?_eq_none (by rw [← Lib.size_eq]; omega)] at hx; cases hx
      have H0 : ∀ h : 0 < t.size, Tx.blkC (t[0].toNat : Int) = false := fun h => by
        have : ¬ Tx.blkC (t[0].toNat : Int) = true := fun hb => hlt ⟨h, hb⟩
        simpa using this
      clear hlt HE
      by_cases h0 : 0 < t.size
      · have ht := H0 h0
        clear H0
        go_wp2_with (go_at_call 48; refine (rBlank_any _ _).mono ?_; rintro e w' ⟨rfl, rfl⟩)
        go_loop [0] (fun v => ∃ u : ByteArray, v = .string u ∧ u.size ≤ t.size ∧ Tx.trimR u.data.toList = Tx.trimR t.data.toList) (fun v => Tx.strLen v)
        case atStart => exact ⟨t, rfl, Nat.le_refl _, rfl⟩
        case round =>
          obtain ⟨u, rfl, hus, heq⟩ := hrel
          have HU : Hid (Tx.trimR u.data.toList = Tx.trimR t.data.toList) := heq
          clear heq
          by_cases hu0 : 0 < u.size
          · have hm1 : u.size - 1 < u.size := by omega
            by_cases ht2 : Tx.blkC (u[u.size - 1].toNat : Int) = true
            · have HS : Hid (Tx.trimR (u.extract 0 (u.size - 1)).data.toList = Tx.trimR t.data.toList) := (Tx.trimR_init u (u.size - 1) (by omega) ht2).trans HU.out
              go_wp2_with (go_at_call 48; refine (rBlank_any _ _).mono ?_; rintro e w' ⟨rfl, rfl⟩)
              go_round
              case rel => exact ⟨u.extract 0 (u.size - 1), rfl, by simp; omega, HS.out⟩
              case measure => simp [Tx.strLen]; omega
            · replace ht2 : Tx.blkC (u[u.size - 1].toNat : Int) = false := by simpa using ht2
              have HF : Hid (u = ⟨(Tx.trim s.data.toList).toArray⟩) := Tx.mk_of (by rw [Tx.trim, ← H1.out, ← HU.out]; exact Tx.trimR_done u fun _ => ht2)
              go_wp2_with (go_at_call 48; refine (rBlank_any _ _).mono ?_; rintro e w' ⟨rfl, rfl⟩)
              go_ret
              exact ⟨ret_str HF.out, rfl⟩
          · have HF : Hid (u = ⟨(Tx.trim s.data.toList).toArray⟩) := Tx.mk_of (by rw [Tx.trim, ← H1.out, ← HU.out]; exact Tx.trimR_done u fun h => absurd h hu0)
            go_wp2
            go_ret
            exact ⟨ret_str HF.out, rfl⟩
      · clear H0
        go_wp2
        go_loop [0] (fun v => v = .string t) (fun _ => 0)
        case atStart => rfl
        case round =>
          obtain rfl := hrel
          have HF : Hid (t = ⟨(Tx.trim s.data.toList).toArray⟩) := Tx.mk_of (by rw [Tx.trim, ← H1.out]; exact Tx.trimR_done t fun h => absurd h h0)
          go_wp2
          go_ret
          exact ⟨ret_str HF.out, rfl⟩

end Go.Proofs.YtdbldompjhienaaDoor
