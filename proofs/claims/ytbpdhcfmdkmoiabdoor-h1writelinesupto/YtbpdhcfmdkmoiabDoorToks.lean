/-
  isTokenByte, Token and the document's Token, each by its contract.
-/
import Derived.Test.YtbpdhcfmdkmoiabDoorBytes
import Derived.Test.YtbpdhcfmdkmoiabDoorShelf
import Derived.Test.YtbpdhcfmdkmoiabDoorLists
namespace Go.Proofs.YtbpdhcfmdkmoiabDoor
open Go.RowKit

def ixC (c : Int) : Int := Lib.indexByte [33, 35, 36, 37, 38, 39, 42, 43, 45, 46, 94, 95, 96, 124, 126] c.toNat.toUInt8
theorem ix_fin : ∀ n : Fin 256, decide (0 ≤ ixC (n.val : Int)) = Tx.markC (n.val : Int) := by decide +kernel
theorem ix_mark (c : Int) (h0 : 0 ≤ c) (h1 : c ≤ 255) : decide (0 ≤ ixC c) = Tx.markC c := by
  obtain ⟨n, rfl⟩ := Int.eq_ofNat_of_zero_le h0
  exact ix_fin ⟨n, by omega⟩
theorem indexByte_c (c : Int) (w : World) : Calls Tryd.prog 41 #[.string ⟨#[33, 35, 36, 37, 38, 39, 42, 43, 45, 46, 94, 95, 96, 124, 126]⟩, .int .u8 c] w fun e w' => e = .returned (.int .i64 (ixC c)) ∧ w' = w :=
  Tryd.strings_IndexByte _ c w

set_option maxHeartbeats 400000 in
theorem isTokenByte_any (c : Int) (h0 : 0 ≤ c) (h1 : c ≤ 255) (w : World) : Calls Tryd.prog 28 #[.int .u8 c] w fun e w' => e = .returned (.bool (Tx.tokC c)) ∧ w' = w := by
  have hm := ix_mark c h0 h1
  by_cases hl : Tx.letC c = true
  · go_enter Tryd.func28, Tryd.ntmps28
    go_wp2_with (first | (go_at_call 39; refine (isLetter_any _ _).mono ?_; rintro e w' ⟨rfl, rfl⟩))
    go_ret
    exact ⟨ret_bool (by simp [Tx.tokC, hl]), rfl⟩
  replace hl : Tx.letC c = false := by simpa using hl
  by_cases hd : Tx.digC c = true
  · go_enter Tryd.func28, Tryd.ntmps28
    go_wp2_with (first | (go_at_call 39; refine (isLetter_any _ _).mono ?_; rintro e w' ⟨rfl, rfl⟩) | (go_at_call 40; refine (isDigit_any _ _).mono ?_; rintro e w' ⟨rfl, rfl⟩))
    go_ret
    exact ⟨ret_bool (by simp [Tx.tokC, hd]), rfl⟩
  replace hd : Tx.digC c = false := by simpa using hd
  have hfin : Tx.tokC c = decide (0 ≤ ixC c) := by rw [hm]; simp [Tx.tokC, hl, hd]
  have HF : Hid (Tx.tokC c = decide (0 ≤ ixC c)) := hfin
  clear hfin hm
  go_enter Tryd.func28, Tryd.ntmps28
  go_wp2_with (first | (go_at_call 39; refine (isLetter_any _ _).mono ?_; rintro e w' ⟨rfl, rfl⟩) | (go_at_call 40; refine (isDigit_any _ _).mono ?_; rintro e w' ⟨rfl, rfl⟩) | (go_at_call 41; refine (indexByte_c _ _).mono ?_; rintro e w' ⟨rfl, rfl⟩))
  all_goals go_ret
  all_goals exact ⟨ret_bool (by rw [HF.out]), rfl⟩

set_option maxHeartbeats 400000 in
theorem token_any (s : ByteArray) (w : World) (hs : s.size ≤ maxLen) :
    Calls Tryd.prog 19 #[.string s] w fun e w' => e = .returned (.bool (Tx.isTok s.data.toList)) ∧ w' = w := by
  unfold maxLen at hs
  go_enter Tryd.func19, Tryd.ntmps19
  go_wp2
  go_loop [3] (fun i => ∃ k : Nat, k ≤ s.size ∧ i = .int .i64 k ∧ Tx.allC Tx.tokC (s.data.toList.take k) = true) (fun i => s.size - (intOf i).toNat)
  case atStart => exact ⟨0, Nat.zero_le _, rfl, rfl⟩
  case round =>
    obtain ⟨k, hk, rfl, hall⟩ := hrel
    by_cases hlt : k < s.size
    · have hb : s[k].toNat ≤ 255 := by have := s[k].toNat_lt; omega
      have HS : Hid (Tx.allC Tx.tokC (s.data.toList.take (k + 1)) = (Tx.allC Tx.tokC (s.data.toList.take k) && Tx.tokC (s[k].toNat : Int))) := Tx.allC_snoc Tx.tokC s k hlt
      have HA : Hid (Tx.allC Tx.tokC (s.data.toList.take k) = true) := hall
      clear hall
      by_cases ht : Tx.tokC (s[k].toNat : Int) = true
      · go_wp2_with (go_at_call 28; refine (isTokenByte_any _ (by omega) (by omega) _).mono ?_; rintro e w' ⟨rfl, rfl⟩)
        go_round
        case rel => exact ⟨k + 1, by omega, by go_num, by rw [HS.out, HA.out, ht]; rfl⟩
        case measure => simp [intOf]; omega
      · replace ht : Tx.tokC (s[k].toNat : Int) = false := by simpa using ht
        have HF : Hid (Tx.isTok s.data.toList = false) := Tx.isTok_no s k hlt ht
        go_wp2_with (go_at_call 28; refine (isTokenByte_any _ (by omega) (by omega) _).mono ?_; rintro e w' ⟨rfl, rfl⟩)
        go_ret
        exact ⟨ret_bool (by rw [HF.out]), rfl⟩
    · have HF : Hid (Tx.isTok s.data.toList = !s.data.toList.isEmpty) := Tx.isTok_all s k (by omega) hall
      clear hall
      go_wp2
      all_goals go_ret
      all_goals exact ⟨ret_bool (by rw [HF.out, Lib.toList_data]), rfl⟩

end Go.Proofs.YtbpdhcfmdkmoiabDoor
