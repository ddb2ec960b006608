/-
  Number and Hex, each by its contract.
-/
import Derived.Test.YtbpdhcfmdkmoiabDoorBytes
import Derived.Test.YtbpdhcfmdkmoiabDoorPureNum
namespace Go.Proofs.YtbpdhcfmdkmoiabDoor
open Go.RowKit

theorem ret_two {j k : IntKind} {a b : Int} {p : Int × Int} (h : p = (a, b)) : Ending.returned (.tuple #[.int j a, .int k b]) = .returned (.tuple #[.int j p.1, .int k p.2]) := by rw [h]
theorem hid {p : Prop} (h : p) : Hid p := h

set_option maxHeartbeats 2000000 in
theorem read_10 (s : ByteArray) (w : World) (hs : s.size ≤ maxLen) :
    Calls Tryd.prog 43 #[.string s, .int .i64 10] w fun e w' => e = .returned (.tuple #[.int .i64 (Tx.num 10 s.data.toList).1, .int .i64 (Tx.num 10 s.data.toList).2]) ∧ w' = w := by
  unfold maxLen at hs
  by_cases he : s.toList.isEmpty = true
  · have HF : Hid (Tx.num 10 s.data.toList = (0, 10)) := Tx.num_empty 10 _ (by rw [← Lib.toList_data]; exact he)
    go_enter Tryd.func43, Tryd.ntmps43
    go_wp2
    go_ret2
    exact ⟨ret_two HF.out, rfl⟩
  replace he : s.toList.isEmpty = false := by simpa using he
  have HE : Hid (s.data.toList.isEmpty = false) := by rw [← Lib.toList_data]; exact he
  go_enter Tryd.func43, Tryd.ntmps43
  go_wp2
  go_loop [6, 7, 8] (fun n o i => ∃ (k : Nat) (nv : Int) (ov : Bool), k ≤ s.size ∧ i = .int .i64 k ∧ n = .int .i64 nv ∧ o = .bool ov ∧ Tx.NumRel 10 (s.data.toList.take k) nv ov) (fun _ _ i => s.size - (intOf i).toNat)
  case atStart => exact ⟨0, 0, false, Nat.zero_le _, rfl, rfl, rfl, Tx.NumRel.start _⟩
  case round =>
    obtain ⟨k, nv, ov, hk, rfl, rfl, rfl, hr⟩ := hrel
    have hlo := hr.lo
    have hhi : nv ≤ 9223372036854775807 := hr.hi
    have HR := hid hr
    clear hr
    by_cases hlt : k < s.size
    · have hb0 : s[k].toNat ≤ 255 := by have := s[k].toNat_lt; omega
      obtain ⟨hd0, hd1⟩ := Tx.dgt_bd (s[k].toNat : Int)
      by_cases hd : Tx.dgt (s[k].toNat : Int) < 10
      · have HT : Hid (s.data.toList.take (k + 1) = s.data.toList.take k ++ [s[k]]) := Tx.take_snoc s k hlt
        cases ov
        · by_cases ht : (9223372036854775807 - Tx.dgt (s[k].toNat : Int)) / 10 < nv
          · have HN : Hid (Tx.NumRel 10 (s.data.toList.take (k + 1)) nv true) := by rw [HT.out]; exact Tx.NumRel.goes HR.out s[k] hd (by rw [Tx.top_eq]; omega)
            go_wp2_with (go_at_call 52; refine (digit_any _ (by omega) (by omega) _).mono ?_; rintro e w' ⟨rfl, rfl⟩)
            go_round
            case rel => exact ⟨k + 1, nv, true, by omega, by go_num, rfl, rfl, HN.out⟩
            case measure => simp [intOf]; omega
          · have htd : decide ((9223372036854775807 - Tx.dgt (s[k].toNat : Int)) / 10 < nv) = false := decide_eq_false ht
            have hno : nv * 10 + Tx.dgt (s[k].toNat : Int) ≤ 9223372036854775807 := by omega
            have HN : Hid (Tx.NumRel 10 (s.data.toList.take (k + 1)) (nv * 10 + Tx.dgt (s[k].toNat : Int)) false) := by rw [HT.out]; exact Tx.NumRel.step HR.out (by decide) s[k] hd (by rw [Tx.top_eq]; omega)
            go_wp2_with (go_at_call 52; refine (digit_any _ (by omega) (by omega) _).mono ?_; rintro e w' ⟨rfl, rfl⟩)
            go_round
            case rel => exact ⟨k + 1, _, false, by omega, by go_num, rfl, rfl, HN.out⟩
            case measure => simp [intOf]; omega
        · have HN : Hid (Tx.NumRel 10 (s.data.toList.take (k + 1)) nv true) := by rw [HT.out]; exact Tx.NumRel.over HR.out (by decide) s[k] hd
          go_wp2_with (go_at_call 52; refine (digit_any _ (by omega) (by omega) _).mono ?_; rintro e w' ⟨rfl, rfl⟩)
          go_round
          case rel => exact ⟨k + 1, nv, true, by omega, by go_num, rfl, rfl, HN.out⟩
          case measure => simp [intOf]; omega
      · have HF : Hid (Tx.num 10 s.data.toList = (0, 10)) := Tx.num_bad 10 s k hlt hd
        go_wp2_with (go_at_call 52; refine (digit_any _ (by omega) (by omega) _).mono ?_; rintro e w' ⟨rfl, rfl⟩)
        go_ret2
        exact ⟨ret_two HF.out, rfl⟩
    · cases ov
      · have HF : Hid (Tx.num 10 s.data.toList = (nv, 0)) := Tx.num_ok 10 s k (by omega) HE.out nv HR.out
        go_wp2
        go_ret2
        exact ⟨ret_two HF.out, rfl⟩
      · have HF : Hid (Tx.num 10 s.data.toList = (0, 5)) := Tx.num_over 10 s k (by omega) HE.out nv HR.out
        go_wp2
        go_ret2
        exact ⟨ret_two HF.out, rfl⟩

set_option maxHeartbeats 2000000 in
theorem read_16 (s : ByteArray) (w : World) (hs : s.size ≤ maxLen) :
    Calls Tryd.prog 43 #[.string s, .int .i64 16] w fun e w' => e = .returned (.tuple #[.int .i64 (Tx.num 16 s.data.toList).1, .int .i64 (Tx.num 16 s.data.toList).2]) ∧ w' = w := by
  unfold maxLen at hs
  by_cases he : s.toList.isEmpty = true
  · have HF : Hid (Tx.num 16 s.data.toList = (0, 10)) := Tx.num_empty 16 _ (by rw [← Lib.toList_data]; exact he)
    go_enter Tryd.func43, Tryd.ntmps43
    go_wp2
    go_ret2
    exact ⟨ret_two HF.out, rfl⟩
  replace he : s.toList.isEmpty = false := by simpa using he
  have HE : Hid (s.data.toList.isEmpty = false) := by rw [← Lib.toList_data]; exact he
  go_enter Tryd.func43, Tryd.ntmps43
  go_wp2
  go_loop [6, 7, 8] (fun n o i => ∃ (k : Nat) (nv : Int) (ov : Bool), k ≤ s.size ∧ i = .int .i64 k ∧ n = .int .i64 nv ∧ o = .bool ov ∧ Tx.NumRel 16 (s.data.toList.take k) nv ov) (fun _ _ i => s.size - (intOf i).toNat)
  case atStart => exact ⟨0, 0, false, Nat.zero_le _, rfl, rfl, rfl, Tx.NumRel.start _⟩
  case round =>
    obtain ⟨k, nv, ov, hk, rfl, rfl, rfl, hr⟩ := hrel
    have hlo := hr.lo
    have hhi : nv ≤ 9223372036854775807 := hr.hi
    have HR := hid hr
    clear hr
    by_cases hlt : k < s.size
    · have hb0 : s[k].toNat ≤ 255 := by have := s[k].toNat_lt; omega
      obtain ⟨hd0, hd1⟩ := Tx.dgt_bd (s[k].toNat : Int)
      by_cases hd : Tx.dgt (s[k].toNat : Int) < 16
      · have HT : Hid (s.data.toList.take (k + 1) = s.data.toList.take k ++ [s[k]]) := Tx.take_snoc s k hlt
        cases ov
        · by_cases ht : (9223372036854775807 - Tx.dgt (s[k].toNat : Int)) / 16 < nv
          · have HN : Hid (Tx.NumRel 16 (s.data.toList.take (k + 1)) nv true) := by rw [HT.out]; exact Tx.NumRel.goes HR.out s[k] hd (by rw [Tx.top_eq]; omega)
            go_wp2_with (go_at_call 52; refine (digit_any _ (by omega) (by omega) _).mono ?_; rintro e w' ⟨rfl, rfl⟩)
            go_round
            case rel => exact ⟨k + 1, nv, true, by omega, by go_num, rfl, rfl, HN.out⟩
            case measure => simp [intOf]; omega
          · have htd : decide ((9223372036854775807 - Tx.dgt (s[k].toNat : Int)) / 16 < nv) = false := decide_eq_false ht
            have hno : nv * 16 + Tx.dgt (s[k].toNat : Int) ≤ 9223372036854775807 := by omega
            have HN : Hid (Tx.NumRel 16 (s.data.toList.take (k + 1)) (nv * 16 + Tx.dgt (s[k].toNat : Int)) false) := by rw [HT.out]; exact Tx.NumRel.step HR.out (by decide) s[k] hd (by rw [Tx.top_eq]; omega)
            go_wp2_with (go_at_call 52; refine (digit_any _ (by omega) (by omega) _).mono ?_; rintro e w' ⟨rfl, rfl⟩)
            go_round
            case rel => exact ⟨k + 1, _, false, by omega, by go_num, rfl, rfl, HN.out⟩
            case measure => simp [intOf]; omega
        · have HN : Hid (Tx.NumRel 16 (s.data.toList.take (k + 1)) nv true) := by rw [HT.out]; exact Tx.NumRel.over HR.out (by decide) s[k] hd
          go_wp2_with (go_at_call 52; refine (digit_any _ (by omega) (by omega) _).mono ?_; rintro e w' ⟨rfl, rfl⟩)
          go_round
          case rel => exact ⟨k + 1, nv, true, by omega, by go_num, rfl, rfl, HN.out⟩
          case measure => simp [intOf]; omega
      · have HF : Hid (Tx.num 16 s.data.toList = (0, 10)) := Tx.num_bad 16 s k hlt hd
        go_wp2_with (go_at_call 52; refine (digit_any _ (by omega) (by omega) _).mono ?_; rintro e w' ⟨rfl, rfl⟩)
        go_ret2
        exact ⟨ret_two HF.out, rfl⟩
    · cases ov
      · have HF : Hid (Tx.num 16 s.data.toList = (nv, 0)) := Tx.num_ok 16 s k (by omega) HE.out nv HR.out
        go_wp2
        go_ret2
        exact ⟨ret_two HF.out, rfl⟩
      · have HF : Hid (Tx.num 16 s.data.toList = (0, 5)) := Tx.num_over 16 s k (by omega) HE.out nv HR.out
        go_wp2
        go_ret2
        exact ⟨ret_two HF.out, rfl⟩

set_option maxHeartbeats 400000 in
theorem number_any (s : ByteArray) (w : World) (hs : s.size ≤ maxLen) :
    Calls Tryd.prog 32 #[.string s] w fun e w' => e = .returned (.tuple #[.int .i64 (Tx.num 10 s.data.toList).1, .int .i64 (Tx.num 10 s.data.toList).2]) ∧ w' = w := by
  go_enter Tryd.func32, Tryd.ntmps32
  go_wp2_with (go_at_call 43; refine (read_10 _ _ hs).mono ?_; rintro e w' ⟨rfl, rfl⟩)
  go_ret2
  exact ⟨rfl, rfl⟩

end Go.Proofs.YtbpdhcfmdkmoiabDoor
