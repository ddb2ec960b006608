/-
  Number and Hex, each by its contract.
  Same, Decimal, SameTexts, addMember and List, each by its contract.
-/
import Derived.Test.YtbpdhcfmdkmoiaaGreatDoorPnAA
import Derived.Test.YtbpdhcfmdkmoiaaGreatDoorPnAG
import Derived.Test.YtbpdhcfmdkmoiaaGreatDoorShelfN
import Derived.Deep.QuietTactic
import Derived.BigQuiet
import Derived.Lib.LaidTab
import Derived.Sort.Grow
import Derived.Test.YtbpdhcfmdkmoiaaGreatDoorPnAB
import Derived.Test.YtbpdhcfmdkmoiaaGreatDoorPnAH
namespace Go.Proofs.YtbpdhcfmdkmoiaaGreatDoor
open Go.RowKit

theorem ret_two {j k : IntKind} {a b : Int} {p : Int × Int} (h : p = (a, b)) : Ending.returned (.tuple #[.int j a, .int k b]) = .returned (.tuple #[.int j p.1, .int k p.2]) := by rw [h]

set_option maxHeartbeats 2000000 in
theorem read_10 (s : ByteArray) (w : World) (hs : s.size ≤ maxLen) :
    Calls Tryz.prog 121 #[.string s, .int .i64 10] w fun e w' => e = .returned (.tuple #[.int .i64 (Tx.num 10 s.data.toList).1, .int .i64 (Tx.num 10 s.data.toList).2]) ∧ w' = w := by
  unfold maxLen at hs
  by_cases he : s.toList.isEmpty = true
  · have HF : Hid (Tx.num 10 s.data.toList = (0, 10)) := Tx.num_empty 10 _ (by rw [← Lib.toList_data]; exact he)
    go_enter Tryz.func121, Tryz.ntmps121
    go_wp2
    go_ret2
    exact ⟨ret_two HF.out, rfl⟩
  replace he : s.toList.isEmpty = false := by simpa using he
  have HE : Hid (s.data.toList.isEmpty = false) := by rw [← Lib.toList_data]; exact he
  go_enter Tryz.func121, Tryz.ntmps121
  go_wp2
  go_loop [6, 7, 8] (fun n o i => ∃ (k : Nat) (nv : Int) (ov : Bool), k ≤ s.size ∧ i = .int .i64 k ∧ n = .int .i64 nv ∧ o = .bool ov ∧ Tx.NumRel 10 (s.data.toList.take k) nv ov) (fun _ _ i => s.size - (intOf i).toNat)
  case atStart => exact ⟨0, 0, false, Nat.zero_le _, rfl, rfl, rfl, Tx.NumRel.start _⟩
  case round =>
    obtain ⟨k, nv, ov, hk, rfl, rfl, rfl, hr⟩ := hrel
    have hlo := hr.lo
    have hhi : nv ≤ 9223372036854775807 := hr.hi
    have HR := hid hr
    clear hr
    by_cases hlt : k < s.size
    · have hb0 : s[k].toNat ≤ 255 := by have := s[k].toNat_lt; omega
      obtain ⟨hd0, hd1⟩ := Tx.dgt_bd (s[k].toNat : Int)
      by_cases hd : Tx.dgt (s[k].toNat : Int) < 10
      · have HT : Hid (s.data.toList.take (k + 1) = s.data.toList.take k ++ [s[k]]) := Tx.take_snoc s k hlt
        cases ov
        · by_cases ht : (9223372036854775807 - Tx.dgt (s[k].toNat : Int)) / 10 < nv
          · have HN : Hid (Tx.NumRel 10 (s.data.toList.take (k + 1)) nv true) := by rw [HT.out]; exact Tx.NumRel.goes HR.out s[k] hd (by rw [Tx.top_eq]; omega)
            go_wp2_with (go_at_call 126; refine (digit_any _ (by omega) (by omega) _).mono ?_; rintro e w' ⟨rfl, rfl⟩)
            go_round
            case rel => exact ⟨k + 1, nv, true, by omega, by go_num, rfl, rfl, HN.out⟩
            case measure => simp [intOf]; omega
          · have htd : decide ((9223372036854775807 - Tx.dgt (s[k].toNat : Int)) / 10 < nv) = false := decide_eq_false ht
            have hno : nv * 10 + Tx.dgt (s[k].toNat : Int) ≤ 9223372036854775807 := by omega
            have HN : Hid (Tx.NumRel 10 (s.data.toList.take (k + 1)) (nv * 10 + Tx.dgt (s[k].toNat : Int)) false) := by rw [HT.out]; exact Tx.NumRel.step HR.out (by decide) s[k] hd (by rw [Tx.top_eq]; omega)
            go_wp2_with (go_at_call 126; refine (digit_any _ (by omega) (by omega) _).mono ?_; rintro e w' ⟨rfl, rfl⟩)
            go_round
            case rel => exact ⟨k + 1, _, false, by omega, by go_num, rfl, rfl, HN.out⟩
            case measure => simp [intOf]; omega
        · have HN : Hid (Tx.NumRel 10 (s.data.toList.take (k + 1)) nv true) := by rw [HT.out]; exact Tx.NumRel.over HR.out (by decide) s[k] hd
          go_wp2_with (go_at_call 126; refine (digit_any _ (by omega) (by omega) _).mono ?_; rintro e w' ⟨rfl, rfl⟩)
          go_round
          case rel => exact ⟨k + 1, nv, true, by omega, by go_num, rfl, rfl, HN.out⟩
          case measure => simp [intOf]; omega
      · have HF : Hid (Tx.num 10 s.data.toList = (0, 10)) := Tx.num_bad 10 s k hlt hd
        go_wp2_with (go_at_call 126; refine (digit_any _ (by omega) (by omega) _).mono ?_; rintro e w' ⟨rfl, rfl⟩)
        go_ret2
        exact ⟨ret_two HF.out, rfl⟩
    · cases ov
      · have HF : Hid (Tx.num 10 s.data.toList = (nv, 0)) := Tx.num_ok 10 s k (by omega) HE.out nv HR.out
        go_wp2
        go_ret2
        exact ⟨ret_two HF.out, rfl⟩
      · have HF : Hid (Tx.num 10 s.data.toList = (0, 5)) := Tx.num_over 10 s k (by omega) HE.out nv HR.out
        go_wp2
        go_ret2
        exact ⟨ret_two HF.out, rfl⟩

set_option maxHeartbeats 2000000 in
theorem read_16 (s : ByteArray) (w : World) (hs : s.size ≤ maxLen) :
    Calls Tryz.prog 121 #[.string s, .int .i64 16] w fun e w' => e = .returned (.tuple #[.int .i64 (Tx.num 16 s.data.toList).1, .int .i64 (Tx.num 16 s.data.toList).2]) ∧ w' = w := by
  unfold maxLen at hs
  by_cases he : s.toList.isEmpty = true
  · have HF : Hid (Tx.num 16 s.data.toList = (0, 10)) := Tx.num_empty 16 _ (by rw [← Lib.toList_data]; exact he)
    go_enter Tryz.func121, Tryz.ntmps121
    go_wp2
    go_ret2
    exact ⟨ret_two HF.out, rfl⟩
  replace he : s.toList.isEmpty = false := by simpa using he
  have HE : Hid (s.data.toList.isEmpty = false) := by rw [← Lib.toList_data]; exact he
  go_enter Tryz.func121, Tryz.ntmps121
  go_wp2
  go_loop [6, 7, 8] (fun n o i => ∃ (k : Nat) (nv : Int) (ov : Bool), k ≤ s.size ∧ i = .int .i64 k ∧ n = .int .i64 nv ∧ o = .bool ov ∧ Tx.NumRel 16 (s.data.toList.take k) nv ov) (fun _ _ i => s.size - (intOf i).toNat)
  case atStart => exact ⟨0, 0, false, Nat.zero_le _, rfl, rfl, rfl, Tx.NumRel.start _⟩
  case round =>
    obtain ⟨k, nv, ov, hk, rfl, rfl, rfl, hr⟩ := hrel
    have hlo := hr.lo
    have hhi : nv ≤ 9223372036854775807 := hr.hi
    have HR := hid hr
    clear hr
    by_cases hlt : k < s.size
    · have hb0 : s[k].toNat ≤ 255 := by have := s[k].toNat_lt; omega
      obtain ⟨hd0, hd1⟩ := Tx.dgt_bd (s[k].toNat : Int)
      by_cases hd : Tx.dgt (s[k].toNat : Int) < 16
      · have HT : Hid (s.data.toList.take (k + 1) = s.data.toList.take k ++ [s[k]]) := Tx.take_snoc s k hlt
        cases ov
        · by_cases ht : (9223372036854775807 - Tx.dgt (s[k].toNat : Int)) / 16 < nv
          · have HN : Hid (Tx.NumRel 16 (s.data.toList.take (k + 1)) nv true) := by rw [HT.out]; exact Tx.NumRel.goes HR.out s[k] hd (by rw [Tx.top_eq]; omega)
            go_wp2_with (go_at_call 126; refine (digit_any _ (by omega) (by omega) _).mono ?_; rintro e w' ⟨rfl, rfl⟩)
            go_round
            case rel => exact ⟨k + 1, nv, true, by omega, by go_num, rfl, rfl, HN.out⟩
            case measure => simp [intOf]; omega
          · have htd : decide ((9223372036854775807 - Tx.dgt (s[k].toNat : Int)) / 16 < nv) = false := decide_eq_false ht
            have hno : nv * 16 + Tx.dgt (s[k].toNat : Int) ≤ 9223372036854775807 := by omega
            have HN : Hid (Tx.NumRel 16 (s.data.toList.take (k + 1)) (nv * 16 + Tx.dgt (s[k].toNat : Int)) false) := by rw [HT.out]; exact Tx.NumRel.step HR.out (by decide) s[k] hd (by rw [Tx.top_eq]; omega)
            go_wp2_with (go_at_call 126; refine (digit_any _ (by omega) (by omega) _).mono ?_; rintro e w' ⟨rfl, rfl⟩)
            go_round
            case rel => exact ⟨k + 1, _, false, by omega, by go_num, rfl, rfl, HN.out⟩
            case measure => simp [intOf]; omega
        · have HN : Hid (Tx.NumRel 16 (s.data.toList.take (k + 1)) nv true) := by rw [HT.out]; exact Tx.NumRel.over HR.out (by decide) s[k] hd
          go_wp2_with (go_at_call 126; refine (digit_any _ (by omega) (by omega) _).mono ?_; rintro e w' ⟨rfl, rfl⟩)
          go_round
          case rel => exact ⟨k + 1, nv, true, by omega, by go_num, rfl, rfl, HN.out⟩
          case measure => simp [intOf]; omega
      · have HF : Hid (Tx.num 16 s.data.toList = (0, 10)) := Tx.num_bad 16 s k hlt hd
        go_wp2_with (go_at_call 126; refine (digit_any _ (by omega) (by omega) _).mono ?_; rintro e w' ⟨rfl, rfl⟩)
        go_ret2
        exact ⟨ret_two HF.out, rfl⟩
    · cases ov
      · have HF : Hid (Tx.num 16 s.data.toList = (nv, 0)) := Tx.num_ok 16 s k (by omega) HE.out nv HR.out
        go_wp2
        go_ret2
        exact ⟨ret_two HF.out, rfl⟩
      · have HF : Hid (Tx.num 16 s.data.toList = (0, 5)) := Tx.num_over 16 s k (by omega) HE.out nv HR.out
        go_wp2
        go_ret2
        exact ⟨ret_two HF.out, rfl⟩

set_option maxHeartbeats 400000 in
theorem number_any (s : ByteArray) (w : World) (hs : s.size ≤ maxLen) :
    Calls Tryz.prog 108 #[.string s] w fun e w' => e = .returned (.tuple #[.int .i64 (Tx.num 10 s.data.toList).1, .int .i64 (Tx.num 10 s.data.toList).2]) ∧ w' = w := by
  go_enter Tryz.func108, Tryz.ntmps108
  go_wp2_with (go_at_call 121; refine (read_10 _ _ hs).mono ?_; rintro e w' ⟨rfl, rfl⟩)
  go_ret2
  exact ⟨rfl, rfl⟩

set_option maxHeartbeats 400000 in
theorem hex_any (s : ByteArray) (w : World) (hs : s.size ≤ maxLen) :
    Calls Tryz.prog 117 #[.string s] w fun e w' => e = .returned (.tuple #[.int .i64 (Tx.num 16 s.data.toList).1, .int .i64 (Tx.num 16 s.data.toList).2]) ∧ w' = w := by
  go_enter Tryz.func117, Tryz.ntmps117
  go_wp2_with (go_at_call 121; refine (read_16 _ _ hs).mono ?_; rintro e w' ⟨rfl, rfl⟩)
  go_ret2
  exact ⟨rfl, rfl⟩

end Go.Proofs.YtbpdhcfmdkmoiaaGreatDoor

namespace Go.Proofs.YtbpdhcfmdkmoiaaGreatDoor
open Go.RowKit

theorem tab_below {P : Program} {w w' : World} {name : String} {k : IntKind} {zs : List Int} (h : Lib.TabIs P w name k zs) (hb : Below w.heap.size w w') : Lib.TabIs P w' name k zs := by
  unfold Lib.TabIs World.var? at *
  cases hg : P.globalNamed name with
  | none => simp [hg] at h
  | some g =>
    simp only [hg, Option.bind_some] at h ⊢
    have hlt : g < w.heap.size := by
      rcases Nat.lt_or_ge g w.heap.size with h' | h'
      · exact h'
      · simp [Array.getElem?_eq_none h'] at h
    rw [hb.block g hlt]
    exact h
theorem below_drewN (w : World) (n : Nat) : Below w.heap.size w (w.drewN n) := ⟨rfl, rfl, rfl, Nat.le_refl _, fun _ _ => rfl⟩
theorem below_grow (w : World) (os : Array Obj) : Below w.heap.size w (Sort.grow w os) :=
  ⟨rfl, rfl, rfl, by simp [Sort.grow], fun k hk => by simp [Sort.grow, Array.getElem?_append_left hk]⟩

set_option maxHeartbeats 400000 in
theorem decimal_any (n : Int) (h0 : -9223372036854775808 ≤ n) (h1 : n ≤ 9223372036854775807) (w : World) (htab : Lib.TabIs Tryz.prog w "internal/strconv.uint64pow10" .u64 Lib.pow10Tab) :
    Calls Tryz.prog 109 #[.int .i64 n] w fun e w' => e = .returned (.string ⟨(Lib.itoa n).toArray⟩) ∧ Below w.heap.size w w' := by
  go_enter Tryz.func109, Tryz.ntmps109
  go_wp2_with fail
  refine (Tryz.strconv_Itoa n h0 h1 _ htab).mono ?_
  rintro e w1 ⟨rfl, k, os, hw⟩
  have hb : Below w.heap.size w w1 := by rw [hw]; exact below_two (below_drewN w k) (below_grow _ _)
  clear hw
  go_wp2
  go_ret
  exact ⟨rfl, hb⟩

theorem Tryz.info9 : (Tryz.prog.info? 9).map (fun i => (i.zero, i.size, i.bytes)) = some (some (.string ByteArray.empty), 1, 16) := by kernel_rfl
/-- The cells of texts. -/
def strCells (l : List (List UInt8)) : List Value := l.map fun m => .string ⟨m.toArray⟩

set_option maxHeartbeats 1000000 in
theorem addMember_any (B : Nat) (v : Value) (ms : List (List UInt8)) (p : ByteArray) (w : World) (hp : p.size ≤ maxLen) (hown : w.ownsRow B 9 1 v ms.length (strCells ms)) (hB : B ≤ w.heap.size) (hm : ms.length + 1 ≤ 8796093022208) :
    Calls Tryz.prog 120 #[v, .string p] w fun e w' => ∃ v', e = .returned v' ∧ w'.ownsRow B 9 1 v' (ms ++ Tx.addm p.data.toList).length (strCells (ms ++ Tx.addm p.data.toList)) ∧ Below B w w' := by
  obtain ⟨i0, hi, hz0, hz1, hz2⟩ := info_parts Tryz.info9
  by_cases he : (Tx.trim p.data.toList).isEmpty = true
  · go_enter Tryz.func120, Tryz.ntmps120
    go_wp2_with (go_at_call 85; refine (trim_any _ _ hp).mono ?_; rintro e w' ⟨rfl, rfl⟩)
    go_ret
    refine ⟨v, rfl, ?_, Below.refl _ _⟩
    rw [show Tx.addm p.data.toList = [] from by unfold Tx.addm; rw [if_pos he], List.append_nil]
    exact hown
  · replace he : (Tx.trim p.data.toList).isEmpty = false := by simpa using he
    go_enter Tryz.func120, Tryz.ntmps120
    go_wp2_with (first
      | (go_at_call 85; refine (trim_any _ _ hp).mono ?_; rintro e w' ⟨rfl, rfl⟩)
      | (at_builtin; refine wpList_append_own _ rfl _ _ 77 rfl B 9 i0 (.string ByteArray.empty) 1 16 Tryz.underlying77 hi hz0 hz1 hz2 rfl (by decide) _ _ _ rfl (hown.alloc _) ⟨_, 0, none⟩ 1 1 [.string ⟨(Tx.trim p.data.toList).toArray⟩] rfl rfl ?c1 ?c2 ?c3 ?c4 ?c5 ?_))
    case c1 =>
      intro j u hj
      match j, hj with
      | 0, hj => simp at hj; subst hj; simp [Addr.add]
    case c2 => intro u hu; simp at hu; subst hu; rfl
    case c3 => unfold maxLen; omega
    case c4 => omega
    case c5 => simp; omega
    · intro v' w1 hown' hgrow _
      have HG := hid hgrow
      have HO := hid hown'
      clear hgrow hown'
      go_wp2
      go_ret
      refine ⟨v', rfl, ?_, ?_⟩
      · rw [show Tx.addm p.data.toList = [Tx.trim p.data.toList] from by unfold Tx.addm; rw [if_neg (by simp [he])]]
        have := HO.out
        rw [List.length_append, strCells, List.map_append]
        exact this
      · exact ((Below.refl _ _).alloc hB _).grown HG.out (by simp; omega) (fun k hk => (hown.lt k hk).1)

end Go.Proofs.YtbpdhcfmdkmoiaaGreatDoor
