/-
  Package date: what Parse reads, by its contract.
-/
import Derived.Test.YtgnbcoklmflpfaaDoorDateC
import Derived.Test.YtgnbcoklmflpfaaDoorNums
import Derived.Deep.RegionHeld3
namespace Go.Proofs.YtgnbcoklmflpfaaDoor
open Go.RowKit

set_option maxHeartbeats 400000 in
theorem number_date (s : ByteArray) (hs : s.size ≤ maxLen) (w : World) :
    Calls Tryd.prog 55 #[.string s] w fun e w' => e = .returned (.int .i64 (Dt.nmb s.data.toList)) ∧ w' = w := by
  go_enter Tryd.func55, Tryd.ntmps55
  go_wp2_with fail
  refine (number_any s _ hs).mono ?_
  rintro e w1 ⟨rfl, rfl⟩
  go_wp2
  go_ret
  exact ⟨rfl, rfl⟩

theorem wrap_id' (x : Int) (h0 : -1000000000000000 ≤ x) (h1 : x ≤ 1000000000000000) : IntKind.i64.wrap x = x := by
  rw [IntKind.wrap_i64]; omega
theorem ba_of (s : ByteArray) : s = ⟨s.data.toList.toArray⟩ := by simp

set_option maxHeartbeats 1000000 in
theorem monthNamed_any (l : List UInt8) (w : World) :
    Calls Tryd.prog 56 #[.string ⟨l.toArray⟩] w fun e w' => e = .returned (.int .i64 (Dt.mth l)) ∧ w' = w := by
  go_enter Tryd.func56, Tryd.ntmps56
  go_wp2
  go_loop [3, 4] (fun _ v => ∃ k : Nat, k ≤ 12 ∧ v = .int .i64 k ∧ ∀ i : Int, 0 ≤ i → i < k → Dt.mon i ≠ l) (fun _ v => 12 - (intOf v).toNat)
  case atStart => exact ⟨0, by decide, rfl, fun i a b => absurd b (by omega)⟩
  case round =>
    obtain ⟨k, k1, rfl, hk⟩ := hrel
    have HK := hid' hk
    clear hk
    by_cases h12 : k < 12
    · by_cases ht : Dt.mon k = l
      · have hte : (Dt.mon k == l) = true := by simp [ht]
        have HF : Hid ((k : Int) = Dt.mth l) := hid' (by rw [← ht, Dt.mth_mon k (by omega) (by omega)])
        clear ht
        go_wp2_with (go_at_call 52; refine (name_mon k (by omega) (by omega) _).mono ?_; rintro e w' ⟨rfl, rfl⟩)
        go_ret
        exact ⟨ret_int HF.out, rfl⟩
      · have hte : (Dt.mon k == l) = false := by simp [ht]
        have HN : Hid (∀ i : Int, 0 ≤ i → i < ((k + 1 : Nat) : Int) → Dt.mon i ≠ l) := hid' fun i a b => by
          by_cases h : i = k
          · subst h; exact ht
          · exact HK.out i a (by omega)
        clear ht
        go_wp2_with (go_at_call 52; refine (name_mon k (by omega) (by omega) _).mono ?_; rintro e w' ⟨rfl, rfl⟩)
        go_round
        case rel => exact ⟨k + 1, by omega, by go_num, HN.out⟩
        case measure => simp [intOf]; omega
    · have HF : Hid ((0 : Int) = Dt.mth l) := hid' (Dt.mth_none l fun i a b => HK.out i a (by omega)).symm
      go_wp2
      go_ret
      exact ⟨ret_int HF.out, rfl⟩

theorem cut_list (s : ByteArray) (a b : Nat) : (s.extract a b).data.toList = (s.data.toList.drop a).take (b - a) := by
  simp [ByteArray.data_extract, Array.toList_extract, List.extract_eq_take_drop]

set_option maxHeartbeats 1000000 in
theorem readDay_any (s : ByteArray) (hs : s.size = 11) (w : World) :
    Calls Tryd.prog 34 #[.string s] w fun e w' => e = .returned (.int .i64 (Dt.rday s.data.toList)) ∧ Below w.heap.size w w' := by
  obtain ⟨Y, hY⟩ : ∃ Y, Dt.nmb (s.extract 7 11).data.toList = Y := ⟨_, rfl⟩
  obtain ⟨M, hM⟩ : ∃ M, Dt.mth (s.extract 3 6).data.toList = M := ⟨_, rfl⟩
  obtain ⟨D, hD⟩ : ∃ D, Dt.nmb (s.extract 0 2).data.toList = D := ⟨_, rfl⟩
  have b1 : 0 ≤ Y ∧ Y < 10000 := by
    have h := Dt.nmb_bd (s.extract 7 11).data.toList
    rw [hY, show (s.extract 7 11).data.toList.length = 4 by rw [← Lib.size_eq]; simp [hs]] at h
    exact h
  have b3 : 0 ≤ D ∧ D < 100 := by
    have h := Dt.nmb_bd (s.extract 0 2).data.toList
    rw [hD, show (s.extract 0 2).data.toList.length = 2 by rw [← Lib.size_eq]; simp [hs]] at h
    exact h
  have b2 : 0 ≤ M ∧ M ≤ 11 := by rw [← hM]; exact Dt.mth_bd _
  obtain ⟨b10, b11⟩ := b1
  obtain ⟨b20, b21⟩ := b2
  obtain ⟨b30, b31⟩ := b3
  obtain ⟨b40, b41⟩ := Dt.dYz_bd Y b10 (by omega)
  obtain ⟨b50, b51⟩ := Dt.dM_bd M Y b20 (by omega)
  have HF : Hid (Dt.dYz Y + Dt.dM M Y + D - 1 = Dt.rday s.data.toList) := hid' (by
    rw [← hY, ← hM, ← hD, cut_list, cut_list, cut_list]; rfl)
  have HY := hid' hY
  have HM := hid' hM
  have HD := hid' hD
  clear hY hM hD
  go_enter Tryd.func34, Tryd.ntmps34
  go_wp2_with fail
  refine (number_date (s.extract 7 11) (by simp [hs]; unfold maxLen; omega) _).mono ?_
  rintro e w1 ⟨rfl, rfl⟩
  rw [HY.out]
  go_wp2
  have hS : Below w1.heap.size w1 w1 := Below.refl _ _
  go_region_held3 (fun W => Below w1.heap.size w1 W) (first | assumption | exact below_two (by assumption) (by assumption) | exact Below.drew (by assumption))
    (first
    | (go_at_call 49; refine (aheadYear_any Y (by omega) (by omega) _).mono ?_; rintro e wa ⟨rfl, rfl⟩)
    | (go_at_call 56; rw [ba_of (s.extract 3 6)]; refine (monthNamed_any (s.extract 3 6).data.toList _).mono ?_; rintro e wa ⟨rfl, rfl⟩; rw [HM.out])
    | (go_at_call 51; refine (aheadMonth_any M Y (by omega) (by omega) (by omega) _).mono ?_; rintro e w2 ⟨rfl, hb2⟩)
    | (go_at_call 55; refine (number_date (s.extract 0 2) (by simp [hs]; unfold maxLen; omega) _).mono ?_; rintro e w3 ⟨rfl, rfl⟩; rw [HD.out]))
  go_wp2
  go_ret
  exact ⟨ret_int (by rw [wrap_id' (Dt.dYz Y + Dt.dM M Y) (by omega) (by omega), wrap_id' (Dt.dYz Y + Dt.dM M Y + D) (by omega) (by omega), wrap_id' _ (by omega) (by omega)]; exact HF.out), by assumption⟩

set_option maxRecDepth 20000 in
set_option maxHeartbeats 1000000 in
theorem readClock_any (s : ByteArray) (hs : s.size = 8) (w : World) :
    Calls Tryd.prog 35 #[.string s] w fun e w' => e = .returned (.int .i64 (Dt.rclock s.data.toList)) ∧ Below w.heap.size w w' := by
  obtain ⟨Y, hY⟩ : ∃ Y, Dt.nmb (s.extract 0 2).data.toList = Y := ⟨_, rfl⟩
  obtain ⟨M, hM⟩ : ∃ M, Dt.nmb (s.extract 3 5).data.toList = M := ⟨_, rfl⟩
  obtain ⟨D, hD⟩ : ∃ D, Dt.nmb (s.extract 6 8).data.toList = D := ⟨_, rfl⟩
  have b1 : 0 ≤ Y ∧ Y < 100 := by
    have h := Dt.nmb_bd (s.extract 0 2).data.toList
    rw [hY, show (s.extract 0 2).data.toList.length = 2 by rw [← Lib.size_eq]; simp [hs]] at h
    exact h
  have b2 : 0 ≤ M ∧ M < 100 := by
    have h := Dt.nmb_bd (s.extract 3 5).data.toList
    rw [hM, show (s.extract 3 5).data.toList.length = 2 by rw [← Lib.size_eq]; simp [hs]] at h
    exact h
  have b3 : 0 ≤ D ∧ D < 100 := by
    have h := Dt.nmb_bd (s.extract 6 8).data.toList
    rw [hD, show (s.extract 6 8).data.toList.length = 2 by rw [← Lib.size_eq]; simp [hs]] at h
    exact h
  obtain ⟨b10, b11⟩ := b1
  obtain ⟨b20, b21⟩ := b2
  obtain ⟨b30, b31⟩ := b3
  have HF : Hid (Y * 3600 + M * 60 + D = Dt.rclock s.data.toList) := hid' (by
    rw [← hY, ← hM, ← hD, cut_list, cut_list, cut_list]; rfl)
  have HY := hid' hY
  have HM := hid' hM
  have HD := hid' hD
  clear hY hM hD
  go_enter Tryd.func35, Tryd.ntmps35
  have hS : Below w.heap.size w w := Below.refl _ _
  go_wp2
  go_region_held3 (fun W => Below w.heap.size w W) (first | assumption | exact below_two (by assumption) (by assumption) | exact Below.drew (by assumption))
    (first
    | (go_at_call 55; with_reducible refine (number_date (s.extract 0 2) (by simp [hs]; unfold maxLen; omega) _).mono ?_; rintro e wa ⟨rfl, rfl⟩; rw [HY.out])
    | (go_at_call 55; with_reducible refine (number_date (s.extract 3 5) (by simp [hs]; unfold maxLen; omega) _).mono ?_; rintro e wa ⟨rfl, rfl⟩; rw [HM.out])
    | (go_at_call 55; with_reducible refine (number_date (s.extract 6 8) (by simp [hs]; unfold maxLen; omega) _).mono ?_; rintro e wa ⟨rfl, rfl⟩; rw [HD.out]))
  go_wp2
  go_ret
  exact ⟨ret_int (by rw [wrap_id' (Y * 3600) (by omega) (by omega), wrap_id' (M * 60) (by omega) (by omega), wrap_id' (Y * 3600 + M * 60) (by omega) (by omega), wrap_id' _ (by omega) (by omega)]; exact HF.out), by assumption⟩

end Go.Proofs.YtgnbcoklmflpfaaDoor
