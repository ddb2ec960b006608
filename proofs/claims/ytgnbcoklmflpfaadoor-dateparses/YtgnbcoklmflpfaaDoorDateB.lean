/-
  Package date: the year and the month of a day, names, and what is written, each by its contract.
-/
import Derived.Test.YtgnbcoklmflpfaaDoorDateA
import Derived.Test.YtgnbcoklmflpfaaDoorLsts
namespace Go.Proofs.YtgnbcoklmflpfaaDoor
open Go.RowKit

theorem hid' {p : Prop} (h : p) : Hid p := h
set_option maxHeartbeats 1000000 in
theorem yearOf_any (d y : Int) (h0 : 0 ≤ d) (h1 : d ≤ 2932896) (y1 : y ≤ 9999) (a : Dt.dY y ≤ d) (b : d < Dt.dY (y + 1)) (w : World) :
    Calls Tryd.prog 48 #[.int .i64 d] w fun e w' => e = .returned (.int .i64 y) ∧ w' = w := by
  have hlo := hid' (Dt.dY_low d h0 h1)
  have A := hid' a
  have B := hid' b
  clear a b
  go_enter Tryd.func48, Tryd.ntmps48
  go_wp2
  go_loop [3] (fun v => ∃ k : Int, 1970 ≤ k ∧ k ≤ y ∧ Dt.dY k ≤ d ∧ v = .int .i64 k) (fun v => (y - intOf v).toNat)
  case atStart =>
    refine ⟨1970 + d / 366, by omega, ?_, hlo.out, rfl⟩
    rcases Int.lt_or_le y (1970 + d / 366) with h | h
    · have := Dt.dY_mono (y + 1) (1970 + d / 366) (by omega); have := hlo.out; have := B.out; omega
    · exact h
  case round =>
    obtain ⟨k, k0, k1, hk, rfl⟩ := hrel
    have HK := hid' hk
    clear hk
    by_cases hlt : k < y
    · have hn : Dt.dY (k + 1) ≤ d := by have := Dt.dY_mono (k + 1) y (by omega); have := A.out; omega
      go_wp2_with (go_at_call 49; refine (aheadYear_pos _ (by omega) (by omega) _).mono ?_; rintro e w' ⟨rfl, rfl⟩)
      go_round
      case rel => exact ⟨k + 1, by omega, by omega, hn, rfl⟩
      case measure => simp [intOf]; omega
    · obtain rfl : k = y := by omega
      have hn : d < Dt.dY (k + 1) := B.out
      go_wp2_with (go_at_call 49; refine (aheadYear_pos _ (by omega) (by omega) _).mono ?_; rintro e w' ⟨rfl, rfl⟩)
      go_ret
      exact ⟨rfl, rfl⟩

set_option maxHeartbeats 1000000 in
theorem monthOf_any (d y m : Int) (y0 : 0 ≤ y) (m0 : 0 ≤ m) (m1 : m ≤ 11) (a : Dt.dM m y ≤ d) (b : d < Dt.dM (m + 1) y) (w : World) :
    Calls Tryd.prog 50 #[.int .i64 d, .int .i64 y] w fun e w' => e = .returned (.int .i64 m) ∧ Below w.heap.size w w' := by
  have A := hid' a
  have B := hid' b
  clear a b
  go_enter Tryd.func50, Tryd.ntmps50
  go_wp2
  go_loopw [5] (fun v wr => ∃ k : Int, 0 ≤ k ∧ k ≤ m ∧ v = .int .i64 k ∧ Below w.heap.size w wr) (fun v _ => (m - intOf v).toNat)
  case atStart => exact ⟨0, Int.le_refl _, m0, rfl, Below.refl _ _⟩
  case round =>
    obtain ⟨k, k0, k1, rfl, hb⟩ := hrel
    have HB := hid' hb
    clear hb
    by_cases hlt : k < m
    · have hn : Dt.dM (k + 1) y ≤ d := by have := Dt.dM_mono (k + 1) m y (by omega) (by omega) (by omega); have := A.out; omega
      go_wp2_with fail
      refine (aheadMonth_any (k + 1) y (by omega) (by omega) y0 _).mono ?_
      rintro e w1 ⟨rfl, hb1⟩
      have HB1 := hid' (below_two HB.out hb1)
      clear hb1 HB
      go_wp2
      go_roundw
      case rel => exact ⟨k + 1, by omega, by omega, rfl, HB1.out⟩
      case measure => simp [intOf]; omega
    · obtain rfl : k = m := by omega
      by_cases h11 : k < 11
      · have hn : d < Dt.dM (k + 1) y := B.out
        go_wp2_with fail
        refine (aheadMonth_any (k + 1) y (by omega) (by omega) y0 _).mono ?_
        rintro e w1 ⟨rfl, hb1⟩
        have HB1 := hid' (below_two HB.out hb1)
        clear hb1 HB
        go_wp2
        go_ret
        exact ⟨rfl, HB1.out⟩
      · go_wp2
        go_ret
        exact ⟨rfl, HB.out⟩

def wkRow : ByteArray := ⟨#[77, 111, 110, 84, 117, 101, 87, 101, 100, 84, 104, 117, 70, 114, 105, 83, 97, 116, 83, 117, 110]⟩
def monRow : ByteArray := ⟨#[74, 97, 110, 70, 101, 98, 77, 97, 114, 65, 112, 114, 77, 97, 121, 74, 117, 110, 74, 117, 108, 65, 117, 103, 83, 101, 112, 79, 99, 116, 78, 111, 118, 68, 101, 99]⟩
theorem wk_cut : ∀ i : Fin 7, wkRow.extract (i.val * 3) (i.val * 3 + 3) = ⟨(Dt.wk (i.val : Int)).toArray⟩ := by decide +kernel
theorem mon_cut : ∀ i : Fin 12, monRow.extract (i.val * 3) (i.val * 3 + 3) = ⟨(Dt.mon (i.val : Int)).toArray⟩ := by decide +kernel
theorem name_wk (i : Int) (h0 : 0 ≤ i) (h1 : i < 7) (w : World) : Calls Tryd.prog 52 #[.string ⟨#[77, 111, 110, 84, 117, 101, 87, 101, 100, 84, 104, 117, 70, 114, 105, 83, 97, 116, 83, 117, 110]⟩, .int .i64 i] w fun e w' => e = .returned (.string ⟨(Dt.wk i).toArray⟩) ∧ w' = w := by
  obtain ⟨k, rfl⟩ := Int.eq_ofNat_of_zero_le h0
  have h := wk_cut ⟨k, by omega⟩
  rw [← h]
  exact name_any wkRow k (by show k * 3 + 3 ≤ 21; omega) (by decide) w
theorem name_mon (i : Int) (h0 : 0 ≤ i) (h1 : i < 12) (w : World) : Calls Tryd.prog 52 #[.string ⟨#[74, 97, 110, 70, 101, 98, 77, 97, 114, 65, 112, 114, 77, 97, 121, 74, 117, 110, 74, 117, 108, 65, 117, 103, 83, 101, 112, 79, 99, 116, 78, 111, 118, 68, 101, 99]⟩, .int .i64 i] w fun e w' => e = .returned (.string ⟨(Dt.mon i).toArray⟩) ∧ w' = w := by
  obtain ⟨k, rfl⟩ := Int.eq_ofNat_of_zero_le h0
  have h := mon_cut ⟨k, by omega⟩
  rw [← h]
  exact name_any monRow k (by show k * 3 + 3 ≤ 36; omega) (by decide) w

set_option maxHeartbeats 1000000 in
theorem twoDigits_any (n : Int) (h0 : 0 ≤ n) (h1 : n ≤ 99) (w : World) (htab : Lib.TabIs Tryd.prog w "internal/strconv.uint64pow10" .u64 Lib.pow10Tab) :
    Calls Tryd.prog 53 #[.int .i64 n] w fun e w' => e = .returned (.string ⟨(Dt.two n).toArray⟩) ∧ Below w.heap.size w w' := by
  have HT := hid' htab
  clear htab
  by_cases h : n < 10
  · have HE := hid' (Dt.itoa_one n h0 (by omega))
    have hl : (Lib.itoa n).length = 1 := by rw [Tx.itoa_lo n h0 h]; rfl
    go_enter Tryd.func53, Tryd.ntmps53
    go_wp2_with fail
    refine (decimal_any n (by omega) (by omega) _ HT.out).mono ?_
    rintro e w1 ⟨rfl, hb1⟩
    go_wp2
    go_ret
    exact ⟨ret_str (by rw [← HE.out]; apply ByteArray.ext; simp), hb1⟩
  · have HE := hid' (Dt.itoa_two n (by omega) h1)
    go_enter Tryd.func53, Tryd.ntmps53
    go_wp2_with fail
    refine (decimal_any n (by omega) (by omega) _ HT.out).mono ?_
    rintro e w1 ⟨rfl, hb1⟩
    go_wp2
    go_ret
    exact ⟨ret_str (by rw [HE.out]), hb1⟩

end Go.Proofs.YtgnbcoklmflpfaaDoor
