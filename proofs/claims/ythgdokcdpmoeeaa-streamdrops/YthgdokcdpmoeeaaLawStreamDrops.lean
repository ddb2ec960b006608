/-
  StreamDrops: what the server has reset is passed over, the last so many of it.
-/
import Derived.Test.YthgdokcdpmoeeaaStW
namespace Go.Proofs.Ythgdokcdpmoeeaa
open Go.RowKit

theorem ret_bool {a b : Bool} (h : a = b) : Ending.returned (.bool a) = .returned (.bool b) := by rw [h]
/-- The first odd numbers. -/
def odds (j : Nat) : List Nat := (List.range j).map fun i => 2 * i + 1
theorem odds_succ (j : Nat) : odds (j + 1) = odds j ++ [2 * j + 1] := by simp [odds, List.range_succ]
theorem odds_length (j : Nat) : (odds j).length = j := by simp [odds]
/-- The book behind j streams that were dropped. -/
def kd (m j : Nat) : Sm.Bk := ⟨m, 2 * j - 1, [], (odds j).drop (j - m), false, 0⟩
theorem kd_dr (m j : Nat) (hm : 1 ≤ m) : (if ((odds j).drop (j - m)).length = m then ((odds j).drop (j - m)).drop 1 else (odds j).drop (j - m)) ++ [2 * j + 1] = (odds (j + 1)).drop (j + 1 - m) := by
  rw [odds_succ, List.drop_append_of_le_length (by rw [odds_length]; omega), List.length_drop, odds_length]
  congr 1
  split
  · rw [List.drop_drop]; congr 1; omega
  · rw [show j - m = 0 by omega, show j + 1 - m = 0 by omega]
theorem kd_mem (m N i : Nat) (hi : i < N) : 2 * i + 1 ∈ (kd m N).dr ↔ N - m ≤ i := by
  unfold kd
  simp only
  rw [List.mem_iff_getElem?]
  constructor
  · rintro ⟨t, ht⟩
    rw [List.getElem?_drop] at ht
    simp only [odds, List.getElem?_map] at ht
    cases hr : (List.range N)[N - m + t]? with
    | none => rw [hr] at ht; simp at ht
    | some y =>
      rw [hr] at ht
      have hlt : N - m + t < N := by
        have := (List.getElem?_eq_some_iff.1 hr).1
        simpa using this
      rw [List.getElem?_range hlt] at hr
      simp at hr ht
      omega
  · intro h
    refine ⟨i - (N - m), ?_⟩
    rw [List.getElem?_drop]
    simp only [odds, List.getElem?_map]
    rw [show N - m + (i - (N - m)) = i by omega, List.getElem?_range hi]
    rfl
theorem can_n {n : Nat} (hodd : n % 2 = 1) (hn : n ≤ 2147483647) : Sm.can (n : Int) = true := (Sm.can_iff _).2 ⟨by omega, by omega, by omega⟩
theorem does_n {k : Sm.Bk} {s n : Nat} {e : Bool} (hodd : n % 2 = 1) (hn : n ≤ 2147483647) : Sm.does k s (n : Int) e = Sm.doN k s n e := by
  rw [Sm.does, can_n hodd hn, if_pos rfl, Int.toNat_natCast]
/-- The book between. -/
def kb (m j ph : Nat) : Sm.Bk := ⟨m, 2 * j + 1, [(2 * j + 1, ph)], (odds j).drop (j - m), false, 0⟩
theorem drops1 (m j n ph : Nat) (e : Bool) (he : (if e then 2 else 1) = ph) (hm : 1 ≤ m) (hj : j ≤ 120) (hn : 2 * j + 1 = n) : Sm.does (kd m j) 1 (n : Int) e = (kb m j ph, ⟨1, false, false, 0, true⟩) := by
  subst hn
  rw [does_n (by omega) (by omega), Sm.doN, if_pos ⟨rfl, by simp only [kd]; omega⟩, Sm.first, if_neg (by simp [kd]), if_neg (by simp only [kd, List.length_nil]; omega), he]
  rfl
theorem drops2 (m j n ph : Nat) (hph : ph = 1 ∨ ph = 2) (hm : 1 ≤ m) (hj : j ≤ 120) (hn : 2 * j + 1 = n) : Sm.does (kb m j ph) 8 (n : Int) false = (kd m (j + 1), ⟨5, false, false, 0, true⟩) := by
  subst hn
  have hp : Sm.phase (kb m j ph) (2 * j + 1) = ph := by
    unfold Sm.phase
    rw [if_pos ⟨by omega, Nat.le_refl _⟩]
    simp [kb, Sm.look]
  rw [does_n (by omega) (by omega), Sm.doN, if_neg (by simp), if_neg (by simp [Sm.isGot]), hp]
  have hj5 : Sm.judge 8 ph false = ⟨5, false, false, 0, true⟩ := by rcases hph with rfl | rfl <;> rfl
  rw [hj5, Sm.move, if_neg (by simp only; omega), if_neg (by omega), if_neg (by decide), if_pos rfl, Sm.drop]
  have e1 : Sm.cutPh [(2 * j + 1, ph)] (2 * j + 1) = [] := by simp [Sm.cutPh]
  refine Prod.ext ?_ rfl
  show Sm.Bk.mk m (2 * j + 1) (Sm.cutPh [(2 * j + 1, ph)] (2 * j + 1)) ((if ((odds j).drop (j - m)).length = m then ((odds j).drop (j - m)).drop 1 else (odds j).drop (j - m)) ++ [2 * j + 1]) false 0 = Sm.Bk.mk m (2 * (j + 1) - 1) [] ((odds (j + 1)).drop (j + 1 - m)) false 0
  rw [e1, kd_dr m j hm, show 2 * (j + 1) - 1 = 2 * j + 1 by omega]
theorem kd_phase (m N i : Nat) (hi : i < N) : Sm.phase (kd m N) (2 * i + 1) = if N - m ≤ i then 5 else 4 := by
  unfold Sm.phase
  rw [if_pos ⟨by omega, by simp only [kd]; omega⟩]
  have := kd_mem m N i hi
  have hl : Sm.look (kd m N).op (2 * i + 1) = none := rfl
  rw [hl]
  by_cases h : N - m ≤ i
  · rw [if_pos h]
    exact if_pos (this.2 h)
  · rw [if_neg h]
    exact if_neg (fun hh => h (this.1 hh))
theorem kd_zero (m : Nat) : kd m 0 = ⟨m, 0, [], [], false, 0⟩ := by simp [kd, odds]
theorem drops3 (m N i n : Nat) (hi : i < N) (hN : N ≤ 120) (hn : 2 * i + 1 = n) (h : N - m ≤ i) : Sm.does (kd m N) 2 (n : Int) true = (kd m N, ⟨5, false, false, 0, false⟩) := by
  subst hn
  rw [does_n (by omega) (by omega), Sm.doN, if_neg (by simp), if_neg (by simp only [kd]; omega), kd_phase m N i hi, if_pos h]
  rfl
theorem drops4 (m N i n : Nat) (hi : i < N) (hN : N ≤ 120) (hn : 2 * i + 1 = n) (h : ¬ N - m ≤ i) : Sm.does (kd m N) 2 (n : Int) true = (kd m N, ⟨4, true, true, 5, false⟩) := by
  subst hn
  rw [does_n (by omega) (by omega), Sm.doN, if_neg (by simp), if_neg (by simp only [kd]; omega), kd_phase m N i hi, if_neg h]
  rfl

set_option maxHeartbeats 8000000 in
set_option maxRecDepth 20000 in
theorem streamDrops_yes (m N : Nat) (h1 : 1 ≤ m) (h2 : m ≤ 50) (h3 : N ≤ 120) (w : World) :
    Calls Try.prog 8 #[.int .i64 (m : Int), .int .i64 (N : Int)] w fun e w' => e = .returned (.bool true) ∧ Below w.heap.size w w' := by
  have HNEW := hid' (snew_yes m h1 (by omega) w)
  have HM1 := hid' h1
  have HN120 := hid' h3
  have q1 : ¬ (m : Int) < 1 := by omega
  have q2 : ¬ (50 : Int) < (m : Int) := by omega
  have q3 : ¬ (N : Int) < 0 := by omega
  have q4 : ¬ (120 : Int) < (N : Int) := by omega
  go_enter Try.func8, Try.ntmps8
  go_wp2_with fail
  refine HNEW.out.mono ?_
  rintro e w1 ⟨⟨b, rfl, v1, u1, hk1⟩, hb1⟩
  have HS1 : Hid (∃ v u, BK w1 w.heap.size b (kd m 0) v u ∧ Below w.heap.size w w1) := hid' ⟨_, _, by rw [kd_zero]; exact hk1, hb1⟩
  clear hk1 hb1 HNEW q1 q2 q3 q4
  go_wp2
  go_loopw [7, 8, 9] (fun s7 _ _ wr => ∃ i : Nat, s7 = .int .i64 (i : Int) ∧ i ≤ N ∧ Hid (∃ v u, BK wr w.heap.size b (kd m i) v u ∧ Below w.heap.size w wr)) (fun s7 _ _ _ => N - (intOf s7).toNat)
  case atStart => exact ⟨0, rfl, Nat.zero_le _, HS1⟩
  case round =>
    clear HS1
    obtain ⟨i, rfl, hi, HX⟩ := hrel
    by_cases hlt : i < N
    · have hlt2 : (i : Int) < (N : Int) := by omega
      have hib : (i : Int) ≤ 120 := by omega
      have HI120 : Hid (i ≤ 120) := hid' (by omega)
      obtain ⟨n, hn⟩ : ∃ n, 2 * i + 1 = n := ⟨_, rfl⟩
      have hni : 2 * (i : Int) + 1 = (n : Int) := by omega
      have HNN := hid' hn
      obtain ⟨v, u, HK, HB⟩ : ∃ v u, Hid (BK wr w.heap.size b (kd m i) v u) ∧ Hid (Below w.heap.size w wr) := by
        obtain ⟨v, u, h1, h2⟩ := HX.out
        exact ⟨v, u, h1, h2⟩
      clear HX hn
      by_cases par : i % 2 = 0
      · have tm : (i : Int).tmod 2 = 0 := by rw [Int.tmod_eq_emod_of_nonneg (by omega)]; omega
        go_wp2_with fail
        try rw [hni]
        refine (sdo_to w.heap.size b _ (kb m i 2) _ _ 1 (n : Int) true ⟨1, false, false, 0, true⟩ (drops1 m i n 2 true rfl HM1.out HI120.out HNN.out) _ HK.out).mono ?_
        rintro e w3 ⟨rfl, ⟨v3, u3, hk3⟩, hf3⟩
        simp only [doV]
        have HK3 := hid' hk3
        have HB3 := hid' (HB.out.trans hf3.bel)
        clear hk3 hf3
        go_wp2_with fail
        try rw [hni]
        refine (sdo_to w.heap.size b _ (kd m (i + 1)) _ _ 8 (n : Int) false ⟨5, false, false, 0, true⟩ (drops2 m i n 2 (by omega) HM1.out HI120.out HNN.out) _ HK3.out).mono ?_
        rintro e w4 ⟨rfl, ⟨v4, u4, hk4⟩, hf4⟩
        simp only [doV]
        have HK4 := hid' hk4
        have HB4 := hid' (HB3.out.trans hf4.bel)
        clear hk4 hf4
        go_wp2_with (refine wpl_alloc 29 rfl rfl _ szeroW ?_)
        intro c5 w5 hg5 ha5 hb5
        have HK5 := hid' (HK4.out.keep hb5)
        have HB5 := hid' (HB4.out.trans (hb5.mono HK4.out.size))
        have HG5 := hid' (Nat.le_trans HK4.out.size hg5)
        have HA5 := hid' ha5
        clear hb5 ha5 hg5
        go_wp2_with (refine wpl_store 29 _ _ rfl rfl c5 #[.bool false, .bool false, .int .i64 0] (by kernel_rfl) (by kernel_rfl) _ _ HA5.out ssizeW rfl (by simp [Value.oneCell']) ?_)
        intro w6 ha6 hu6
        have HK6 := hid' (HK5.out.other hu6 HA5.out (by decide) (by decide) (by decide))
        have HB6 := hid' (HB5.out.trans (hu6.below HG5.out))
        have z0 := ha6.cell 0 _ rfl
        clear ha6 hu6
        have HS6 : Hid (∃ v u, BK w6 w.heap.size b (kd m (i + 1)) v u ∧ Below w.heap.size w w6) := hid' ⟨_, _, HK6.out, HB6.out⟩
        go_wp2
        go_roundw
        case rel => exact ⟨i + 1, by go_num, by omega, HS6⟩
        case measure => simp [intOf]; omega
      · have tm : (i : Int).tmod 2 = 1 := by rw [Int.tmod_eq_emod_of_nonneg (by omega)]; omega
        go_wp2_with fail
        try rw [hni]
        refine (sdo_to w.heap.size b _ (kb m i 1) _ _ 1 (n : Int) false ⟨1, false, false, 0, true⟩ (drops1 m i n 1 false rfl HM1.out HI120.out HNN.out) _ HK.out).mono ?_
        rintro e w3 ⟨rfl, ⟨v3, u3, hk3⟩, hf3⟩
        simp only [doV]
        have HK3 := hid' hk3
        have HB3 := hid' (HB.out.trans hf3.bel)
        clear hk3 hf3
        go_wp2_with fail
        try rw [hni]
        refine (sdo_to w.heap.size b _ (kd m (i + 1)) _ _ 8 (n : Int) false ⟨5, false, false, 0, true⟩ (drops2 m i n 1 (by omega) HM1.out HI120.out HNN.out) _ HK3.out).mono ?_
        rintro e w4 ⟨rfl, ⟨v4, u4, hk4⟩, hf4⟩
        simp only [doV]
        have HK4 := hid' hk4
        have HB4 := hid' (HB3.out.trans hf4.bel)
        clear hk4 hf4
        go_wp2_with (refine wpl_alloc 29 rfl rfl _ szeroW ?_)
        intro c5 w5 hg5 ha5 hb5
        have HK5 := hid' (HK4.out.keep hb5)
        have HB5 := hid' (HB4.out.trans (hb5.mono HK4.out.size))
        have HG5 := hid' (Nat.le_trans HK4.out.size hg5)
        have HA5 := hid' ha5
        clear hb5 ha5 hg5
        go_wp2_with (refine wpl_store 29 _ _ rfl rfl c5 #[.bool false, .bool false, .int .i64 0] (by kernel_rfl) (by kernel_rfl) _ _ HA5.out ssizeW rfl (by simp [Value.oneCell']) ?_)
        intro w6 ha6 hu6
        have HK6 := hid' (HK5.out.other hu6 HA5.out (by decide) (by decide) (by decide))
        have HB6 := hid' (HB5.out.trans (hu6.below HG5.out))
        have z0 := ha6.cell 0 _ rfl
        clear ha6 hu6
        have HS6 : Hid (∃ v u, BK w6 w.heap.size b (kd m (i + 1)) v u ∧ Below w.heap.size w w6) := hid' ⟨_, _, HK6.out, HB6.out⟩
        go_wp2
        go_roundw
        case rel => exact ⟨i + 1, by go_num, by omega, HS6⟩
        case measure => simp [intOf]; omega
    · have hlt2 : ¬ (i : Int) < (N : Int) := by omega
      have hiN : i = N := by omega
      subst hiN
      have HS2 : Hid (∃ v u, BK wr w.heap.size b (kd m i) v u ∧ Below w.heap.size w wr) := HX
      clear HX hlt
      have HI120 : Hid (i ≤ 120) := HN120
      have hi120 : i ≤ 120 := HN120.out
      go_wp2
      go_loopw [10, 11, 12] (fun s10 _ _ wr => ∃ t : Nat, s10 = .int .i64 (t : Int) ∧ t ≤ i ∧ Hid (∃ v u, BK wr w.heap.size b (kd m i) v u ∧ Below w.heap.size w wr)) (fun s10 _ _ _ => i - (intOf s10).toNat)
      case atStart => exact ⟨0, rfl, Nat.zero_le _, HS2⟩
      case round =>
        clear HS2
        obtain ⟨t, rfl, ht, HX⟩ := hrel
        by_cases hlt : t < i
        · have hlt2 : (t : Int) < (i : Int) := by omega
          have HLT := hid' hlt
          obtain ⟨n, hn⟩ : ∃ n, 2 * t + 1 = n := ⟨_, rfl⟩
          have hni : 2 * (t : Int) + 1 = (n : Int) := by omega
          have HNN := hid' hn
          obtain ⟨v, u, HK, HB⟩ : ∃ v u, Hid (BK wr w.heap.size b (kd m i) v u) ∧ Hid (Below w.heap.size w wr) := by
            obtain ⟨v, u, h1, h2⟩ := HX.out
            exact ⟨v, u, h1, h2⟩
          clear HX hn
          by_cases hlm : i - m ≤ t
          · have HLM := hid' hlm
            have g1 : ¬ (t : Int) < (i : Int) - (m : Int) := by omega
            have g2 : (i : Int) - (m : Int) ≤ (t : Int) := by omega
            clear hlm
            go_wp2_with fail
            try rw [hni]
            refine (sdo_to w.heap.size b _ (kd m i) _ _ 2 (n : Int) true ⟨5, false, false, 0, false⟩ (drops3 m i t n HLT.out HI120.out HNN.out HLM.out) _ HK.out).mono ?_
            rintro e w4 ⟨rfl, ⟨v4, u4, hk4⟩, hf4⟩
            simp only [doV]
            have HK4 := hid' hk4
            have HB4 := hid' (HB.out.trans hf4.bel)
            clear hk4 hf4
            go_wp2_with (refine wpl_alloc 29 rfl rfl _ szeroW ?_)
            intro c5 w5 hg5 ha5 hb5
            have HK5 := hid' (HK4.out.keep hb5)
            have HB5 := hid' (HB4.out.trans (hb5.mono HK4.out.size))
            have HG5 := hid' (Nat.le_trans HK4.out.size hg5)
            have HA5 := hid' ha5
            clear hb5 ha5 hg5
            go_wp2_with (refine wpl_store 29 _ _ rfl rfl c5 #[.bool false, .bool false, .int .i64 0] (by kernel_rfl) (by kernel_rfl) _ _ HA5.out ssizeW rfl (by simp [Value.oneCell']) ?_)
            intro w6 ha6 hu6
            have HK6 := hid' (HK5.out.other hu6 HA5.out (by decide) (by decide) (by decide))
            have HB6 := hid' (HB5.out.trans (hu6.below HG5.out))
            have z0 := ha6.cell 0 _ rfl
            have z1 := ha6.cell 1 _ rfl
            have z2 := ha6.cell 2 _ rfl
            clear ha6 hu6
            have HS6 : Hid (∃ v u, BK w6 w.heap.size b (kd m i) v u ∧ Below w.heap.size w w6) := hid' ⟨_, _, HK6.out, HB6.out⟩
            go_wp2
            go_roundw
            case rel => exact ⟨t + 1, by go_num, by omega, HS6⟩
            case measure => simp [intOf]; omega
          · have HLM := hid' hlm
            have g1 : (t : Int) < (i : Int) - (m : Int) := by omega
            clear hlm
            go_wp2_with fail
            try rw [hni]
            refine (sdo_to w.heap.size b _ (kd m i) _ _ 2 (n : Int) true ⟨4, true, true, 5, false⟩ (drops4 m i t n HLT.out HI120.out HNN.out HLM.out) _ HK.out).mono ?_
            rintro e w4 ⟨rfl, ⟨v4, u4, hk4⟩, hf4⟩
            simp only [doV]
            have HK4 := hid' hk4
            have HB4 := hid' (HB.out.trans hf4.bel)
            clear hk4 hf4
            go_wp2_with (refine wpl_alloc 29 rfl rfl _ szeroW ?_)
            intro c5 w5 hg5 ha5 hb5
            have HK5 := hid' (HK4.out.keep hb5)
            have HB5 := hid' (HB4.out.trans (hb5.mono HK4.out.size))
            have HG5 := hid' (Nat.le_trans HK4.out.size hg5)
            have HA5 := hid' ha5
            clear hb5 ha5 hg5
            go_wp2_with (refine wpl_store 29 _ _ rfl rfl c5 #[.bool true, .bool true, .int .i64 5] (by kernel_rfl) (by kernel_rfl) _ _ HA5.out ssizeW rfl (by simp [Value.oneCell']) ?_)
            intro w6 ha6 hu6
            have HK6 := hid' (HK5.out.other hu6 HA5.out (by decide) (by decide) (by decide))
            have HB6 := hid' (HB5.out.trans (hu6.below HG5.out))
            have z0 := ha6.cell 0 _ rfl
            have z1 := ha6.cell 1 _ rfl
            have z2 := ha6.cell 2 _ rfl
            clear ha6 hu6
            have HS6 : Hid (∃ v u, BK w6 w.heap.size b (kd m i) v u ∧ Below w.heap.size w w6) := hid' ⟨_, _, HK6.out, HB6.out⟩
            go_wp2
            go_roundw
            case rel => exact ⟨t + 1, by go_num, by omega, HS6⟩
            case measure => simp [intOf]; omega
        · have hlt2 : ¬ (t : Int) < (i : Int) := by omega
          obtain ⟨v, u, HK, HB⟩ : ∃ v u, Hid (BK wr w.heap.size b (kd m i) v u) ∧ Hid (Below w.heap.size w wr) := by
            obtain ⟨v, u, h1, h2⟩ := HX.out
            exact ⟨v, u, h1, h2⟩
          clear HX
          have HLAST : Hid (((kd m i).last : Int) = if 0 < 2 * (i : Int) - 1 then 2 * (i : Int) - 1 else 0) := hid' (by
            simp only [kd]
            split <;> omega)
          obtain ⟨la, hla⟩ : ∃ la : Int, ((kd m i).last : Int) = la := ⟨_, rfl⟩
          have HLA := hid' hla
          go_wp2_with fail
          refine (awake8 _).mono ?_
          rintro e w9 ⟨rfl, hb9⟩
          have HB9 := hid' (HB.out.trans (hb9.mono HK.out.size))
          have HK9 := hid' (HK.out.keep hb9)
          clear hb9 hla
          go_wp2_with fail
          refine (slast_any w.heap.size b _ _ _ _ HK9.out).mono ?_
          rintro e wa ⟨rfl, hwa⟩
          subst wa
          rw [HLA.out]
          go_wp2
          all_goals
            go_ret
            refine ⟨ret_bool ?_, HB9.out⟩
            have e := HLAST.out
            rw [HLA.out] at e
            rw [beq_iff_eq]
            split at e <;> omega

theorem streamDrops_true (most n : Int) (w : World) :
    Calls Try.prog 8 #[.int .i64 most, .int .i64 n] w fun e w' => e = .returned (.bool true) ∧ Below w.heap.size w w' := by
  by_cases h : 1 ≤ most ∧ most ≤ 50 ∧ 0 ≤ n ∧ n ≤ 120
  · obtain ⟨m, rfl⟩ : ∃ m : Nat, most = m := ⟨most.toNat, by omega⟩
    obtain ⟨N, rfl⟩ : ∃ m : Nat, n = m := ⟨n.toNat, by omega⟩
    exact streamDrops_yes m N (by omega) (by omega) (by omega) w
  · by_cases h1 : most < 1
    · clear h
      go_enter Try.func8, Try.ntmps8
      go_wp2_with fail
      refine (awake8 _).mono ?_
      rintro e w2 ⟨rfl, hb2⟩
      go_wp2
      go_ret
      exact ⟨rfl, hb2⟩
    by_cases h2 : 50 < most
    · clear h
      go_enter Try.func8, Try.ntmps8
      go_wp2_with fail
      refine (awake8 _).mono ?_
      rintro e w2 ⟨rfl, hb2⟩
      go_wp2
      go_ret
      exact ⟨rfl, hb2⟩
    by_cases h3 : n < 0
    · clear h
      go_enter Try.func8, Try.ntmps8
      go_wp2_with fail
      refine (awake8 _).mono ?_
      rintro e w2 ⟨rfl, hb2⟩
      go_wp2
      go_ret
      exact ⟨rfl, hb2⟩
    have h4 : 120 < n := by omega
    clear h
    go_enter Try.func8, Try.ntmps8
    go_wp2_with fail
    refine (awake8 _).mono ?_
    rintro e w2 ⟨rfl, hb2⟩
    go_wp2
    go_ret
    exact ⟨rfl, hb2⟩

end Go.Proofs.Ythgdokcdpmoeeaa
