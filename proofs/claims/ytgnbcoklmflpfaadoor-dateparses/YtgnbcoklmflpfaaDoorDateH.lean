/-
  The document's Parse, by its contract.
-/
import Derived.Test.YtgnbcoklmflpfaaDoorDateG
namespace Go.Proofs.YtgnbcoklmflpfaaDoor
open Go.RowKit

set_option maxRecDepth 20000 in
set_option maxHeartbeats 4000000 in
/-- The document's Parse of 29 bytes, when the month is none. -/
theorem rparse_nomon (s : ByteArray) (hl : s.size = 29) (hm : ∀ i : Nat, i < 12 → Dt.mon i ≠ (s.extract 8 11).data.toList) (w : World) :
    Calls Tryd.prog 18 #[.string s] w fun e w' => e = .returned (.tuple #[.int .i64 0, .int .i64 20]) ∧ Below w.heap.size w w' := by
  obtain ⟨c, hc⟩ : ∃ c, (s.extract 8 11).data.toList = c := ⟨_, rfl⟩
  have hcut : s.extract 8 11 = ⟨c.toArray⟩ := by rw [← hc, ← ba_of]
  have HM : Hid (∀ i : Nat, i < 12 → Dt.mon i ≠ c) := hid' (by rw [← hc]; exact hm)
  clear hm hc
  obtain ⟨D, hD⟩ : ∃ D, Dt.dg ((s.data.toList.drop 5).take 2) = D := ⟨_, rfl⟩
  obtain ⟨Y, hY⟩ : ∃ Y, Dt.dg ((s.data.toList.drop 12).take 4) = Y := ⟨_, rfl⟩
  obtain ⟨h1, hh1⟩ : ∃ h1, Dt.dg ((s.data.toList.drop 17).take 2) = h1 := ⟨_, rfl⟩
  obtain ⟨h2, hh2⟩ : ∃ h2, Dt.dg ((s.data.toList.drop 20).take 2) = h2 := ⟨_, rfl⟩
  obtain ⟨h3, hh3⟩ : ∃ h3, Dt.dg ((s.data.toList.drop 23).take 2) = h3 := ⟨_, rfl⟩
  have HD := hid' hD
  have HY := hid' hY
  have HH1 := hid' hh1
  have HH2 := hid' hh2
  have HH3 := hid' hh3
  clear hD hY hh1 hh2 hh3
  go_enter Tryd.func18, Tryd.ntmps18
  go_wp2_with fail
  refine (digits_any s 5 2 (by omega) (by omega) (by omega) _).mono ?_
  rintro e w1 ⟨rfl, rfl⟩
  rw [HD.out]
  go_wp2_with fail
  refine (digits_any s 12 4 (by omega) (by omega) (by omega) _).mono ?_
  rintro e w1 ⟨rfl, rfl⟩
  rw [HY.out]
  go_wp2_with fail
  refine (digits_any s 17 2 (by omega) (by omega) (by omega) _).mono ?_
  rintro e w1 ⟨rfl, rfl⟩
  rw [HH1.out]
  go_wp2_with fail
  refine (digits_any s 20 2 (by omega) (by omega) (by omega) _).mono ?_
  rintro e w1 ⟨rfl, rfl⟩
  rw [HH2.out]
  go_wp2_with fail
  refine (digits_any s 23 2 (by omega) (by omega) (by omega) _).mono ?_
  rintro e w1 ⟨rfl, rfl⟩
  rw [HH3.out]
  go_wp2
  go_loopw [9] (fun mv wr => ∃ k : Nat, k ≤ 12 ∧ mv = .int .i64 ((k : Int) + 1) ∧ Below w1.heap.size w1 wr) (fun mv _ => (13 - intOf mv).toNat)
  case atStart => exact ⟨0, by decide, rfl, Below.refl _ _⟩
  case round =>
    obtain ⟨k, k12, rfl, hbw⟩ := hrel
    have HBW := hid' hbw
    clear hbw
    by_cases hk : k < 12
    · obtain ⟨p, hp⟩ : ∃ p : Nat, k * 3 = p := ⟨_, rfl⟩
      obtain ⟨r, hr⟩ : ∃ r : Nat, k * 3 + 3 = r := ⟨_, rfl⟩
      have hp0 : (0 : Int) ≤ (p : Int) := by omega
      have hpi : (p : Int) ≤ (r : Int) := by omega
      have hri : (r : Int) ≤ 36 := by omega
      have hr0 : (0 : Int) ≤ (r : Int) := by omega
      obtain ⟨u, hu⟩ : ∃ u, Dt.mon k = u := ⟨_, rfl⟩
      have z1 : (⟨#[74, 97, 110, 70, 101, 98, 77, 97, 114, 65, 112, 114, 77, 97, 121, 74, 117, 110, 74, 117, 108, 65, 117, 103, 83, 101, 112, 79, 99, 116, 78, 111, 118, 68, 101, 99]⟩ : ByteArray).extract p r = ⟨u.toArray⟩ := by
        rw [← hp, ← hr, ← hu]; exact mon_cut ⟨k, by omega⟩
      have x2 : IntKind.i64.wrap (3 * ((k : Int) + 1)) = (r : Int) := by rw [wrap_id' _ (by omega) (by omega)]; omega
      have x3 : IntKind.i64.wrap ((r : Int) - 3) = (p : Int) := by rw [wrap_id' _ (by omega) (by omega)]; omega
      have hk1 : decide ((k : Int) + 1 ≤ 12) = true := decide_eq_true (by omega)
      have huc : (u == c) = false := by rw [← hu]; exact beq_eq_false_iff_ne.2 (HM.out k hk)
      clear hp hr hu
      go_wp2
      go_quiet (fail)
      go_wp2
      go_roundw
      case rel => exact ⟨k + 1, by omega, by go_num, below_two HBW.out (below_drewN _ _)⟩
      case measure => simp [intOf]; omega
    · obtain rfl : k = 12 := by omega
      go_wp2
      go_quiet (fail)
      have HBX := hid' (below_two HBW.out (below_drewN wr nq))
      by_cases b1 : D < 1
      · go_wp2
        go_ret2
        exact ⟨rfl, HBX.out⟩
      · by_cases b2 : Y < 1970
        · go_wp2
          go_ret2
          exact ⟨rfl, HBX.out⟩
        · by_cases b3 : h1 < 0
          · go_wp2
            go_ret2
            exact ⟨rfl, HBX.out⟩
          · by_cases b4 : h2 < 0
            · go_wp2
              go_ret2
              exact ⟨rfl, HBX.out⟩
            · by_cases b5 : h3 < 0
              · go_wp2
                go_ret2
                exact ⟨rfl, HBX.out⟩
              · go_wp2
                go_ret2
                exact ⟨rfl, HBX.out⟩

set_option maxRecDepth 20000 in
set_option maxHeartbeats 4000000 in
/-- The document's Parse of 29 bytes, when the month is one. -/
theorem rparse_mon (s : ByteArray) (hl : s.size = 29) (i : Nat) (hi : i < 12) (hm : Dt.mon i = (s.extract 8 11).data.toList) (D Y h1 h2 h3 n : Int) (v : List UInt8) (f : Int) (r : Int × Int)
    (hD : Dt.dg ((s.data.toList.drop 5).take 2) = D) (hY : Dt.dg ((s.data.toList.drop 12).take 4) = Y) (hh1 : Dt.dg ((s.data.toList.drop 17).take 2) = h1) (hh2 : Dt.dg ((s.data.toList.drop 20).take 2) = h2) (hh3 : Dt.dg ((s.data.toList.drop 23).take 2) = h3)
    (hn : n = 86400 * (Dt.dY Y + Dt.dM i Y + D - 1) + 3600 * h1 + 60 * h2 + h3)
    (hf : Hid (∀ w, Calls Tryd.prog 15 #[.int .i64 n] w fun e w' => e = .returned (.tuple #[.string ⟨v.toArray⟩, .int .i64 f]) ∧ Below w.heap.size w w'))
    (hr : ((D < 1 ∨ Y < 1970 ∨ h1 < 0 ∨ h2 < 0 ∨ h3 < 0) ∧ r = (0, 20)) ∨ ((1 ≤ D ∧ 1970 ≤ Y ∧ 0 ≤ h1 ∧ 0 ≤ h2 ∧ 0 ≤ h3) ∧ ((f = 0 ∧ v = s.data.toList ∧ r = (n, 0)) ∨ ((f = 0 ∧ v ≠ s.data.toList ∨ f = 5) ∧ r = (0, 20)))))
    (w : World) :
    Calls Tryd.prog 18 #[.string s] w fun e w' => e = .returned (.tuple #[.int .i64 r.1, .int .i64 r.2]) ∧ Below w.heap.size w w' := by
  obtain ⟨c, hc⟩ : ∃ c, (s.extract 8 11).data.toList = c := ⟨_, rfl⟩
  have hcut : s.extract 8 11 = ⟨c.toArray⟩ := by rw [← hc, ← ba_of]
  have HM : Hid (Dt.mon i = c) := hid' (by rw [← hc]; exact hm)
  clear hm hc
  have bd : ∀ (a k : Nat), a + k ≤ 29 → -1 ≤ Dt.dg ((s.data.toList.drop a).take k) ∧ Dt.dg ((s.data.toList.drop a).take k) < 10 ^ k := fun a k h => by
    have := Dt.dg_bd ((s.data.toList.drop a).take k)
    rwa [show ((s.data.toList.drop a).take k).length = k by rw [List.length_take, List.length_drop, ← Lib.size_eq, hl]; omega] at this
  obtain ⟨bD0, bD1⟩ := bd 5 2 (by omega)
  obtain ⟨bY0, bY1⟩ := bd 12 4 (by omega)
  obtain ⟨b10, b11⟩ := bd 17 2 (by omega)
  obtain ⟨b20, b21⟩ := bd 20 2 (by omega)
  obtain ⟨b30, b31⟩ := bd 23 2 (by omega)
  rw [hD] at bD0 bD1
  rw [hY] at bY0 bY1
  rw [hh1] at b10 b11
  rw [hh2] at b20 b21
  rw [hh3] at b30 b31
  replace bD1 : D < 100 := bD1
  replace bY1 : Y < 10000 := bY1
  replace b11 : h1 < 100 := b11
  replace b21 : h2 < 100 := b21
  replace b31 : h3 < 100 := b31
  have HR := hid' hr
  have HN := hid' hn
  clear hr hn bd
  have HD := hid' hD
  have HY := hid' hY
  have HH1 := hid' hh1
  have HH2 := hid' hh2
  have HH3 := hid' hh3
  clear hD hY hh1 hh2 hh3
  go_enter Tryd.func18, Tryd.ntmps18
  go_wp2_with fail
  refine (digits_any s 5 2 (by omega) (by omega) (by omega) _).mono ?_
  rintro e w1 ⟨rfl, rfl⟩
  rw [HD.out]
  go_wp2_with fail
  refine (digits_any s 12 4 (by omega) (by omega) (by omega) _).mono ?_
  rintro e w1 ⟨rfl, rfl⟩
  rw [HY.out]
  go_wp2_with fail
  refine (digits_any s 17 2 (by omega) (by omega) (by omega) _).mono ?_
  rintro e w1 ⟨rfl, rfl⟩
  rw [HH1.out]
  go_wp2_with fail
  refine (digits_any s 20 2 (by omega) (by omega) (by omega) _).mono ?_
  rintro e w1 ⟨rfl, rfl⟩
  rw [HH2.out]
  go_wp2_with fail
  refine (digits_any s 23 2 (by omega) (by omega) (by omega) _).mono ?_
  rintro e w1 ⟨rfl, rfl⟩
  rw [HH3.out]
  go_wp2
  go_loopw [9] (fun mv wr => ∃ k : Nat, k ≤ i ∧ mv = .int .i64 ((k : Int) + 1) ∧ Below w1.heap.size w1 wr) (fun mv _ => (13 - intOf mv).toNat)
  case atStart => exact ⟨0, by omega, rfl, Below.refl _ _⟩
  case round =>
    obtain ⟨k, k12, rfl, hbw⟩ := hrel
    have HBW := hid' hbw
    clear hbw
    obtain ⟨p, hp⟩ : ∃ p : Nat, k * 3 = p := ⟨_, rfl⟩
    obtain ⟨q, hr⟩ : ∃ q : Nat, k * 3 + 3 = q := ⟨_, rfl⟩
    have hp0 : (0 : Int) ≤ (p : Int) := by omega
    have hpi : (p : Int) ≤ (q : Int) := by omega
    have hri : (q : Int) ≤ 36 := by omega
    have hr0 : (0 : Int) ≤ (q : Int) := by omega
    obtain ⟨u, hu⟩ : ∃ u, Dt.mon k = u := ⟨_, rfl⟩
    have z1 : (⟨#[74, 97, 110, 70, 101, 98, 77, 97, 114, 65, 112, 114, 77, 97, 121, 74, 117, 110, 74, 117, 108, 65, 117, 103, 83, 101, 112, 79, 99, 116, 78, 111, 118, 68, 101, 99]⟩ : ByteArray).extract p q = ⟨u.toArray⟩ := by
      rw [← hp, ← hr, ← hu]; exact mon_cut ⟨k, by omega⟩
    have x2 : IntKind.i64.wrap (3 * ((k : Int) + 1)) = (q : Int) := by rw [wrap_id' _ (by omega) (by omega)]; omega
    have x3 : IntKind.i64.wrap ((q : Int) - 3) = (p : Int) := by rw [wrap_id' _ (by omega) (by omega)]; omega
    have hk1 : decide ((k : Int) + 1 ≤ 12) = true := decide_eq_true (by omega)

    by_cases hk : k < i
    · have huc : (u == c) = false := by rw [← hu, ← HM.out]; exact beq_eq_false_iff_ne.2 fun e => absurd (Dt.mon_inj k i (by omega) (by omega) (by omega) (by omega) e) (by omega)
      clear hp hr hu
      go_wp2
      go_quiet (fail)
      go_wp2
      go_roundw
      case rel => exact ⟨k + 1, by omega, by go_num, below_two HBW.out (below_drewN _ _)⟩
      case measure => simp [intOf]; omega
    · obtain rfl : k = i := by omega
      have huc : (u == c) = true := by rw [← hu, ← HM.out]; simp
      clear hp hr hu
      go_wp2
      go_quiet (fail)
      have HBX := hid' (below_two HBW.out (below_drewN wr nq))
      clear huc hk1 x2 x3 z1 hp0 hpi hri hr0 hk
      rcases HR.out with ⟨hb, rfl⟩ | ⟨⟨g1, g2, g3, g4, g5⟩, hb⟩
      · by_cases b1 : D < 1
        · go_wp2
          go_ret2
          exact ⟨rfl, HBX.out⟩
        · by_cases b2 : Y < 1970
          · go_wp2
            go_ret2
            exact ⟨rfl, HBX.out⟩
          · by_cases b3 : h1 < 0
            · go_wp2
              go_ret2
              exact ⟨rfl, HBX.out⟩
            · by_cases b4 : h2 < 0
              · go_wp2
                go_ret2
                exact ⟨rfl, HBX.out⟩
              · have b5 : h3 < 0 := by omega
                go_wp2
                go_ret2
                exact ⟨rfl, HBX.out⟩
      · have HB := hid' hb
        clear hb
        go_wp2
        go_loop [11, 12] (fun dv kv => ∃ z : Int, 1970 ≤ z ∧ z ≤ Y ∧ kv = .int .i64 z ∧ dv = .int .i64 (Dt.dY z + D - 1)) (fun _ kv => (Y - intOf kv).toNat)
        case atStart => exact ⟨1970, by decide, g2, rfl, by rw [Dt.dY_first]; first | rfl | (congr 1; omega)⟩
        case round =>
          obtain ⟨z, z0, z1, rfl, rfl⟩ := hrel
          have HS := hid' (Dt.dY_succ z)
          have hyl := Dt.yl_cases z
          have hy0 : 365 ≤ Dt.yl z := by omega
          have hy1 : Dt.yl z ≤ 366 := by omega
          obtain ⟨hdb0, hdb1⟩ := Dt.dY_bd z (by omega) (by omega)
          clear hyl
          by_cases hlt : z < Y
          · go_wp2_with (go_at_call 31; refine (ryear_any _ (by omega) _).mono ?_; rintro e w' ⟨rfl, rfl⟩)
            go_round
            case rel => exact ⟨z + 1, by omega, by omega, rfl, by rw [HS.out]; congr 1; omega⟩
            case measure => simp [intOf]; omega
          · obtain rfl : z = Y := by omega
            clear HS hy0 hy1 hlt
            go_wp2
            go_loop [11, 13] (fun dv kv => ∃ j : Nat, j ≤ k ∧ kv = .int .i64 ((j : Int) + 1) ∧ dv = .int .i64 (Dt.dY z + Dt.dM j z + D - 1)) (fun _ kv => (k + 1 - intOf kv).toNat)
            case atStart => exact ⟨0, by omega, rfl, by rw [show Dt.dM ((0 : Nat) : Int) z = 0 from Dt.dM_first z, Int.add_zero]⟩
            case round =>
              obtain ⟨j, j1, rfl, rfl⟩ := hrel
              have HS := hid' (Dt.dM_succ j z (by omega) (by omega))
              obtain ⟨hm0, hm1⟩ := Dt.ml_bd j z
              obtain ⟨hd0, hd1⟩ := Dt.dM_bd j z (by omega) (by omega)
              by_cases hlt : j < k
              · go_wp2_with (go_at_call 32; refine (rmonth_any _ _ (by omega) (by omega) (by omega) _).mono ?_; rintro e w' ⟨rfl, rfl⟩)
                go_round
                case rel => exact ⟨j + 1, by omega, by go_num, by rw [show (((j + 1 : Nat)) : Int) = (j : Int) + 1 by omega, HS.out]; congr 1; omega⟩
                case measure => simp [intOf]; omega
              · obtain rfl : j = k := by omega
                clear HS hm0 hm1 hlt
                have hnn : 86400 * (Dt.dY z + Dt.dM j z + D - 1) + 3600 * h1 + 60 * h2 + h3 = n := HN.out.symm
                rcases HB.out with ⟨rfl, hv, rfl⟩ | ⟨⟨rfl, hv⟩ | rfl, rfl⟩
                · have hve : (v == s.toList) = true := by rw [hv, Lib.toList_data]; simp
                  clear hv
                  go_wp2_with fail
                  refine (hf.out _).mono ?_
                  rintro e w3 ⟨rfl, hb3⟩
                  go_wp2
                  go_ret2
                  exact ⟨rfl, below_two HBX.out hb3⟩
                · have hve : (v == s.toList) = false := by rw [Lib.toList_data]; simpa using hv
                  clear hv
                  go_wp2_with fail
                  refine (hf.out _).mono ?_
                  rintro e w3 ⟨rfl, hb3⟩
                  go_wp2
                  go_ret2
                  exact ⟨rfl, below_two HBX.out hb3⟩
                · go_wp2_with fail
                  refine (hf.out _).mono ?_
                  rintro e w3 ⟨rfl, hb3⟩
                  go_wp2
                  go_ret2
                  exact ⟨rfl, below_two HBX.out hb3⟩

set_option maxHeartbeats 400000 in
theorem rparse_short (s : ByteArray) (hl : s.size ≠ 29) (w : World) :
    Calls Tryd.prog 18 #[.string s] w fun e w' => e = .returned (.tuple #[.int .i64 0, .int .i64 20]) ∧ Below w.heap.size w w' := by
  have h : ((s.size : Int) == 29) = false := beq_eq_false_iff_ne.2 (by omega)
  go_enter Tryd.func18, Tryd.ntmps18
  go_wp2
  go_ret2
  exact ⟨rfl, Below.refl _ _⟩

theorem rparse_no (s : ByteArray) (h : ∀ n, ¬ Dt.Dated n s.data.toList) (w : World) :
    Calls Tryd.prog 18 #[.string s] w fun e w' => e = .returned (.tuple #[.int .i64 0, .int .i64 20]) ∧ Below w.heap.size w w' := by
  by_cases hl : s.size = 29
  · by_cases hm : ∃ i : Nat, i < 12 ∧ Dt.mon i = (s.extract 8 11).data.toList
    · obtain ⟨i, hi, hm⟩ := hm
      obtain ⟨D, hD⟩ : ∃ D, Dt.dg ((s.data.toList.drop 5).take 2) = D := ⟨_, rfl⟩
      obtain ⟨Y, hY⟩ : ∃ Y, Dt.dg ((s.data.toList.drop 12).take 4) = Y := ⟨_, rfl⟩
      obtain ⟨h1, hh1⟩ : ∃ h1, Dt.dg ((s.data.toList.drop 17).take 2) = h1 := ⟨_, rfl⟩
      obtain ⟨h2, hh2⟩ : ∃ h2, Dt.dg ((s.data.toList.drop 20).take 2) = h2 := ⟨_, rfl⟩
      obtain ⟨h3, hh3⟩ : ∃ h3, Dt.dg ((s.data.toList.drop 23).take 2) = h3 := ⟨_, rfl⟩
      obtain ⟨n, hn⟩ : ∃ n, n = 86400 * (Dt.dY Y + Dt.dM i Y + D - 1) + 3600 * h1 + 60 * h2 + h3 := ⟨_, rfl⟩
      by_cases hr : 0 ≤ n ∧ n ≤ 253402300799
      · obtain ⟨v, hv⟩ := Dt.dated_ex _ hr.1 hr.2
        refine rparse_mon s hl i hi hm D Y h1 h2 h3 n v 0 (0, 20) hD hY hh1 hh2 hh3 hn (hid' fun w => rformat_any _ v hv w) ?_ w
        by_cases hb : D < 1 ∨ Y < 1970 ∨ h1 < 0 ∨ h2 < 0 ∨ h3 < 0
        · exact Or.inl ⟨hb, rfl⟩
        · refine Or.inr ⟨by omega, Or.inr ⟨Or.inl ⟨rfl, fun e => ?_⟩, rfl⟩⟩
          rw [e] at hv; exact h _ hv
      · refine rparse_mon s hl i hi hm D Y h1 h2 h3 n [] 5 (0, 20) hD hY hh1 hh2 hh3 hn (hid' fun w => (rformat_none _ (by omega) w).mono fun e w' ⟨a, b⟩ => ⟨a, by rw [b]; exact Below.refl _ _⟩) ?_ w
        by_cases hb : D < 1 ∨ Y < 1970 ∨ h1 < 0 ∨ h2 < 0 ∨ h3 < 0
        · exact Or.inl ⟨hb, rfl⟩
        · exact Or.inr ⟨by omega, Or.inr ⟨Or.inr rfl, rfl⟩⟩
    · exact rparse_nomon s hl (fun i hi e => hm ⟨i, hi, e⟩) w
  · exact rparse_short s hl w

theorem rparse_yes (n : Int) (l : List UInt8) (h : Dt.Dated n l) (w : World) :
    Calls Tryd.prog 18 #[.string ⟨l.toArray⟩] w fun e w' => e = .returned (.tuple #[.int .i64 n, .int .i64 0]) ∧ Below w.heap.size w w' := by
  have H := h
  obtain ⟨y, m, d, a, hl⟩ := h
  obtain ⟨a1, b1, c1, e1⟩ := Dt.three (Dt.wk_len ((n / 86400 + 3) % 7) (by omega) (by omega))
  obtain ⟨f, g, i, e2⟩ := Dt.three (Dt.mon_len m a.m0 (by have := a.m1; omega))
  obtain ⟨d0, d1⟩ := a.d_bd
  have y0 := a.y0
  have y1 := a.y1
  have m0 := a.m0
  have m1 := a.m1
  have p1 : (l.drop 5).take 2 = Dt.two d := by rw [hl]; simp [Dt.line, Dt.dayText, Dt.clockText, e1, e2, Dt.two, Dt.four]
  have p2 : (l.drop 12).take 4 = Dt.four y := by rw [hl]; simp [Dt.line, Dt.dayText, Dt.clockText, e1, e2, Dt.two, Dt.four]
  have p3 : (l.drop 17).take 2 = Dt.two (n % 86400 / 3600) := by rw [hl]; simp [Dt.line, Dt.dayText, Dt.clockText, e1, e2, Dt.two, Dt.four]
  have p4 : (l.drop 20).take 2 = Dt.two (n % 86400 / 60 % 60) := by rw [hl]; simp [Dt.line, Dt.dayText, Dt.clockText, e1, e2, Dt.two, Dt.four]
  have p5 : (l.drop 23).take 2 = Dt.two (n % 86400 % 60) := by rw [hl]; simp [Dt.line, Dt.dayText, Dt.clockText, e1, e2, Dt.two, Dt.four]
  have p6 : (l.drop 8).take 3 = Dt.mon m := by rw [hl]; simp [Dt.line, Dt.dayText, Dt.clockText, e1, e2, Dt.two, Dt.four]
  have hde := a.deq
  refine rparse_mon ⟨l.toArray⟩ (by rw [Lib.size_eq]; exact H.len) m.toNat (by omega) ?_ d y (n % 86400 / 3600) (n % 86400 / 60 % 60) (n % 86400 % 60) n l 0 (n, 0)
    (by show Dt.dg ((l.drop 5).take 2) = d; rw [p1, Dt.dg_two d (by omega) (by omega)]) (by show Dt.dg ((l.drop 12).take 4) = y; rw [p2, Dt.dg_four y (by omega) (by omega)]) (by show Dt.dg ((l.drop 17).take 2) = _; rw [p3, Dt.dg_two _ (by omega) (by omega)])
    (by show Dt.dg ((l.drop 20).take 2) = _; rw [p4, Dt.dg_two _ (by omega) (by omega)]) (by show Dt.dg ((l.drop 23).take 2) = _; rw [p5, Dt.dg_two _ (by omega) (by omega)])
    ?_ (hid' fun w => rformat_any n l H w) (Or.inr ⟨by omega, Or.inl ⟨rfl, rfl, rfl⟩⟩) w
  · rw [cut_list, show ((m.toNat : Nat) : Int) = m by omega]; exact p6.symm
  · rw [show ((m.toNat : Nat) : Int) = m by omega]; omega

end Go.Proofs.YtgnbcoklmflpfaaDoor
