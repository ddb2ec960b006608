/-
  FlowKeeps: no more comes in than the size and all that was granted.
-/
import Derived.Test.YthbidfcfkjamdaaLawFlowPlays
namespace Go.Proofs.Ythbidfcfkjamdaa
open Go.RowKit

theorem flowKeeps_no (n : Int) (h : n < 1 ∨ 2147483647 < n) (sv : Value) (w : World) :
    Calls Try.prog 7 #[.int .i64 n, sv] w fun e w' => e = .returned (.bool true) ∧ Below w.heap.size w w' := by
  have H := hid' h
  clear h
  go_enter Try.func7, Try.ntmps7
  go_wp2_with fail
  refine (gnew_no n H.out _).mono ?_
  rintro e w1 ⟨rfl, hw1⟩
  subst w1
  go_wp2_with fail
  refine (awake9 _).mono ?_
  rintro e w2 ⟨rfl, hb2⟩
  go_wp2
  go_ret
  exact ⟨rfl, hb2⟩

set_option maxHeartbeats 8000000 in
set_option maxRecDepth 20000 in
theorem flowKeeps_yes (n : Int) (h1 : ¬ n < 1) (h2 : ¬ 2147483647 < n) (sv : Value) (cs : List Cl) (w : World) (hsc : Scr w sv cs) (hlen : cs.length ≤ 1048576) :
    Calls Try.prog 7 #[.int .i64 n, sv] w fun e w' => e = .returned (.bool true) ∧ Below w.heap.size w w' := by
  obtain ⟨ao, cap, hsv⟩ := hsc.shape
  subst hsv
  obtain ⟨N, hN⟩ : ∃ N, cs.length = N := ⟨_, rfl⟩
  have HN := hid' hN
  rw [hN] at hsc hlen ⊢
  have HSC := hid' hsc
  have H1 := hid' (fun W => gnew_yes n h1 h2 W)
  have hn1 : 1 ≤ n := by omega
  have hn2 : n ≤ 2147483647 := by omega
  clear hN hsc h1 h2
  go_enter Try.func7, Try.ntmps7
  go_wp2_with fail
  refine (H1.out _).mono ?_
  rintro e w1 ⟨⟨b, rfl, hlb, ha1⟩, hb1⟩
  have HLB := hid' hlb
  have HS2 : Hid (CG w1 b ⟨n, n + 0 - 0, 0 - 0⟩ ∧ Below w.heap.size w w1) := hid' ⟨by simpa using ha1, hb1⟩
  clear hlb ha1 hb1 H1
  go_wp2
  go_loopw [7, 8, 9, 10, 11] (fun s7 s8 s9 s10 _ wr => ∃ i : Nat, ∃ gt us gr : Int, s10 = .int .i64 (i : Int) ∧ s7 = .int .i64 gt ∧ s8 = .int .i64 us ∧ s9 = .int .i64 gr ∧ i ≤ N ∧ 0 ≤ gr ∧ gr ≤ us ∧ us ≤ gt ∧ gt ≤ n + gr ∧ gr ≤ (i : Int) * 2147483647 ∧ Hid (CG wr b ⟨n, n + gr - gt, gt - us⟩ ∧ Below w.heap.size w wr)) (fun _ _ _ s10 _ _ => N - (intOf s10).toNat)
  case atStart => exact ⟨0, 0, 0, 0, rfl, rfl, rfl, rfl, Nat.zero_le _, by omega, by omega, by omega, by omega, by omega, HS2⟩
  case round =>
    clear HS2
    obtain ⟨i, gt, us, gr, rfl, rfl, rfl, rfl, hi, g0, g1, g2, g3, g4, HX⟩ := hrel
    have g5 : gr ≤ 2251799812636672 := by omega
    have g6 : gt ≤ 2251801960120320 := by omega
    have HG4 := hid' g4
    clear g4
    have HA : Hid (CG wr b ⟨n, n + gr - gt, gt - us⟩) := hid' HX.out.1
    have HB : Hid (Below w.heap.size w wr) := hid' HX.out.2
    have HI : Hid (Fw.Ok ⟨n, n + gr - gt, gt - us⟩) := hid' (by constructor <;> simp only <;> omega)
    clear HX
    by_cases hlt : i < N
    · have hlt2 : (i : Int) < (N : Int) := by omega
      obtain ⟨c, hc⟩ : ∃ c, cs[i]? = some c := ⟨_, List.getElem?_eq_getElem (by rw [HN.out]; exact hlt)⟩
      obtain ⟨a, hao, x0, x1⟩ := HSC.out.at HB.out i c hc
      subst hao
      obtain ⟨m, hm⟩ : ∃ m, c.num = m := ⟨_, rfl⟩
      obtain ⟨q, hq⟩ : ∃ q, c.what = q := ⟨_, rfl⟩
      rw [hm] at x1
      rw [hq] at x0
      clear hc hm hq
      by_cases q0 : (q : Int).tmod 3 = 0
      · by_cases m0 : m < 0
        · go_wp2_with fail
          refine (ggot_any b _ ⟨n, n + gr - gt, gt - us⟩ m 1 (by simp only [Fw.got]; rw [if_pos m0]) HI.out _ HA.out).mono ?_
          rintro e w3 ⟨rfl, ha3, hu3⟩
          have HA3 := hid' ha3
          have HB3 := hid' (HB.out.trans (hu3.below HLB.out))
          clear ha3 hu3 x0 x1 HA HB HI
          go_wp2_with fail
          refine (gleft_any b ⟨n, n + gr - gt, gt - us⟩ _ HA3.out).mono ?_
          rintro e w5 ⟨rfl, hw5⟩
          subst w5
          go_wp2
          go_roundw
          case rel => exact ⟨i + 1, gt, us, gr, by go_num, by go_num, by go_num, by go_num, by omega, by omega, by omega, by omega, by omega, by have := HG4.out; omega, hid' ⟨HA3.out, HB3.out⟩⟩
          case measure => simp [intOf]; omega
        by_cases m1 : n + gr - gt < m
        · go_wp2_with fail
          refine (ggot_any b _ ⟨n, n + gr - gt, gt - us⟩ m 5 (by simp only [Fw.got]; rw [if_neg (by omega), if_pos (by omega)]) HI.out _ HA.out).mono ?_
          rintro e w3 ⟨rfl, ha3, hu3⟩
          have HA3 := hid' ha3
          have HB3 := hid' (HB.out.trans (hu3.below HLB.out))
          clear ha3 hu3 x0 x1 HA HB HI
          go_wp2_with fail
          refine (gleft_any b ⟨n, n + gr - gt, gt - us⟩ _ HA3.out).mono ?_
          rintro e w5 ⟨rfl, hw5⟩
          subst w5
          go_wp2
          go_roundw
          case rel => exact ⟨i + 1, gt, us, gr, by go_num, by go_num, by go_num, by go_num, by omega, by omega, by omega, by omega, by omega, by have := HG4.out; omega, hid' ⟨HA3.out, HB3.out⟩⟩
          case measure => simp [intOf]; omega
        · have HM := hid' m1
          have HM0 := hid' m0
          have k0 : 0 ≤ m := by omega
          have k1 : gt + m ≤ n + gr := by omega
          have HPF : Hid (Fw.got ⟨n, n + gr - gt, gt - us⟩ m = (0, ⟨n, n + gr - (gt + m), gt + m - us⟩)) := hid' (by simp only [Fw.got]; rw [if_neg m0, if_neg m1]; congr 2 <;> omega)
          clear m0 m1 HM HM0
          go_wp2_with fail
          refine (ggot_any b _ ⟨n, n + gr - (gt + m), gt + m - us⟩ m 0 HPF.out HI.out _ HA.out).mono ?_
          rintro e w3 ⟨rfl, ha3, hu3⟩
          have HA3 := hid' ha3
          have HB3 := hid' (HB.out.trans (hu3.below HLB.out))
          clear ha3 hu3 x0 x1 HA HB HI
          go_wp2_with fail
          refine (gleft_any b ⟨n, n + gr - (gt + m), (gt + m) - us⟩ _ HA3.out).mono ?_
          rintro e w5 ⟨rfl, hw5⟩
          subst w5
          go_wp2
          go_roundw
          case rel => exact ⟨i + 1, (gt + m), us, gr, by go_num, by go_num, by go_num, by go_num, by omega, by omega, by omega, by omega, by omega, by have := HG4.out; omega, hid' ⟨HA3.out, HB3.out⟩⟩
          case measure => simp [intOf]; omega
      by_cases q1 : (q : Int).tmod 3 = 1
      · by_cases m0 : m < 0
        · go_wp2_with fail
          refine (gused_any b _ ⟨n, n + gr - gt, gt - us⟩ m 1 (by simp only [Fw.used]; rw [if_pos m0]) HI.out _ HA.out).mono ?_
          rintro e w3 ⟨rfl, ha3, hu3⟩
          have HA3 := hid' ha3
          have HB3 := hid' (HB.out.trans (hu3.below HLB.out))
          clear ha3 hu3 x0 x1 HA HB HI
          go_wp2_with fail
          refine (gleft_any b ⟨n, n + gr - gt, gt - us⟩ _ HA3.out).mono ?_
          rintro e w5 ⟨rfl, hw5⟩
          subst w5
          go_wp2
          go_roundw
          case rel => exact ⟨i + 1, gt, us, gr, by go_num, by go_num, by go_num, by go_num, by omega, by omega, by omega, by omega, by omega, by have := HG4.out; omega, hid' ⟨HA3.out, HB3.out⟩⟩
          case measure => simp [intOf]; omega
        by_cases m1 : gt - us < m
        · go_wp2_with fail
          refine (gused_any b _ ⟨n, n + gr - gt, gt - us⟩ m 5 (by simp only [Fw.used]; rw [if_neg (by omega), if_pos (by omega)]) HI.out _ HA.out).mono ?_
          rintro e w3 ⟨rfl, ha3, hu3⟩
          have HA3 := hid' ha3
          have HB3 := hid' (HB.out.trans (hu3.below HLB.out))
          clear ha3 hu3 x0 x1 HA HB HI
          go_wp2_with fail
          refine (gleft_any b ⟨n, n + gr - gt, gt - us⟩ _ HA3.out).mono ?_
          rintro e w5 ⟨rfl, hw5⟩
          subst w5
          go_wp2
          go_roundw
          case rel => exact ⟨i + 1, gt, us, gr, by go_num, by go_num, by go_num, by go_num, by omega, by omega, by omega, by omega, by omega, by have := HG4.out; omega, hid' ⟨HA3.out, HB3.out⟩⟩
          case measure => simp [intOf]; omega
        · have k0 : 0 ≤ m := by omega
          have k1 : us + m ≤ gt := by omega
          have HPF : Hid (Fw.used ⟨n, n + gr - gt, gt - us⟩ m = (0, ⟨n, n + gr - gt, gt - (us + m)⟩)) := hid' (by simp only [Fw.used]; rw [if_neg m0, if_neg m1]; congr 2 <;> omega)
          clear m0 m1
          go_wp2_with fail
          refine (gused_any b _ ⟨n, n + gr - gt, gt - (us + m)⟩ m 0 HPF.out HI.out _ HA.out).mono ?_
          rintro e w3 ⟨rfl, ha3, hu3⟩
          have HA3 := hid' ha3
          have HB3 := hid' (HB.out.trans (hu3.below HLB.out))
          clear ha3 hu3 x0 x1 HA HB HI
          go_wp2_with fail
          refine (gleft_any b ⟨n, n + gr - gt, gt - (us + m)⟩ _ HA3.out).mono ?_
          rintro e w5 ⟨rfl, hw5⟩
          subst w5
          go_wp2
          go_roundw
          case rel => exact ⟨i + 1, gt, (us + m), gr, by go_num, by go_num, by go_num, by go_num, by omega, by omega, by omega, by omega, by omega, by have := HG4.out; omega, hid' ⟨HA3.out, HB3.out⟩⟩
          case measure => simp [intOf]; omega
      · have q2 : (q : Int).tmod 3 = 2 := tmod3 q q0 q1
        clear q0 q1
        have hfr : Fw.free ⟨n, n + gr - gt, gt - us⟩ = us - gr := by simp only [Fw.free]; omega
        by_cases m0 : 2 * (us - gr) < n
        · have HPF : Hid (Fw.grant ⟨n, n + gr - gt, gt - us⟩ = (0, ⟨n, n + gr - gt, gt - us⟩)) := hid' (by simp only [Fw.grant]; rw [hfr, if_pos m0])
          clear hfr m0
          go_wp2_with fail
          refine (ggrant_any b _ ⟨n, n + gr - gt, gt - us⟩ 0 HPF.out HI.out _ HA.out).mono ?_
          rintro e w3 ⟨rfl, ha3, hu3⟩
          have HA3 := hid' ha3
          have HB3 := hid' (HB.out.trans (hu3.below HLB.out))
          clear ha3 hu3 x0 x1 HA HB HI
          go_wp2_with fail
          refine (gleft_any b ⟨n, n + gr - gt, gt - us⟩ _ HA3.out).mono ?_
          rintro e w5 ⟨rfl, hw5⟩
          subst w5
          go_wp2
          go_roundw
          case rel => exact ⟨i + 1, gt, us, gr, by go_num, by go_num, by go_num, by go_num, by omega, by omega, by omega, by omega, by omega, by have := HG4.out; omega, hid' ⟨HA3.out, HB3.out⟩⟩
          case measure => simp [intOf]; omega
        · obtain ⟨r, hr⟩ : ∃ r, us - gr = r := ⟨_, rfl⟩
          have k0 : 0 ≤ r := by omega
          have k1 : gr + r ≤ us := by omega
          have HK2 : Hid (r ≤ n) := hid' (by omega)
          have k3 : gt ≤ n + (gr + r) := by omega
          have HPF : Hid (Fw.grant ⟨n, n + gr - gt, gt - us⟩ = (r, ⟨n, n + (gr + r) - gt, gt - us⟩)) := hid' (by simp only [Fw.grant]; rw [hfr, if_neg m0]; congr 2 <;> omega)
          clear hfr m0 hr
          go_wp2_with fail
          refine (ggrant_any b _ ⟨n, n + (gr + r) - gt, gt - us⟩ r HPF.out HI.out _ HA.out).mono ?_
          rintro e w3 ⟨rfl, ha3, hu3⟩
          have HA3 := hid' ha3
          have HB3 := hid' (HB.out.trans (hu3.below HLB.out))
          clear ha3 hu3 x0 x1 HA HB HI
          go_wp2_with fail
          refine (gleft_any b ⟨n, n + (gr + r) - gt, gt - us⟩ _ HA3.out).mono ?_
          rintro e w5 ⟨rfl, hw5⟩
          subst w5
          go_wp2
          go_roundw
          case rel => exact ⟨i + 1, gt, us, (gr + r), by go_num, by go_num, by go_num, by go_num, by omega, by omega, by omega, by omega, by omega, by have := HG4.out; have := HK2.out; omega, hid' ⟨HA3.out, HB3.out⟩⟩
          case measure => simp [intOf]; omega
    · have hlt2 : ¬ (i : Int) < (N : Int) := by omega
      have HPF : Hid (Fw.used ⟨n, n + gr - gt, gt - us⟩ (gt - us) = (0, ⟨n, n + gr - gt, 0⟩)) := hid' (by simp only [Fw.used]; rw [if_neg (by omega), if_neg (by omega)]; congr 2; omega)
      have HI2 : Hid (Fw.Ok ⟨n, n + gr - gt, 0⟩) := hid' (by constructor <;> simp only <;> omega)
      go_wp2_with fail
      refine (gused_any b _ _ (gt - us) 0 HPF.out HI.out _ HA.out).mono ?_
      rintro e w3 ⟨rfl, ha3, hu3⟩
      have HA3 := hid' ha3
      have HB3 := hid' (HB.out.trans (hu3.below HLB.out))
      clear ha3 hu3 HA HB HI HPF
      have hfr : Fw.free ⟨n, n + gr - gt, 0⟩ = gt - gr := by simp only [Fw.free]; omega
      obtain ⟨r, l, HPF, hl1, hl2⟩ : ∃ r l, Hid (Fw.grant ⟨n, n + gr - gt, 0⟩ = (r, ⟨n, l, 0⟩)) ∧ n < 2 * l ∧ l ≤ n := by
        by_cases m0 : 2 * (gt - gr) < n
        · exact ⟨0, n + gr - gt, hid' (by simp only [Fw.grant]; rw [hfr, if_pos m0]), by omega, by omega⟩
        · exact ⟨gt - gr, n, hid' (by simp only [Fw.grant]; rw [hfr, if_neg m0]; congr 2; omega), by omega, by omega⟩
      clear hfr
      go_wp2_with fail
      refine (ggrant_any b _ _ r HPF.out HI2.out _ HA3.out).mono ?_
      rintro e w4 ⟨rfl, ha4, hu4⟩
      have HA4 := hid' ha4
      have HB4 := hid' (HB3.out.trans (hu4.below HLB.out))
      clear ha4 hu4 HA3 HB3 HPF HI2
      go_wp2_with fail
      refine (awake9 _).mono ?_
      rintro e w9 ⟨rfl, hb9⟩
      have HA9 : Hid (CG w9 b ⟨n, l, 0⟩) := hid' (Ar.keep HA4.out hb9)
      have HB9 := hid' (below_two HB4.out hb9)
      clear hb9 HA4 HB4
      go_wp2_with fail
      refine (gleft_any b _ _ HA9.out).mono ?_
      rintro e w5 ⟨rfl, hw5⟩
      subst w5
      go_wp2_with fail
      refine (gleft_any b _ _ HA9.out).mono ?_
      rintro e w5 ⟨rfl, hw5⟩
      subst w5
      go_wp2
      go_ret
      exact ⟨rfl, HB9.out⟩

theorem flowKeeps_true (n : Int) (sv : Value) (cs : List Cl) (w : World) (hsc : Scr w sv cs) (hlen : cs.length ≤ 1048576) :
    Calls Try.prog 7 #[.int .i64 n, sv] w fun e w' => e = .returned (.bool true) ∧ Below w.heap.size w w' := by
  by_cases h : n < 1 ∨ 2147483647 < n
  · exact flowKeeps_no n h sv w
  · exact flowKeeps_yes n (by omega) (by omega) sv cs w hsc hlen

end Go.Proofs.Ythbidfcfkjamdaa
