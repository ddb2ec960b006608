/-
  StreamBounds: never are more streams open than may be, the last one never falls.
-/
import Derived.Test.YthgdokcdpmoeeaaStW
import Derived.Deep.CutRange
namespace Go.Proofs.Ythgdokcdpmoeeaa
open Go.RowKit

theorem below_dN {B : Nat} {w w' : World} (h : Below B w w') (n : Nat) : Below B w (w'.drewN n) := ⟨h.os, h.tape, h.output, h.size, h.block⟩
theorem stp_facts (k : Sm.Bk) (c : Cl) : (stp k c).most = k.most ∧ (stp k c).st = (k.st || decide (c.what = 0)) ∧ ((stp k c).last = k.last ∨ (c.what = 1 ∧ ((stp k c).last : Int) = c.id ∧ k.last < (stp k c).last ∧ k.st = false)) := by
  unfold stp
  by_cases h : c.what = 0
  · rw [if_pos h]
    exact ⟨rfl, by simp [h], .inl rfl⟩
  · rw [if_neg h]
    refine ⟨(Sm.does_fix _ _ _ _).1, ?_, Sm.does_last _ _ _ _⟩
    rw [(Sm.does_fix _ _ _ _).2]
    simp [h]
theorem phase_in {k : Sm.Bk} (h : Sm.Ok k) {j y ph : Nat} (hj : k.op[j]? = some (y, ph)) : Sm.phaseI k (y : Int) = ph ∧ 1 ≤ ph ∧ ph ≤ 3 ∧ y ≤ k.last ∧ y % 2 = 1 := by
  have h1 := h.ops _ (List.mem_of_getElem? hj)
  simp only at h1
  refine ⟨?_, h1.2.2.1, h1.2.2.2, h1.2.1, h1.1⟩
  rw [phaseI_nat]
  unfold Sm.phase
  rw [if_pos ⟨h1.1, h1.2.1⟩, look_at h.srt hj]
theorem op_lt {k : Sm.Bk} (h : Sm.Ok k) {j y ph y0 ph0 : Nat} (hj : k.op[j + 1]? = some (y, ph)) (h0 : k.op[j]? = some (y0, ph0)) : y0 < y := by
  have := List.pairwise_iff_getElem.1 h.srt j (j + 1) (List.getElem?_eq_some_iff.1 h0).1 (List.getElem?_eq_some_iff.1 hj).1 (by omega)
  rw [(List.getElem?_eq_some_iff.1 h0).2, (List.getElem?_eq_some_iff.1 hj).2] at this
  exact this

set_option maxHeartbeats 4000000 in
set_option maxRecDepth 20000 in
theorem streamBounds_no (most : Int) (hm : most < 1 ∨ 65536 < most) (sv : Value) (w : World) :
    Calls Try.prog 5 #[.int .i64 most, sv] w fun e w' => e = .returned (.bool true) ∧ Below w.heap.size w w' := by
  have HN := hid' (snew_no most hm w)
  by_cases h1 : most < 1
  · clear hm
    go_enter Try.func5, Try.ntmps5
    go_wp2_with fail
    refine HN.out.mono ?_
    rintro e w1 ⟨rfl, hw1⟩
    subst w1
    go_wp2_with fail
    refine (awake8 _).mono ?_
    rintro e w2 ⟨rfl, hb2⟩
    go_wp2
    go_ret
    exact ⟨rfl, hb2⟩
  · have h2 : 65536 < most := by omega
    clear hm
    go_enter Try.func5, Try.ntmps5
    go_wp2_with fail
    refine HN.out.mono ?_
    rintro e w1 ⟨rfl, hw1⟩
    subst w1
    go_wp2_with fail
    refine (awake8 _).mono ?_
    rintro e w2 ⟨rfl, hb2⟩
    go_wp2
    go_ret
    exact ⟨rfl, hb2⟩

set_option maxHeartbeats 16000000 in
set_option maxRecDepth 20000 in
theorem streamBounds_yes (m : Nat) (h1 : 1 ≤ m) (h2 : m ≤ 65536) (sv : Value) (cs : List Cl) (w : World) (hsc : Scr w sv cs) (hlen : cs.length ≤ 140737488355328) :
    Calls Try.prog 5 #[.int .i64 (m : Int), sv] w fun e w' => e = .returned (.bool true) ∧ Below w.heap.size w w' := by
  obtain ⟨ao, cap, hsv⟩ := hsc.shape
  subst hsv
  obtain ⟨N, hN⟩ : ∃ N, cs.length = N := ⟨_, rfl⟩
  have HN := hid' hN
  rw [hN] at hsc hlen ⊢
  have HSC := hid' hsc
  have HNEW := hid' (snew_yes m h1 h2 w)
  clear hN hsc h1
  go_enter Try.func5, Try.ntmps5
  go_wp2_with fail
  refine HNEW.out.mono ?_
  rintro e w1 ⟨⟨b, rfl, v1, u1, hk1⟩, hb1⟩
  have HS2 : Hid (∃ k v u, BK w1 w.heap.size b k v u ∧ k.last = 0 ∧ k.st = false ∧ k.most = m ∧ Below w.heap.size w w1) := hid' ⟨_, _, _, hk1, rfl, rfl, rfl, hb1⟩
  clear hk1 hb1 HNEW
  go_wp2
  go_loopw [7, 8, 9, 10, 11, 12, 13, 14] (fun s7 s8 s9 _ _ _ _ _ wr => ∃ (i la : Nat) (st : Bool), s9 = .int .i64 (i : Int) ∧ s7 = .int .i64 (la : Int) ∧ s8 = .bool st ∧ i ≤ N ∧ Hid (∃ k v u, BK wr w.heap.size b k v u ∧ k.last = la ∧ k.st = st ∧ k.most = m ∧ Below w.heap.size w wr)) (fun _ _ s9 _ _ _ _ _ _ => N - (intOf s9).toNat)
  case atStart => exact ⟨0, 0, false, rfl, rfl, rfl, Nat.zero_le _, HS2⟩
  case round =>
    clear HS2
    obtain ⟨i, la, st, rfl, rfl, rfl, hi, HX⟩ := hrel
    by_cases hlt : i < N
    · have hlt2 : (i : Int) < (N : Int) := by omega
      obtain ⟨k, v, u, HK, HLA, HST, HMO, HB⟩ : ∃ k v u, Hid (BK wr w.heap.size b k v u) ∧ Hid (k.last = la) ∧ Hid (k.st = st) ∧ Hid (k.most = m) ∧ Hid (Below w.heap.size w wr) := by
        obtain ⟨k, v, u, h1, h2, h3, h4, h5⟩ := HX.out
        exact ⟨k, v, u, h1, h2, h3, h4, h5⟩
      obtain ⟨c, hc⟩ : ∃ c, cs[i]? = some c := ⟨_, List.getElem?_eq_getElem (by rw [HN.out]; exact hlt)⟩
      obtain ⟨a, hao, x0, x1, x2⟩ := HSC.out.at HB.out i c hc
      subst hao
      obtain ⟨wh, id, fn⟩ := c
      simp only at x0 x1 x2
      clear HX hc
      go_wp2_with (refine wpl_alloc 48 rfl rfl _ szeroC ?_)
      intro c10 w10 hg10 ha10 hb10
      have HG10 := hid' (Nat.le_trans HK.out.size hg10)
      have HK10 := hid' (HK.out.keep hb10)
      have HB10 := hid' (HB.out.trans (hb10.mono HK.out.size))
      have HA10 := hid' ha10
      clear hg10 ha10 hb10
      go_wp2_with (refine wpl_store 48 _ _ rfl rfl c10 #[.int .u8 (wh : Int), .int .i64 id, .bool fn] (by kernel_rfl) (by kernel_rfl) _ _ HA10.out ssizeC rfl (by simp [Value.oneCell']) ?_)
      intro w11 ha11 hu11
      have HK11 := hid' (HK10.out.other hu11 HA10.out (by decide) (by decide) (by decide))
      have HB11 := hid' (HB10.out.trans (hu11.below HG10.out))
      have HA11 := hid' ha11
      have d0 := ha11.cell 0 _ rfl
      have d1 := ha11.cell 1 _ rfl
      have d2 := ha11.cell 2 _ rfl
      clear ha11 hu11 x0 x1 x2
      go_wp2_with fail
      refine (sdoL_any w.heap.size b k _ _ ⟨wh, id, fn⟩ _ HK11.out).mono ?_
      rintro e w3 ⟨⟨r3, rfl⟩, ⟨v3, u3, hk3⟩, hf3⟩
      obtain ⟨k', hk'⟩ : ∃ k', stp k ⟨wh, id, fn⟩ = k' := ⟨_, rfl⟩
      obtain ⟨f1, f2, f3⟩ := stp_facts k ⟨wh, id, fn⟩
      rw [hk'] at hk3 f1 f2 f3
      simp only [HLA.out, HST.out, HMO.out] at f1 f2 f3
      have HK3 := hid' hk3
      have HB3 := hid' (HB11.out.trans hf3.bel)
      have HA3 := hid' (hf3.ar HA11.out (by decide) (by decide) (by decide))
      have HMO3 := hid' f1
      obtain ⟨lb, hlb⟩ : ∃ lb, k'.last = lb := ⟨_, rfl⟩
      have HLB := hid' hlb
      have hodd : lb = 0 ∨ lb % 2 = 1 := by rw [← hlb]; exact hk3.ok.l2
      have hlbb : lb ≤ 2147483647 := by rw [← hlb]; exact hk3.ok.l1
      rw [hlb] at f3
      clear hk3 hf3 d0 d1 d2 hk' hlb f1 HK HK10 HK11 HB HB10 HB11 HA10 HA11 HLA HST HMO HG10
      go_wp2_with fail
      refine (slast_any w.heap.size b _ _ _ _ HK3.out).mono ?_
      rintro e w4 ⟨rfl, hw4⟩
      subst w4
      rw [HLB.out]
      have d0 : w3.cell? ⟨c10, 0, none⟩ = some (.int .u8 (wh : Int)) := HA3.out.cell 0 _ rfl
      have d1 : w3.cell? ⟨c10, 1, none⟩ = some (.int .i64 id) := HA3.out.cell 1 _ rfl
      have g0 : ¬ (lb : Int) < (la : Int) := by omega
      have g0' : ¬ lb < la := by omega
      obtain ⟨st', hst'⟩ : ∃ st', k'.st = st' := ⟨_, rfl⟩
      have HST3 := hid' hst'
      rw [hst'] at f2
      clear hst'
      go_upto_region 12 with fail
      go_cut [84] from 39 to 143 (fun s84 wx => s84 = .bool false ∧ wx = w3)
      case first =>
        by_cases hsame : lb = la
        · subst hsame
          clear f3 g0 g0'
          rcases hodd with rfl | hodd
          · go_wp2_with fail
            go_meet
            exact ⟨rfl, rfl⟩
          · have hne0 : ((lb : Int) != 0) = true := by simp; omega
            have hne1 : ¬ (lb : Int) = 0 := by omega
            have hne2 : ¬ lb = 0 := by omega
            have tm : (lb : Int).tmod 2 = 1 := by rw [Int.tmod_eq_emod_of_nonneg (by omega)]; omega
            have tm2 : (lb : Int) % 2 = 1 := by omega
            go_wp2_with fail
            go_meet
            exact ⟨rfl, rfl⟩
        · obtain ⟨rfl, hid1, hgt, rfl⟩ : wh = 1 ∧ (lb : Int) = id ∧ la < lb ∧ st = false := by rcases f3 with h | h; exact absurd h hsame; exact h
          have hodd2 : lb % 2 = 1 := by omega
          subst hid1
          have hne0 : ((lb : Int) != 0) = true := by simp; omega
          have hne1 : ¬ (lb : Int) = 0 := by omega
          have hne2 : ¬ lb = 0 := by omega
          have hne3 : ((lb : Int) != (la : Int)) = true := by simp; omega
          have hne4 : ¬ lb = la := by omega
          have hne5 : ¬ (lb : Int) = (la : Int) := by omega
          have tm : (lb : Int).tmod 2 = 1 := by rw [Int.tmod_eq_emod_of_nonneg (by omega)]; omega
          have tm2 : (lb : Int) % 2 = 1 := by omega
          clear f2 f3 hodd
          go_wp2_with fail
          go_meet
          exact ⟨rfl, rfl⟩
      case rest =>
        obtain ⟨rfl, hwc⟩ := hcut
        subst wc
        clear f3 g0 g0' hodd
        go_upto_region 14 with fail
        go_cut [8] from 39 to 143 (fun s8 wx => s8 = .bool st' ∧ wx = w3)
        case first =>
          cases st
          · by_cases hwh : wh = 0
            · subst hwh
              obtain rfl : st' = true := by rw [f2]; rfl
              clear f2
              go_wp2_with fail
              go_meet
              exact ⟨rfl, rfl⟩
            · obtain rfl : st' = false := by rw [f2]; simp [hwh]
              have s1 : ((wh : Int) == 0) = false := by simp; omega
              have s2 : (wh == 0) = false := by simp; omega
              clear f2
              go_wp2_with fail
              go_meet
              exact ⟨rfl, rfl⟩
          · obtain rfl : st' = true := by rw [f2]; rfl
            clear f2
            go_wp2_with fail
            go_meet
            exact ⟨rfl, rfl⟩
        case rest =>
          obtain ⟨rfl, hwc⟩ := hcut
          subst wc
          clear f2 d0 d1
          go_wp2_with fail
          refine (sopen_any w.heap.size b _ _ _ _ HK3.out).mono ?_
          rintro e w5 ⟨⟨r5, rfl, hown5⟩, hb5⟩
          obtain ⟨ao5, cap5, hr5⟩ := own_shape hown5
          subst hr5
          obtain ⟨n5, hn5⟩ : ∃ n5, k'.op.length = n5 := ⟨_, rfl⟩
          have HN5 := hid' hn5
          have hle5 : n5 ≤ m := by rw [← hn5, ← HMO3.out]; exact HK3.out.ok.len
          have HRR := hid' (RR.of_own hown5)
          rw [hn5] at HRR ⊢
          have HS5 : Hid (∃ v u, BK w5 w.heap.size b k' v u ∧ Below w.heap.size w w5 ∧ Below w5.heap.size w5 w5) := hid' ⟨_, _, HK3.out.keep hb5, HB3.out.trans (hb5.mono HK3.out.size), Below.refl _ _⟩
          have HOK := hid' HK3.out.ok
          have HN5' : Hid (n5 = (k'.op.map (·.1)).length) := hid' (by rw [List.length_map]; exact HN5.out.symm)
          clear hown5 hb5 hn5 HK3 HB3 HA3
          have q6 : ¬ m < n5 := by omega
          have q7 : decide (m < n5) = false := decide_eq_false q6
          have q8 : decide ((m : Int) < (n5 : Int)) = false := decide_eq_false (by omega)
          go_wp2
          go_loopw [13, 14] (fun s13 _ wr => ∃ j : Nat, s13 = .int .i64 (j : Int) ∧ j ≤ n5 ∧ Hid (∃ v u, BK wr w.heap.size b k' v u ∧ Below w.heap.size w wr ∧ Below w5.heap.size w5 wr)) (fun s13 _ _ => n5 - (intOf s13).toNat)
          case atStart => exact ⟨0, rfl, Nat.zero_le _, HS5⟩
          case round =>
            clear HS5
            obtain ⟨j, rfl, hj, HX⟩ := hrel
            by_cases hjl : j < n5
            · have hjl2 : (j : Int) < (n5 : Int) := by omega
              obtain ⟨v6, u6, HK6, HB6, HC6⟩ : ∃ v u, Hid (BK wr w.heap.size b k' v u) ∧ Hid (Below w.heap.size w wr) ∧ Hid (Below w5.heap.size w5 wr) := by
                obtain ⟨v, u, h1, h2, h3⟩ := HX.out
                exact ⟨v, u, h1, h2, h3⟩
              obtain ⟨yp, hyp⟩ : ∃ yp, k'.op[j]? = some yp := ⟨_, List.getElem?_eq_getElem (by rw [HN5.out]; exact hjl)⟩
              obtain ⟨y, ph⟩ := yp
              obtain ⟨p1, p2, p3, p4, _⟩ := phase_in HOK.out hyp
              have hyl : (k'.op.map (·.1))[j]? = some y := by rw [List.getElem?_map, hyp]; rfl
              obtain ⟨a5, hao5, y0⟩ := (HRR.out.keep HC6.out).one HN5'.out j y hyl
              subst hao5
              have HP1 := hid' p1
              have hyn : ¬ lb < y := by rw [HLB.out] at p4; omega
              have hyla : ¬ (lb : Int) < (y : Int) := by omega
              have hyd : decide ((lb : Int) < (y : Int)) = false := decide_eq_false hyla
              have hyd' : decide (lb < y) = false := decide_eq_false hyn
              have HYP := hid' hyp
              clear HX p1 p4 hyp hyl
              go_wp2_with fail
              refine (sphase_any w.heap.size b _ _ _ (y : Int) ph HP1.out _ HK6.out).mono ?_
              rintro e w7 ⟨rfl, hb7⟩
              have HK7 := hid' (HK6.out.keep hb7)
              have HB7 := hid' (HB6.out.trans (hb7.mono HK6.out.size))
              have HC7 := hid' (below_two HC6.out hb7)
              clear hb7 y0
              go_upto_region 23 with fail
              go_cut [143] from 98 to 143 (fun s143 wx => s143 = .bool false ∧ ∃ nq, wx = w7.drewN nq)
              case first =>
                by_cases hj0 : j = 0
                · subst hj0
                  obtain ⟨a6, ha6, y1⟩ := (HRR.out.keep HC7.out).one HN5'.out 0 y (by rw [List.getElem?_map, HYP.out]; rfl)
                  injection ha6 with ha6
                  subst ha6
                  have y1' : w7.cell? a5 = some (.int .i64 (y : Int)) := by simpa [Addr.add] using y1
                  have hph : ph = 1 ∨ ph = 2 ∨ ph = 3 := by omega
                  clear p2 p3
                  rw [show ((0 : Nat) : Int) = 0 from rfl]
                  rcases hph with rfl | rfl | rfl
                  · rw [show ((1 : Nat) : Int) = 1 from rfl]
                    go_big_quiet (fail)
                    go_wp2
                    go_meet
                    exact ⟨rfl, _, rfl⟩
                  · rw [show ((2 : Nat) : Int) = 2 from rfl]
                    go_big_quiet (fail)
                    go_wp2
                    go_meet
                    exact ⟨rfl, _, rfl⟩
                  · rw [show ((3 : Nat) : Int) = 3 from rfl]
                    go_big_quiet (fail)
                    go_wp2
                    go_meet
                    exact ⟨rfl, _, rfl⟩
                · obtain ⟨j0, hjj⟩ : ∃ j0, j = j0 + 1 := ⟨j - 1, by omega⟩
                  obtain ⟨a6, ha6, y1⟩ := (HRR.out.keep HC7.out).one HN5'.out j y (by rw [List.getElem?_map, HYP.out]; rfl)
                  injection ha6 with ha6
                  subst ha6
                  obtain ⟨zp, hzp⟩ : ∃ zp, k'.op[j0]? = some zp := ⟨_, List.getElem?_eq_getElem (by rw [HN5.out]; omega)⟩
                  obtain ⟨z, zph⟩ := zp
                  obtain ⟨a7, ha7, y2⟩ := (HRR.out.keep HC7.out).one HN5'.out j0 z (by rw [List.getElem?_map, hzp]; rfl)
                  injection ha7 with ha7
                  subst ha7
                  have hzy := op_lt HOK.out (by rw [← hjj]; exact HYP.out) hzp
                  have hzy2 : ¬ (y : Int) ≤ (z : Int) := by omega
                  have hzn : ¬ y ≤ z := by omega
                  have hzd : decide ((y : Int) ≤ (z : Int)) = false := decide_eq_false hzy2
                  have hzd' : decide (y ≤ z) = false := decide_eq_false hzn
                  have hj3 : (j0 : Int) < (n5 : Int) := by omega
                  have hj4 : j0 < n5 := by omega
                  have hjm : (j : Int) - 1 = (j0 : Int) := by omega
                  have hpos : (0 : Int) < (j : Int) := by omega
                  have hposn : 0 < j := by omega
                  have hph : ph = 1 ∨ ph = 2 ∨ ph = 3 := by omega
                  clear p2 p3 hzp hj0 hjj
                  rcases hph with rfl | rfl | rfl
                  · rw [show ((1 : Nat) : Int) = 1 from rfl]
                    go_big_quiet (fail)
                    go_wp2
                    go_meet
                    exact ⟨rfl, _, rfl⟩
                  · rw [show ((2 : Nat) : Int) = 2 from rfl]
                    go_big_quiet (fail)
                    go_wp2
                    go_meet
                    exact ⟨rfl, _, rfl⟩
                  · rw [show ((3 : Nat) : Int) = 3 from rfl]
                    go_big_quiet (fail)
                    go_wp2
                    go_meet
                    exact ⟨rfl, _, rfl⟩
              case rest =>
                obtain ⟨rfl, nq, hwc⟩ := hcut
                subst wc
                have HS9 : Hid (∃ v u, BK (w7.drewN nq) w.heap.size b k' v u ∧ Below w.heap.size w (w7.drewN nq) ∧ Below w5.heap.size w5 (w7.drewN nq)) := hid' ⟨_, _, HK7.out.drewN _, below_dN HB7.out _, below_dN HC7.out _⟩
                clear HK7 HB7 HC7 hyn hyla hyd hyd' p2 p3
                go_wp2
                go_roundw
                case rel => exact ⟨j + 1, by go_num, by omega, HS9⟩
                case measure => simp [intOf]; omega
            · have hjl2 : ¬ (j : Int) < (n5 : Int) := by omega
              have HS8 : Hid (∃ k v u, BK wr w.heap.size b k v u ∧ k.last = lb ∧ k.st = st' ∧ k.most = m ∧ Below w.heap.size w wr) := hid' (by
                obtain ⟨v, u, h1, h2, _⟩ := HX.out
                exact ⟨k', v, u, h1, HLB.out, HST3.out, HMO3.out, h2⟩)
              clear HX
              go_wp2
              go_roundw
              case rel => exact ⟨i + 1, lb, st', by go_num, rfl, rfl, by omega, HS8⟩
              case measure => simp [intOf]; omega
    · have hlt2 : ¬ (i : Int) < (N : Int) := by omega
      have HB : Hid (Below w.heap.size w wr) := hid' (by obtain ⟨_, _, _, _, _, _, _, h⟩ := HX.out; exact h)
      have HSZ : Hid (w.heap.size ≤ wr.heap.size) := hid' HB.out.size
      clear HX
      go_wp2_with fail
      refine (awake8 _).mono ?_
      rintro e w9 ⟨rfl, hb9⟩
      have HB9 := hid' (HB.out.trans (hb9.mono HSZ.out))
      clear hb9
      go_wp2
      go_ret
      exact ⟨rfl, HB9.out⟩

theorem streamBounds_true (most : Int) (sv : Value) (cs : List Cl) (w : World) (hsc : Scr w sv cs) (hlen : cs.length ≤ 140737488355328) :
    Calls Try.prog 5 #[.int .i64 most, sv] w fun e w' => e = .returned (.bool true) ∧ Below w.heap.size w w' := by
  by_cases h : most < 1 ∨ 65536 < most
  · exact streamBounds_no most h sv w
  · obtain ⟨m, rfl⟩ : ∃ m : Nat, most = m := ⟨most.toNat, by omega⟩
    exact streamBounds_yes m (by omega) (by omega) sv cs w hsc hlen

end Go.Proofs.Ythgdokcdpmoeeaa
