/-
  The law QueueTwo, by its contract: it returns true for every row of numbers.
-/
import Derived.Test.YtdhiaiafdhoeeaaQuW
import Derived.Test.YtdhiaiafdhoeeaaQuTw
import Derived.Test.YtdhiaiafdhoeeaaQuSc
import Derived.Deep.CutRange
import Derived.Deep.RegionHeld3
namespace Go.Proofs.Ytdhiaiafdhoeeaa
open Go.RowKit

theorem und_b {w w' : World} (h : Below w.drew.heap.size w.drew w') : Below w.heap.size w w' := ⟨h.os, h.tape, h.output, h.size, h.block⟩

set_option maxHeartbeats 8000000 in
set_option maxRecDepth 20000 in
theorem queueTwo_any (sv : Value) (xs : List Int) (w : World) (hsc : ScrN w sv xs) :
    Calls Try.prog 5 #[sv] w fun e w' => e = .returned (.bool true) ∧ Below w.heap.size w w' := by
  obtain ⟨N, hN⟩ : ∃ N, xs.length = N := ⟨_, rfl⟩
  obtain ⟨ao, cap, hsv, HSV⟩ : ∃ ao cap, sv = .slice ao N cap ∧ Hid ((ao = none ∧ N = 0 ∧ cap = 0) ∨ ∃ a, ao = some a ∧ N ≤ cap ∧ cap ≤ maxLen ∧ ∀ i x, xs[i]? = some x → (a.add i).block < w.heap.size ∧ w.cell? (a.add i) = some (.int .i64 x)) := by
    rcases hsc with ⟨h, rfl⟩ | ⟨a, cap, h, h1, h2, h3⟩
    · exact ⟨none, 0, by rw [← hN]; exact h, hid' (.inl ⟨rfl, hN.symm, rfl⟩)⟩
    · rw [hN] at h h1
      exact ⟨some a, cap, h, hid' (.inr ⟨a, rfl, h1, h2, h3⟩)⟩
  subst hsv
  have HN := hid' hN
  have hNm : (N : Int) ≤ 9223372036854775807 := by
    rcases HSV.out with ⟨_, h, _⟩ | ⟨_, _, h1, h2, _⟩
    · omega
    · unfold maxLen at h2; omega
  clear hN hsc
  go_enter Try.func5, Try.ntmps5
  go_wp2_with fail
  refine (show Calls Try.prog 7 #[.int .i64 65536] w _ from qnew_yes_I (fun _ => False) 65536 (by omega) (by omega) w).mono ?_
  rintro _ w1 ⟨⟨b, c, rfl, hq1⟩, hb1⟩
  have HQ1 := hid' hq1
  have HB1 := hid' hb1
  clear hq1 hb1
  go_wp2_with fail
  refine (show Calls Try.prog 25 #[.int .i64 3] w1 _ from qnew_yes_L (fun _ => False) 3 (by omega) (by omega) w1).mono ?_
  rintro _ w2 ⟨⟨b2, c2, rfl, hq2⟩, hb2⟩
  have HQ : Hid (Q2 w2 w.heap.size b c b2 c2 [] (l2 ao cap 0) ∧ Below w.heap.size w w2) := hid' ⟨⟨HQ1.out.keep hb2, ⟨Nat.le_trans HB1.out.size hq2.lb, Nat.le_trans HB1.out.size hq2.lc, hq2.hd, hq2.chx⟩, fun e => by have h1 := HQ1.out.lt; have h2 := hq2.lc; omega⟩, below_from HB1.out hb2 HB1.out.size⟩
  clear hq2 hb2 HQ1 HB1
  go_wp2
  go_loopw [7, 8] (fun s7 s8 wr => ∃ i n : Nat, s7 = .int .i64 (n : Int) ∧ s8 = .int .i64 (i : Int) ∧ i ≤ N ∧ i ≤ 65536 ∧ Hid (n = min i 3) ∧ Hid (Q2 wr w.heap.size b c b2 c2 (xs.take i) (l2 ao cap n) ∧ Below w.heap.size w wr)) (fun _ s8 _ => N - (intOf s8).toNat)
  case atStart => exact ⟨0, 0, rfl, rfl, Nat.zero_le _, Nat.zero_le _, hid' rfl, HQ⟩
  case round =>
    clear HQ
    obtain ⟨i, n, rfl, rfl, hi1, hi2, HNN, HQ⟩ := hrel
    by_cases hlt : i < N ∧ i < 65536
    · obtain ⟨hl1, hl2⟩ := hlt
      have hl3 : (i : Int) < (N : Int) := by omega
      have hl4 : (i : Int) < 65536 := by omega
      obtain ⟨x, hx⟩ : ∃ x, xs[i]? = some x := ⟨_, List.getElem?_eq_getElem (by rw [HN.out]; exact hl1)⟩
      obtain ⟨a, hao, hcN, hcm, hcells⟩ : ∃ a, ao = some a ∧ N ≤ cap ∧ cap ≤ maxLen ∧ ∀ i x, xs[i]? = some x → (a.add i).block < w.heap.size ∧ w.cell? (a.add i) = some (.int .i64 x) := by
        rcases HSV.out with ⟨_, h, _⟩ | h
        · omega
        · exact h
      subst hao
      have x0 : wr.cell? (a.add i) = some (.int .i64 x) := (HQ.out.2.cell (hcells i x hx).1).trans (hcells i x hx).2
      have HT0 : Hid (((xs.take i).map qI).length = i) := hid' (by rw [List.length_map, List.length_take, HN.out]; omega)
      obtain ⟨i1, hi1'⟩ : ∃ i1, i + 1 = i1 := ⟨_, rfl⟩
      have hI1 : (i : Int) + 1 = (i1 : Int) := by omega
      have HT1 : Hid (((xs.take i1).map qI).length = i1) := hid' (by rw [List.length_map, List.length_take, HN.out]; omega)
      have HTS : Hid ((xs.take i).map qI ++ [.int .i64 x] = (xs.take i1).map qI) := hid' (by rw [← hi1', List.take_add_one, hx, List.map_append]; rfl)
      have hc1 : (i : Int) ≤ (cap : Int) := by omega
      have hc2 : i ≤ cap := by omega
      have hc3 : ¬ cap = 0 := by omega
      have hc4 : (cap == 0) = false := beq_false_of_ne hc3
      have hee : ((i1 : Int) == (i1 : Int)) = true := beq_self_eq_true _
      clear hx hcells hcm
      go_wp2_with fail
      refine (qput_yes_I _ w.heap.size b c 65536 _ x wr HQ.out.1.q1 (by rw [HT0.out]; exact hl2) (fun _ h => h.elim)).mono ?_
      rintro _ w3 ⟨rfl, hq3, hf3⟩
      rw [HTS.out] at hq3
      have HQ3 : Hid (Q2 w3 w.heap.size b c b2 c2 (xs.take i1) (l2 (some a) cap n) ∧ Below w.heap.size w w3) := hid' ⟨(HQ.out.1.t1 hq3 hf3).1, HQ.out.2.trans (HQ.out.1.t1 hq3 hf3).2⟩
      clear hq3 hf3 x0
      by_cases h3 : n < 3
      · obtain rfl : i = n := by have := HNN.out; omega
        have hN3 : decide ((3 : Int) < (i1 : Int)) = false := decide_eq_false (by omega)
        go_wp2_with fail
        refine (qput_yes_L _ w.heap.size b2 c2 3 _ (some a) i cap w3 HQ3.out.1.q2 (by rw [l2_map_len]; exact h3) (fun _ h => h.elim)).mono ?_
        rintro _ w4 ⟨rfl, hq4, hf4⟩
        rw [← l2_succ, hi1'] at hq4
        have HQ5 : Hid (Q2 w4 w.heap.size b c b2 c2 (xs.take i1) (l2 (some a) cap i1) ∧ Below w.heap.size w w4) := hid' ⟨(HQ3.out.1.t2 hq4 hf4).1, HQ3.out.2.trans (HQ3.out.1.t2 hq4 hf4).2⟩
        have H3 := hid' h3
        have HI1 := hid' hi1'
        clear hq4 hf4 HQ3 HQ h3 hi1'
        go_wp2_with fail
        refine (qlen_I _ w.heap.size b c 65536 _ _ HQ5.out.1.q1).mono ?_
        rw [HT1.out]
        rintro _ w5 ⟨rfl, rfl⟩
        go_wp2_with fail
        refine (qlen_L _ w.heap.size b2 c2 3 _ _ HQ5.out.1.q2).mono ?_
        rw [l2_map_len]
        rintro _ w5 ⟨rfl, rfl⟩
        go_wp2
        go_roundw
        case rel => exact ⟨i1, i1, rfl, rfl, by have := HI1.out; omega, by have := HI1.out; omega, hid' (by have := HI1.out; have := H3.out; omega), HQ5⟩
        case measure => have := HI1.out; simp [intOf]; omega
      · obtain rfl : n = 3 := by have := HNN.out; omega
        go_wp2_with fail
        refine (qput_no_L _ w.heap.size b2 c2 3 _ (some a) i cap w3 HQ3.out.1.q2 (by rw [l2_map_len]; exact Nat.le_refl _)).mono ?_
        rintro _ w4 ⟨rfl, hb4⟩
        have HQ5 : Hid (Q2 w4 w.heap.size b c b2 c2 (xs.take i1) (l2 (some a) cap 3) ∧ Below w.heap.size w w4) := hid' ⟨HQ3.out.1.keep hb4, below_from HQ3.out.2 hb4 HQ3.out.2.size⟩
        clear hb4
        have HI3 : Hid (3 ≤ i) := hid' (by have := HNN.out; omega)
        go_wp2_with fail
        refine (qlen_I _ w.heap.size b c 65536 _ _ HQ5.out.1.q1).mono ?_
        rw [HT1.out]
        rintro _ w5 ⟨rfl, rfl⟩
        go_wp2_with fail
        refine (qlen_L _ w.heap.size b2 c2 3 _ _ HQ5.out.1.q2).mono ?_
        rw [l2_map_len]
        rintro _ w5 ⟨rfl, rfl⟩
        go_wp2
        go_roundw
        case rel => exact ⟨i1, 3, rfl, rfl, by omega, by omega, hid' (by have := HI3.out; omega), HQ5⟩
        case measure => simp [intOf]; omega
    · obtain ⟨M, hM⟩ : ∃ M, min N 65536 = M := ⟨_, rfl⟩
      obtain rfl : i = M := by omega
      have HMI : Hid ((if (65536 : Int) < (N : Int) then (65536 : Int) else (N : Int)) = (i : Int)) := hid' (by split <;> omega)
      have HI2 : Hid (i ≤ N ∧ i ≤ 65536 ∧ n ≤ 3) := hid' (by have := HNN.out; omega)
      have HE : Hid (¬ (i : Int) < (N : Int) ∨ ((i : Int) < (N : Int) ∧ ¬ (i : Int) < 65536)) := hid' (by omega)
      clear hM hlt hi1 hi2
      rcases HE.out with hl3 | ⟨hl3, hl4⟩
      · go_upto_region 15 with fail
        go_wp2_with fail
        refine (qdrain_L _ w.heap.size b2 c2 3 (l2 ao cap n) n (l2_len _ _ _) (by have := HI2.out; omega) wr HQ.out.1.q2).mono ?_
        rintro _ w5 ⟨vo, cp, rfl, hr5, hq5, hf5⟩
        have HQ5 : Hid (Q2 w5 w.heap.size b c b2 c2 (xs.take i) [] ∧ Below w.heap.size w w5) := hid' ⟨(HQ.out.1.t2 (ms := []) hq5 hf5).1, HQ.out.2.trans (HQ.out.1.t2 (ms := []) hq5 hf5).2⟩
        have HRQ := hid' (RQ.of_own hr5)
        have HTL : Hid ((xs.take i).length = i) := hid' (by rw [List.length_take, HN.out]; have := HI2.out; omega)
        have hn3 : (n : Int) ≤ 3 := by have := HI2.out; omega
        have hnn : ((n : Int) == (n : Int)) = true := beq_self_eq_true _
        clear hr5 hq5 hf5 HQ
        go_wp2
        go_loopw [10] (fun s10 wr => ∃ j : Nat, s10 = .int .i64 (j : Int) ∧ j ≤ n ∧ wr = w5) (fun s10 _ => n - (intOf s10).toNat)
        case atStart => exact ⟨0, rfl, Nat.zero_le _, rfl⟩
        case round =>
          obtain ⟨j, rfl, hj, rfl⟩ := hrel
          by_cases hjt : j < n
          · have hjt2 : (j : Int) < (n : Int) := by omega
            obtain ⟨a9, ha9, hc1⟩ := HRQ.out.at (by omega) j (.slice ao j cap) (l2_at _ _ _ _ hjt)
            subst ha9
            have hjj : ((j : Int) == (j : Int)) = true := beq_self_eq_true _
            have HLT := hid' hjt
            clear hjt
            go_wp2
            go_roundw
            case rel => exact ⟨j + 1, by go_num, by have := HLT.out; omega, by first | rfl | trivial⟩
            case measure => have := HLT.out; simp [intOf]; omega
          · have hjt2 : ¬ (j : Int) < (n : Int) := by omega
            have HB5 : Hid (Below w.heap.size w wr) := hid' HQ5.out.2
            have hS : Below w.heap.size w wr := HQ5.out.2
            have hmi := HMI.out
            clear hjt
            rcases HSV.out with ⟨rfl, h0, h00⟩ | ⟨a, rfl, hcN, hcm, hcells⟩
            · subst h0 h00
              obtain rfl : i = 0 := by have := HI2.out; omega
              have HIN : Hid (∀ W, Below w.heap.size w W → RQ W (.slice none 0 0) 0 ((xs.take 0).map (Value.int .i64))) := hid' (fun W hb => .inl ⟨rfl, rfl⟩)
              go_upto_region 21 with fail
              go_region_held3 (fun W => Below w.heap.size w W)
                (first | assumption | exact Below.drew (by assumption) | exact HB8.out | exact HB7.out | exact HB6.out)
                (first
                  | (go_at_call 9; refine (qawake _).mono ?_; rintro _ w6 ⟨rfl, hb6⟩; have HB6 : Hid (Below w.heap.size w w6) := hid' (below_from HB5.out (und_b hb6) HB5.out.size); have HQ6 := hid' (HQ5.out.1.keep (und_b hb6)); clear hb6)
                  | (go_at_call 15; refine (qdrain_I _ w.heap.size b c 65536 (xs.take 0) 0 HTL.out HI2.out.2.1 _ HQ6.out.q1).mono ?_; rintro _ w7 ⟨ro, rc, rfl, hr7, hq7, hf7⟩; have HR7 := hid' hr7; have HB7 : Hid (Below w.heap.size w w7) := hid' (HQ6.out.q1.bl HB6.out hf7); clear hr7 hq7 hf7)
                  | (go_at_call 14; refine (qsame ro (none) rc (0) 0 (xs.take 0) HTL.out w7 (RQ.of_own HR7.out) (HIN.out _ HB7.out) (by have := HI2.out; omega)).mono ?_; rintro _ w8 ⟨rfl, m8, hw8⟩; have HB8 : Hid (Below w.heap.size w w8) := hid' (by rw [hw8]; exact below_from HB7.out (below_drewN _ _) HB7.out.size); clear hw8))
              all_goals
                go_wp2
                go_ret
                exact ⟨rfl, HB8.out⟩
            · by_cases hcap : cap = 0
              · subst hcap
                obtain rfl : N = 0 := by omega
                obtain rfl : i = 0 := by have := HI2.out; omega
                have HIN : Hid (∀ W, Below w.heap.size w W → RQ W (.slice (some a) 0 0) 0 ((xs.take 0).map (Value.int .i64))) := hid' (fun W hb => .inr ⟨a, 0, rfl, fun k u hk => by simp at hk⟩)
                clear hcells
                go_upto_region 21 with fail
                go_region_held3 (fun W => Below w.heap.size w W)
                  (first | assumption | exact Below.drew (by assumption) | exact HB8.out | exact HB7.out | exact HB6.out)
                  (first
                    | (go_at_call 9; refine (qawake _).mono ?_; rintro _ w6 ⟨rfl, hb6⟩; have HB6 : Hid (Below w.heap.size w w6) := hid' (below_from HB5.out (und_b hb6) HB5.out.size); have HQ6 := hid' (HQ5.out.1.keep (und_b hb6)); clear hb6)
                    | (go_at_call 15; refine (qdrain_I _ w.heap.size b c 65536 (xs.take 0) 0 HTL.out HI2.out.2.1 _ HQ6.out.q1).mono ?_; rintro _ w7 ⟨ro, rc, rfl, hr7, hq7, hf7⟩; have HR7 := hid' hr7; have HB7 : Hid (Below w.heap.size w w7) := hid' (HQ6.out.q1.bl HB6.out hf7); clear hr7 hq7 hf7)
                    | (go_at_call 14; refine (qsame ro (some a) rc (0) 0 (xs.take 0) HTL.out w7 (RQ.of_own HR7.out) (HIN.out _ HB7.out) (by have := HI2.out; omega)).mono ?_; rintro _ w8 ⟨rfl, m8, hw8⟩; have HB8 : Hid (Below w.heap.size w w8) := hid' (by rw [hw8]; exact below_from HB7.out (below_drewN _ _) HB7.out.size); clear hw8))
                all_goals
                  go_wp2
                  go_ret
                  exact ⟨rfl, HB8.out⟩
              · have hc1 : (i : Int) ≤ (cap : Int) := by have := HI2.out; omega
                have hc2 : i ≤ cap := by have := HI2.out; omega
                have hc4 : (cap == 0) = false := beq_false_of_ne hcap
                have HIN : Hid (∀ W, Below w.heap.size w W → RQ W (.slice (some a) i cap) i ((xs.take i).map (Value.int .i64))) := hid' (fun W hb => .inr ⟨a, cap, rfl, fun k u hk => by
                  obtain ⟨x, hx, rfl⟩ : ∃ x, (xs.take i)[k]? = some x ∧ Value.int .i64 x = u := by
                    rw [List.getElem?_map] at hk
                    cases h : (xs.take i)[k]? with
                    | none => rw [h] at hk; cases hk
                    | some x => rw [h] at hk; exact ⟨x, rfl, by simpa using hk⟩
                  have hk2 : xs[k]? = some x := by
                    rw [List.getElem?_take] at hx
                    split at hx
                    · exact hx
                    · cases hx
                  exact ⟨Nat.lt_of_lt_of_le (hcells k x hk2).1 hb.size, (hb.cell (hcells k x hk2).1).trans (hcells k x hk2).2⟩⟩)
                clear hcells hcm
                go_upto_region 21 with fail
                go_region_held3 (fun W => Below w.heap.size w W)
                  (first | assumption | exact Below.drew (by assumption) | exact HB8.out | exact HB7.out | exact HB6.out)
                  (first
                    | (go_at_call 9; refine (qawake _).mono ?_; rintro _ w6 ⟨rfl, hb6⟩; have HB6 : Hid (Below w.heap.size w w6) := hid' (below_from HB5.out (und_b hb6) HB5.out.size); have HQ6 := hid' (HQ5.out.1.keep (und_b hb6)); clear hb6)
                    | (go_at_call 15; refine (qdrain_I _ w.heap.size b c 65536 (xs.take i) i HTL.out HI2.out.2.1 _ HQ6.out.q1).mono ?_; rintro _ w7 ⟨ro, rc, rfl, hr7, hq7, hf7⟩; have HR7 := hid' hr7; have HB7 : Hid (Below w.heap.size w w7) := hid' (HQ6.out.q1.bl HB6.out hf7); clear hr7 hq7 hf7)
                    | (go_at_call 14; refine (qsame ro (some a) rc (cap) i (xs.take i) HTL.out w7 (RQ.of_own HR7.out) (HIN.out _ HB7.out) (by have := HI2.out; omega)).mono ?_; rintro _ w8 ⟨rfl, m8, hw8⟩; have HB8 : Hid (Below w.heap.size w w8) := hid' (by rw [hw8]; exact below_from HB7.out (below_drewN _ _) HB7.out.size); clear hw8))
                all_goals
                  go_wp2
                  go_ret
                  exact ⟨rfl, HB8.out⟩
      · go_upto_region 15 with fail
        go_wp2_with fail
        refine (qdrain_L _ w.heap.size b2 c2 3 (l2 ao cap n) n (l2_len _ _ _) (by have := HI2.out; omega) wr HQ.out.1.q2).mono ?_
        rintro _ w5 ⟨vo, cp, rfl, hr5, hq5, hf5⟩
        have HQ5 : Hid (Q2 w5 w.heap.size b c b2 c2 (xs.take i) [] ∧ Below w.heap.size w w5) := hid' ⟨(HQ.out.1.t2 (ms := []) hq5 hf5).1, HQ.out.2.trans (HQ.out.1.t2 (ms := []) hq5 hf5).2⟩
        have HRQ := hid' (RQ.of_own hr5)
        have HTL : Hid ((xs.take i).length = i) := hid' (by rw [List.length_take, HN.out]; have := HI2.out; omega)
        have hn3 : (n : Int) ≤ 3 := by have := HI2.out; omega
        have hnn : ((n : Int) == (n : Int)) = true := beq_self_eq_true _
        clear hr5 hq5 hf5 HQ
        go_wp2
        go_loopw [10] (fun s10 wr => ∃ j : Nat, s10 = .int .i64 (j : Int) ∧ j ≤ n ∧ wr = w5) (fun s10 _ => n - (intOf s10).toNat)
        case atStart => exact ⟨0, rfl, Nat.zero_le _, rfl⟩
        case round =>
          obtain ⟨j, rfl, hj, rfl⟩ := hrel
          by_cases hjt : j < n
          · have hjt2 : (j : Int) < (n : Int) := by omega
            obtain ⟨a9, ha9, hc1⟩ := HRQ.out.at (by omega) j (.slice ao j cap) (l2_at _ _ _ _ hjt)
            subst ha9
            have hjj : ((j : Int) == (j : Int)) = true := beq_self_eq_true _
            have HLT := hid' hjt
            clear hjt
            go_wp2
            go_roundw
            case rel => exact ⟨j + 1, by go_num, by have := HLT.out; omega, by first | rfl | trivial⟩
            case measure => have := HLT.out; simp [intOf]; omega
          · have hjt2 : ¬ (j : Int) < (n : Int) := by omega
            have HB5 : Hid (Below w.heap.size w wr) := hid' HQ5.out.2
            have hS : Below w.heap.size w wr := HQ5.out.2
            have hmi := HMI.out
            clear hjt
            rcases HSV.out with ⟨rfl, h0, h00⟩ | ⟨a, rfl, hcN, hcm, hcells⟩
            · subst h0 h00
              obtain rfl : i = 0 := by have := HI2.out; omega
              have HIN : Hid (∀ W, Below w.heap.size w W → RQ W (.slice none 0 0) 0 ((xs.take 0).map (Value.int .i64))) := hid' (fun W hb => .inl ⟨rfl, rfl⟩)
              go_upto_region 21 with fail
              go_region_held3 (fun W => Below w.heap.size w W)
                (first | assumption | exact Below.drew (by assumption) | exact HB8.out | exact HB7.out | exact HB6.out)
                (first
                  | (go_at_call 9; refine (qawake _).mono ?_; rintro _ w6 ⟨rfl, hb6⟩; have HB6 : Hid (Below w.heap.size w w6) := hid' (below_from HB5.out (und_b hb6) HB5.out.size); have HQ6 := hid' (HQ5.out.1.keep (und_b hb6)); clear hb6)
                  | (go_at_call 15; refine (qdrain_I _ w.heap.size b c 65536 (xs.take 0) 0 HTL.out HI2.out.2.1 _ HQ6.out.q1).mono ?_; rintro _ w7 ⟨ro, rc, rfl, hr7, hq7, hf7⟩; have HR7 := hid' hr7; have HB7 : Hid (Below w.heap.size w w7) := hid' (HQ6.out.q1.bl HB6.out hf7); clear hr7 hq7 hf7)
                  | (go_at_call 14; refine (qsame ro (none) rc (0) 0 (xs.take 0) HTL.out w7 (RQ.of_own HR7.out) (HIN.out _ HB7.out) (by have := HI2.out; omega)).mono ?_; rintro _ w8 ⟨rfl, m8, hw8⟩; have HB8 : Hid (Below w.heap.size w w8) := hid' (by rw [hw8]; exact below_from HB7.out (below_drewN _ _) HB7.out.size); clear hw8))
              all_goals
                go_wp2
                go_ret
                exact ⟨rfl, HB8.out⟩
            · by_cases hcap : cap = 0
              · subst hcap
                obtain rfl : N = 0 := by omega
                obtain rfl : i = 0 := by have := HI2.out; omega
                have HIN : Hid (∀ W, Below w.heap.size w W → RQ W (.slice (some a) 0 0) 0 ((xs.take 0).map (Value.int .i64))) := hid' (fun W hb => .inr ⟨a, 0, rfl, fun k u hk => by simp at hk⟩)
                clear hcells
                go_upto_region 21 with fail
                go_region_held3 (fun W => Below w.heap.size w W)
                  (first | assumption | exact Below.drew (by assumption) | exact HB8.out | exact HB7.out | exact HB6.out)
                  (first
                    | (go_at_call 9; refine (qawake _).mono ?_; rintro _ w6 ⟨rfl, hb6⟩; have HB6 : Hid (Below w.heap.size w w6) := hid' (below_from HB5.out (und_b hb6) HB5.out.size); have HQ6 := hid' (HQ5.out.1.keep (und_b hb6)); clear hb6)
                    | (go_at_call 15; refine (qdrain_I _ w.heap.size b c 65536 (xs.take 0) 0 HTL.out HI2.out.2.1 _ HQ6.out.q1).mono ?_; rintro _ w7 ⟨ro, rc, rfl, hr7, hq7, hf7⟩; have HR7 := hid' hr7; have HB7 : Hid (Below w.heap.size w w7) := hid' (HQ6.out.q1.bl HB6.out hf7); clear hr7 hq7 hf7)
                    | (go_at_call 14; refine (qsame ro (some a) rc (0) 0 (xs.take 0) HTL.out w7 (RQ.of_own HR7.out) (HIN.out _ HB7.out) (by have := HI2.out; omega)).mono ?_; rintro _ w8 ⟨rfl, m8, hw8⟩; have HB8 : Hid (Below w.heap.size w w8) := hid' (by rw [hw8]; exact below_from HB7.out (below_drewN _ _) HB7.out.size); clear hw8))
                all_goals
                  go_wp2
                  go_ret
                  exact ⟨rfl, HB8.out⟩
              · have hc1 : (i : Int) ≤ (cap : Int) := by have := HI2.out; omega
                have hc2 : i ≤ cap := by have := HI2.out; omega
                have hc4 : (cap == 0) = false := beq_false_of_ne hcap
                have HIN : Hid (∀ W, Below w.heap.size w W → RQ W (.slice (some a) i cap) i ((xs.take i).map (Value.int .i64))) := hid' (fun W hb => .inr ⟨a, cap, rfl, fun k u hk => by
                  obtain ⟨x, hx, rfl⟩ : ∃ x, (xs.take i)[k]? = some x ∧ Value.int .i64 x = u := by
                    rw [List.getElem?_map] at hk
                    cases h : (xs.take i)[k]? with
                    | none => rw [h] at hk; cases hk
                    | some x => rw [h] at hk; exact ⟨x, rfl, by simpa using hk⟩
                  have hk2 : xs[k]? = some x := by
                    rw [List.getElem?_take] at hx
                    split at hx
                    · exact hx
                    · cases hx
                  exact ⟨Nat.lt_of_lt_of_le (hcells k x hk2).1 hb.size, (hb.cell (hcells k x hk2).1).trans (hcells k x hk2).2⟩⟩)
                clear hcells hcm
                go_upto_region 21 with fail
                go_region_held3 (fun W => Below w.heap.size w W)
                  (first | assumption | exact Below.drew (by assumption) | exact HB8.out | exact HB7.out | exact HB6.out)
                  (first
                    | (go_at_call 9; refine (qawake _).mono ?_; rintro _ w6 ⟨rfl, hb6⟩; have HB6 : Hid (Below w.heap.size w w6) := hid' (below_from HB5.out (und_b hb6) HB5.out.size); have HQ6 := hid' (HQ5.out.1.keep (und_b hb6)); clear hb6)
                    | (go_at_call 15; refine (qdrain_I _ w.heap.size b c 65536 (xs.take i) i HTL.out HI2.out.2.1 _ HQ6.out.q1).mono ?_; rintro _ w7 ⟨ro, rc, rfl, hr7, hq7, hf7⟩; have HR7 := hid' hr7; have HB7 : Hid (Below w.heap.size w w7) := hid' (HQ6.out.q1.bl HB6.out hf7); clear hr7 hq7 hf7)
                    | (go_at_call 14; refine (qsame ro (some a) rc (cap) i (xs.take i) HTL.out w7 (RQ.of_own HR7.out) (HIN.out _ HB7.out) (by have := HI2.out; omega)).mono ?_; rintro _ w8 ⟨rfl, m8, hw8⟩; have HB8 : Hid (Below w.heap.size w w8) := hid' (by rw [hw8]; exact below_from HB7.out (below_drewN _ _) HB7.out.size); clear hw8))
                all_goals
                  go_wp2
                  go_ret
                  exact ⟨rfl, HB8.out⟩

end Go.Proofs.Ytdhiaiafdhoeeaa
