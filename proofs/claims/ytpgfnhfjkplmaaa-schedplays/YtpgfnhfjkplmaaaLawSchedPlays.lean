/-
  The law SchedPlays, by its contract: it returns true for every row of calls.
-/
import Derived.Test.YtpgfnhfjkplmaaaSdPl
import Derived.Test.YtpgfnhfjkplmaaaSdCl
import Derived.Deep.CutRange
namespace Go.Proofs.Ytpgfnhfjkplmaaa
open Go.RowKit

set_option maxHeartbeats 16000000 in
set_option maxRecDepth 20000 in
theorem schedPlays_any (sv : Value) (cs : List Cl12) (w : World) (hsc : Scr12 w sv cs) (hlen : cs.length ≤ 140737488355328) :
    Calls Try.prog 3 #[sv] w fun e w' => e = .returned (.bool true) ∧ Below w.heap.size w w' := by
  obtain ⟨ao, cap, hsv⟩ := hsc.shape
  subst hsv
  obtain ⟨N, hN⟩ : ∃ N, cs.length = N := ⟨_, rfl⟩
  have HN := hid' hN
  rw [hN] at hsc hlen ⊢
  have HSC := hid' hsc
  clear hN hsc
  go_enter Try.func3, Try.ntmps3
  go_wp2_with fail
  refine (snew w).mono ?_
  rintro _ w1 ⟨⟨b, rfl, hs⟩, hb⟩
  have HS1 := hid' hs
  have HB1 := hid' hb
  clear hs hb
  go_upto_region 4 with fail
  go_wp2_with (refine wpl_alloc 27 rfl rfl #[.slice none 0 0] (by kernel_rfl) ?_)
  intro bx w2 hbx hax hb2
  have HP : Hid (PP w2 w.heap.size b bx (.slice none 0 0) (.slice none 0 0) (.slice none 0 0) []) := hid' ⟨HS1.out.keep hb2, ⟨Nat.le_trans HB1.out.size hbx, hax, World.ownsRow_nil _ _ _ _, List.Pairwise.nil, by simp⟩⟩
  have HB := hid' (below_two HB1.out hb2)
  clear hbx hax hb2 HS1 HB1
  go_wp2
  go_loopw [5, 6, 7, 8, 9, 10, 11, 12, 13] (fun s5 _ _ _ _ _ _ _ _ wr => ∃ (i : Nat) (v u r : Value) (ts : List (Int × Bool)), s5 = .int .i64 (i : Int) ∧ i ≤ N ∧ Hid (PP wr w.heap.size b bx v u r ts) ∧ Hid (Below w.heap.size w wr)) (fun s5 _ _ _ _ _ _ _ _ _ => N - (intOf s5).toNat)
  case atStart => exact ⟨0, _, _, _, _, rfl, Nat.zero_le _, HP, HB⟩
  case round =>
    clear HP HB
    obtain ⟨i, v, u, r, ts, rfl, hi, HP, HB⟩ := hrel
    by_cases hlt : i < N
    · have hlt2 : (i : Int) < (N : Int) := by omega
      obtain ⟨cl, hc⟩ : ∃ cl, cs[i]? = some cl := ⟨_, List.getElem?_eq_getElem (by rw [HN.out]; exact hlt)⟩
      obtain ⟨a, hao, x0, x1⟩ := HSC.out.at HB.out i cl hc
      subst hao
      obtain ⟨q, x⟩ := cl
      simp only at x0 x1
      clear hc
      by_cases q0 : q = 0
      · subst q0
        obtain ⟨c, ts2, ho⟩ := addOf_ex ts x
        have HO := hid' ho
        have hcc : (c == c) = true := beq_self_eq_true _
        clear ho
        go_wp2_with fail
        refine (sadd HO.out _ b _ _ _ HP.out.sm).mono ?_
        rintro _ wC ⟨rfl, vN, uN, hs, hf, _⟩
        have HSC' := hid' hs
        have HFC := hid' hf
        clear hs hf
        go_wp2_with fail
        refine (radd HO.out _ bx _ _ (HP.out.rmOf HFC.out)).mono ?_
        rintro _ wA ⟨rfl, rN, hr, hf, _⟩
        have HP2 := hid' (HP.out.made HFC.out HSC'.out hf hr)
        have HB2 := hid' (HP.out.bl HB.out HFC.out hf)
        clear hr hf HSC' HFC HP HB x0 x1 HO
        obtain ⟨l, hl⟩ : ∃ l, Sd.row true ts2 = l := ⟨_, rfl⟩
        obtain ⟨n, hn⟩ : ∃ n, l.length = n := ⟨_, rfl⟩
        have hn4 : n ≤ 4096 := by rw [← hn, ← hl]; exact HP2.out.sm.len true
        have HLN := hid' hn
        have HRL := hid' hl
        clear hl hn
        go_wp2_with fail
        refine (sready _ b _ _ ts2 n (by rw [HRL.out]; exact HLN.out) wA HP2.out.sm).mono ?_
        rintro _ w1 ⟨⟨xo, xc, rfl, hr⟩, hb⟩
        have HX1 := hid' hr
        have HB1 := hid' hb
        have HQ1 := hid' (HP2.out.keep hb)
        clear hr hb
        go_wp2_with fail
        refine (sready _ b _ _ ts2 n (by rw [HRL.out]; exact HLN.out) w1 HQ1.out.sm).mono ?_
        rintro _ w2 ⟨⟨yo, yc, rfl, hr⟩, hb⟩
        have HY2 := hid' hr
        have HX2 := hid' (own_same HX1.out (fun k hk => hb.block k (own_lt HX1.out k hk)))
        have HXL : Hid (∀ k, (Value.slice xo n xc).ownBlock = some k → k < w1.heap.size) := hid' (fun k hk => own_lt HX1.out k hk)
        have HW1 : Hid (wA.heap.size ≤ w1.heap.size) := hid' HB1.out.size
        have HB2' := hid' (below_two HB1.out hb)
        have HQ2 := hid' (HQ1.out.keep hb)
        clear hr hb HX1 HB1 HQ1
        go_wp2_with fail
        refine (rready _ bx _ ts2 w2 HQ2.out.rm).mono ?_
        rintro _ w3 ⟨⟨m3, zo, zc, rfl, hm3, hr⟩, hb⟩
        obtain rfl : m3 = n := by rw [← hm3, HRL.out]; exact HLN.out
        have HZ3 := hid' hr
        have HY3 := hid' (own_same HY2.out (fun k hk => hb.block k (own_lt HY2.out k hk)))
        have HX3 := hid' (own_same HX2.out (fun k hk => hb.block k (own_lt HX2.out k hk)))
        have HB3 := hid' (below_two HB2'.out hb)
        have HQ3 := hid' (HQ2.out.keep hb)
        clear hr hb hm3 HX2 HY2 HB2' HQ2
        rw [HRL.out] at HX3 HY3 HZ3
        go_wp2_with fail
        refine (qsame _ _ _ _ m3 l HLN.out w3 (RQ.of_own HX3.out) (RQ.of_own HZ3.out) (by omega)).mono ?_
        rintro _ w4 ⟨rfl, q4, hw4⟩
        have hb4 : Below w3.heap.size w3 w4 := by rw [hw4]; exact ⟨rfl, rfl, rfl, Nat.le_refl _, fun _ _ => rfl⟩
        have HX4 := hid' (own_same HX3.out (fun k hk => hb4.block k (own_lt HX3.out k hk)))
        have HY4 := hid' (own_same HY3.out (fun k hk => hb4.block k (own_lt HY3.out k hk)))
        have HB4 := hid' (below_two HB3.out hb4)
        have HQ4 := hid' (HQ3.out.keep hb4)
        clear hw4 hb4 HX3 HY3 HZ3 HB3 HQ3
        go_wp2_with fail
        refine (rready _ bx _ ts2 w4 HQ4.out.rm).mono ?_
        rintro _ w5 ⟨⟨m5, ko, kc, rfl, hm5, hr⟩, hb⟩
        obtain rfl : m5 = m3 := by rw [← hm5, HRL.out]; exact HLN.out
        have HZ5 := hid' hr
        have HY5 := hid' (own_same HY4.out (fun k hk => hb.block k (own_lt HY4.out k hk)))
        have HX5 := hid' (own_same HX4.out (fun k hk => hb.block k (own_lt HX4.out k hk)))
        have HB5 := hid' (below_two HB4.out hb)
        clear hr hb hm5 HX4 HY4 HB4 HQ4
        rw [HRL.out] at HZ5
        go_wp2_with fail
        refine (qsame _ _ _ _ m5 l HLN.out w5 (RQ.of_own HY5.out) (RQ.of_own HZ5.out) (by omega)).mono ?_
        rintro _ w6 ⟨rfl, q6, hw6⟩
        have hb6 : Below w5.heap.size w5 w6 := by rw [hw6]; exact ⟨rfl, rfl, rfl, Nat.le_refl _, fun _ _ => rfl⟩
        have HX6 := hid' (own_same HX5.out (fun k hk => hb6.block k (own_lt HX5.out k hk)))
        have HY6 := hid' (own_same HY5.out (fun k hk => hb6.block k (own_lt HY5.out k hk)))
        have HB6 := hid' (below_two HB5.out hb6)
        clear hw6 hb6 HX5 HY5 HZ5 HB5
        have HS6 := hid' (s1_of HX6.out HY6.out HXL.out HW1.out)
        have HBA : Hid (Below wA.heap.size wA (w6.alloc (.cells #[.slice xo m5 xc, .slice yo m5 yc] 36))) := hid' (HB6.out.alloc HB6.out.size _)
        go_wp2_with fail
        refine (apart_any wA.heap.size w6.heap.size m5 _ _ HS6.out hn4 HBA.out.size).mono ?_
        rintro _ w7 ⟨rfl, hf⟩
        have hb7 : Below wA.heap.size wA w7 := HBA.out.trans (hf.below HBA.out.size (fun k hk => by
          rcases hk with hk | hk
          · exact (own_ty HX6.out k (by simpa using hk)).1
          · exact Nat.le_trans HW1.out (own_ty HY6.out k (by simpa using hk)).1))
        have HP7 := hid' (HP2.out.keep hb7)
        have HB7 := hid' (below_from HB2.out hb7 HB2.out.size)
        clear hf hb7 HX6 HY6 HB6 HS6 HBA HXL HW1 HP2 HB2 HLN HRL
        go_wp2
        go_roundw
        case rel => exact ⟨i + 1, vN, uN, rN, ts2, by go_num, by omega, HP7, HB7⟩
        case measure => simp [intOf]; omega
      by_cases q1 : q = 1
      · subst q1
        clear q0
        obtain ⟨c, ts2, ho⟩ := dropOf_ex ts x
        have HO := hid' ho
        have hcc : (c == c) = true := beq_self_eq_true _
        clear ho
        go_wp2_with fail
        refine (sdrop HO.out _ b _ _ _ HP.out.sm).mono ?_
        rintro _ wC ⟨rfl, vN, uN, hs, hf, _⟩
        have HSC' := hid' hs
        have HFC := hid' hf
        clear hs hf
        go_wp2_with fail
        refine (rdrop HO.out _ bx _ _ (HP.out.rmOf HFC.out)).mono ?_
        rintro _ wA ⟨rfl, rN, hr, hf, _⟩
        have HP2 := hid' (HP.out.made HFC.out HSC'.out hf hr)
        have HB2 := hid' (HP.out.bl HB.out HFC.out hf)
        clear hr hf HSC' HFC HP HB x0 x1 HO
        obtain ⟨l, hl⟩ : ∃ l, Sd.row true ts2 = l := ⟨_, rfl⟩
        obtain ⟨n, hn⟩ : ∃ n, l.length = n := ⟨_, rfl⟩
        have hn4 : n ≤ 4096 := by rw [← hn, ← hl]; exact HP2.out.sm.len true
        have HLN := hid' hn
        have HRL := hid' hl
        clear hl hn
        go_wp2_with fail
        refine (sready _ b _ _ ts2 n (by rw [HRL.out]; exact HLN.out) wA HP2.out.sm).mono ?_
        rintro _ w1 ⟨⟨xo, xc, rfl, hr⟩, hb⟩
        have HX1 := hid' hr
        have HB1 := hid' hb
        have HQ1 := hid' (HP2.out.keep hb)
        clear hr hb
        go_wp2_with fail
        refine (sready _ b _ _ ts2 n (by rw [HRL.out]; exact HLN.out) w1 HQ1.out.sm).mono ?_
        rintro _ w2 ⟨⟨yo, yc, rfl, hr⟩, hb⟩
        have HY2 := hid' hr
        have HX2 := hid' (own_same HX1.out (fun k hk => hb.block k (own_lt HX1.out k hk)))
        have HXL : Hid (∀ k, (Value.slice xo n xc).ownBlock = some k → k < w1.heap.size) := hid' (fun k hk => own_lt HX1.out k hk)
        have HW1 : Hid (wA.heap.size ≤ w1.heap.size) := hid' HB1.out.size
        have HB2' := hid' (below_two HB1.out hb)
        have HQ2 := hid' (HQ1.out.keep hb)
        clear hr hb HX1 HB1 HQ1
        go_wp2_with fail
        refine (rready _ bx _ ts2 w2 HQ2.out.rm).mono ?_
        rintro _ w3 ⟨⟨m3, zo, zc, rfl, hm3, hr⟩, hb⟩
        obtain rfl : m3 = n := by rw [← hm3, HRL.out]; exact HLN.out
        have HZ3 := hid' hr
        have HY3 := hid' (own_same HY2.out (fun k hk => hb.block k (own_lt HY2.out k hk)))
        have HX3 := hid' (own_same HX2.out (fun k hk => hb.block k (own_lt HX2.out k hk)))
        have HB3 := hid' (below_two HB2'.out hb)
        have HQ3 := hid' (HQ2.out.keep hb)
        clear hr hb hm3 HX2 HY2 HB2' HQ2
        rw [HRL.out] at HX3 HY3 HZ3
        go_wp2_with fail
        refine (qsame _ _ _ _ m3 l HLN.out w3 (RQ.of_own HX3.out) (RQ.of_own HZ3.out) (by omega)).mono ?_
        rintro _ w4 ⟨rfl, q4, hw4⟩
        have hb4 : Below w3.heap.size w3 w4 := by rw [hw4]; exact ⟨rfl, rfl, rfl, Nat.le_refl _, fun _ _ => rfl⟩
        have HX4 := hid' (own_same HX3.out (fun k hk => hb4.block k (own_lt HX3.out k hk)))
        have HY4 := hid' (own_same HY3.out (fun k hk => hb4.block k (own_lt HY3.out k hk)))
        have HB4 := hid' (below_two HB3.out hb4)
        have HQ4 := hid' (HQ3.out.keep hb4)
        clear hw4 hb4 HX3 HY3 HZ3 HB3 HQ3
        go_wp2_with fail
        refine (rready _ bx _ ts2 w4 HQ4.out.rm).mono ?_
        rintro _ w5 ⟨⟨m5, ko, kc, rfl, hm5, hr⟩, hb⟩
        obtain rfl : m5 = m3 := by rw [← hm5, HRL.out]; exact HLN.out
        have HZ5 := hid' hr
        have HY5 := hid' (own_same HY4.out (fun k hk => hb.block k (own_lt HY4.out k hk)))
        have HX5 := hid' (own_same HX4.out (fun k hk => hb.block k (own_lt HX4.out k hk)))
        have HB5 := hid' (below_two HB4.out hb)
        clear hr hb hm5 HX4 HY4 HB4 HQ4
        rw [HRL.out] at HZ5
        go_wp2_with fail
        refine (qsame _ _ _ _ m5 l HLN.out w5 (RQ.of_own HY5.out) (RQ.of_own HZ5.out) (by omega)).mono ?_
        rintro _ w6 ⟨rfl, q6, hw6⟩
        have hb6 : Below w5.heap.size w5 w6 := by rw [hw6]; exact ⟨rfl, rfl, rfl, Nat.le_refl _, fun _ _ => rfl⟩
        have HX6 := hid' (own_same HX5.out (fun k hk => hb6.block k (own_lt HX5.out k hk)))
        have HY6 := hid' (own_same HY5.out (fun k hk => hb6.block k (own_lt HY5.out k hk)))
        have HB6 := hid' (below_two HB5.out hb6)
        clear hw6 hb6 HX5 HY5 HZ5 HB5
        have HS6 := hid' (s1_of HX6.out HY6.out HXL.out HW1.out)
        have HBA : Hid (Below wA.heap.size wA (w6.alloc (.cells #[.slice xo m5 xc, .slice yo m5 yc] 36))) := hid' (HB6.out.alloc HB6.out.size _)
        go_wp2_with fail
        refine (apart_any wA.heap.size w6.heap.size m5 _ _ HS6.out hn4 HBA.out.size).mono ?_
        rintro _ w7 ⟨rfl, hf⟩
        have hb7 : Below wA.heap.size wA w7 := HBA.out.trans (hf.below HBA.out.size (fun k hk => by
          rcases hk with hk | hk
          · exact (own_ty HX6.out k (by simpa using hk)).1
          · exact Nat.le_trans HW1.out (own_ty HY6.out k (by simpa using hk)).1))
        have HP7 := hid' (HP2.out.keep hb7)
        have HB7 := hid' (below_from HB2.out hb7 HB2.out.size)
        clear hf hb7 HX6 HY6 HB6 HS6 HBA HXL HW1 HP2 HB2 HLN HRL
        go_wp2
        go_roundw
        case rel => exact ⟨i + 1, vN, uN, rN, ts2, by go_num, by omega, HP7, HB7⟩
        case measure => simp [intOf]; omega
      by_cases q2 : q = 2
      · subst q2
        clear q0 q1
        obtain ⟨c, ts2, ho⟩ := setOf_ex true ts x
        have HO := hid' ho
        have hcc : (c == c) = true := beq_self_eq_true _
        clear ho
        go_wp2_with fail
        refine (swake HO.out _ b _ _ _ HP.out.sm).mono ?_
        rintro _ wC ⟨rfl, vN, uN, hs, hf, _⟩
        have HSC' := hid' hs
        have HFC := hid' hf
        clear hs hf
        go_wp2_with fail
        refine (rset HO.out _ bx _ _ (HP.out.rmOf HFC.out)).mono ?_
        rintro _ wA ⟨rfl, rN, hr, hf, _⟩
        have HP2 := hid' (HP.out.made HFC.out HSC'.out hf hr)
        have HB2 := hid' (HP.out.bl HB.out HFC.out hf)
        clear hr hf HSC' HFC HP HB x0 x1 HO
        obtain ⟨l, hl⟩ : ∃ l, Sd.row true ts2 = l := ⟨_, rfl⟩
        obtain ⟨n, hn⟩ : ∃ n, l.length = n := ⟨_, rfl⟩
        have hn4 : n ≤ 4096 := by rw [← hn, ← hl]; exact HP2.out.sm.len true
        have HLN := hid' hn
        have HRL := hid' hl
        clear hl hn
        go_wp2_with fail
        refine (sready _ b _ _ ts2 n (by rw [HRL.out]; exact HLN.out) wA HP2.out.sm).mono ?_
        rintro _ w1 ⟨⟨xo, xc, rfl, hr⟩, hb⟩
        have HX1 := hid' hr
        have HB1 := hid' hb
        have HQ1 := hid' (HP2.out.keep hb)
        clear hr hb
        go_wp2_with fail
        refine (sready _ b _ _ ts2 n (by rw [HRL.out]; exact HLN.out) w1 HQ1.out.sm).mono ?_
        rintro _ w2 ⟨⟨yo, yc, rfl, hr⟩, hb⟩
        have HY2 := hid' hr
        have HX2 := hid' (own_same HX1.out (fun k hk => hb.block k (own_lt HX1.out k hk)))
        have HXL : Hid (∀ k, (Value.slice xo n xc).ownBlock = some k → k < w1.heap.size) := hid' (fun k hk => own_lt HX1.out k hk)
        have HW1 : Hid (wA.heap.size ≤ w1.heap.size) := hid' HB1.out.size
        have HB2' := hid' (below_two HB1.out hb)
        have HQ2 := hid' (HQ1.out.keep hb)
        clear hr hb HX1 HB1 HQ1
        go_wp2_with fail
        refine (rready _ bx _ ts2 w2 HQ2.out.rm).mono ?_
        rintro _ w3 ⟨⟨m3, zo, zc, rfl, hm3, hr⟩, hb⟩
        obtain rfl : m3 = n := by rw [← hm3, HRL.out]; exact HLN.out
        have HZ3 := hid' hr
        have HY3 := hid' (own_same HY2.out (fun k hk => hb.block k (own_lt HY2.out k hk)))
        have HX3 := hid' (own_same HX2.out (fun k hk => hb.block k (own_lt HX2.out k hk)))
        have HB3 := hid' (below_two HB2'.out hb)
        have HQ3 := hid' (HQ2.out.keep hb)
        clear hr hb hm3 HX2 HY2 HB2' HQ2
        rw [HRL.out] at HX3 HY3 HZ3
        go_wp2_with fail
        refine (qsame _ _ _ _ m3 l HLN.out w3 (RQ.of_own HX3.out) (RQ.of_own HZ3.out) (by omega)).mono ?_
        rintro _ w4 ⟨rfl, q4, hw4⟩
        have hb4 : Below w3.heap.size w3 w4 := by rw [hw4]; exact ⟨rfl, rfl, rfl, Nat.le_refl _, fun _ _ => rfl⟩
        have HX4 := hid' (own_same HX3.out (fun k hk => hb4.block k (own_lt HX3.out k hk)))
        have HY4 := hid' (own_same HY3.out (fun k hk => hb4.block k (own_lt HY3.out k hk)))
        have HB4 := hid' (below_two HB3.out hb4)
        have HQ4 := hid' (HQ3.out.keep hb4)
        clear hw4 hb4 HX3 HY3 HZ3 HB3 HQ3
        go_wp2_with fail
        refine (rready _ bx _ ts2 w4 HQ4.out.rm).mono ?_
        rintro _ w5 ⟨⟨m5, ko, kc, rfl, hm5, hr⟩, hb⟩
        obtain rfl : m5 = m3 := by rw [← hm5, HRL.out]; exact HLN.out
        have HZ5 := hid' hr
        have HY5 := hid' (own_same HY4.out (fun k hk => hb.block k (own_lt HY4.out k hk)))
        have HX5 := hid' (own_same HX4.out (fun k hk => hb.block k (own_lt HX4.out k hk)))
        have HB5 := hid' (below_two HB4.out hb)
        clear hr hb hm5 HX4 HY4 HB4 HQ4
        rw [HRL.out] at HZ5
        go_wp2_with fail
        refine (qsame _ _ _ _ m5 l HLN.out w5 (RQ.of_own HY5.out) (RQ.of_own HZ5.out) (by omega)).mono ?_
        rintro _ w6 ⟨rfl, q6, hw6⟩
        have hb6 : Below w5.heap.size w5 w6 := by rw [hw6]; exact ⟨rfl, rfl, rfl, Nat.le_refl _, fun _ _ => rfl⟩
        have HX6 := hid' (own_same HX5.out (fun k hk => hb6.block k (own_lt HX5.out k hk)))
        have HY6 := hid' (own_same HY5.out (fun k hk => hb6.block k (own_lt HY5.out k hk)))
        have HB6 := hid' (below_two HB5.out hb6)
        clear hw6 hb6 HX5 HY5 HZ5 HB5
        have HS6 := hid' (s1_of HX6.out HY6.out HXL.out HW1.out)
        have HBA : Hid (Below wA.heap.size wA (w6.alloc (.cells #[.slice xo m5 xc, .slice yo m5 yc] 36))) := hid' (HB6.out.alloc HB6.out.size _)
        go_wp2_with fail
        refine (apart_any wA.heap.size w6.heap.size m5 _ _ HS6.out hn4 HBA.out.size).mono ?_
        rintro _ w7 ⟨rfl, hf⟩
        have hb7 : Below wA.heap.size wA w7 := HBA.out.trans (hf.below HBA.out.size (fun k hk => by
          rcases hk with hk | hk
          · exact (own_ty HX6.out k (by simpa using hk)).1
          · exact Nat.le_trans HW1.out (own_ty HY6.out k (by simpa using hk)).1))
        have HP7 := hid' (HP2.out.keep hb7)
        have HB7 := hid' (below_from HB2.out hb7 HB2.out.size)
        clear hf hb7 HX6 HY6 HB6 HS6 HBA HXL HW1 HP2 HB2 HLN HRL
        go_wp2
        go_roundw
        case rel => exact ⟨i + 1, vN, uN, rN, ts2, by go_num, by omega, HP7, HB7⟩
        case measure => simp [intOf]; omega
      by_cases q3 : q = 3
      · subst q3
        clear q0 q1 q2
        obtain ⟨c, ts2, ho⟩ := setOf_ex false ts x
        have HO := hid' ho
        have hcc : (c == c) = true := beq_self_eq_true _
        clear ho
        go_wp2_with fail
        refine (ssleep HO.out _ b _ _ _ HP.out.sm).mono ?_
        rintro _ wC ⟨rfl, vN, uN, hs, hf, _⟩
        have HSC' := hid' hs
        have HFC := hid' hf
        clear hs hf
        go_wp2_with fail
        refine (rset HO.out _ bx _ _ (HP.out.rmOf HFC.out)).mono ?_
        rintro _ wA ⟨rfl, rN, hr, hf, _⟩
        have HP2 := hid' (HP.out.made HFC.out HSC'.out hf hr)
        have HB2 := hid' (HP.out.bl HB.out HFC.out hf)
        clear hr hf HSC' HFC HP HB x0 x1 HO
        obtain ⟨l, hl⟩ : ∃ l, Sd.row true ts2 = l := ⟨_, rfl⟩
        obtain ⟨n, hn⟩ : ∃ n, l.length = n := ⟨_, rfl⟩
        have hn4 : n ≤ 4096 := by rw [← hn, ← hl]; exact HP2.out.sm.len true
        have HLN := hid' hn
        have HRL := hid' hl
        clear hl hn
        go_wp2_with fail
        refine (sready _ b _ _ ts2 n (by rw [HRL.out]; exact HLN.out) wA HP2.out.sm).mono ?_
        rintro _ w1 ⟨⟨xo, xc, rfl, hr⟩, hb⟩
        have HX1 := hid' hr
        have HB1 := hid' hb
        have HQ1 := hid' (HP2.out.keep hb)
        clear hr hb
        go_wp2_with fail
        refine (sready _ b _ _ ts2 n (by rw [HRL.out]; exact HLN.out) w1 HQ1.out.sm).mono ?_
        rintro _ w2 ⟨⟨yo, yc, rfl, hr⟩, hb⟩
        have HY2 := hid' hr
        have HX2 := hid' (own_same HX1.out (fun k hk => hb.block k (own_lt HX1.out k hk)))
        have HXL : Hid (∀ k, (Value.slice xo n xc).ownBlock = some k → k < w1.heap.size) := hid' (fun k hk => own_lt HX1.out k hk)
        have HW1 : Hid (wA.heap.size ≤ w1.heap.size) := hid' HB1.out.size
        have HB2' := hid' (below_two HB1.out hb)
        have HQ2 := hid' (HQ1.out.keep hb)
        clear hr hb HX1 HB1 HQ1
        go_wp2_with fail
        refine (rready _ bx _ ts2 w2 HQ2.out.rm).mono ?_
        rintro _ w3 ⟨⟨m3, zo, zc, rfl, hm3, hr⟩, hb⟩
        obtain rfl : m3 = n := by rw [← hm3, HRL.out]; exact HLN.out
        have HZ3 := hid' hr
        have HY3 := hid' (own_same HY2.out (fun k hk => hb.block k (own_lt HY2.out k hk)))
        have HX3 := hid' (own_same HX2.out (fun k hk => hb.block k (own_lt HX2.out k hk)))
        have HB3 := hid' (below_two HB2'.out hb)
        have HQ3 := hid' (HQ2.out.keep hb)
        clear hr hb hm3 HX2 HY2 HB2' HQ2
        rw [HRL.out] at HX3 HY3 HZ3
        go_wp2_with fail
        refine (qsame _ _ _ _ m3 l HLN.out w3 (RQ.of_own HX3.out) (RQ.of_own HZ3.out) (by omega)).mono ?_
        rintro _ w4 ⟨rfl, q4, hw4⟩
        have hb4 : Below w3.heap.size w3 w4 := by rw [hw4]; exact ⟨rfl, rfl, rfl, Nat.le_refl _, fun _ _ => rfl⟩
        have HX4 := hid' (own_same HX3.out (fun k hk => hb4.block k (own_lt HX3.out k hk)))
        have HY4 := hid' (own_same HY3.out (fun k hk => hb4.block k (own_lt HY3.out k hk)))
        have HB4 := hid' (below_two HB3.out hb4)
        have HQ4 := hid' (HQ3.out.keep hb4)
        clear hw4 hb4 HX3 HY3 HZ3 HB3 HQ3
        go_wp2_with fail
        refine (rready _ bx _ ts2 w4 HQ4.out.rm).mono ?_
        rintro _ w5 ⟨⟨m5, ko, kc, rfl, hm5, hr⟩, hb⟩
        obtain rfl : m5 = m3 := by rw [← hm5, HRL.out]; exact HLN.out
        have HZ5 := hid' hr
        have HY5 := hid' (own_same HY4.out (fun k hk => hb.block k (own_lt HY4.out k hk)))
        have HX5 := hid' (own_same HX4.out (fun k hk => hb.block k (own_lt HX4.out k hk)))
        have HB5 := hid' (below_two HB4.out hb)
        clear hr hb hm5 HX4 HY4 HB4 HQ4
        rw [HRL.out] at HZ5
        go_wp2_with fail
        refine (qsame _ _ _ _ m5 l HLN.out w5 (RQ.of_own HY5.out) (RQ.of_own HZ5.out) (by omega)).mono ?_
        rintro _ w6 ⟨rfl, q6, hw6⟩
        have hb6 : Below w5.heap.size w5 w6 := by rw [hw6]; exact ⟨rfl, rfl, rfl, Nat.le_refl _, fun _ _ => rfl⟩
        have HX6 := hid' (own_same HX5.out (fun k hk => hb6.block k (own_lt HX5.out k hk)))
        have HY6 := hid' (own_same HY5.out (fun k hk => hb6.block k (own_lt HY5.out k hk)))
        have HB6 := hid' (below_two HB5.out hb6)
        clear hw6 hb6 HX5 HY5 HZ5 HB5
        have HS6 := hid' (s1_of HX6.out HY6.out HXL.out HW1.out)
        have HBA : Hid (Below wA.heap.size wA (w6.alloc (.cells #[.slice xo m5 xc, .slice yo m5 yc] 36))) := hid' (HB6.out.alloc HB6.out.size _)
        go_wp2_with fail
        refine (apart_any wA.heap.size w6.heap.size m5 _ _ HS6.out hn4 HBA.out.size).mono ?_
        rintro _ w7 ⟨rfl, hf⟩
        have hb7 : Below wA.heap.size wA w7 := HBA.out.trans (hf.below HBA.out.size (fun k hk => by
          rcases hk with hk | hk
          · exact (own_ty HX6.out k (by simpa using hk)).1
          · exact Nat.le_trans HW1.out (own_ty HY6.out k (by simpa using hk)).1))
        have HP7 := hid' (HP2.out.keep hb7)
        have HB7 := hid' (below_from HB2.out hb7 HB2.out.size)
        clear hf hb7 HX6 HY6 HB6 HS6 HBA HXL HW1 HP2 HB2 HLN HRL
        go_wp2
        go_roundw
        case rel => exact ⟨i + 1, vN, uN, rN, ts2, by go_num, by omega, HP7, HB7⟩
        case measure => simp [intOf]; omega
      by_cases q4 : q = 4
      · subst q4
        clear q0 q1 q2 q3
        by_cases hk0 : (Sd.row true ts).length = 0
        · go_wp2_with fail
          refine (spick_none _ b _ _ ts x _ HP.out.sm hk0).mono ?_
          rintro _ wp ⟨rfl, hwp⟩
          subst wp
          go_wp2_with fail
          refine (rpick_none _ bx _ ts x _ HP.out.rm hk0).mono ?_
          rintro _ wA ⟨rfl, hb⟩
          obtain ⟨vN, uN, rN, ts2, hvv⟩ : ∃ vN uN rN ts2, (vN, uN, rN, ts2) = (v, u, r, ts) := ⟨_, _, _, _, rfl⟩
          simp only [Prod.mk.injEq] at hvv
          obtain ⟨e1, e2, e3, e4⟩ := hvv
          have HP2 : Hid (PP wA w.heap.size b bx vN uN rN ts2) := hid' (by rw [e1, e2, e3, e4]; exact HP.out.keep hb)
          have HB2 := hid' (below_from HB.out hb HB.out.size)
          clear hb HP HB x0 x1 hk0 e1 e2 e3 e4
          obtain ⟨l, hl⟩ : ∃ l, Sd.row true ts2 = l := ⟨_, rfl⟩
          obtain ⟨n, hn⟩ : ∃ n, l.length = n := ⟨_, rfl⟩
          have hn4 : n ≤ 4096 := by rw [← hn, ← hl]; exact HP2.out.sm.len true
          have HLN := hid' hn
          have HRL := hid' hl
          clear hl hn
          go_wp2_with fail
          refine (sready _ b _ _ ts2 n (by rw [HRL.out]; exact HLN.out) wA HP2.out.sm).mono ?_
          rintro _ w1 ⟨⟨xo, xc, rfl, hr⟩, hb⟩
          have HX1 := hid' hr
          have HB1 := hid' hb
          have HQ1 := hid' (HP2.out.keep hb)
          clear hr hb
          go_wp2_with fail
          refine (sready _ b _ _ ts2 n (by rw [HRL.out]; exact HLN.out) w1 HQ1.out.sm).mono ?_
          rintro _ w2 ⟨⟨yo, yc, rfl, hr⟩, hb⟩
          have HY2 := hid' hr
          have HX2 := hid' (own_same HX1.out (fun k hk => hb.block k (own_lt HX1.out k hk)))
          have HXL : Hid (∀ k, (Value.slice xo n xc).ownBlock = some k → k < w1.heap.size) := hid' (fun k hk => own_lt HX1.out k hk)
          have HW1 : Hid (wA.heap.size ≤ w1.heap.size) := hid' HB1.out.size
          have HB2' := hid' (below_two HB1.out hb)
          have HQ2 := hid' (HQ1.out.keep hb)
          clear hr hb HX1 HB1 HQ1
          go_wp2_with fail
          refine (rready _ bx _ ts2 w2 HQ2.out.rm).mono ?_
          rintro _ w3 ⟨⟨m3, zo, zc, rfl, hm3, hr⟩, hb⟩
          obtain rfl : m3 = n := by rw [← hm3, HRL.out]; exact HLN.out
          have HZ3 := hid' hr
          have HY3 := hid' (own_same HY2.out (fun k hk => hb.block k (own_lt HY2.out k hk)))
          have HX3 := hid' (own_same HX2.out (fun k hk => hb.block k (own_lt HX2.out k hk)))
          have HB3 := hid' (below_two HB2'.out hb)
          have HQ3 := hid' (HQ2.out.keep hb)
          clear hr hb hm3 HX2 HY2 HB2' HQ2
          rw [HRL.out] at HX3 HY3 HZ3
          go_wp2_with fail
          refine (qsame _ _ _ _ m3 l HLN.out w3 (RQ.of_own HX3.out) (RQ.of_own HZ3.out) (by omega)).mono ?_
          rintro _ w4 ⟨rfl, q4, hw4⟩
          have hb4 : Below w3.heap.size w3 w4 := by rw [hw4]; exact ⟨rfl, rfl, rfl, Nat.le_refl _, fun _ _ => rfl⟩
          have HX4 := hid' (own_same HX3.out (fun k hk => hb4.block k (own_lt HX3.out k hk)))
          have HY4 := hid' (own_same HY3.out (fun k hk => hb4.block k (own_lt HY3.out k hk)))
          have HB4 := hid' (below_two HB3.out hb4)
          have HQ4 := hid' (HQ3.out.keep hb4)
          clear hw4 hb4 HX3 HY3 HZ3 HB3 HQ3
          go_wp2_with fail
          refine (rready _ bx _ ts2 w4 HQ4.out.rm).mono ?_
          rintro _ w5 ⟨⟨m5, ko, kc, rfl, hm5, hr⟩, hb⟩
          obtain rfl : m5 = m3 := by rw [← hm5, HRL.out]; exact HLN.out
          have HZ5 := hid' hr
          have HY5 := hid' (own_same HY4.out (fun k hk => hb.block k (own_lt HY4.out k hk)))
          have HX5 := hid' (own_same HX4.out (fun k hk => hb.block k (own_lt HX4.out k hk)))
          have HB5 := hid' (below_two HB4.out hb)
          clear hr hb hm5 HX4 HY4 HB4 HQ4
          rw [HRL.out] at HZ5
          go_wp2_with fail
          refine (qsame _ _ _ _ m5 l HLN.out w5 (RQ.of_own HY5.out) (RQ.of_own HZ5.out) (by omega)).mono ?_
          rintro _ w6 ⟨rfl, q6, hw6⟩
          have hb6 : Below w5.heap.size w5 w6 := by rw [hw6]; exact ⟨rfl, rfl, rfl, Nat.le_refl _, fun _ _ => rfl⟩
          have HX6 := hid' (own_same HX5.out (fun k hk => hb6.block k (own_lt HX5.out k hk)))
          have HY6 := hid' (own_same HY5.out (fun k hk => hb6.block k (own_lt HY5.out k hk)))
          have HB6 := hid' (below_two HB5.out hb6)
          clear hw6 hb6 HX5 HY5 HZ5 HB5
          have HS6 := hid' (s1_of HX6.out HY6.out HXL.out HW1.out)
          have HBA : Hid (Below wA.heap.size wA (w6.alloc (.cells #[.slice xo m5 xc, .slice yo m5 yc] 36))) := hid' (HB6.out.alloc HB6.out.size _)
          go_wp2_with fail
          refine (apart_any wA.heap.size w6.heap.size m5 _ _ HS6.out hn4 HBA.out.size).mono ?_
          rintro _ w7 ⟨rfl, hf⟩
          have hb7 : Below wA.heap.size wA w7 := HBA.out.trans (hf.below HBA.out.size (fun k hk => by
            rcases hk with hk | hk
            · exact (own_ty HX6.out k (by simpa using hk)).1
            · exact Nat.le_trans HW1.out (own_ty HY6.out k (by simpa using hk)).1))
          have HP7 := hid' (HP2.out.keep hb7)
          have HB7 := hid' (below_from HB2.out hb7 HB2.out.size)
          clear hf hb7 HX6 HY6 HB6 HS6 HBA HXL HW1 HP2 HB2 HLN HRL
          go_wp2
          go_roundw
          case rel => exact ⟨i + 1, vN, uN, rN, ts2, by go_num, by omega, HP7, HB7⟩
          case measure => simp [intOf]; omega
        · obtain ⟨kk, hkk⟩ : ∃ kk, (Sd.row true ts).length = kk := ⟨_, rfl⟩
          have hk1 : 0 < kk := by omega
          obtain ⟨jj, hjj⟩ : ∃ jj : Nat, x % (kk : Int) = (jj : Int) := ⟨(x % (kk : Int)).toNat, by have := Int.emod_nonneg x (show (kk : Int) ≠ 0 by omega); omega⟩
          have hjl : jj < kk := by have := Int.emod_lt_of_pos x (show (0 : Int) < kk by omega); omega
          obtain ⟨y, hy⟩ : ∃ y, (Sd.row true ts)[jj]? = some y := ⟨_, List.getElem?_eq_getElem (by omega)⟩
          have HK := hid' hkk
          have HJ := hid' hjj
          have HY := hid' hy
          have hyy : (y == y) = true := beq_self_eq_true _
          clear hkk hjj hy hk0 hjl
          go_wp2_with fail
          refine (spick_some _ b _ _ ts x kk jj y _ HP.out.sm HK.out hk1 HJ.out HY.out).mono ?_
          rintro _ wp ⟨rfl, hwp⟩
          subst wp
          go_wp2_with fail
          refine (rpick_some _ bx _ ts x kk jj y _ HP.out.rm HK.out hk1 HJ.out HY.out).mono ?_
          rintro _ wA ⟨rfl, hb⟩
          obtain ⟨vN, uN, rN, ts2, hvv⟩ : ∃ vN uN rN ts2, (vN, uN, rN, ts2) = (v, u, r, ts) := ⟨_, _, _, _, rfl⟩
          simp only [Prod.mk.injEq] at hvv
          obtain ⟨e1, e2, e3, e4⟩ := hvv
          have HP2 : Hid (PP wA w.heap.size b bx vN uN rN ts2) := hid' (by rw [e1, e2, e3, e4]; exact HP.out.keep hb)
          have HB2 := hid' (below_from HB.out hb HB.out.size)
          clear hb HP HB x0 x1 e1 e2 e3 e4 HK HJ HY
          obtain ⟨l, hl⟩ : ∃ l, Sd.row true ts2 = l := ⟨_, rfl⟩
          obtain ⟨n, hn⟩ : ∃ n, l.length = n := ⟨_, rfl⟩
          have hn4 : n ≤ 4096 := by rw [← hn, ← hl]; exact HP2.out.sm.len true
          have HLN := hid' hn
          have HRL := hid' hl
          clear hl hn
          go_wp2_with fail
          refine (sready _ b _ _ ts2 n (by rw [HRL.out]; exact HLN.out) wA HP2.out.sm).mono ?_
          rintro _ w1 ⟨⟨xo, xc, rfl, hr⟩, hb⟩
          have HX1 := hid' hr
          have HB1 := hid' hb
          have HQ1 := hid' (HP2.out.keep hb)
          clear hr hb
          go_wp2_with fail
          refine (sready _ b _ _ ts2 n (by rw [HRL.out]; exact HLN.out) w1 HQ1.out.sm).mono ?_
          rintro _ w2 ⟨⟨yo, yc, rfl, hr⟩, hb⟩
          have HY2 := hid' hr
          have HX2 := hid' (own_same HX1.out (fun k hk => hb.block k (own_lt HX1.out k hk)))
          have HXL : Hid (∀ k, (Value.slice xo n xc).ownBlock = some k → k < w1.heap.size) := hid' (fun k hk => own_lt HX1.out k hk)
          have HW1 : Hid (wA.heap.size ≤ w1.heap.size) := hid' HB1.out.size
          have HB2' := hid' (below_two HB1.out hb)
          have HQ2 := hid' (HQ1.out.keep hb)
          clear hr hb HX1 HB1 HQ1
          go_wp2_with fail
          refine (rready _ bx _ ts2 w2 HQ2.out.rm).mono ?_
          rintro _ w3 ⟨⟨m3, zo, zc, rfl, hm3, hr⟩, hb⟩
          obtain rfl : m3 = n := by rw [← hm3, HRL.out]; exact HLN.out
          have HZ3 := hid' hr
          have HY3 := hid' (own_same HY2.out (fun k hk => hb.block k (own_lt HY2.out k hk)))
          have HX3 := hid' (own_same HX2.out (fun k hk => hb.block k (own_lt HX2.out k hk)))
          have HB3 := hid' (below_two HB2'.out hb)
          have HQ3 := hid' (HQ2.out.keep hb)
          clear hr hb hm3 HX2 HY2 HB2' HQ2
          rw [HRL.out] at HX3 HY3 HZ3
          go_wp2_with fail
          refine (qsame _ _ _ _ m3 l HLN.out w3 (RQ.of_own HX3.out) (RQ.of_own HZ3.out) (by omega)).mono ?_
          rintro _ w4 ⟨rfl, q4, hw4⟩
          have hb4 : Below w3.heap.size w3 w4 := by rw [hw4]; exact ⟨rfl, rfl, rfl, Nat.le_refl _, fun _ _ => rfl⟩
          have HX4 := hid' (own_same HX3.out (fun k hk => hb4.block k (own_lt HX3.out k hk)))
          have HY4 := hid' (own_same HY3.out (fun k hk => hb4.block k (own_lt HY3.out k hk)))
          have HB4 := hid' (below_two HB3.out hb4)
          have HQ4 := hid' (HQ3.out.keep hb4)
          clear hw4 hb4 HX3 HY3 HZ3 HB3 HQ3
          go_wp2_with fail
          refine (rready _ bx _ ts2 w4 HQ4.out.rm).mono ?_
          rintro _ w5 ⟨⟨m5, ko, kc, rfl, hm5, hr⟩, hb⟩
          obtain rfl : m5 = m3 := by rw [← hm5, HRL.out]; exact HLN.out
          have HZ5 := hid' hr
          have HY5 := hid' (own_same HY4.out (fun k hk => hb.block k (own_lt HY4.out k hk)))
          have HX5 := hid' (own_same HX4.out (fun k hk => hb.block k (own_lt HX4.out k hk)))
          have HB5 := hid' (below_two HB4.out hb)
          clear hr hb hm5 HX4 HY4 HB4 HQ4
          rw [HRL.out] at HZ5
          go_wp2_with fail
          refine (qsame _ _ _ _ m5 l HLN.out w5 (RQ.of_own HY5.out) (RQ.of_own HZ5.out) (by omega)).mono ?_
          rintro _ w6 ⟨rfl, q6, hw6⟩
          have hb6 : Below w5.heap.size w5 w6 := by rw [hw6]; exact ⟨rfl, rfl, rfl, Nat.le_refl _, fun _ _ => rfl⟩
          have HX6 := hid' (own_same HX5.out (fun k hk => hb6.block k (own_lt HX5.out k hk)))
          have HY6 := hid' (own_same HY5.out (fun k hk => hb6.block k (own_lt HY5.out k hk)))
          have HB6 := hid' (below_two HB5.out hb6)
          clear hw6 hb6 HX5 HY5 HZ5 HB5
          have HS6 := hid' (s1_of HX6.out HY6.out HXL.out HW1.out)
          have HBA : Hid (Below wA.heap.size wA (w6.alloc (.cells #[.slice xo m5 xc, .slice yo m5 yc] 36))) := hid' (HB6.out.alloc HB6.out.size _)
          go_wp2_with fail
          refine (apart_any wA.heap.size w6.heap.size m5 _ _ HS6.out hn4 HBA.out.size).mono ?_
          rintro _ w7 ⟨rfl, hf⟩
          have hb7 : Below wA.heap.size wA w7 := HBA.out.trans (hf.below HBA.out.size (fun k hk => by
            rcases hk with hk | hk
            · exact (own_ty HX6.out k (by simpa using hk)).1
            · exact Nat.le_trans HW1.out (own_ty HY6.out k (by simpa using hk)).1))
          have HP7 := hid' (HP2.out.keep hb7)
          have HB7 := hid' (below_from HB2.out hb7 HB2.out.size)
          clear hf hb7 HX6 HY6 HB6 HS6 HBA HXL HW1 HP2 HB2 HLN HRL
          go_wp2
          go_roundw
          case rel => exact ⟨i + 1, vN, uN, rN, ts2, by go_num, by omega, HP7, HB7⟩
          case measure => simp [intOf]; omega
      · have e0 : (q == 0) = false := beq_false_of_ne q0
        have e1 : (q == 1) = false := beq_false_of_ne q1
        have e2 : (q == 2) = false := beq_false_of_ne q2
        have e3 : (q == 3) = false := beq_false_of_ne q3
        have e4 : (q == 4) = false := beq_false_of_ne q4
        obtain ⟨vN, uN, rN, ts2, hvv⟩ : ∃ vN uN rN ts2, (vN, uN, rN, ts2) = (v, u, r, ts) := ⟨_, _, _, _, rfl⟩
        simp only [Prod.mk.injEq] at hvv
        obtain ⟨f1, f2, f3, f4⟩ := hvv
        obtain ⟨wA, hwA⟩ : ∃ wA, wA = wr := ⟨_, rfl⟩
        subst hwA
        have HP2 : Hid (PP wA w.heap.size b bx vN uN rN ts2) := hid' (by rw [f1, f2, f3, f4]; exact HP.out)
        have HB2 := hid' HB.out
        clear HP HB f1 f2 f3 f4
        obtain ⟨l, hl⟩ : ∃ l, Sd.row true ts2 = l := ⟨_, rfl⟩
        obtain ⟨n, hn⟩ : ∃ n, l.length = n := ⟨_, rfl⟩
        have hn4 : n ≤ 4096 := by rw [← hn, ← hl]; exact HP2.out.sm.len true
        have HLN := hid' hn
        have HRL := hid' hl
        clear hl hn
        go_wp2_with fail
        refine (sready _ b _ _ ts2 n (by rw [HRL.out]; exact HLN.out) wA HP2.out.sm).mono ?_
        rintro _ w1 ⟨⟨xo, xc, rfl, hr⟩, hb⟩
        have HX1 := hid' hr
        have HB1 := hid' hb
        have HQ1 := hid' (HP2.out.keep hb)
        clear hr hb
        go_wp2_with fail
        refine (sready _ b _ _ ts2 n (by rw [HRL.out]; exact HLN.out) w1 HQ1.out.sm).mono ?_
        rintro _ w2 ⟨⟨yo, yc, rfl, hr⟩, hb⟩
        have HY2 := hid' hr
        have HX2 := hid' (own_same HX1.out (fun k hk => hb.block k (own_lt HX1.out k hk)))
        have HXL : Hid (∀ k, (Value.slice xo n xc).ownBlock = some k → k < w1.heap.size) := hid' (fun k hk => own_lt HX1.out k hk)
        have HW1 : Hid (wA.heap.size ≤ w1.heap.size) := hid' HB1.out.size
        have HB2' := hid' (below_two HB1.out hb)
        have HQ2 := hid' (HQ1.out.keep hb)
        clear hr hb HX1 HB1 HQ1
        go_wp2_with fail
        refine (rready _ bx _ ts2 w2 HQ2.out.rm).mono ?_
        rintro _ w3 ⟨⟨m3, zo, zc, rfl, hm3, hr⟩, hb⟩
        obtain rfl : m3 = n := by rw [← hm3, HRL.out]; exact HLN.out
        have HZ3 := hid' hr
        have HY3 := hid' (own_same HY2.out (fun k hk => hb.block k (own_lt HY2.out k hk)))
        have HX3 := hid' (own_same HX2.out (fun k hk => hb.block k (own_lt HX2.out k hk)))
        have HB3 := hid' (below_two HB2'.out hb)
        have HQ3 := hid' (HQ2.out.keep hb)
        clear hr hb hm3 HX2 HY2 HB2' HQ2
        rw [HRL.out] at HX3 HY3 HZ3
        go_wp2_with fail
        refine (qsame _ _ _ _ m3 l HLN.out w3 (RQ.of_own HX3.out) (RQ.of_own HZ3.out) (by omega)).mono ?_
        rintro _ w4 ⟨rfl, q4, hw4⟩
        have hb4 : Below w3.heap.size w3 w4 := by rw [hw4]; exact ⟨rfl, rfl, rfl, Nat.le_refl _, fun _ _ => rfl⟩
        have HX4 := hid' (own_same HX3.out (fun k hk => hb4.block k (own_lt HX3.out k hk)))
        have HY4 := hid' (own_same HY3.out (fun k hk => hb4.block k (own_lt HY3.out k hk)))
        have HB4 := hid' (below_two HB3.out hb4)
        have HQ4 := hid' (HQ3.out.keep hb4)
        clear hw4 hb4 HX3 HY3 HZ3 HB3 HQ3
        go_wp2_with fail
        refine (rready _ bx _ ts2 w4 HQ4.out.rm).mono ?_
        rintro _ w5 ⟨⟨m5, ko, kc, rfl, hm5, hr⟩, hb⟩
        obtain rfl : m5 = m3 := by rw [← hm5, HRL.out]; exact HLN.out
        have HZ5 := hid' hr
        have HY5 := hid' (own_same HY4.out (fun k hk => hb.block k (own_lt HY4.out k hk)))
        have HX5 := hid' (own_same HX4.out (fun k hk => hb.block k (own_lt HX4.out k hk)))
        have HB5 := hid' (below_two HB4.out hb)
        clear hr hb hm5 HX4 HY4 HB4 HQ4
        rw [HRL.out] at HZ5
        go_wp2_with fail
        refine (qsame _ _ _ _ m5 l HLN.out w5 (RQ.of_own HY5.out) (RQ.of_own HZ5.out) (by omega)).mono ?_
        rintro _ w6 ⟨rfl, q6, hw6⟩
        have hb6 : Below w5.heap.size w5 w6 := by rw [hw6]; exact ⟨rfl, rfl, rfl, Nat.le_refl _, fun _ _ => rfl⟩
        have HX6 := hid' (own_same HX5.out (fun k hk => hb6.block k (own_lt HX5.out k hk)))
        have HY6 := hid' (own_same HY5.out (fun k hk => hb6.block k (own_lt HY5.out k hk)))
        have HB6 := hid' (below_two HB5.out hb6)
        clear hw6 hb6 HX5 HY5 HZ5 HB5
        have HS6 := hid' (s1_of HX6.out HY6.out HXL.out HW1.out)
        have HBA : Hid (Below wA.heap.size wA (w6.alloc (.cells #[.slice xo m5 xc, .slice yo m5 yc] 36))) := hid' (HB6.out.alloc HB6.out.size _)
        go_wp2_with fail
        refine (apart_any wA.heap.size w6.heap.size m5 _ _ HS6.out hn4 HBA.out.size).mono ?_
        rintro _ w7 ⟨rfl, hf⟩
        have hb7 : Below wA.heap.size wA w7 := HBA.out.trans (hf.below HBA.out.size (fun k hk => by
          rcases hk with hk | hk
          · exact (own_ty HX6.out k (by simpa using hk)).1
          · exact Nat.le_trans HW1.out (own_ty HY6.out k (by simpa using hk)).1))
        have HP7 := hid' (HP2.out.keep hb7)
        have HB7 := hid' (below_from HB2.out hb7 HB2.out.size)
        clear hf hb7 HX6 HY6 HB6 HS6 HBA HXL HW1 HP2 HB2 HLN HRL
        go_wp2
        go_roundw
        case rel => exact ⟨i + 1, vN, uN, rN, ts2, by go_num, by omega, HP7, HB7⟩
        case measure => simp [intOf]; omega
    · have hlt2 : ¬ (i : Int) < (N : Int) := by omega
      go_wp2_with fail
      refine (awake12 _).mono ?_
      rintro _ w9 ⟨rfl, hb9⟩
      have HB9 := hid' (below_from HB.out hb9 HB.out.size)
      clear hb9
      go_wp2
      go_ret
      exact ⟨rfl, HB9.out⟩

end Go.Proofs.Ytpgfnhfjkplmaaa
