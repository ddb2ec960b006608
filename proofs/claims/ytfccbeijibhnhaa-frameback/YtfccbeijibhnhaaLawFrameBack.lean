/-
  FrameBack, by its contract.
-/
import Derived.Test.YtfccbeijibhnhaaFrX
import Derived.Deep.RegionHeld3
namespace Go.Proofs.Ytfccbeijibhnhaa
open Go.RowKit

namespace Fm
theorem byt_small (n : Int) (h0 : 0 ≤ n) (h1 : n ≤ 255) : ((byt n).toNat : Int) = n := by rw [byt_cast]; omega
/-- What is written is read as the same, whatever stands behind. -/
theorem back (k fl st : Int) (l r : List UInt8) (hm : may k fl st = true) (hl : l.length ≤ 16777215) :
    ((((wr k fl st l ++ r).getD 3 0).toNat : Nat) : Int) = k ∧ ((((wr k fl st l ++ r).getD 4 0).toNat : Nat) : Int) = fl ∧ ((idn ((wr k fl st l ++ r).drop 5) : Nat) : Int) = st ∧ ((wr k fl st l ++ r).drop 9).take (num ((wr k fl st l ++ r).take 3)) = l := by
  have hmm := of_decide_eq_true hm
  rw [wr_num _ _ _ _ _ hl]
  have e : wr k fl st l ++ r = byt ((l.length : Int) / 65536) :: byt ((l.length : Int) / 256) :: byt (l.length : Int) :: byt k :: byt fl :: (enc 4 st ++ (l ++ r)) := by
    simp [wr, enc3]
  rw [e]
  refine ⟨byt_small k (by omega) (by omega), byt_small fl (by omega) (by omega), ?_, ?_⟩
  · show ((idn (enc 4 st ++ (l ++ r)) : Nat) : Int) = st
    unfold idn
    rw [List.take_left' (enc_length 4 st)]
    have := num_enc4 st
    omega
  · show ((enc 4 st ++ (l ++ r)).drop 4).take l.length = l
    rw [List.drop_left' (enc_length 4 st), List.take_left']
    rfl
theorem back_e (k fl st : Int) (l r : List UInt8) (most : Int) (hl : l.length ≤ 16777215) (hm : (l.length : Int) ≤ most) : nextE (wr k fl st l ++ r) most = 0 := by
  have h9 := wr_length k fl st l
  unfold nextE
  rw [wr_num _ _ _ _ _ hl, if_neg (by rw [List.length_append]; omega), if_neg (by omega), if_neg (by rw [List.length_append]; omega)]
theorem back_short (k fl st : Int) (l : List UInt8) (c : Nat) (hl : l.length ≤ 16777215) (hc : c < (wr k fl st l).length) : nextE ((wr k fl st l).take c) (l.length : Int) = 40 := by
  have h9 := wr_length k fl st l
  unfold nextE
  by_cases h3 : c < 3
  · rw [if_pos (by rw [List.length_take]; omega)]
  · have e : ((wr k fl st l).take c).take 3 = (wr k fl st l).take 3 := by rw [List.take_take, Nat.min_eq_left (by omega)]
    have hn := wr_num k fl st l [] hl
    rw [List.append_nil] at hn
    rw [if_neg (by rw [List.length_take]; omega), e, hn, if_neg (by omega), if_pos (by rw [List.length_take]; omega)]
theorem back_long (k fl st : Int) (l : List UInt8) (hl : l.length ≤ 16777215) : nextE (wr k fl st l) ((l.length : Int) - 1) = 3 := by
  have h9 := wr_length k fl st l
  have hn := wr_num k fl st l [] hl
  rw [List.append_nil] at hn
  unfold nextE
  rw [hn, if_neg (by omega), if_pos (by omega)]
end Fm
theorem back_nx (k fl st : Int) (l r : List UInt8) (hm : Fm.may k fl st = true) (hl : l.length ≤ 16777215) : nxC (Fm.wr k fl st l ++ r) = frC k fl st l := by
  obtain ⟨h1, h2, h3, h4⟩ := Fm.back k fl st l r hm hl
  unfold nxC
  rw [h1, h2, h3, h4]

set_option maxHeartbeats 8000000 in
set_option maxRecDepth 20000 in
theorem frameBack_bad (k fl st : Int) (l q : List UInt8) (cut r : Int) (hr : Fm.unw k fl st l.length = r) (h0 : r ≠ 0) (w : World) : Calls Try.prog 7 #[.agg (frC k fl st l), .string ⟨q.toArray⟩, .int .i64 cut] w fun e w' => e = .returned (.bool true) ∧ Below w.heap.size w w' := by
  have HW := hid' (fun w => cwrite_bad k fl st l r hr h0 w)
  have d0 : (r != 0) = true := bne_iff_ne.2 h0
  have d1 : (r == 0) = false := beq_false_of_ne h0
  have h35 : r = 5 ∨ (r = 3 ∧ 16777215 < l.length) := by
    unfold Fm.unw at hr
    split at hr
    · split at hr
      · right; exact ⟨hr.symm, by assumption⟩
      · exact absurd hr.symm h0
    · left; exact hr.symm
  clear hr h0
  rcases h35 with rfl | ⟨rfl, hl⟩
  · go_enter Try.func7, Try.ntmps7
    go_wp2_with (refine wpl_box 23 _ rfl rfl (frC k fl st l) (by kernel_rfl) ?_)
    intro b0 w0 hg0 ha0 hb0
    obtain ⟨c0, c1, c2, c3⟩ := frC_cells ha0
    have HB0 := hid' hb0
    clear ha0 hb0
    go_wp2_with fail
    refine (HW.out _).mono ?_
    rintro e w1 ⟨rfl, hb1⟩
    have HB1 := hid' (below_two HB0.out hb1)
    clear hb1
    go_wp2_with fail
    refine (awake7 _).mono ?_
    rintro e w2 ⟨rfl, hb2⟩
    have HB2 := hid' (below_two HB1.out hb2)
    clear hb2
    go_wp2
    go_ret
    exact ⟨rfl, HB2.out⟩
  · have d3 : decide ((16777215 : Int) < (l.length : Int)) = true := decide_eq_true (by omega)
    clear hl
    go_enter Try.func7, Try.ntmps7
    go_wp2_with (refine wpl_box 23 _ rfl rfl (frC k fl st l) (by kernel_rfl) ?_)
    intro b0 w0 hg0 ha0 hb0
    obtain ⟨c0, c1, c2, c3⟩ := frC_cells ha0
    have HA0 := hid' ha0
    have HB0 := hid' hb0
    clear ha0 hb0
    go_wp2_with fail
    refine (HW.out _).mono ?_
    rintro e w1 ⟨rfl, hb1⟩
    have HB1 := hid' (below_two HB0.out hb1)
    have HA1 := hid' (HA0.out.keep hb1)
    clear hb1
    go_wp2_with fail
    refine (awake7 _).mono ?_
    rintro e w2 ⟨rfl, hb2⟩
    have HB2 := hid' (below_two HB1.out hb2)
    obtain ⟨d0', d1', d2', d3'⟩ := frC_cells (HA1.out.keep hb2)
    clear hb2
    go_wp2
    go_ret
    exact ⟨rfl, HB2.out⟩

set_option maxHeartbeats 8000000 in
set_option maxRecDepth 20000 in
theorem frameBack_ok (k fl st : Int) (l q : List UInt8) (cut : Int) (hr : Fm.unw k fl st l.length = 0) (hq : q.length ≤ 140737488355328) (w : World) : Calls Try.prog 7 #[.agg (frC k fl st l), .string ⟨q.toArray⟩, .int .i64 cut] w fun e w' => e = .returned (.bool true) ∧ Below w.heap.size w w' := by
  have hm : Fm.may k fl st = true := by
    unfold Fm.unw at hr
    cases h : Fm.may k fl st with
    | true => rfl
    | false => rw [h] at hr; simp at hr
  have hl : l.length ≤ 16777215 := by
    unfold Fm.unw at hr
    rw [hm, if_pos rfl] at hr
    by_cases h : 16777215 < l.length
    · rw [if_pos h] at hr; cases hr
    · omega
  have HW := hid' (fun w => cwrite_ok k fl st l hr hl w)
  obtain ⟨s, hs⟩ : ∃ s, Fm.wr k fl st l = s := ⟨_, rfl⟩
  have hsl : s.length = 9 + l.length := by rw [← hs]; exact Fm.wr_length _ _ _ _
  have HX1 : Hid (∀ w : World, Calls Try.prog 9 #[.string ⟨(s ++ q).toArray⟩, .int .i64 (l.length : Int)] w fun e w' => e = .returned (.tuple #[.agg (frC k fl st l), .int .i64 (s.length : Int), .int .i64 0]) ∧ Below w.heap.size w w') := hid' (fun w => by
    have h := cnext_ok (s ++ q) (l.length : Int) l.length (by rw [← hs]; exact Fm.wr_num _ _ _ _ _ hl) (by rw [← hs]; exact Fm.back_e _ _ _ _ _ _ hl (Int.le_refl _)) (by rw [List.length_append]; omega) w
    rw [← hs, back_nx _ _ _ _ _ hm hl, hs] at h
    rw [hsl]
    exact_mod_cast h)
  obtain ⟨c, hc, hcl⟩ : ∃ c : Nat, min (max cut 0) ((s.length : Int) - 1) = (c : Int) ∧ c < s.length := ⟨(min (max cut 0) ((s.length : Int) - 1)).toNat, by omega, by omega⟩
  have HX2 : Hid (∀ w : World, Calls Try.prog 9 #[.string ⟨(s.take c).toArray⟩, .int .i64 (l.length : Int)] w fun e w' => e = .returned (.tuple #[.agg #[.int .i64 0, .int .i64 0, .int .i64 0, .string ⟨#[]⟩], .int .i64 0, .int .i64 40]) ∧ Below w.heap.size w w') := hid' (fun w => cnext_bad (s.take c) (l.length : Int) 40 (by rw [← hs]; exact Fm.back_short _ _ _ _ _ hl (by rw [hs]; exact hcl)) (by decide) w)
  have HX3 : Hid (∀ w : World, Calls Try.prog 9 #[.string ⟨s.toArray⟩, .int .i64 ((l.length : Int) - 1)] w fun e w' => e = .returned (.tuple #[.agg (frC 0 0 0 []), .int .i64 0, .int .i64 3]) ∧ Below w.heap.size w w') := hid' (fun w => cnext_bad s ((l.length : Int) - 1) 3 (by rw [← hs]; exact Fm.back_long _ _ _ _ hl) (by decide) w)
  rw [hs] at HW
  have hcat := str_cat s q
  obtain ⟨t, ht⟩ : ∃ t, s ++ q = t := ⟨_, rfl⟩
  rw [ht] at hcat HX1
  have hcut := cut_ends s c
  obtain ⟨y, hy⟩ : ∃ y, s.take c = y := ⟨_, rfl⟩
  rw [hy] at hcut HX2
  have hng := noGuardF
  have e1 : ∀ W, (binOp .neq 23 (.agg #[.int .i64 k, .int .i64 fl, .int .i64 st, .string ⟨l.toArray⟩]) (.agg #[.int .i64 k, .int .i64 fl, .int .i64 st, .string ⟨l.toArray⟩])).run Try.prog W = .ok (.bool false) W := fun W => by rw [neq_frame]; simp
  have d1 : ((s.length : Int) != 9 + (l.length : Int)) = false := by rw [hsl]; simp
  have d2 : ((s.length : Int) == 9 + (l.length : Int)) = true := by rw [hsl]; simp
  have hcli : (c : Int) ≤ (s.length : Int) := by omega
  have hsb : s.length ≤ 16777224 := by omega
  clear hr hm hs hsl ht hy hcl
  go_enter Try.func7, Try.ntmps7
  go_wp2_with (refine wpl_box 23 _ rfl rfl (frC k fl st l) (by kernel_rfl) ?_)
  intro b0 w0 hg0 ha0 hb0
  obtain ⟨c0, c1, c2, c3⟩ := frC_cells ha0
  have HA0 := hid' ha0
  have HB0 := hid' hb0
  clear ha0 hb0
  go_wp2_with fail
  refine (HW.out _).mono ?_
  rintro e w1 ⟨rfl, hb1⟩
  have HB1 := hid' (below_two HB0.out hb1)
  have HA1 := hid' (HA0.out.keep hb1)
  obtain ⟨c0', c1', c2', c3'⟩ := frC_cells HA1.out
  clear hb1 c0 c1 c2 c3
  go_wp2_with fail
  refine (HX1.out _).mono ?_
  rintro e w2 ⟨rfl, hb2⟩
  have HB2 := hid' (below_two HB1.out hb2)
  have HA2 := hid' (HA1.out.keep hb2)
  clear hb2 c0' c1' c2' c3'
  go_wp2_with (refine wpl_alloc 23 rfl rfl _ zeroFrame ?_)
  intro b3 w3 hg ha hb
  refine wpl_stf _ _ rfl rfl b3 k fl st l (by kernel_rfl) (by kernel_rfl) _ ha rfl ?_
  intro w4 ha4 hu
  have hb4 := hb.trans (hu.below hg)
  have HB4 := hid' (below_two HB2.out hb4)
  have HA4 := hid' (HA2.out.keep hb4)
  obtain ⟨c0, c1, c2, c3⟩ := frC_cells HA4.out
  obtain ⟨x0, x1, x2, x3⟩ := frC_cells ha4
  clear hg ha hb hu ha4 hb4
  go_upto_region 7 with fail
  have hwr : IntKind.i64.wrap ((s.length : Int) - 1) = (s.length : Int) - 1 := by rw [IntKind.wrap_i64]; omega
  have hAL : Ar (w4.alloc (.cells #[.int .i64 0, .int .i64 0, .int .i64 0, .string ⟨#[]⟩] 23)) b0 23 (frC k fl st l) := HA4.out.keep ((Below.refl _ _).alloc (Nat.le_refl _) _)
  have HAL := hid' hAL
  obtain ⟨v0, v1, v2, v3⟩ := frC_cells hAL
  have hlt0 : b0 ≠ w4.heap.size := by have := HA4.out.lt; omega
  have hlt1 : w4.heap.size ≠ b0 := Ne.symm hlt0
  have HLT := hid' hlt0
  clear hAL
  go_region_with (go_at_call 9; refine (HX2.out _).mono ?_; rintro e w5 ⟨rfl, hb5⟩; (first | (have HA5 : Hid (Ar w5 b0 23 (frC k fl st l)) := hid' (Ar.keep (Ar.drew HA4.out) hb5); have HB5 : Hid (Below w4.heap.size w4 w5) := hid' (below_two ((Below.refl _ _).drew) hb5); clear hb5) | (have HA5 : Hid (Ar w5 b0 23 (frC k fl st l)) := hid' (Ar.keep (Ar.drew HAL.out) hb5); have HB5 : Hid (Below w4.heap.size w4 w5) := hid' (below_two (((Below.refl _ _).alloc (Nat.le_refl _) _).drew) hb5); have hN := Ar.keep (Ar.drew (heap_alloc_last w4 _)) hb5; have z0 := hN.cell 0 _ rfl; have z1 := hN.cell 1 _ rfl; have z2 := hN.cell 2 _ rfl; have z3 := hN.cell 3 _ rfl; have f0 := hN.free 0; have f1 := hN.free 1; have f2 := hN.free 2; have f3 := hN.free 3; have HN := hid' hN; clear hN hb5)))
  all_goals go_upto_region 8 with fail
  all_goals
    first
    | (have hUN := st4 HN.out (.int .i64 0) (.int .i64 0) (.int .i64 0) (.string ⟨#[]⟩)
       have HA6 := hid' (hUN.2.keep HA5.out HLT.out)
       have HB6 := hid' (HB4.out.trans ((HB5.out.mono HB4.out.size).trans (hUN.2.below HB4.out.size)))
       clear hUN z0 z1 z2 z3 f0 f1 f2 f3
       generalize (((w5.setCell ⟨w4.heap.size, 0, none⟩ (.int .i64 0)).setCell ⟨w4.heap.size, 1, none⟩ (.int .i64 0)).setCell ⟨w4.heap.size, 2, none⟩ (.int .i64 0)).setCell ⟨w4.heap.size, 3, none⟩ (.string ⟨#[]⟩) = w6 at *)
    | (have hBA : Below w5.heap.size w5 (w5.alloc (.cells #[.int .i64 0, .int .i64 0, .int .i64 0, .string ⟨#[]⟩] 23)) := (Below.refl _ _).alloc (Nat.le_refl _) _
       have HA6 := hid' (HA5.out.keep hBA)
       have HB6 := hid' (HB4.out.trans ((below_two HB5.out hBA).mono HB4.out.size))
       clear hBA
       generalize w5.alloc (.cells #[.int .i64 0, .int .i64 0, .int .i64 0, .string ⟨#[]⟩] 23) = w6 at *)
    obtain ⟨u0, u1, u2, u3⟩ := frC_cells HA6.out
    clear c0 c1 c2 c3 x0 x1 x2 x3 v0 v1 v2 v3 hlt0 hlt1
    go_wp2_with fail
    refine (HX3.out _).mono ?_
    rintro e w7 ⟨rfl, hb7⟩
    have HB7 := hid' (below_two HB6.out hb7)
    clear hb7 u0 u1 u2 u3
    go_wp2_with (refine wpl_alloc 23 rfl rfl _ zeroFrame ?_)
    intro b8 w8 hg ha hb
    refine wpl_stf _ _ rfl rfl b8 0 0 0 [] (by kernel_rfl) (by kernel_rfl) _ ha rfl ?_
    intro w9 ha9 hu
    have HB9 := hid' (below_two HB7.out (hb.trans (hu.below hg)))
    clear hg ha hb hu ha9
    go_wp2_with fail
    refine (awake7 _).mono ?_
    rintro e w10 ⟨rfl, hb10⟩
    have HB10 := hid' (below_two HB9.out hb10)
    clear hb10
    go_wp2
    go_ret
    exact ⟨rfl, HB10.out⟩

theorem frameBack_l (k fl st : Int) (l q : List UInt8) (cut : Int) (hq : q.length ≤ 140737488355328) (w : World) : Calls Try.prog 7 #[.agg (frC k fl st l), .string ⟨q.toArray⟩, .int .i64 cut] w fun e w' => e = .returned (.bool true) ∧ Below w.heap.size w w' := by
  by_cases h : Fm.unw k fl st l.length = 0
  · exact frameBack_ok k fl st l q cut h hq w
  · exact frameBack_bad k fl st l q cut _ rfl h w

end Go.Proofs.Ytfccbeijibhnhaa
