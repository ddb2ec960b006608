/-
  The laws' own Lent and Kept, SameInts: by their contracts.
-/
import Derived.Test.YtekpjbhhbklboaaDoorPrE
import Derived.Deep.QuietTactic
import Derived.Deep.CutRange
namespace Go.Proofs.YtekpjbhhbklboaaDoor
open Go.RowKit

section
variable {ops : Array Oper} {rest : List Oper} {o : Oper} {a : Act} {w : World} {Q : Exit → Act → World → Prop}
/-- make of no number, with room. -/
theorem mk0_int (x y : Operand) (ho : o.op = .makeSlice 32 x y) (hgd : o.guard = none) (base : Nat)
    (c : Nat) (hbytes : 8 * c ≤ 281474976710656) (hbase : base ≤ w.heap.size) (hx : a.eval x = .int .i64 0) (hy : a.eval y = .int .i64 (c : Int))
    (h : ∀ v w', w'.ownsRow base 3 1 v 0 [] → Below w.heap.size w w' → wpList Tryd.prog ops Q rest (a.put o.dst v) w') : wpList Tryd.prog ops Q (o :: rest) a w := by
  obtain ⟨i, hi, hz, hs, hb⟩ := info_parts infoI
  refine wpList_plain hgd fun _ hK => ?_
  obtain ⟨w', hr, h1, h2⟩ := run_make_own (P := Tryd.prog) w base 32 3 i _ 1 Tryd.underlying32 hi hz hs .i64 .i64 c (by rw [hb]; omega) (by unfold maxLen; omega) hbase
  unfold Oper.wp execOp
  simp only [ho, hx, hy, Sem.run_bind, Sem.run_pure, hr, Result.andThen_ok]
  exact hK _ _ (h _ _ h1 ((Below.refl w.heap.size w).grown h2 (Nat.le_refl _) (fun k hk => by cases hk)))
end
/-- The marks. -/
def mkC (i : Nat) : List Value := List.replicate i (.int .i64 (-7770777))
theorem nm_one (l : List Int) : ∀ u ∈ nmC l, u.oneCell' = true := by
  intro u hu
  simp only [nmC, List.mem_map] at hu
  obtain ⟨x, _, rfl⟩ := hu
  rfl

set_option maxHeartbeats 2000000 in
set_option maxRecDepth 20000 in
theorem lent_any (ao : Option Addr) (cap n : Nat) (l : List Int) (hn : l.length = n) (w : World) (h : RR w (.slice ao n cap) n (nmC l)) (hb : n ≤ 17592186044400) :
    Calls Tryd.prog 19 #[.slice ao n cap] w fun e w' => ∃ g c', e = .returned (.slice (some ⟨g, 0, none⟩) n c') ∧ w'.ownsRow w.heap.size 3 1 (.slice (some ⟨g, 0, none⟩) (n + 4) c') (n + 4) (nmC l ++ mkC 4) ∧ Below w.heap.size w w' := by
  obtain ⟨i0, hi, hz0, hz1, hz2⟩ := info_parts infoI
  have HI := hid' hi
  have HZ0 := hid' hz0
  have HZ1 := hid' hz1
  have HZ2 := hid' hz2
  have HN := hid' hn
  have H := hid' h
  have HNL : Hid ((nmC l).length = n * 1) := hid' (by rw [nmC_length, hn, Nat.mul_one])
  obtain ⟨m, hm⟩ : ∃ m, n + 4 = m := ⟨_, rfl⟩
  have hcm : (n : Int) + 4 = (m : Int) := by omega
  have HM := hid' hm
  clear hi hz0 hz1 hz2 hn h hm
  go_enter Tryd.func19, Tryd.ntmps19
  go_wp2_with (refine mk0_int _ _ rfl rfl w.heap.size m (by have := HM.out; omega) (Nat.le_refl _) (by kernel_rfl) (by kernel_rfl) ?_)
  intro v1 w1 hown1 hb1
  have HO1 := hid' hown1
  have HB1 := hid' hb1
  have HRR1 := hid' (H.out.keep hb1)
  clear hown1 hb1 hcm
  obtain ⟨v1o, v1c, hv1⟩ := own_shape HO1.out
  subst hv1
  go_upto_region 2 with fail
  go_cut [3] from 5 (fun s3 wx => Hid (wx.ownsRow w.heap.size 3 1 s3 n (nmC l) ∧ Below w.heap.size w wx))
  case first =>
    rcases HRR1.out with ⟨hv, h0⟩ | ⟨ad, cap', hv, hcc⟩
    · injection hv with e1 _ e3
      subst e1 e3 h0
      obtain rfl : l = [] := List.eq_nil_of_length_eq_zero HN.out
      rcases HO1.out.2 with ⟨hv, _⟩ | ⟨g, cp, cur, hv, _⟩
      all_goals
        injection hv with e1 e2 e3
        subst e1 e3
        go_wp2_with fail
        go_meet
        exact hid' ⟨HO1.out, HB1.out⟩
    · injection hv with e1 _ e3
      subst e1 e3
      have HCC := hid' hcc
      clear hcc
      go_wp2_with (at_builtin; refine wpList_append_own _ rfl _ _ 32 rfl w.heap.size 3 i0 (.int .i64 0) 1 8 Tryd.underlying32 HI.out HZ0.out HZ1.out HZ2.out rfl (by decide) _ 0 [] rfl HO1.out ad n cap (nmC l) rfl HNL.out (fun j u hj => (HCC.out j u hj).2) (nm_one l) (by unfold maxLen; omega) (by omega) HB1.out.size ?_; intro v2 w2 hown2 hgrow2 _; refine Hid.out ?_)
      refine hid' ?_
      rw [Nat.zero_add, List.nil_append] at hown2
      have HO2 := hid' hown2
      have HB2 : Hid (Below w.heap.size w w2) := hid' (HB1.out.grown hgrow2 HB1.out.size (fun k hk => (HO1.out.lt k hk).1))
      clear hown2 hgrow2
      go_wp2_with fail
      go_meet
      exact hid' ⟨HO2.out, HB2.out⟩
  case rest =>
    have HB2 := hid' hcut.out.2
    obtain ⟨v2o, v2c, hv2⟩ := own_shape hcut.out.1
    subst hv2
    have HO2 := hid' hcut.out.1
    clear hcut HO1 HB1 HRR1 H
    go_wp2
    go_loopw [3, 4] (fun s3 s4 wr => ∃ (i cp : Nat) (vo : Option Addr), s3 = .slice vo (n + i) cp ∧ s4 = .int .i64 (i : Int) ∧ i ≤ 4 ∧ Hid (wr.ownsRow w.heap.size 3 1 (.slice vo (n + i) cp) (n + i) (nmC l ++ mkC i) ∧ Below w.heap.size w wr)) (fun _ s4 _ => 4 - (intOf s4).toNat)
    case atStart => exact ⟨0, v2c, v2o, rfl, rfl, Nat.zero_le _, hid' ⟨by simpa [mkC] using HO2.out, HB2.out⟩⟩
    case round =>
      obtain ⟨i, cp, vo, rfl, rfl, hi4, HX⟩ := hrel
      by_cases hlt : i < 4
      · have hlt2 : (i : Int) < 4 := by omega
        have HSZ := hid' HX.out.2.size
        have HA : Hid ((wr.alloc (.cells #[.int .i64 (-7770777)] 3)).ownsRow w.heap.size 3 1 (.slice vo (n + i) cp) (n + i) (nmC l ++ mkC i)) := hid' (HX.out.1.alloc _)
        go_wp2_with (at_builtin; refine wpList_append_own _ rfl _ _ 32 rfl w.heap.size 3 i0 (.int .i64 0) 1 8 Tryd.underlying32 HI.out HZ0.out HZ1.out HZ2.out rfl (by decide) _ (n + i) (nmC l ++ mkC i) rfl HA.out ⟨wr.heap.size, 0, none⟩ 1 1 [.int .i64 (-7770777)] rfl rfl (cell_one_new _ _ _) (by simp [Value.oneCell']) (by unfold maxLen; omega) (by omega) (by simp; have := HSZ.out; omega) ?_; intro v3 w3 hown3 hgrow3 _; refine Hid.out ?_)
        refine hid' ?_
        have e : nmC l ++ mkC i ++ [Value.int .i64 (-7770777)] = nmC l ++ mkC (i + 1) := by
          rw [List.append_assoc]; unfold mkC; rw [List.replicate_succ']
        rw [e, Nat.add_assoc] at hown3
        obtain ⟨v3o, v3c, hv3⟩ := own_shape hown3
        subst hv3
        have HO3 := hid' hown3
        have HB3 : Hid (Below w.heap.size w w3) := hid' ((HX.out.2.alloc HSZ.out _).grown hgrow3 (by simp; have := HSZ.out; omega) (fun k hk => (HA.out.lt k hk).1))
        clear hown3 hgrow3 e
        go_wp2
        go_roundw
        case rel => exact ⟨i + 1, v3c, v3o, rfl, by go_num, by omega, hid' ⟨HO3.out, HB3.out⟩⟩
        case measure => simp [intOf]; omega
      · obtain rfl : i = 4 := by omega
        obtain ⟨g, hg, hcp⟩ : ∃ g, vo = some ⟨g, 0, none⟩ ∧ n + 4 ≤ cp := by
          rcases HX.out.1.2 with ⟨_, h0⟩ | ⟨g, c3, cur, hv, _, _, hle, _⟩
          · omega
          · injection hv with e1 e2 e3
            exact ⟨g, e1, by omega⟩
        subst hg
        have h1 : n ≤ cp := by omega
        have h2 : (n : Int) ≤ (cp : Int) := by omega
        have h3 : ¬ cp = 0 := by omega
        have h4 : (cp == 0) = false := beq_false_of_ne h3
        have HCP := hid' hcp
        clear hcp hlt
        go_wp2
        go_ret
        exact ⟨g, cp, rfl, HX.out.1, HX.out.2⟩

set_option maxHeartbeats 2000000 in
set_option maxRecDepth 20000 in
theorem sameInts_any (ao bo : Option Addr) (ca cb n : Nat) (l : List Int) (hn : l.length = n) (w : World) (h1 : RR w (.slice ao n ca) n (nmC l)) (h2 : RR w (.slice bo n cb) n (nmC l)) (hb : n ≤ 17592186044400) :
    Calls Tryd.prog 36 #[.slice ao n ca, .slice bo n cb] w fun e w' => e = .returned (.bool true) ∧ ∃ m, w' = w.drewN m := by
  have H1 := hid' h1
  have H2 := hid' h2
  have HN := hid' hn
  have hee : ((n : Int) == (n : Int)) = true := beq_self_eq_true _
  clear h1 h2 hn
  go_enter Tryd.func36, Tryd.ntmps36
  go_wp2
  go_loopw [5] (fun s5 wr => ∃ i q : Nat, s5 = .int .i64 (i : Int) ∧ i ≤ n ∧ wr = w.drewN q) (fun s5 _ => n - (intOf s5).toNat)
  case atStart => exact ⟨0, 0, rfl, Nat.zero_le _, rfl⟩
  case round =>
    obtain ⟨i, q, rfl, hi, rfl⟩ := hrel
    by_cases hlt : i < n
    · have hlt2 : (i : Int) < (n : Int) := by omega
      obtain ⟨x, hx⟩ : ∃ x, l[i]? = some x := ⟨_, List.getElem?_eq_getElem (by rw [HN.out]; exact hlt)⟩
      obtain ⟨a, hao, hc1⟩ := H1.out.at (by omega) i _ (nm_at hx)
      obtain ⟨b, hbo, hc2⟩ := H2.out.at (by omega) i _ (nm_at hx)
      subst hao hbo
      have hxx : (x == x) = true := beq_self_eq_true _
      have HLT := hid' hlt
      clear hx hlt
      go_wp2
      go_quiet (fail)
      go_wp2
      go_roundw
      case rel => exact ⟨i + 1, _, by go_num, by have := HLT.out; omega, by first | rfl | simp⟩
      case measure => have := HLT.out; simp [intOf]; omega
    · have hlt2 : ¬ (i : Int) < (n : Int) := by omega
      clear hlt
      go_wp2
      go_ret
      exact ⟨rfl, _, rfl⟩

theorem mkC_at (l : List Int) (n i : Nat) (hn : l.length = n) (h1 : n ≤ i) (h2 : i < n + 4) : (nmC l ++ mkC 4)[i]? = some (.int .i64 (-7770777)) := by
  rw [List.getElem?_append_right (by rw [nmC_length, hn]; exact h1), nmC_length, hn]
  unfold mkC
  rw [List.getElem?_replicate, if_pos (by omega)]
theorem lent_rr {w : World} {B g n c : Nat} {l : List Int} (h : w.ownsRow B 3 1 (.slice (some ⟨g, 0, none⟩) (n + 4) c) (n + 4) (nmC l ++ mkC 4)) : RR w (.slice (some ⟨g, 0, none⟩) n c) n (nmC l) := by
  refine .inr ⟨_, _, rfl, fun j u hj => ?_⟩
  rcases RR.of_own h with ⟨_, h0⟩ | ⟨a, cp, hv, hc⟩
  · omega
  · injection hv with e1 _ _
    injection e1 with e1
    subst e1
    refine hc j u ?_
    rw [List.getElem?_append_left (List.getElem?_eq_some_iff.1 hj).1]
    exact hj

set_option maxHeartbeats 2000000 in
set_option maxRecDepth 20000 in
theorem kept_any (B g c n : Nat) (bo : Option Addr) (cb : Nat) (l : List Int) (hn : l.length = n) (w : World) (h1 : w.ownsRow B 3 1 (.slice (some ⟨g, 0, none⟩) (n + 4) c) (n + 4) (nmC l ++ mkC 4)) (h2 : RR w (.slice bo n cb) n (nmC l)) (hb : n ≤ 17592186044400) :
    Calls Tryd.prog 22 #[.slice (some ⟨g, 0, none⟩) n c, .slice bo n cb] w fun e w' => e = .returned (.bool true) ∧ ∃ m, w' = w.drewN m := by
  have hcp : n + 4 ≤ c := by
    rcases h1.2 with ⟨_, h0⟩ | ⟨g, c3, cur, hv, _, _, hle, _⟩
    · omega
    · injection hv with e1 e2 e3
      omega
  have H1 := hid' h1
  have H2 := hid' h2
  have HN := hid' hn
  obtain ⟨m, hm⟩ : ∃ m, n + 4 = m := ⟨_, rfl⟩
  have hcm : (n : Int) + 4 = (m : Int) := by omega
  have HM := hid' hm
  have k1 : m ≤ c := by omega
  have k2 : (m : Int) ≤ (c : Int) := by omega
  have k3 : (0 : Int) ≤ (m : Int) := by omega
  have k4 : ¬ c = 0 := by omega
  have k5 : (c == 0) = false := beq_false_of_ne k4
  have k6 : n ≤ m := by omega
  have k7 : m ≤ 17592186044404 := by omega
  clear h1 h2 hn hm hcp
  go_enter Tryd.func22, Tryd.ntmps22
  go_wp2_with fail
  refine (sameInts_any _ _ _ _ n l HN.out _ (lent_rr H1.out) H2.out (by omega)).mono ?_
  rintro e w1 ⟨rfl, q1, hw1⟩
  have HW1 := hid' hw1
  clear hw1
  go_wp2
  go_loopw [6] (fun s6 wr => ∃ i : Nat, s6 = .int .i64 (i : Int) ∧ n ≤ i ∧ i ≤ m ∧ wr = w1) (fun s6 _ => m - (intOf s6).toNat)
  case atStart => exact ⟨n, rfl, Nat.le_refl _, k6, rfl⟩
  case round =>
    obtain ⟨i, rfl, hni, him, hwr⟩ := hrel
    subst wr
    by_cases hlt : i < m
    · have hlt2 : (i : Int) < (m : Int) := by omega
      have hc : w1.cell? ⟨g, i, none⟩ = some (.int .i64 (-7770777)) := by
        have e := H1.out.cells (g := g) rfl i _ (mkC_at l n i HN.out hni (by have := HM.out; omega))
        rw [Addr.add_mid, Nat.zero_add] at e
        rw [HW1.out]
        exact e
      clear hcm
      go_wp2
      go_roundw
      case rel => exact ⟨i + 1, by go_num, by omega, by omega, by first | rfl | trivial⟩
      case measure => simp [intOf]; omega
    · have hlt2 : ¬ (i : Int) < (m : Int) := by omega
      go_wp2
      go_ret
      exact ⟨rfl, _, HW1.out⟩

end Go.Proofs.YtekpjbhhbklboaaDoor
