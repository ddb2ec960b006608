/-
  The document's Next: by its contract.
-/
import Derived.Test.YtekpjbhhbklboaaDoorPrE
import Derived.Test.YtekpjbhhbklboaaDoorPrR
import Derived.Deep.CutRange
namespace Go.Proofs.YtekpjbhhbklboaaDoor
open Go.RowKit

theorem LM.drewN {w : World} {B b : Nat} {l : Pr.Ln} {v u : Value} (h : LM w B b l v u) (q : Nat) : LM (w.drewN q) B b l v u := ⟨h.lo, h.hd, h.is, h.hw, h.ok⟩
theorem LF.drewN {S : Nat → Prop} {w w' : World} (h : LF S w w') (q : Nat) : LF S w (w'.drewN q) := ⟨h.os, h.tape, h.output, h.size, h.block⟩
theorem RR.drewN {w : World} {v : Value} {n : Nat} {xs : List Value} (h : RR w v n xs) (q : Nat) : RR (w.drewN q) v n xs := h
theorem lnC_setw {v u : Value} {was : List Bool} {last : List Int} (i : Nat) (x : Bool) (hi : i < was.length) : (lnC v u was last).setIfInBounds (2 + i) (.bool x) = lnC v u (was.set i x) last := by
  simp only [lnC, List.setIfInBounds_toArray]
  congr 1
  rw [show 2 + i = i + 1 + 1 by omega, List.set_cons_succ, List.set_cons_succ, List.set_append_left _ _ (by simpa using hi), List.map_set]
theorem lnC_setl {v u : Value} {was : List Bool} {last : List Int} (i : Nat) (x : Int) (hw : was.length = 8) : (lnC v u was last).setIfInBounds (10 + i) (.int .i64 x) = lnC v u was (last.set i x) := by
  simp only [lnC, List.setIfInBounds_toArray]
  congr 1
  rw [show 10 + i = (8 + i) + 1 + 1 by omega, List.set_cons_succ, List.set_cons_succ, List.set_append_right _ _ (by simp [hw]), nmC, nmC, List.map_set]
  simp [hw]
/-- A line's rows where somebody waits. -/
theorem LM.rows {w : World} {B b : Nat} {l : Pr.Ln} {v u : Value} (h : LM w B b l v u) {id : Int} {k : Nat} (hp : Pr.pl l.ids id = some k) : ∃ gv vc gu uc, v = .slice (some ⟨gv, 0, none⟩) l.ids.length vc ∧ u = .slice (some ⟨gu, 0, none⟩) l.ids.length uc := by
  have hl := Pr.pl_lt hp
  rcases h.is.2 with ⟨_, h0⟩ | ⟨g, c, cur, h1, _⟩
  · omega
  rcases h.hw.2 with ⟨_, h0⟩ | ⟨g', c', cur', h1', _⟩
  · omega
  exact ⟨g, c, g', c', h1, h1'⟩

set_option maxHeartbeats 8000000 in
set_option maxRecDepth 20000 in
theorem rnext_any (B b : Nat) (l : Pr.Ln) (v u cv : Value) (can : List Int) (w : World) (h : LM w B b l v u) (hc : RR w cv can.length (nmC can)) (hn : l.ids.length ≤ 8796093022000) (hcn : can.length ≤ 140737488355328) :
    Calls Tryd.prog 21 #[.pointer (some ⟨b, 0, none⟩), cv] w fun e w' => e = .returned (.int .i64 (Pr.next l can).1) ∧ LM w' B b (Pr.next l can).2 v u ∧ LF (fun k => k = b) w w' := by
  obtain ⟨co, cc, hcv⟩ := hc.shape
  subst hcv
  obtain ⟨N, hN⟩ : ∃ N, can.length = N := ⟨_, rfl⟩
  have HN := hid' hN
  rw [hN] at hc hcn ⊢
  have HC := hid' hc
  have H := hid' h
  have HLE : Hid (l.ids.length ≤ 8796093022208) := hid' (by omega)
  obtain ⟨n, hnn⟩ : ∃ n, l.ids.length = n := ⟨_, rfl⟩
  have HNN := hid' hnn
  rw [hnn] at hn
  obtain ⟨U, hU⟩ : ∃ U, Pr.urg l can 8 = U := ⟨_, rfl⟩
  have HU := hid' hU
  have hU8 : U ≤ 8 := by rw [← hU]; exact Pr.urg_le l can 8
  have HS0 : Hid (Pr.urg l (can.drop 0) 8 = U) := hid' hU
  clear h hc hN hnn hU
  go_enter Tryd.func21, Tryd.ntmps21
  go_wp2
  go_loopw [5, 6, 7] (fun s5 s6 _ wr => ∃ (i m : Nat), s6 = .int .i64 (i : Int) ∧ s5 = .int .i64 (m : Int) ∧ i ≤ N ∧ m ≤ 8 ∧ Hid (Pr.urg l (can.drop i) m = U) ∧ wr = w) (fun _ s6 _ _ => N - (intOf s6).toNat)
  case atStart => exact ⟨0, 8, rfl, rfl, Nat.zero_le _, by omega, HS0, rfl⟩
  case round =>
    clear HS0
    obtain ⟨i, m, rfl, rfl, hi, hm, HX, hwr⟩ := hrel
    subst wr
    by_cases hlt : i < N
    · have hlt2 : (i : Int) < (N : Int) := by omega
      obtain ⟨c, hci⟩ : ∃ c, can[i]? = some c := ⟨_, List.getElem?_eq_getElem (by rw [HN.out]; exact hlt)⟩
      obtain ⟨a, hao, x0⟩ := HC.out.at (by omega) i _ (nm_at hci)
      subst hao
      have HI := hid' (Pr.urg_at (l := l) hci m)
      clear hci
      cases hp : Pr.pl l.ids c with
      | none =>
        have HP : Hid (Calls Tryd.prog 34 #[.pointer (some ⟨b, 0, none⟩), .int .i64 c] w fun e w' => e = .returned (.int .i64 (-1)) ∧ w' = w) := hid' (rplace_any B b l v u c (-1) (by unfold Pr.plI; rw [hp]) w H.out HLE.out)
        have HX2 : Hid (Pr.urg l (can.drop (i + 1)) m = U) := hid' (by have := HI.out; rw [Pr.wt_none hp] at this; rw [← this]; exact HX.out)
        clear hp HI HX
        go_wp2_with fail
        refine HP.out.mono ?_
        rintro e w1 ⟨rfl, hw1⟩
        subst w1
        go_wp2
        go_roundw
        case rel => exact ⟨i + 1, m, by go_num, rfl, by omega, hm, HX2, trivial⟩
        case measure => simp [intOf]; omega
      | some k =>
        have HP : Hid (Calls Tryd.prog 34 #[.pointer (some ⟨b, 0, none⟩), .int .i64 c] w fun e w' => e = .returned (.int .i64 (k : Int)) ∧ w' = w) := hid' (rplace_any B b l v u c (k : Int) (by unfold Pr.plI; rw [hp]) w H.out HLE.out)
        obtain ⟨gv, vc, gu, uc, hv, hu⟩ := H.out.rows hp
        obtain ⟨y, p, hwt, hhow, hy7⟩ := Pr.wt_at H.out.ok hp
        have hkn : k < n := by have := Pr.pl_lt hp; rw [HNN.out] at this; exact this
        have hkn2 : (k : Int) < (n : Int) := by omega
        have HX2 : Hid (Pr.urg l (can.drop (i + 1)) (min m y) = U) := hid' (by have := HI.out; rw [hwt] at this; rw [← this]; exact HX.out)
        have c1 : w.cell? ⟨b, 1, none⟩ = some (.slice (some ⟨gu, 0, none⟩) n uc) := by
          have := H.out.hd.cell 1 _ (lnC1 _ _ _ _)
          rw [hu, HNN.out] at this
          exact this
        have d0 : w.cell? ⟨gu, k * 2, none⟩ = some (.int .i64 (y : Int)) := by
          have := H.out.hw
          rw [hu] at this
          exact own_cell this _ _ (hw_at _ _ _ hhow).1
        clear hp HI HX hv hu hwt hhow
        go_wp2_with fail
        refine HP.out.mono ?_
        rintro e w1 ⟨rfl, hw1⟩
        subst w1
        rcases Nat.lt_trichotomy y m with h1 | h1 | h1
        · have h1i : (y : Int) < (m : Int) := by omega
          have e1 : min m y = y := by omega
          rw [e1] at HX2
          clear e1
          go_wp2
          go_roundw
          case rel => exact ⟨i + 1, y, by go_num, rfl, by omega, by omega, HX2, trivial⟩
          case measure => simp [intOf]; omega
        · subst h1
          have e1 : min y y = y := by omega
          rw [e1] at HX2
          clear e1
          go_wp2
          go_roundw
          case rel => exact ⟨i + 1, y, by go_num, rfl, by omega, by omega, HX2, trivial⟩
          case measure => simp [intOf]; omega
        · have h1i : (m : Int) < (y : Int) := by omega
          have e1 : min m y = m := by omega
          rw [e1] at HX2
          clear e1
          go_wp2
          go_roundw
          case rel => exact ⟨i + 1, m, by go_num, rfl, by omega, by omega, HX2, trivial⟩
          case measure => simp [intOf]; omega
    · have hlt2 : ¬ (i : Int) < (N : Int) := by omega
      obtain rfl : m = U := by
        have := HX.out
        rw [List.drop_eq_nil_of_le (by rw [HN.out]; omega)] at this
        exact this
      clear HX
      by_cases h8 : m = 8
      · subst h8
        have HNX : Hid (Pr.next l can = (-1, l)) := hid' (by unfold Pr.next; rw [if_pos HU.out])
        go_wp2
        go_ret
        rw [HNX.out]
        exact ⟨rfl, H.out, LF.refl _ _⟩
      · have t8 : ((m : Int) == 8) = false := by simp; omega
        have hm7 : m ≤ 7 := by omega
        obtain ⟨wa, hwa⟩ : ∃ x, l.was[m]? = some x := ⟨_, List.getElem?_eq_getElem (by rw [H.out.ok.w8]; omega)⟩
        obtain ⟨la, hla⟩ : ∃ x, l.last[m]? = some x := ⟨_, List.getElem?_eq_getElem (by rw [H.out.ok.l8]; omega)⟩
        obtain ⟨R, hR⟩ : ∃ R, can.foldl (Pr.look l m wa la) ⟨none, none, none⟩ = R := ⟨_, rfl⟩
        have HR := hid' hR
        have HWA := hid' hwa
        have HLA := hid' hla
        have HST : Hid (Pr.SOk l ⟨none, none, none⟩ ∧ (can.drop 0).foldl (Pr.look l m wa la) ⟨none, none, none⟩ = R) := hid' ⟨⟨fun _ h => (by cases h), fun _ h => (by cases h), fun _ h => (by cases h)⟩, hR⟩
        have HI0 : Hid (LM w B b l v u ∧ RR w (.slice co N cc) N (nmC can) ∧ LF (fun k => k = b) w w) := hid' ⟨H.out, HC.out, LF.refl _ _⟩
        clear hwa hla hR
        go_wp2
        clear hlt hlt2 hi
        go_loopw [8, 9, 10, 11, 12] (fun s8 s9 s10 s11 _ wr => ∃ (i : Nat) (s : Pr.St), s11 = .int .i64 (i : Int) ∧ s8 = .int .i64 (Pr.plc l s.whole) ∧ s9 = .int .i64 (Pr.plc l s.least) ∧ s10 = .int .i64 (Pr.plc l s.behind) ∧ i ≤ N ∧ Hid (Pr.SOk l s ∧ (can.drop i).foldl (Pr.look l m wa la) s = R) ∧ Hid (LM wr B b l v u ∧ RR wr (.slice co N cc) N (nmC can) ∧ LF (fun k => k = b) w wr)) (fun _ _ _ s11 _ _ => N - (intOf s11).toNat)
        case atStart => exact ⟨0, ⟨none, none, none⟩, rfl, rfl, rfl, rfl, Nat.zero_le _, HST, HI0⟩
        case round =>
          clear HST HI0
          obtain ⟨i, ⟨ow, ot, ob⟩, rfl, rfl, rfl, rfl, hi, HS, HV⟩ := hrel
          simp only at *
          by_cases hlt : i < N
          · have hlt2 : (i : Int) < (N : Int) := by omega
            obtain ⟨c, hci⟩ : ∃ c, can[i]? = some c := ⟨_, List.getElem?_eq_getElem (by rw [HN.out]; exact hlt)⟩
            obtain ⟨a, hao, x0⟩ := HV.out.2.1.at (by omega) i _ (nm_at hci)
            subst hao
            have HS1 : Hid (Pr.SOk l (Pr.look l m wa la ⟨ow, ot, ob⟩ c) ∧ (can.drop (i + 1)).foldl (Pr.look l m wa la) (Pr.look l m wa la ⟨ow, ot, ob⟩ c) = R) := hid' ⟨Pr.look_ok HS.out.1 c, by rw [← Pr.fold_at hci]; exact HS.out.2⟩
            obtain ⟨zw, hzw⟩ : ∃ z, Pr.plc l ow = z := ⟨_, rfl⟩
            obtain ⟨zt, hzt⟩ : ∃ z, Pr.plc l ot = z := ⟨_, rfl⟩
            obtain ⟨zb, hzb⟩ : ∃ z, Pr.plc l ob = z := ⟨_, rfl⟩
            rw [hzw, hzt, hzb]
            have HZW := hid' hzw
            have HZT := hid' hzt
            have HZB := hid' hzb
            clear hci hzw hzt hzb
            cases hp : Pr.pl l.ids c with
            | none =>
              have HP : Hid (Calls Tryd.prog 34 #[.pointer (some ⟨b, 0, none⟩), .int .i64 c] wr fun e w' => e = .returned (.int .i64 (-1)) ∧ w' = wr) := hid' (rplace_any B b l v u c (-1) (by unfold Pr.plI; rw [hp]) wr HV.out.1 HLE.out)
              have HS2 : Hid (Pr.SOk l ⟨ow, ot, ob⟩ ∧ (can.drop (i + 1)).foldl (Pr.look l m wa la) ⟨ow, ot, ob⟩ = R) := hid' (by have := HS1.out; rw [Pr.look_none (Pr.wt_none hp)] at this; exact this)
              clear hp HS1
              go_wp2_with fail
              refine HP.out.mono ?_
              rintro e w1 ⟨rfl, hw1⟩
              subst w1
              go_wp2
              go_roundw
              case rel => exact ⟨i + 1, ⟨ow, ot, ob⟩, by go_num, by simp only [HZW.out], by simp only [HZT.out], by simp only [HZB.out], by omega, HS2, HV⟩
              case measure => simp [intOf]; omega
            | some k =>
              have HP : Hid (Calls Tryd.prog 34 #[.pointer (some ⟨b, 0, none⟩), .int .i64 c] wr fun e w' => e = .returned (.int .i64 (k : Int)) ∧ w' = wr) := hid' (rplace_any B b l v u c (k : Int) (by unfold Pr.plI; rw [hp]) wr HV.out.1 HLE.out)
              obtain ⟨gv, vc, gu, uc, hv, hu⟩ := H.out.rows hp
              obtain ⟨y, p, hwt, hhow, hy7⟩ := Pr.wt_at H.out.ok hp
              have hkn : k < n := by have := Pr.pl_lt hp; rw [HNN.out] at this; exact this
              have hkn2 : (k : Int) < (n : Int) := by omega
              have hk0 : (0 : Int) ≤ (k : Int) := by omega
              have HPK : Hid (Pr.plI l.ids c = (k : Int)) := hid' (by unfold Pr.plI; rw [hp])
              have HROW : Hid (∀ (z : Int) (j : Nat), Pr.pl l.ids z = some j → wr.cell? ⟨gv, j, none⟩ = some (.int .i64 z)) := hid' (fun z j hz => by
                have := HV.out.1.is
                rw [hv] at this
                exact own_cell this _ _ (nm_at (Pr.pl_at hz)))
              have c0 : wr.cell? ⟨b, 0, none⟩ = some (.slice (some ⟨gv, 0, none⟩) n vc) := by
                have := HV.out.1.hd.cell 0 _ (lnC0 _ _ _ _)
                rw [hv, HNN.out] at this
                exact this
              have c1 : wr.cell? ⟨b, 1, none⟩ = some (.slice (some ⟨gu, 0, none⟩) n uc) := by
                have := HV.out.1.hd.cell 1 _ (lnC1 _ _ _ _)
                rw [hu, HNN.out] at this
                exact this
              have d0 : wr.cell? ⟨gu, k * 2, none⟩ = some (.int .i64 (y : Int)) := by
                have := HV.out.1.hw
                rw [hu] at this
                exact own_cell this _ _ (hw_at _ _ _ hhow).1
              have d1 : wr.cell? ⟨gu, k * 2 + 1, none⟩ = some (.bool p) := by
                have := HV.out.1.hw
                rw [hu] at this
                exact own_cell this _ _ (hw_at _ _ _ hhow).2
              have ck := HROW.out c k hp
              have kw := HV.out.1.hd.cell (2 + m) _ (lnCw HWA.out)
              have kl := HV.out.1.hd.cell (10 + m) _ (lnCl H.out.ok.w8 HLA.out)
              have HWT := hid' hwt
              clear hp hv hu hhow hwt
              go_wp2_with fail
              refine HP.out.mono ?_
              rintro e w1 ⟨rfl, hw1⟩
              subst w1
              by_cases hym : y = m
              · subst hym
                have hyy : ((y : Int) == (y : Int)) = true := by simp
                cases p with
                | false =>
                  have HS2 : Hid (Pr.SOk l ⟨Pr.low ow c, ot, ob⟩ ∧ (can.drop (i + 1)).foldl (Pr.look l y wa la) ⟨Pr.low ow c, ot, ob⟩ = R) := hid' (by have := HS1.out; rw [Pr.look_whole HWT.out] at this; exact this)
                  clear HS1
                  cases ow with
                  | none =>
                    obtain rfl : -1 = zw := HZW.out
                    go_wp2
                    go_big_quiet (fail)
                    go_wp2
                    go_roundw
                    case rel => exact ⟨i + 1, ⟨Pr.low none c, ot, ob⟩, by go_num, by simp only [Pr.low_none, Pr.plc_some, HPK.out], by simp only [HZT.out], by simp only [HZB.out], by omega, HS2, hid' ⟨HV.out.1.drewN _, HV.out.2.1.drewN _, HV.out.2.2.drewN _⟩⟩
                    case measure => simp [intOf]; omega
                  | some z =>
                    obtain ⟨j, hj⟩ := HS.out.1.w z rfl
                    obtain rfl : (j : Int) = zw := by rw [← HZW.out, Pr.plc_some, Pr.plI_some hj]
                    have cj := HROW.out z j hj
                    have hjn : (j : Int) < (n : Int) := by have := Pr.pl_lt hj; rw [HNN.out] at this; omega
                    have hj0 : decide ((j : Int) < 0) = false := decide_eq_false (by omega)
                    have hj1 : (0 : Int) ≤ (j : Int) := by omega
                    clear hj
                    by_cases hcz : c < z
                    · have HLW : Hid (Pr.low (some z) c = some c) := hid' (Pr.low_lt hcz)
                      go_wp2
                      go_big_quiet (fail)
                      go_wp2
                      go_roundw
                      case rel => exact ⟨i + 1, ⟨Pr.low (some z) c, ot, ob⟩, by go_num, by simp only [HLW.out, Pr.plc_some, HPK.out], by simp only [HZT.out], by simp only [HZB.out], by omega, HS2, hid' ⟨HV.out.1.drewN _, HV.out.2.1.drewN _, HV.out.2.2.drewN _⟩⟩
                      case measure => simp [intOf]; omega
                    · have HLW : Hid (Pr.low (some z) c = some z) := hid' (Pr.low_ge hcz)
                      have hcz2 : decide (c < z) = false := decide_eq_false hcz
                      go_wp2
                      go_big_quiet (fail)
                      go_wp2
                      go_roundw
                      case rel => exact ⟨i + 1, ⟨Pr.low (some z) c, ot, ob⟩, by go_num, by simp only [HLW.out, HZW.out], by simp only [HZT.out], by simp only [HZB.out], by omega, HS2, hid' ⟨HV.out.1.drewN _, HV.out.2.1.drewN _, HV.out.2.2.drewN _⟩⟩
                      case measure => simp [intOf]; omega
                | true =>
                  obtain ⟨zt', hzt'⟩ : ∃ z, Pr.plc l (Pr.low ot c) = z := ⟨_, rfl⟩
                  have HZT' := hid' hzt'
                  clear hzt'
                  go_upto_region 21 with fail
                  go_cut [112] from 39 to 157 (fun s112 wx => (∃ t : Nat, s112 = .bool (decide (t = 1)) ∧ zt' = (if t = 1 then (k : Int) else zt)) ∧ ∃ nq, wx = wr.drewN nq)
                  case first =>
                    cases ot with
                    | none =>
                      obtain rfl : -1 = zt := HZT.out
                      have HE : Hid ((k : Int) = zt') := hid' (by rw [← HZT'.out, Pr.low_none, Pr.plc_some, HPK.out])
                      go_big_quiet (fail)
                      go_wp2_with fail
                      go_meet
                      exact ⟨⟨1, rfl, by rw [if_pos rfl]; exact HE.out.symm⟩, _, rfl⟩
                    | some z =>
                      obtain ⟨j, hj⟩ := HS.out.1.t z rfl
                      obtain rfl : (j : Int) = zt := by rw [← HZT.out, Pr.plc_some, Pr.plI_some hj]
                      have cj := HROW.out z j hj
                      have hjn : (j : Int) < (n : Int) := by have := Pr.pl_lt hj; rw [HNN.out] at this; omega
                      have hj0 : decide ((j : Int) < 0) = false := decide_eq_false (by omega)
                      have hj1 : (0 : Int) ≤ (j : Int) := by omega
                      clear hj
                      by_cases hcz : c < z
                      · have HE : Hid ((k : Int) = zt') := hid' (by rw [← HZT'.out, Pr.low_lt hcz, Pr.plc_some, HPK.out])
                        go_big_quiet (fail)
                        go_wp2_with fail
                        go_meet
                        exact ⟨⟨1, rfl, by rw [if_pos rfl]; exact HE.out.symm⟩, _, rfl⟩
                      · have HE : Hid ((j : Int) = zt') := hid' (by rw [← HZT'.out, Pr.low_ge hcz, HZT.out])
                        have hcz2 : decide (c < z) = false := decide_eq_false hcz
                        go_big_quiet (fail)
                        go_wp2_with fail
                        go_meet
                        exact ⟨⟨0, rfl, by rw [if_neg (by decide)]; exact HE.out.symm⟩, _, rfl⟩
                  case rest =>
                    obtain ⟨⟨t, rfl, ht⟩, nq, hwc⟩ := hcut
                    subst wc
                    by_cases t1 : t = 1
                    · subst t1
                      obtain rfl : zt' = (k : Int) := by rw [ht, if_pos rfl]
                      clear ht
                      go_upto_region 23 with fail
                      cases wa with
                      | false =>
                        have HS2 : Hid (Pr.SOk l ⟨ow, Pr.low ot c, ob⟩ ∧ (can.drop (i + 1)).foldl (Pr.look l y false la) ⟨ow, Pr.low ot c, ob⟩ = R) := hid' (by have := HS1.out; rw [Pr.look_parts HWT.out, if_neg (by simp)] at this; exact this)
                        go_big_quiet (fail)
                        go_wp2
                        go_roundw
                        case rel => exact ⟨i + 1, ⟨ow, Pr.low ot c, ob⟩, by go_num, by simp only [HZW.out], by simp only [HZT'.out], by simp only [HZB.out], by omega, HS2, hid' ⟨HV.out.1.drewN _, HV.out.2.1.drewN _, HV.out.2.2.drewN _⟩⟩
                        case measure => simp [intOf]; omega
                      | true =>
                        by_cases hlc : la < c
                        · have hlc2 : decide (la < c) = true := decide_eq_true hlc
                          have HS2 : Hid (Pr.SOk l ⟨ow, Pr.low ot c, Pr.low ob c⟩ ∧ (can.drop (i + 1)).foldl (Pr.look l y true la) ⟨ow, Pr.low ot c, Pr.low ob c⟩ = R) := hid' (by have := HS1.out; rw [Pr.look_parts HWT.out, if_pos ⟨rfl, hlc⟩] at this; exact this)
                          cases ob with
                          | none =>
                            obtain rfl : -1 = zb := HZB.out
                            go_big_quiet (fail)
                            go_wp2
                            go_roundw
                            case rel => exact ⟨i + 1, ⟨ow, Pr.low ot c, Pr.low none c⟩, by go_num, by simp only [HZW.out], by simp only [HZT'.out], by simp only [Pr.low_none, Pr.plc_some, HPK.out], by omega, HS2, hid' ⟨HV.out.1.drewN _, HV.out.2.1.drewN _, HV.out.2.2.drewN _⟩⟩
                            case measure => simp [intOf]; omega
                          | some zz =>
                            obtain ⟨jb, hjb⟩ := HS.out.1.b zz rfl
                            obtain rfl : (jb : Int) = zb := by rw [← HZB.out, Pr.plc_some, Pr.plI_some hjb]
                            have cjb := HROW.out zz jb hjb
                            have hjbn : (jb : Int) < (n : Int) := by have := Pr.pl_lt hjb; rw [HNN.out] at this; omega
                            have hjb0 : decide ((jb : Int) < 0) = false := decide_eq_false (by omega)
                            have hjb1 : (0 : Int) ≤ (jb : Int) := by omega
                            clear hjb
                            by_cases hcb : c < zz
                            · have HLB : Hid (Pr.low (some zz) c = some c) := hid' (Pr.low_lt hcb)
                              go_big_quiet (fail)
                              go_wp2
                              go_roundw
                              case rel => exact ⟨i + 1, ⟨ow, Pr.low ot c, Pr.low (some zz) c⟩, by go_num, by simp only [HZW.out], by simp only [HZT'.out], by simp only [HLB.out, Pr.plc_some, HPK.out], by omega, HS2, hid' ⟨HV.out.1.drewN _, HV.out.2.1.drewN _, HV.out.2.2.drewN _⟩⟩
                              case measure => simp [intOf]; omega
                            · have HLB : Hid (Pr.low (some zz) c = some zz) := hid' (Pr.low_ge hcb)
                              have hcb2 : decide (c < zz) = false := decide_eq_false hcb
                              go_big_quiet (fail)
                              go_wp2
                              go_roundw
                              case rel => exact ⟨i + 1, ⟨ow, Pr.low ot c, Pr.low (some zz) c⟩, by go_num, by simp only [HZW.out], by simp only [HZT'.out], by simp only [HLB.out, HZB.out], by omega, HS2, hid' ⟨HV.out.1.drewN _, HV.out.2.1.drewN _, HV.out.2.2.drewN _⟩⟩
                              case measure => simp [intOf]; omega
                        · have hlc2 : decide (la < c) = false := decide_eq_false hlc
                          have HS2 : Hid (Pr.SOk l ⟨ow, Pr.low ot c, ob⟩ ∧ (can.drop (i + 1)).foldl (Pr.look l y true la) ⟨ow, Pr.low ot c, ob⟩ = R) := hid' (by have := HS1.out; rw [Pr.look_parts HWT.out, if_neg (fun h => hlc h.2)] at this; exact this)
                          go_big_quiet (fail)
                          go_wp2
                          go_roundw
                          case rel => exact ⟨i + 1, ⟨ow, Pr.low ot c, ob⟩, by go_num, by simp only [HZW.out], by simp only [HZT'.out], by simp only [HZB.out], by omega, HS2, hid' ⟨HV.out.1.drewN _, HV.out.2.1.drewN _, HV.out.2.2.drewN _⟩⟩
                          case measure => simp [intOf]; omega
                    · have t2 : decide (t = 1) = false := decide_eq_false t1
                      obtain rfl : zt' = zt := by rw [ht, if_neg t1]
                      clear ht
                      go_upto_region 23 with fail
                      cases wa with
                      | false =>
                        have HS2 : Hid (Pr.SOk l ⟨ow, Pr.low ot c, ob⟩ ∧ (can.drop (i + 1)).foldl (Pr.look l y false la) ⟨ow, Pr.low ot c, ob⟩ = R) := hid' (by have := HS1.out; rw [Pr.look_parts HWT.out, if_neg (by simp)] at this; exact this)
                        go_big_quiet (fail)
                        go_wp2
                        go_roundw
                        case rel => exact ⟨i + 1, ⟨ow, Pr.low ot c, ob⟩, by go_num, by simp only [HZW.out], by simp only [HZT'.out], by simp only [HZB.out], by omega, HS2, hid' ⟨HV.out.1.drewN _, HV.out.2.1.drewN _, HV.out.2.2.drewN _⟩⟩
                        case measure => simp [intOf]; omega
                      | true =>
                        by_cases hlc : la < c
                        · have hlc2 : decide (la < c) = true := decide_eq_true hlc
                          have HS2 : Hid (Pr.SOk l ⟨ow, Pr.low ot c, Pr.low ob c⟩ ∧ (can.drop (i + 1)).foldl (Pr.look l y true la) ⟨ow, Pr.low ot c, Pr.low ob c⟩ = R) := hid' (by have := HS1.out; rw [Pr.look_parts HWT.out, if_pos ⟨rfl, hlc⟩] at this; exact this)
                          cases ob with
                          | none =>
                            obtain rfl : -1 = zb := HZB.out
                            go_big_quiet (fail)
                            go_wp2
                            go_roundw
                            case rel => exact ⟨i + 1, ⟨ow, Pr.low ot c, Pr.low none c⟩, by go_num, by simp only [HZW.out], by simp only [HZT'.out], by simp only [Pr.low_none, Pr.plc_some, HPK.out], by omega, HS2, hid' ⟨HV.out.1.drewN _, HV.out.2.1.drewN _, HV.out.2.2.drewN _⟩⟩
                            case measure => simp [intOf]; omega
                          | some zz =>
                            obtain ⟨jb, hjb⟩ := HS.out.1.b zz rfl
                            obtain rfl : (jb : Int) = zb := by rw [← HZB.out, Pr.plc_some, Pr.plI_some hjb]
                            have cjb := HROW.out zz jb hjb
                            have hjbn : (jb : Int) < (n : Int) := by have := Pr.pl_lt hjb; rw [HNN.out] at this; omega
                            have hjb0 : decide ((jb : Int) < 0) = false := decide_eq_false (by omega)
                            have hjb1 : (0 : Int) ≤ (jb : Int) := by omega
                            clear hjb
                            by_cases hcb : c < zz
                            · have HLB : Hid (Pr.low (some zz) c = some c) := hid' (Pr.low_lt hcb)
                              go_big_quiet (fail)
                              go_wp2
                              go_roundw
                              case rel => exact ⟨i + 1, ⟨ow, Pr.low ot c, Pr.low (some zz) c⟩, by go_num, by simp only [HZW.out], by simp only [HZT'.out], by simp only [HLB.out, Pr.plc_some, HPK.out], by omega, HS2, hid' ⟨HV.out.1.drewN _, HV.out.2.1.drewN _, HV.out.2.2.drewN _⟩⟩
                              case measure => simp [intOf]; omega
                            · have HLB : Hid (Pr.low (some zz) c = some zz) := hid' (Pr.low_ge hcb)
                              have hcb2 : decide (c < zz) = false := decide_eq_false hcb
                              go_big_quiet (fail)
                              go_wp2
                              go_roundw
                              case rel => exact ⟨i + 1, ⟨ow, Pr.low ot c, Pr.low (some zz) c⟩, by go_num, by simp only [HZW.out], by simp only [HZT'.out], by simp only [HLB.out, HZB.out], by omega, HS2, hid' ⟨HV.out.1.drewN _, HV.out.2.1.drewN _, HV.out.2.2.drewN _⟩⟩
                              case measure => simp [intOf]; omega
                        · have hlc2 : decide (la < c) = false := decide_eq_false hlc
                          have HS2 : Hid (Pr.SOk l ⟨ow, Pr.low ot c, ob⟩ ∧ (can.drop (i + 1)).foldl (Pr.look l y true la) ⟨ow, Pr.low ot c, ob⟩ = R) := hid' (by have := HS1.out; rw [Pr.look_parts HWT.out, if_neg (fun h => hlc h.2)] at this; exact this)
                          go_big_quiet (fail)
                          go_wp2
                          go_roundw
                          case rel => exact ⟨i + 1, ⟨ow, Pr.low ot c, ob⟩, by go_num, by simp only [HZW.out], by simp only [HZT'.out], by simp only [HZB.out], by omega, HS2, hid' ⟨HV.out.1.drewN _, HV.out.2.1.drewN _, HV.out.2.2.drewN _⟩⟩
                          case measure => simp [intOf]; omega
              · have hym2 : ((y : Int) == (m : Int)) = false := by simp; omega
                have hym3 : ((y : Int) = (m : Int)) = False := eq_false (by omega)
                have hym4 : (y = m) = False := eq_false hym
                have hym5 : ((y : Int) != (m : Int)) = true := by simp; omega
                have hym6 : decide (y = m) = false := decide_eq_false hym
                have HS2 : Hid (Pr.SOk l ⟨ow, ot, ob⟩ ∧ (can.drop (i + 1)).foldl (Pr.look l m wa la) ⟨ow, ot, ob⟩ = R) := hid' (by have := HS1.out; rw [Pr.look_other HWT.out hym] at this; exact this)
                clear HS1
                go_wp2
                go_roundw
                case rel => exact ⟨i + 1, ⟨ow, ot, ob⟩, by go_num, by simp only [HZW.out], by simp only [HZT.out], by simp only [HZB.out], by omega, HS2, HV⟩
                case measure => simp [intOf]; omega
          · have hlt2 : ¬ (i : Int) < (N : Int) := by omega
            have HRS : Hid ((⟨ow, ot, ob⟩ : Pr.St) = R) := hid' (by have := HS.out.2; rw [List.drop_eq_nil_of_le (by rw [HN.out]; omega)] at this; exact this)
            cases ow with
            | some z =>
              obtain ⟨j, hj⟩ := HS.out.1.w z rfl
              obtain ⟨gv, vc, gu, uc, hv, hu⟩ := H.out.rows hj
              have cj : wr.cell? ⟨gv, j, none⟩ = some (.int .i64 z) := by
                have := HV.out.1.is
                rw [hv] at this
                exact own_cell this _ _ (nm_at (Pr.pl_at hj))
              have c0 : wr.cell? ⟨b, 0, none⟩ = some (.slice (some ⟨gv, 0, none⟩) n vc) := by
                have := HV.out.1.hd.cell 0 _ (lnC0 _ _ _ _)
                rw [hv, HNN.out] at this
                exact this
              have hjn : (j : Int) < (n : Int) := by have := Pr.pl_lt hj; rw [HNN.out] at this; omega
              have hj1 : (0 : Int) ≤ (j : Int) := by omega
              have HNB : Hid (gv ≠ b) := hid' (by have := HV.out.1.is; rw [hv] at this; exact own_apart this HV.out.1.hd (by decide) gv rfl)
              rw [Pr.plc_some, Pr.plI_some hj]
              have HNX := hid' (Pr.next_whole HU.out h8 HWA.out HLA.out (HR.out.trans HRS.out.symm))
              clear hj hv hu
              go_wp2
              go_ret
              rw [HNX.out]
              exact ⟨rfl, HV.out.1, HV.out.2.2⟩
            | none =>
              obtain ⟨z0, hz0⟩ := Pr.next_has HU.out h8 (HR.out.trans HRS.out.symm)
              subst hz0
              cases ob with
              | some z =>
                obtain ⟨j, hj⟩ := HS.out.1.b z rfl
                obtain ⟨gv, vc, gu, uc, hv, hu⟩ := H.out.rows hj
                have cj : wr.cell? ⟨gv, j, none⟩ = some (.int .i64 z) := by
                  have := HV.out.1.is
                  rw [hv] at this
                  exact own_cell this _ _ (nm_at (Pr.pl_at hj))
                have c0 : wr.cell? ⟨b, 0, none⟩ = some (.slice (some ⟨gv, 0, none⟩) n vc) := by
                  have := HV.out.1.hd.cell 0 _ (lnC0 _ _ _ _)
                  rw [hv, HNN.out] at this
                  exact this
                have hjn : (j : Int) < (n : Int) := by have := Pr.pl_lt hj; rw [HNN.out] at this; omega
                have hj1 : (0 : Int) ≤ (j : Int) := by omega
                have HNB : Hid (gv ≠ b) := hid' (by have := HV.out.1.is; rw [hv] at this; exact own_apart this HV.out.1.hd (by decide) gv rfl)
                have HNX := hid' (Pr.next_parts HU.out h8 HWA.out HLA.out (HR.out.trans HRS.out.symm) (.inl rfl))
                rw [Pr.plc_none, Pr.plc_some, Pr.plc_some, Pr.plI_some hj]
                have hj0 : decide ((j : Int) < 0) = false := decide_eq_false (by omega)
                have kw := HV.out.1.hd.cell (2 + m) _ (lnCw HWA.out)
                have kf := HV.out.1.hd.free (2 + m)
                have hmi : (m : Int) < 8 := by omega
                go_upto_region 30 with fail
                have hU1 := upd_setCell wr b (2 + m) (.bool true)
                have HD1 : Hid (Ar (wr.setCell ⟨b, 2 + m, none⟩ (.bool true)) b 37 (lnC v u (l.was.set m true) l.last)) := hid' (by have := HV.out.1.hd.set (2 + m) (.bool true); rw [lnC_setw m true (by rw [H.out.ok.w8]; omega)] at this; exact this)
                have HI1 := hid' (own_same HV.out.1.is (fun q hq => hU1.block q (own_apart HV.out.1.is HV.out.1.hd (by decide) q hq)))
                have HW1 := hid' (own_same HV.out.1.hw (fun q hq => hU1.block q (own_apart HV.out.1.hw HV.out.1.hd (by decide) q hq)))
                have HX1 := hid' (HV.out.2.2.trans (LF.of_upd (S := fun k => k = b) hU1 rfl) (fun _ _ h => h))
                obtain ⟨W1, hW1⟩ : ∃ W1, wr.setCell ⟨b, 2 + m, none⟩ (.bool true) = W1 := ⟨_, rfl⟩
                have CJ : Hid (W1.cell? ⟨gv, j, none⟩ = some (.int .i64 z)) := hid' (by have := HI1.out; rw [hv, hW1] at this; exact own_cell this _ _ (nm_at (Pr.pl_at hj)))
                rw [hW1] at HD1 HI1 HW1 HX1
                try rw [hW1]
                have C0 : Hid (W1.cell? ⟨b, 0, none⟩ = some (.slice (some ⟨gv, 0, none⟩) n vc)) := hid' (by have := HD1.out.cell 0 _ (lnC0 _ _ _ _); rw [hv, HNN.out] at this; exact this)
                have HJ := hid' hj
                have HVV := hid' hv
                clear hU1 hW1 c0 cj kw kf hj hv hu
                refine wp_region_held_drew (S := fun W => W.cell? ⟨b, 0, none⟩ = some (.slice (some ⟨gv, 0, none⟩) n vc) ∧ W.cell? ⟨gv, j, none⟩ = some (.int .i64 z)) (by kernel_rfl) ⟨C0.out, CJ.out⟩ (fun hHeld => ?_)
                refine take_d (i := 0) (d := some 175) (v := ?_) rfl rfl (by kernel_rfl) (by kernel_rfl) (by kernel_rfl) (fun _ _ _ h => h) (Or.inl ⟨by rfl, ?_⟩) (by assumption) ?_
                rotate_left
                · intro w hSw
                  (try dsimp only at hSw)
                  go_simp
                  try with_reducible rfl
                simp only [Act.put, List.setIfInBounds_toArray, List.set_cons_zero, List.set_cons_succ]
                refine take_d (i := 1) (d := some 176) (v := ?_) rfl rfl (by kernel_rfl) (by kernel_rfl) (by kernel_rfl) (fun _ _ _ h => h) (Or.inl ⟨by rfl, ?_⟩) (by assumption) ?_
                rotate_left
                · intro w hSw
                  (try dsimp only at hSw)
                  go_simp
                  try with_reducible rfl
                simp only [Act.put, List.setIfInBounds_toArray, List.set_cons_zero, List.set_cons_succ]
                refine take_d (i := 2) (d := some 177) (v := ?_) rfl rfl (by kernel_rfl) (by kernel_rfl) (by kernel_rfl) (fun _ _ _ h => h) (Or.inl ⟨by rfl, ?_⟩) (by assumption) ?_
                rotate_left
                · intro w hSw
                  (try dsimp only at hSw)
                  go_simp
                  try with_reducible rfl
                simp only [Act.put, List.setIfInBounds_toArray, List.set_cons_zero, List.set_cons_succ]
                refine take_d (i := 3) (d := some 178) (v := ?_) rfl rfl (by kernel_rfl) (by kernel_rfl) (by kernel_rfl) (fun _ _ _ h => h) (Or.inl ⟨by rfl, ?_⟩) (by assumption) ?_
                rotate_left
                · intro w hSw
                  (try dsimp only at hSw)
                  go_simp
                  try with_reducible rfl
                simp only [Act.put, List.setIfInBounds_toArray, List.set_cons_zero, List.set_cons_succ]
                refine take_d (i := 4) (d := some 179) (v := ?_) rfl rfl (by kernel_rfl) (by kernel_rfl) (by kernel_rfl) (fun _ _ _ h => h) (Or.inl ⟨by rfl, ?_⟩) (by assumption) ?_
                rotate_left
                · intro w hSw
                  (try dsimp only at hSw)
                  go_simp
                  try with_reducible rfl
                simp only [Act.put, List.setIfInBounds_toArray, List.set_cons_zero, List.set_cons_succ]
                refine take_d (i := 5) (d := some 180) (v := ?_) rfl rfl (by kernel_rfl) (by kernel_rfl) (by kernel_rfl) (fun _ _ _ h => h) (Or.inl ⟨by rfl, ?_⟩) (by assumption) ?_
                rotate_left
                · intro w hSw
                  (try dsimp only at hSw)
                  go_simp
                  try with_reducible rfl
                simp only [Act.put, List.setIfInBounds_toArray, List.set_cons_zero, List.set_cons_succ]
                refine take_d (i := 6) (d := some 181) (v := ?_) rfl rfl (by kernel_rfl) (by kernel_rfl) (by kernel_rfl) (fun _ _ _ h => h) (Or.inl ⟨by rfl, ?_⟩) (by assumption) ?_
                rotate_left
                · intro w hSw
                  (try dsimp only at hSw)
                  go_simp
                  try with_reducible rfl
                simp only [Act.put, List.setIfInBounds_toArray, List.set_cons_zero, List.set_cons_succ]
                refine take_d (i := 7) (d := some 182) (v := ?_) rfl rfl (by kernel_rfl) (by kernel_rfl) (by kernel_rfl) (fun _ _ _ h => h) (Or.inl ⟨by rfl, ?_⟩) (by assumption) ?_
                rotate_left
                · intro w hSw
                  (try dsimp only at hSw)
                  go_simp
                  try with_reducible rfl
                simp only [Act.put, List.setIfInBounds_toArray, List.set_cons_zero, List.set_cons_succ]
                refine take_d (i := 8) (d := some 183) (v := ?_) rfl rfl (by kernel_rfl) (by kernel_rfl) (by kernel_rfl) (fun _ _ _ h => h) (Or.inl ⟨by rfl, ?_⟩) (by assumption) ?_
                rotate_left
                · intro w hSw
                  (try dsimp only at hSw)
                  go_simp
                  try with_reducible rfl
                simp only [Act.put, List.setIfInBounds_toArray, List.set_cons_zero, List.set_cons_succ]
                refine take_d (i := 9) (d := some 184) (v := ?_) rfl rfl (by kernel_rfl) (by kernel_rfl) (by kernel_rfl) (fun _ _ _ h => h) (Or.inl ⟨by rfl, ?_⟩) (by assumption) ?_
                rotate_left
                · intro w hSw
                  (try dsimp only at hSw)
                  go_simp
                  try with_reducible rfl
                simp only [Act.put, List.setIfInBounds_toArray, List.set_cons_zero, List.set_cons_succ]
                refine take_d (i := 10) (d := some 185) (v := ?_) rfl rfl (by kernel_rfl) (by kernel_rfl) (by kernel_rfl) (fun _ _ _ h => h) (Or.inl ⟨by rfl, ?_⟩) (by assumption) ?_
                rotate_left
                · intro w hSw
                  (try dsimp only at hSw)
                  go_simp
                  try with_reducible rfl
                simp only [Act.put, List.setIfInBounds_toArray, List.set_cons_zero, List.set_cons_succ]
                refine take_d (i := 11) (d := some 186) (v := ?_) rfl rfl (by kernel_rfl) (by kernel_rfl) (by kernel_rfl) (fun _ _ _ h => h) (Or.inl ⟨by rfl, ?_⟩) (by assumption) ?_
                rotate_left
                · intro w hSw
                  (try dsimp only at hSw)
                  go_simp
                  try with_reducible rfl
                simp only [Act.put, List.setIfInBounds_toArray, List.set_cons_zero, List.set_cons_succ]
                refine wpAnyH_ready (rs := [12]) (by kernel_rfl) (by simp) ?_
                refine AllReadyH.cons rfl (fun K hK => ?_) AllReadyH.nil
                have kl := HD1.out.cell (10 + m) _ (lnCl (by rw [List.length_set]; exact H.out.ok.w8) HLA.out)
                have kf := HD1.out.free (10 + m)
                go_simp
                have hU2 : Upd b W1 (W1.setCell ⟨b, 10 + m, none⟩ (.int .i64 z)).drew := (upd_setCell W1 b (10 + m) (.int .i64 z)).drew
                have HD2 : Hid (Ar (W1.setCell ⟨b, 10 + m, none⟩ (.int .i64 z)).drew b 37 (lnC v u (l.was.set m true) (l.last.set m z))) := hid' (by have := HD1.out.set (10 + m) (.int .i64 z); rw [lnC_setl m z (by rw [List.length_set]; exact H.out.ok.w8)] at this; exact this)
                have HI2 := hid' (own_same HI1.out (fun q hq => hU2.block q (own_apart HI1.out HD1.out (by decide) q hq)))
                have HW2 := hid' (own_same HW1.out (fun q hq => hU2.block q (own_apart HW1.out HD1.out (by decide) q hq)))
                have HX2 := hid' (HX1.out.trans (LF.of_upd (S := fun k => k = b) hU2 rfl) (fun _ _ h => h))
                obtain ⟨W2, hW2⟩ : ∃ W2, (W1.setCell ⟨b, 10 + m, none⟩ (.int .i64 z)).drew = W2 := ⟨_, rfl⟩
                rw [hW2] at HD2 HI2 HW2 HX2 ⊢
                have c0z : W2.cell? ⟨b, 0, none⟩ = some (.slice (some ⟨gv, 0, none⟩) n vc) := by have := HD2.out.cell 0 _ (lnC0 _ _ _ _); rw [HVV.out, HNN.out] at this; exact this
                have cjz : W2.cell? ⟨gv, j, none⟩ = some (.int .i64 z) := by have := HI2.out; rw [HVV.out] at this; exact own_cell this _ _ (nm_at (Pr.pl_at HJ.out))
                refine hK.out _ _ ⟨c0z, cjz⟩ (fun hHeld => ?_)
                clear hK K hU2 hW2 kl kf hHeld
                try simp only [Act.put, List.setIfInBounds_toArray, List.set_cons_zero, List.set_cons_succ]
                refine wpAnyH_done (by kernel_rfl) ?_ _
                go_wp2
                go_ret
                rw [HNX.out]
                exact ⟨rfl, ⟨H.out.lo, HD2.out, HI2.out, HW2.out, ⟨H.out.ok.hl, H.out.ok.nd, H.out.ok.u7, by rw [List.length_set]; exact H.out.ok.w8, by rw [List.length_set]; exact H.out.ok.l8⟩⟩, HX2.out⟩
              | none =>
                obtain ⟨z, rfl⟩ : ∃ z, z = z0 := ⟨_, rfl⟩
                obtain ⟨j, hj⟩ := HS.out.1.t z rfl
                obtain ⟨gv, vc, gu, uc, hv, hu⟩ := H.out.rows hj
                have cj : wr.cell? ⟨gv, j, none⟩ = some (.int .i64 z) := by
                  have := HV.out.1.is
                  rw [hv] at this
                  exact own_cell this _ _ (nm_at (Pr.pl_at hj))
                have c0 : wr.cell? ⟨b, 0, none⟩ = some (.slice (some ⟨gv, 0, none⟩) n vc) := by
                  have := HV.out.1.hd.cell 0 _ (lnC0 _ _ _ _)
                  rw [hv, HNN.out] at this
                  exact this
                have hjn : (j : Int) < (n : Int) := by have := Pr.pl_lt hj; rw [HNN.out] at this; omega
                have hj1 : (0 : Int) ≤ (j : Int) := by omega
                have HNB : Hid (gv ≠ b) := hid' (by have := HV.out.1.is; rw [hv] at this; exact own_apart this HV.out.1.hd (by decide) gv rfl)
                have HNX := hid' (Pr.next_parts HU.out h8 HWA.out HLA.out (HR.out.trans HRS.out.symm) (.inr ⟨rfl, rfl⟩))
                rw [Pr.plc_none, Pr.plc_some, Pr.plI_some hj]
                have kw := HV.out.1.hd.cell (2 + m) _ (lnCw HWA.out)
                have kf := HV.out.1.hd.free (2 + m)
                have hmi : (m : Int) < 8 := by omega
                go_upto_region 30 with fail
                have hU1 := upd_setCell wr b (2 + m) (.bool true)
                have HD1 : Hid (Ar (wr.setCell ⟨b, 2 + m, none⟩ (.bool true)) b 37 (lnC v u (l.was.set m true) l.last)) := hid' (by have := HV.out.1.hd.set (2 + m) (.bool true); rw [lnC_setw m true (by rw [H.out.ok.w8]; omega)] at this; exact this)
                have HI1 := hid' (own_same HV.out.1.is (fun q hq => hU1.block q (own_apart HV.out.1.is HV.out.1.hd (by decide) q hq)))
                have HW1 := hid' (own_same HV.out.1.hw (fun q hq => hU1.block q (own_apart HV.out.1.hw HV.out.1.hd (by decide) q hq)))
                have HX1 := hid' (HV.out.2.2.trans (LF.of_upd (S := fun k => k = b) hU1 rfl) (fun _ _ h => h))
                obtain ⟨W1, hW1⟩ : ∃ W1, wr.setCell ⟨b, 2 + m, none⟩ (.bool true) = W1 := ⟨_, rfl⟩
                have CJ : Hid (W1.cell? ⟨gv, j, none⟩ = some (.int .i64 z)) := hid' (by have := HI1.out; rw [hv, hW1] at this; exact own_cell this _ _ (nm_at (Pr.pl_at hj)))
                rw [hW1] at HD1 HI1 HW1 HX1
                try rw [hW1]
                have C0 : Hid (W1.cell? ⟨b, 0, none⟩ = some (.slice (some ⟨gv, 0, none⟩) n vc)) := hid' (by have := HD1.out.cell 0 _ (lnC0 _ _ _ _); rw [hv, HNN.out] at this; exact this)
                have HJ := hid' hj
                have HVV := hid' hv
                clear hU1 hW1 c0 cj kw kf hj hv hu
                refine wp_region_held_drew (S := fun W => W.cell? ⟨b, 0, none⟩ = some (.slice (some ⟨gv, 0, none⟩) n vc) ∧ W.cell? ⟨gv, j, none⟩ = some (.int .i64 z)) (by kernel_rfl) ⟨C0.out, CJ.out⟩ (fun hHeld => ?_)
                refine take_d (i := 0) (d := some 175) (v := ?_) rfl rfl (by kernel_rfl) (by kernel_rfl) (by kernel_rfl) (fun _ _ _ h => h) (Or.inl ⟨by rfl, ?_⟩) (by assumption) ?_
                rotate_left
                · intro w hSw
                  (try dsimp only at hSw)
                  go_simp
                  try with_reducible rfl
                simp only [Act.put, List.setIfInBounds_toArray, List.set_cons_zero, List.set_cons_succ]
                refine take_d (i := 1) (d := some 176) (v := ?_) rfl rfl (by kernel_rfl) (by kernel_rfl) (by kernel_rfl) (fun _ _ _ h => h) (Or.inl ⟨by rfl, ?_⟩) (by assumption) ?_
                rotate_left
                · intro w hSw
                  (try dsimp only at hSw)
                  go_simp
                  try with_reducible rfl
                simp only [Act.put, List.setIfInBounds_toArray, List.set_cons_zero, List.set_cons_succ]
                refine take_d (i := 2) (d := some 177) (v := ?_) rfl rfl (by kernel_rfl) (by kernel_rfl) (by kernel_rfl) (fun _ _ _ h => h) (Or.inl ⟨by rfl, ?_⟩) (by assumption) ?_
                rotate_left
                · intro w hSw
                  (try dsimp only at hSw)
                  go_simp
                  try with_reducible rfl
                simp only [Act.put, List.setIfInBounds_toArray, List.set_cons_zero, List.set_cons_succ]
                refine take_d (i := 3) (d := some 178) (v := ?_) rfl rfl (by kernel_rfl) (by kernel_rfl) (by kernel_rfl) (fun _ _ _ h => h) (Or.inl ⟨by rfl, ?_⟩) (by assumption) ?_
                rotate_left
                · intro w hSw
                  (try dsimp only at hSw)
                  go_simp
                  try with_reducible rfl
                simp only [Act.put, List.setIfInBounds_toArray, List.set_cons_zero, List.set_cons_succ]
                refine take_d (i := 4) (d := some 179) (v := ?_) rfl rfl (by kernel_rfl) (by kernel_rfl) (by kernel_rfl) (fun _ _ _ h => h) (Or.inl ⟨by rfl, ?_⟩) (by assumption) ?_
                rotate_left
                · intro w hSw
                  (try dsimp only at hSw)
                  go_simp
                  try with_reducible rfl
                simp only [Act.put, List.setIfInBounds_toArray, List.set_cons_zero, List.set_cons_succ]
                refine take_d (i := 5) (d := some 180) (v := ?_) rfl rfl (by kernel_rfl) (by kernel_rfl) (by kernel_rfl) (fun _ _ _ h => h) (Or.inl ⟨by rfl, ?_⟩) (by assumption) ?_
                rotate_left
                · intro w hSw
                  (try dsimp only at hSw)
                  go_simp
                  try with_reducible rfl
                simp only [Act.put, List.setIfInBounds_toArray, List.set_cons_zero, List.set_cons_succ]
                refine take_d (i := 6) (d := some 181) (v := ?_) rfl rfl (by kernel_rfl) (by kernel_rfl) (by kernel_rfl) (fun _ _ _ h => h) (Or.inl ⟨by rfl, ?_⟩) (by assumption) ?_
                rotate_left
                · intro w hSw
                  (try dsimp only at hSw)
                  go_simp
                  try with_reducible rfl
                simp only [Act.put, List.setIfInBounds_toArray, List.set_cons_zero, List.set_cons_succ]
                refine take_d (i := 7) (d := some 182) (v := ?_) rfl rfl (by kernel_rfl) (by kernel_rfl) (by kernel_rfl) (fun _ _ _ h => h) (Or.inl ⟨by rfl, ?_⟩) (by assumption) ?_
                rotate_left
                · intro w hSw
                  (try dsimp only at hSw)
                  go_simp
                  try with_reducible rfl
                simp only [Act.put, List.setIfInBounds_toArray, List.set_cons_zero, List.set_cons_succ]
                refine take_d (i := 8) (d := some 183) (v := ?_) rfl rfl (by kernel_rfl) (by kernel_rfl) (by kernel_rfl) (fun _ _ _ h => h) (Or.inl ⟨by rfl, ?_⟩) (by assumption) ?_
                rotate_left
                · intro w hSw
                  (try dsimp only at hSw)
                  go_simp
                  try with_reducible rfl
                simp only [Act.put, List.setIfInBounds_toArray, List.set_cons_zero, List.set_cons_succ]
                refine take_d (i := 9) (d := some 184) (v := ?_) rfl rfl (by kernel_rfl) (by kernel_rfl) (by kernel_rfl) (fun _ _ _ h => h) (Or.inl ⟨by rfl, ?_⟩) (by assumption) ?_
                rotate_left
                · intro w hSw
                  (try dsimp only at hSw)
                  go_simp
                  try with_reducible rfl
                simp only [Act.put, List.setIfInBounds_toArray, List.set_cons_zero, List.set_cons_succ]
                refine take_d (i := 10) (d := some 185) (v := ?_) rfl rfl (by kernel_rfl) (by kernel_rfl) (by kernel_rfl) (fun _ _ _ h => h) (Or.inl ⟨by rfl, ?_⟩) (by assumption) ?_
                rotate_left
                · intro w hSw
                  (try dsimp only at hSw)
                  go_simp
                  try with_reducible rfl
                simp only [Act.put, List.setIfInBounds_toArray, List.set_cons_zero, List.set_cons_succ]
                refine take_d (i := 11) (d := some 186) (v := ?_) rfl rfl (by kernel_rfl) (by kernel_rfl) (by kernel_rfl) (fun _ _ _ h => h) (Or.inl ⟨by rfl, ?_⟩) (by assumption) ?_
                rotate_left
                · intro w hSw
                  (try dsimp only at hSw)
                  go_simp
                  try with_reducible rfl
                simp only [Act.put, List.setIfInBounds_toArray, List.set_cons_zero, List.set_cons_succ]
                refine wpAnyH_ready (rs := [12]) (by kernel_rfl) (by simp) ?_
                refine AllReadyH.cons rfl (fun K hK => ?_) AllReadyH.nil
                have kl := HD1.out.cell (10 + m) _ (lnCl (by rw [List.length_set]; exact H.out.ok.w8) HLA.out)
                have kf := HD1.out.free (10 + m)
                go_simp
                have hU2 : Upd b W1 (W1.setCell ⟨b, 10 + m, none⟩ (.int .i64 z)).drew := (upd_setCell W1 b (10 + m) (.int .i64 z)).drew
                have HD2 : Hid (Ar (W1.setCell ⟨b, 10 + m, none⟩ (.int .i64 z)).drew b 37 (lnC v u (l.was.set m true) (l.last.set m z))) := hid' (by have := HD1.out.set (10 + m) (.int .i64 z); rw [lnC_setl m z (by rw [List.length_set]; exact H.out.ok.w8)] at this; exact this)
                have HI2 := hid' (own_same HI1.out (fun q hq => hU2.block q (own_apart HI1.out HD1.out (by decide) q hq)))
                have HW2 := hid' (own_same HW1.out (fun q hq => hU2.block q (own_apart HW1.out HD1.out (by decide) q hq)))
                have HX2 := hid' (HX1.out.trans (LF.of_upd (S := fun k => k = b) hU2 rfl) (fun _ _ h => h))
                obtain ⟨W2, hW2⟩ : ∃ W2, (W1.setCell ⟨b, 10 + m, none⟩ (.int .i64 z)).drew = W2 := ⟨_, rfl⟩
                rw [hW2] at HD2 HI2 HW2 HX2 ⊢
                have c0z : W2.cell? ⟨b, 0, none⟩ = some (.slice (some ⟨gv, 0, none⟩) n vc) := by have := HD2.out.cell 0 _ (lnC0 _ _ _ _); rw [HVV.out, HNN.out] at this; exact this
                have cjz : W2.cell? ⟨gv, j, none⟩ = some (.int .i64 z) := by have := HI2.out; rw [HVV.out] at this; exact own_cell this _ _ (nm_at (Pr.pl_at HJ.out))
                refine hK.out _ _ ⟨c0z, cjz⟩ (fun hHeld => ?_)
                clear hK K hU2 hW2 kl kf hHeld
                try simp only [Act.put, List.setIfInBounds_toArray, List.set_cons_zero, List.set_cons_succ]
                refine wpAnyH_done (by kernel_rfl) ?_ _
                go_wp2
                go_ret
                rw [HNX.out]
                exact ⟨rfl, ⟨H.out.lo, HD2.out, HI2.out, HW2.out, ⟨H.out.ok.hl, H.out.ok.nd, H.out.ok.u7, by rw [List.length_set]; exact H.out.ok.w8, by rw [List.length_set]; exact H.out.ok.l8⟩⟩, HX2.out⟩
end Go.Proofs.YtekpjbhhbklboaaDoor
