/-
  What is asked for lies within the body, in at most eight pieces.
-/
import Derived.Test.YtdbldompjhienaaDoorRhK
import Derived.Deep.QuietTactic
import Derived.BigQuiet
namespace Go.Proofs.YtdbldompjhienaaDoor
open Go.RowKit

namespace Rg
theorem err_arg {l : T8} {n : Int} : (err l n == 1) = decide (n < 0) := by
  unfold err
  by_cases h : n < 0
  · rw [if_pos h, decide_eq_true h]; rfl
  · rw [if_neg h, decide_eq_false h]
    repeat' split
    all_goals rfl
theorem res_ok {l : T8} {n : Int} (h : err l n = 0) : 0 ≤ n ∧ 1 ≤ (res l n).length ∧ (res l n).length ≤ 8 ∧ ∀ r ∈ res l n, 0 ≤ r.a ∧ r.a ≤ r.b ∧ r.b < n := by
  have hr : res l n = outs (pcs (l.drop 6)) n := by unfold res; rw [h]; rfl
  unfold err at h
  split at h
  · cases h
  · rename_i n0
    split at h
    · split at h
      · cases h
      · rename_i h1
        split at h
        · cases h
        · rename_i h8
          split at h
          · cases h
          · rename_i he
            rw [hr]
            have hal : (pcs (l.drop 6)).all (fun p => (pc p n).2.2) = true := by
              simp only [Bool.or_eq_true, not_or] at h1
              simpa using h1.2
            refine ⟨by omega, ?_, ?_, ?_⟩
            · cases hq : outs (pcs (l.drop 6)) n with
              | nil => rw [hq] at he; exact absurd rfl he
              | cons a b => simp
            · unfold outs
              rw [List.length_map]
              exact Nat.le_trans (List.length_filter_le _ _) (by omega)
            · intro r hm
              unfold outs at hm
              obtain ⟨p, hp, rfl⟩ := List.mem_map.1 hm
              obtain ⟨h2, h3⟩ := List.mem_filter.1 hp
              have hg := List.all_eq_true.1 hal p h2
              have hw := pc_wth (by omega) hg
              rw [h3] at hw
              unfold wth at hw
              simp only [Bool.and_eq_true, decide_eq_true_iff] at hw
              exact ⟨hw.1, hw.2.1, hw.2.2⟩
    · cases h
end Rg

set_option maxHeartbeats 8000000 in
set_option maxRecDepth 20000 in
theorem rangesLie_any (s : ByteArray) (n : Int) (w : World) (n0 : -9223372036854775808 ≤ n) (n1 : n ≤ 9223372036854775807) (hT : TB16 w) (hs : s.size ≤ 1048576) :
    Calls Tryd.prog 5 #[.string s, .int .i64 n] w fun e w' => e = .returned (.bool true) ∧ Below w.heap.size w w' := by
  have HT := hid' hT
  have HAW := hid' (fun W (h : TB16 W) => awake16 W h)
  have HPX := hid' (cparse16 s s.data.toList rfl n n1 w hs hT)
  obtain ⟨l, hl⟩ : ∃ l, s.data.toList = l := ⟨_, rfl⟩
  rw [hl] at HPX
  have HAR := hid' (Rg.err_arg (l := l) (n := n))
  have HOK := hid' (Rg.res_ok (l := l) (n := n))
  have HNO : Hid ((Rg.err l n == 0) = false → (Rg.res l n).length = 0) := hid' (fun h => by unfold Rg.res; rw [h]; rfl)
  obtain ⟨er, he⟩ : ∃ er, Rg.err l n = er := ⟨_, rfl⟩
  obtain ⟨rs, hrs⟩ : ∃ rs, Rg.res l n = rs := ⟨_, rfl⟩
  rw [he, hrs] at HPX HOK HNO
  rw [he] at HAR
  clear hT hl he hrs
  go_enter Tryd.func5, Tryd.ntmps5
  go_wp2_with fail
  refine HPX.out.mono ?_
  rintro e w1 ⟨⟨m, ro, rc, rfl, hm, hown⟩, hb1⟩
  have HB1 := hid' hb1
  have HT1 := hid' (HT.out.keep hb1)
  have HRW := hid' (RW16.own hown)
  have HM := hid' hm
  clear hb1 hown hm HPX
  cases h0 : (er == 0)
  · have hm0 : m = 0 := by rw [← HM.out]; exact HNO.out h0
    subst hm0
    have hAR := HAR.out
    have hge : decide ((0 : Int) ≤ n) = !(er == 1) := by
      rw [hAR]
      by_cases hn : n < 0
      · rw [decide_eq_true hn, decide_eq_false (by omega)]; rfl
      · rw [decide_eq_false hn, decide_eq_true (by omega)]; rfl
    cases h1 : (er == 1)
    · rw [h1] at hge
      have hge : decide ((0 : Int) ≤ n) = true := hge
      have h1 : (er != 1) = true := by unfold bne; rw [h1]; rfl
      have h0 : (er != 0) = true := by unfold bne; rw [h0]; rfl
      clear hAR
      go_wp2_with fail
      refine (HAW.out _ HT1.out).mono ?_
      rintro e w2 ⟨rfl, hb2⟩
      have HB2 := hid' (below_two HB1.out hb2)
      clear hb2
      go_wp2
      go_ret
      exact ⟨rfl, HB2.out⟩
    · rw [h1] at hge
      have hge : decide ((0 : Int) ≤ n) = false := hge
      have h1 : (er != 1) = false := by unfold bne; rw [h1]; rfl
      have h0 : (er != 0) = true := by unfold bne; rw [h0]; rfl
      clear hAR
      go_wp2_with fail
      refine (HAW.out _ HT1.out).mono ?_
      rintro e w2 ⟨rfl, hb2⟩
      have HB2 := hid' (below_two HB1.out hb2)
      clear hb2
      go_wp2
      go_ret
      exact ⟨rfl, HB2.out⟩
  · have hG := HOK.out (eq_of_beq h0)
    rw [HM.out] at hG
    obtain ⟨hn0, hm1, hm8, hall⟩ := hG
    have HALL := hid' hall
    have g1 : (1 : Int) ≤ (m : Int) := by omega
    have g2 : (m : Int) ≤ 8 := by omega
    clear hall
    go_wp2
    go_loopw [7] (fun s7 wr => ∃ (i : Nat), s7 = .int .i64 (i : Int) ∧ i ≤ m ∧ Hid (Below w1.heap.size w1 wr)) (fun s7 _ => m - (intOf s7).toNat)
    case atStart => exact ⟨0, rfl, Nat.zero_le _, hid' (Below.refl _ _)⟩
    case round =>
      obtain ⟨i, rfl, hi, HB⟩ := hrel
      by_cases hlt : i < m
      · have hlt2 : (i : Int) < (m : Int) := by omega
        obtain ⟨r, hr⟩ : ∃ r, rs[i]? = some r := ⟨_, List.getElem?_eq_getElem (by rw [HM.out]; exact hlt)⟩
        obtain ⟨a, rfl, _, y0, y1⟩ := (HRW.out.below HB.out) i r hr
        have hq := HALL.out r (List.mem_of_getElem? hr)
        obtain ⟨ra, rb⟩ := r
        simp only at y0 y1 hq
        have d1 : decide (ra < 0) = false := decide_eq_false (by omega)
        have d2 : decide (rb < ra) = false := decide_eq_false (by omega)
        have d3 : decide (n ≤ rb) = false := decide_eq_false (by omega)
        have HQ := hid' hq
        clear hr hq
        go_wp2
        go_quiet (fail)
        go_wp2
        go_roundw
        case rel => exact ⟨i + 1, by go_num, by omega, hid' (below_two HB.out (below_drewN _ _))⟩
        case measure => simp [intOf]; omega
      · have hlt2 : ¬ (i : Int) < (m : Int) := by omega
        have HT2 := hid' (HT1.out.keep HB.out)
        clear hlt
        go_wp2_with fail
        refine (HAW.out _ HT2.out).mono ?_
        rintro e w2 ⟨rfl, hb2⟩
        have HB2 := hid' (below_two (below_two HB1.out HB.out) hb2)
        clear hb2
        go_wp2
        go_ret
        exact ⟨rfl, HB2.out⟩

end Go.Proofs.YtdbldompjhienaaDoor
