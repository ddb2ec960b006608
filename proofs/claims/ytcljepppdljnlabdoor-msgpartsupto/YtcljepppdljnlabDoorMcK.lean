/-
  The code's head.fault: by its contract.
-/
import Derived.Test.YtcljepppdljnlabDoorMcJ
namespace Go.Proofs.YtcljepppdljnlabDoor
open Go.RowKit

set_option maxHeartbeats 4000000 in
set_option maxRecDepth 20000 in
theorem cfault14 (B b : Nat) (H : Ms.Hd) (fv : Value) (c : Int) (hc : Ms.faultE H = c) (w : World) (h : HM w B b H fv) (hT : TB w) (hl : H.fs.length ≤ 1048576) (hs : ∀ f ∈ H.fs, f.n.size ≤ 140737488355328 ∧ f.v.size ≤ 140737488355328) (hm : (H.m.getD ⟨#[]⟩).size ≤ 140737488355328) (hp : (H.p.getD ⟨#[]⟩).size ≤ 140737488355328) :
    Calls Tryd.prog 26 #[.pointer (some ⟨b, 0, none⟩)] w fun e w' => e = .returned (.int .i64 c) ∧ Below w.heap.size w w' := by
  obtain ⟨m, hme⟩ : ∃ m, H.m.getD ⟨#[]⟩ = m := ⟨_, rfl⟩
  obtain ⟨s, hse⟩ : ∃ s, H.s.getD ⟨#[]⟩ = s := ⟨_, rfl⟩
  obtain ⟨p, hpe⟩ : ∃ p, H.p.getD ⟨#[]⟩ = p := ⟨_, rfl⟩
  obtain ⟨a, hae⟩ : ∃ a, H.a.getD ⟨#[]⟩ = a := ⟨_, rfl⟩
  obtain ⟨ho, hhe⟩ : ∃ ho, H.h.getD ⟨#[]⟩ = ho := ⟨_, rfl⟩
  obtain ⟨ab, habe⟩ : ∃ ab, H.a.isSome = ab := ⟨_, rfl⟩
  obtain ⟨hb, hhbe⟩ : ∃ hb, H.h.isSome = hb := ⟨_, rfl⟩
  have g0 : w.cell? ⟨b, 0, none⟩ = some (.string m) := by have := h.obj.cell 0 (.string (H.m.getD ⟨#[]⟩)) rfl; rwa [hme] at this
  have g2 : w.cell? ⟨b, 2, none⟩ = some (.string s) := by have := h.obj.cell 2 (.string (H.s.getD ⟨#[]⟩)) rfl; rwa [hse] at this
  have g4 : w.cell? ⟨b, 4, none⟩ = some (.string p) := by have := h.obj.cell 4 (.string (H.p.getD ⟨#[]⟩)) rfl; rwa [hpe] at this
  have g6 : w.cell? ⟨b, 6, none⟩ = some (.string a) := by have := h.obj.cell 6 (.string (H.a.getD ⟨#[]⟩)) rfl; rwa [hae] at this
  have g7 : w.cell? ⟨b, 7, none⟩ = some (.bool ab) := by have := h.obj.cell 7 (.bool H.a.isSome) rfl; rwa [habe] at this
  have g8 : w.cell? ⟨b, 8, none⟩ = some (.string ho) := by have := h.obj.cell 8 (.string (H.h.getD ⟨#[]⟩)) rfl; rwa [hhe] at this
  have g9 : w.cell? ⟨b, 9, none⟩ = some (.bool hb) := by have := h.obj.cell 9 (.bool H.h.isSome) rfl; rwa [hhbe] at this
  have g11 : w.cell? ⟨b, 11, none⟩ = some fv := h.obj.cell 11 _ rfl
  unfold Ms.faultE at hc
  rw [hme, hse, hpe, hae, hhe, habe, hhbe] at hc
  rw [hme] at hm
  rw [hpe] at hp
  obtain ⟨t1, h1⟩ : ∃ t1, Tx.isTok m.data.toList = t1 := ⟨_, rfl⟩
  obtain ⟨s1, hs1⟩ : ∃ s1, (s.toList == [104, 116, 116, 112]) = s1 := ⟨_, rfl⟩
  obtain ⟨s2, hs2⟩ : ∃ s2, (s.toList == [104, 116, 116, 112, 115]) = s2 := ⟨_, rfl⟩
  obtain ⟨t3, h3⟩ : ∃ t3, Ms.goes m p = t3 := ⟨_, rfl⟩
  have hli : Ms.lines m s p = (t1 && (s1 || s2) && t3) := by unfold Ms.lines Ms.tx; rw [h1, h3, ← hs1, ← hs2]; rfl
  rw [hli] at hc
  have n1 : (s.toList != [104, 116, 116, 112]) = !s1 := by unfold bne; rw [hs1]
  have n2 : (s.toList != [104, 116, 116, 112, 115]) = !s2 := by unfold bne; rw [hs2]
  have HTK : Hid (∀ W, Calls Tryd.prog 28 #[.string m] W fun e w' => e = .returned (.bool t1) ∧ w' = W) := hid' (fun W => by have := token_any m W (by unfold maxLen; omega); rwa [h1] at this)
  have HGO : Hid (∀ W, Calls Tryd.prog 32 #[.string m, .string p] W fun e w' => e = .returned (.bool t3) ∧ w' = W) := hid' (fun W => cpath14 m p t3 h3 W hp)
  obtain ⟨o, hle⟩ : ∃ o, Ms.lenGo none H.fs = o := ⟨_, rfl⟩
  have HLE : Hid (∀ W, Below w.heap.size w W → Calls Tryd.prog 33 #[fv] W fun e w' => e = .returned (Ms.lenV o) ∧ Below W.heap.size W w') := hid' (fun W hb => clen14 fv H.fs o hle W (FW.of_own ((h.keep hb).row)) (hT.keep hb) hl hs)
  rw [hle] at hc
  have HC := hid' hc
  obtain ⟨fo, fc, hfv⟩ := own_shape h.row
  subst hfv
  obtain ⟨fn, hfn⟩ : ∃ fn, H.fs.length = fn := ⟨_, rfl⟩
  rw [hfn] at g11 HLE
  clear hc hli h1 h3 hle hme hse hpe hae hhe habe hhbe h hT hl hs hm hp hfn
  cases t1
  · have HF : Hid (c = 140) := hid' (by rw [← HC.out]; rfl)
    go_enter Tryd.func26, Tryd.ntmps26
    go_wp2
    go_quiet (fail)
    go_wp2_with fail
    refine (HTK.out _).mono ?_
    rintro e w1 ⟨rfl, hw⟩
    subst w1
    go_wp2
    go_ret
    exact ⟨by rw [HF.out]; rfl, by first | exact below_drewN _ _ | exact below_two (below_drewN _ _) (below_drewN _ _)⟩
  have hsch : (s1 || s2) = true ∨ (s1 = false ∧ s2 = false) := by cases s1 <;> cases s2 <;> simp
  rcases hsch with hsch | ⟨e1, e2⟩
  rotate_left
  · subst e1 e2
    have HF : Hid (c = 140) := hid' (by rw [← HC.out]; rfl)
    go_enter Tryd.func26, Tryd.ntmps26
    go_wp2
    go_quiet (fail)
    go_wp2_with fail
    refine (HTK.out _).mono ?_
    rintro e w1 ⟨rfl, hw⟩
    subst w1
    go_wp2
    go_ret
    exact ⟨by rw [HF.out]; rfl, by first | exact below_drewN _ _ | exact below_two (below_drewN _ _) (below_drewN _ _)⟩
  rw [hsch] at HC
  cases t3
  · have HF : Hid (c = 140) := hid' (by rw [← HC.out]; rfl)
    cases s1
    · obtain rfl : s2 = true := by simpa using hsch
      go_enter Tryd.func26, Tryd.ntmps26
      go_wp2
      go_quiet (fail)
      go_wp2_with fail
      refine (HTK.out _).mono ?_
      rintro e w1 ⟨rfl, hw⟩
      subst w1
      go_wp2_with fail
      refine (HGO.out _).mono ?_
      rintro e w1 ⟨rfl, hw⟩
      subst w1
      go_wp2
      go_ret
      exact ⟨by rw [HF.out]; rfl, by first | exact below_drewN _ _ | exact below_two (below_drewN _ _) (below_drewN _ _)⟩
    · clear hsch
      go_enter Tryd.func26, Tryd.ntmps26
      go_wp2
      go_quiet (fail)
      go_wp2_with fail
      refine (HTK.out _).mono ?_
      rintro e w1 ⟨rfl, hw⟩
      subst w1
      go_wp2_with fail
      refine (HGO.out _).mono ?_
      rintro e w1 ⟨rfl, hw⟩
      subst w1
      go_wp2
      go_ret
      exact ⟨by rw [HF.out]; rfl, by first | exact below_drewN _ _ | exact below_two (below_drewN _ _) (below_drewN _ _)⟩
  have HC2 : Hid ((if ab && hb && !(a.toList == ho.toList) then 141 else if o.isNone then 142 else 0) = c) := HC
  obtain ⟨q, hq⟩ : ∃ q, (a.toList == ho.toList) = q := ⟨_, rfl⟩
  have n3 : (a.toList != ho.toList) = !q := by unfold bne; rw [hq]
  rw [hq] at HC2
  clear HC
  by_cases hcl : (ab && hb && !q) = true
  · have HF : Hid (c = 141) := hid' (by rw [← HC2.out, hcl]; rfl)
    simp only [Bool.and_eq_true, Bool.not_eq_true'] at hcl
    obtain ⟨⟨rfl, rfl⟩, rfl⟩ := hcl
    cases s1
    · obtain rfl : s2 = true := by simpa using hsch
      go_enter Tryd.func26, Tryd.ntmps26
      go_wp2
      go_quiet (fail)
      go_wp2_with fail
      refine (HTK.out _).mono ?_
      rintro e w1 ⟨rfl, hw⟩
      subst w1
      go_wp2_with fail
      refine (HGO.out _).mono ?_
      rintro e w1 ⟨rfl, hw⟩
      subst w1
      go_wp2
      go_quiet (fail)
      go_wp2
      go_ret
      exact ⟨by rw [HF.out]; rfl, by first | exact below_drewN _ _ | exact below_two (below_drewN _ _) (below_drewN _ _)⟩
    · clear hsch
      go_enter Tryd.func26, Tryd.ntmps26
      go_wp2
      go_quiet (fail)
      go_wp2_with fail
      refine (HTK.out _).mono ?_
      rintro e w1 ⟨rfl, hw⟩
      subst w1
      go_wp2_with fail
      refine (HGO.out _).mono ?_
      rintro e w1 ⟨rfl, hw⟩
      subst w1
      go_wp2
      go_quiet (fail)
      go_wp2
      go_ret
      exact ⟨by rw [HF.out]; rfl, by first | exact below_drewN _ _ | exact below_two (below_drewN _ _) (below_drewN _ _)⟩
  have hcl2 : (ab && hb && !q) = false := by simpa using hcl
  rw [hcl2] at HC2
  clear hcl
  have HCO : Hid (c = if o.isNone then 142 else 0) := hid' HC2.out.symm
  clear HC2
  have hways : ab = false ∨ (ab = true ∧ hb = false) ∨ (ab = true ∧ hb = true ∧ q = true) := by cases ab <;> cases hb <;> cases q <;> simp_all
  clear hcl2
  rcases hways with rfl | ⟨rfl, rfl⟩ | ⟨rfl, rfl, rfl⟩
  · cases s1
    · obtain rfl : s2 = true := by simpa using hsch
      go_enter Tryd.func26, Tryd.ntmps26
      go_wp2
      go_quiet (fail)
      go_wp2_with fail
      refine (HTK.out _).mono ?_
      rintro e w1 ⟨rfl, hw⟩
      subst w1
      go_wp2_with fail
      refine (HGO.out _).mono ?_
      rintro e w1 ⟨rfl, hw⟩
      subst w1
      go_wp2
      go_quiet (fail)
      go_wp2_with fail
      refine (HLE.out _ (below_drewN _ _)).mono ?_
      rintro e w1 ⟨he, hb1⟩
      have HB1 := hid' (below_two (below_drewN _ _) hb1)
      subst he
      clear hb1
      rcases o with _ | _ | v
      all_goals
        simp only [Ms.lenV]
        go_wp2
        go_ret
        exact ⟨by rw [HCO.out]; rfl, HB1.out⟩
    · clear hsch
      go_enter Tryd.func26, Tryd.ntmps26
      go_wp2
      go_quiet (fail)
      go_wp2_with fail
      refine (HTK.out _).mono ?_
      rintro e w1 ⟨rfl, hw⟩
      subst w1
      go_wp2_with fail
      refine (HGO.out _).mono ?_
      rintro e w1 ⟨rfl, hw⟩
      subst w1
      go_wp2
      go_quiet (fail)
      go_wp2_with fail
      refine (HLE.out _ (below_drewN _ _)).mono ?_
      rintro e w1 ⟨he, hb1⟩
      have HB1 := hid' (below_two (below_drewN _ _) hb1)
      subst he
      clear hb1
      rcases o with _ | _ | v
      all_goals
        simp only [Ms.lenV]
        go_wp2
        go_ret
        exact ⟨by rw [HCO.out]; rfl, HB1.out⟩
  · cases s1
    · obtain rfl : s2 = true := by simpa using hsch
      go_enter Tryd.func26, Tryd.ntmps26
      go_wp2
      go_quiet (fail)
      go_wp2_with fail
      refine (HTK.out _).mono ?_
      rintro e w1 ⟨rfl, hw⟩
      subst w1
      go_wp2_with fail
      refine (HGO.out _).mono ?_
      rintro e w1 ⟨rfl, hw⟩
      subst w1
      go_wp2
      go_quiet (fail)
      go_wp2_with fail
      refine (HLE.out _ (below_drewN _ _)).mono ?_
      rintro e w1 ⟨he, hb1⟩
      have HB1 := hid' (below_two (below_drewN _ _) hb1)
      subst he
      clear hb1
      rcases o with _ | _ | v
      all_goals
        simp only [Ms.lenV]
        go_wp2
        go_ret
        exact ⟨by rw [HCO.out]; rfl, HB1.out⟩
    · clear hsch
      go_enter Tryd.func26, Tryd.ntmps26
      go_wp2
      go_quiet (fail)
      go_wp2_with fail
      refine (HTK.out _).mono ?_
      rintro e w1 ⟨rfl, hw⟩
      subst w1
      go_wp2_with fail
      refine (HGO.out _).mono ?_
      rintro e w1 ⟨rfl, hw⟩
      subst w1
      go_wp2
      go_quiet (fail)
      go_wp2_with fail
      refine (HLE.out _ (below_drewN _ _)).mono ?_
      rintro e w1 ⟨he, hb1⟩
      have HB1 := hid' (below_two (below_drewN _ _) hb1)
      subst he
      clear hb1
      rcases o with _ | _ | v
      all_goals
        simp only [Ms.lenV]
        go_wp2
        go_ret
        exact ⟨by rw [HCO.out]; rfl, HB1.out⟩
  · cases s1
    · obtain rfl : s2 = true := by simpa using hsch
      go_enter Tryd.func26, Tryd.ntmps26
      go_wp2
      go_quiet (fail)
      go_wp2_with fail
      refine (HTK.out _).mono ?_
      rintro e w1 ⟨rfl, hw⟩
      subst w1
      go_wp2_with fail
      refine (HGO.out _).mono ?_
      rintro e w1 ⟨rfl, hw⟩
      subst w1
      go_wp2
      go_quiet (fail)
      go_wp2_with fail
      refine (HLE.out _ (below_drewN _ _)).mono ?_
      rintro e w1 ⟨he, hb1⟩
      have HB1 := hid' (below_two (below_drewN _ _) hb1)
      subst he
      clear hb1
      rcases o with _ | _ | v
      all_goals
        simp only [Ms.lenV]
        go_wp2
        go_ret
        exact ⟨by rw [HCO.out]; rfl, HB1.out⟩
    · clear hsch
      go_enter Tryd.func26, Tryd.ntmps26
      go_wp2
      go_quiet (fail)
      go_wp2_with fail
      refine (HTK.out _).mono ?_
      rintro e w1 ⟨rfl, hw⟩
      subst w1
      go_wp2_with fail
      refine (HGO.out _).mono ?_
      rintro e w1 ⟨rfl, hw⟩
      subst w1
      go_wp2
      go_quiet (fail)
      go_wp2_with fail
      refine (HLE.out _ (below_drewN _ _)).mono ?_
      rintro e w1 ⟨he, hb1⟩
      have HB1 := hid' (below_two (below_drewN _ _) hb1)
      subst he
      clear hb1
      rcases o with _ | _ | v
      all_goals
        simp only [Ms.lenV]
        go_wp2
        go_ret
        exact ⟨by rw [HCO.out]; rfl, HB1.out⟩

end Go.Proofs.YtcljepppdljnlabDoor
