/-
  The code's head.fault: by its contract.
  The code's head.request: by its contract.
  The code's Two: by its contract.
-/
import Derived.Test.YtkfekopenahmdaaDoorMcHd
import Derived.Test.YtkfekopenahmdaaDoorMsDI
namespace Go.Proofs.YtkfekopenahmdaaDoor
open Go.RowKit

set_option maxHeartbeats 4000000 in
set_option maxRecDepth 20000 in
theorem cfault14 (B b : Nat) (H : Ms.Hd) (fv : Value) (c : Int) (hc : Ms.faultE H = c) (w : World) (h : HM w B b H fv) (hT : TB w) (hl : H.fs.length ≤ 4398046510976) (hs : ∀ f ∈ H.fs, f.n.size ≤ 140737488355328 ∧ f.v.size ≤ 140737488355328) (hm : (H.m.getD ⟨#[]⟩).size ≤ 140737488355328) (hp : (H.p.getD ⟨#[]⟩).size ≤ 140737488355328) :
    Calls Tryd.prog 10 #[.pointer (some ⟨b, 0, none⟩)] w fun e w' => e = .returned (.int .i64 c) ∧ Below w.heap.size w w' := by
  obtain ⟨m, hme⟩ : ∃ m, H.m.getD ⟨#[]⟩ = m := ⟨_, rfl⟩
  obtain ⟨s, hse⟩ : ∃ s, H.s.getD ⟨#[]⟩ = s := ⟨_, rfl⟩
  obtain ⟨p, hpe⟩ : ∃ p, H.p.getD ⟨#[]⟩ = p := ⟨_, rfl⟩
  obtain ⟨a, hae⟩ : ∃ a, H.a.getD ⟨#[]⟩ = a := ⟨_, rfl⟩
  obtain ⟨ho, hhe⟩ : ∃ ho, H.h.getD ⟨#[]⟩ = ho := ⟨_, rfl⟩
  obtain ⟨ab, habe⟩ : ∃ ab, H.a.isSome = ab := ⟨_, rfl⟩
  obtain ⟨hb, hhbe⟩ : ∃ hb, H.h.isSome = hb := ⟨_, rfl⟩
  have g0 : w.cell? ⟨b, 0, none⟩ = some (.string m) := by have := h.obj.cell 0 (.string (H.m.getD ⟨#[]⟩)) rfl; rwa [hme] at this
  have g2 : w.cell? ⟨b, 2, none⟩ = some (.string s) := by have := h.obj.cell 2 (.string (H.s.getD ⟨#[]⟩)) rfl; rwa [hse] at this
  have g4 : w.cell? ⟨b, 4, none⟩ = some (.string p) := by have := h.obj.cell 4 (.string (H.p.getD ⟨#[]⟩)) rfl; rwa [hpe] at this
  have g6 : w.cell? ⟨b, 6, none⟩ = some (.string a) := by have := h.obj.cell 6 (.string (H.a.getD ⟨#[]⟩)) rfl; rwa [hae] at this
  have g7 : w.cell? ⟨b, 7, none⟩ = some (.bool ab) := by have := h.obj.cell 7 (.bool H.a.isSome) rfl; rwa [habe] at this
  have g8 : w.cell? ⟨b, 8, none⟩ = some (.string ho) := by have := h.obj.cell 8 (.string (H.h.getD ⟨#[]⟩)) rfl; rwa [hhe] at this
  have g9 : w.cell? ⟨b, 9, none⟩ = some (.bool hb) := by have := h.obj.cell 9 (.bool H.h.isSome) rfl; rwa [hhbe] at this
  have g11 : w.cell? ⟨b, 11, none⟩ = some fv := h.obj.cell 11 _ rfl
  unfold Ms.faultE at hc
  rw [hme, hse, hpe, hae, hhe, habe, hhbe] at hc
  rw [hme] at hm
  rw [hpe] at hp
  obtain ⟨t1, h1⟩ : ∃ t1, Tx.isTok m.data.toList = t1 := ⟨_, rfl⟩
  obtain ⟨s1, hs1⟩ : ∃ s1, (s.toList == [104, 116, 116, 112]) = s1 := ⟨_, rfl⟩
  obtain ⟨s2, hs2⟩ : ∃ s2, (s.toList == [104, 116, 116, 112, 115]) = s2 := ⟨_, rfl⟩
  obtain ⟨t3, h3⟩ : ∃ t3, Ms.goes m p = t3 := ⟨_, rfl⟩
  have hli : Ms.lines m s p = (t1 && (s1 || s2) && t3) := by unfold Ms.lines Ms.tx; rw [h1, h3, ← hs1, ← hs2]; rfl
  rw [hli] at hc
  have n1 : (s.toList != [104, 116, 116, 112]) = !s1 := by unfold bne; rw [hs1]
  have n2 : (s.toList != [104, 116, 116, 112, 115]) = !s2 := by unfold bne; rw [hs2]
  have HTK : Hid (∀ W, Calls Tryd.prog 20 #[.string m] W fun e w' => e = .returned (.bool t1) ∧ w' = W) := hid' (fun W => by have := token_any m W (by unfold maxLen; omega); rwa [h1] at this)
  have HGO : Hid (∀ W, Calls Tryd.prog 21 #[.string m, .string p] W fun e w' => e = .returned (.bool t3) ∧ w' = W) := hid' (fun W => cpath14 m p t3 h3 W hp)
  obtain ⟨o, hle⟩ : ∃ o, Ms.lenGo none H.fs = o := ⟨_, rfl⟩
  have HLE : Hid (∀ W, Below w.heap.size w W → Calls Tryd.prog 22 #[fv] W fun e w' => e = .returned (Ms.lenV o) ∧ Below W.heap.size W w') := hid' (fun W hb => clen14 fv H.fs o hle W (FW.of_own ((h.keep hb).row)) (hT.keep hb) hl hs)
  rw [hle] at hc
  have HC := hid' hc
  obtain ⟨fo, fc, hfv⟩ := own_shape h.row
  subst hfv
  obtain ⟨fn, hfn⟩ : ∃ fn, H.fs.length = fn := ⟨_, rfl⟩
  rw [hfn] at g11 HLE
  clear hc hli h1 h3 hle hme hse hpe hae hhe habe hhbe h hT hl hs hm hp hfn
  cases t1
  · have HF : Hid (c = 140) := hid' (by rw [← HC.out]; rfl)
    go_enter Tryd.func10, Tryd.ntmps10
    go_wp2
    go_quiet (fail)
    go_wp2_with fail
    refine (HTK.out _).mono ?_
    rintro e w1 ⟨rfl, hw⟩
    subst w1
    go_wp2
    go_ret
    exact ⟨by rw [HF.out]; rfl, by first | exact below_drewN _ _ | exact below_two (below_drewN _ _) (below_drewN _ _)⟩
  have hsch : (s1 || s2) = true ∨ (s1 = false ∧ s2 = false) := by cases s1 <;> cases s2 <;> simp
  rcases hsch with hsch | ⟨e1, e2⟩
  rotate_left
  · subst e1 e2
    have HF : Hid (c = 140) := hid' (by rw [← HC.out]; rfl)
    go_enter Tryd.func10, Tryd.ntmps10
    go_wp2
    go_quiet (fail)
    go_wp2_with fail
    refine (HTK.out _).mono ?_
    rintro e w1 ⟨rfl, hw⟩
    subst w1
    go_wp2
    go_ret
    exact ⟨by rw [HF.out]; rfl, by first | exact below_drewN _ _ | exact below_two (below_drewN _ _) (below_drewN _ _)⟩
  rw [hsch] at HC
  cases t3
  · have HF : Hid (c = 140) := hid' (by rw [← HC.out]; rfl)
    cases s1
    · obtain rfl : s2 = true := by simpa using hsch
      go_enter Tryd.func10, Tryd.ntmps10
      go_wp2
      go_quiet (fail)
      go_wp2_with fail
      refine (HTK.out _).mono ?_
      rintro e w1 ⟨rfl, hw⟩
      subst w1
      go_wp2_with fail
      refine (HGO.out _).mono ?_
      rintro e w1 ⟨rfl, hw⟩
      subst w1
      go_wp2
      go_ret
      exact ⟨by rw [HF.out]; rfl, by first | exact below_drewN _ _ | exact below_two (below_drewN _ _) (below_drewN _ _)⟩
    · clear hsch
      go_enter Tryd.func10, Tryd.ntmps10
      go_wp2
      go_quiet (fail)
      go_wp2_with fail
      refine (HTK.out _).mono ?_
      rintro e w1 ⟨rfl, hw⟩
      subst w1
      go_wp2_with fail
      refine (HGO.out _).mono ?_
      rintro e w1 ⟨rfl, hw⟩
      subst w1
      go_wp2
      go_ret
      exact ⟨by rw [HF.out]; rfl, by first | exact below_drewN _ _ | exact below_two (below_drewN _ _) (below_drewN _ _)⟩
  have HC2 : Hid ((if ab && hb && !(a.toList == ho.toList) then 141 else if o.isNone then 142 else 0) = c) := HC
  obtain ⟨q, hq⟩ : ∃ q, (a.toList == ho.toList) = q := ⟨_, rfl⟩
  have n3 : (a.toList != ho.toList) = !q := by unfold bne; rw [hq]
  rw [hq] at HC2
  clear HC
  by_cases hcl : (ab && hb && !q) = true
  · have HF : Hid (c = 141) := hid' (by rw [← HC2.out, hcl]; rfl)
    simp only [Bool.and_eq_true, Bool.not_eq_true'] at hcl
    obtain ⟨⟨rfl, rfl⟩, rfl⟩ := hcl
    cases s1
    · obtain rfl : s2 = true := by simpa using hsch
      go_enter Tryd.func10, Tryd.ntmps10
      go_wp2
      go_quiet (fail)
      go_wp2_with fail
      refine (HTK.out _).mono ?_
      rintro e w1 ⟨rfl, hw⟩
      subst w1
      go_wp2_with fail
      refine (HGO.out _).mono ?_
      rintro e w1 ⟨rfl, hw⟩
      subst w1
      go_wp2
      go_quiet (fail)
      go_wp2
      go_ret
      exact ⟨by rw [HF.out]; rfl, by first | exact below_drewN _ _ | exact below_two (below_drewN _ _) (below_drewN _ _)⟩
    · clear hsch
      go_enter Tryd.func10, Tryd.ntmps10
      go_wp2
      go_quiet (fail)
      go_wp2_with fail
      refine (HTK.out _).mono ?_
      rintro e w1 ⟨rfl, hw⟩
      subst w1
      go_wp2_with fail
      refine (HGO.out _).mono ?_
      rintro e w1 ⟨rfl, hw⟩
      subst w1
      go_wp2
      go_quiet (fail)
      go_wp2
      go_ret
      exact ⟨by rw [HF.out]; rfl, by first | exact below_drewN _ _ | exact below_two (below_drewN _ _) (below_drewN _ _)⟩
  have hcl2 : (ab && hb && !q) = false := by simpa using hcl
  rw [hcl2] at HC2
  clear hcl
  have HCO : Hid (c = if o.isNone then 142 else 0) := hid' HC2.out.symm
  clear HC2
  have hways : ab = false ∨ (ab = true ∧ hb = false) ∨ (ab = true ∧ hb = true ∧ q = true) := by cases ab <;> cases hb <;> cases q <;> simp_all
  clear hcl2
  rcases hways with rfl | ⟨rfl, rfl⟩ | ⟨rfl, rfl, rfl⟩
  · cases s1
    · obtain rfl : s2 = true := by simpa using hsch
      go_enter Tryd.func10, Tryd.ntmps10
      go_wp2
      go_quiet (fail)
      go_wp2_with fail
      refine (HTK.out _).mono ?_
      rintro e w1 ⟨rfl, hw⟩
      subst w1
      go_wp2_with fail
      refine (HGO.out _).mono ?_
      rintro e w1 ⟨rfl, hw⟩
      subst w1
      go_wp2
      go_quiet (fail)
      go_wp2_with fail
      refine (HLE.out _ (below_drewN _ _)).mono ?_
      rintro e w1 ⟨he, hb1⟩
      have HB1 := hid' (below_two (below_drewN _ _) hb1)
      subst he
      clear hb1
      rcases o with _ | _ | v
      all_goals
        simp only [Ms.lenV]
        go_wp2
        go_ret
        exact ⟨by rw [HCO.out]; rfl, HB1.out⟩
    · clear hsch
      go_enter Tryd.func10, Tryd.ntmps10
      go_wp2
      go_quiet (fail)
      go_wp2_with fail
      refine (HTK.out _).mono ?_
      rintro e w1 ⟨rfl, hw⟩
      subst w1
      go_wp2_with fail
      refine (HGO.out _).mono ?_
      rintro e w1 ⟨rfl, hw⟩
      subst w1
      go_wp2
      go_quiet (fail)
      go_wp2_with fail
      refine (HLE.out _ (below_drewN _ _)).mono ?_
      rintro e w1 ⟨he, hb1⟩
      have HB1 := hid' (below_two (below_drewN _ _) hb1)
      subst he
      clear hb1
      rcases o with _ | _ | v
      all_goals
        simp only [Ms.lenV]
        go_wp2
        go_ret
        exact ⟨by rw [HCO.out]; rfl, HB1.out⟩
  · cases s1
    · obtain rfl : s2 = true := by simpa using hsch
      go_enter Tryd.func10, Tryd.ntmps10
      go_wp2
      go_quiet (fail)
      go_wp2_with fail
      refine (HTK.out _).mono ?_
      rintro e w1 ⟨rfl, hw⟩
      subst w1
      go_wp2_with fail
      refine (HGO.out _).mono ?_
      rintro e w1 ⟨rfl, hw⟩
      subst w1
      go_wp2
      go_quiet (fail)
      go_wp2_with fail
      refine (HLE.out _ (below_drewN _ _)).mono ?_
      rintro e w1 ⟨he, hb1⟩
      have HB1 := hid' (below_two (below_drewN _ _) hb1)
      subst he
      clear hb1
      rcases o with _ | _ | v
      all_goals
        simp only [Ms.lenV]
        go_wp2
        go_ret
        exact ⟨by rw [HCO.out]; rfl, HB1.out⟩
    · clear hsch
      go_enter Tryd.func10, Tryd.ntmps10
      go_wp2
      go_quiet (fail)
      go_wp2_with fail
      refine (HTK.out _).mono ?_
      rintro e w1 ⟨rfl, hw⟩
      subst w1
      go_wp2_with fail
      refine (HGO.out _).mono ?_
      rintro e w1 ⟨rfl, hw⟩
      subst w1
      go_wp2
      go_quiet (fail)
      go_wp2_with fail
      refine (HLE.out _ (below_drewN _ _)).mono ?_
      rintro e w1 ⟨he, hb1⟩
      have HB1 := hid' (below_two (below_drewN _ _) hb1)
      subst he
      clear hb1
      rcases o with _ | _ | v
      all_goals
        simp only [Ms.lenV]
        go_wp2
        go_ret
        exact ⟨by rw [HCO.out]; rfl, HB1.out⟩
  · cases s1
    · obtain rfl : s2 = true := by simpa using hsch
      go_enter Tryd.func10, Tryd.ntmps10
      go_wp2
      go_quiet (fail)
      go_wp2_with fail
      refine (HTK.out _).mono ?_
      rintro e w1 ⟨rfl, hw⟩
      subst w1
      go_wp2_with fail
      refine (HGO.out _).mono ?_
      rintro e w1 ⟨rfl, hw⟩
      subst w1
      go_wp2
      go_quiet (fail)
      go_wp2_with fail
      refine (HLE.out _ (below_drewN _ _)).mono ?_
      rintro e w1 ⟨he, hb1⟩
      have HB1 := hid' (below_two (below_drewN _ _) hb1)
      subst he
      clear hb1
      rcases o with _ | _ | v
      all_goals
        simp only [Ms.lenV]
        go_wp2
        go_ret
        exact ⟨by rw [HCO.out]; rfl, HB1.out⟩
    · clear hsch
      go_enter Tryd.func10, Tryd.ntmps10
      go_wp2
      go_quiet (fail)
      go_wp2_with fail
      refine (HTK.out _).mono ?_
      rintro e w1 ⟨rfl, hw⟩
      subst w1
      go_wp2_with fail
      refine (HGO.out _).mono ?_
      rintro e w1 ⟨rfl, hw⟩
      subst w1
      go_wp2
      go_quiet (fail)
      go_wp2_with fail
      refine (HLE.out _ (below_drewN _ _)).mono ?_
      rintro e w1 ⟨he, hb1⟩
      have HB1 := hid' (below_two (below_drewN _ _) hb1)
      subst he
      clear hb1
      rcases o with _ | _ | v
      all_goals
        simp only [Ms.lenV]
        go_wp2
        go_ret
        exact ⟨by rw [HCO.out]; rfl, HB1.out⟩

end Go.Proofs.YtkfekopenahmdaaDoor

namespace Go.Proofs.YtkfekopenahmdaaDoor
open Go.RowKit

/-- Who a request's authority is. -/
def auV (H : Ms.Hd) : ByteArray := if H.a.isSome then H.a.getD ⟨#[]⟩ else H.h.getD ⟨#[]⟩
theorem rq_zero (w : World) : Ar (w.alloc (.cells (rqC ⟨#[]⟩ ⟨#[]⟩ ⟨#[]⟩ ⟨#[]⟩ (.slice none 0 0) ⟨#[]⟩ (.slice none 0 0)) 24)) w.heap.size 24 (rqC ⟨#[]⟩ ⟨#[]⟩ ⟨#[]⟩ ⟨#[]⟩ (.slice none 0 0) ⟨#[]⟩ (.slice none 0 0)) := heap_alloc_last w _

section
variable {P : Program} {md : Region.Mode} {ops : Array Oper} {Q : Exit → Act → World → Prop} {S : World → Prop}
/-- An operation is taken first, its slot written out. -/
theorem take_d14 {i : Nat} {oi : Oper} {d : Option Tmp} {v : Value} {fuel : Nat} {listed : Array Bool} {a : Act} {w : World} (hi : ops[i]? = some oi) (hd : oi.dst = d)
    (hs : Region.noSelect ops = true) (hf : Region.free md ops listed i = true) (hr : (Region.ready md ops listed).contains i = true)
    (hQ : ∀ c a w, Q (.panic c) (a.put d v) w → Q (.panic c) a w) (hy : YieldsIf P ops S oi v a) (hS : S w)
    (h : wpAnyH P md ops Q S fuel (listed.setIfInBounds i true) (a.put d v) w) : wpAnyH P md ops Q S (fuel + 1) listed a w := by
  subst hd
  exact wpAnyH_take hi hs hf hr hQ hy hS h
end
theorem sizeRq14 : (Tryd.prog.info? 24).map (·.size) = some 7 := by kernel_rfl
theorem ar_upd {w w' : World} {a b : Nat} {T : TypeId} {c : Array Value} (h : Ar w a T c) (hu : Upd b w w') (hne : a ≠ b) : Ar w' a T c := by
  unfold Ar at *
  rw [hu.block a hne]
  exact h

set_option maxHeartbeats 4000000 in
set_option maxRecDepth 20000 in
theorem creq14 (B b : Nat) (H : Ms.Hd) (fv : Value) (w : World) (h : HM w B b H fv) :
    Calls Tryd.prog 11 #[.pointer (some ⟨b, 0, none⟩)] w fun e w' => e = .returned (.agg (rqC (H.m.getD ⟨#[]⟩) (H.s.getD ⟨#[]⟩) (auV H) (H.p.getD ⟨#[]⟩) fv ⟨#[]⟩ (.slice none 0 0))) ∧ Below w.heap.size w w' := by
  obtain ⟨m, hme⟩ : ∃ m, H.m.getD ⟨#[]⟩ = m := ⟨_, rfl⟩
  obtain ⟨s, hse⟩ : ∃ s, H.s.getD ⟨#[]⟩ = s := ⟨_, rfl⟩
  obtain ⟨p, hpe⟩ : ∃ p, H.p.getD ⟨#[]⟩ = p := ⟨_, rfl⟩
  obtain ⟨a, hae⟩ : ∃ a, H.a.getD ⟨#[]⟩ = a := ⟨_, rfl⟩
  obtain ⟨ho, hhe⟩ : ∃ ho, H.h.getD ⟨#[]⟩ = ho := ⟨_, rfl⟩
  obtain ⟨ab, habe⟩ : ∃ ab, H.a.isSome = ab := ⟨_, rfl⟩
  obtain ⟨hb, hhbe⟩ : ∃ hb, H.h.isSome = hb := ⟨_, rfl⟩
  have hau : auV H = if ab then a else ho := by unfold auV; rw [habe, hae, hhe]
  have hz := rq_zero w
  have hbz := bl_alloc w (.cells (rqC ⟨#[]⟩ ⟨#[]⟩ ⟨#[]⟩ ⟨#[]⟩ (.slice none 0 0) ⟨#[]⟩ (.slice none 0 0)) 24)
  have h2 := h.keep hbz
  have hlt := h.obj.lt
  have hsz : (w.alloc (.cells (rqC ⟨#[]⟩ ⟨#[]⟩ ⟨#[]⟩ ⟨#[]⟩ (.slice none 0 0) ⟨#[]⟩ (.slice none 0 0)) 24)).heap.size = w.heap.size + 1 := by simp
  obtain ⟨fo, fc, hfv⟩ := own_shape h.row
  subst hfv
  obtain ⟨fn, hfn⟩ : ∃ fn, H.fs.length = fn := ⟨_, rfl⟩
  rw [hfn] at h2
  rw [hme, hse, hpe, hau, hfn]
  unfold rqC at hz hbz h2 hsz
  go_enter Tryd.func11, Tryd.ntmps11
  go_upto_region 1 with fail
  generalize w.alloc (.cells #[.string ⟨#[]⟩, .string ⟨#[]⟩, .string ⟨#[]⟩, .string ⟨#[]⟩, .slice none 0 0, .string ⟨#[]⟩, .slice none 0 0] 24) = w0 at *
  have g0 : w0.cell? ⟨b, 0, none⟩ = some (.string m) := by have := h2.obj.cell 0 (.string (H.m.getD ⟨#[]⟩)) rfl; rwa [hme] at this
  have g2 : w0.cell? ⟨b, 2, none⟩ = some (.string s) := by have := h2.obj.cell 2 (.string (H.s.getD ⟨#[]⟩)) rfl; rwa [hse] at this
  have g4 : w0.cell? ⟨b, 4, none⟩ = some (.string p) := by have := h2.obj.cell 4 (.string (H.p.getD ⟨#[]⟩)) rfl; rwa [hpe] at this
  have g6 : w0.cell? ⟨b, 6, none⟩ = some (.string a) := by have := h2.obj.cell 6 (.string (H.a.getD ⟨#[]⟩)) rfl; rwa [hae] at this
  have g7 : w0.cell? ⟨b, 7, none⟩ = some (.bool ab) := by have := h2.obj.cell 7 (.bool H.a.isSome) rfl; rwa [habe] at this
  have g8 : w0.cell? ⟨b, 8, none⟩ = some (.string ho) := by have := h2.obj.cell 8 (.string (H.h.getD ⟨#[]⟩)) rfl; rwa [hhe] at this
  have g9 : w0.cell? ⟨b, 9, none⟩ = some (.bool hb) := by have := h2.obj.cell 9 (.bool H.h.isSome) rfl; rwa [hhbe] at this
  have g11 : w0.cell? ⟨b, 11, none⟩ = some (.slice fo fn fc) := h2.obj.cell 11 _ rfl
  obtain ⟨rb, hrb⟩ : ∃ rb, w.heap.size = rb := ⟨_, rfl⟩
  have HBZ := hid' hbz
  have hbrb : b ≠ rb := by omega
  have hrow : ∀ (w2 : World) (xb : Nat) (au : ByteArray) (xx : Value), Below w0.heap.size w0 w2 → Ar w2 xb 36 #[.string au, xx] → (w2.cell? ⟨b, 0, none⟩ = some (.string m) ∧ w2.cell? ⟨b, 2, none⟩ = some (.string s) ∧ w2.cell? ⟨b, 4, none⟩ = some (.string p) ∧ w2.cell? ⟨b, 11, none⟩ = some (.slice fo fn fc) ∧ w2.cell? ⟨xb, 0, none⟩ = some (.string au)) := fun w2 xb au xx hb ha => ⟨(hb.cell (cell_lt g0)).trans g0, (hb.cell (cell_lt g2)).trans g2, (hb.cell (cell_lt g4)).trans g4, (hb.cell (cell_lt g11)).trans g11, ha.cell 0 _ rfl⟩
  have HROW := hid' hrow
  have HRZ : Hid (Ar w0 rb 24 #[.string ⟨#[]⟩, .string ⟨#[]⟩, .string ⟨#[]⟩, .string ⟨#[]⟩, .slice none 0 0, .string ⟨#[]⟩, .slice none 0 0]) := hid' (hrb ▸ hz)
  have hA1 : Ar (w0.alloc (.cells #[.string a, .bool ab] 36)) w0.heap.size 36 #[.string a, .bool ab] := heap_alloc_last w0 _
  have hB1 := bl_alloc w0 (.cells #[.string a, .bool ab] 36)
  obtain ⟨xb, hxb⟩ : ∃ xb, w0.heap.size = xb := ⟨_, rfl⟩
  have hxrb : xb ≠ rb := by omega
  have hbxb : b ≠ xb := by omega
  have HA1 := hid' hA1
  rw [hxb] at HA1
  clear h h2 hz hlt hbz hrow hsz hau hA1
  have k8 : (w0.alloc (.cells #[.string a, .bool ab] 36)).cell? ⟨b, 8, none⟩ = some (.string ho) := (hB1.cell (cell_lt g8)).trans g8
  have k9 : (w0.alloc (.cells #[.string a, .bool ab] 36)).cell? ⟨b, 9, none⟩ = some (.bool hb) := (hB1.cell (cell_lt g9)).trans g9
  have y0 : (w0.alloc (.cells #[.string a, .bool ab] 36)).cell? ⟨xb, 0, none⟩ = some (.string a) := HA1.out.cell 0 _ rfl
  have y1 : (w0.alloc (.cells #[.string a, .bool ab] 36)).cell? ⟨xb, 1, none⟩ = some (.bool ab) := HA1.out.cell 1 _ rfl
  have z0 := HA1.out.free 0
  have z1 := HA1.out.free 1
  have HB1 := hid' hB1
  clear hB1
  rw [hrb]
  cases ab
  · go_upto_region 4 with fail
    have hA2 : Ar (w0.alloc (.cells #[.string ho, .bool hb] 36)) xb 36 #[.string ho, .bool hb] := (by rw [← hxb]; exact heap_alloc_last w0 _)
    have hB2 : Below w0.heap.size w0 (w0.alloc (.cells #[.string ho, .bool hb] 36)) := bl_alloc w0 _
    have hR2 : Ar (w0.alloc (.cells #[.string ho, .bool hb] 36)) rb 24 #[.string ⟨#[]⟩, .string ⟨#[]⟩, .string ⟨#[]⟩, .string ⟨#[]⟩, .slice none 0 0, .string ⟨#[]⟩, .slice none 0 0] := HRZ.out.keep (bl_alloc w0 _)
    have hS := HROW.out (w0.alloc (.cells #[.string ho, .bool hb] 36)) xb ho _ hB2 hA2
    have HB2 := hid' hB2
    have HR2 := hid' hR2
    have HRL : Hid (w.heap.size ≤ rb) := hid' (by omega)
    clear hA2 hB2 hR2 k8 k9 y0 y1 z0 z1 HB1 HA1 g0 g2 g4 g6 g7 g8 g9 g11
    generalize w0.alloc (.cells #[.string ho, .bool hb] 36) = w2 at *
    obtain ⟨c0, c2, c4, c11, cx⟩ := hS
    refine wp_region_held_drew (S := fun W => W.cell? ⟨b, 0, none⟩ = some (.string m) ∧ W.cell? ⟨b, 2, none⟩ = some (.string s) ∧ W.cell? ⟨b, 4, none⟩ = some (.string p) ∧ W.cell? ⟨b, 11, none⟩ = some (.slice fo fn fc) ∧ W.cell? ⟨xb, 0, none⟩ = some (.string ho)) (by kernel_rfl) ⟨c0, c2, c4, c11, cx⟩ (fun hHeld => ?_)
    have hHeld2 := hHeld
    clear c0 c2 c4 c11 cx
    refine take_d14 (i := 0) (d := some 15) (v := ?_) rfl rfl (by kernel_rfl) (by kernel_rfl) (by kernel_rfl) (fun _ _ _ h => h) (Or.inl ⟨by rfl, ?_⟩) (by assumption) ?_
    rotate_left
    · intro w hSw
      (try dsimp only at hSw)
      obtain ⟨hs0, hs2, hs4, hs6, hs7⟩ := hSw
      go_simp
      try with_reducible rfl
    simp only [Act.put, List.setIfInBounds_toArray, List.set_cons_zero, List.set_cons_succ]
    refine take_d14 (i := 1) (d := some 16) (v := ?_) rfl rfl (by kernel_rfl) (by kernel_rfl) (by kernel_rfl) (fun _ _ _ h => h) (Or.inl ⟨by rfl, ?_⟩) (by assumption) ?_
    rotate_left
    · intro w hSw
      (try dsimp only at hSw)
      obtain ⟨hs0, hs2, hs4, hs6, hs7⟩ := hSw
      go_simp
      try with_reducible rfl
    simp only [Act.put, List.setIfInBounds_toArray, List.set_cons_zero, List.set_cons_succ]
    refine take_d14 (i := 2) (d := some 17) (v := ?_) rfl rfl (by kernel_rfl) (by kernel_rfl) (by kernel_rfl) (fun _ _ _ h => h) (Or.inl ⟨by rfl, ?_⟩) (by assumption) ?_
    rotate_left
    · intro w hSw
      (try dsimp only at hSw)
      obtain ⟨hs0, hs2, hs4, hs6, hs7⟩ := hSw
      go_simp
      try with_reducible rfl
    simp only [Act.put, List.setIfInBounds_toArray, List.set_cons_zero, List.set_cons_succ]
    refine take_d14 (i := 3) (d := some 18) (v := ?_) rfl rfl (by kernel_rfl) (by kernel_rfl) (by kernel_rfl) (fun _ _ _ h => h) (Or.inl ⟨by rfl, ?_⟩) (by assumption) ?_
    rotate_left
    · intro w hSw
      (try dsimp only at hSw)
      obtain ⟨hs0, hs2, hs4, hs6, hs7⟩ := hSw
      go_simp
      try with_reducible rfl
    simp only [Act.put, List.setIfInBounds_toArray, List.set_cons_zero, List.set_cons_succ]
    refine take_d14 (i := 4) (d := some 19) (v := ?_) rfl rfl (by kernel_rfl) (by kernel_rfl) (by kernel_rfl) (fun _ _ _ h => h) (Or.inl ⟨by rfl, ?_⟩) (by assumption) ?_
    rotate_left
    · intro w hSw
      (try dsimp only at hSw)
      obtain ⟨hs0, hs2, hs4, hs6, hs7⟩ := hSw
      go_simp
      try with_reducible rfl
    simp only [Act.put, List.setIfInBounds_toArray, List.set_cons_zero, List.set_cons_succ]
    refine take_d14 (i := 5) (d := some 20) (v := ?_) rfl rfl (by kernel_rfl) (by kernel_rfl) (by kernel_rfl) (fun _ _ _ h => h) (Or.inl ⟨by rfl, ?_⟩) (by assumption) ?_
    rotate_left
    · intro w hSw
      (try dsimp only at hSw)
      obtain ⟨hs0, hs2, hs4, hs6, hs7⟩ := hSw
      go_simp
      try with_reducible rfl
    simp only [Act.put, List.setIfInBounds_toArray, List.set_cons_zero, List.set_cons_succ]
    refine take_d14 (i := 6) (d := some 21) (v := ?_) rfl rfl (by kernel_rfl) (by kernel_rfl) (by kernel_rfl) (fun _ _ _ h => h) (Or.inl ⟨by rfl, ?_⟩) (by assumption) ?_
    rotate_left
    · intro w hSw
      (try dsimp only at hSw)
      obtain ⟨hs0, hs2, hs4, hs6, hs7⟩ := hSw
      go_simp
      try with_reducible rfl
    simp only [Act.put, List.setIfInBounds_toArray, List.set_cons_zero, List.set_cons_succ]
    refine take_d14 (i := 7) (d := some 22) (v := ?_) rfl rfl (by kernel_rfl) (by kernel_rfl) (by kernel_rfl) (fun _ _ _ h => h) (Or.inl ⟨by rfl, ?_⟩) (by assumption) ?_
    rotate_left
    · intro w hSw
      (try dsimp only at hSw)
      obtain ⟨hs0, hs2, hs4, hs6, hs7⟩ := hSw
      go_simp
      try with_reducible rfl
    simp only [Act.put, List.setIfInBounds_toArray, List.set_cons_zero, List.set_cons_succ]
    refine take_d14 (i := 8) (d := some 23) (v := ?_) rfl rfl (by kernel_rfl) (by kernel_rfl) (by kernel_rfl) (fun _ _ _ h => h) (Or.inl ⟨by rfl, ?_⟩) (by assumption) ?_
    rotate_left
    · intro w hSw
      (try dsimp only at hSw)
      obtain ⟨hs0, hs2, hs4, hs6, hs7⟩ := hSw
      go_simp
      try with_reducible rfl
    simp only [Act.put, List.setIfInBounds_toArray, List.set_cons_zero, List.set_cons_succ]
    refine take_d14 (i := 9) (d := some 24) (v := ?_) rfl rfl (by kernel_rfl) (by kernel_rfl) (by kernel_rfl) (fun _ _ _ h => h) (Or.inl ⟨by rfl, ?_⟩) (by assumption) ?_
    rotate_left
    · intro w hSw
      (try dsimp only at hSw)
      obtain ⟨hs0, hs2, hs4, hs6, hs7⟩ := hSw
      go_simp
      try with_reducible rfl
    simp only [Act.put, List.setIfInBounds_toArray, List.set_cons_zero, List.set_cons_succ]
    refine take_d14 (i := 10) (d := some 25) (v := ?_) rfl rfl (by kernel_rfl) (by kernel_rfl) (by kernel_rfl) (fun _ _ _ h => h) (Or.inl ⟨by rfl, ?_⟩) (by assumption) ?_
    rotate_left
    · intro w hSw
      (try dsimp only at hSw)
      obtain ⟨hs0, hs2, hs4, hs6, hs7⟩ := hSw
      go_simp
      try with_reducible rfl
    simp only [Act.put, List.setIfInBounds_toArray, List.set_cons_zero, List.set_cons_succ]
    refine take_d14 (i := 11) (d := some 26) (v := ?_) rfl rfl (by kernel_rfl) (by kernel_rfl) (by kernel_rfl) (fun _ _ _ h => h) (Or.inl ⟨by rfl, ?_⟩) (by assumption) ?_
    rotate_left
    · intro w hSw
      (try dsimp only at hSw)
      obtain ⟨hs0, hs2, hs4, hs6, hs7⟩ := hSw
      go_simp
      try with_reducible rfl
    simp only [Act.put, List.setIfInBounds_toArray, List.set_cons_zero, List.set_cons_succ]
    refine take_d14 (i := 12) (d := some 27) (v := ?_) rfl rfl (by kernel_rfl) (by kernel_rfl) (by kernel_rfl) (fun _ _ _ h => h) (Or.inl ⟨by rfl, ?_⟩) (by assumption) ?_
    rotate_left
    · intro w hSw
      (try dsimp only at hSw)
      obtain ⟨hs0, hs2, hs4, hs6, hs7⟩ := hSw
      go_simp
      try with_reducible rfl
    simp only [Act.put, List.setIfInBounds_toArray, List.set_cons_zero, List.set_cons_succ]
    refine take_d14 (i := 13) (d := some 28) (v := ?_) rfl rfl (by kernel_rfl) (by kernel_rfl) (by kernel_rfl) (fun _ _ _ h => h) (Or.inl ⟨by rfl, ?_⟩) (by assumption) ?_
    rotate_left
    · intro w hSw
      (try dsimp only at hSw)
      obtain ⟨hs0, hs2, hs4, hs6, hs7⟩ := hSw
      go_simp
      try with_reducible rfl
    simp only [Act.put, List.setIfInBounds_toArray, List.set_cons_zero, List.set_cons_succ]
    refine take_d14 (i := 14) (d := some 29) (v := ?_) rfl rfl (by kernel_rfl) (by kernel_rfl) (by kernel_rfl) (fun _ _ _ h => h) (Or.inl ⟨by rfl, ?_⟩) (by assumption) ?_
    rotate_left
    · intro w hSw
      (try dsimp only at hSw)
      obtain ⟨hs0, hs2, hs4, hs6, hs7⟩ := hSw
      go_simp
      try with_reducible rfl
    simp only [Act.put, List.setIfInBounds_toArray, List.set_cons_zero, List.set_cons_succ]
    refine take_d14 (i := 15) (d := some 30) (v := ?_) rfl rfl (by kernel_rfl) (by kernel_rfl) (by kernel_rfl) (fun _ _ _ h => h) (Or.inl ⟨by rfl, ?_⟩) (by assumption) ?_
    rotate_left
    · intro w hSw
      (try dsimp only at hSw)
      obtain ⟨hs0, hs2, hs4, hs6, hs7⟩ := hSw
      go_simp
      try with_reducible rfl
    simp only [Act.put, List.setIfInBounds_toArray, List.set_cons_zero, List.set_cons_succ]
    refine take_d14 (i := 16) (d := some 31) (v := ?_) rfl rfl (by kernel_rfl) (by kernel_rfl) (by kernel_rfl) (fun _ _ _ h => h) (Or.inl ⟨by rfl, ?_⟩) (by assumption) ?_
    rotate_left
    · intro w hSw
      (try dsimp only at hSw)
      obtain ⟨hs0, hs2, hs4, hs6, hs7⟩ := hSw
      go_simp
      try with_reducible rfl
    simp only [Act.put, List.setIfInBounds_toArray, List.set_cons_zero, List.set_cons_succ]
    refine take_d14 (i := 17) (d := some 32) (v := ?_) rfl rfl (by kernel_rfl) (by kernel_rfl) (by kernel_rfl) (fun _ _ _ h => h) (Or.inl ⟨by rfl, ?_⟩) (by assumption) ?_
    rotate_left
    · intro w hSw
      (try dsimp only at hSw)
      obtain ⟨hs0, hs2, hs4, hs6, hs7⟩ := hSw
      go_simp
      try with_reducible rfl
    simp only [Act.put, List.setIfInBounds_toArray, List.set_cons_zero, List.set_cons_succ]
    refine take_d14 (i := 18) (d := some 33) (v := ?_) rfl rfl (by kernel_rfl) (by kernel_rfl) (by kernel_rfl) (fun _ _ _ h => h) (Or.inl ⟨by rfl, ?_⟩) (by assumption) ?_
    rotate_left
    · intro w hSw
      (try dsimp only at hSw)
      obtain ⟨hs0, hs2, hs4, hs6, hs7⟩ := hSw
      go_simp
      try with_reducible rfl
    simp only [Act.put, List.setIfInBounds_toArray, List.set_cons_zero, List.set_cons_succ]
    refine take_d14 (i := 19) (d := some 34) (v := ?_) rfl rfl (by kernel_rfl) (by kernel_rfl) (by kernel_rfl) (fun _ _ _ h => h) (Or.inl ⟨by rfl, ?_⟩) (by assumption) ?_
    rotate_left
    · intro w hSw
      (try dsimp only at hSw)
      obtain ⟨hs0, hs2, hs4, hs6, hs7⟩ := hSw
      go_simp
      try with_reducible rfl
    simp only [Act.put, List.setIfInBounds_toArray, List.set_cons_zero, List.set_cons_succ]
    refine take_d14 (i := 20) (d := some 35) (v := ?_) rfl rfl (by kernel_rfl) (by kernel_rfl) (by kernel_rfl) (fun _ _ _ h => h) (Or.inl ⟨by rfl, ?_⟩) (by assumption) ?_
    rotate_left
    · intro w hSw
      (try dsimp only at hSw)
      obtain ⟨hs0, hs2, hs4, hs6, hs7⟩ := hSw
      go_simp
      try with_reducible rfl
    simp only [Act.put, List.setIfInBounds_toArray, List.set_cons_zero, List.set_cons_succ]
    refine take_d14 (i := 21) (d := some 36) (v := ?_) rfl rfl (by kernel_rfl) (by kernel_rfl) (by kernel_rfl) (fun _ _ _ h => h) (Or.inl ⟨by rfl, ?_⟩) (by assumption) ?_
    rotate_left
    · intro w hSw
      (try dsimp only at hSw)
      obtain ⟨hs0, hs2, hs4, hs6, hs7⟩ := hSw
      go_simp
      try with_reducible rfl
    simp only [Act.put, List.setIfInBounds_toArray, List.set_cons_zero, List.set_cons_succ]
    refine wpAnyH_ready (rs := [22]) (by kernel_rfl) (by simp) ?_
    refine AllReadyH.cons rfl (fun K hK => ?_) AllReadyH.nil
    refine step_store rfl 24 _ _ rfl rb #[.string m, .string s, .string ho, .string p, .slice fo fn fc, .string ⟨#[]⟩, .slice none 0 0] rfl rfl 24 _ (show Ar w2.drew rb 24 _ from HR2.out) sizeRq14 rfl (by simp [Value.oneCell']) ?_
    intro w4 hA4 hU4
    refine hK.out _ _ ⟨(World.cell?_of_block (hU4.block b hbrb)).trans hHeld2.1, (World.cell?_of_block (hU4.block b hbrb)).trans hHeld2.2.1, (World.cell?_of_block (hU4.block b hbrb)).trans hHeld2.2.2.1, (World.cell?_of_block (hU4.block b hbrb)).trans hHeld2.2.2.2.1, (World.cell?_of_block (hU4.block xb hxrb)).trans hHeld2.2.2.2.2⟩ (fun hHeld3 => ?_)
    have HB4 : Hid (Below w.heap.size w w4) := hid' (((below_two HBZ.out HB2.out).drew).trans (hU4.below HRL.out))
    clear hK K hU4 hHeld hHeld2 hHeld3
    try simp only [Act.put]
    refine wpAnyH_done (by kernel_rfl) ?_ _
    have o0 := hA4.cell 0 _ rfl
    have o1 := hA4.cell 1 _ rfl
    have o2 := hA4.cell 2 _ rfl
    have o3 := hA4.cell 3 _ rfl
    have o4 := hA4.cell 4 _ rfl
    have o5 := hA4.cell 5 _ rfl
    have o6 := hA4.cell 6 _ rfl
    go_wp2
    exact bodyPost_ret (v := .agg (rqC m s ho p (.slice fo fn fc) ⟨#[]⟩ (.slice none 0 0))) (by simp [results, Tryd.results11, go_sem, rqC, o0, o1, o2, o3, o4, o5, o6]) rfl ⟨rfl, hrb ▸ HB4.out⟩
  · go_upto_region 4 with fail
    have hA2 : Ar (w0.alloc (.cells #[.string a, .bool true] 36)) xb 36 #[.string a, .bool true] := HA1.out
    have hB2 : Below w0.heap.size w0 (w0.alloc (.cells #[.string a, .bool true] 36)) := HB1.out
    have hR2 : Ar (w0.alloc (.cells #[.string a, .bool true] 36)) rb 24 #[.string ⟨#[]⟩, .string ⟨#[]⟩, .string ⟨#[]⟩, .string ⟨#[]⟩, .slice none 0 0, .string ⟨#[]⟩, .slice none 0 0] := HRZ.out.keep HB1.out
    have hS := HROW.out (w0.alloc (.cells #[.string a, .bool true] 36)) xb a _ hB2 hA2
    have HB2 := hid' hB2
    have HR2 := hid' hR2
    have HRL : Hid (w.heap.size ≤ rb) := hid' (by omega)
    clear hA2 hB2 hR2 k8 k9 y0 y1 z0 z1 HB1 HA1 g0 g2 g4 g6 g7 g8 g9 g11
    generalize w0.alloc (.cells #[.string a, .bool true] 36) = w2 at *
    obtain ⟨c0, c2, c4, c11, cx⟩ := hS
    refine wp_region_held_drew (S := fun W => W.cell? ⟨b, 0, none⟩ = some (.string m) ∧ W.cell? ⟨b, 2, none⟩ = some (.string s) ∧ W.cell? ⟨b, 4, none⟩ = some (.string p) ∧ W.cell? ⟨b, 11, none⟩ = some (.slice fo fn fc) ∧ W.cell? ⟨xb, 0, none⟩ = some (.string a)) (by kernel_rfl) ⟨c0, c2, c4, c11, cx⟩ (fun hHeld => ?_)
    have hHeld2 := hHeld
    clear c0 c2 c4 c11 cx
    refine take_d14 (i := 0) (d := some 15) (v := ?_) rfl rfl (by kernel_rfl) (by kernel_rfl) (by kernel_rfl) (fun _ _ _ h => h) (Or.inl ⟨by rfl, ?_⟩) (by assumption) ?_
    rotate_left
    · intro w hSw
      (try dsimp only at hSw)
      obtain ⟨hs0, hs2, hs4, hs6, hs7⟩ := hSw
      go_simp
      try with_reducible rfl
    simp only [Act.put, List.setIfInBounds_toArray, List.set_cons_zero, List.set_cons_succ]
    refine take_d14 (i := 1) (d := some 16) (v := ?_) rfl rfl (by kernel_rfl) (by kernel_rfl) (by kernel_rfl) (fun _ _ _ h => h) (Or.inl ⟨by rfl, ?_⟩) (by assumption) ?_
    rotate_left
    · intro w hSw
      (try dsimp only at hSw)
      obtain ⟨hs0, hs2, hs4, hs6, hs7⟩ := hSw
      go_simp
      try with_reducible rfl
    simp only [Act.put, List.setIfInBounds_toArray, List.set_cons_zero, List.set_cons_succ]
    refine take_d14 (i := 2) (d := some 17) (v := ?_) rfl rfl (by kernel_rfl) (by kernel_rfl) (by kernel_rfl) (fun _ _ _ h => h) (Or.inl ⟨by rfl, ?_⟩) (by assumption) ?_
    rotate_left
    · intro w hSw
      (try dsimp only at hSw)
      obtain ⟨hs0, hs2, hs4, hs6, hs7⟩ := hSw
      go_simp
      try with_reducible rfl
    simp only [Act.put, List.setIfInBounds_toArray, List.set_cons_zero, List.set_cons_succ]
    refine take_d14 (i := 3) (d := some 18) (v := ?_) rfl rfl (by kernel_rfl) (by kernel_rfl) (by kernel_rfl) (fun _ _ _ h => h) (Or.inl ⟨by rfl, ?_⟩) (by assumption) ?_
    rotate_left
    · intro w hSw
      (try dsimp only at hSw)
      obtain ⟨hs0, hs2, hs4, hs6, hs7⟩ := hSw
      go_simp
      try with_reducible rfl
    simp only [Act.put, List.setIfInBounds_toArray, List.set_cons_zero, List.set_cons_succ]
    refine take_d14 (i := 4) (d := some 19) (v := ?_) rfl rfl (by kernel_rfl) (by kernel_rfl) (by kernel_rfl) (fun _ _ _ h => h) (Or.inl ⟨by rfl, ?_⟩) (by assumption) ?_
    rotate_left
    · intro w hSw
      (try dsimp only at hSw)
      obtain ⟨hs0, hs2, hs4, hs6, hs7⟩ := hSw
      go_simp
      try with_reducible rfl
    simp only [Act.put, List.setIfInBounds_toArray, List.set_cons_zero, List.set_cons_succ]
    refine take_d14 (i := 5) (d := some 20) (v := ?_) rfl rfl (by kernel_rfl) (by kernel_rfl) (by kernel_rfl) (fun _ _ _ h => h) (Or.inl ⟨by rfl, ?_⟩) (by assumption) ?_
    rotate_left
    · intro w hSw
      (try dsimp only at hSw)
      obtain ⟨hs0, hs2, hs4, hs6, hs7⟩ := hSw
      go_simp
      try with_reducible rfl
    simp only [Act.put, List.setIfInBounds_toArray, List.set_cons_zero, List.set_cons_succ]
    refine take_d14 (i := 6) (d := some 21) (v := ?_) rfl rfl (by kernel_rfl) (by kernel_rfl) (by kernel_rfl) (fun _ _ _ h => h) (Or.inl ⟨by rfl, ?_⟩) (by assumption) ?_
    rotate_left
    · intro w hSw
      (try dsimp only at hSw)
      obtain ⟨hs0, hs2, hs4, hs6, hs7⟩ := hSw
      go_simp
      try with_reducible rfl
    simp only [Act.put, List.setIfInBounds_toArray, List.set_cons_zero, List.set_cons_succ]
    refine take_d14 (i := 7) (d := some 22) (v := ?_) rfl rfl (by kernel_rfl) (by kernel_rfl) (by kernel_rfl) (fun _ _ _ h => h) (Or.inl ⟨by rfl, ?_⟩) (by assumption) ?_
    rotate_left
    · intro w hSw
      (try dsimp only at hSw)
      obtain ⟨hs0, hs2, hs4, hs6, hs7⟩ := hSw
      go_simp
      try with_reducible rfl
    simp only [Act.put, List.setIfInBounds_toArray, List.set_cons_zero, List.set_cons_succ]
    refine take_d14 (i := 8) (d := some 23) (v := ?_) rfl rfl (by kernel_rfl) (by kernel_rfl) (by kernel_rfl) (fun _ _ _ h => h) (Or.inl ⟨by rfl, ?_⟩) (by assumption) ?_
    rotate_left
    · intro w hSw
      (try dsimp only at hSw)
      obtain ⟨hs0, hs2, hs4, hs6, hs7⟩ := hSw
      go_simp
      try with_reducible rfl
    simp only [Act.put, List.setIfInBounds_toArray, List.set_cons_zero, List.set_cons_succ]
    refine take_d14 (i := 9) (d := some 24) (v := ?_) rfl rfl (by kernel_rfl) (by kernel_rfl) (by kernel_rfl) (fun _ _ _ h => h) (Or.inl ⟨by rfl, ?_⟩) (by assumption) ?_
    rotate_left
    · intro w hSw
      (try dsimp only at hSw)
      obtain ⟨hs0, hs2, hs4, hs6, hs7⟩ := hSw
      go_simp
      try with_reducible rfl
    simp only [Act.put, List.setIfInBounds_toArray, List.set_cons_zero, List.set_cons_succ]
    refine take_d14 (i := 10) (d := some 25) (v := ?_) rfl rfl (by kernel_rfl) (by kernel_rfl) (by kernel_rfl) (fun _ _ _ h => h) (Or.inl ⟨by rfl, ?_⟩) (by assumption) ?_
    rotate_left
    · intro w hSw
      (try dsimp only at hSw)
      obtain ⟨hs0, hs2, hs4, hs6, hs7⟩ := hSw
      go_simp
      try with_reducible rfl
    simp only [Act.put, List.setIfInBounds_toArray, List.set_cons_zero, List.set_cons_succ]
    refine take_d14 (i := 11) (d := some 26) (v := ?_) rfl rfl (by kernel_rfl) (by kernel_rfl) (by kernel_rfl) (fun _ _ _ h => h) (Or.inl ⟨by rfl, ?_⟩) (by assumption) ?_
    rotate_left
    · intro w hSw
      (try dsimp only at hSw)
      obtain ⟨hs0, hs2, hs4, hs6, hs7⟩ := hSw
      go_simp
      try with_reducible rfl
    simp only [Act.put, List.setIfInBounds_toArray, List.set_cons_zero, List.set_cons_succ]
    refine take_d14 (i := 12) (d := some 27) (v := ?_) rfl rfl (by kernel_rfl) (by kernel_rfl) (by kernel_rfl) (fun _ _ _ h => h) (Or.inl ⟨by rfl, ?_⟩) (by assumption) ?_
    rotate_left
    · intro w hSw
      (try dsimp only at hSw)
      obtain ⟨hs0, hs2, hs4, hs6, hs7⟩ := hSw
      go_simp
      try with_reducible rfl
    simp only [Act.put, List.setIfInBounds_toArray, List.set_cons_zero, List.set_cons_succ]
    refine take_d14 (i := 13) (d := some 28) (v := ?_) rfl rfl (by kernel_rfl) (by kernel_rfl) (by kernel_rfl) (fun _ _ _ h => h) (Or.inl ⟨by rfl, ?_⟩) (by assumption) ?_
    rotate_left
    · intro w hSw
      (try dsimp only at hSw)
      obtain ⟨hs0, hs2, hs4, hs6, hs7⟩ := hSw
      go_simp
      try with_reducible rfl
    simp only [Act.put, List.setIfInBounds_toArray, List.set_cons_zero, List.set_cons_succ]
    refine take_d14 (i := 14) (d := some 29) (v := ?_) rfl rfl (by kernel_rfl) (by kernel_rfl) (by kernel_rfl) (fun _ _ _ h => h) (Or.inl ⟨by rfl, ?_⟩) (by assumption) ?_
    rotate_left
    · intro w hSw
      (try dsimp only at hSw)
      obtain ⟨hs0, hs2, hs4, hs6, hs7⟩ := hSw
      go_simp
      try with_reducible rfl
    simp only [Act.put, List.setIfInBounds_toArray, List.set_cons_zero, List.set_cons_succ]
    refine take_d14 (i := 15) (d := some 30) (v := ?_) rfl rfl (by kernel_rfl) (by kernel_rfl) (by kernel_rfl) (fun _ _ _ h => h) (Or.inl ⟨by rfl, ?_⟩) (by assumption) ?_
    rotate_left
    · intro w hSw
      (try dsimp only at hSw)
      obtain ⟨hs0, hs2, hs4, hs6, hs7⟩ := hSw
      go_simp
      try with_reducible rfl
    simp only [Act.put, List.setIfInBounds_toArray, List.set_cons_zero, List.set_cons_succ]
    refine take_d14 (i := 16) (d := some 31) (v := ?_) rfl rfl (by kernel_rfl) (by kernel_rfl) (by kernel_rfl) (fun _ _ _ h => h) (Or.inl ⟨by rfl, ?_⟩) (by assumption) ?_
    rotate_left
    · intro w hSw
      (try dsimp only at hSw)
      obtain ⟨hs0, hs2, hs4, hs6, hs7⟩ := hSw
      go_simp
      try with_reducible rfl
    simp only [Act.put, List.setIfInBounds_toArray, List.set_cons_zero, List.set_cons_succ]
    refine take_d14 (i := 17) (d := some 32) (v := ?_) rfl rfl (by kernel_rfl) (by kernel_rfl) (by kernel_rfl) (fun _ _ _ h => h) (Or.inl ⟨by rfl, ?_⟩) (by assumption) ?_
    rotate_left
    · intro w hSw
      (try dsimp only at hSw)
      obtain ⟨hs0, hs2, hs4, hs6, hs7⟩ := hSw
      go_simp
      try with_reducible rfl
    simp only [Act.put, List.setIfInBounds_toArray, List.set_cons_zero, List.set_cons_succ]
    refine take_d14 (i := 18) (d := some 33) (v := ?_) rfl rfl (by kernel_rfl) (by kernel_rfl) (by kernel_rfl) (fun _ _ _ h => h) (Or.inl ⟨by rfl, ?_⟩) (by assumption) ?_
    rotate_left
    · intro w hSw
      (try dsimp only at hSw)
      obtain ⟨hs0, hs2, hs4, hs6, hs7⟩ := hSw
      go_simp
      try with_reducible rfl
    simp only [Act.put, List.setIfInBounds_toArray, List.set_cons_zero, List.set_cons_succ]
    refine take_d14 (i := 19) (d := some 34) (v := ?_) rfl rfl (by kernel_rfl) (by kernel_rfl) (by kernel_rfl) (fun _ _ _ h => h) (Or.inl ⟨by rfl, ?_⟩) (by assumption) ?_
    rotate_left
    · intro w hSw
      (try dsimp only at hSw)
      obtain ⟨hs0, hs2, hs4, hs6, hs7⟩ := hSw
      go_simp
      try with_reducible rfl
    simp only [Act.put, List.setIfInBounds_toArray, List.set_cons_zero, List.set_cons_succ]
    refine take_d14 (i := 20) (d := some 35) (v := ?_) rfl rfl (by kernel_rfl) (by kernel_rfl) (by kernel_rfl) (fun _ _ _ h => h) (Or.inl ⟨by rfl, ?_⟩) (by assumption) ?_
    rotate_left
    · intro w hSw
      (try dsimp only at hSw)
      obtain ⟨hs0, hs2, hs4, hs6, hs7⟩ := hSw
      go_simp
      try with_reducible rfl
    simp only [Act.put, List.setIfInBounds_toArray, List.set_cons_zero, List.set_cons_succ]
    refine take_d14 (i := 21) (d := some 36) (v := ?_) rfl rfl (by kernel_rfl) (by kernel_rfl) (by kernel_rfl) (fun _ _ _ h => h) (Or.inl ⟨by rfl, ?_⟩) (by assumption) ?_
    rotate_left
    · intro w hSw
      (try dsimp only at hSw)
      obtain ⟨hs0, hs2, hs4, hs6, hs7⟩ := hSw
      go_simp
      try with_reducible rfl
    simp only [Act.put, List.setIfInBounds_toArray, List.set_cons_zero, List.set_cons_succ]
    refine wpAnyH_ready (rs := [22]) (by kernel_rfl) (by simp) ?_
    refine AllReadyH.cons rfl (fun K hK => ?_) AllReadyH.nil
    refine step_store rfl 24 _ _ rfl rb #[.string m, .string s, .string a, .string p, .slice fo fn fc, .string ⟨#[]⟩, .slice none 0 0] rfl rfl 24 _ (show Ar w2.drew rb 24 _ from HR2.out) sizeRq14 rfl (by simp [Value.oneCell']) ?_
    intro w4 hA4 hU4
    refine hK.out _ _ ⟨(World.cell?_of_block (hU4.block b hbrb)).trans hHeld2.1, (World.cell?_of_block (hU4.block b hbrb)).trans hHeld2.2.1, (World.cell?_of_block (hU4.block b hbrb)).trans hHeld2.2.2.1, (World.cell?_of_block (hU4.block b hbrb)).trans hHeld2.2.2.2.1, (World.cell?_of_block (hU4.block xb hxrb)).trans hHeld2.2.2.2.2⟩ (fun hHeld3 => ?_)
    have HB4 : Hid (Below w.heap.size w w4) := hid' (((below_two HBZ.out HB2.out).drew).trans (hU4.below HRL.out))
    clear hK K hU4 hHeld hHeld2 hHeld3
    try simp only [Act.put]
    refine wpAnyH_done (by kernel_rfl) ?_ _
    have o0 := hA4.cell 0 _ rfl
    have o1 := hA4.cell 1 _ rfl
    have o2 := hA4.cell 2 _ rfl
    have o3 := hA4.cell 3 _ rfl
    have o4 := hA4.cell 4 _ rfl
    have o5 := hA4.cell 5 _ rfl
    have o6 := hA4.cell 6 _ rfl
    go_wp2
    exact bodyPost_ret (v := .agg (rqC m s a p (.slice fo fn fc) ⟨#[]⟩ (.slice none 0 0))) (by simp [results, Tryd.results11, go_sem, rqC, o0, o1, o2, o3, o4, o5, o6]) rfl ⟨rfl, hrb ▸ HB4.out⟩

end Go.Proofs.YtkfekopenahmdaaDoor

namespace Go.Proofs.YtkfekopenahmdaaDoor
open Go.RowKit

/-- A request's value: its parts, its fields' row. -/
def rqV (R : Ms.Rq) (fv : Value) : Value := .agg (rqC R.m R.s R.a R.p fv ⟨#[]⟩ (.slice none 0 0))
theorem fnd_size {x : Ms.T8} {l : List Fd} {n : Nat} (hs : ∀ f ∈ l, f.n.size ≤ n ∧ f.v.size ≤ n) : ((Ms.fnd x l).getD ⟨#[]⟩).size ≤ n := by
  induction l with
  | nil => exact Nat.zero_le _
  | cons f r ih =>
    rw [Ms.fnd]
    split
    · exact (hs f (by simp)).2
    · exact ih (fun g hg => hs g (by simp [hg]))
theorem zeroHd : (Tryd.prog.info? 38).map (fun i => i.zero) = some (some (.agg (hdC (Ms.hof []) (.slice none 0 0)))) := by kernel_rfl
theorem auV_hof (l : List Fd) : auV (Ms.hof l) = Ms.auth l := rfl
theorem ret_two14 {a b : Value} {c d : Int} (h1 : a = b) (h2 : c = d) : Ending.returned (.tuple #[a, .int .i64 c]) = .returned (.tuple #[b, .int .i64 d]) := by rw [h1, h2]

theorem ar_bel {w w' : World} {a B : Nat} {T : TypeId} {c : Array Value} (h : Ar w a T c) (hb : Below B w w') (hl : a < B) : Ar w' a T c := by
  unfold Ar at *
  rw [hb.block a hl]
  exact h
theorem own_base {w : World} {B B' : Nat} {e : TypeId} {s : Nat} {v : Value} {n : Nat} {xs : List Value} (h : w.ownsRow B e s v n xs) (hB : B' ≤ B) : w.ownsRow B' e s v n xs := by
  refine ⟨h.1, ?_⟩
  rcases h.2 with h2 | ⟨g, cap, cur, h1, h2, h3⟩
  · exact .inl h2
  · exact .inr ⟨g, cap, cur, h1, Nat.le_trans hB h2, h3⟩

set_option maxHeartbeats 4000000 in
set_option maxRecDepth 20000 in
theorem ctwo14 (v : Value) (l : List Fd) (w : World) (h : FW w v l) (hT : TB w) (hl : l.length ≤ 4398046510976) (hs : ∀ f ∈ l, f.n.size ≤ 140737488355328 ∧ f.v.size ≤ 140737488355328) :
    Calls Tryd.prog 4 #[v] w fun e w' => (∃ fv, e = .returned (.tuple #[rqV (Ms.twoR l) fv, .int .i64 (Ms.twoE l)]) ∧ w'.ownsRow w.heap.size 30 2 fv (Ms.twoR l).fs.length (fC (Ms.twoR l).fs)) ∧ Below w.heap.size w w' := by
  obtain ⟨ao, cap, hv⟩ := h.shape
  subst hv
  obtain ⟨n, hn⟩ : ∃ n, l.length = n := ⟨_, rfl⟩
  rw [hn] at h ⊢
  obtain ⟨c0, hc0⟩ : ∃ c0, Ms.walk [] false l = c0 := ⟨_, rfl⟩
  have H := hid' h
  have HN := hid' hn
  have HS := hid' hs
  have HTB := hid' hT
  have HC0 := hid' hc0
  have HL := hid' hl
  have hz := rq_zero w
  have hbz := bl_alloc w (.cells (rqC ⟨#[]⟩ ⟨#[]⟩ ⟨#[]⟩ ⟨#[]⟩ (.slice none 0 0) ⟨#[]⟩ (.slice none 0 0)) 24)
  have hsz : (w.alloc (.cells (rqC ⟨#[]⟩ ⟨#[]⟩ ⟨#[]⟩ ⟨#[]⟩ (.slice none 0 0) ⟨#[]⟩ (.slice none 0 0)) 24)).heap.size = w.heap.size + 1 := by simp
  unfold rqC at hz hbz hsz
  clear h hn hs hT hc0
  have hn2 : n ≤ 4398046510976 := by have := HN.out; omega
  go_enter Tryd.func4, Tryd.ntmps4
  go_upto_region 1 with fail
  generalize w.alloc (.cells #[.string ⟨#[]⟩, .string ⟨#[]⟩, .string ⟨#[]⟩, .string ⟨#[]⟩, .slice none 0 0, .string ⟨#[]⟩, .slice none 0 0] 24) = w0 at *
  have hA1 : Ar (w0.alloc (.cells (hdC (Ms.hof []) (.slice none 0 0)) 38)) w0.heap.size 38 (hdC (Ms.hof []) (.slice none 0 0)) := heap_alloc_last w0 _
  have hB1 := bl_alloc w0 (.cells (hdC (Ms.hof []) (.slice none 0 0)) 38)
  have HT0 := hid' (HTB.out.keep hbz)
  have HM1 : Hid (HM (w0.alloc (.cells (hdC (Ms.hof []) (.slice none 0 0)) 38)) w0.heap.size w0.heap.size (Ms.hof []) (.slice none 0 0)) := hid' ⟨Nat.le_refl _, hA1, World.ownsRow_nil _ _ _ _⟩
  have HBW := hid' (below_two hbz hB1)
  have HR1 : Hid (Ar (w0.alloc (.cells (hdC (Ms.hof []) (.slice none 0 0)) 38)) w.heap.size 24 #[.string ⟨#[]⟩, .string ⟨#[]⟩, .string ⟨#[]⟩, .string ⟨#[]⟩, .slice none 0 0, .string ⟨#[]⟩, .slice none 0 0]) := hid' (hz.keep hB1)
  go_upto_region 2 with fail
  change Code.wp _ _ _ _ (w0.alloc (.cells (hdC (Ms.hof []) (.slice none 0 0)) 38))
  obtain ⟨rb, hrb⟩ : ∃ rb, w.heap.size = rb := ⟨_, rfl⟩
  have HRB := hid' hrb
  obtain ⟨b, hb⟩ : ∃ b, w0.heap.size = b := ⟨_, rfl⟩
  have HBB : Hid (rb < b) := hid' (by omega)
  rw [hrb] at HR1 ⊢
  have hb2 : rb + 1 = b := by omega
  rw [hb2]
  rw [hb] at HM1
  clear hA1 hB1 hz hbz hsz hrb hb hb2
  generalize w0.alloc (.cells (hdC (Ms.hof []) (.slice none 0 0)) 38) = w1 at *
  go_wp2
  go_loopw [11] (fun s11 wr => ∃ (k : Nat) (fv : Value), s11 = .int .i64 (k : Int) ∧ k ≤ n ∧ Hid (HM wr b b (Ms.hof (l.take k)) fv) ∧ Hid (Below b w1 wr) ∧ Hid (Ms.walk (l.take k) (Ms.hof (l.take k)).bg (l.drop k) = c0)) (fun s11 _ => n - (intOf s11).toNat)
  case atStart => exact ⟨0, _, rfl, Nat.zero_le _, HM1, hid' (Below.refl _ _), HC0⟩
  case round =>
    obtain ⟨k, fv, rfl, hk, HX, HB, HI⟩ := hrel
    have HBWr : Hid (Below w.heap.size w wr) := hid' (HBW.out.trans (HB.out.mono (by have := HRB.out; have := HBB.out; omega)))
    have HR := hid' (ar_bel HR1.out HB.out HBB.out)
    by_cases hlt : k < n
    · have hlt2 : (k : Int) < (n : Int) := by omega
      obtain ⟨p, hp⟩ : ∃ p, l[k]? = some p := ⟨_, List.getElem?_eq_getElem (by rw [HN.out]; exact hlt)⟩
      obtain ⟨a, hao, y0, y1⟩ := (H.out.keep HBWr.out).two k p hp
      subst hao
      have HST := hid' (Ms.walk_step hp)
      have HTS := hid' (Ms.take_snoc hp)
      have HPS := hid' (HS.out p (List.mem_of_getElem? hp))
      obtain ⟨c, hc⟩ : ∃ c, Ms.step1 (l.take k) p = c := ⟨_, rfl⟩
      have HC := hid' hc
      clear hp hc
      have hba := bl_alloc wr (.cells #[.string p.n, .string p.v] 30)
      have HX1 := hid' (HX.out.keep hba)
      have HB1 : Hid (Below b w1 (wr.alloc (.cells #[.string p.n, .string p.v] 30))) := hid' (HB.out.trans (hba.mono (by have := HX.out.obj.lt; omega)))
      clear hba HX HB HR HBWr
      go_wp2_with fail
      generalize wr.alloc (.cells #[.string p.n, .string p.v] 30) = w2 at *
      clear y0 y1
      refine (cadd14 b b (l.take k) p fv c HC.out w2 HX1.out (by rw [List.length_take]; omega) HPS.out.1 HPS.out.2).mono ?_
      rintro e w3 ⟨rfl, hb3, hm3⟩
      have HB3 : Hid (Below b w1 w3) := hid' (HB1.out.trans hb3)
      have HM3 := hid' hm3
      have HR := hid' (ar_bel HR1.out HB3.out HBB.out)
      clear hb3 hm3 HB1 HX1
      cases e0 : (c == 0)
      · have e1 : (c != 0) = true := by unfold bne; rw [e0]; rfl
        have e2 : ¬ c = 0 := by intro e; rw [e] at e0; simp at e0
        have HCC : Hid (c0 = c) := hid' (by have h1 := HST.out; rw [HI.out, HC.out, e0] at h1; exact h1)
        have HE : Hid (Ms.twoE l = c) := hid' (by unfold Ms.twoE; rw [HC0.out, HCC.out, e0]; rfl)
        have HRR : Hid (Ms.twoR l = Ms.rq0) := hid' (by unfold Ms.twoR; rw [HE.out, e0]; rfl)
        go_wp2_with (refine wpl_store 24 _ _ rfl rfl rb (#[.string ⟨#[]⟩, .string ⟨#[]⟩, .string ⟨#[]⟩, .string ⟨#[]⟩, .slice none 0 0, .string ⟨#[]⟩, .slice none 0 0]) (by kernel_rfl) (by kernel_rfl) _ _ HR.out sizeRq14 rfl (by simp [Value.oneCell']) ?_)
        intro w4 hA4 hU4
        have HB4 : Hid (Below w.heap.size w w4) := hid' ((HBW.out.trans (HB3.out.mono (by have := HRB.out; have := HBB.out; omega))).trans (hU4.below (by have := HRB.out; omega)))
        have o0 := hA4.cell 0 _ rfl
        have o1 := hA4.cell 1 _ rfl
        have o2 := hA4.cell 2 _ rfl
        have o3 := hA4.cell 3 _ rfl
        have o4 := hA4.cell 4 _ rfl
        have o5 := hA4.cell 5 _ rfl
        have o6 := hA4.cell 6 _ rfl
        clear hU4 hA4
        go_wp2
        exact bodyPost_ret (v := .tuple #[rqV Ms.rq0 (.slice none 0 0), .int .i64 c]) (by simp [results, Tryd.results4, go_sem, rqV, rqC, Ms.rq0, Ms.e0, o0, o1, o2, o3, o4, o5, o6]) rfl ⟨⟨_, ret_two14 (by rw [HRR.out]) HE.out.symm, by rw [HRR.out]; exact World.ownsRow_nil _ _ _ _⟩, HB4.out⟩
      · obtain rfl : c = 0 := beq_iff_eq.1 e0
        obtain ⟨fv', hm'⟩ := HM3.out rfl
        have HM' : Hid (HM w3 b b (Ms.hof (l.take (k + 1))) fv') := hid' (by rw [HTS.out]; exact hm')
        have HCC : Hid (Ms.walk (l.take (k + 1)) (Ms.hof (l.take (k + 1))).bg (l.drop (k + 1)) = c0) := hid' (by have h1 := HST.out; rw [HI.out, HC.out] at h1; exact h1.symm)
        clear hm' e0
        go_wp2
        go_roundw
        case rel => exact ⟨k + 1, fv', by go_num, by omega, HM', HB3, HCC⟩
        case measure => simp [intOf]; omega
    · obtain rfl : k = n := by omega
      have hlt2 : ¬ (k : Int) < (k : Int) := by omega
      have HTK : Hid (l.take k = l) := hid' (List.take_of_length_le (by rw [HN.out]; exact Nat.le_refl _))
      have HXL : Hid (HM wr b b (Ms.hof l) fv) := hid' (by have := HX.out; rwa [HTK.out] at this)
      have HW0 : Hid (Ms.walk [] false l = 0) := hid' (by rw [HC0.out, ← HI.out, List.drop_of_length_le (by rw [HN.out]; exact Nat.le_refl _)]; rfl)
      obtain ⟨c, hc⟩ : ∃ c, Ms.faultE (Ms.hof l) = c := ⟨_, rfl⟩
      have HE : Hid (Ms.twoE l = c) := hid' (by rw [Ms.twoE_fault, HW0.out, ← hc]; rfl)
      have HC := hid' hc
      have HKS : Hid (∀ f ∈ Ms.keep l, f.n.size ≤ 140737488355328 ∧ f.v.size ≤ 140737488355328) := hid' (fun f hf => HS.out f (List.mem_filter.1 hf).1)
      clear hlt hc
      go_wp2_with fail
      refine (cfault14 b b (Ms.hof l) fv c HC.out wr HXL.out (HTB.out.keep HBWr.out) (Nat.le_trans (List.length_filter_le _ _) HL.out) HKS.out (fnd_size HS.out) (fnd_size HS.out)).mono ?_
      rintro e w3 ⟨rfl, hb3⟩
      have HX3 := hid' (HXL.out.keep hb3)
      have HB3 : Hid (Below b w1 w3) := hid' (HB.out.trans (hb3.mono (Nat.le_of_lt HXL.out.obj.lt)))
      have HR := hid' (ar_bel HR1.out HB3.out HBB.out)
      clear hb3
      cases e0 : (c == 0)
      · have e1 : (c != 0) = true := by unfold bne; rw [e0]; rfl
        have e2 : ¬ c = 0 := by intro e; rw [e] at e0; simp at e0
        have HRR : Hid (Ms.twoR l = Ms.rq0) := hid' (by unfold Ms.twoR; rw [HE.out, e0]; rfl)
        go_wp2_with (refine wpl_store 24 _ _ rfl rfl rb (#[.string ⟨#[]⟩, .string ⟨#[]⟩, .string ⟨#[]⟩, .string ⟨#[]⟩, .slice none 0 0, .string ⟨#[]⟩, .slice none 0 0]) (by kernel_rfl) (by kernel_rfl) _ _ HR.out sizeRq14 rfl (by simp [Value.oneCell']) ?_)
        intro w4 hA4 hU4
        have HB4 : Hid (Below w.heap.size w w4) := hid' ((HBW.out.trans (HB3.out.mono (by have := HRB.out; have := HBB.out; omega))).trans (hU4.below (by have := HRB.out; omega)))
        have o0 := hA4.cell 0 _ rfl
        have o1 := hA4.cell 1 _ rfl
        have o2 := hA4.cell 2 _ rfl
        have o3 := hA4.cell 3 _ rfl
        have o4 := hA4.cell 4 _ rfl
        have o5 := hA4.cell 5 _ rfl
        have o6 := hA4.cell 6 _ rfl
        clear hU4 hA4
        go_wp2
        exact bodyPost_ret (v := .tuple #[rqV Ms.rq0 (.slice none 0 0), .int .i64 c]) (by simp [results, Tryd.results4, go_sem, rqV, rqC, Ms.rq0, Ms.e0, o0, o1, o2, o3, o4, o5, o6]) rfl ⟨⟨_, ret_two14 (by rw [HRR.out]) HE.out.symm, by rw [HRR.out]; exact World.ownsRow_nil _ _ _ _⟩, HB4.out⟩
      · obtain rfl : c = 0 := beq_iff_eq.1 e0
        have HRR : Hid (Ms.twoR l = ⟨Ms.gd Ms.sMethod l, Ms.gd Ms.sScheme l, Ms.auth l, Ms.gd Ms.sPath l, Ms.keep l⟩) := hid' (by unfold Ms.twoR; rw [HE.out]; rfl)
        clear e0
        go_wp2_with fail
        refine (creq14 b b (Ms.hof l) fv w3 HX3.out).mono ?_
        rintro e w5 ⟨he, hb5⟩
        have hee : e = .returned (.agg (rqC (Ms.gd Ms.sMethod l) (Ms.gd Ms.sScheme l) (Ms.auth l) (Ms.gd Ms.sPath l) fv ⟨#[]⟩ (.slice none 0 0))) := he
        subst hee
        have HX5 := hid' (HX3.out.keep hb5)
        have HB5 : Hid (Below b w1 w5) := hid' (HB3.out.trans (hb5.mono (Nat.le_of_lt HX3.out.obj.lt)))
        clear HR he
        have HR := hid' (ar_bel HR1.out HB5.out HBB.out)
        obtain ⟨fo, fc, hfv⟩ := own_shape HX5.out.row
        subst hfv
        obtain ⟨fn, hfn⟩ : ∃ fn, (Ms.hof l).fs.length = fn := ⟨_, rfl⟩
        have HROW : Hid (w5.ownsRow b 30 2 (.slice fo fn fc) fn (fC (Ms.keep l))) := hid' (by have := HX5.out.row; rwa [hfn] at this)
        have HFN : Hid ((Ms.keep l).length = fn) := hid' hfn
        rw [hfn]
        clear hfn hb5 HX5 HX3 HXL HX
        obtain ⟨m, hm⟩ : ∃ m, Ms.gd Ms.sMethod l = m := ⟨_, rfl⟩
        obtain ⟨s, hs⟩ : ∃ s, Ms.gd Ms.sScheme l = s := ⟨_, rfl⟩
        obtain ⟨au, hau⟩ : ∃ au, Ms.auth l = au := ⟨_, rfl⟩
        obtain ⟨p, hp⟩ : ∃ p, Ms.gd Ms.sPath l = p := ⟨_, rfl⟩
        rw [hm, hs, hau, hp] at HRR ⊢
        unfold rqC
        clear hm hs hau hp
        go_wp2_with (refine wpl_store 24 _ _ rfl rfl rb (#[.string m, .string s, .string au, .string p, .slice fo fn fc, .string ⟨#[]⟩, .slice none 0 0]) (by kernel_rfl) (by kernel_rfl) _ _ HR.out sizeRq14 rfl (by simp [Value.oneCell']) ?_)
        intro w4 hA4 hU4
        have HB4 : Hid (Below w.heap.size w w4) := hid' ((HBW.out.trans (HB5.out.mono (by have := HRB.out; have := HBB.out; omega))).trans (hU4.below (by have := HRB.out; omega)))
        have HRW : Hid (w4.ownsRow w.heap.size 30 2 (.slice fo fn fc) fn (fC (Ms.keep l))) := hid' (own_base (own_same HROW.out (fun k hk => hU4.block k (by have := (own_ty HROW.out k hk).1; have := HBB.out; omega))) (by have := HBB.out; have := HRB.out; omega))
        have o0 := hA4.cell 0 _ rfl
        have o1 := hA4.cell 1 _ rfl
        have o2 := hA4.cell 2 _ rfl
        have o3 := hA4.cell 3 _ rfl
        have o4 := hA4.cell 4 _ rfl
        have o5 := hA4.cell 5 _ rfl
        have o6 := hA4.cell 6 _ rfl
        clear hU4 hA4
        go_wp2
        exact bodyPost_ret (v := .tuple #[rqV ⟨m, s, au, p, Ms.keep l⟩ (.slice fo fn fc), .int .i64 0]) (by simp [results, Tryd.results4, go_sem, rqV, rqC, o0, o1, o2, o3, o4, o5, o6]) rfl ⟨⟨_, ret_two14 (by rw [HRR.out]) HE.out.symm, by rw [HRR.out, HFN.out]; exact HRW.out⟩, HB4.out⟩

end Go.Proofs.YtkfekopenahmdaaDoor
