/-
  The code's head.add, head.fault: by their contracts.
-/
import Derived.Test.YtcljepppdljnlabDoorMcI
namespace Go.Proofs.YtcljepppdljnlabDoor
open Go.RowKit

namespace Ms
/-- What is wrong with the next field of a header list. -/
def step1 (P : List Fd) (f : Fd) : Int := if psd f.n then (if bad1 P (hof P).bg f then 140 else 0) else if bad2 P f then 141 else 0
theorem bg_app (P : List Fd) (f : Fd) : (hof (P ++ [f])).bg = ((hof P).bg || !psd f.n) := any_app P f
theorem take_snoc {l : List Fd} {k : Nat} {f : Fd} (h : l[k]? = some f) : l.take (k + 1) = l.take k ++ [f] := by rw [List.take_add_one, h]; rfl
theorem walk_step {l : List Fd} {k : Nat} {f : Fd} (h : l[k]? = some f) : walk (l.take k) (hof (l.take k)).bg (l.drop k) = if step1 (l.take k) f == 0 then walk (l.take (k + 1)) (hof (l.take (k + 1))).bg (l.drop (k + 1)) else step1 (l.take k) f := by
  rw [walk_drop h, take_snoc h, bg_app]
  unfold step1
  cases psd f.n
  · simp only [Bool.false_eq_true, if_false, Bool.not_false, Bool.or_true]
    cases bad2 (l.take k) f <;> rfl
  · simp only [if_true, Bool.not_true, Bool.or_false]
    cases bad1 (l.take k) (hof (l.take k)).bg f <;> rfl
/-- What is wrong with the whole of a header list. -/
def faultE (H : Hd) : Int :=
  if lines (H.m.getD ⟨#[]⟩) (H.s.getD ⟨#[]⟩) (H.p.getD ⟨#[]⟩) then
    (if H.a.isSome && H.h.isSome && !((H.a.getD ⟨#[]⟩).toList == (H.h.getD ⟨#[]⟩).toList) then 141 else if (lenGo none H.fs).isNone then 142 else 0)
  else 140
theorem twoE_fault (l : List Fd) : twoE l = if walk [] false l == 0 then faultE (hof l) else walk [] false l := by
  unfold twoE faultE clash gd hof
  simp only [lenGo_keep]
  rfl
end Ms

set_option maxHeartbeats 2000000 in
set_option maxRecDepth 20000 in
theorem cadd14 (B b : Nat) (P : List Fd) (f : Fd) (fv : Value) (c : Int) (hc : Ms.step1 P f = c) (w : World) (h : HM w B b (Ms.hof P) fv) (hl : P.length ≤ 1048576) (hn : f.n.size ≤ 140737488355328) (hv : f.v.size ≤ 140737488355328) :
    Calls Tryd.prog 25 #[.pointer (some ⟨b, 0, none⟩), .agg #[.string f.n, .string f.v]] w fun e w' => e = .returned (.int .i64 c) ∧ Below B w w' ∧ (c = 0 → ∃ fv', HM w' B b (Ms.hof (P ++ [f])) fv') := by
  have hBw : B ≤ w.heap.size := Nat.le_trans h.lo (Nat.le_of_lt h.obj.lt)
  have hb := bl_alloc w (.cells #[.string f.n, .string f.v] 28)
  have hA := fd_new w f
  obtain ⟨pd, hpd⟩ : ∃ pd, Ms.psd f.n = pd := ⟨_, rfl⟩
  have HP := hid' (cpsd14 f pd hpd (w.alloc (.cells #[.string f.n, .string f.v] 28)))
  have HBW := hid' hBw
  have HC := hid' hc
  have HPD := hid' hpd
  have HPL : Hid ((Ms.keep P).length ≤ 1048576) := hid' (Nat.le_trans (List.length_filter_le _ _) hl)
  have HNV := hid' (And.intro hn hv)
  clear hpd hc hl
  go_enter Tryd.func25, Tryd.ntmps25
  go_wp2_with fail
  refine HP.out.mono ?_
  rintro e w1 ⟨rfl, hb1⟩
  have HB1 := hid' (below_two hb hb1)
  have HA1 : Hid (Ar w1 w.heap.size 28 #[.string f.n, .string f.v]) := hid' (hA.keep hb1)
  have HX1 := hid' (h.keep (below_two hb hb1))
  have x0 := HA1.out.cell 0 _ rfl
  have x1 := HA1.out.cell 1 _ rfl
  clear hb hA hb1 hBw h hn hv HP
  cases pd
  · have HC2 : Hid ((if Ms.bad2 P f then 141 else 0) = c) := hid' (by rw [← HC.out]; unfold Ms.step1; rw [HPD.out]; rfl)
    have g10 := HX1.out.obj.cell 10 _ rfl
    have f10 := HX1.out.obj.free 10
    go_wp2_with fail
    have HX2 : Hid (HM (w1.setCell ⟨b, 10, none⟩ (.bool true)) B b { Ms.hof P with bg := true } fv) := hid' (HX1.out.set 10 _ (by simp [hdC]) rfl)
    have HB2 : Hid (Below B w (w1.setCell ⟨b, 10, none⟩ (.bool true))) := hid' ((HB1.out.mono HBW.out).setCell HX1.out.lo _)
    generalize w1.setCell ⟨b, 10, none⟩ (.bool true) = w2 at *
    clear x0 x1 g10 f10
    have fin : ∀ {Q : Ending → World → Prop} (c' : Int), c' = c → (∀ e w', e = .returned (.int .i64 c') → Below B w2 w' → (c' = 0 → ∃ fv', HM w' B b (Ms.hof (P ++ [f])) fv') → Q e w') → Calls Tryd.prog 39 #[.pointer (some ⟨b, 0, none⟩), .agg #[.string f.n, .string f.v]] w2 Q := by
      intro Q c' hc' hQ
      cases hpl : Ms.plain f
      · have : c' = 141 := by rw [hc', ← HC2.out]; unfold Ms.bad2; rw [hpl]; rfl
        refine (caf_no B b _ f fv w2 HX2.out hpl HNV.out.1 HNV.out.2).mono ?_
        rintro e w' ⟨he, hb⟩
        exact hQ e w' (this ▸ he) hb (fun h0 => by rw [this] at h0; cases h0)
      cases c1 : (f.n.toList == [116, 101])
      · cases c2 : (f.n.toList == [104, 111, 115, 116])
        · have : c' = 0 := by rw [hc', ← HC2.out]; unfold Ms.bad2; rw [hpl, c1, c2]; rfl
          refine (caf_app B b _ f fv w2 HX2.out hpl c1 c2 HPL.out HNV.out.1 HNV.out.2).mono ?_
          rintro e w' ⟨he, hb, fv', hm⟩
          refine hQ e w' (this ▸ he) hb (fun _ => ⟨fv', ?_⟩)
          rw [Ms.hof_o HPD.out c1 c2]
          exact hm
        · cases hq : Ms.fnd Ms.sHost P with
          | none =>
            have : c' = 0 := by rw [hc', ← HC2.out]; unfold Ms.bad2; rw [hpl, c1, c2, beq_iff_eq.1 c2, show Ms.fnd [104, 111, 115, 116] P = none from hq]; rfl
            refine (caf_host B b _ f fv w2 HX2.out hpl c1 c2 hq HNV.out.1 HNV.out.2).mono ?_
            rintro e w' ⟨he, hb, hm⟩
            refine hQ e w' (this ▸ he) hb (fun _ => ⟨fv, ?_⟩)
            rw [Ms.hof_h c2 hq]
            exact hm
          | some v =>
            have : c' = 141 := by rw [hc', ← HC2.out]; unfold Ms.bad2; rw [hpl, c1, c2, beq_iff_eq.1 c2, show Ms.fnd [104, 111, 115, 116] P = some v from hq]; rfl
            refine (caf_host_no B b _ f fv w2 HX2.out hpl c1 c2 v hq HNV.out.1 HNV.out.2).mono ?_
            rintro e w' ⟨he, hb⟩
            exact hQ e w' (this ▸ he) hb (fun h0 => by rw [this] at h0; cases h0)
      · cases c3 : (f.v.toList == [116, 114, 97, 105, 108, 101, 114, 115])
        · have : c' = 141 := by rw [hc', ← HC2.out]; unfold Ms.bad2; rw [hpl, c1, c3]; simp
          refine (caf_te_no B b _ f fv w2 HX2.out hpl c1 c3 HNV.out.1 HNV.out.2).mono ?_
          rintro e w' ⟨he, hb⟩
          exact hQ e w' (this ▸ he) hb (fun h0 => by rw [this] at h0; cases h0)
        · have : c' = 0 := by rw [hc', ← HC2.out]; unfold Ms.bad2; rw [hpl, c1, c3, beq_iff_eq.1 c1]; rfl
          refine (caf_te B b _ f fv w2 HX2.out hpl c1 c3 HNV.out.1 HNV.out.2).mono ?_
          rintro e w' ⟨he, hb, hm⟩
          refine hQ e w' (this ▸ he) hb (fun _ => ⟨fv, ?_⟩)
          rw [Ms.hof_te c1]
          exact hm
    refine fin c rfl ?_
    clear fin
    intro e w3 he hb3 hm3
    subst he
    have HB3 : Hid (Below B w w3) := hid' (HB2.out.trans hb3)
    have HM3 := hid' hm3
    clear hb3 hm3
    go_wp2
    go_ret
    exact ⟨rfl, HB3.out, HM3.out⟩
  · have HC2 : Hid ((if Ms.bad1 P (Ms.hof P).bg f then 140 else 0) = c) := hid' (by rw [← HC.out]; unfold Ms.step1; rw [HPD.out]; rfl)
    go_wp2_with fail
    refine (caddps14 B b P f fv w1 HX1.out).mono ?_
    rintro e w3 ⟨hb3, h3⟩
    have HB3 : Hid (Below B w w3) := hid' ((HB1.out.mono HBW.out).trans hb3)
    have HE : Hid (c = 0 → ∃ fv', HM w3 B b (Ms.hof (P ++ [f])) fv') := hid' (fun h0 => by
      rcases h3 with ⟨h4, _⟩ | ⟨_, _, h5⟩
      · have := HC2.out; rw [h4, h0] at this; cases this
      · exact ⟨fv, h5⟩)
    have he : e = .returned (.int .i64 c) := by
      rcases h3 with ⟨h4, h5⟩ | ⟨h4, h5, _⟩
      · rw [h5, ← HC2.out, h4]; rfl
      · rw [h5, ← HC2.out, h4]; rfl
    subst he
    clear hb3 h3
    go_wp2
    go_ret
    exact ⟨rfl, HB3.out, HE.out⟩

end Go.Proofs.YtcljepppdljnlabDoor
