/-
  The code's Set: by its contract.
-/
import Derived.Test.YtekpjbhhbklboaaDoorPrG
import Derived.BigRegion
namespace Go.Proofs.YtekpjbhhbklboaaDoor
open Go.RowKit

/-- A map that is there, or a new one. -/
def NM (w : World) (mv mv' : Value) : Prop := ∀ k, mv' = .map (some k) → mv = .map (some k) ∨ w.heap.size ≤ k
theorem lf_mb {w w' : World} {b m : Nat} (h : LF (fun j => j = m) w w') : LF (CS b (.map (some m))) w w' :=
  ⟨h.os, h.tape, h.output, h.size, fun k hk hn => h.block k hk (fun e => hn (.inr (by rw [e])))⟩
theorem ar_map {w : World} {b m : Nat} {T : TypeId} {c : Array Value} {es : Array MapEntry} {clock : Nat} (h : Ar w b T c) (hm : w.heap[m]? = some (.map es clock)) : b ≠ m := by
  rintro rfl
  unfold Ar at h
  rw [h] at hm
  cases hm
theorem LF.below_r {S : Nat → Prop} {w w1 w2 : World} (h : LF S w w1) (hb : Below w1.heap.size w1 w2) : LF S w w2 := h.trans (LF.of_below (S := S) hb) (fun _ _ h => h)

theorem eqm_no (m : Nat) (W : World) : (binOp .eql 60 (.map (some m)) (.map none)).run Tryd.prog W = .ok (.bool false) W := by kernel_rfl
theorem eqm_yes (W : World) : (binOp .eql 60 (.map none) (.map none)).run Tryd.prog W = .ok (.bool true) W := by kernel_rfl

set_option maxHeartbeats 2000000 in
theorem cset_some (B b m : Nat) (l : Pr.Ln) (id x : Int) (q : Bool) (w : World) (h : CM w B b (.map (some m)) l) :
    Calls Tryd.prog 15 #[.pointer (some ⟨b, 0, none⟩), .int .i64 id, .agg #[.int .i64 x, .bool q]] w fun e w' => e = .returned (.tuple #[]) ∧ CM w' B b (.map (some m)) (Pr.set l id (Pr.kept x, q)) ∧ LF (CS b (.map (some m))) w w' := by
  have H := hid' h
  have hqm := eqm_no m
  clear h
  go_enter Tryd.func15, Tryd.ntmps15
  go_wp2_with (refine wpl_box 24 _ rfl rfl #[.int .i64 x, .bool q] (by kernel_rfl) ?_)
  intro pb w0 hg0 ha0 hb0
  have c0 := (H.out.keep hb0).hd.cell 0 _ (clC0 _ _ _)
  have p0 := ha0.cell 0 _ rfl
  have p1 := ha0.cell 1 _ rfl
  have HG0 := hid' hg0
  have HA0 := hid' ha0
  have HB0 := hid' hb0
  clear hg0 ha0 hb0
  go_wp2_with fail
  refine (curg_any x q _).mono ?_
  rintro e w1 ⟨rfl, hb1⟩
  obtain ⟨u, hu⟩ : ∃ u, Pr.kept x = u := ⟨_, rfl⟩
  rw [hu]
  have HU := hid' hu
  have HA1 := hid' (HA0.out.keep hb1)
  have HB1 := hid' (below_two HB0.out hb1)
  have f0 := HA1.out.free 0
  have q0 := HA1.out.cell 0 _ rfl
  have q1 := HA1.out.cell 1 _ rfl
  clear c0 p0 p1 hb1 hu HA0
  go_wp2_with fail
  have HU2 := hid' (upd_setCell w1 pb 0 (.int .i64 (u : Int)))
  have HA2 : Hid (Ar (w1.setCell ⟨pb, 0, none⟩ (.int .i64 (u : Int))) pb 24 #[.int .i64 (u : Int), .bool q]) := hid' (by have := HA1.out.set 0 (.int .i64 (u : Int)); simpa using this)
  have HBB : Hid (Below w.heap.size w (w1.setCell ⟨pb, 0, none⟩ (.int .i64 (u : Int)))) := hid' (HB1.out.trans (HU2.out.below HG0.out))
  generalize w1.setCell ⟨pb, 0, none⟩ (.int .i64 (u : Int)) = w2 at *
  have HC2 := hid' (H.out.keep HBB.out)
  have c0 := HC2.out.hd.cell 0 _ (clC0 _ _ _)
  have p0 := HA2.out.cell 0 _ rfl
  have p1 := HA2.out.cell 1 _ rfl
  obtain ⟨es, clock, hBm, hmp⟩ : ∃ es clock, B ≤ m ∧ Mp iv prV w2.drew m (Pr.wt l) l.ids.length es clock := by
    rcases HC2.out.mp with ⟨e, _⟩ | ⟨m', es, clock, e, h2, h3⟩
    · cases e
    · injection e with e
      injection e with e
      subst e
      exact ⟨es, clock, h2, h3.other rfl⟩
  obtain ⟨w3, hrun, hmo, hlf⟩ := hmp.put hBm id u q
  rw [mput_set H.out.ok, set_size H.out.ok id (u, q)] at hmo
  have HMO := hid' hmo
  have HLF := hid' hlf
  have HMP := hid' hmp
  clear hmo hlf hmp q0 q1 f0 HA1 HB1 HU2
  go_region
  go_wp2
  go_end0
  refine ⟨rfl, ?_, ?_⟩
  · rw [HU.out]
    refine ⟨HC2.out.lo, ?_, HMO.out, Pr.set_ok H.out.ok id _ (by rw [← HU.out]; exact Pr.kept_le x)⟩
    rw [(set_was l id (u, q)).1, (set_was l id (u, q)).2]
    exact HLF.out.ar (Ar.drew HC2.out.hd) (fun e => ar_map HC2.out.hd HMP.out.hd e)
  · have h1 : LF (CS b (.map (some m))) w w2.drew := (LF.of_below HBB.out).below_r ((Below.refl _ _).drew)
    exact h1.trans (lf_mb HLF.out) (fun _ _ h => h)

set_option maxHeartbeats 2000000 in
theorem cset_none (B b : Nat) (l : Pr.Ln) (id x : Int) (q : Bool) (w : World) (h : CM w B b (.map none) l) :
    Calls Tryd.prog 15 #[.pointer (some ⟨b, 0, none⟩), .int .i64 id, .agg #[.int .i64 x, .bool q]] w fun e w' => e = .returned (.tuple #[]) ∧ ∃ m, w.heap.size ≤ m ∧ CM w' B b (.map (some m)) (Pr.set l id (Pr.kept x, q)) ∧ LF (CS b (.map none)) w w' := by
  have H := hid' h
  have hqm := eqm_yes
  have hmm := @run_makeMap Tryd.prog
  clear h
  go_enter Tryd.func15, Tryd.ntmps15
  go_wp2_with (refine wpl_box 24 _ rfl rfl #[.int .i64 x, .bool q] (by kernel_rfl) ?_)
  intro pb w0 hg0 ha0 hb0
  have HC0 := hid' (H.out.keep hb0)
  have c0 := HC0.out.hd.cell 0 _ (clC0 _ _ _)
  have f0 := HC0.out.hd.free 0
  have hbl := HC0.out.hd.lt
  have p0 := ha0.cell 0 _ rfl
  have p1 := ha0.cell 1 _ rfl
  have hpl := ha0.lt
  have HG0 := hid' hg0
  have HA0 := hid' ha0
  have HB0 := hid' hb0
  have hbp : b ≠ pb := by have h1 := HG0.out; have h2 := H.out.hd.lt; omega
  have hpb : pb ≠ b := fun e => hbp e.symm
  clear hg0 ha0 hb0
  go_wp2_with fail
  obtain ⟨m, hm⟩ : ∃ m, w0.heap.size = m := ⟨_, rfl⟩
  have HU0 := hid' (upd_setCell w0 b 0 (.map (some m)))
  have HAL : Hid (Below (w0.setCell ⟨b, 0, none⟩ (.map (some m))).heap.size (w0.setCell ⟨b, 0, none⟩ (.map (some m))) ((w0.setCell ⟨b, 0, none⟩ (.map (some m))).alloc (.map #[] 0))) := hid' ((Below.refl _ _).alloc (Nat.le_refl _) _)
  have HM1 : Hid (Mp iv prV ((w0.setCell ⟨b, 0, none⟩ (.map (some m))).alloc (.map #[] 0)) m (fun _ => none) 0 #[] 0) := hid' (by
    have := Mp.made (w0.setCell ⟨b, 0, none⟩ (.map (some m))) iv prV
    rw [HU0.out.size, hm] at this
    exact this)
  have HA0' : Hid (Ar ((w0.setCell ⟨b, 0, none⟩ (.map (some m))).alloc (.map #[] 0)) b 65 (clC (.map (some m)) l.was l.last)) := hid' (by have := HC0.out.hd.set 0 (.map (some m)); rw [clC_set0] at this; exact this.keep HAL.out)
  have HAP := hid' ((HU0.out.keep HA0.out hpb).keep HAL.out)
  have HMB : Hid (b ≠ m) := hid' (by have := HC0.out.hd.lt; omega)
  have HX1 : Hid (LF (CS b (.map none)) w ((w0.setCell ⟨b, 0, none⟩ (.map (some m))).alloc (.map #[] 0))) := hid' (((LF.of_below HB0.out).trans (LF.of_upd (S := CS b (.map none)) HU0.out (.inl rfl)) (fun _ _ h => h)).below_r HAL.out)
  have HMG : Hid (w.heap.size ≤ m) := hid' (by rw [← hm]; exact HB0.out.size)
  rw [hm]
  generalize (w0.setCell ⟨b, 0, none⟩ (.map (some m))).alloc (.map #[] 0) = wy at *
  have y0 := HAP.out.cell 0 _ rfl
  have y1 := HAP.out.cell 1 _ rfl
  clear HAL HU0 c0 f0 p0 p1 hqm
  refine (curg_any x q _).mono ?_
  rintro e w1 ⟨rfl, hb1⟩
  obtain ⟨u, hu⟩ : ∃ u, Pr.kept x = u := ⟨_, rfl⟩
  rw [hu]
  have HU := hid' hu
  have HA1 := hid' (HAP.out.keep hb1)
  have HC1 := hid' (HA0'.out.keep hb1)
  have HM2 := hid' (HM1.out.other (hb1.block m HM1.out.lt))
  have HX2 := hid' (HX1.out.below_r hb1)
  have f1 := HA1.out.free 0
  have q0 := HA1.out.cell 0 _ rfl
  have q1 := HA1.out.cell 1 _ rfl
  clear y0 y1 hb1 hu HAP HA0' HM1 HX1
  go_wp2_with fail
  have HU2 := hid' (upd_setCell w1 pb 0 (.int .i64 (u : Int)))
  have HA2 : Hid (Ar (w1.setCell ⟨pb, 0, none⟩ (.int .i64 (u : Int))) pb 24 #[.int .i64 (u : Int), .bool q]) := hid' (by have := HA1.out.set 0 (.int .i64 (u : Int)); simpa using this)
  have HC2 := hid' (HU2.out.keep HC1.out hbp)
  have HM3 := hid' (HM2.out.other (HU2.out.block m (fun e => ar_map HA1.out HM2.out.hd e.symm)))
  have HX3 : Hid (LF (CS b (.map none)) w (w1.setCell ⟨pb, 0, none⟩ (.int .i64 (u : Int)))) := hid' (HX2.out.trans (LF.of_upd (S := fun k => k = pb) HU2.out rfl) (fun k hk e => by have := HG0.out; omega))
  generalize w1.setCell ⟨pb, 0, none⟩ (.int .i64 (u : Int)) = w2 at *
  have c0 := HC2.out.cell 0 _ (clC0 _ _ _)
  have p0 := HA2.out.cell 0 _ rfl
  have p1 := HA2.out.cell 1 _ rfl
  have hmp : Mp iv prV w2.drew m (Pr.wt l) l.ids.length #[] 0 := by
    rcases H.out.mp with ⟨_, e1, e2⟩ | ⟨_, _, _, e, _⟩
    · rw [show Pr.wt l = (fun _ => none) from funext e1, e2]
      exact HM3.out.other rfl
    · cases e
  have hBm : B ≤ m := Nat.le_trans H.out.size HMG.out
  obtain ⟨w3, hrun, hmo, hlf⟩ := hmp.put hBm id u q
  rw [mput_set H.out.ok, set_size H.out.ok id (u, q)] at hmo
  have HMO := hid' hmo
  have HLF := hid' hlf
  have HMP := hid' hmp
  clear hmo hlf hmp q0 q1 f1 HA1 HU2 HM2 HC1 HX2
  go_region
  go_wp2
  go_end0
  refine ⟨rfl, m, HMG.out, ?_, ?_⟩
  · rw [HU.out]
    refine ⟨H.out.lo, ?_, HMO.out, Pr.set_ok H.out.ok id _ (by rw [← HU.out]; exact Pr.kept_le x)⟩
    rw [(set_was l id (u, q)).1, (set_was l id (u, q)).2]
    exact HLF.out.ar (Ar.drew HC2.out) (fun e => ar_map HC2.out HMP.out.hd e)
  · exact (HX3.out.below_r ((Below.refl _ _).drew)).trans (S' := fun j => j = m) HLF.out (fun k hk e => by have := HMG.out; omega)

/-- What a call leaves of the code's line. -/
structure CP (w w' : World) (B b : Nat) (mv : Value) (l' : Pr.Ln) (mv' : Value) : Prop where
  cm : CM w' B b mv' l'
  lf : LF (CS b mv) w w'
  nm : NM w mv mv'
theorem cset_any (B b : Nat) (mv : Value) (l : Pr.Ln) (id x : Int) (q : Bool) (w : World) (h : CM w B b mv l) :
    Calls Tryd.prog 15 #[.pointer (some ⟨b, 0, none⟩), .int .i64 id, .agg #[.int .i64 x, .bool q]] w fun e w' => e = .returned (.tuple #[]) ∧ ∃ mv', CP w w' B b mv (Pr.set l id (Pr.kept x, q)) mv' := by
  obtain ⟨mo, rfl⟩ := h.mp.form
  cases mo with
  | none =>
    exact (cset_none B b l id x q w h).mono fun e w' ⟨he, m, hm, h1, h2⟩ => ⟨he, _, h1, h2, fun k hk => .inr (by injection hk with hk; injection hk with hk; omega)⟩
  | some m => exact (cset_some B b m l id x q w h).mono fun e w' ⟨he, h1, h2⟩ => ⟨he, _, h1, h2, fun k hk => .inl hk⟩

end Go.Proofs.YtekpjbhhbklboaaDoor
