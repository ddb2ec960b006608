/-
  frame.says, by its contract.
-/
import Derived.Test.YthbidfcfkjamdaaFrZ
import Derived.Test.YthbidfcfkjamdaaFrS
namespace Go.Proofs.Ythbidfcfkjamdaa
open Go.RowKit

/-- A frame and parts in their boxes. -/
structure FP (w0 w : World) (b1 b2 : Nat) (k fl st : Int) (l : List UInt8) (p : Fm.Pt) (v : Value) : Prop where
  bel : Below w0.heap.size w0 w
  g1 : w0.heap.size ≤ b1
  g2 : w0.heap.size ≤ b2
  a1 : Ar w b1 31 (frC k fl st l)
  a2 : Ar w b2 27 (ptC p v)
theorem FP.keep {w0 w w' : World} {b1 b2 : Nat} {k fl st : Int} {l : List UInt8} {p : Fm.Pt} {v : Value} (h : FP w0 w b1 b2 k fl st l p v) (hb : Below w.heap.size w w') : FP w0 w' b1 b2 k fl st l p v :=
  ⟨below_two h.bel hb, h.g1, h.g2, h.a1.keep hb, h.a2.keep hb⟩
section
variable {ops : Array Oper} {rest : List Oper} {o o' : Oper} {a : Act} {w : World} {Q : Exit → Act → World → Prop}
theorem wpl_boxes (x x' : Operand) (ho : o.op = .box 31 x) (hgd : o.guard = none) (ho' : o'.op = .box 27 x') (hgd' : o'.guard = none)
    (k fl st : Int) (l : List UInt8) (p : Fm.Pt) (v : Value) (hx : a.eval x = .agg (frC k fl st l)) (hx' : ∀ b, (a.put o.dst (.pointer (some ⟨b, 0, none⟩))).eval x' = .agg (ptC p v))
    (h : ∀ b1 b2 w', FP w w' b1 b2 k fl st l p v → wpList Try.prog ops Q rest ((a.put o.dst (.pointer (some ⟨b1, 0, none⟩))).put o'.dst (.pointer (some ⟨b2, 0, none⟩))) w') :
    wpList Try.prog ops Q (o :: o' :: rest) a w := by
  refine wpl_box 31 x ho hgd _ hx ?_
  intro b1 w1 hg1 ha1 hb1
  refine wpl_box 27 x' ho' hgd' _ (hx' b1) ?_
  intro b2 w2 hg2 ha2 hb2
  have s1 := hb1.size
  exact h b1 b2 w2 ⟨below_two hb1 hb2, hg1, by omega, ha1.keep hb2, ha2⟩
end

set_option maxHeartbeats 4000000 in
set_option maxRecDepth 20000 in
theorem csays_bad (k fl st : Int) (l : List UInt8) (p : Fm.Pt) (c : Bool) (ec : Int) (v : Value) (hr : Fm.parse k fl st l = .bad c ec) (hsz : l.length ≤ 16777216) (w : World) (hv : SR w v p.sets) :
    Calls Try.prog 36 #[.agg (frC k fl st l), .agg (ptC p v)] w fun e w' => e = .returned (.bool false) ∧ Below w.heap.size w w' := by
  have HU : Hid (∀ w : World, Calls Try.prog 48 #[.agg (frC k fl st l)] w fun e w' => (∃ u : Value, e = .returned (.tuple #[.agg ptZ, .agg (wgC true c ec)]) ∧ Hid (SP w.heap.size w' (.bad c ec) u)) ∧ Below w.heap.size w w') := hid' (fun w => cparts_any k fl st l _ hr (by omega) w)
  have HV := hid' hv
  clear HV
  clear hr hv
  go_enter Try.func36, Try.ntmps36
  go_wp2_with (refine wpl_boxes _ _ rfl rfl rfl rfl k fl st l p v (by kernel_rfl) (fun b => by kernel_rfl) ?_)
  intro b1 b2 w0 hF
  obtain ⟨c0, c1, c2, c3⟩ := frC_cells hF.a1
  have HF := hid' hF
  clear hF
  go_wp2_with fail
  refine (HU.out _).mono ?_
  rintro e w1 ⟨⟨u, rfl, hu⟩, hb1⟩
  have HF1 := hid' (HF.out.keep hb1)
  clear hb1 hu
  go_wp2_with (refine wpl_open2 rfl rfl rfl rfl ?_)
  intro b4 b5 w2 hg4 hg5 ha4 ha5 hb2
  refine wpl_st2 _ _ _ _ rfl rfl rfl rfl w1.heap.size b4 b5 Fm.none' none 0 0 true c ec (by kernel_rfl) (by kernel_rfl) (by kernel_rfl) (by kernel_rfl) ha4 ha5 hg4 hg5 ?_
  intro w3 hp3 hw3 hb3
  have hF3 := HF1.out.keep (hb2.trans hb3)
  obtain ⟨z0, z1, z2⟩ := wg_cells hw3
  obtain ⟨x0, x1, x2, x3, x4, x5, x6, x7⟩ := pt_cells hp3
  obtain ⟨y0, y1, y2, y3, y4, y5, y6, y7⟩ := pt_cells hF3.a2
  have HF3 := hid' hF3
  clear hg4 hg5 ha4 ha5 hb2 hp3 hw3 hb3 hF3 c0 c1 c2 c3
  go_wp2
  go_ret
  exact ⟨rfl, HF3.out.bel⟩

set_option maxHeartbeats 4000000 in
set_option maxRecDepth 20000 in
theorem csays_no0 (k fl st : Int) (l : List UInt8) (pd : List UInt8) (pp : Int) (pc : Int) (pl : Int) (pw : Int) (po : Bool) (pm : Int) (s : List (Int × Int)) (pd' : List UInt8) (pp' : Int) (pc' : Int) (pl' : Int) (pw' : Int) (po' : Bool) (pm' : Int) (s' : List (Int × Int)) (v : Value) (hr : Fm.parse k fl st l = .ok ⟨pd', pp', pc', pl', pw', po', pm', s'⟩) (hsz : l.length ≤ 16777216) (w : World) (hv : SR w v s) (hne : pd' ≠ pd) :
    Calls Try.prog 36 #[.agg (frC k fl st l), .agg (ptC ⟨pd, pp, pc, pl, pw, po, pm, s⟩ v)] w fun e w' => e = .returned (.bool false) ∧ Below w.heap.size w w' := by
  have HU : Hid (∀ w : World, Calls Try.prog 48 #[.agg (frC k fl st l)] w fun e w' => (∃ u : Value, e = .returned (.tuple #[.agg (ptC ⟨pd', pp', pc', pl', pw', po', pm', s'⟩ u), .agg wgZ]) ∧ Hid (SP w.heap.size w' (.ok ⟨pd', pp', pc', pl', pw', po', pm', s'⟩) u)) ∧ Below w.heap.size w w') := hid' (fun w => cparts_any k fl st l _ hr (by omega) w)
  have HV := hid' hv
  have hd1 : (pd' == pd) = false := beq_false_of_ne hne
  have hd2 : decide (pd' = pd) = false := decide_eq_false hne
  clear hne
  clear HV
  clear hr hv
  go_enter Try.func36, Try.ntmps36
  go_wp2_with (refine wpl_boxes _ _ rfl rfl rfl rfl k fl st l ⟨pd, pp, pc, pl, pw, po, pm, s⟩ v (by kernel_rfl) (fun b => by kernel_rfl) ?_)
  intro b1 b2 w0 hF
  obtain ⟨c0, c1, c2, c3⟩ := frC_cells hF.a1
  have HF := hid' hF
  clear hF
  go_wp2_with fail
  refine (HU.out _).mono ?_
  rintro e w1 ⟨⟨u, rfl, hu⟩, hb1⟩
  have HF1 := hid' (HF.out.keep hb1)
  have hq := hu.out _ rfl
  obtain ⟨ao, n, cap, hsh⟩ : ∃ ao n cap, u = .slice ao n cap := by
    rcases hq.2 with ⟨h, _⟩ | ⟨g, cap, cur, h, _⟩
    · exact ⟨none, 0, 0, h⟩
    · exact ⟨_, _, _, h⟩
  subst hsh
  have HQ1 := hid' hq
  clear hb1 hu hq
  go_wp2_with (refine wpl_open2 rfl rfl rfl rfl ?_)
  intro b4 b5 w2 hg4 hg5 ha4 ha5 hb2
  refine wpl_st2 _ _ _ _ rfl rfl rfl rfl w1.heap.size b4 b5 ⟨pd', pp', pc', pl', pw', po', pm', s'⟩ ao n cap false false 0 (by kernel_rfl) (by kernel_rfl) (by kernel_rfl) (by kernel_rfl) ha4 ha5 hg4 hg5 ?_
  intro w3 hp3 hw3 hb3
  have hF3 := HF1.out.keep (hb2.trans hb3)
  obtain ⟨z0, z1, z2⟩ := wg_cells hw3
  obtain ⟨x0, x1, x2, x3, x4, x5, x6, x7⟩ := pt_cells hp3
  obtain ⟨y0, y1, y2, y3, y4, y5, y6, y7⟩ := pt_cells hF3.a2
  have HF3 := hid' hF3
  clear hg4 hg5 ha4 ha5 hb2 hp3 hw3 hb3 hF3 c0 c1 c2 c3
  go_wp2
  go_ret
  exact ⟨rfl, HF3.out.bel⟩

set_option maxHeartbeats 4000000 in
set_option maxRecDepth 20000 in
theorem csays_no1 (k fl st : Int) (l : List UInt8) (pd : List UInt8) (pp : Int) (pc : Int) (pl : Int) (pw : Int) (po : Bool) (pm : Int) (s : List (Int × Int)) (pp' : Int) (pc' : Int) (pl' : Int) (pw' : Int) (po' : Bool) (pm' : Int) (s' : List (Int × Int)) (v : Value) (hr : Fm.parse k fl st l = .ok ⟨pd, pp', pc', pl', pw', po', pm', s'⟩) (hsz : l.length ≤ 16777216) (w : World) (hv : SR w v s) (hne : pp' ≠ pp) :
    Calls Try.prog 36 #[.agg (frC k fl st l), .agg (ptC ⟨pd, pp, pc, pl, pw, po, pm, s⟩ v)] w fun e w' => e = .returned (.bool false) ∧ Below w.heap.size w w' := by
  have HU : Hid (∀ w : World, Calls Try.prog 48 #[.agg (frC k fl st l)] w fun e w' => (∃ u : Value, e = .returned (.tuple #[.agg (ptC ⟨pd, pp', pc', pl', pw', po', pm', s'⟩ u), .agg wgZ]) ∧ Hid (SP w.heap.size w' (.ok ⟨pd, pp', pc', pl', pw', po', pm', s'⟩) u)) ∧ Below w.heap.size w w') := hid' (fun w => cparts_any k fl st l _ hr (by omega) w)
  have HV := hid' hv
  have hd1 : (pp' == pp) = false := beq_false_of_ne hne
  have hd2 : decide (pp' = pp) = false := decide_eq_false hne
  clear hne
  clear HV
  clear hr hv
  go_enter Try.func36, Try.ntmps36
  go_wp2_with (refine wpl_boxes _ _ rfl rfl rfl rfl k fl st l ⟨pd, pp, pc, pl, pw, po, pm, s⟩ v (by kernel_rfl) (fun b => by kernel_rfl) ?_)
  intro b1 b2 w0 hF
  obtain ⟨c0, c1, c2, c3⟩ := frC_cells hF.a1
  have HF := hid' hF
  clear hF
  go_wp2_with fail
  refine (HU.out _).mono ?_
  rintro e w1 ⟨⟨u, rfl, hu⟩, hb1⟩
  have HF1 := hid' (HF.out.keep hb1)
  have hq := hu.out _ rfl
  obtain ⟨ao, n, cap, hsh⟩ : ∃ ao n cap, u = .slice ao n cap := by
    rcases hq.2 with ⟨h, _⟩ | ⟨g, cap, cur, h, _⟩
    · exact ⟨none, 0, 0, h⟩
    · exact ⟨_, _, _, h⟩
  subst hsh
  have HQ1 := hid' hq
  clear hb1 hu hq
  go_wp2_with (refine wpl_open2 rfl rfl rfl rfl ?_)
  intro b4 b5 w2 hg4 hg5 ha4 ha5 hb2
  refine wpl_st2 _ _ _ _ rfl rfl rfl rfl w1.heap.size b4 b5 ⟨pd, pp', pc', pl', pw', po', pm', s'⟩ ao n cap false false 0 (by kernel_rfl) (by kernel_rfl) (by kernel_rfl) (by kernel_rfl) ha4 ha5 hg4 hg5 ?_
  intro w3 hp3 hw3 hb3
  have hF3 := HF1.out.keep (hb2.trans hb3)
  obtain ⟨z0, z1, z2⟩ := wg_cells hw3
  obtain ⟨x0, x1, x2, x3, x4, x5, x6, x7⟩ := pt_cells hp3
  obtain ⟨y0, y1, y2, y3, y4, y5, y6, y7⟩ := pt_cells hF3.a2
  have HF3 := hid' hF3
  clear hg4 hg5 ha4 ha5 hb2 hp3 hw3 hb3 hF3 c0 c1 c2 c3
  go_wp2
  go_ret
  exact ⟨rfl, HF3.out.bel⟩

set_option maxHeartbeats 4000000 in
set_option maxRecDepth 20000 in
theorem csays_no2 (k fl st : Int) (l : List UInt8) (pd : List UInt8) (pp : Int) (pc : Int) (pl : Int) (pw : Int) (po : Bool) (pm : Int) (s : List (Int × Int)) (pc' : Int) (pl' : Int) (pw' : Int) (po' : Bool) (pm' : Int) (s' : List (Int × Int)) (v : Value) (hr : Fm.parse k fl st l = .ok ⟨pd, pp, pc', pl', pw', po', pm', s'⟩) (hsz : l.length ≤ 16777216) (w : World) (hv : SR w v s) (hne : pc' ≠ pc) :
    Calls Try.prog 36 #[.agg (frC k fl st l), .agg (ptC ⟨pd, pp, pc, pl, pw, po, pm, s⟩ v)] w fun e w' => e = .returned (.bool false) ∧ Below w.heap.size w w' := by
  have HU : Hid (∀ w : World, Calls Try.prog 48 #[.agg (frC k fl st l)] w fun e w' => (∃ u : Value, e = .returned (.tuple #[.agg (ptC ⟨pd, pp, pc', pl', pw', po', pm', s'⟩ u), .agg wgZ]) ∧ Hid (SP w.heap.size w' (.ok ⟨pd, pp, pc', pl', pw', po', pm', s'⟩) u)) ∧ Below w.heap.size w w') := hid' (fun w => cparts_any k fl st l _ hr (by omega) w)
  have HV := hid' hv
  have hd1 : (pc' == pc) = false := beq_false_of_ne hne
  have hd2 : decide (pc' = pc) = false := decide_eq_false hne
  clear hne
  clear HV
  clear hr hv
  go_enter Try.func36, Try.ntmps36
  go_wp2_with (refine wpl_boxes _ _ rfl rfl rfl rfl k fl st l ⟨pd, pp, pc, pl, pw, po, pm, s⟩ v (by kernel_rfl) (fun b => by kernel_rfl) ?_)
  intro b1 b2 w0 hF
  obtain ⟨c0, c1, c2, c3⟩ := frC_cells hF.a1
  have HF := hid' hF
  clear hF
  go_wp2_with fail
  refine (HU.out _).mono ?_
  rintro e w1 ⟨⟨u, rfl, hu⟩, hb1⟩
  have HF1 := hid' (HF.out.keep hb1)
  have hq := hu.out _ rfl
  obtain ⟨ao, n, cap, hsh⟩ : ∃ ao n cap, u = .slice ao n cap := by
    rcases hq.2 with ⟨h, _⟩ | ⟨g, cap, cur, h, _⟩
    · exact ⟨none, 0, 0, h⟩
    · exact ⟨_, _, _, h⟩
  subst hsh
  have HQ1 := hid' hq
  clear hb1 hu hq
  go_wp2_with (refine wpl_open2 rfl rfl rfl rfl ?_)
  intro b4 b5 w2 hg4 hg5 ha4 ha5 hb2
  refine wpl_st2 _ _ _ _ rfl rfl rfl rfl w1.heap.size b4 b5 ⟨pd, pp, pc', pl', pw', po', pm', s'⟩ ao n cap false false 0 (by kernel_rfl) (by kernel_rfl) (by kernel_rfl) (by kernel_rfl) ha4 ha5 hg4 hg5 ?_
  intro w3 hp3 hw3 hb3
  have hF3 := HF1.out.keep (hb2.trans hb3)
  obtain ⟨z0, z1, z2⟩ := wg_cells hw3
  obtain ⟨x0, x1, x2, x3, x4, x5, x6, x7⟩ := pt_cells hp3
  obtain ⟨y0, y1, y2, y3, y4, y5, y6, y7⟩ := pt_cells hF3.a2
  have HF3 := hid' hF3
  clear hg4 hg5 ha4 ha5 hb2 hp3 hw3 hb3 hF3 c0 c1 c2 c3
  go_wp2
  go_ret
  exact ⟨rfl, HF3.out.bel⟩

set_option maxHeartbeats 4000000 in
set_option maxRecDepth 20000 in
theorem csays_no3 (k fl st : Int) (l : List UInt8) (pd : List UInt8) (pp : Int) (pc : Int) (pl : Int) (pw : Int) (po : Bool) (pm : Int) (s : List (Int × Int)) (pl' : Int) (pw' : Int) (po' : Bool) (pm' : Int) (s' : List (Int × Int)) (v : Value) (hr : Fm.parse k fl st l = .ok ⟨pd, pp, pc, pl', pw', po', pm', s'⟩) (hsz : l.length ≤ 16777216) (w : World) (hv : SR w v s) (hne : pl' ≠ pl) :
    Calls Try.prog 36 #[.agg (frC k fl st l), .agg (ptC ⟨pd, pp, pc, pl, pw, po, pm, s⟩ v)] w fun e w' => e = .returned (.bool false) ∧ Below w.heap.size w w' := by
  have HU : Hid (∀ w : World, Calls Try.prog 48 #[.agg (frC k fl st l)] w fun e w' => (∃ u : Value, e = .returned (.tuple #[.agg (ptC ⟨pd, pp, pc, pl', pw', po', pm', s'⟩ u), .agg wgZ]) ∧ Hid (SP w.heap.size w' (.ok ⟨pd, pp, pc, pl', pw', po', pm', s'⟩) u)) ∧ Below w.heap.size w w') := hid' (fun w => cparts_any k fl st l _ hr (by omega) w)
  have HV := hid' hv
  have hd1 : (pl' == pl) = false := beq_false_of_ne hne
  have hd2 : decide (pl' = pl) = false := decide_eq_false hne
  clear hne
  clear HV
  clear hr hv
  go_enter Try.func36, Try.ntmps36
  go_wp2_with (refine wpl_boxes _ _ rfl rfl rfl rfl k fl st l ⟨pd, pp, pc, pl, pw, po, pm, s⟩ v (by kernel_rfl) (fun b => by kernel_rfl) ?_)
  intro b1 b2 w0 hF
  obtain ⟨c0, c1, c2, c3⟩ := frC_cells hF.a1
  have HF := hid' hF
  clear hF
  go_wp2_with fail
  refine (HU.out _).mono ?_
  rintro e w1 ⟨⟨u, rfl, hu⟩, hb1⟩
  have HF1 := hid' (HF.out.keep hb1)
  have hq := hu.out _ rfl
  obtain ⟨ao, n, cap, hsh⟩ : ∃ ao n cap, u = .slice ao n cap := by
    rcases hq.2 with ⟨h, _⟩ | ⟨g, cap, cur, h, _⟩
    · exact ⟨none, 0, 0, h⟩
    · exact ⟨_, _, _, h⟩
  subst hsh
  have HQ1 := hid' hq
  clear hb1 hu hq
  go_wp2_with (refine wpl_open2 rfl rfl rfl rfl ?_)
  intro b4 b5 w2 hg4 hg5 ha4 ha5 hb2
  refine wpl_st2 _ _ _ _ rfl rfl rfl rfl w1.heap.size b4 b5 ⟨pd, pp, pc, pl', pw', po', pm', s'⟩ ao n cap false false 0 (by kernel_rfl) (by kernel_rfl) (by kernel_rfl) (by kernel_rfl) ha4 ha5 hg4 hg5 ?_
  intro w3 hp3 hw3 hb3
  have hF3 := HF1.out.keep (hb2.trans hb3)
  obtain ⟨z0, z1, z2⟩ := wg_cells hw3
  obtain ⟨x0, x1, x2, x3, x4, x5, x6, x7⟩ := pt_cells hp3
  obtain ⟨y0, y1, y2, y3, y4, y5, y6, y7⟩ := pt_cells hF3.a2
  have HF3 := hid' hF3
  clear hg4 hg5 ha4 ha5 hb2 hp3 hw3 hb3 hF3 c0 c1 c2 c3
  go_wp2
  go_ret
  exact ⟨rfl, HF3.out.bel⟩

set_option maxHeartbeats 4000000 in
set_option maxRecDepth 20000 in
theorem csays_no4 (k fl st : Int) (l : List UInt8) (pd : List UInt8) (pp : Int) (pc : Int) (pl : Int) (pw : Int) (po : Bool) (pm : Int) (s : List (Int × Int)) (pw' : Int) (po' : Bool) (pm' : Int) (s' : List (Int × Int)) (v : Value) (hr : Fm.parse k fl st l = .ok ⟨pd, pp, pc, pl, pw', po', pm', s'⟩) (hsz : l.length ≤ 16777216) (w : World) (hv : SR w v s) (hne : pw' ≠ pw) :
    Calls Try.prog 36 #[.agg (frC k fl st l), .agg (ptC ⟨pd, pp, pc, pl, pw, po, pm, s⟩ v)] w fun e w' => e = .returned (.bool false) ∧ Below w.heap.size w w' := by
  have HU : Hid (∀ w : World, Calls Try.prog 48 #[.agg (frC k fl st l)] w fun e w' => (∃ u : Value, e = .returned (.tuple #[.agg (ptC ⟨pd, pp, pc, pl, pw', po', pm', s'⟩ u), .agg wgZ]) ∧ Hid (SP w.heap.size w' (.ok ⟨pd, pp, pc, pl, pw', po', pm', s'⟩) u)) ∧ Below w.heap.size w w') := hid' (fun w => cparts_any k fl st l _ hr (by omega) w)
  have HV := hid' hv
  have hd1 : (pw' == pw) = false := beq_false_of_ne hne
  have hd2 : decide (pw' = pw) = false := decide_eq_false hne
  clear hne
  clear HV
  clear hr hv
  go_enter Try.func36, Try.ntmps36
  go_wp2_with (refine wpl_boxes _ _ rfl rfl rfl rfl k fl st l ⟨pd, pp, pc, pl, pw, po, pm, s⟩ v (by kernel_rfl) (fun b => by kernel_rfl) ?_)
  intro b1 b2 w0 hF
  obtain ⟨c0, c1, c2, c3⟩ := frC_cells hF.a1
  have HF := hid' hF
  clear hF
  go_wp2_with fail
  refine (HU.out _).mono ?_
  rintro e w1 ⟨⟨u, rfl, hu⟩, hb1⟩
  have HF1 := hid' (HF.out.keep hb1)
  have hq := hu.out _ rfl
  obtain ⟨ao, n, cap, hsh⟩ : ∃ ao n cap, u = .slice ao n cap := by
    rcases hq.2 with ⟨h, _⟩ | ⟨g, cap, cur, h, _⟩
    · exact ⟨none, 0, 0, h⟩
    · exact ⟨_, _, _, h⟩
  subst hsh
  have HQ1 := hid' hq
  clear hb1 hu hq
  go_wp2_with (refine wpl_open2 rfl rfl rfl rfl ?_)
  intro b4 b5 w2 hg4 hg5 ha4 ha5 hb2
  refine wpl_st2 _ _ _ _ rfl rfl rfl rfl w1.heap.size b4 b5 ⟨pd, pp, pc, pl, pw', po', pm', s'⟩ ao n cap false false 0 (by kernel_rfl) (by kernel_rfl) (by kernel_rfl) (by kernel_rfl) ha4 ha5 hg4 hg5 ?_
  intro w3 hp3 hw3 hb3
  have hF3 := HF1.out.keep (hb2.trans hb3)
  obtain ⟨z0, z1, z2⟩ := wg_cells hw3
  obtain ⟨x0, x1, x2, x3, x4, x5, x6, x7⟩ := pt_cells hp3
  obtain ⟨y0, y1, y2, y3, y4, y5, y6, y7⟩ := pt_cells hF3.a2
  have HF3 := hid' hF3
  clear hg4 hg5 ha4 ha5 hb2 hp3 hw3 hb3 hF3 c0 c1 c2 c3
  go_wp2
  go_ret
  exact ⟨rfl, HF3.out.bel⟩

set_option maxHeartbeats 4000000 in
set_option maxRecDepth 20000 in
theorem csays_no5 (k fl st : Int) (l : List UInt8) (pd : List UInt8) (pp : Int) (pc : Int) (pl : Int) (pw : Int) (po : Bool) (pm : Int) (s : List (Int × Int)) (po' : Bool) (pm' : Int) (s' : List (Int × Int)) (v : Value) (hr : Fm.parse k fl st l = .ok ⟨pd, pp, pc, pl, pw, po', pm', s'⟩) (hsz : l.length ≤ 16777216) (w : World) (hv : SR w v s) (hne : po' ≠ po) :
    Calls Try.prog 36 #[.agg (frC k fl st l), .agg (ptC ⟨pd, pp, pc, pl, pw, po, pm, s⟩ v)] w fun e w' => e = .returned (.bool false) ∧ Below w.heap.size w w' := by
  have HU : Hid (∀ w : World, Calls Try.prog 48 #[.agg (frC k fl st l)] w fun e w' => (∃ u : Value, e = .returned (.tuple #[.agg (ptC ⟨pd, pp, pc, pl, pw, po', pm', s'⟩ u), .agg wgZ]) ∧ Hid (SP w.heap.size w' (.ok ⟨pd, pp, pc, pl, pw, po', pm', s'⟩) u)) ∧ Below w.heap.size w w') := hid' (fun w => cparts_any k fl st l _ hr (by omega) w)
  have HV := hid' hv
  have hd1 : (po' == po) = false := beq_false_of_ne hne
  have hd2 : decide (po' = po) = false := decide_eq_false hne
  clear hne
  clear HV
  clear hr hv
  go_enter Try.func36, Try.ntmps36
  go_wp2_with (refine wpl_boxes _ _ rfl rfl rfl rfl k fl st l ⟨pd, pp, pc, pl, pw, po, pm, s⟩ v (by kernel_rfl) (fun b => by kernel_rfl) ?_)
  intro b1 b2 w0 hF
  obtain ⟨c0, c1, c2, c3⟩ := frC_cells hF.a1
  have HF := hid' hF
  clear hF
  go_wp2_with fail
  refine (HU.out _).mono ?_
  rintro e w1 ⟨⟨u, rfl, hu⟩, hb1⟩
  have HF1 := hid' (HF.out.keep hb1)
  have hq := hu.out _ rfl
  obtain ⟨ao, n, cap, hsh⟩ : ∃ ao n cap, u = .slice ao n cap := by
    rcases hq.2 with ⟨h, _⟩ | ⟨g, cap, cur, h, _⟩
    · exact ⟨none, 0, 0, h⟩
    · exact ⟨_, _, _, h⟩
  subst hsh
  have HQ1 := hid' hq
  clear hb1 hu hq
  go_wp2_with (refine wpl_open2 rfl rfl rfl rfl ?_)
  intro b4 b5 w2 hg4 hg5 ha4 ha5 hb2
  refine wpl_st2 _ _ _ _ rfl rfl rfl rfl w1.heap.size b4 b5 ⟨pd, pp, pc, pl, pw, po', pm', s'⟩ ao n cap false false 0 (by kernel_rfl) (by kernel_rfl) (by kernel_rfl) (by kernel_rfl) ha4 ha5 hg4 hg5 ?_
  intro w3 hp3 hw3 hb3
  have hF3 := HF1.out.keep (hb2.trans hb3)
  obtain ⟨z0, z1, z2⟩ := wg_cells hw3
  obtain ⟨x0, x1, x2, x3, x4, x5, x6, x7⟩ := pt_cells hp3
  obtain ⟨y0, y1, y2, y3, y4, y5, y6, y7⟩ := pt_cells hF3.a2
  have HF3 := hid' hF3
  clear hg4 hg5 ha4 ha5 hb2 hp3 hw3 hb3 hF3 c0 c1 c2 c3
  go_wp2
  go_ret
  exact ⟨rfl, HF3.out.bel⟩

set_option maxHeartbeats 4000000 in
set_option maxRecDepth 20000 in
theorem csays_no6 (k fl st : Int) (l : List UInt8) (pd : List UInt8) (pp : Int) (pc : Int) (pl : Int) (pw : Int) (po : Bool) (pm : Int) (s : List (Int × Int)) (pm' : Int) (s' : List (Int × Int)) (v : Value) (hr : Fm.parse k fl st l = .ok ⟨pd, pp, pc, pl, pw, po, pm', s'⟩) (hsz : l.length ≤ 16777216) (w : World) (hv : SR w v s) (hne : pm' ≠ pm) :
    Calls Try.prog 36 #[.agg (frC k fl st l), .agg (ptC ⟨pd, pp, pc, pl, pw, po, pm, s⟩ v)] w fun e w' => e = .returned (.bool false) ∧ Below w.heap.size w w' := by
  have HU : Hid (∀ w : World, Calls Try.prog 48 #[.agg (frC k fl st l)] w fun e w' => (∃ u : Value, e = .returned (.tuple #[.agg (ptC ⟨pd, pp, pc, pl, pw, po, pm', s'⟩ u), .agg wgZ]) ∧ Hid (SP w.heap.size w' (.ok ⟨pd, pp, pc, pl, pw, po, pm', s'⟩) u)) ∧ Below w.heap.size w w') := hid' (fun w => cparts_any k fl st l _ hr (by omega) w)
  have HV := hid' hv
  have hd1 : (pm' == pm) = false := beq_false_of_ne hne
  have hd2 : decide (pm' = pm) = false := decide_eq_false hne
  clear hne
  clear HV
  clear hr hv
  go_enter Try.func36, Try.ntmps36
  go_wp2_with (refine wpl_boxes _ _ rfl rfl rfl rfl k fl st l ⟨pd, pp, pc, pl, pw, po, pm, s⟩ v (by kernel_rfl) (fun b => by kernel_rfl) ?_)
  intro b1 b2 w0 hF
  obtain ⟨c0, c1, c2, c3⟩ := frC_cells hF.a1
  have HF := hid' hF
  clear hF
  go_wp2_with fail
  refine (HU.out _).mono ?_
  rintro e w1 ⟨⟨u, rfl, hu⟩, hb1⟩
  have HF1 := hid' (HF.out.keep hb1)
  have hq := hu.out _ rfl
  obtain ⟨ao, n, cap, hsh⟩ : ∃ ao n cap, u = .slice ao n cap := by
    rcases hq.2 with ⟨h, _⟩ | ⟨g, cap, cur, h, _⟩
    · exact ⟨none, 0, 0, h⟩
    · exact ⟨_, _, _, h⟩
  subst hsh
  have HQ1 := hid' hq
  clear hb1 hu hq
  go_wp2_with (refine wpl_open2 rfl rfl rfl rfl ?_)
  intro b4 b5 w2 hg4 hg5 ha4 ha5 hb2
  refine wpl_st2 _ _ _ _ rfl rfl rfl rfl w1.heap.size b4 b5 ⟨pd, pp, pc, pl, pw, po, pm', s'⟩ ao n cap false false 0 (by kernel_rfl) (by kernel_rfl) (by kernel_rfl) (by kernel_rfl) ha4 ha5 hg4 hg5 ?_
  intro w3 hp3 hw3 hb3
  have hF3 := HF1.out.keep (hb2.trans hb3)
  obtain ⟨z0, z1, z2⟩ := wg_cells hw3
  obtain ⟨x0, x1, x2, x3, x4, x5, x6, x7⟩ := pt_cells hp3
  obtain ⟨y0, y1, y2, y3, y4, y5, y6, y7⟩ := pt_cells hF3.a2
  have HF3 := hid' hF3
  clear hg4 hg5 ha4 ha5 hb2 hp3 hw3 hb3 hF3 c0 c1 c2 c3
  go_wp2
  go_ret
  exact ⟨rfl, HF3.out.bel⟩

set_option maxHeartbeats 4000000 in
set_option maxRecDepth 20000 in
theorem csays_all (k fl st : Int) (l : List UInt8) (pd : List UInt8) (pp : Int) (pc : Int) (pl : Int) (pw : Int) (po : Bool) (pm : Int) (s : List (Int × Int)) (s' : List (Int × Int)) (v : Value) (hr : Fm.parse k fl st l = .ok ⟨pd, pp, pc, pl, pw, po, pm, s'⟩) (hsz : l.length ≤ 16777216) (w : World) (hv : SR w v s) (r : Bool) (hres : decide (s' = s) = r) (hls : s'.length ≤ 16777216) :
    Calls Try.prog 36 #[.agg (frC k fl st l), .agg (ptC ⟨pd, pp, pc, pl, pw, po, pm, s⟩ v)] w fun e w' => e = .returned (.bool r) ∧ Below w.heap.size w w' := by
  have HU : Hid (∀ w : World, Calls Try.prog 48 #[.agg (frC k fl st l)] w fun e w' => (∃ u : Value, e = .returned (.tuple #[.agg (ptC ⟨pd, pp, pc, pl, pw, po, pm, s'⟩ u), .agg wgZ]) ∧ Hid (SP w.heap.size w' (.ok ⟨pd, pp, pc, pl, pw, po, pm, s'⟩) u)) ∧ Below w.heap.size w w') := hid' (fun w => cparts_any k fl st l _ hr (by omega) w)
  have HV := hid' hv
  have HRES := hid' hres
  have HLS := hid' hls
  clear hres hls
  clear hr hv
  go_enter Try.func36, Try.ntmps36
  go_wp2_with (refine wpl_boxes _ _ rfl rfl rfl rfl k fl st l ⟨pd, pp, pc, pl, pw, po, pm, s⟩ v (by kernel_rfl) (fun b => by kernel_rfl) ?_)
  intro b1 b2 w0 hF
  obtain ⟨c0, c1, c2, c3⟩ := frC_cells hF.a1
  have HF := hid' hF
  clear hF
  go_wp2_with fail
  refine (HU.out _).mono ?_
  rintro e w1 ⟨⟨u, rfl, hu⟩, hb1⟩
  have HF1 := hid' (HF.out.keep hb1)
  have hq := hu.out _ rfl
  obtain ⟨ao, n, cap, hsh⟩ : ∃ ao n cap, u = .slice ao n cap := by
    rcases hq.2 with ⟨h, _⟩ | ⟨g, cap, cur, h, _⟩
    · exact ⟨none, 0, 0, h⟩
    · exact ⟨_, _, _, h⟩
  subst hsh
  have HQ1 := hid' hq
  clear hb1 hu hq
  go_wp2_with (refine wpl_open2 rfl rfl rfl rfl ?_)
  intro b4 b5 w2 hg4 hg5 ha4 ha5 hb2
  refine wpl_st2 _ _ _ _ rfl rfl rfl rfl w1.heap.size b4 b5 ⟨pd, pp, pc, pl, pw, po, pm, s'⟩ ao n cap false false 0 (by kernel_rfl) (by kernel_rfl) (by kernel_rfl) (by kernel_rfl) ha4 ha5 hg4 hg5 ?_
  intro w3 hp3 hw3 hb3
  have hF3 := HF1.out.keep (hb2.trans hb3)
  obtain ⟨z0, z1, z2⟩ := wg_cells hw3
  obtain ⟨x0, x1, x2, x3, x4, x5, x6, x7⟩ := pt_cells hp3
  obtain ⟨y0, y1, y2, y3, y4, y5, y6, y7⟩ := pt_cells hF3.a2
  have HF3 := hid' hF3
  have HSQ := hid' (SR.keep (SR.of_own HQ1.out) (hb2.trans hb3))
  have HSV := hid' (HV.out.keep HF3.out.bel)
  clear hg4 hg5 ha4 ha5 hb2 hp3 hw3 hb3 hF3 c0 c1 c2 c3
  go_wp2_with fail
  refine (cequal_any _ v s' s r HRES.out _ HSQ.out HSV.out (by have := HLS.out; omega)).mono ?_
  rintro e w4 ⟨rfl, hb4⟩
  have HB4 := hid' (below_two HF3.out.bel hb4)
  clear hb4
  go_wp2
  go_ret
  exact ⟨rfl, HB4.out⟩


end Go.Proofs.Ythbidfcfkjamdaa
