/-
  The document's product of a whole number and a digit, by its contract.
-/
import Derived.Test.YtbpdhcfmdkmoiaaDoorPwAV
namespace Go.Proofs.YtbpdhcfmdkmoiaaDoor
open Go.RowKit

namespace Big
/-- What the loop of Times keeps. -/
structure TimRel (la ol : List Int) (d : Int) (i : Nat) (pre : List Int) (c : Int) : Prop where
  le : i ≤ la.length
  eq : ol = pre ++ c :: List.replicate (la.length - i) 0
  len : pre.length = i
  dig : Digs pre
  c0 : 0 ≤ c
  c1 : c ≤ 16
  val : val pre + pw i * c = Big.val (la.take i) * d
theorem TimRel.start (la : List Int) (d : Int) : TimRel la (List.replicate (la.length + 1) 0) d 0 [] 0 :=
  ⟨Nat.zero_le _, by rw [List.replicate_succ]; rfl, rfl, fun x hx => by simp at hx, Int.le_refl _, by decide, by show 0 + 1 * 0 = 0 * d; omega⟩
theorem TimRel.at0 {la ol : List Int} {d : Int} {i : Nat} {pre : List Int} {c : Int} (h : TimRel la ol d i pre c) : ol[i]? = some c := by
  rw [h.eq, List.getElem?_append_right (by rw [h.len]; exact Nat.le_refl _), h.len, Nat.sub_self]; rfl
theorem TimRel.at1 {la ol : List Int} {d : Int} {i : Nat} {pre : List Int} {c : Int} (h : TimRel la ol d i pre c) (hi : i < la.length) : ol[i + 1]? = some 0 := by
  rw [h.eq, List.getElem?_append_right (by rw [h.len]; omega), h.len, show i + 1 - i = 0 + 1 by omega, List.getElem?_cons_succ, List.getElem?_replicate, if_pos (by omega)]
theorem TimRel.step {la ol : List Int} {d : Int} {i : Nat} {pre : List Int} {c : Int} (h : TimRel la ol d i pre c) (hi : i < la.length) (ha : Digs la) (d0 : 0 ≤ d) (d1 : d ≤ 16) (s : Int) (hs : s = c + la[i] * d) :
    TimRel la ((ol.set i (s % bas)).set (i + 1) (s / bas)) d (i + 1) (pre ++ [s % bas]) (s / bas) := by
  obtain ⟨a0, a1⟩ := ha la[i] (List.getElem_mem _)
  have h1 : 0 ≤ la[i] * d := Int.mul_nonneg a0 d0
  have h2 : la[i] * d ≤ 1073741823 * 16 := Int.mul_le_mul (by rw [bas_eq] at a1; omega) d1 d0 (by decide)
  have c0 := h.c0
  have c1 := h.c1
  rw [bas_eq]
  refine ⟨by omega, ?_, by rw [List.length_append, h.len]; rfl, h.dig.snoc (by omega) (by rw [bas_eq]; omega), by omega, by omega, ?_⟩
  · rw [h.eq, List.set_append_right _ _ (by rw [h.len]; exact Nat.le_refl _), h.len, Nat.sub_self, List.set_cons_zero, List.set_append_right _ _ (by rw [h.len]; omega), h.len, show i + 1 - i = 0 + 1 by omega, List.set_cons_succ,
      show la.length - i = (la.length - (i + 1)) + 1 by omega, List.replicate_succ, List.set_cons_zero, List.append_assoc]
    rfl
  · rw [val_snoc, h.len, val_take la i hi, Int.add_mul, ← h.val]
    have e1 : pw (i + 1) * (s / 1073741824) = pw i * (1073741824 * (s / 1073741824)) := by
      show bas * pw i * _ = _; rw [bas_eq, Int.mul_comm 1073741824 (pw i), Int.mul_assoc]
    have e2 : pw i * (s % 1073741824) + pw i * (1073741824 * (s / 1073741824)) = pw i * s := by rw [← Int.mul_add, Int.emod_add_mul_ediv]
    have e3 : pw i * s = pw i * c + pw i * la[i] * d := by rw [hs, Int.mul_add, Int.mul_assoc]
    rw [e1]; omega
theorem TimRel.done {la ol : List Int} {d : Int} {pre : List Int} {c : Int} (h : TimRel la ol d la.length pre c) : Digs ol ∧ Big.val ol = Big.val la * d ∧ ol.length = la.length + 1 := by
  have e := h.eq
  rw [Nat.sub_self] at e
  have e' : ol = pre ++ [c] := e
  refine ⟨?_, ?_, ?_⟩
  · rw [e']; exact h.dig.snoc h.c0 (by rw [bas_eq]; have := h.c1; omega)
  · rw [e', val_snoc, h.len, h.val, List.take_of_length_le (Nat.le_refl _)]
  · rw [e', List.length_append, h.len]; rfl
end Big

theorem Ints.shape {w : World} {v : Value} {l : List Int} (h : Ints w v l) : ∃ a c, v = .slice a l.length c := by
  obtain ⟨a, c, rfl, _, _⟩ := h; exact ⟨a, c, rfl⟩
theorem intCells_set (l : List Int) (i : Nat) (a : Int) : intCells (l.set i a) = (intCells l).set i (.int .i64 a) := by unfold intCells; rw [List.map_set]

set_option maxRecDepth 20000 in
set_option maxHeartbeats 1000000 in
theorem btimes_nil (va vb : Value) (lb : List Int) (y : Int) (w : World) (ha : Wh w va [] 0) (hb : Wh w vb lb y) :
    Calls Tryd.prog 57 #[.agg #[.bool false, va], .agg #[.bool false, vb]] w fun e w' => ∃ v', e = .returned (.agg #[.bool false, v']) ∧ Fresh w.heap.size v' ∧ (∃ l', Wh w' v' l' 0 ∧ l'.length ≤ 0) ∧ Below w.heap.size w w' := by
  obtain ⟨aa, ca, rfl⟩ := ha.shape
  obtain ⟨ab, cb, rfl⟩ := hb.shape
  have HBW : Hid (Below w.heap.size w ((((w.alloc (.cells #[.bool false, .slice aa 0 ca] 68)).alloc (.cells #[.bool false, .slice ab lb.length cb] 68)).alloc (.cells #[.bool false, .slice none 0 0] 68)))) := hid ((((Below.refl _ _).alloc (Nat.le_refl _) _).alloc (by simp) _).alloc (by simp; omega) _)
  clear ha hb
  go_enter Tryd.func57, Tryd.ntmps57
  go_wp2
  refine bodyPost_ret (v := .agg #[.bool false, .slice none 0 0]) (by simp [results, Tryd.results57, go_sem]) rfl ⟨_, rfl, ?_, ⟨[], ⟨⟨none, 0, rfl, Nat.le_refl _, fun j hj => by simp at hj⟩, fun x hx => by simp at hx, fun x hx => by simp at hx, rfl, by simp⟩, by simp⟩, ?_⟩
  · intro a n c e; cases e
  · first | exact HBW.out | exact (HBW.out.setCell (by simp; omega) _).setCell (by simp; omega) _

set_option maxRecDepth 20000 in
set_option maxHeartbeats 4000000 in
theorem btimes_any (va vb : Value) (la : List Int) (x d : Int) (w : World) (ha : Wh w va la x) (hb : Wh w vb [d] d) (hpos : 0 < la.length) (hla : la.length ≤ 80) (d1 : d ≤ 16) :
    Calls Tryd.prog 57 #[.agg #[.bool false, va], .agg #[.bool false, vb]] w fun e w' => ∃ v', e = .returned (.agg #[.bool false, v']) ∧ Fresh w.heap.size v' ∧ (∃ l', Wh w' v' l' (x * d) ∧ l'.length ≤ la.length + 1) ∧ Below w.heap.size w w' := by
  obtain ⟨ba, oa, ca, rfl, _, hca⟩ := ha.ints.head hpos
  obtain ⟨bb, ob, cb, rfl, _, hcb⟩ := hb.ints.head (by simp)
  have hd0 := hb.digs d (by simp)
  have HDA := hid ha.digs
  have HX := hid ha.val
  have hcb0 := hcb 0 (by simp)
  replace hcb0 : w.cell? ⟨bb, ob, none⟩ = some (.int .i64 d) := hcb0
  have hbb : bb < w.heap.size := World.block_lt_of_cell? w _ hcb0
  have hba : ba < w.heap.size := World.block_lt_of_cell? w _ (hca 0 hpos)
  have HCA := hid hca
  have HCB := hid hcb0
  obtain ⟨d0, _⟩ := hd0
  clear ha hb hca hcb hcb0
  obtain ⟨i0, hi, hz0, hz1, hz2⟩ := info_parts Tryd.info3
  obtain ⟨n, hn⟩ : ∃ n, n = la.length := ⟨_, rfl⟩
  have HN := hid hn
  rw [← hn] at hpos hla ⊢
  clear hn
  have hne : ((n : Int) == 0) = false := by rw [beq_eq_false_iff_ne]; omega
  have h1e : ((1 : Int) == 0) = false := rfl
  go_enter Tryd.func57, Tryd.ntmps57
  go_wp2_with (at_make; refine wpList_make_full _ rfl _ _ 66 rfl (w.heap.size + 3) 3 i0 (.int .i64 0) 1 Tryd.underlying66 hi hz0 hz1 .i64 .i64 _ _ (n + 1) rfl rfl (by omega) (by omega) (by rw [hz2]; omega) (by unfold maxLen; omega) (by simp) ?_; intro w1 hown hg; refine Hid.out ?_)
  refine hid ?_
  simp only [World.size_alloc, Value.cells, Nat.mul_one] at hown
  rw [toList_madeCells_one] at hown
  replace hown : w1.ownsRow (w.heap.size + 3) 3 1 (.slice (some ⟨w.heap.size + 1 + 1 + 1, 0, none⟩) (n + 1) (n + 1)) (n + 1) (intCells (List.replicate (n + 1) 0)) := by
    rw [intCells, List.map_replicate]; exact hown
  obtain ⟨W0, hW0⟩ : ∃ W0, W0 = (((w.alloc (.cells #[.bool false, .slice (some ⟨ba, oa, none⟩) n ca] 68)).alloc (.cells #[.bool false, .slice (some ⟨bb, ob, none⟩) 1 cb] 68)).alloc (.cells #[.bool false, .slice none 0 0] 68)) := ⟨_, rfl⟩
  have HS0 : Hid (Cell2 W0 w.heap.size (.bool false) (.slice (some ⟨ba, oa, none⟩) n ca)) := hid (by rw [hW0]; exact ((Cell2.new w _ _ _).alloc _).alloc _)
  have HS1 : Hid (Cell2 W0 (w.heap.size + 1) (.bool false) (.slice (some ⟨bb, ob, none⟩) 1 cb)) := hid (by rw [hW0]; exact (Cell2.new' w _ _ _ _).alloc _)
  have HS2 : Hid (Cell2 W0 (w.heap.size + 1 + 1) (.bool false) (.slice none 0 0)) := hid (by rw [hW0]; have := Cell2.new2 w (.cells #[.bool false, .slice (some ⟨ba, oa, none⟩) n ca] 68) (.cells #[.bool false, .slice (some ⟨bb, ob, none⟩) 1 cb] 68) (.bool false) (.slice none 0 0) 68; exact ⟨this.c0, this.c1, this.f0, this.f1⟩)
  have HBW : Hid (Below w.heap.size w W0) := hid (by rw [hW0]; exact ((((Below.refl _ _).alloc (Nat.le_refl _) _).alloc (by simp) _).alloc (by simp; omega) _))
  have HWS : Hid (W0.heap.size = w.heap.size + 3) := hid (by rw [hW0]; simp)
  rw [← hW0] at hg
  have HB1 : Hid (Below (w.heap.size + 3) W0 w1) := hid ((Below.refl _ _).grown hg (by rw [HWS.out]; exact Nat.le_refl _) (fun k hk => by cases hk))
  have HO1 := hid hown
  clear hown hg hW0
  have s1b := (HS1.out.below HB1.out (by omega)).c1
  go_wp2
  go_loopw [6] (fun iv wr => ∃ (i : Nat) (ol pre : List Int) (c : Int), i ≤ n ∧ iv = .int .i64 i ∧ Big.TimRel la ol d i pre c ∧ wr.ownsRow (w.heap.size + 3) 3 1 (.slice (some ⟨w.heap.size + 1 + 1 + 1, 0, none⟩) (n + 1) (n + 1)) (n + 1) (intCells ol) ∧ Below (w.heap.size + 3) W0 wr) (fun iv _ => n - (intOf iv).toNat)
  case atStart => exact ⟨0, _, [], 0, Nat.zero_le _, rfl, by rw [HN.out]; exact Big.TimRel.start la d, HO1.out, HB1.out⟩
  case round =>
    clear s1b
    obtain ⟨i, ol, pre, c, hin, rfl, hr, hown, hbel⟩ := hrel
    obtain ⟨s0a, s0b, s0c, s0d⟩ := HS0.out.below hbel (by omega)
    obtain ⟨s1a, s1b, s1c, s1d⟩ := HS1.out.below hbel (by omega)
    have c0 := hr.c0
    have c1 := hr.c1
    have HR := hid hr
    have HBEL := hid hbel
    clear hr hbel
    by_cases hlt : i < n
    · have hil : i < la.length := by rw [← HN.out]; exact hlt
      obtain ⟨ai, hai⟩ : ∃ ai, ai = la[i] := ⟨_, rfl⟩
      obtain ⟨a0, a1⟩ := HDA.out la[i] (List.getElem_mem _)
      have hca := (HBEL.out.cell (p := ⟨ba, oa + i, none⟩) (by simp; omega)).trans ((HBW.out.cell (p := ⟨ba, oa + i, none⟩) hba).trans (HCA.out i hil))
      have hcb := (HBEL.out.cell (p := ⟨bb, ob, none⟩) (by simp; omega)).trans ((HBW.out.cell (p := ⟨bb, ob, none⟩) hbb).trans HCB.out)
      have ho := hown.cellAt i (by omega)
      rw [intCells, List.getElem?_map, HR.out.at0] at ho
      replace ho : wr.cell? ⟨w.heap.size + 1 + 1 + 1, i, none⟩ = some (.int .i64 c) := ho
      have hof := hown.frozenAt i
      rw [← hai] at hca a0 a1
      rw [Big.bas_eq] at a1
      have HAI := hid hai
      clear hai
      have hp0 : 0 ≤ ai * d := Int.mul_nonneg a0 d0
      have hp1 : ai * d ≤ 17179869168 := Int.mul_le_mul (show ai ≤ 1073741823 by omega) d1 d0 (by decide)
      have hs0 : 0 ≤ c + ai * d := by omega
      have hs1 : c + ai * d ≤ 20000000000 := by omega
      have HST : Hid (Big.TimRel la ((ol.set i ((c + ai * d) % 1073741824)).set (i + 1) ((c + ai * d) / 1073741824)) d (i + 1) (pre ++ [(c + ai * d) % 1073741824]) ((c + ai * d) / 1073741824)) := hid (HR.out.step hil HDA.out d0 d1 _ (by rw [HAI.out]))
      go_wp2
      go_loopw [7, 8] (fun cv kv w' => (cv = .int .i64 0 ∧ kv = .int .i64 0 ∧ w' = wr) ∨ (cv = .int .i64 ((c + ai * d) / 1073741824) ∧ kv = .int .i64 1 ∧ ∃ nq, w' = (wr.drewN nq).setCell ⟨w.heap.size + 1 + 1 + 1, i, none⟩ (.int .i64 ((c + ai * d) % 1073741824)))) (fun _ kv _ => 1 - (intOf kv).toNat)
      case atStart => exact .inl ⟨rfl, rfl, rfl⟩
      case round =>
        rcases hrel with ⟨rfl, rfl, rfl⟩ | ⟨rfl, rfl, nq, hw2⟩
        · go_wp2
          go_quiet (fail)
          go_wp2
          go_roundw
          case rel => exact .inr ⟨rfl, by go_num, _, rfl⟩
          case measure => simp [intOf]
        · have hst := ((own_below hown (below_drewN _ nq)).stored i (.int .i64 ((c + ai * d) % 1073741824))).1
          have hb2 : Below (w.heap.size + 3) W0 wr := by
            rw [hw2]; exact Below.setCell (p := ⟨w.heap.size + 1 + 1 + 1, i, none⟩) (HBEL.out.trans ((below_drewN _ nq).mono (by have := HBEL.out.size; rw [HWS.out] at this; exact this))) (Nat.le_refl _) _
          rw [← hw2] at hst
          have ho1 := hst.cellAt (i + 1) (by omega)
          rw [List.getElem?_set_ne (by omega), intCells, List.getElem?_map, HR.out.at1 hil] at ho1
          replace ho1 : wr.cell? ⟨w.heap.size + 1 + 1 + 1, i + 1, none⟩ = some (.int .i64 0) := ho1
          have hf1 := hst.frozenAt (i + 1)
          have t1b := (HS1.out.below hb2 (by omega)).c1
          have HST2 := hid hst
          have HB2 := hid hb2
          have hq0 : 0 ≤ (c + ai * d) / 1073741824 := by omega
          have hq1 : (c + ai * d) / 1073741824 ≤ 20 := by omega
          obtain ⟨cq, hcq⟩ : ∃ cq, cq = (c + ai * d) / 1073741824 := ⟨_, rfl⟩
          rw [← hcq] at hq0 hq1 HST ⊢
          clear hst hb2 hw2 hcq s0a s0b s0c s0d s1a s1b s1c s1d hca hcb ho hof hown hp0 hp1 hs0 hs1 c0 c1
          go_wp2
          go_region
          go_wp2
          go_roundw
          case rel =>
            refine ⟨i + 1, _, _, _, by omega, by go_num, HST.out, ?_, (Below.setCell (p := ⟨w.heap.size + 1 + 1 + 1, i + 1, none⟩) HB2.out (Nat.le_refl _) _).drew⟩
            rw [intCells_set, intCells_set]
            exact own_below (HST2.out.stored (i + 1) (.int .i64 cq)).1 ⟨rfl, rfl, rfl, Nat.le_refl _, fun _ _ => rfl⟩
          case measure => simp [intOf]; omega
    · obtain rfl : i = n := by omega
      have hr := HR.out
      rw [HN.out] at hr
      obtain ⟨hdg, hvl, hln⟩ := hr.done
      rw [← HN.out] at hln
      have HDG := hid hdg
      have HVL := hid hvl
      have HLN := hid hln
      have HI := hid (ints_own' hown hln)
      have HFR := hid (fresh_own hown)
      have HS2' := hid (HS2.out.below HBEL.out (by omega))
      obtain ⟨s2a, s2b, s2c, s2d⟩ := HS2'.out
      have hol : ol.length ≤ 1000 := by omega
      have HWS2 := hid HBEL.out.size
      clear hr hdg hvl hln hown c0 c1
      go_wp2
      go_region_with (go_at_call 75; refine (btrim_any _ ol _ (by exact HI.out.below ⟨rfl, rfl, rfl, Nat.le_refl _, fun _ _ => rfl⟩) hol).mono ?_; rintro e w' ⟨v', rfl, hweq, hfr, n', hin, htr⟩; obtain ⟨l2, hl2⟩ : ∃ l2, l2 = ol.take n' := ⟨_, rfl⟩; rw [← hl2] at hin; obtain ⟨a', c', rfl⟩ := hin.shape; have HL2 := hid hl2; clear hl2; have HIN := hid hin; have HTR := hid htr; have HF2 := hid (hfr _ HFR.out); clear hin htr hfr; subst hweq)
      all_goals go_wp2
      all_goals
        obtain ⟨r0, r1, _, _⟩ := ((HS2'.out.set0 (z := .bool false)).set1 (z := .slice a' l2.length c'))
        refine bodyPost_ret (v := .agg #[.bool false, .slice a' l2.length c']) (by simp [results, Tryd.results57, go_sem, r0, r1]) rfl ⟨_, rfl, HF2.out.mono (by omega), ⟨l2, ⟨by exact (HIN.out.set_far HF2.out (p := ⟨w.heap.size + 1 + 1, 0, none⟩) (by simp) (.bool false)).set_far HF2.out (p := ⟨w.heap.size + 1 + 1, 1, none⟩) (by simp) (.slice a' l2.length c'), by rw [HL2.out]; exact HDG.out.take n', by rw [HL2.out]; exact HTR.out.2.2, ?_, ?_⟩, ?_⟩, ?_⟩
        · rw [HL2.out, HTR.out.2.1, HVL.out, HX.out]
        · have := HLN.out; rw [HL2.out, List.length_take]; omega
        · have := HLN.out; rw [HL2.out, List.length_take]; omega
        · exact ((HBW.out.trans (HBEL.out.mono (by omega))).drew.setCell (p := ⟨w.heap.size + 1 + 1, 0, none⟩) (by simp; omega) (.bool false)).setCell (p := ⟨w.heap.size + 1 + 1, 1, none⟩) (by simp; omega) (.slice a' l2.length c')

end Go.Proofs.YtbpdhcfmdkmoiaaDoor
