/-
  The laws' Apart of two lists of their own: by its contract.
-/
import Derived.Test.YtpgfnhfjkplmaaaSdK
import Derived.Deep.CutRange
import Derived.Laws.MakeOwn
namespace Go.Proofs.Ytpgfnhfjkplmaaa
open Go.RowKit

theorem made_list2 (v : Value) (m : Nat) : (madeCells #[v] m).toList = List.replicate m v := by
  apply List.ext_getElem
  · simp [size_madeCells]
  · intro i h1 h2
    simp [madeCells, Nat.mod_one]

section
variable {ops : Array Oper} {rest : List Oper} {o : Oper} {a : Act} {w : World} {Q : Exit → Act → World → Prop}
theorem wpl_make2 (x y : Operand) (ho : o.op = .makeSlice 40 x y) (hgd : o.guard = none) (hx : a.eval x = .int .i64 2) (hy : a.eval y = .int .i64 2)
    (h : ∀ b w', w.heap.size ≤ b → Ar w' b 36 #[.slice none 0 0, .slice none 0 0] → Below w.heap.size w w' → wpList Try.prog ops Q rest (a.put o.dst (.slice (some ⟨b, 0, none⟩) 2 2)) w') : wpList Try.prog ops Q (o :: rest) a w := by
  obtain ⟨i, hi, hz0, hz1, hz2⟩ := sinfo_parts (show (Try.prog.info? 36).map (fun i => (i.zero, i.size, i.bytes)) = some (some (.slice none 0 0), 1, 24) by kernel_rfl)
  refine wpList_plain hgd fun _ hK => ?_
  have hr := run_make (P := Try.prog) w 40 36 i (.slice none 0 0) Try.underlying40 hi hz0 .i64 .i64 2 2 (by omega) (by omega) (by rw [hz2]; omega) (by omega)
  have e : madeCells (Value.slice none 0 0).cells (Int.toNat 2 * 1) = #[.slice none 0 0, .slice none 0 0] := Array.ext' (made_list2 _ 2)
  rw [hz1, e] at hr
  unfold Oper.wp execOp
  simp only [ho, hx, hy, Sem.run_bind, Sem.run_pure, hr, Result.andThen_ok]
  exact hK _ _ (h _ _ (Nat.le_refl _) (heap_alloc_last w _) ((Below.refl _ w).alloc (Nat.le_refl _) _))
end
theorem lgA_at (V : Nat → Value) (i : Nat) (hi : i < 2) : (lgA V i)[i]? = some (.slice none 0 0) := by
  have : i = 0 ∨ i = 1 := by omega
  rcases this with rfl | rfl <;> simp [lgA]
theorem cnt_self (i k : Nat) : cnt i i k = k := by unfold cnt; rw [if_neg (by omega), if_pos rfl]
theorem cnt_two (t : Nat) (h : t < 2) : cnt t 2 0 = 16 := by unfold cnt; rw [if_pos h]

set_option maxHeartbeats 8000000 in
set_option maxRecDepth 20000 in
theorem apart_any (B bl n : Nat) (V : Nat → Value) (w : World) (h : S1 w B bl V n 0 0) (hn : n ≤ 4096) (hB : B ≤ w.heap.size) :
    Calls Try.prog 19 #[.slice (some ⟨bl, 0, none⟩) 2 2] w fun e w' => e = .returned (.bool true) ∧ LF (fun k => (V 0).ownBlock = some k ∨ (V 1).ownBlock = some k) w w' := by
  have H := hid' h
  clear h
  obtain ⟨FR, hFR⟩ : ∃ FR : Nat → Prop, FR = fun k => (V 0).ownBlock = some k ∨ (V 1).ownBlock = some k := ⟨_, rfl⟩
  have HFR : Hid (∀ t, t < 2 → ∀ k, (V t).ownBlock = some k → FR k) := hid' (fun t ht k hk => by
    rw [hFR]
    have : t = 0 ∨ t = 1 := by omega
    rcases this with rfl | rfl
    · exact .inl hk
    · exact .inr hk)
  rw [← hFR]
  clear hFR
  go_enter Try.func19, Try.ntmps19
  go_wp2_with (refine wpl_make2 _ _ rfl rfl rfl rfl ?_)
  intro bm w1 hbm hm hb1
  have HM1 : Hid (Ar w1 bm 36 (lgA V 0)) := hid' (by simpa [lgA] using hm)
  have HS1 : Hid (S1 w1 B bl V n 0 0) := hid' (H.out.other (LF.of_below (S := fun _ => False) hb1) id (fun _ _ _ _ => id))
  have HL1 : Hid (LF FR w w1) := hid' (LF.of_below hb1)
  have HBM := hid' hbm
  have HNE : Hid (bl ≠ bm) := hid' (by have := H.out.ls.lt; omega)
  clear hbm hm hb1 H
  go_wp2
  go_loopw [4, 5] (fun s4 _ wr => ∃ i : Nat, s4 = .int .i64 (i : Int) ∧ i ≤ 2 ∧ Hid (S1 wr B bl V n i 0) ∧ Hid (Ar wr bm 36 (lgA V i)) ∧ Hid (LF FR w wr)) (fun s4 _ _ => 2 - (intOf s4).toNat)
  case atStart => exact ⟨0, rfl, Nat.zero_le _, HS1, HM1, HL1⟩
  case round =>
    clear HS1 HM1 HL1
    obtain ⟨i, rfl, hi, HS, HM, HL⟩ := hrel
    by_cases hlt : i < 2
    · have hlt2 : (i : Int) < 2 := by omega
      go_wp2
      go_loopw [5] (fun s5 wr => ∃ k : Nat, s5 = .int .i64 (k : Int) ∧ k ≤ n ∧ Hid (S1 wr B bl V n i k) ∧ Hid (Ar wr bm 36 (lgA V i)) ∧ Hid (LF FR w wr)) (fun s5 _ => n - (intOf s5).toNat)
      case atStart => exact ⟨0, rfl, Nat.zero_le _, HS, HM, HL⟩
      case round =>
        clear HS HM HL
        obtain ⟨k, rfl, hk, HS, HM, HL⟩ := hrel
        obtain ⟨zs, ho, _⟩ := HS.out.row i hlt
        have c0 := HS.out.ar i hlt
        have HO := hid' ho
        clear ho
        by_cases hkn : k < n
        · have hkn2 : (k : Int) < (n : Int) := by omega
          obtain ⟨g, cap, hv, _, _⟩ := own_form HO.out (by omega)
          have HV := hid' hv
          have ho := HO.out
          rw [hv] at c0 ho
          have hzl : zs.length = n := by have := ho.1; rw [nmC_length] at this; omega
          have c1 := own_cell ho k _ (nm_at (List.getElem?_eq_getElem (show k < zs.length by omega)))
          have f1 := own_free ho k
          have HGM : Hid (g ≠ bm) := hid' (own_apart ho HM.out (by decide) g rfl)
          generalize zs[k] = old at c1
          clear hv ho hzl HO
          go_wp2
          go_roundw
          case rel => exact ⟨k + 1, by go_num, by omega, hid' (HS.out.step hlt hkn HV.out), hid' (HM.out.other HGM.out _ _), hid' (HL.out.trans (LF.of_upd (b := g) (upd_setCell _ g _ _) (HFR.out i hlt g (by rw [HV.out]; rfl))) (fun _ _ h => h))⟩
          case measure => simp [intOf]; omega
        · obtain rfl : k = n := by omega
          have hkn2 : ¬ (k : Int) < (k : Int) := by omega
          obtain ⟨ao, cap, hv⟩ := own_shape HO.out
          have HV := hid' hv
          rw [hv] at c0
          have c2 := HM.out.cell i _ (lgA_at V i hlt)
          have f2 := HM.out.free i
          clear hv hkn HO
          go_wp2
          go_roundw
          case rel =>
            refine ⟨i + 1, by go_num, by omega, hid' ?_, hid' ?_, hid' ?_⟩
            · exact HS.out.next.other (LF.of_upd (S := fun k => k = bm) (b := bm) (upd_setCell _ bm i _) rfl) HNE.out (fun t ht k hk e => by
                obtain ⟨zs, ho, _⟩ := HS.out.row t ht
                exact own_apart ho HM.out (by decide) k hk e)
            · rw [← lgA_set V i hlt, HV.out]; exact HM.out.set i _
            · have hl := HL.out
              have hu := upd_setCell wr bm i (.slice ao k cap)
              exact ⟨hu.os.trans hl.os, hu.tape.trans hl.tape, hu.output.trans hl.output, by rw [hu.size]; exact hl.size, fun j hj hs => by rw [hu.block j (by have := HBM.out; omega)]; exact hl.block j hj hs⟩
          case measure => simp [intOf]; omega
    · have hi2 : i = 2 := by omega
      rw [hi2] at HS HM
      have HS2 := hid' (HS.out.grow HM.out HNE.out)
      have hlt2 : ¬ (i : Int) < 2 := by omega
      clear hi2
      have HU0 : Hid (∀ t, t < 2 → ∀ k, (V t).ownBlock = some k → (V t).ownBlock = some k ∨ w.heap.size ≤ k) := hid' (fun _ _ _ h => .inl h)
      clear HS HM hlt
      go_wp2
      go_loopw [6, 7] (fun s6 _ wr => ∃ (i : Nat) (U : Nat → Value), s6 = .int .i64 (i : Int) ∧ i ≤ 2 ∧ Hid (S2 wr B bl bm V U n i 0) ∧ Hid (LF FR w wr) ∧ Hid (∀ t, t < 2 → ∀ k, (U t).ownBlock = some k → (V t).ownBlock = some k ∨ w.heap.size ≤ k)) (fun s6 _ _ => 2 - (intOf s6).toNat)
      case atStart => exact ⟨0, V, rfl, Nat.zero_le _, HS2, HL, HU0⟩
      case round =>
        clear HS2 HL HU0
        obtain ⟨i, U, rfl, hi, HS, HL, HU⟩ := hrel
        by_cases hlt : i < 2
        · have hlt2 : (i : Int) < 2 := by omega
          go_wp2
          go_loopw [7] (fun s7 wr => ∃ (k : Nat) (U : Nat → Value), s7 = .int .i64 (k : Int) ∧ k ≤ 16 ∧ Hid (S2 wr B bl bm V U n i k) ∧ Hid (LF FR w wr) ∧ Hid (∀ t, t < 2 → ∀ k, (U t).ownBlock = some k → (V t).ownBlock = some k ∨ w.heap.size ≤ k)) (fun s7 _ => 16 - (intOf s7).toNat)
          case atStart => exact ⟨0, U, rfl, Nat.zero_le _, HS, HL, HU⟩
          case round =>
            clear HS HL HU
            obtain ⟨k, U, rfl, hk, HS, HL, HU⟩ := hrel
            by_cases hk16 : k < 16
            · have hk2 : (k : Int) < 16 := by omega
              have HSA := hid' (HS.out.alloc (.cells #[.int .i64 (-(i : Int) * 1000003 - (k : Int) - 1)] 3))
              have hr := HSA.out.row i hlt
              rw [cnt_self] at hr
              have c0 := HS.out.cm i hlt
              have f0 := HS.out.lg.free i
              obtain ⟨uo, uc, hu⟩ := own_shape hr
              have HUI := hid' hu
              rw [hu] at c0 hr
              have HR := hid' hr
              have HBW : Hid (B ≤ wr.heap.size) := hid' (Nat.le_trans hB HL.out.size)
              clear hu hr
              go_wp2_with (at_builtin; refine wpl_append_keep rfl _ _ rfl B (.slice uo (n + k) uc) (n + k) (nmC (mks i n ++ tls i k)) rfl HR.out ⟨wr.heap.size, 0, none⟩ 1 (.int .i64 (-(i : Int) * 1000003 - (k : Int) - 1)) rfl (cell_one_new _ _ _ 0 _ rfl) rfl (by omega) (by simp; have := HBW.out; omega) ?_; intro v3 w3 hown3 hgrow3 hat3 hold3; refine Hid.out ?_)
              refine hid' ?_
              obtain ⟨g3, c3, hv3, _, _⟩ := own_form hown3 (by omega)
              subst hv3
              have HSN := hid' (HSA.out.step (v' := .slice (some ⟨g3, 0, none⟩) (n + k + 1) c3) hlt (by rw [HUI.out]; exact hgrow3) hown3 (by rw [HUI.out]; exact hat3) (by rw [HUI.out]; exact hold3))
              have hlg3 : Ar w3 bm 36 #[U 0, U 1] := ar_grown HSA.out.lg hgrow3 (fun b hb => own_apart HR.out HSA.out.lg (by decide) b hb)
              have c3' : w3.cell? ⟨bm, i, none⟩ = some (U i) := by
                have : i = 0 ∨ i = 1 := by omega
                rcases this with rfl | rfl
                · exact hlg3.cell 0 _ rfl
                · exact hlg3.cell 1 _ rfl
              rw [HUI.out] at c3'
              have f3' := hlg3.free i
              have HLN : Hid (LF FR w (w3.setCell ⟨bm, i, none⟩ (.slice (some ⟨g3, 0, none⟩) (n + k + 1) c3))) := hid' (by
                have hu := upd_setCell w3 bm i (.slice (some ⟨g3, 0, none⟩) (n + k + 1) c3)
                have hl := HL.out
                refine ⟨hu.os.trans (hgrow3.os.trans hl.os), hu.tape.trans (hgrow3.tape.trans hl.tape), hu.output.trans (hgrow3.output.trans hl.output), ?_, fun b hb hs => ?_⟩
                · rw [hu.size]; exact Nat.le_trans hl.size (Nat.le_trans (by simp) hgrow3.size)
                · have hbw : b < wr.heap.size := Nat.lt_of_lt_of_le hb hl.size
                  rw [hu.block b (by have := HBM.out; omega), hgrow3.block b (by simp; omega) (fun e => by
                    rw [← HUI.out] at e
                    rcases HU.out i hlt b e.symm with e2 | e2
                    · exact hs (HFR.out i hlt b e2)
                    · omega)]
                  exact (Lib.alloc_old wr _ b hbw).trans (hl.block b hb hs))
              have HUN : Hid (∀ t, t < 2 → ∀ b, (if t = i then Value.slice (some ⟨g3, 0, none⟩) (n + k + 1) c3 else U t).ownBlock = some b → (V t).ownBlock = some b ∨ w.heap.size ≤ b) := hid' (fun t ht b hb => by
                by_cases e : t = i
                · subst e
                  rw [if_pos rfl] at hb
                  rcases hat3 with e2 | e2
                  · rw [e2, ← HUI.out] at hb; exact HU.out t ht b hb
                  · rw [e2] at hb; injection hb with hb
                    have := HL.out.size
                    right
                    rw [← hb]; simp; omega
                · rw [if_neg e] at hb; exact HU.out t ht b hb)
              clear hown3 hgrow3 hat3 hold3 hlg3 c0 f0
              go_wp2
              go_roundw
              case rel => exact ⟨k + 1, _, by go_num, by omega, HSN, HLN, HUN⟩
              case measure => simp [intOf]; omega
            · obtain rfl : k = 16 := by omega
              clear hk16
              go_wp2
              go_roundw
              case rel => exact ⟨i + 1, U, by go_num, by omega, hid' HS.out.next, HL, HU⟩
              case measure => simp [intOf]; omega
        · have hi2 : i = 2 := by omega
          rw [hi2] at HS
          have hlt2 : ¬ (i : Int) < 2 := by omega
          clear hlt HU hi2
          obtain ⟨wE, hwE⟩ : ∃ wE, wE = wr := ⟨_, rfl⟩
          subst hwE
          go_wp2
          go_loopw [8, 9, 10] (fun s8 _ _ wr => ∃ i q : Nat, s8 = .int .i64 (i : Int) ∧ i ≤ 2 ∧ wr = wE.drewN q) (fun s8 _ _ _ => 2 - (intOf s8).toNat)
          case atStart => exact ⟨0, 0, rfl, Nat.zero_le _, rfl⟩
          case round =>
            obtain ⟨i, q, rfl, hi2, hwr⟩ := hrel
            subst hwr
            by_cases hlt : i < 2
            · have hlt2 : (i : Int) < 2 := by omega
              have c0 := HS.out.cl i hlt
              have c1 := HS.out.cm i hlt
              have hr := HS.out.row i hlt
              rw [cnt_two i hlt] at hr
              obtain ⟨g2, cap2, hu, _, _⟩ := own_form hr (by omega)
              rw [hu] at c1 hr
              obtain ⟨vo, vc, hv⟩ := HS.out.shp i hlt
              have HV := hid' hv
              rw [hv] at c0
              have HR := hid' hr
              clear hu hr hv
              go_wp2
              go_loopw [9] (fun s9 wr => ∃ k : Nat, s9 = .int .i64 (k : Int) ∧ k ≤ n ∧ wr = wE.drewN q) (fun s9 _ => n - (intOf s9).toNat)
              case atStart => exact ⟨0, rfl, Nat.zero_le _, rfl⟩
              case round =>
                obtain ⟨k, rfl, hk, hwr⟩ := hrel
                subst hwr
                by_cases hkn : k < n
                · have hkn2 : (k : Int) < (n : Int) := by omega
                  have hkn3 : (k : Int) < (n : Int) + 16 := by omega
                  have hkn4 : k < n + 16 := by omega
                  obtain ⟨g, cap, hv2, d0⟩ := HS.out.old i hlt k hkn
                  rw [HV.out] at hv2
                  injection hv2 with e1 _ e3
                  subst e1 e3
                  have d0' : wE.cell? ⟨g, k, none⟩ = some (.int .i64 ((i : Int) * 1000003 + (k : Int))) := d0
                  have d1 : wE.cell? ⟨g2, k, none⟩ = some (.int .i64 ((i : Int) * 1000003 + (k : Int))) := own_cell HR.out k _ (row_l i n 16 k hkn)
                  have hbb : (((i : Int) * 1000003 + (k : Int)) == ((i : Int) * 1000003 + (k : Int))) = true := beq_self_eq_true _
                  clear d0
                  go_wp2
                  go_roundw
                  case rel => exact ⟨k + 1, by go_num, by omega, by first | rfl | trivial⟩
                  case measure => simp [intOf]; omega
                · obtain rfl : k = n := by omega
                  have hkn2 : ¬ (k : Int) < (k : Int) := by omega
                  clear hkn
                  go_wp2
                  go_loopw [10] (fun s10 wr => ∃ m q : Nat, s10 = .int .i64 (m : Int) ∧ m ≤ 16 ∧ wr = wE.drewN q) (fun s10 _ => 16 - (intOf s10).toNat)
                  case atStart => exact ⟨0, q, rfl, Nat.zero_le _, rfl⟩
                  case round =>
                    obtain ⟨m, q2, rfl, hm, hwr⟩ := hrel
                    subst hwr
                    by_cases hm16 : m < 16
                    · have hm2 : (m : Int) < 16 := by omega
                      obtain ⟨p, hp⟩ : ∃ p, k + m = p := ⟨_, rfl⟩
                      have hp2 : (k : Int) + (m : Int) = (p : Int) := by omega
                      have hp3 : p < k + 16 := by omega
                      have hp4 : (p : Int) < (k : Int) + 16 := by omega
                      have hwp : IntKind.i64.wrap (p : Int) = (p : Int) := by rw [IntKind.wrap_i64]; omega
                      have d2 : wE.cell? ⟨g2, p, none⟩ = some (.int .i64 (-(i : Int) * 1000003 - (m : Int) - 1)) := by rw [← hp]; exact own_cell HR.out _ _ (row_r i k 16 m hm16)
                      have hbb : ((-(i : Int) * 1000003 - (m : Int) - 1) == (-(i : Int) * 1000003 - (m : Int) - 1)) = true := beq_self_eq_true _
                      clear hp
                      go_wp2
                      go_quiet (fail)
                      go_wp2
                      go_roundw
                      case rel => exact ⟨m + 1, _, by go_num, by omega, by first | rfl | simp⟩
                      case measure => simp [intOf]; omega
                    · obtain rfl : m = 16 := by omega
                      clear hm16
                      go_wp2
                      go_roundw
                      case rel => exact ⟨i + 1, q2, by go_num, by omega, by first | rfl | trivial⟩
                      case measure => simp [intOf]; omega
            · have hlt2 : ¬ (i : Int) < 2 := by omega
              clear hlt
              go_wp2
              go_ret
              exact ⟨rfl, ⟨HL.out.os, HL.out.tape, HL.out.output, HL.out.size, HL.out.block⟩⟩

end Go.Proofs.Ytpgfnhfjkplmaaa
