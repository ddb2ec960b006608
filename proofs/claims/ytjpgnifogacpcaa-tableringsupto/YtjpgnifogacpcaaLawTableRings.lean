/-
  TableRings answers true.
-/
import Derived.Test.YtjpgnifogacpcaaTabRi
import Derived.Test.YtjpgnifogacpcaaTabI
import Derived.Test.YtjpgnifogacpcaaTabPR
namespace Go.Proofs.Ytjpgnifogacpcaa
open Go.RowKit

theorem scrI_shape {w : World} {v : Value} {xs : List Int} (h : ScrI w v xs) : ∃ ao cap, v = .slice ao xs.length cap := by
  rcases h with ⟨hv, h0⟩ | ⟨a, cap, hv, _⟩
  · exact ⟨none, 0, by rw [hv, h0]; rfl⟩
  · exact ⟨_, _, hv⟩

set_option maxHeartbeats 8000000 in
set_option maxRecDepth 20000 in
theorem tableRings_true (sv : Value) (xs : List Int) (w : World) (hsc : ScrI w sv xs) (hwx : ∀ x ∈ xs, -9223372036854775808 ≤ x ∧ x ≤ 9223372036854775807) (hlen : xs.length ≤ 1048576) :
    Calls Try.prog 6 #[sv] w fun e w' => e = .returned (.bool true) ∧ Below w.heap.size w w' := by
  have HSC := hid' hsc
  have HWX := hid' hwx
  obtain ⟨ao, cap, rfl⟩ := scrI_shape hsc
  clear hsc hwx
  go_enter Try.func6, Try.ntmps6
  go_wp2_with fail
  refine (newI w.heap.size _ (Nat.le_refl _)).mono ?_
  rintro e w1 ⟨rfl, hR1, hb1⟩
  go_wp2_with fail
  refine (newF w.heap.size _ hb1.size).mono ?_
  rintro e w2 ⟨rfl, hF2, hb2⟩
  obtain ⟨r, hr⟩ : ∃ r, w.heap.size = r := ⟨_, rfl⟩
  obtain ⟨s, hs⟩ : ∃ s, w1.heap.size = s := ⟨_, rfl⟩
  have HP0 : Hid (RI w w2 r s (.slice none 0 0) (.slice none 0 0) (.slice none 0 0) [] [] []) := hid' ⟨by have := hR1.keep hb2; rw [hr] at this ⊢; exact this, by rw [← hs]; exact hF2, sl_nil _ _ _ _, by simp [Value.ownBlock], below_two hb1 hb2⟩
  rw [hr, hs]
  clear hR1 hb1 hb2 hF2
  go_wp2
  go_loopw [5, 6] (fun s5 s6 wr => ∃ i : Nat, s6 = .int .i64 (i : Int) ∧ i ≤ xs.length ∧ ∃ (ao5 : Option Addr) (n5 cap5 : Nat), s5 = .slice ao5 n5 cap5 ∧ Hid (∃ u v L, RI w wr r s u v (.slice ao5 n5 cap5) L L L ∧ L.length = n5 ∧ n5 ≤ i)) (fun _ s6 _ => xs.length - (intOf s6).toNat)
  case atStart => exact ⟨0, rfl, Nat.zero_le _, none, 0, 0, rfl, hid' ⟨_, _, [], HP0.out, rfl, Nat.le_refl _⟩⟩
  case round =>
    clear HP0
    obtain ⟨i, rfl, hil, ao5, n5, cap5, rfl, HI⟩ := hrel
    obtain ⟨u, v, L, hP, hL, hLi⟩ := HI.out
    have HP := hid' hP
    have HL := hid' hL
    clear hP HI
    by_cases hlt : i < xs.length
    · have hlt2 : decide ((i : Int) < (xs.length : Int)) = true := decide_eq_true (by omega)
      have hltN : decide (i < xs.length) = true := decide_eq_true hlt
      obtain ⟨x, hx⟩ : ∃ x, xs[i]? = some x := ⟨_, List.getElem?_eq_getElem hlt⟩
      obtain ⟨hx0, hx1⟩ := HWX.out x (List.mem_of_getElem? hx)
      obtain ⟨a, rfl⟩ : ∃ a, ao = some a := by
        rcases HSC.out with ⟨hv, h0⟩ | ⟨a, _, hv, _⟩
        · subst h0; simp at hlt
        · exact ⟨a, by simp at hv; exact hv.1⟩
      have hcell : (a.add i).block < w.heap.size ∧ w.cell? (a.add i) = some (.int .i64 x) := by
        rcases HSC.out with ⟨hv, _⟩ | ⟨a', cap', hv, hh⟩
        · cases hv
        · simp at hv
          obtain ⟨rfl, _⟩ := hv
          exact hh i x hx
      obtain ⟨kb, k0⟩ := hcell
      have c0 := (HP.out.bel.cell (p := a.add i) kb).trans k0
      clear k0 kb hx
      by_cases hx3 : x.tmod 3 = 0
      · have hx3b : (x.tmod 3 == 0) = true := by rw [hx3]; rfl
        clear hx3
        by_cases hL0 : L = []
        · -- Pop of nothing
          obtain rfl : L = [] := hL0
          have hn5 : n5 = 0 := by rw [← HL.out]; rfl
          have hd0 : decide ((0 : Int) < (n5 : Int)) = false := decide_eq_false (by omega)
          have hd1 : decide (0 < n5) = false := decide_eq_false (by omega)
          have hnE : n5 ≤ i + 1 := by omega
          have HPI := hid' (popI_none w.heap.size r _ u [] _ HP.out.ring)
          clear hn5
          go_wp2_with fail
          refine HPI.out.mono ?_
          rintro e w3 ⟨rfl, rfl⟩
          clear HPI c0
          go_wp2_with fail
          refine (popF_none w.heap.size s _ v [] _ HP.out.fld).mono ?_
          rintro e w4 ⟨rfl, hb4⟩
          have hb5 : Below w4.heap.size w4 (w4.alloc (.cells #[.string ⟨#[]⟩, .string ⟨#[]⟩] 32)) := (Below.refl _ _).alloc (Nat.le_refl _) _
          have hX : Ar (w4.alloc (.cells #[.string ⟨#[]⟩, .string ⟨#[]⟩] 32)) w4.heap.size 32 #[.string ⟨#[]⟩, .string ⟨#[]⟩] := heap_alloc_last w4 _
          have x0 := hX.cell 0 _ rfl
          have x1 := hX.cell 1 _ rfl
          have HPE := hid' ((HP.out.keep hb4).keep hb5)
          have hng := noGuard
          have heq := neq_field_no [] []
          clear hb4 hb5 hX
          obtain ⟨LE, hLE⟩ : ∃ LE : List Int, LE = [] := ⟨_, rfl⟩
          rw [← hLE] at HPE
          obtain ⟨nE, hnn⟩ : ∃ nE : Nat, n5 = nE := ⟨_, rfl⟩
          have HLE : Hid (LE.length = nE) := hid' (by rw [hLE, ← hnn, ← HL.out])
          rw [hnn] at HPE hnE hd0 hd1 ⊢
          obtain ⟨aoE, haa⟩ : ∃ aoE, ao5 = aoE := ⟨_, rfl⟩
          obtain ⟨capE, hcc⟩ : ∃ capE, cap5 = capE := ⟨_, rfl⟩
          rw [haa, hcc] at HPE ⊢
          clear hLE hnn haa hcc HP HL
          go_wp2
          clear x0 x1 hd0 hd1
          generalize w4.alloc (.cells #[.string ⟨#[]⟩, .string ⟨#[]⟩] 32) = wz at *
          go_wp2
          go_loopw [12] (fun s12 wq => (s12 = .int .i64 (-1) ∨ ∃ j : Nat, s12 = .int .i64 (j : Int) ∧ j ≤ nE + 1) ∧ Hid (Below wz.heap.size wz wq)) (fun s12 _ => ((nE : Int) + 2 - intOf s12).toNat)
          case atStart => exact ⟨.inl rfl, hid' (Below.refl _ _)⟩
          case round =>
            obtain ⟨hj, HBQ⟩ := hrel
            have HPQ := hid' (HPE.out.keep HBQ.out)
            rcases hj with rfl | ⟨j, rfl, hj⟩
            · have hle : decide ((-1 : Int) ≤ (nE : Int)) = true := decide_eq_true (by omega)
              go_wp2_with fail
              refine (atI_no _ r _ _ _ _ _ (-1) _ HPQ.out.ring (.inl (by omega))).mono ?_
              rintro e w8 ⟨rfl, rfl⟩
              go_wp2
              go_roundw
              case rel => exact ⟨.inr ⟨0, rfl, by omega⟩, HBQ⟩
              case measure => simp [intOf]; omega
            · by_cases hjn : j < nE
              · have hle : decide ((j : Int) ≤ (nE : Int)) = true := decide_eq_true (by omega)
                have hleN : decide (j ≤ nE) = true := decide_eq_true (by omega)
                have hltI : decide ((j : Int) < (nE : Int)) = true := decide_eq_true (by omega)
                have hltM : decide (j < nE) = true := decide_eq_true hjn
                have hge : decide ((0 : Int) ≤ (j : Int)) = true := decide_eq_true (by omega)
                obtain ⟨t, ht⟩ : ∃ t, nE - 1 - j = t := ⟨_, rfl⟩
                have htI : (nE : Int) - 1 - (j : Int) = (t : Int) := by omega
                have htn : t < nE := by omega
                obtain ⟨y, hy⟩ : ∃ y, LE[t]? = some y := ⟨_, List.getElem?_eq_getElem (by rw [HLE.out]; exact htn)⟩
                have hrow := HPQ.out.loc
                rw [HLE.out] at hrow
                obtain ⟨g, q, cq, hv, _⟩ := hrow.form (by omega)
                simp only [Value.slice.injEq] at hv
                obtain ⟨rfl, _, rfl⟩ := hv
                have HY : Hid ((iv LE)[t]? = some (.int .i64 y)) := hid' (iv_at LE t y hy)
                have HROW := hid' hrow
                have HT := hid' ht
                clear hy hrow ht
                go_wp2_with fail
                refine (atI_yes _ r _ _ _ LE.length _ j y _ HPQ.out.ring (by rw [HLE.out]; exact hjn) (by rw [HLE.out]; omega) (by rw [HLE.out, HT.out]; exact HY.out)).mono ?_
                rintro e w8 ⟨rfl, nq, rfl⟩
                have hb8 : Below wr.heap.size wr (wr.drewN nq) := ⟨rfl, rfl, rfl, Nat.le_refl _, fun _ _ => rfl⟩
                have x0 : (wr.drewN nq).cell? ⟨g, q + t, none⟩ = some (.int .i64 y) := ((HROW.out.keep hb8).cellAt t (by omega)).trans HY.out
                have HB8 := hid' (below_two HBQ.out hb8)
                clear hb8
                generalize wr.drewN nq = w8 at *
                go_wp2
                go_roundw
                case rel => exact ⟨.inr ⟨j + 1, by go_num, by omega⟩, HB8⟩
                case measure => simp [intOf]; omega
              · by_cases hje : j = nE
                · subst hje
                  have hle : decide ((j : Int) ≤ (j : Int)) = true := decide_eq_true (by omega)
                  have hge : decide ((0 : Int) ≤ (j : Int)) = true := decide_eq_true (by omega)
                  have hltI : decide ((j : Int) < (j : Int)) = false := decide_eq_false (by omega)
                  go_wp2_with fail
                  refine (atI_no _ r _ _ _ LE.length _ (j : Int) _ HPQ.out.ring (.inr (by rw [HLE.out]; exact Int.le_refl _))).mono ?_
                  rintro e w8 ⟨rfl, rfl⟩
                  go_wp2
                  go_roundw
                  case rel => exact ⟨.inr ⟨j + 1, by go_num, by omega⟩, HBQ⟩
                  case measure => simp [intOf]; omega
                · have hle : decide ((j : Int) ≤ (nE : Int)) = false := decide_eq_false (by omega)
                  have hleN : decide (j ≤ nE) = false := decide_eq_false (by omega)
                  have HLI := hid' (lenI _ r _ _ _ LE.length _ _ HPQ.out.ring)
                  have HLF := hid' (lenF _ s _ _ _ LE.length _ _ HPQ.out.fld)
                  rw [HLE.out] at HLI HLF
                  go_wp2_with fail
                  refine HLI.out.mono ?_
                  rintro e w8 ⟨rfl, rfl⟩
                  go_wp2_with fail
                  refine HLF.out.mono ?_
                  rintro e w8 ⟨rfl, rfl⟩
                  clear HLI HLF
                  go_wp2
                  go_roundw
                  case rel => exact ⟨i + 1, by go_num, by omega, _, _, _, rfl, hid' ⟨_, _, LE, HPQ.out, HLE.out, hnE⟩⟩
                  case measure => simp [intOf]; omega
        · -- Pop
          obtain ⟨y, L', rfl⟩ : ∃ y L', L = y :: L' := by
            cases L with
            | nil => exact absurd rfl hL0
            | cons y L' => exact ⟨y, L', rfl⟩
          obtain ⟨m, hm⟩ : ∃ m : Nat, y % 64 = (m : Int) := ⟨(y % 64).toNat, by omega⟩
          have hm63 : m ≤ 63 := by omega
          obtain ⟨Z, hZ⟩ : ∃ Z, zb (y % 64).toNat = Z := ⟨_, rfl⟩
          have hZs : Z.size = m := by rw [← hZ, zb_size, hm, Int.toNat_natCast]
          have hand : bits .and .i64 y 63 = (m : Int) := by rw [i64_and63, hm]
          obtain ⟨nE, hnn⟩ : ∃ nE, L'.length = nE := ⟨_, rfl⟩
          have hn5 : n5 = nE + 1 := by rw [← HL.out, List.length_cons, hnn]
          subst hn5
          have hrow := HP.out.loc
          rw [List.length_cons, hnn] at hrow
          obtain ⟨g, q, cq, hv, hcq, hcmx, _⟩ := hrow.form (by omega)
          simp only [Value.slice.injEq] at hv
          obtain ⟨rfl, _, rfl⟩ := hv
          have hRing := HP.out.ring
          have hFld := HP.out.fld
          rw [iv_cons, List.length_cons] at hRing
          rw [fv_cons, List.length_cons, hZ] at hFld
          have HRing := hid' hRing
          have HFld := hid' hFld
          have HROW := hid' hrow
          have hd0 : decide ((0 : Int) < (nE : Int) + 1) = true := decide_eq_true (by omega)
          have hd1 : decide (0 < nE + 1) = true := decide_eq_true (by omega)
          have hnE : nE ≤ i + 1 := by omega
          have HLE : Hid (L'.length = nE) := hid' hnn
          have hcmx2 : (cap5 : Int) ≤ 9223372036854775807 := by unfold maxLen at hcmx; omega
          have hcq2 : 1 ≤ cap5 := by omega
          clear hRing hFld hrow hm hZ hnn HL
          go_wp2_with fail
          refine (popI_some w.heap.size r _ u [] L'.length y (iv L') _ HRing.out).mono ?_
          rintro e w3 ⟨rfl, u3, hR3, hu3, hT3⟩
          have HP3 := hid' (HP.out.ofI hT3 hR3 (fun k h => .inl (hu3 k h)))
          have HF3 := hid' (HFld.out.two hT3 (fun e => HP.out.ne e.symm) (HP.out.ring.row.ne HP.out.fld.obj (by decide)) (HP.out.fld.row.ne HP.out.ring.obj (by decide)) (HP.out.fld.row.apart HP.out.ring.row (by decide)))
          clear hR3 hu3 hT3 c0
          go_wp2_with fail
          refine (popF_some w.heap.size s _ v [] L'.length Z ⟨#[]⟩ (fv L') _ HF3.out).mono ?_
          rintro e w4 ⟨rfl, v4, hR4, _, hT4⟩
          have HP4 := hid' (HP3.out.ofF hT4 hR4)
          clear hR4 hT4 HP3 HF3 HRing HFld HP
          have hb5 : Below w4.heap.size w4 (w4.alloc (.cells #[.string Z, .string ⟨#[]⟩] 32)) := (Below.refl _ _).alloc (Nat.le_refl _) _
          have hX : Ar (w4.alloc (.cells #[.string Z, .string ⟨#[]⟩] 32)) w4.heap.size 32 #[.string Z, .string ⟨#[]⟩] := heap_alloc_last w4 _
          have x0 := hX.cell 0 _ rfl
          have x1 := hX.cell 1 _ rfl
          have HP5 := hid' (HP4.out.keep hb5)
          have hl5 := HP5.out.loc
          rw [iv_cons, List.length_cons, HLE.out] at hl5
          have HL5 := hid' hl5
          have l0 : (w4.alloc (.cells #[.string Z, .string ⟨#[]⟩] 32)).cell? ⟨g, q, none⟩ = some (.int .i64 y) := hl5.cellAt 0 (by omega)
          clear hb5 hX hl5 HP4
          by_cases hc1 : cap5 = 1
          · subst hc1
            have HPE : Hid (RI w (w4.alloc (.cells #[.string Z, .string ⟨#[]⟩] 32)) r s u3 v4 (.slice (some ⟨g, q, none⟩) nE (0)) L' L' L') := hid' (HP5.out.setL (by
              have hn0 : nE = 0 := by omega
              obtain rfl : L' = [] := List.eq_nil_of_length_eq_zero (by rw [HLE.out]; exact hn0)
              subst hn0
              exact HL5.out.tail1) (fun k hk => hk))
            go_wp2
            clear x0 x1 l0 HP5 HL5 hand hZs HROW hd0 hd1
            generalize w4.alloc (.cells #[.string Z, .string ⟨#[]⟩] 32) = wz at *
            have hval : Value.slice (some ⟨g, q, none⟩) 0 0 = Value.slice (some ⟨g, q, none⟩) nE 0 := by rw [show nE = 0 by omega]
            rw [hval]
            clear hval
            obtain ⟨aoE, haa⟩ : ∃ aoE : Option Addr, (some ⟨g, q, none⟩) = aoE := ⟨_, rfl⟩
            rw [haa] at HPE ⊢
            obtain ⟨LE, hLE⟩ : ∃ LE : List Int, L' = LE := ⟨_, rfl⟩
            rw [hLE] at HPE HLE
            clear haa hcq hcmx hcmx2 hcq2 hLE
            go_wp2
            go_loopw [12] (fun s12 wq => (s12 = .int .i64 (-1) ∨ ∃ j : Nat, s12 = .int .i64 (j : Int) ∧ j ≤ nE + 1) ∧ Hid (Below wz.heap.size wz wq)) (fun s12 _ => ((nE : Int) + 2 - intOf s12).toNat)
            case atStart => exact ⟨.inl rfl, hid' (Below.refl _ _)⟩
            case round =>
              obtain ⟨hj, HBQ⟩ := hrel
              have HPQ := hid' (HPE.out.keep HBQ.out)
              rcases hj with rfl | ⟨j, rfl, hj⟩
              · have hle : decide ((-1 : Int) ≤ (nE : Int)) = true := decide_eq_true (by omega)
                go_wp2_with fail
                refine (atI_no _ r _ _ _ _ _ (-1) _ HPQ.out.ring (.inl (by omega))).mono ?_
                rintro e w8 ⟨rfl, rfl⟩
                go_wp2
                go_roundw
                case rel => exact ⟨.inr ⟨0, rfl, by omega⟩, HBQ⟩
                case measure => simp [intOf]; omega
              · by_cases hjn : j < nE
                · have hle : decide ((j : Int) ≤ (nE : Int)) = true := decide_eq_true (by omega)
                  have hleN : decide (j ≤ nE) = true := decide_eq_true (by omega)
                  have hltI : decide ((j : Int) < (nE : Int)) = true := decide_eq_true (by omega)
                  have hltM : decide (j < nE) = true := decide_eq_true hjn
                  have hge : decide ((0 : Int) ≤ (j : Int)) = true := decide_eq_true (by omega)
                  obtain ⟨t, ht⟩ : ∃ t, nE - 1 - j = t := ⟨_, rfl⟩
                  have htI : (nE : Int) - 1 - (j : Int) = (t : Int) := by omega
                  have htn : t < nE := by omega
                  obtain ⟨y, hy⟩ : ∃ y, LE[t]? = some y := ⟨_, List.getElem?_eq_getElem (by rw [HLE.out]; exact htn)⟩
                  have hrow := HPQ.out.loc
                  rw [HLE.out] at hrow
                  obtain ⟨g, q, cq, hv, _⟩ := hrow.form (by omega)
                  simp only [Value.slice.injEq] at hv
                  obtain ⟨rfl, _, rfl⟩ := hv
                  have HY : Hid ((iv LE)[t]? = some (.int .i64 y)) := hid' (iv_at LE t y hy)
                  have HROW := hid' hrow
                  have HT := hid' ht
                  clear hy hrow ht
                  go_wp2_with fail
                  refine (atI_yes _ r _ _ _ LE.length _ j y _ HPQ.out.ring (by rw [HLE.out]; exact hjn) (by rw [HLE.out]; omega) (by rw [HLE.out, HT.out]; exact HY.out)).mono ?_
                  rintro e w8 ⟨rfl, nq, rfl⟩
                  have hb8 : Below wr.heap.size wr (wr.drewN nq) := ⟨rfl, rfl, rfl, Nat.le_refl _, fun _ _ => rfl⟩
                  have x0 : (wr.drewN nq).cell? ⟨g, q + t, none⟩ = some (.int .i64 y) := ((HROW.out.keep hb8).cellAt t (by omega)).trans HY.out
                  have HB8 := hid' (below_two HBQ.out hb8)
                  clear hb8
                  generalize wr.drewN nq = w8 at *
                  go_wp2
                  go_roundw
                  case rel => exact ⟨.inr ⟨j + 1, by go_num, by omega⟩, HB8⟩
                  case measure => simp [intOf]; omega
                · by_cases hje : j = nE
                  · subst hje
                    have hle : decide ((j : Int) ≤ (j : Int)) = true := decide_eq_true (by omega)
                    have hge : decide ((0 : Int) ≤ (j : Int)) = true := decide_eq_true (by omega)
                    have hltI : decide ((j : Int) < (j : Int)) = false := decide_eq_false (by omega)
                    go_wp2_with fail
                    refine (atI_no _ r _ _ _ LE.length _ (j : Int) _ HPQ.out.ring (.inr (by rw [HLE.out]; exact Int.le_refl _))).mono ?_
                    rintro e w8 ⟨rfl, rfl⟩
                    go_wp2
                    go_roundw
                    case rel => exact ⟨.inr ⟨j + 1, by go_num, by omega⟩, HBQ⟩
                    case measure => simp [intOf]; omega
                  · have hle : decide ((j : Int) ≤ (nE : Int)) = false := decide_eq_false (by omega)
                    have hleN : decide (j ≤ nE) = false := decide_eq_false (by omega)
                    have HLI := hid' (lenI _ r _ _ _ LE.length _ _ HPQ.out.ring)
                    have HLF := hid' (lenF _ s _ _ _ LE.length _ _ HPQ.out.fld)
                    rw [HLE.out] at HLI HLF
                    go_wp2_with fail
                    refine HLI.out.mono ?_
                    rintro e w8 ⟨rfl, rfl⟩
                    go_wp2_with fail
                    refine HLF.out.mono ?_
                    rintro e w8 ⟨rfl, rfl⟩
                    clear HLI HLF
                    go_wp2
                    go_roundw
                    case rel => exact ⟨i + 1, by go_num, by omega, _, _, _, rfl, hid' ⟨_, _, LE, HPQ.out, HLE.out, hnE⟩⟩
                    case measure => simp [intOf]; omega
          · have HPE : Hid (RI w (w4.alloc (.cells #[.string Z, .string ⟨#[]⟩] 32)) r s u3 v4 (.slice (some ⟨g, q + 1, none⟩) nE (cap5 - 1)) L' L' L') := hid' (HP5.out.setL (by
              rw [HLE.out]
              exact HL5.out.tail hc1) (fun k hk => hk))
            go_wp2
            clear x0 x1 l0 HP5 HL5 hand hZs HROW hd0 hd1
            generalize w4.alloc (.cells #[.string Z, .string ⟨#[]⟩] 32) = wz at *
            obtain ⟨aoE, haa⟩ : ∃ aoE : Option Addr, (some ⟨g, q + 1, none⟩) = aoE := ⟨_, rfl⟩
            rw [haa] at HPE ⊢
            obtain ⟨LE, hLE⟩ : ∃ LE : List Int, L' = LE := ⟨_, rfl⟩
            rw [hLE] at HPE HLE
            clear haa hcq hcmx hcmx2 hcq2 hLE
            go_wp2
            go_loopw [12] (fun s12 wq => (s12 = .int .i64 (-1) ∨ ∃ j : Nat, s12 = .int .i64 (j : Int) ∧ j ≤ nE + 1) ∧ Hid (Below wz.heap.size wz wq)) (fun s12 _ => ((nE : Int) + 2 - intOf s12).toNat)
            case atStart => exact ⟨.inl rfl, hid' (Below.refl _ _)⟩
            case round =>
              obtain ⟨hj, HBQ⟩ := hrel
              have HPQ := hid' (HPE.out.keep HBQ.out)
              rcases hj with rfl | ⟨j, rfl, hj⟩
              · have hle : decide ((-1 : Int) ≤ (nE : Int)) = true := decide_eq_true (by omega)
                go_wp2_with fail
                refine (atI_no _ r _ _ _ _ _ (-1) _ HPQ.out.ring (.inl (by omega))).mono ?_
                rintro e w8 ⟨rfl, rfl⟩
                go_wp2
                go_roundw
                case rel => exact ⟨.inr ⟨0, rfl, by omega⟩, HBQ⟩
                case measure => simp [intOf]; omega
              · by_cases hjn : j < nE
                · have hle : decide ((j : Int) ≤ (nE : Int)) = true := decide_eq_true (by omega)
                  have hleN : decide (j ≤ nE) = true := decide_eq_true (by omega)
                  have hltI : decide ((j : Int) < (nE : Int)) = true := decide_eq_true (by omega)
                  have hltM : decide (j < nE) = true := decide_eq_true hjn
                  have hge : decide ((0 : Int) ≤ (j : Int)) = true := decide_eq_true (by omega)
                  obtain ⟨t, ht⟩ : ∃ t, nE - 1 - j = t := ⟨_, rfl⟩
                  have htI : (nE : Int) - 1 - (j : Int) = (t : Int) := by omega
                  have htn : t < nE := by omega
                  obtain ⟨y, hy⟩ : ∃ y, LE[t]? = some y := ⟨_, List.getElem?_eq_getElem (by rw [HLE.out]; exact htn)⟩
                  have hrow := HPQ.out.loc
                  rw [HLE.out] at hrow
                  obtain ⟨g, q, cq, hv, _⟩ := hrow.form (by omega)
                  simp only [Value.slice.injEq] at hv
                  obtain ⟨rfl, _, rfl⟩ := hv
                  have HY : Hid ((iv LE)[t]? = some (.int .i64 y)) := hid' (iv_at LE t y hy)
                  have HROW := hid' hrow
                  have HT := hid' ht
                  clear hy hrow ht
                  go_wp2_with fail
                  refine (atI_yes _ r _ _ _ LE.length _ j y _ HPQ.out.ring (by rw [HLE.out]; exact hjn) (by rw [HLE.out]; omega) (by rw [HLE.out, HT.out]; exact HY.out)).mono ?_
                  rintro e w8 ⟨rfl, nq, rfl⟩
                  have hb8 : Below wr.heap.size wr (wr.drewN nq) := ⟨rfl, rfl, rfl, Nat.le_refl _, fun _ _ => rfl⟩
                  have x0 : (wr.drewN nq).cell? ⟨g, q + t, none⟩ = some (.int .i64 y) := ((HROW.out.keep hb8).cellAt t (by omega)).trans HY.out
                  have HB8 := hid' (below_two HBQ.out hb8)
                  clear hb8
                  generalize wr.drewN nq = w8 at *
                  go_wp2
                  go_roundw
                  case rel => exact ⟨.inr ⟨j + 1, by go_num, by omega⟩, HB8⟩
                  case measure => simp [intOf]; omega
                · by_cases hje : j = nE
                  · subst hje
                    have hle : decide ((j : Int) ≤ (j : Int)) = true := decide_eq_true (by omega)
                    have hge : decide ((0 : Int) ≤ (j : Int)) = true := decide_eq_true (by omega)
                    have hltI : decide ((j : Int) < (j : Int)) = false := decide_eq_false (by omega)
                    go_wp2_with fail
                    refine (atI_no _ r _ _ _ LE.length _ (j : Int) _ HPQ.out.ring (.inr (by rw [HLE.out]; exact Int.le_refl _))).mono ?_
                    rintro e w8 ⟨rfl, rfl⟩
                    go_wp2
                    go_roundw
                    case rel => exact ⟨.inr ⟨j + 1, by go_num, by omega⟩, HBQ⟩
                    case measure => simp [intOf]; omega
                  · have hle : decide ((j : Int) ≤ (nE : Int)) = false := decide_eq_false (by omega)
                    have hleN : decide (j ≤ nE) = false := decide_eq_false (by omega)
                    have HLI := hid' (lenI _ r _ _ _ LE.length _ _ HPQ.out.ring)
                    have HLF := hid' (lenF _ s _ _ _ LE.length _ _ HPQ.out.fld)
                    rw [HLE.out] at HLI HLF
                    go_wp2_with fail
                    refine HLI.out.mono ?_
                    rintro e w8 ⟨rfl, rfl⟩
                    go_wp2_with fail
                    refine HLF.out.mono ?_
                    rintro e w8 ⟨rfl, rfl⟩
                    clear HLI HLF
                    go_wp2
                    go_roundw
                    case rel => exact ⟨i + 1, by go_num, by omega, _, _, _, rfl, hid' ⟨_, _, LE, HPQ.out, HLE.out, hnE⟩⟩
                    case measure => simp [intOf]; omega
      · have hx3b : (x.tmod 3 == 0) = false := beq_false_of_ne hx3
        clear hx3
        obtain ⟨m, hm⟩ : ∃ m : Nat, x % 64 = (m : Int) := ⟨(x % 64).toNat, by omega⟩
        have hm63 : m ≤ 63 := by omega
        have hand : bits .and .i64 x 63 = (m : Int) := by rw [i64_and63, hm]
        have HZ : Hid (zb (x % 64).toNat = zb m) := hid' (by rw [hm, Int.toNat_natCast])
        obtain ⟨i0, hi, hz0, hz1, hz2⟩ := info_parts infoInt
        have HI0 := hid' hi
        have HZ0 := hid' hz0
        have HZ1 := hid' hz1
        have HZ2 := hid' hz2
        obtain ⟨i8, hi8, hz80, hz81, hz82⟩ := info_parts infoU8
        have HI8 := hid' hi8
        have HZ80 := hid' hz80
        have HZ81 := hid' hz81
        have HZ82 := hid' hz82
        have hn5 : n5 ≤ 1048576 := by omega
        have HLL : Hid (L.length ≤ 1048576) := hid' (by rw [HL.out]; exact hn5)
        clear hi hz0 hz1 hz2 hi8 hz80 hz81 hz82 hm
        go_wp2_with fail
        refine (pushI w.heap.size r _ u [] L.length (iv L) x _ HP.out.ring (by decide) (by have := HLL.out; omega) HP.out.bel.size).mono ?_
        rintro e w3 ⟨rfl, u3, hR3, hu3, hT3⟩
        have HP3 : Hid (RI w w3 r s u3 v (.slice ao5 n5 cap5) (L ++ [x]) L L) := hid' (HP.out.ofI hT3 (by rw [iv_snoc, List.length_append]; exact hR3) hu3)
        clear hR3 hu3 hT3 c0 HP
        go_wp2_with (refine wpl_make 57 5 _ _ rfl rfl i8 (.int .u8 0) Try.underlying57 HI8.out HZ80.out HZ81.out HZ82.out rfl m (by omega) rfl rfl ?_; intro zk w4 hzk hA4 hb4; refine Hid.out ?_)
        refine hid ?_
        have HP4 := hid' (HP3.out.keep hb4)
        have HA4 := hid' hA4
        clear hb4 hA4 hzk HP3
        refine wpl_zeros 57 9 5 _ rfl rfl Try.underlying57 Try.underlying5 Try.underlying9 zk m m rfl 5 HA4.out ?_
        obtain ⟨Z, hZ⟩ : ∃ Z, zb m = Z := ⟨_, rfl⟩
        have HZE : Hid (zb (x % 64).toNat = Z) := hid' (HZ.out.trans hZ)
        rw [hZ]
        clear hZ HZ HA4
        go_wp2_with fail
        refine (field_any _ _ _).mono ?_
        rintro e w5 ⟨rfl, hb5⟩
        have HP5 := hid' (HP4.out.keep hb5)
        clear hb5 HP4
        go_wp2_with fail
        refine (pushF w.heap.size s _ v [] L.length (fv L) Z ⟨#[]⟩ _ HP5.out.fld (by decide) (by have := HLL.out; omega) HP5.out.bel.size).mono ?_
        rintro e w6 ⟨rfl, v6, hR6, _, hT6⟩
        have HP6 : Hid (RI w w6 r s u3 v6 (.slice ao5 n5 cap5) (L ++ [x]) (L ++ [x]) L) := hid' (HP5.out.ofF hT6 (by rw [fv_snoc, List.length_append, HZE.out]; exact hR6))
        clear hR6 hT6 HP5
        have hloc := HP6.out.loc
        rw [HL.out] at hloc
        have HLOC := hid' hloc
        have HB6 : Hid (w.heap.size ≤ w6.heap.size) := hid' HP6.out.bel.size
        clear hloc hand
        go_wp2_with (at_builtin; refine wpList_append_sl _ rfl _ _ 48 rfl w.heap.size 3 i0 (.int .i64 0) 1 8 Try.underlying48 HI0.out HZ0.out HZ1.out HZ2.out rfl (by decide) (.slice ao5 n5 cap5) n5 (iv L) rfl (HLOC.out.alloc _) ⟨w6.heap.size, 0, none⟩ 1 1 [.int .i64 x] rfl rfl (cell_one_new _ _ _) (by simp [Value.oneCell']) (by decide) (by unfold maxLen; omega) (by omega) (by have := HB6.out; simp; omega) ?_; intro g q capE wz hrow hgrow hat; refine Hid.out ?_)
        refine hid ?_
        obtain ⟨LE, hLE⟩ : ∃ LE : List Int, L ++ [x] = LE := ⟨_, rfl⟩
        obtain ⟨nE, hnn⟩ : ∃ nE, n5 + 1 = nE := ⟨_, rfl⟩
        have HLE : Hid (LE.length = nE) := hid' (by rw [← hLE, ← hnn, List.length_append, HL.out]; rfl)
        have HPE : Hid (RI w wz r s u3 v6 (.slice (some ⟨g, q, none⟩) nE capE) LE LE LE) := hid' (by
          have h7 := HP6.out.keep ((Below.refl _ _).alloc (Nat.le_refl _) (.cells #[.int .i64 x] 3))
          have hrow' : Sl wz w.heap.size 3 1 (.slice (some ⟨g, q, none⟩) nE capE) LE.length (iv LE) := by
            rw [HLE.out, ← hLE, iv_snoc, ← hnn]; exact hrow
          have := h7.ofL (L' := LE) hgrow hrow' (fun k hk => by
            simp only [Value.ownBlock, Option.some.injEq] at hk
            subst hk
            exact hat)
          rw [hLE] at this
          exact this)
        have hnE : nE ≤ i + 1 := by omega
        have hnE2 : nE ≤ 1048577 := by omega
        rw [hnn]
        obtain ⟨aoE, haa⟩ : ∃ aoE : Option Addr, some ⟨g, q, none⟩ = aoE := ⟨_, rfl⟩
        rw [haa] at HPE ⊢
        clear hrow hgrow hat HP6 HLOC HB6 hLE hnn haa HL HLL HZE hn5
        go_wp2
        go_loopw [12] (fun s12 wq => (s12 = .int .i64 (-1) ∨ ∃ j : Nat, s12 = .int .i64 (j : Int) ∧ j ≤ nE + 1) ∧ Hid (Below wz.heap.size wz wq)) (fun s12 _ => ((nE : Int) + 2 - intOf s12).toNat)
        case atStart => exact ⟨.inl rfl, hid' (Below.refl _ _)⟩
        case round =>
          obtain ⟨hj, HBQ⟩ := hrel
          have HPQ := hid' (HPE.out.keep HBQ.out)
          rcases hj with rfl | ⟨j, rfl, hj⟩
          · have hle : decide ((-1 : Int) ≤ (nE : Int)) = true := decide_eq_true (by omega)
            go_wp2_with fail
            refine (atI_no _ r _ _ _ _ _ (-1) _ HPQ.out.ring (.inl (by omega))).mono ?_
            rintro e w8 ⟨rfl, rfl⟩
            go_wp2
            go_roundw
            case rel => exact ⟨.inr ⟨0, rfl, by omega⟩, HBQ⟩
            case measure => simp [intOf]; omega
          · by_cases hjn : j < nE
            · have hle : decide ((j : Int) ≤ (nE : Int)) = true := decide_eq_true (by omega)
              have hleN : decide (j ≤ nE) = true := decide_eq_true (by omega)
              have hltI : decide ((j : Int) < (nE : Int)) = true := decide_eq_true (by omega)
              have hltM : decide (j < nE) = true := decide_eq_true hjn
              have hge : decide ((0 : Int) ≤ (j : Int)) = true := decide_eq_true (by omega)
              obtain ⟨t, ht⟩ : ∃ t, nE - 1 - j = t := ⟨_, rfl⟩
              have htI : (nE : Int) - 1 - (j : Int) = (t : Int) := by omega
              have htn : t < nE := by omega
              obtain ⟨y, hy⟩ : ∃ y, LE[t]? = some y := ⟨_, List.getElem?_eq_getElem (by rw [HLE.out]; exact htn)⟩
              have hrow := HPQ.out.loc
              rw [HLE.out] at hrow
              obtain ⟨g, q, cq, hv, _⟩ := hrow.form (by omega)
              simp only [Value.slice.injEq] at hv
              obtain ⟨rfl, _, rfl⟩ := hv
              have HY : Hid ((iv LE)[t]? = some (.int .i64 y)) := hid' (iv_at LE t y hy)
              have HROW := hid' hrow
              have HT := hid' ht
              clear hy hrow ht
              go_wp2_with fail
              refine (atI_yes _ r _ _ _ LE.length _ j y _ HPQ.out.ring (by rw [HLE.out]; exact hjn) (by rw [HLE.out]; omega) (by rw [HLE.out, HT.out]; exact HY.out)).mono ?_
              rintro e w8 ⟨rfl, nq, rfl⟩
              have hb8 : Below wr.heap.size wr (wr.drewN nq) := ⟨rfl, rfl, rfl, Nat.le_refl _, fun _ _ => rfl⟩
              have x0 : (wr.drewN nq).cell? ⟨g, q + t, none⟩ = some (.int .i64 y) := ((HROW.out.keep hb8).cellAt t (by omega)).trans HY.out
              have HB8 := hid' (below_two HBQ.out hb8)
              clear hb8
              generalize wr.drewN nq = w8 at *
              go_wp2
              go_roundw
              case rel => exact ⟨.inr ⟨j + 1, by go_num, by omega⟩, HB8⟩
              case measure => simp [intOf]; omega
            · by_cases hje : j = nE
              · subst hje
                have hle : decide ((j : Int) ≤ (j : Int)) = true := decide_eq_true (by omega)
                have hge : decide ((0 : Int) ≤ (j : Int)) = true := decide_eq_true (by omega)
                have hltI : decide ((j : Int) < (j : Int)) = false := decide_eq_false (by omega)
                go_wp2_with fail
                refine (atI_no _ r _ _ _ LE.length _ (j : Int) _ HPQ.out.ring (.inr (by rw [HLE.out]; exact Int.le_refl _))).mono ?_
                rintro e w8 ⟨rfl, rfl⟩
                go_wp2
                go_roundw
                case rel => exact ⟨.inr ⟨j + 1, by go_num, by omega⟩, HBQ⟩
                case measure => simp [intOf]; omega
              · have hle : decide ((j : Int) ≤ (nE : Int)) = false := decide_eq_false (by omega)
                have hleN : decide (j ≤ nE) = false := decide_eq_false (by omega)
                have HLI := hid' (lenI _ r _ _ _ LE.length _ _ HPQ.out.ring)
                have HLF := hid' (lenF _ s _ _ _ LE.length _ _ HPQ.out.fld)
                rw [HLE.out] at HLI HLF
                go_wp2_with fail
                refine HLI.out.mono ?_
                rintro e w8 ⟨rfl, rfl⟩
                go_wp2_with fail
                refine HLF.out.mono ?_
                rintro e w8 ⟨rfl, rfl⟩
                clear HLI HLF
                go_wp2
                go_roundw
                case rel => exact ⟨i + 1, by go_num, by omega, _, _, _, rfl, hid' ⟨_, _, LE, HPQ.out, HLE.out, hnE⟩⟩
                case measure => simp [intOf]; omega
    · have hlt2 : decide ((i : Int) < (xs.length : Int)) = false := decide_eq_false (by omega)
      have hltN : decide (i < xs.length) = false := decide_eq_false hlt
      have HBW := hid' HP.out.bel
      clear HP
      go_wp2_with fail
      refine (awake_any _).mono ?_
      rintro e w3 ⟨rfl, hb3⟩
      go_wp2
      go_ret
      exact ⟨rfl, below_two HBW.out hb3⟩

end Go.Proofs.Ytjpgnifogacpcaa
