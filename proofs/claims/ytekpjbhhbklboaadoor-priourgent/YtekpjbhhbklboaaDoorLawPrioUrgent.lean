/-
  The law PrioUrgent, by its contract: it returns true for every line and whoever can.
-/
import Derived.Test.YtekpjbhhbklboaaDoorPrW
import Derived.Test.YtekpjbhhbklboaaDoorPrUs
import Derived.Test.YtekpjbhhbklboaaDoorPrZ
namespace Go.Proofs.YtekpjbhhbklboaaDoor
open Go.RowKit

theorem bl_drewN {B : Nat} {w w' : World} (h : Below B w w') (q : Nat) : Below B w (w'.drewN q) := ⟨h.os, h.tape, h.output, h.size, h.block⟩
theorem nil6 (w : World) (B : Nat) : w.ownsRow B 3 1 (.slice none 0 0) 0 (nmC []) := World.ownsRow_nil _ _ _ _
def hid1 (h : List (Int × Nat)) : List Int := h.map (·.1)
def hid2 (h : List (Int × Nat)) : List Int := h.map (fun p => (p.2 : Int))
theorem hid1_at {h : List (Int × Nat)} {k : Nat} {p : Int × Nat} (hk : h[k]? = some p) : (nmC (hid1 h))[k]? = some (.int .i64 p.1) := by simp [hid1, nmC, hk]
theorem hid2_at {h : List (Int × Nat)} {k : Nat} {p : Int × Nat} (hk : h[k]? = some p) : (nmC (hid2 h))[k]? = some (.int .i64 (p.2 : Int)) := by simp [hid2, nmC, hk]

set_option maxHeartbeats 8000000 in
set_option maxRecDepth 20000 in
theorem prioUrgent_any (sv : Value) (cs : List C10) (cv : Value) (can : List Int) (w : World) (hsc : Scr10 w sv cs) (_hlen : cs.length ≤ 2513169434844) (_hcan : ∀ c ∈ cs, c.can.length ≤ 17592186044400) (hcv : RR w cv can.length (nmC can)) (hcl : can.length ≤ 17592186044400) :
    Calls Tryd.prog 7 #[sv, cv] w fun e w' => e = .returned (.bool true) ∧ Below w.heap.size w w' := by
  obtain ⟨ao, cap, hsv⟩ := hsc.shape
  obtain ⟨co, cc, hcs⟩ := hcv.shape
  subst hsv hcs
  obtain ⟨N, hN⟩ : ∃ N, cs.length = N := ⟨_, rfl⟩
  obtain ⟨M, hM⟩ : ∃ M, can.length = M := ⟨_, rfl⟩
  have HN := hid' hN
  have HM := hid' hM
  rw [hN] at hsc _hlen ⊢
  rw [hM] at hcv hcl ⊢
  have HSC := hid' hsc
  have HCV := hid' hcv
  clear hN hsc hM hcv _hcan
  by_cases hbig : 200 < N
  · have hb2 : (200 : Int) < (N : Int) := by omega
    go_enter Tryd.func7, Tryd.ntmps7
    go_wp2_with fail
    refine (cnew_any _).mono ?_
    rintro e w1 ⟨b, rfl, _, _, hb1⟩
    have HB1 := hid' hb1
    clear hb1
    go_wp2_with fail
    refine (awake_any _).mono ?_
    rintro e w2 ⟨rfl, hb2⟩
    have HB2 := hid' (below_two HB1.out hb2)
    clear hb2
    go_wp2
    go_ret
    exact ⟨rfl, HB2.out⟩
  have hb2 : ¬ (200 : Int) < (N : Int) := by omega
  go_enter Tryd.func7, Tryd.ntmps7
  go_wp2_with fail
  refine (cnew_any _).mono ?_
  rintro e w1 ⟨b, rfl, _, hcm1, hb1⟩
  have HU1 : Hid (U0 w1 w.heap.size b (.map none) Pr.ln0 (.slice none 0 0) 0 (hid1 []) (.slice none 0 0) 0 (hid2 [])) := hid' ⟨hcm1, nil6 _ _, nil6 _ _, fun k hk => by simp [Value.ownBlock] at hk⟩
  have HB1 := hid' hb1
  obtain ⟨i0, hi, hz0, hz1, hz2⟩ := info_parts infoI
  have HI := hid' hi
  have HZ0 := hid' hz0
  have HZ1 := hid' hz1
  have HZ2 := hid' hz2
  clear hcm1 hb1 hi hz0 hz1 hz2
  go_wp2
  go_loopw [6, 7, 8] (fun s6 s7 s8 wr => ∃ (i c6 c7 : Nat) (o6 o7 : Option Addr) (mv : Value) (l : Pr.Ln) (h : List (Int × Nat)), s6 = .slice o6 i c6 ∧ s7 = .slice o7 i c7 ∧ s8 = .int .i64 (i : Int) ∧ i ≤ N ∧ Hid (U0 wr w.heap.size b mv l (.slice o6 i c6) i (hid1 h) (.slice o7 i c7) i (hid2 h) ∧ h.length = i ∧ (∀ x, Pr.uOf l x = Pr.lastU h x 8) ∧ ∀ p ∈ h, p.2 ≤ 7) ∧ Hid (Below w.heap.size w wr)) (fun _ _ s8 _ => N - (intOf s8).toNat)
  case atStart => exact ⟨0, 0, 0, none, none, _, _, [], rfl, rfl, rfl, Nat.zero_le _, hid' ⟨HU1.out, rfl, fun x => rfl, fun p hp => by cases hp⟩, HB1⟩
  case round =>
    clear HU1 HB1
    obtain ⟨i, c6, c7, o6, o7, mv, l, h, rfl, rfl, rfl, hi, HU, HB⟩ := hrel
    by_cases hlt : i < N
    · have hlt2 : (i : Int) < (N : Int) := by omega
      obtain ⟨c, hc⟩ : ∃ c, cs[i]? = some c := ⟨_, List.getElem?_eq_getElem (by rw [HN.out]; exact hlt)⟩
      obtain ⟨a, hao, x0, x1, x2, x3, x4, hrr, _⟩ := HSC.out.at HB.out i c hc
      subst hao
      obtain ⟨q, id, urg, pt, cv', can'⟩ := c
      simp only at x1 x2 x3
      have HC := hid' hc
      clear x0 x4 hrr hc
      obtain ⟨ku, hku⟩ : ∃ ku, Pr.kept urg = ku := ⟨_, rfl⟩
      have HK := hid' hku
      have HKI : Hid (min (max urg 0) 7 = (ku : Int)) := hid' (by rw [← hku, Pr.kept_int])
      clear hku
      go_upto_region 9 with fail
      have sOf : ∀ W : World, Below w.heap.size w W → Below w.heap.size w W ∧ W.cell? ⟨(a.add (i * 5)).block, (a.add (i * 5)).off + 1, none⟩ = some (.int .i64 id) ∧ W.cell? ⟨(a.add (i * 5)).block, (a.add (i * 5)).off + 2, none⟩ = some (.int .i64 urg) ∧ W.cell? ⟨(a.add (i * 5)).block, (a.add (i * 5)).off + 3, none⟩ = some (.bool pt) := fun W hb => by
        obtain ⟨a', e, _, g1, g2, g3, _⟩ := HSC.out.at hb i _ HC.out
        injection e with e
        subst e
        exact ⟨hb, g1, g2, g3⟩
      go_region_held3 (fun W => Below w.heap.size w W ∧ W.cell? ⟨(a.add (i * 5)).block, (a.add (i * 5)).off + 1, none⟩ = some (.int .i64 id) ∧ W.cell? ⟨(a.add (i * 5)).block, (a.add (i * 5)).off + 2, none⟩ = some (.int .i64 urg) ∧ W.cell? ⟨(a.add (i * 5)).block, (a.add (i * 5)).off + 3, none⟩ = some (.bool pt))
        (first | assumption | exact sOf _ (HB.out.drew) | exact sOf _ (by assumption))
        (first
        | (go_at_call 15; refine (cset_any w.heap.size b mv l id urg pt _ HU.out.1.cm.drew).mono ?_; rintro e w4 ⟨rfl, mv4, hcp⟩; have HU4 := hid' ((HU.out.1.keep ((Below.refl _ _).drew)).set hcp); have hb4 : Below w.heap.size w w4 := HB.out.drew.trans HU4.out.2; clear hcp))
      have HB4 := hid' hb4
      clear hb4 x1 x2 x3 sOf
      obtain ⟨l4, hl4⟩ : ∃ l4, Pr.set l id (Pr.kept urg, pt) = l4 := ⟨_, rfl⟩
      rw [hl4] at HU4
      have HUS : Hid (∀ x, Pr.uOf l4 x = Pr.lastU (h ++ [(id, ku)]) x 8) := hid' (fun x => by
        rw [← hl4, HK.out, Pr.uOf_set HU.out.1.cm.ok, Pr.lastU_snoc, HU.out.2.2.1])
      have HH7 : Hid (∀ p ∈ h ++ [(id, ku)], p.2 ≤ 7) := hid' (fun p hp => by
        rcases List.mem_append.1 hp with hp | hp
        · exact HU.out.2.2.2 p hp
        · obtain rfl : p = (id, ku) := by simpa using hp
          rw [← HK.out]; exact Pr.kept_le urg)
      have HHL := hid' HU.out.2.1
      have HU4' := hid' HU4.out.1
      clear hl4 HU HU4 HB
      obtain ⟨a', e', _, x1, x2, _⟩ := HSC.out.at HB4.out i _ HC.out
      injection e' with e'
      subst e'
      simp only at x1 x2
      have HSZ4 := hid' HB4.out.size
      have HAL4 : Hid (U0 (w4.alloc (.cells #[.int .i64 id] 3)) w.heap.size b mv4 l4 (.slice o6 i c6) i (hid1 h) (.slice o7 i c7) i (hid2 h)) := hid' (HU4'.out.keep ((Below.refl _ _).alloc (Nat.le_refl _) _))
      go_wp2_with (at_builtin; refine wpList_append_own_at _ rfl _ _ 32 rfl w.heap.size 3 i0 (.int .i64 0) 1 8 Tryd.underlying32 HI.out HZ0.out HZ1.out HZ2.out rfl (by decide) _ i (nmC (hid1 h)) rfl HAL4.out.r6 ⟨w4.heap.size, 0, none⟩ 1 1 [.int .i64 id] rfl rfl (cell_one_new _ _ _) (by simp [Value.oneCell']) (by unfold maxLen; omega) (by omega) (by simp; have := HSZ4.out; omega) ?_; intro v6 w5 hown5 hgrow5 _ hloc5; refine Hid.out ?_)
      refine hid' ?_
      have HU5 := hid' (HAL4.out.g6 hown5 hgrow5 hloc5)
      obtain ⟨o6', c6', hv6⟩ := own_shape HU5.out.1.r6
      subst hv6
      have HB5 : Hid (Below w.heap.size w w5) := hid' ((below_from HB4.out ((Below.refl _ _).alloc (Nat.le_refl _) _) HB4.out.size).trans HU5.out.2)
      have HU5' := hid' HU5.out.1
      clear hown5 hgrow5 hloc5 HU5 HAL4 HU4' HB4 HSZ4 x1
      obtain ⟨a', e', _, x1, x2, _⟩ := HSC.out.at HB5.out i _ HC.out
      injection e' with e'
      subst e'
      simp only at x1 x2
      have HSZ5 := hid' HB5.out.size
      have HAL5 : Hid (U0 (w5.alloc (.cells #[.int .i64 (ku : Int)] 3)) w.heap.size b mv4 l4 (.slice o6' (i + 1) c6') (i + 1) (hid1 h ++ [id]) (.slice o7 i c7) i (hid2 h)) := hid' (HU5'.out.keep ((Below.refl _ _).alloc (Nat.le_refl _) _))
      have hki := HKI.out
      go_wp2_with (at_builtin; refine wpList_append_own_at _ rfl _ _ 32 rfl w.heap.size 3 i0 (.int .i64 0) 1 8 Tryd.underlying32 HI.out HZ0.out HZ1.out HZ2.out rfl (by decide) _ i (nmC (hid2 h)) rfl HAL5.out.r7 ⟨w5.heap.size, 0, none⟩ 1 1 [.int .i64 (ku : Int)] rfl rfl (cell_one_new _ _ _) (by simp [Value.oneCell']) (by unfold maxLen; omega) (by omega) (by simp; have := HSZ5.out; omega) ?_; intro v7 w6 hown6 hgrow6 _ hloc6; refine Hid.out ?_)
      refine hid' ?_
      have HU6 := hid' (HAL5.out.g7 hown6 hgrow6 hloc6)
      obtain ⟨o7', c7', hv7⟩ := own_shape HU6.out.1.r7
      subst hv7
      have HB6 : Hid (Below w.heap.size w w6) := hid' ((below_from HB5.out ((Below.refl _ _).alloc (Nat.le_refl _) _) HB5.out.size).trans HU6.out.2)
      have HU6' := hid' HU6.out.1
      clear hown6 hgrow6 hloc6 HU6 HAL5 HU5' HB5 HSZ5 x1 x2
      go_wp2
      go_roundw
      case rel => exact ⟨i + 1, c6', c7', o6', o7', mv4, l4, h ++ [(id, ku)], rfl, rfl, by go_num, by omega, hid' ⟨by simpa [hid1, hid2] using HU6'.out, by rw [List.length_append, HHL.out]; rfl, HUS.out, HH7.out⟩, HB6⟩
      case measure => simp [intOf]; omega
    · have hlt2 : ¬ (i : Int) < (N : Int) := by omega
      obtain rfl : i = N := by omega
      clear hlt hi HI HZ0 HZ1 HZ2
      have HR6 : Hid (RR wr (.slice o6 i c6) i (nmC (hid1 h))) := hid' (RR.of_own HU.out.1.r6)
      have HR7 : Hid (RR wr (.slice o7 i c7) i (nmC (hid2 h))) := hid' (RR.of_own HU.out.1.r7)
      have HRC := hid' (HCV.out.keep HB.out)
      go_wp2
      go_loopw [9, 10] (fun s9 s10 wx => ∃ bst j q : Nat, s9 = .int .i64 (bst : Int) ∧ s10 = .int .i64 (j : Int) ∧ j ≤ M ∧ bst ≤ 8 ∧ Hid (Pr.urg l (can.drop j) bst = Pr.urg l can 8) ∧ wx = wr.drewN q) (fun _ s10 _ => M - (intOf s10).toNat)
      case atStart => exact ⟨8, 0, 0, rfl, rfl, Nat.zero_le _, Nat.le_refl _, hid' rfl, rfl⟩
      case round =>
        obtain ⟨bst, j, q, rfl, rfl, hj, hbst, HG, rfl⟩ := hrel
        by_cases hlj : j < M
        · have hlj2 : (j : Int) < (M : Int) := by omega
          obtain ⟨c, hc⟩ : ∃ c, can[j]? = some c := ⟨_, List.getElem?_eq_getElem (by rw [HM.out]; exact hlj)⟩
          obtain ⟨ca, hco, hcell⟩ := HRC.out.at (by omega) j _ (nm_at hc)
          subst hco
          have HST := hid' (Pr.urg_step l hc bst hbst)
          clear hc
          go_wp2
          go_loopw [11, 12] (fun s11 s12 wy => ∃ uu k q' : Nat, s11 = .int .i64 (uu : Int) ∧ s12 = .int .i64 (k : Int) ∧ k ≤ i ∧ Hid (Pr.lastU (h.drop k) c uu = Pr.lastU h c 8) ∧ wy = wr.drewN q') (fun _ s12 _ => i - (intOf s12).toNat)
          case atStart => exact ⟨8, 0, q, rfl, rfl, Nat.zero_le _, hid' rfl, rfl⟩
          case round =>
            obtain ⟨uu, k, q', rfl, rfl, hk, HL, rfl⟩ := hrel
            by_cases hlk : k < i
            · have hlk2 : (k : Int) < (i : Int) := by omega
              obtain ⟨p, hp⟩ : ∃ p, h[k]? = some p := ⟨_, List.getElem?_eq_getElem (by rw [HU.out.2.1]; exact hlk)⟩
              obtain ⟨a6, ho6, k6⟩ := HR6.out.at (by omega) k _ (hid1_at hp)
              obtain ⟨a7, ho7, k7⟩ := HR7.out.at (by omega) k _ (hid2_at hp)
              subst ho6 ho7
              have HLS := hid' (Pr.lastU_at hp c uu)
              obtain ⟨pi, pu⟩ := p
              simp only at k6 k7
              clear hp
              by_cases hpc : pi = c
              · have e1 : (pi == c) = true := by rw [hpc]; exact beq_self_eq_true _
                have HE : Hid (Pr.lastU (h.drop (k + 1)) c pu = Pr.lastU h c 8) := hid' (by rw [← HL.out, HLS.out]; simp only; rw [if_pos hpc])
                clear hpc
                go_wp2
                go_quiet (fail)
                go_wp2
                go_roundw
                case rel => exact ⟨pu, k + 1, _, rfl, by go_num, by omega, HE, by first | rfl | simp⟩
                case measure => simp [intOf]; omega
              · have e1 : (pi == c) = false := beq_false_of_ne hpc
                have HE : Hid (Pr.lastU (h.drop (k + 1)) c uu = Pr.lastU h c 8) := hid' (by rw [← HL.out, HLS.out]; simp only; rw [if_neg hpc])
                clear hpc
                go_wp2
                go_quiet (fail)
                go_wp2
                go_roundw
                case rel => exact ⟨uu, k + 1, _, rfl, by go_num, by omega, HE, by first | rfl | simp⟩
                case measure => simp [intOf]; omega
            · have hlk2 : ¬ (k : Int) < (i : Int) := by omega
              have HE : Hid (uu = Pr.uOf l c) := hid' (by
                rw [HU.out.2.2.1 c, ← HL.out, List.drop_of_length_le (by rw [HU.out.2.1]; omega)]
                rfl)
              clear hlk
              by_cases hmn : uu < bst
              · have m1 : (uu : Int) < (bst : Int) := by omega
                have m2 : min (bst : Int) (uu : Int) = (uu : Int) := by omega
                have HE2 : Hid (Pr.urg l (can.drop (j + 1)) uu = Pr.urg l can 8) := hid' (by rw [← HG.out, HST.out, ← HE.out, Nat.min_eq_right (by omega)])
                go_wp2
                go_roundw
                case rel => exact ⟨uu, j + 1, q', rfl, by go_num, by omega, by omega, HE2, rfl⟩
                case measure => simp [intOf]; omega
              · have m1 : ¬ (uu : Int) < (bst : Int) := by omega
                have m2 : min (bst : Int) (uu : Int) = (bst : Int) := by omega
                have HE2 : Hid (Pr.urg l (can.drop (j + 1)) bst = Pr.urg l can 8) := hid' (by rw [← HG.out, HST.out, ← HE.out, Nat.min_eq_left (by omega)])
                go_wp2
                go_roundw
                case rel => exact ⟨bst, j + 1, q', rfl, by go_num, by omega, by omega, HE2, rfl⟩
                case measure => simp [intOf]; omega
        · have hlj2 : ¬ (j : Int) < (M : Int) := by omega
          have HBU : Hid (bst = Pr.urg l can 8) := hid' (by
            rw [← HG.out, List.drop_of_length_le (by rw [HM.out]; omega)]
            rfl)
          obtain ⟨z, l2, hz⟩ : ∃ z l2, Pr.next l can = (z, l2) := ⟨_, _, rfl⟩
          have HZ := hid' hz
          clear hz hlj
          go_wp2_with fail
          refine (cnext_any w.heap.size b mv l l2 _ cc can z M HM.out HZ.out _ (HU.out.1.drewN q).cm (HRC.out.drewN q) (by omega)).mono ?_
          rintro e w7 ⟨rfl, hc7, hf7⟩
          have HU7 := hid' ((HU.out.1.drewN q).next hc7 hf7)
          have HB7 : Hid (Below w.heap.size w w7) := hid' ((bl_drewN HB.out q).trans HU7.out.2)
          clear hc7 hf7
          by_cases h8 : bst = 8
          · have e1 : ((bst : Int) == 8) = true := by rw [h8]; rfl
            have e2 : (bst == 8) = true := by rw [h8]; rfl
            have HZM : Hid (z = -1) := hid' (by
              have h1 := Pr.next_urg8 (l := l) (can := can) (by rw [← HBU.out]; exact h8)
              rw [HZ.out] at h1
              exact (Prod.mk.inj h1).1)
            have hzm := HZM.out
            subst hzm
            clear h8
            go_wp2_with fail
            refine (awake_any _).mono ?_
            rintro e w8 ⟨rfl, hb8⟩
            have HB8 := hid' (below_from HB7.out hb8 HB7.out.size)
            clear hb8
            go_wp2
            go_ret
            exact ⟨rfl, HB8.out⟩
          · have e1 : ((bst : Int) == 8) = false := beq_false_of_ne (by omega)
            have e2 : (bst == 8) = false := beq_false_of_ne h8
            have HNU : Hid (z ∈ can ∧ Pr.uOf l z = bst) := hid' (by
              have h1 := Pr.next_urgent HU.out.1.cm.ok can (by rw [← HBU.out]; exact h8)
              rw [HZ.out] at h1
              exact ⟨h1.1, h1.2.trans HBU.out.symm⟩)
            have HR6' : Hid (RR w7 (.slice o6 i c6) i (nmC (hid1 h))) := hid' (RR.of_own HU7.out.1.r6)
            have HR7' : Hid (RR w7 (.slice o7 i c7) i (nmC (hid2 h))) := hid' (RR.of_own HU7.out.1.r7)
            have HRC' := hid' (HCV.out.keep HB7.out)
            clear h8
            go_wp2
            go_loopw [14, 15] (fun s14 s15 wx => ∃ (j : Nat) (am : Bool), s14 = .bool am ∧ s15 = .int .i64 (j : Int) ∧ j ≤ M ∧ Hid (am = true ∨ z ∈ can.drop j) ∧ wx = w7) (fun _ s15 _ => M - (intOf s15).toNat)
            case atStart => exact ⟨0, false, rfl, rfl, Nat.zero_le _, hid' (.inr HNU.out.1), rfl⟩
            case round =>
              obtain ⟨j, am, rfl, rfl, hj, HAM, hwx⟩ := hrel
              subst wr
              by_cases hlj' : j < M
              · have hlj3 : (j : Int) < (M : Int) := by omega
                obtain ⟨c, hc⟩ : ∃ c, can[j]? = some c := ⟨_, List.getElem?_eq_getElem (by rw [HM.out]; exact hlj')⟩
                obtain ⟨ca, hco, hcell⟩ := HRC'.out.at (by omega) j _ (nm_at hc)
                subst hco
                have HDR := hid' (Pr.drop_at hc)
                clear hc
                cases am with
                | true =>
                  go_wp2
                  go_roundw
                  case rel => exact ⟨j + 1, true, rfl, by go_num, by omega, hid' (.inl rfl), by first | rfl | trivial⟩
                  case measure => simp [intOf]; omega
                | false =>
                  by_cases hcz : c = z
                  · have e3 : (c == z) = true := by rw [hcz]; exact beq_self_eq_true _
                    clear hcz
                    go_wp2
                    go_roundw
                    case rel => exact ⟨j + 1, true, rfl, by go_num, by omega, hid' (.inl rfl), by first | rfl | trivial⟩
                    case measure => simp [intOf]; omega
                  · have e3 : (c == z) = false := beq_false_of_ne hcz
                    have HAM2 : Hid (z ∈ can.drop (j + 1)) := hid' (by
                      rcases HAM.out with h1 | h1
                      · cases h1
                      · rw [HDR.out] at h1
                        rcases List.mem_cons.1 h1 with h1 | h1
                        · exact absurd h1.symm hcz
                        · exact h1)
                    clear hcz
                    go_wp2
                    go_roundw
                    case rel => exact ⟨j + 1, false, rfl, by go_num, by omega, hid' (.inr HAM2.out), by first | rfl | trivial⟩
                    case measure => simp [intOf]; omega
              · have hlj3 : ¬ (j : Int) < (M : Int) := by omega
                have HAT : Hid (am = true) := hid' (by
                  rcases HAM.out with h1 | h1
                  · exact h1
                  · rw [List.drop_of_length_le (by rw [HM.out]; omega)] at h1
                    cases h1)
                have hat := HAT.out
                subst hat
                clear hlj'
                go_wp2
                go_loopw [16, 17] (fun s16 s17 wy => ∃ uu k : Nat, s16 = .int .i64 (uu : Int) ∧ s17 = .int .i64 (k : Int) ∧ k ≤ i ∧ Hid (Pr.lastU (h.drop k) z uu = Pr.lastU h z 8) ∧ wy = w7) (fun _ s17 _ => i - (intOf s17).toNat)
                case atStart => exact ⟨8, 0, rfl, rfl, Nat.zero_le _, hid' rfl, rfl⟩
                case round =>
                  obtain ⟨uu, k, rfl, rfl, hk, HL, hwy⟩ := hrel
                  subst wr
                  by_cases hlk : k < i
                  · have hlk2 : (k : Int) < (i : Int) := by omega
                    obtain ⟨p, hp⟩ : ∃ p, h[k]? = some p := ⟨_, List.getElem?_eq_getElem (by rw [HU.out.2.1]; exact hlk)⟩
                    obtain ⟨a6, ho6, k6⟩ := HR6'.out.at (by omega) k _ (hid1_at hp)
                    obtain ⟨a7, ho7, k7⟩ := HR7'.out.at (by omega) k _ (hid2_at hp)
                    subst ho6 ho7
                    have HLS := hid' (Pr.lastU_at hp z uu)
                    obtain ⟨pi, pu⟩ := p
                    simp only at k6 k7
                    clear hp
                    by_cases hpc : pi = z
                    · have e4 : (pi == z) = true := by rw [hpc]; exact beq_self_eq_true _
                      have HE : Hid (Pr.lastU (h.drop (k + 1)) z pu = Pr.lastU h z 8) := hid' (by rw [← HL.out, HLS.out]; simp only; rw [if_pos hpc])
                      clear hpc
                      go_wp2
                      go_roundw
                      case rel => exact ⟨pu, k + 1, rfl, by go_num, by omega, HE, by first | rfl | trivial⟩
                      case measure => simp [intOf]; omega
                    · have e4 : (pi == z) = false := beq_false_of_ne hpc
                      have HE : Hid (Pr.lastU (h.drop (k + 1)) z uu = Pr.lastU h z 8) := hid' (by rw [← HL.out, HLS.out]; simp only; rw [if_neg hpc])
                      clear hpc
                      go_wp2
                      go_roundw
                      case rel => exact ⟨uu, k + 1, rfl, by go_num, by omega, HE, by first | rfl | trivial⟩
                      case measure => simp [intOf]; omega
                  · have hlk2 : ¬ (k : Int) < (i : Int) := by omega
                    have HE : Hid (uu = bst) := hid' (by
                      rw [← HNU.out.2, HU.out.2.2.1 z, ← HL.out, List.drop_of_length_le (by rw [HU.out.2.1]; omega)]
                      rfl)
                    have hue := HE.out
                    subst hue
                    have e5 : ((uu : Int) == (uu : Int)) = true := beq_self_eq_true _
                    clear hlk
                    go_wp2_with fail
                    refine (awake_any _).mono ?_
                    rintro e w8 ⟨rfl, hb8⟩
                    have HB8 := hid' (below_from HB7.out hb8 HB7.out.size)
                    clear hb8
                    go_wp2
                    go_ret
                    exact ⟨rfl, HB8.out⟩

end Go.Proofs.YtekpjbhhbklboaaDoor
