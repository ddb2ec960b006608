/-
  The document's caught: by its contract.
-/
import Derived.Test.YtfdjimjiikeciaaGreatDoorRtFK18
namespace Go.Proofs.YtfdjimjiikeciaaGreatDoor
open Go.RowKit

theorem SR17.mid18 {w : World} {g : Nat} {l : List (List UInt8)} (h : SR17 w (some ⟨g, 0, none⟩) l) (i : Nat) : SO18 w (some ⟨g, i, none⟩) (l.drop i) := fun j p hp => by
  rw [List.getElem?_drop] at hp
  obtain ⟨g', hg, _, h2⟩ := h (i + j) p hp
  injection hg with hg
  injection hg with hg
  subst hg
  exact ⟨g, i, rfl, h2⟩

set_option maxHeartbeats 8000000 in
set_option maxRecDepth 20000 in
theorem rcaught18 (ao : Option Addr) (n ac : Nat) (a : List Rt.Prt) (s : ByteArray) (l : List UInt8) (hl : s.data.toList = l) (hn : a.length = n) (hnb : n ≤ 4194305) (hf : Rt.fits a (Pt.parts l) = true) (w : World) (h1 : PR18 w ao a) (hs : s.size ≤ 4194304) :
    Calls Tryz.prog 32 #[.slice ao n ac, .string s] w fun e w' => (∃ m ro rc, e = .returned (.slice ro m rc) ∧ (Rt.caught a (Pt.parts l) (Rt.ends l)).length = m ∧ w'.ownsRow w.heap.size 42 2 (.slice ro m rc) m (qC18 (Rt.caught a (Pt.parts l) (Rt.ends l)))) ∧ Below w.heap.size w w' := by
  obtain ⟨i0, hi0, hz0, hz1, hz2⟩ := minfo17 infoPm18
  have HI := hid' hi0
  have HZ0 := hid' hz0
  have HZ1 := hid' hz1
  have HZ2 := hid' hz2
  clear hi0 hz0 hz1 hz2
  have H1 := hid' h1
  have HN := hid' hn
  have HP := hid' (rparts17 s l hl w hs)
  have HSUM := hid' (Rt.parts_sum l)
  have HSZ : Hid (s.size = l.length) := hid' (by rw [Lib.size_eq, hl])
  have HEND : Hid (Pt.parts l ≠ [] → ∃ k, ∃ h : k < s.size, (k : Int) = (s.size : Int) - 1 ∧ ((s[k].toNat : Int) == 47) = Rt.ends l) := hid' (fun h => by
    have hne := Rt.parts_ne h
    have hlen : 0 < l.length := List.length_pos_iff.2 hne
    have hsz : s.size = l.length := by rw [Lib.size_eq, hl]
    refine ⟨s.size - 1, by omega, by omega, ?_⟩
    unfold Rt.ends
    have hgb : l[s.size - 1]? = some (s[s.size - 1]'(by omega)) := hl ▸ Tx.get_byte s (s.size - 1) (by omega)
    rw [List.getLast?_eq_getElem?, ← hsz, hgb]
    rw [Bool.eq_iff_iff, beq_iff_eq, beq_iff_eq, Option.some.injEq]
    exact ⟨fun e => UInt8.toNat_inj.1 (by simp; omega), fun e => by rw [e]; rfl⟩)
  generalize Rt.ends l = en at *
  generalize hPL : Pt.parts l = ls at *
  clear hl h1 hn hPL
  go_enter Tryz.func32, Tryz.ntmps32
  go_wp2_with fail
  refine HP.out.mono ?_
  rintro e w1 ⟨⟨m, lo, lc, rfl, hm, hown⟩, hb1⟩
  have HM := hid' hm
  have HSR := hid' (SR17.own hown)
  have HLC : Hid (m ≤ lc) := hid' (by
    rcases hown.2 with ⟨h1, h2⟩ | ⟨g, cap, cur, h1, _, _, h3, _⟩
    · injection h1 with _ e2 e3; omega
    · injection h1 with _ e2 e3; subst e3; exact h3)
  have HLO : Hid ((lo = none ∧ m = 0 ∧ lc = 0) ∨ ∃ g, lo = some ⟨g, 0, none⟩) := hid' (by
    rcases hown.2 with ⟨h1, h2⟩ | ⟨g, cap, cur, h1, _⟩
    · injection h1 with e1 e2 e3; exact .inl ⟨e1, e2, e3⟩
    · injection h1 with e1 e2 e3; exact .inr ⟨g, e1⟩)
  have HB1 := hid' hb1
  have hmb : m ≤ 4194305 := by have := HSUM.out; have := HSZ.out; rw [hm] at *; omega
  have HF := hid' hf
  clear hm hown hb1 HP hf
  go_wp2
  go_loopw [6, 7] (fun s6 s7 wr => ∃ (i c : Nat) (ro : Option Addr) (rc : Nat) (Z : List (List UInt8 × List UInt8)), s7 = .int .i64 (i : Int) ∧ s6 = .slice ro c rc ∧ i ≤ n ∧ c ≤ i ∧ Hid (Z.length = c) ∧ Hid (Rt.caught a ls en = Z ++ Rt.caught (a.drop i) (ls.drop i) en) ∧ Hid (wr.ownsRow w1.heap.size 42 2 (.slice ro c rc) c (qC18 Z)) ∧ Hid (Below w1.heap.size w1 wr)) (fun _ s7 _ => n - (intOf s7).toNat)
  case atStart => exact ⟨0, 0, none, 0, [], rfl, rfl, Nat.zero_le _, Nat.le_refl _, hid' rfl, hid' (by simp), hid' (World.ownsRow_nil _ _ _ _), hid' (Below.refl _ _)⟩
  case round =>
    obtain ⟨i, c, ro, rc, Z, rfl, rfl, hi, hci, HZL, HC, HO, HB⟩ := hrel
    by_cases hlt : i < n
    · have hlt2 : (i : Int) < (n : Int) := by omega
      obtain ⟨p, hp⟩ : ∃ p, a[i]? = some p := ⟨_, List.getElem?_eq_getElem (by rw [HN.out]; exact hlt)⟩
      obtain ⟨ga, e1, l1, x0, x1⟩ := (H1.out.below (below_two HB1.out HB.out)) i p hp
      subst e1
      have HCS := hid' (Rt.caught_step hp ls en)
      have HXN : Hid (∀ W, Below w1.heap.size w1 W → W.cell? ⟨ga, i * 2, none⟩ = some (.int .i64 (p.k : Int)) ∧ W.cell? ⟨ga, i * 2 + 1, none⟩ = some (.string ⟨p.t.toArray⟩)) := hid' (fun W hW => by
        obtain ⟨ga', e2, _, z0, z1⟩ := (H1.out.below (below_two HB1.out hW)) i p hp
        injection e2 with e2
        injection e2 with e2
        subst e2
        exact ⟨z0, z1⟩)
      have hfa := Rt.fits_at1 HF.out hp
      obtain ⟨x, hx⟩ : ∃ x : ByteArray, (⟨p.t.toArray⟩ : ByteArray) = x := ⟨_, rfl⟩
      have HX := hid' hx
      rw [hx] at x1
      clear hx hp
      by_cases k1 : p.k = 1
      · have b1 : ((p.k : Int) == 1) = true := by rw [k1]; rfl
        have b2 : ((p.k : Int) == 2) = false := by rw [k1]; rfl
        have him := hfa.2 (by omega)
        rw [HM.out] at him
        have himI : (i : Int) < (m : Int) := by omega
        obtain ⟨y, hy⟩ : ∃ y, ls[i]? = some y := ⟨_, List.getElem?_eq_getElem (by rw [HM.out]; exact him)⟩
        obtain ⟨gl, e2, l2, y0⟩ := (HSR.out.below HB.out) i y hy
        subst e2
        have HC2 : Hid (Rt.caught a ls en = (Z ++ [(p.t, y)]) ++ Rt.caught (a.drop (i + 1)) (ls.drop (i + 1)) en) := hid' (by
          have hh : (ls.drop i).headD [] = y := by
            obtain ⟨h1, h2⟩ := List.getElem?_eq_some_iff.1 hy
            rw [List.drop_eq_getElem_cons h1, h2]; rfl
          rw [HC.out, HCS.out, k1, hh]
          simp)
        obtain ⟨z, hz⟩ : ∃ x : ByteArray, (⟨y.toArray⟩ : ByteArray) = x := ⟨_, rfl⟩
        rw [hz] at y0
        obtain ⟨w00, hw00⟩ : ∃ w00, w00 = (wr.alloc (.cells #[.string x, .string z] 42)).drew := ⟨_, rfl⟩
        have hb00 : Below wr.heap.size wr w00 := by rw [hw00]; exact ((Below.refl _ _).alloc (Nat.le_refl _) _).drew
        have HW00 := hid' hw00
        have HR00 : Hid (w00.ownsRow w1.heap.size 42 2 (.slice ro c rc) c (qC18 Z)) := hid' (own_kp17 HO.out hb00)
        have HNW : Hid (∀ j u, [Value.string x, .string z][j]? = some u → w00.cell? ((⟨wr.heap.size, 0, none⟩ : Addr).add j) = some u) := hid' (by
          intro j u hj
          have hA : Ar w00 wr.heap.size 42 #[.string x, .string z] := by rw [hw00]; exact heap_alloc_last wr _
          rw [Addr.add_mid, Nat.zero_add]
          exact hA.cell j u (by simpa using hj))
        have HSZ0 : Hid (w1.heap.size ≤ w00.heap.size) := hid' (Nat.le_trans HB.out.size hb00.size)
        have HB00 := hid' (below_two HB.out hb00)
        have HQ : Hid (qC18 (Z ++ [(p.t, y)]) = qC18 Z ++ [.string x, .string z]) := hid' (by rw [qC18_snoc, HX.out, hz])
        rw [hw00] at HR00 HNW HSZ0
        clear hb00 hw00 hy hz hfa k1 l1 l2
        go_upto_region 7 with fail
        go_region_law (refine step_ap18 (by rfl) _ _ 33 (by rfl) w1.heap.size 42 i0 (.agg #[.string ⟨#[]⟩, .string ⟨#[]⟩]) 2 32 Tryz.underlying33 HI.out HZ0.out HZ1.out HZ2.out (by rfl) (by decide) (.slice ro c rc) c (qC18 Z) (by rfl) HR00.out ⟨wr.heap.size, 0, none⟩ 1 1 [.string x, .string z] (by rfl) (by rfl) HNW.out (by simp [Value.oneCell']) (by unfold maxLen; omega) (by omega) HSZ0.out ?_; intro v2 w2 hrow hgrow; obtain ⟨v2o, v2c, hv2⟩ := own_shape17 hrow; subst hv2)
        all_goals
          have HB2 : Hid (Below w1.heap.size w1 w2) := hid' ((HW00.out ▸ HB00.out).grown hgrow HSZ0.out (fun j hj => (HR00.out.lt j hj).1))
          have HRW : Hid (w2.ownsRow w1.heap.size 42 2 (.slice v2o (c + 1) v2c) (c + 1) (qC18 (Z ++ [(p.t, y)]))) := hid' (by rw [HQ.out]; exact hrow)
          have x2 := (HXN.out w2 HB2.out).1
          clear hrow hgrow x0 x1 y0
          go_wp2
          go_roundw
          case rel => exact ⟨i + 1, c + 1, v2o, v2c, Z ++ [(p.t, y)], by go_num, rfl, by omega, by omega, hid' (by rw [List.length_append, HZL.out]; rfl), HC2, HRW, HB2⟩
          case measure => simp [intOf]; omega
      · have b1 : ((p.k : Int) == 1) = false := by rw [beq_eq_false_iff_ne]; omega
        by_cases k2 : p.k = 2
        · have b2 : ((p.k : Int) == 2) = true := by rw [k2]; rfl
          have him := hfa.1
          rw [HM.out] at him
          have himI : (i : Int) ≤ (m : Int) := by omega
          have h0I : (0 : Int) ≤ (i : Int) := by omega
          have HLS : Hid (((ls.drop i).map List.length).sum + (ls.drop i).length ≤ 16777216) := hid' (by
            have h2 : ((ls.drop i).map List.length).sum ≤ (ls.map List.length).sum := by
              conv => rhs; rw [← List.take_append_drop i ls, List.map_append, List.sum_append]
              omega
            have h3 : (ls.drop i).length ≤ ls.length := by rw [List.length_drop]; omega
            have h4 := HSUM.out
            have h5 := HSZ.out
            omega)
          rcases HLO.out with ⟨hlo, hm0, hlc⟩ | ⟨gl, hlo⟩
          · subst hlo
            obtain rfl : i = 0 := by omega
            subst hm0 hlc
            have HIS : Hid ((ls.drop 0).isEmpty = true) := hid' (by rw [List.drop_zero, List.isEmpty_iff]; exact List.eq_nil_of_length_eq_zero HM.out)
            have HLD : Hid ((ls.drop 0).length = 0) := hid' (by rw [List.drop_zero]; exact HM.out)
            have HSO : Hid (SO18 wr none (ls.drop 0)) := hid' (fun j q hq => by rw [List.drop_zero, List.eq_nil_of_length_eq_zero HM.out] at hq; simp at hq)
            obtain ⟨V, hV⟩ : ∃ V, V = Pt.join (ls.drop 0) := ⟨_, rfl⟩
            have HC2 : Hid (Rt.caught a ls en = (Z ++ [(p.t, V)]) ++ Rt.caught (a.drop (0 + 1)) (ls.drop (0 + 1)) en) := hid' (by
              rw [HC.out, HCS.out, k2, hV, HIS.out]
              simp)
            obtain ⟨J, hJ⟩ : ∃ J, Pt.join (ls.drop 0) = J := ⟨_, rfl⟩
            have hJL : J.length ≤ 16777216 := by rw [← hJ]; exact Nat.le_trans (Pt.join_len _) HLS.out
            obtain ⟨zz, hjj⟩ : ∃ z : ByteArray, (⟨J.toArray⟩ : ByteArray) = z := ⟨_, rfl⟩
            have HQ : Hid (qC18 (Z ++ [(p.t, V)]) = qC18 Z ++ [.string x, .string zz]) := hid' (by rw [qC18_snoc, HX.out, ← hjj, hV, hJ])
            have HJJ : Hid ((⟨(Pt.join (ls.drop 0)).toArray⟩ : ByteArray) = zz) := hid' (by rw [hJ]; exact hjj)
            clear hV hJ hjj k1 k2 hfa
            go_wp2_with fail
            all_goals
              refine (rjoin18 _ (0) _ (ls.drop 0) HLD.out wr ?_ (by omega) HLS.out).mono ?_
              exact HSO.out
              rintro e wj ⟨rfl, hwj⟩
              subst wj
              rw [HJJ.out]

              have HA : Hid ((wr.alloc (.cells #[.string x, .string zz] 42)).ownsRow w1.heap.size 42 2 (.slice ro c rc) c (qC18 Z)) := hid' (HO.out.alloc _)
              go_wp2_with (at_builtin; refine wpList_append_own_at _ rfl _ _ 33 rfl w1.heap.size 42 i0 (.agg #[.string ⟨#[]⟩, .string ⟨#[]⟩]) 2 32 Tryz.underlying33 HI.out HZ0.out HZ1.out HZ2.out rfl (by decide) (.slice ro c rc) c (qC18 Z) rfl HA.out ⟨wr.heap.size, 0, none⟩ 1 1 [.string x, .string zz] rfl rfl (two_new18 _ _ _ _) (by simp [Value.oneCell']) (by unfold maxLen; omega) (by omega) (by simp; have := HB.out.size; omega) ?_; intro v3 w3 hown3 hgrow3 _ _; refine Hid.out ?_)
              refine hid' ?_
              rw [← HQ.out] at hown3
              obtain ⟨v3o, v3c, hv3⟩ := own_shape17 hown3
              subst hv3
              have HO3 := hid' hown3
              have HB3 : Hid (Below w1.heap.size w1 w3) := hid' ((HB.out.alloc HB.out.size _).grown hgrow3 (by simp; have := HB.out.size; omega) (fun k hk => (HA.out.lt k hk).1))
              clear hown3 hgrow3
              go_wp2
              go_roundw
              case rel => exact ⟨0 + 1, c + 1, v3o, v3c, Z ++ [(p.t, V)], by go_num, rfl, by omega, by omega, hid' (by rw [List.length_append, HZL.out]; rfl), HC2, HO3, HB3⟩
              case measure => simp [intOf]; omega
          · subst hlo
            have hmc := HLC.out
            have hmcI : (m : Int) ≤ (lc : Int) := by omega
            have HLD : Hid ((ls.drop i).length = m - i) := hid' (by rw [List.length_drop, HM.out])
            have HSO : Hid (SO18 wr (some ⟨gl, i, none⟩) (ls.drop i)) := hid' ((HSR.out.below HB.out).mid18 i)
            have HSE : Hid (m - i = 0 → SO18 wr (some ⟨gl, 0, none⟩) (ls.drop i)) := hid' (fun h0 j q hq => by
              have hj := (List.getElem?_eq_some_iff.1 hq).1
              have := HLD.out
              omega)
            by_cases hmi : i < m
            · have hmiI : (i : Int) < (m : Int) := by omega
              have HIS : Hid ((ls.drop i).isEmpty = false) := hid' (by
                cases hq : ls.drop i with
                | nil => have := HLD.out; rw [hq] at this; simp at this; omega
                | cons a b => rfl)
              obtain ⟨k0, hk0, hk1, hk2⟩ := HEND.out (fun h => by have := HM.out; rw [h] at this; simp at this; omega)
              have hks : (s.size : Int) - 1 = (k0 : Int) := hk1.symm
              have hk0I : (k0 : Int) < (s.size : Int) := by omega
              have h00 : (0 : Int) ≤ (k0 : Int) := by omega
              clear hk1
              by_cases hen : en = true
              · rw [hen] at hk2
                have HEN := hid' hen
                clear hen
                obtain ⟨V, hV⟩ : ∃ V, V = Pt.join (ls.drop i) ++ [47] := ⟨_, rfl⟩
                have HC2 : Hid (Rt.caught a ls en = (Z ++ [(p.t, V)]) ++ Rt.caught (a.drop (i + 1)) (ls.drop (i + 1)) en) := hid' (by
                  rw [HC.out, HCS.out, k2, hV, HIS.out, HEN.out]
                  simp)
                obtain ⟨J, hJ⟩ : ∃ J, Pt.join (ls.drop i) = J := ⟨_, rfl⟩
                have hJL : J.length ≤ 16777216 := by rw [← hJ]; exact Nat.le_trans (Pt.join_len _) HLS.out
                obtain ⟨jj, hjj⟩ : ∃ z : ByteArray, (⟨J.toArray⟩ : ByteArray) = z := ⟨_, rfl⟩
                obtain ⟨zz, hzz⟩ : ∃ z : ByteArray, jj ++ ⟨#[47]⟩ = z := ⟨_, rfl⟩
                have HQ : Hid (qC18 (Z ++ [(p.t, V)]) = qC18 Z ++ [.string x, .string zz]) := hid' (by rw [qC18_snoc, HX.out, ← hzz, ← hjj, hV, hJ]; first | done | (congr 3; done) | (congr 3; apply ByteArray.ext; simp))
                have kk1 : ¬ 9223372036854775807 < jj.size + 1 := by rw [← hjj]; simp [ByteArray.size]; omega
                have HJJ : Hid ((⟨(Pt.join (ls.drop i)).toArray⟩ : ByteArray) = jj) := hid' (by rw [hJ]; exact hjj)
                clear hV hJ hjj k1 k2 hfa
                go_wp2_with fail
                all_goals
                  refine (rjoin18 _ (m - i) _ (ls.drop i) HLD.out wr ?_ (by omega) HLS.out).mono ?_
                  first | exact HSO.out | exact HSE.out (by omega)
                  rintro e wj ⟨rfl, hwj⟩
                  subst wj
                  rw [HJJ.out]

                  have HA : Hid ((wr.alloc (.cells #[.string x, .string zz] 42)).ownsRow w1.heap.size 42 2 (.slice ro c rc) c (qC18 Z)) := hid' (HO.out.alloc _)
                  go_wp2_with (at_builtin; refine wpList_append_own_at _ rfl _ _ 33 rfl w1.heap.size 42 i0 (.agg #[.string ⟨#[]⟩, .string ⟨#[]⟩]) 2 32 Tryz.underlying33 HI.out HZ0.out HZ1.out HZ2.out rfl (by decide) (.slice ro c rc) c (qC18 Z) rfl HA.out ⟨wr.heap.size, 0, none⟩ 1 1 [.string x, .string zz] rfl rfl (two_new18 _ _ _ _) (by simp [Value.oneCell']) (by unfold maxLen; omega) (by omega) (by simp; have := HB.out.size; omega) ?_; intro v3 w3 hown3 hgrow3 _ _; refine Hid.out ?_)
                  refine hid' ?_
                  rw [← HQ.out] at hown3
                  obtain ⟨v3o, v3c, hv3⟩ := own_shape17 hown3
                  subst hv3
                  have HO3 := hid' hown3
                  have HB3 : Hid (Below w1.heap.size w1 w3) := hid' ((HB.out.alloc HB.out.size _).grown hgrow3 (by simp; have := HB.out.size; omega) (fun k hk => (HA.out.lt k hk).1))
                  clear hown3 hgrow3
                  go_wp2
                  go_roundw
                  case rel => exact ⟨i + 1, c + 1, v3o, v3c, Z ++ [(p.t, V)], by go_num, rfl, by omega, by omega, hid' (by rw [List.length_append, HZL.out]; rfl), HC2, HO3, HB3⟩
                  case measure => simp [intOf]; omega
              · rw [Bool.not_eq_true] at hen
                rw [hen] at hk2
                have HEN := hid' hen
                clear hen
                obtain ⟨V, hV⟩ : ∃ V, V = Pt.join (ls.drop i) := ⟨_, rfl⟩
                have HC2 : Hid (Rt.caught a ls en = (Z ++ [(p.t, V)]) ++ Rt.caught (a.drop (i + 1)) (ls.drop (i + 1)) en) := hid' (by
                  rw [HC.out, HCS.out, k2, hV, HIS.out, HEN.out]
                  simp)
                obtain ⟨J, hJ⟩ : ∃ J, Pt.join (ls.drop i) = J := ⟨_, rfl⟩
                have hJL : J.length ≤ 16777216 := by rw [← hJ]; exact Nat.le_trans (Pt.join_len _) HLS.out
                obtain ⟨zz, hjj⟩ : ∃ z : ByteArray, (⟨J.toArray⟩ : ByteArray) = z := ⟨_, rfl⟩
                have HQ : Hid (qC18 (Z ++ [(p.t, V)]) = qC18 Z ++ [.string x, .string zz]) := hid' (by rw [qC18_snoc, HX.out, ← hjj, hV, hJ])
                have HJJ : Hid ((⟨(Pt.join (ls.drop i)).toArray⟩ : ByteArray) = zz) := hid' (by rw [hJ]; exact hjj)
                clear hV hJ hjj k1 k2 hfa
                go_wp2_with fail
                all_goals
                  refine (rjoin18 _ (m - i) _ (ls.drop i) HLD.out wr ?_ (by omega) HLS.out).mono ?_
                  first | exact HSO.out | exact HSE.out (by omega)
                  rintro e wj ⟨rfl, hwj⟩
                  subst wj
                  rw [HJJ.out]

                  have HA : Hid ((wr.alloc (.cells #[.string x, .string zz] 42)).ownsRow w1.heap.size 42 2 (.slice ro c rc) c (qC18 Z)) := hid' (HO.out.alloc _)
                  go_wp2_with (at_builtin; refine wpList_append_own_at _ rfl _ _ 33 rfl w1.heap.size 42 i0 (.agg #[.string ⟨#[]⟩, .string ⟨#[]⟩]) 2 32 Tryz.underlying33 HI.out HZ0.out HZ1.out HZ2.out rfl (by decide) (.slice ro c rc) c (qC18 Z) rfl HA.out ⟨wr.heap.size, 0, none⟩ 1 1 [.string x, .string zz] rfl rfl (two_new18 _ _ _ _) (by simp [Value.oneCell']) (by unfold maxLen; omega) (by omega) (by simp; have := HB.out.size; omega) ?_; intro v3 w3 hown3 hgrow3 _ _; refine Hid.out ?_)
                  refine hid' ?_
                  rw [← HQ.out] at hown3
                  obtain ⟨v3o, v3c, hv3⟩ := own_shape17 hown3
                  subst hv3
                  have HO3 := hid' hown3
                  have HB3 : Hid (Below w1.heap.size w1 w3) := hid' ((HB.out.alloc HB.out.size _).grown hgrow3 (by simp; have := HB.out.size; omega) (fun k hk => (HA.out.lt k hk).1))
                  clear hown3 hgrow3
                  go_wp2
                  go_roundw
                  case rel => exact ⟨i + 1, c + 1, v3o, v3c, Z ++ [(p.t, V)], by go_num, rfl, by omega, by omega, hid' (by rw [List.length_append, HZL.out]; rfl), HC2, HO3, HB3⟩
                  case measure => simp [intOf]; omega
            · have hmiI : ¬ (i : Int) < (m : Int) := by omega
              have HIS : Hid ((ls.drop i).isEmpty = true) := hid' (by rw [List.isEmpty_iff]; exact List.eq_nil_of_length_eq_zero (by rw [HLD.out]; omega))
              have hmi2 : m = i := by omega
              subst hmi2
              clear himI hmiI hmi him hmcI h0I
              by_cases hli : lc = m
              · subst hli
                clear hmc
                obtain ⟨V, hV⟩ : ∃ V, V = Pt.join (ls.drop lc) := ⟨_, rfl⟩
                have HC2 : Hid (Rt.caught a ls en = (Z ++ [(p.t, V)]) ++ Rt.caught (a.drop (lc + 1)) (ls.drop (lc + 1)) en) := hid' (by
                  rw [HC.out, HCS.out, k2, hV, HIS.out]
                  simp)
                obtain ⟨J, hJ⟩ : ∃ J, Pt.join (ls.drop lc) = J := ⟨_, rfl⟩
                have hJL : J.length ≤ 16777216 := by rw [← hJ]; exact Nat.le_trans (Pt.join_len _) HLS.out
                obtain ⟨zz, hjj⟩ : ∃ z : ByteArray, (⟨J.toArray⟩ : ByteArray) = z := ⟨_, rfl⟩
                have HQ : Hid (qC18 (Z ++ [(p.t, V)]) = qC18 Z ++ [.string x, .string zz]) := hid' (by rw [qC18_snoc, HX.out, ← hjj, hV, hJ])
                have HJJ : Hid ((⟨(Pt.join (ls.drop lc)).toArray⟩ : ByteArray) = zz) := hid' (by rw [hJ]; exact hjj)
                clear hV hJ hjj k1 k2 hfa
                go_wp2_with fail
                all_goals
                  refine (rjoin18 _ _ _ (ls.drop lc) (by rw [List.length_drop, HM.out]; omega) wr ?_ (by omega) HLS.out).mono ?_
                  first | exact HSO.out | exact HSE.out (by omega)
                  rintro e wj ⟨rfl, hwj⟩
                  subst wj
                  rw [HJJ.out]

                  have HA : Hid ((wr.alloc (.cells #[.string x, .string zz] 42)).ownsRow w1.heap.size 42 2 (.slice ro c rc) c (qC18 Z)) := hid' (HO.out.alloc _)
                  go_wp2_with (at_builtin; refine wpList_append_own_at _ rfl _ _ 33 rfl w1.heap.size 42 i0 (.agg #[.string ⟨#[]⟩, .string ⟨#[]⟩]) 2 32 Tryz.underlying33 HI.out HZ0.out HZ1.out HZ2.out rfl (by decide) (.slice ro c rc) c (qC18 Z) rfl HA.out ⟨wr.heap.size, 0, none⟩ 1 1 [.string x, .string zz] rfl rfl (two_new18 _ _ _ _) (by simp [Value.oneCell']) (by unfold maxLen; omega) (by omega) (by simp; have := HB.out.size; omega) ?_; intro v3 w3 hown3 hgrow3 _ _; refine Hid.out ?_)
                  refine hid' ?_
                  rw [← HQ.out] at hown3
                  obtain ⟨v3o, v3c, hv3⟩ := own_shape17 hown3
                  subst hv3
                  have HO3 := hid' hown3
                  have HB3 : Hid (Below w1.heap.size w1 w3) := hid' ((HB.out.alloc HB.out.size _).grown hgrow3 (by simp; have := HB.out.size; omega) (fun k hk => (HA.out.lt k hk).1))
                  clear hown3 hgrow3
                  go_wp2
                  go_roundw
                  case rel => exact ⟨lc + 1, c + 1, v3o, v3c, Z ++ [(p.t, V)], by go_num, rfl, by omega, by omega, hid' (by rw [List.length_append, HZL.out]; rfl), HC2, HO3, HB3⟩
                  case measure => simp [intOf]; omega
              · have hli2 : m < lc := by omega
                clear hmc
                obtain ⟨V, hV⟩ : ∃ V, V = Pt.join (ls.drop m) := ⟨_, rfl⟩
                have HC2 : Hid (Rt.caught a ls en = (Z ++ [(p.t, V)]) ++ Rt.caught (a.drop (m + 1)) (ls.drop (m + 1)) en) := hid' (by
                  rw [HC.out, HCS.out, k2, hV, HIS.out]
                  simp)
                obtain ⟨J, hJ⟩ : ∃ J, Pt.join (ls.drop m) = J := ⟨_, rfl⟩
                have hJL : J.length ≤ 16777216 := by rw [← hJ]; exact Nat.le_trans (Pt.join_len _) HLS.out
                obtain ⟨zz, hjj⟩ : ∃ z : ByteArray, (⟨J.toArray⟩ : ByteArray) = z := ⟨_, rfl⟩
                have HQ : Hid (qC18 (Z ++ [(p.t, V)]) = qC18 Z ++ [.string x, .string zz]) := hid' (by rw [qC18_snoc, HX.out, ← hjj, hV, hJ])
                have HJJ : Hid ((⟨(Pt.join (ls.drop m)).toArray⟩ : ByteArray) = zz) := hid' (by rw [hJ]; exact hjj)
                clear hV hJ hjj k1 k2 hfa
                go_wp2_with fail
                all_goals
                  refine (rjoin18 _ _ _ (ls.drop m) (by rw [List.length_drop, HM.out]; omega) wr ?_ (by omega) HLS.out).mono ?_
                  first | exact HSO.out | exact HSE.out (by omega)
                  rintro e wj ⟨rfl, hwj⟩
                  subst wj
                  rw [HJJ.out]

                  have HA : Hid ((wr.alloc (.cells #[.string x, .string zz] 42)).ownsRow w1.heap.size 42 2 (.slice ro c rc) c (qC18 Z)) := hid' (HO.out.alloc _)
                  go_wp2_with (at_builtin; refine wpList_append_own_at _ rfl _ _ 33 rfl w1.heap.size 42 i0 (.agg #[.string ⟨#[]⟩, .string ⟨#[]⟩]) 2 32 Tryz.underlying33 HI.out HZ0.out HZ1.out HZ2.out rfl (by decide) (.slice ro c rc) c (qC18 Z) rfl HA.out ⟨wr.heap.size, 0, none⟩ 1 1 [.string x, .string zz] rfl rfl (two_new18 _ _ _ _) (by simp [Value.oneCell']) (by unfold maxLen; omega) (by omega) (by simp; have := HB.out.size; omega) ?_; intro v3 w3 hown3 hgrow3 _ _; refine Hid.out ?_)
                  refine hid' ?_
                  rw [← HQ.out] at hown3
                  obtain ⟨v3o, v3c, hv3⟩ := own_shape17 hown3
                  subst hv3
                  have HO3 := hid' hown3
                  have HB3 : Hid (Below w1.heap.size w1 w3) := hid' ((HB.out.alloc HB.out.size _).grown hgrow3 (by simp; have := HB.out.size; omega) (fun k hk => (HA.out.lt k hk).1))
                  clear hown3 hgrow3
                  go_wp2
                  go_roundw
                  case rel => exact ⟨m + 1, c + 1, v3o, v3c, Z ++ [(p.t, V)], by go_num, rfl, by omega, by omega, hid' (by rw [List.length_append, HZL.out]; rfl), HC2, HO3, HB3⟩
                  case measure => simp [intOf]; omega
        · have b2 : ((p.k : Int) == 2) = false := by rw [beq_eq_false_iff_ne]; omega
          have HC2 : Hid (Rt.caught a ls en = Z ++ Rt.caught (a.drop (i + 1)) (ls.drop (i + 1)) en) := hid' (by
            rw [HC.out, HCS.out, show (p.k == 1) = false by rw [beq_eq_false_iff_ne]; exact k1, show (p.k == 2) = false by rw [beq_eq_false_iff_ne]; exact k2]
            simp)
          clear hfa k1 k2 l1 x1
          go_wp2
          go_roundw
          case rel => exact ⟨i + 1, c, ro, rc, Z, by go_num, rfl, by omega, by omega, HZL, HC2, HO, HB⟩
          case measure => simp [intOf]; omega
    · have hlt2 : ¬ (i : Int) < (n : Int) := by omega
      have HE : Hid (Rt.caught a ls en = Z) := hid' (by rw [HC.out, List.drop_eq_nil_of_le (by rw [HN.out]; omega)]; simp [Rt.caught])
      clear hlt
      go_wp2
      go_ret
      exact ⟨⟨c, ro, rc, rfl, by rw [HE.out]; exact HZL.out, by rw [HE.out]; exact own_base17 HO.out HB1.out.size⟩, below_two HB1.out HB.out⟩

end Go.Proofs.YtfdjimjiikeciaaGreatDoor
