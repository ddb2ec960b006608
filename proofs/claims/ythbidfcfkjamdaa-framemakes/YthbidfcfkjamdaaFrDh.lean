/-
  ostlerref07.settings: its loop, by its contract.
-/
import Derived.Test.YthbidfcfkjamdaaFrDg
namespace Go.Proofs.Ythbidfcfkjamdaa
open Go.RowKit

set_option maxHeartbeats 8000000 in
set_option maxRecDepth 20000 in
theorem rsettings_go (fl : Int) (l : List UInt8) (N : Nat) (r : Fm.Rd) (hN : l.length = 6 * N) (hf : Fm.has fl 1 = false) (hsz : l.length ≤ 35184372088832) (hr : Fm.sets N l [] = r) (w : World) : Calls Try.prog 54 #[.agg (frC 4 fl 0 l)] w fun e w' => (∃ v, e = .returned (rdV r v) ∧ Hid (∀ p, r = .ok p → w'.ownsRow w.heap.size 29 2 v p.sets.length (stCells p.sets))) ∧ Below w.heap.size w w' := by
  obtain ⟨i0, hi, hz0, hz1, hz2⟩ := info_parts' infoSetting
  have HI := hid' hi
  have HZ0 := hid' hz0
  have HZ1 := hid' hz1
  have HZ2 := hid' hz2
  clear hi hz0 hz1 hz2
  have HFL := hid' (rflag_any 4 fl 0 l 1 false (by omega) hf)
  have HR := hid' hr
  have HNL := hid' hN
  have hm6 : (l.length : Int).tmod 6 = 0 := by rw [Int.tmod_eq_emod_of_nonneg (by omega)]; omega
  have hLb : l.length ≤ 35184372088832 := by omega
  have HN16 : Hid (N ≤ 5864062014806) := hid' (by omega)
  clear hf hr hN hsz
  go_enter Try.func54, Try.ntmps54
  go_wp2_with (refine wpl_open _ rfl rfl rfl rfl rfl rfl 4 fl 0 l (by kernel_rfl) ?_)
  intro b1 b2 b3 w0 hF
  obtain ⟨c0, c1, c2, c3⟩ := frC_cells hF.a1
  have HF := hid' hF
  clear hF
  go_wp2_with fail
  refine (HFL.out _).mono ?_
  rintro e w1 ⟨rfl, hbf⟩
  have HF := hid' (HF.out.keep hbf)
  clear hbf HFL
  go_wp2_with (refine wpl_alloc 27 rfl rfl _ zeroParts ?_)
  intro b5 w5 hg5 ha5 hb5
  have HN25 : Hid (b2 ≠ b5) := hid' (by have := HF.out.a2.lt; omega)
  have HG5 : Hid (w.heap.size ≤ b5) := hid' (Nat.le_trans HF.out.bel.size hg5)
  have HG2 := hid' HF.out.g2
  have HG3 := hid' HF.out.g3
  have HS5 : Hid (∃ (n : Nat) (acc : List (Int × Int)) (ao : Option Addr) (cap : Nat), 0 + 6 * n = l.length ∧ Fm.sets n (l.drop 0) acc = r ∧ n + acc.length = N ∧ w5.ownsRow w.heap.size 29 2 (.slice ao acc.length cap) acc.length (stCells acc) ∧ Ar w5 b5 27 (ptC Fm.none' (.slice ao acc.length cap)) ∧ Ar w5 b2 27 ptZ ∧ Ar w5 b3 74 wgZ ∧ Below w.heap.size w w5) := hid' ⟨N, [], none, 0, by have := HNL.out; omega, HR.out, by simp, World.ownsRow_nil _ _ _ _, ha5, HF.out.a2.keep hb5, HF.out.a3.keep hb5, below_two HF.out.bel hb5⟩
  clear hg5 ha5 hb5 HF c0 c1 c2 c3
  go_wp2
  go_loopw [6, 7] (fun s6 _ wr => ∃ i : Nat, s6 = .int .i64 (i : Int) ∧ i ≤ l.length ∧ Hid (∃ (n : Nat) (acc : List (Int × Int)) (ao : Option Addr) (cap : Nat), i + 6 * n = l.length ∧ Fm.sets n (l.drop i) acc = r ∧ n + acc.length = N ∧ wr.ownsRow w.heap.size 29 2 (.slice ao acc.length cap) acc.length (stCells acc) ∧ Ar wr b5 27 (ptC Fm.none' (.slice ao acc.length cap)) ∧ Ar wr b2 27 ptZ ∧ Ar wr b3 74 wgZ ∧ Below w.heap.size w wr)) (fun s6 _ _ => l.length - (intOf s6).toNat)
  case atStart => exact ⟨0, rfl, Nat.zero_le _, HS5⟩
  case round =>
    clear HS5 HR HNL
    obtain ⟨i, rfl, hi, HX⟩ := hrel
    by_cases hlt : i < l.length
    · have hlt2 : (i : Int) < (l.length : Int) := by omega
      obtain ⟨n, acc, ao, cap, HIL, HRR, HNN, HOW, HA5, HA2, HA3, HB⟩ : ∃ (n : Nat) (acc : List (Int × Int)) (ao : Option Addr) (cap : Nat), Hid (i + 6 * (n + 1) = l.length) ∧ Hid (Fm.sets (n + 1) (l.drop i) acc = r) ∧ Hid (n + 1 + acc.length = N) ∧ Hid (wr.ownsRow w.heap.size 29 2 (.slice ao acc.length cap) acc.length (stCells acc)) ∧ Hid (Ar wr b5 27 (ptC Fm.none' (.slice ao acc.length cap))) ∧ Hid (Ar wr b2 27 ptZ) ∧ Hid (Ar wr b3 74 wgZ) ∧ Hid (Below w.heap.size w wr) := by
        obtain ⟨n, acc, ao, cap, h1, h2, h3, h4, h5, h6, h7, h8⟩ := HX.out
        obtain ⟨n, rfl⟩ : ∃ m, n = m + 1 := ⟨n - 1, by omega⟩
        exact ⟨n, acc, ao, cap, h1, h2, h3, h4, h5, h6, h7, h8⟩
      obtain ⟨m2, hm2⟩ : ∃ m2, i + 2 = m2 := ⟨_, rfl⟩
      obtain ⟨m6, hm6'⟩ : ∃ m6, i + 6 = m6 := ⟨_, rfl⟩
      have hm2i : (i : Int) + 2 = (m2 : Int) := by omega
      have hm6i : (i : Int) + 6 = (m6 : Int) := by omega
      have l6 : m6 ≤ l.length := by have := HIL.out; omega
      have l6i : (m6 : Int) ≤ (l.length : Int) := by omega
      have l2i : (m2 : Int) ≤ (l.length : Int) := by omega
      have l26 : (m2 : Int) ≤ (m6 : Int) := by omega
      have li2 : (i : Int) ≤ (m2 : Int) := by omega
      have hwa : IntKind.i64.wrap (m2 : Int) = (m2 : Int) := by rw [IntKind.wrap_i64]; omega
      have hwb : IntKind.i64.wrap (m6 : Int) = (m6 : Int) := by rw [IntKind.wrap_i64]; omega
      have n2 : m2 ≤ l.length := by omega
      have n26 : m2 ≤ m6 := by omega
      have ni2 : i ≤ m2 := by omega
      have hzi : (0 : Int) ≤ (i : Int) := by omega
      have hib : i ≤ 35184372088832 := by omega
      have hibi : (i : Int) ≤ 35184372088832 := by omega
      obtain ⟨y, hy⟩ : ∃ y, (l.drop i).take 2 = y := ⟨_, rfl⟩
      obtain ⟨z, hz⟩ : ∃ z, ((l.drop i).drop 2).take 4 = z := ⟨_, rfl⟩
      obtain ⟨t, ht⟩ : ∃ t, (l.drop i).drop 6 = t := ⟨_, rfl⟩
      have hc1 := cut_mid l i m2
      have hc2 := cut_mid l m2 m6
      rw [show m2 - i = 2 by omega, hy] at hc1
      rw [show m6 - m2 = 4 by omega, show l.drop m2 = (l.drop i).drop 2 by rw [List.drop_drop, ← hm2], hz] at hc2
      have HDR : Hid (t = l.drop (i + 6)) := hid' (by rw [← ht, List.drop_drop])
      have HY : Hid (y.length ≤ 4) := hid' (by rw [← hy, List.length_take]; omega)
      have HZ : Hid (z.length ≤ 4) := hid' (by rw [← hz, List.length_take]; omega)
      obtain ⟨iv, hiv⟩ : ∃ i, Fm.num y = i := ⟨_, rfl⟩
      obtain ⟨vv, hvv⟩ : ∃ v, Fm.num z = v := ⟨_, rfl⟩
      obtain ⟨c, hcc⟩ : ∃ c, Fm.bads (iv : Int) (vv : Int) = c := ⟨_, rfl⟩
      have HRB : Hid ((if c = 0 then Fm.sets n t (acc ++ [((iv : Int), (vv : Int))]) else .bad true c) = r) := hid' (by
        rw [← HRR.out, Fm.sets, hy, hz, ht, hiv, hvv, hcc])
      have HI1 := hid' hiv
      have HV1 := hid' hvv
      have HCC := hid' hcc
      have HM2 := hid' hm2
      have HM6 := hid' hm6'
      clear HX hy hz ht hiv hvv hcc HRR hm2 hm6'
      go_upto_region 10 with fail
      go_cut [7] from 30 to 90 (fun s7 wx => ∃ b7, s7 = .pointer (some ⟨b7, 0, none⟩) ∧ Hid (wr.heap.size ≤ b7 ∧ Ar wx b7 29 #[.int .i64 (iv : Int), .int .i64 (vv : Int)] ∧ Below wr.heap.size wr wx))
      case first =>
        skip
        go_region_with (go_at_call 60; refine (rnumber_any _ ?_ _).mono ?_; (first | exact HY.out | exact HZ.out); rintro e w1 ⟨rfl, hw⟩; subst w1; (first | rw [HI1.out] | rw [HV1.out]))
        all_goals
          go_wp2_with fail
          go_meet
          exact ⟨_, rfl, hid' ⟨Nat.le_refl _, Ar.drew (heap_alloc_last wr _), ((Below.refl _ _).alloc (Nat.le_refl _) _).drew⟩⟩
      case rest =>
        obtain ⟨b7, rfl, HW⟩ := hcut
        have HB7 := hid' (below_two HB.out HW.out.2.2)
        have HA27 := hid' (HA2.out.keep HW.out.2.2)
        have HA37 := hid' (HA3.out.keep HW.out.2.2)
        have HA57 := hid' (HA5.out.keep HW.out.2.2)
        have HOW7 := hid' (own_keep HOW.out HW.out.2.2)
        have z0 := HW.out.2.1.cell 0 _ rfl
        have z1 := HW.out.2.1.cell 1 _ rfl
        clear HA2 HA3 HA5 HOW HB hc1 hc2
        by_cases h2 : iv = 2
        · have a1 : ((iv : Int) == 2) = true := by simp; omega
          have a2 : (iv == 2) = true := by simp; omega
          have a3 : ((iv : Int) == 5) = false := by simp; omega
          have a4 : (iv == 5) = false := by simp; omega
          have a5 : ((iv : Int) == 4) = false := by simp; omega
          have a6 : (iv == 4) = false := by simp; omega
          by_cases hv : 1 < vv
          · have v1 : (1 : Int) < (vv : Int) := by omega
            obtain rfl : c = 1 := by rw [← HCC.out]; unfold Fm.bads; repeat' split
                                     all_goals omega
            clear h2
            go_wp2_with fail
            refine (rconn_any 1 _).mono ?_
            rintro e w8 ⟨rfl, hb8⟩
            have HA28 := hid' (HA27.out.keep hb8)
            have HA38 := hid' (HA37.out.keep hb8)
            have HB8 := hid' (below_two HB7.out hb8)
            clear hb8
            go_wp2_with (refine wpl_st2 _ _ _ _ rfl rfl rfl rfl w.heap.size b2 b3 Fm.none' none 0 0 true true 1 (by kernel_rfl) (by kernel_rfl) (by kernel_rfl) (by kernel_rfl) HA28.out HA38.out HG2.out HG3.out ?_)
            intro w9 hp9 hw9 hb9
            go_wp2
            refine bodyPost_ret (v := rdV (.bad true 1) (.slice none 0 0)) (by simp [results, Try.results54, asAddr, ldp hp9, ldw hw9]; rfl) rfl ⟨⟨.slice none 0 0, ?_, hid' (fun p hp => ?_)⟩, HB8.out.trans hb9⟩
            · rw [← HRB.out, if_neg (by decide)]
            · rw [← HRB.out, if_neg (by decide)] at hp
              cases hp
          · have v1 : ¬ (1 : Int) < (vv : Int) := by omega
            have HC0 : Hid (c = 0) := hid' (by rw [← HCC.out]; unfold Fm.bads; repeat' split
                                               all_goals omega)
            clear h2
            have HRN : Hid (Fm.sets n t (acc ++ [((iv : Int), (vv : Int))]) = r) := hid' (by have := HRB.out; rwa [if_pos HC0.out] at this)
            obtain ⟨xs, hxs'⟩ : ∃ xs, stCells acc = xs := ⟨_, rfl⟩
            obtain ⟨np, hnp⟩ : ∃ np, acc.length = np := ⟨_, rfl⟩
            have HOW6 : Hid (wc.ownsRow w.heap.size 29 2 (.slice ao np cap) np xs) := hid' (by rw [← hxs', ← hnp]; exact HOW7.out)
            have ha57 : Ar wc b5 27 (ptC Fm.none' (.slice ao np cap)) := by rw [← hnp]; exact HA57.out
            have HXX := hid' hxs'
            have HNP := hid' hnp
            have hnb : np ≤ 5864062014806 := by have := HNN.out; have := HN16.out; omega
            have p57 := ha57.cell 7 _ rfl
            have HA5 := hid' ha57
            clear hxs' hnp ha57
            go_wp2_with (at_builtin; refine wpList_append_own _ rfl _ _ 25 rfl w.heap.size 29 i0 _ 2 16 Try.underlying25 HI.out HZ0.out HZ1.out HZ2.out rfl (by decide) _ _ _ rfl (World.ownsRow.alloc HOW6.out _) ⟨wc.heap.size, 0, none⟩ 1 1 [.int .i64 (iv : Int), .int .i64 (vv : Int)] rfl rfl (two_new _ _ _ _) (fun u hu => by simp at hu; rcases hu with rfl | rfl <;> rfl) ?a1 ?a2 ?a3 ?_)
            case a1 => unfold maxLen; omega
            case a2 => omega
            case a3 => have := HB7.out.size; simp; omega
            intro vx w8 hown hgrow _
            obtain ⟨bo, cap2, hvx⟩ : ∃ bo cap2, vx = .slice bo (np + 1) cap2 := by
              rcases hown.2 with ⟨h, h0⟩ | ⟨g, cap, cur, h, _⟩
              · omega
              · exact ⟨_, _, h⟩
            subst hvx
            have hg8 := Fr_alloc hgrow
            have hb8 : Below w.heap.size w w8 := HB7.out.trans (Below.of_grown hg8 (fun k hk => (HOW6.out.lt k hk).1) HB7.out.size)
            have ha58 := ar_grown HA5.out hg8 (own_apart HOW6.out HA5.out (by decide))
            have ha28 := ar_grown HA27.out hg8 (own_apart HOW6.out HA27.out (by decide))
            have ha38 := ar_grown HA37.out hg8 (own_apart HOW6.out HA37.out (by decide))
            have p58 := ha58.cell 7 _ rfl
            have f58 := ha58.free 7
            have hu9 := upd_setCell w8 b5 7 (.slice bo (np + 1) cap2)
            have HS9 : Hid (∃ (n : Nat) (acc : List (Int × Int)) (ao : Option Addr) (cap : Nat), (i + 6) + 6 * n = l.length ∧ Fm.sets n (l.drop (i + 6)) acc = r ∧ n + acc.length = N ∧ (w8.setCell ⟨b5, 7, none⟩ (.slice bo (np + 1) cap2)).ownsRow w.heap.size 29 2 (.slice ao acc.length cap) acc.length (stCells acc) ∧ Ar (w8.setCell ⟨b5, 7, none⟩ (.slice bo (np + 1) cap2)) b5 27 (ptC Fm.none' (.slice ao acc.length cap)) ∧ Ar (w8.setCell ⟨b5, 7, none⟩ (.slice bo (np + 1) cap2)) b2 27 ptZ ∧ Ar (w8.setCell ⟨b5, 7, none⟩ (.slice bo (np + 1) cap2)) b3 74 wgZ ∧ Below w.heap.size w (w8.setCell ⟨b5, 7, none⟩ (.slice bo (np + 1) cap2))) := hid' ⟨n, acc ++ [((iv : Int), (vv : Int))], bo, cap2, by have := HIL.out; omega, by rw [← HDR.out]; exact HRN.out, by have := HNN.out; simp; omega, by
                rw [stCells_snoc, HXX.out, List.length_append, HNP.out]
                exact own_same hown (fun k hk => hu9.block k (own_apart hown ha58 (by decide) k hk)), by
                rw [List.length_append, HNP.out]
                exact ha58.set 7 _, hu9.keep ha28 HN25.out, hu9.keep ha38 (ha38.apart ha58 (by decide)), hb8.trans (hu9.below HG5.out)⟩
            clear hown hgrow hg8 hb8 ha58 ha28 ha38 hu9 p57
            go_wp2
            go_roundw
            case rel => exact ⟨i + 6, by go_num, by have := HIL.out; omega, HS9⟩
            case measure => have := HIL.out; simp [intOf]; omega
        have b1 : ((iv : Int) == 2) = false := by simp; omega
        have b2' : (iv == 2) = false := by simp; omega
        by_cases h5 : iv = 5
        · have a3 : ((iv : Int) == 5) = true := by simp; omega
          have a4 : (iv == 5) = true := by simp; omega
          have a5 : ((iv : Int) == 4) = false := by simp; omega
          have a6 : (iv == 4) = false := by simp; omega
          by_cases hv : vv < 16384
          · have v1 : (vv : Int) < 16384 := by omega
            obtain rfl : c = 1 := by rw [← HCC.out]; unfold Fm.bads; repeat' split
                                     all_goals omega
            clear h2 h5
            go_wp2_with fail
            refine (rconn_any 1 _).mono ?_
            rintro e w8 ⟨rfl, hb8⟩
            have HA28 := hid' (HA27.out.keep hb8)
            have HA38 := hid' (HA37.out.keep hb8)
            have HB8 := hid' (below_two HB7.out hb8)
            clear hb8
            go_wp2_with (refine wpl_st2 _ _ _ _ rfl rfl rfl rfl w.heap.size b2 b3 Fm.none' none 0 0 true true 1 (by kernel_rfl) (by kernel_rfl) (by kernel_rfl) (by kernel_rfl) HA28.out HA38.out HG2.out HG3.out ?_)
            intro w9 hp9 hw9 hb9
            go_wp2
            refine bodyPost_ret (v := rdV (.bad true 1) (.slice none 0 0)) (by simp [results, Try.results54, asAddr, ldp hp9, ldw hw9]; rfl) rfl ⟨⟨.slice none 0 0, ?_, hid' (fun p hp => ?_)⟩, HB8.out.trans hb9⟩
            · rw [← HRB.out, if_neg (by decide)]
            · rw [← HRB.out, if_neg (by decide)] at hp
              cases hp
          · have v1 : ¬ (vv : Int) < 16384 := by omega
            by_cases hv2 : 16777215 < vv
            · have v2 : (16777215 : Int) < (vv : Int) := by omega
              obtain rfl : c = 1 := by rw [← HCC.out]; unfold Fm.bads; repeat' split
                                       all_goals omega
              clear h2 h5
              go_wp2_with fail
              refine (rconn_any 1 _).mono ?_
              rintro e w8 ⟨rfl, hb8⟩
              have HA28 := hid' (HA27.out.keep hb8)
              have HA38 := hid' (HA37.out.keep hb8)
              have HB8 := hid' (below_two HB7.out hb8)
              clear hb8
              go_wp2_with (refine wpl_st2 _ _ _ _ rfl rfl rfl rfl w.heap.size b2 b3 Fm.none' none 0 0 true true 1 (by kernel_rfl) (by kernel_rfl) (by kernel_rfl) (by kernel_rfl) HA28.out HA38.out HG2.out HG3.out ?_)
              intro w9 hp9 hw9 hb9
              go_wp2
              refine bodyPost_ret (v := rdV (.bad true 1) (.slice none 0 0)) (by simp [results, Try.results54, asAddr, ldp hp9, ldw hw9]; rfl) rfl ⟨⟨.slice none 0 0, ?_, hid' (fun p hp => ?_)⟩, HB8.out.trans hb9⟩
              · rw [← HRB.out, if_neg (by decide)]
              · rw [← HRB.out, if_neg (by decide)] at hp
                cases hp
            · have v2 : ¬ (16777215 : Int) < (vv : Int) := by omega
              have HC0 : Hid (c = 0) := hid' (by rw [← HCC.out]; unfold Fm.bads; repeat' split
                                                 all_goals omega)
              clear h2 h5
              have HRN : Hid (Fm.sets n t (acc ++ [((iv : Int), (vv : Int))]) = r) := hid' (by have := HRB.out; rwa [if_pos HC0.out] at this)
              obtain ⟨xs, hxs'⟩ : ∃ xs, stCells acc = xs := ⟨_, rfl⟩
              obtain ⟨np, hnp⟩ : ∃ np, acc.length = np := ⟨_, rfl⟩
              have HOW6 : Hid (wc.ownsRow w.heap.size 29 2 (.slice ao np cap) np xs) := hid' (by rw [← hxs', ← hnp]; exact HOW7.out)
              have ha57 : Ar wc b5 27 (ptC Fm.none' (.slice ao np cap)) := by rw [← hnp]; exact HA57.out
              have HXX := hid' hxs'
              have HNP := hid' hnp
              have hnb : np ≤ 5864062014806 := by have := HNN.out; have := HN16.out; omega
              have p57 := ha57.cell 7 _ rfl
              have HA5 := hid' ha57
              clear hxs' hnp ha57
              go_wp2_with (at_builtin; refine wpList_append_own _ rfl _ _ 25 rfl w.heap.size 29 i0 _ 2 16 Try.underlying25 HI.out HZ0.out HZ1.out HZ2.out rfl (by decide) _ _ _ rfl (World.ownsRow.alloc HOW6.out _) ⟨wc.heap.size, 0, none⟩ 1 1 [.int .i64 (iv : Int), .int .i64 (vv : Int)] rfl rfl (two_new _ _ _ _) (fun u hu => by simp at hu; rcases hu with rfl | rfl <;> rfl) ?a1 ?a2 ?a3 ?_)
              case a1 => unfold maxLen; omega
              case a2 => omega
              case a3 => have := HB7.out.size; simp; omega
              intro vx w8 hown hgrow _
              obtain ⟨bo, cap2, hvx⟩ : ∃ bo cap2, vx = .slice bo (np + 1) cap2 := by
                rcases hown.2 with ⟨h, h0⟩ | ⟨g, cap, cur, h, _⟩
                · omega
                · exact ⟨_, _, h⟩
              subst hvx
              have hg8 := Fr_alloc hgrow
              have hb8 : Below w.heap.size w w8 := HB7.out.trans (Below.of_grown hg8 (fun k hk => (HOW6.out.lt k hk).1) HB7.out.size)
              have ha58 := ar_grown HA5.out hg8 (own_apart HOW6.out HA5.out (by decide))
              have ha28 := ar_grown HA27.out hg8 (own_apart HOW6.out HA27.out (by decide))
              have ha38 := ar_grown HA37.out hg8 (own_apart HOW6.out HA37.out (by decide))
              have p58 := ha58.cell 7 _ rfl
              have f58 := ha58.free 7
              have hu9 := upd_setCell w8 b5 7 (.slice bo (np + 1) cap2)
              have HS9 : Hid (∃ (n : Nat) (acc : List (Int × Int)) (ao : Option Addr) (cap : Nat), (i + 6) + 6 * n = l.length ∧ Fm.sets n (l.drop (i + 6)) acc = r ∧ n + acc.length = N ∧ (w8.setCell ⟨b5, 7, none⟩ (.slice bo (np + 1) cap2)).ownsRow w.heap.size 29 2 (.slice ao acc.length cap) acc.length (stCells acc) ∧ Ar (w8.setCell ⟨b5, 7, none⟩ (.slice bo (np + 1) cap2)) b5 27 (ptC Fm.none' (.slice ao acc.length cap)) ∧ Ar (w8.setCell ⟨b5, 7, none⟩ (.slice bo (np + 1) cap2)) b2 27 ptZ ∧ Ar (w8.setCell ⟨b5, 7, none⟩ (.slice bo (np + 1) cap2)) b3 74 wgZ ∧ Below w.heap.size w (w8.setCell ⟨b5, 7, none⟩ (.slice bo (np + 1) cap2))) := hid' ⟨n, acc ++ [((iv : Int), (vv : Int))], bo, cap2, by have := HIL.out; omega, by rw [← HDR.out]; exact HRN.out, by have := HNN.out; simp; omega, by
                  rw [stCells_snoc, HXX.out, List.length_append, HNP.out]
                  exact own_same hown (fun k hk => hu9.block k (own_apart hown ha58 (by decide) k hk)), by
                  rw [List.length_append, HNP.out]
                  exact ha58.set 7 _, hu9.keep ha28 HN25.out, hu9.keep ha38 (ha38.apart ha58 (by decide)), hb8.trans (hu9.below HG5.out)⟩
              clear hown hgrow hg8 hb8 ha58 ha28 ha38 hu9 p57
              go_wp2
              go_roundw
              case rel => exact ⟨i + 6, by go_num, by have := HIL.out; omega, HS9⟩
              case measure => have := HIL.out; simp [intOf]; omega
        have b3' : ((iv : Int) == 5) = false := by simp; omega
        have b4' : (iv == 5) = false := by simp; omega
        by_cases h4 : iv = 4
        · have a5 : ((iv : Int) == 4) = true := by simp; omega
          have a6 : (iv == 4) = true := by simp; omega
          by_cases hv : 2147483647 < vv
          · have v1 : (2147483647 : Int) < (vv : Int) := by omega
            obtain rfl : c = 3 := by rw [← HCC.out]; unfold Fm.bads; repeat' split
                                     all_goals omega
            clear h2 h5 h4
            go_wp2_with fail
            refine (rconn_any 3 _).mono ?_
            rintro e w8 ⟨rfl, hb8⟩
            have HA28 := hid' (HA27.out.keep hb8)
            have HA38 := hid' (HA37.out.keep hb8)
            have HB8 := hid' (below_two HB7.out hb8)
            clear hb8
            go_wp2_with (refine wpl_st2 _ _ _ _ rfl rfl rfl rfl w.heap.size b2 b3 Fm.none' none 0 0 true true 3 (by kernel_rfl) (by kernel_rfl) (by kernel_rfl) (by kernel_rfl) HA28.out HA38.out HG2.out HG3.out ?_)
            intro w9 hp9 hw9 hb9
            go_wp2
            refine bodyPost_ret (v := rdV (.bad true 3) (.slice none 0 0)) (by simp [results, Try.results54, asAddr, ldp hp9, ldw hw9]; rfl) rfl ⟨⟨.slice none 0 0, ?_, hid' (fun p hp => ?_)⟩, HB8.out.trans hb9⟩
            · rw [← HRB.out, if_neg (by decide)]
            · rw [← HRB.out, if_neg (by decide)] at hp
              cases hp
          · have v1 : ¬ (2147483647 : Int) < (vv : Int) := by omega
            have HC0 : Hid (c = 0) := hid' (by rw [← HCC.out]; unfold Fm.bads; repeat' split
                                               all_goals omega)
            clear h2 h5 h4
            have HRN : Hid (Fm.sets n t (acc ++ [((iv : Int), (vv : Int))]) = r) := hid' (by have := HRB.out; rwa [if_pos HC0.out] at this)
            obtain ⟨xs, hxs'⟩ : ∃ xs, stCells acc = xs := ⟨_, rfl⟩
            obtain ⟨np, hnp⟩ : ∃ np, acc.length = np := ⟨_, rfl⟩
            have HOW6 : Hid (wc.ownsRow w.heap.size 29 2 (.slice ao np cap) np xs) := hid' (by rw [← hxs', ← hnp]; exact HOW7.out)
            have ha57 : Ar wc b5 27 (ptC Fm.none' (.slice ao np cap)) := by rw [← hnp]; exact HA57.out
            have HXX := hid' hxs'
            have HNP := hid' hnp
            have hnb : np ≤ 5864062014806 := by have := HNN.out; have := HN16.out; omega
            have p57 := ha57.cell 7 _ rfl
            have HA5 := hid' ha57
            clear hxs' hnp ha57
            go_wp2_with (at_builtin; refine wpList_append_own _ rfl _ _ 25 rfl w.heap.size 29 i0 _ 2 16 Try.underlying25 HI.out HZ0.out HZ1.out HZ2.out rfl (by decide) _ _ _ rfl (World.ownsRow.alloc HOW6.out _) ⟨wc.heap.size, 0, none⟩ 1 1 [.int .i64 (iv : Int), .int .i64 (vv : Int)] rfl rfl (two_new _ _ _ _) (fun u hu => by simp at hu; rcases hu with rfl | rfl <;> rfl) ?a1 ?a2 ?a3 ?_)
            case a1 => unfold maxLen; omega
            case a2 => omega
            case a3 => have := HB7.out.size; simp; omega
            intro vx w8 hown hgrow _
            obtain ⟨bo, cap2, hvx⟩ : ∃ bo cap2, vx = .slice bo (np + 1) cap2 := by
              rcases hown.2 with ⟨h, h0⟩ | ⟨g, cap, cur, h, _⟩
              · omega
              · exact ⟨_, _, h⟩
            subst hvx
            have hg8 := Fr_alloc hgrow
            have hb8 : Below w.heap.size w w8 := HB7.out.trans (Below.of_grown hg8 (fun k hk => (HOW6.out.lt k hk).1) HB7.out.size)
            have ha58 := ar_grown HA5.out hg8 (own_apart HOW6.out HA5.out (by decide))
            have ha28 := ar_grown HA27.out hg8 (own_apart HOW6.out HA27.out (by decide))
            have ha38 := ar_grown HA37.out hg8 (own_apart HOW6.out HA37.out (by decide))
            have p58 := ha58.cell 7 _ rfl
            have f58 := ha58.free 7
            have hu9 := upd_setCell w8 b5 7 (.slice bo (np + 1) cap2)
            have HS9 : Hid (∃ (n : Nat) (acc : List (Int × Int)) (ao : Option Addr) (cap : Nat), (i + 6) + 6 * n = l.length ∧ Fm.sets n (l.drop (i + 6)) acc = r ∧ n + acc.length = N ∧ (w8.setCell ⟨b5, 7, none⟩ (.slice bo (np + 1) cap2)).ownsRow w.heap.size 29 2 (.slice ao acc.length cap) acc.length (stCells acc) ∧ Ar (w8.setCell ⟨b5, 7, none⟩ (.slice bo (np + 1) cap2)) b5 27 (ptC Fm.none' (.slice ao acc.length cap)) ∧ Ar (w8.setCell ⟨b5, 7, none⟩ (.slice bo (np + 1) cap2)) b2 27 ptZ ∧ Ar (w8.setCell ⟨b5, 7, none⟩ (.slice bo (np + 1) cap2)) b3 74 wgZ ∧ Below w.heap.size w (w8.setCell ⟨b5, 7, none⟩ (.slice bo (np + 1) cap2))) := hid' ⟨n, acc ++ [((iv : Int), (vv : Int))], bo, cap2, by have := HIL.out; omega, by rw [← HDR.out]; exact HRN.out, by have := HNN.out; simp; omega, by
                rw [stCells_snoc, HXX.out, List.length_append, HNP.out]
                exact own_same hown (fun k hk => hu9.block k (own_apart hown ha58 (by decide) k hk)), by
                rw [List.length_append, HNP.out]
                exact ha58.set 7 _, hu9.keep ha28 HN25.out, hu9.keep ha38 (ha38.apart ha58 (by decide)), hb8.trans (hu9.below HG5.out)⟩
            clear hown hgrow hg8 hb8 ha58 ha28 ha38 hu9 p57
            go_wp2
            go_roundw
            case rel => exact ⟨i + 6, by go_num, by have := HIL.out; omega, HS9⟩
            case measure => have := HIL.out; simp [intOf]; omega
        · have a5 : ((iv : Int) == 4) = false := by simp; omega
          have a6 : (iv == 4) = false := by simp; omega
          have HC0 : Hid (c = 0) := hid' (by rw [← HCC.out]; unfold Fm.bads; repeat' split
                                             all_goals omega)
          clear h2 h5 h4
          have HRN : Hid (Fm.sets n t (acc ++ [((iv : Int), (vv : Int))]) = r) := hid' (by have := HRB.out; rwa [if_pos HC0.out] at this)
          obtain ⟨xs, hxs'⟩ : ∃ xs, stCells acc = xs := ⟨_, rfl⟩
          obtain ⟨np, hnp⟩ : ∃ np, acc.length = np := ⟨_, rfl⟩
          have HOW6 : Hid (wc.ownsRow w.heap.size 29 2 (.slice ao np cap) np xs) := hid' (by rw [← hxs', ← hnp]; exact HOW7.out)
          have ha57 : Ar wc b5 27 (ptC Fm.none' (.slice ao np cap)) := by rw [← hnp]; exact HA57.out
          have HXX := hid' hxs'
          have HNP := hid' hnp
          have hnb : np ≤ 5864062014806 := by have := HNN.out; have := HN16.out; omega
          have p57 := ha57.cell 7 _ rfl
          have HA5 := hid' ha57
          clear hxs' hnp ha57
          go_wp2_with (at_builtin; refine wpList_append_own _ rfl _ _ 25 rfl w.heap.size 29 i0 _ 2 16 Try.underlying25 HI.out HZ0.out HZ1.out HZ2.out rfl (by decide) _ _ _ rfl (World.ownsRow.alloc HOW6.out _) ⟨wc.heap.size, 0, none⟩ 1 1 [.int .i64 (iv : Int), .int .i64 (vv : Int)] rfl rfl (two_new _ _ _ _) (fun u hu => by simp at hu; rcases hu with rfl | rfl <;> rfl) ?a1 ?a2 ?a3 ?_)
          case a1 => unfold maxLen; omega
          case a2 => omega
          case a3 => have := HB7.out.size; simp; omega
          intro vx w8 hown hgrow _
          obtain ⟨bo, cap2, hvx⟩ : ∃ bo cap2, vx = .slice bo (np + 1) cap2 := by
            rcases hown.2 with ⟨h, h0⟩ | ⟨g, cap, cur, h, _⟩
            · omega
            · exact ⟨_, _, h⟩
          subst hvx
          have hg8 := Fr_alloc hgrow
          have hb8 : Below w.heap.size w w8 := HB7.out.trans (Below.of_grown hg8 (fun k hk => (HOW6.out.lt k hk).1) HB7.out.size)
          have ha58 := ar_grown HA5.out hg8 (own_apart HOW6.out HA5.out (by decide))
          have ha28 := ar_grown HA27.out hg8 (own_apart HOW6.out HA27.out (by decide))
          have ha38 := ar_grown HA37.out hg8 (own_apart HOW6.out HA37.out (by decide))
          have p58 := ha58.cell 7 _ rfl
          have f58 := ha58.free 7
          have hu9 := upd_setCell w8 b5 7 (.slice bo (np + 1) cap2)
          have HS9 : Hid (∃ (n : Nat) (acc : List (Int × Int)) (ao : Option Addr) (cap : Nat), (i + 6) + 6 * n = l.length ∧ Fm.sets n (l.drop (i + 6)) acc = r ∧ n + acc.length = N ∧ (w8.setCell ⟨b5, 7, none⟩ (.slice bo (np + 1) cap2)).ownsRow w.heap.size 29 2 (.slice ao acc.length cap) acc.length (stCells acc) ∧ Ar (w8.setCell ⟨b5, 7, none⟩ (.slice bo (np + 1) cap2)) b5 27 (ptC Fm.none' (.slice ao acc.length cap)) ∧ Ar (w8.setCell ⟨b5, 7, none⟩ (.slice bo (np + 1) cap2)) b2 27 ptZ ∧ Ar (w8.setCell ⟨b5, 7, none⟩ (.slice bo (np + 1) cap2)) b3 74 wgZ ∧ Below w.heap.size w (w8.setCell ⟨b5, 7, none⟩ (.slice bo (np + 1) cap2))) := hid' ⟨n, acc ++ [((iv : Int), (vv : Int))], bo, cap2, by have := HIL.out; omega, by rw [← HDR.out]; exact HRN.out, by have := HNN.out; simp; omega, by
              rw [stCells_snoc, HXX.out, List.length_append, HNP.out]
              exact own_same hown (fun k hk => hu9.block k (own_apart hown ha58 (by decide) k hk)), by
              rw [List.length_append, HNP.out]
              exact ha58.set 7 _, hu9.keep ha28 HN25.out, hu9.keep ha38 (ha38.apart ha58 (by decide)), hb8.trans (hu9.below HG5.out)⟩
          clear hown hgrow hg8 hb8 ha58 ha28 ha38 hu9 p57
          go_wp2
          go_roundw
          case rel => exact ⟨i + 6, by go_num, by have := HIL.out; omega, HS9⟩
          case measure => have := HIL.out; simp [intOf]; omega
    · have hlt2 : ¬ (i : Int) < (l.length : Int) := by omega
      obtain ⟨acc, ao, cap, HRR, HOW, HA5, HA2, HA3, HB⟩ : ∃ (acc : List (Int × Int)) (ao : Option Addr) (cap : Nat), Hid (Fm.sets 0 (l.drop i) acc = r) ∧ Hid (wr.ownsRow w.heap.size 29 2 (.slice ao acc.length cap) acc.length (stCells acc)) ∧ Hid (Ar wr b5 27 (ptC Fm.none' (.slice ao acc.length cap))) ∧ Hid (Ar wr b2 27 ptZ) ∧ Hid (Ar wr b3 74 wgZ) ∧ Hid (Below w.heap.size w wr) := by
        obtain ⟨n, acc, ao, cap, h1, h2, h3, h4, h5, h6, h7, h8⟩ := HX.out
        obtain rfl : n = 0 := by omega
        exact ⟨acc, ao, cap, h2, h4, h5, h6, h7, h8⟩
      obtain rfl : r = .ok ⟨[], 0, 0, 0, 0, false, 0, acc⟩ := by rw [← HRR.out]; rfl
      clear HX
      go_wp2_with (first | refine wpl_ldf _ rfl rfl b5 (by kernel_rfl) _ _ HA5.out ?_ | refine wpl_st2k _ _ _ _ rfl rfl rfl rfl w.heap.size b2 b3 ⟨[], 0, 0, 0, 0, false, 0, acc⟩ ao acc.length cap false false 0 (by kernel_rfl) (by kernel_rfl) (by kernel_rfl) (by kernel_rfl) HA2.out HA3.out HG2.out HG3.out ?_)
      intro w9 hp9 hw9 hb9 hk9
      go_wp2
      refine bodyPost_ret (v := rdV (.ok ⟨[], 0, 0, 0, 0, false, 0, acc⟩) (.slice ao acc.length cap)) (by simp [results, Try.results54, asAddr, ldp hp9, ldw hw9]; rfl) rfl ⟨⟨_, rfl, hid' (fun p hp => ?_)⟩, HB.out.trans hb9⟩
      injection hp with hp
      subst hp
      exact own_same HOW.out (fun k hk => hk9 k (own_apart HOW.out HA2.out (by decide) k hk) (own_apart HOW.out HA3.out (by decide) k hk))

end Go.Proofs.Ythbidfcfkjamdaa
