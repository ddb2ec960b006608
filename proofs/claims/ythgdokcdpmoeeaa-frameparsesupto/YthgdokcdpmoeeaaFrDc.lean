/-
  ostlerref07.window, whole: by their contracts.
-/
import Derived.Test.YthgdokcdpmoeeaaFrDb
namespace Go.Proofs.Ythgdokcdpmoeeaa
open Go.RowKit

set_option maxHeartbeats 4000000 in
set_option maxRecDepth 20000 in
theorem rwindow_any (fl st : Int) (l : List UInt8) (r : Fm.Rd) (hr : Fm.parse 8 fl st l = r) (w : World) : Calls Try.prog 27 #[.agg (frC 8 fl st l)] w fun e w' => e = .returned (rdV r (.slice none 0 0)) ∧ Below w.heap.size w w' := by
  by_cases h4 : l.length = 4
  · obtain ⟨n, hn⟩ : ∃ n, Fm.num l % 2147483648 = n := ⟨_, rfl⟩
    have hid : Fm.idn l = n := by unfold Fm.idn; rw [List.take_of_length_le (by omega)]; exact hn
    have hr2 : (if n = 0 then .bad (decide (st = 0)) 1 else .ok ⟨[], 0, 0, 0, 0, false, (n : Int), []⟩) = r := by
      rw [← hr, ← hid]
      simp [Fm.parse, Fm.mis, Fm.sized, Fm.say, h4]
    have HN := hid' hn
    have H4 := hid' h4
    have h4i : ((l.length : Int) != 4) = false := by simp; omega
    have h4n : (l.length != 4) = false := by simp; omega
    clear hn hid hr
    by_cases h0 : n = 0
    · by_cases hs : st = 0
      · subst hs
        obtain rfl : r = .bad true 1 := by rw [← hr2, if_pos h0]; rfl
        subst h0
        clear hr2
        go_enter Try.func27, Try.ntmps27
        go_wp2_with (refine wpl_open _ rfl rfl rfl rfl rfl rfl 8 fl 0 l (by kernel_rfl) ?_)
        intro b1 b2 b3 w0 hF
        obtain ⟨c0, c1, c2, c3⟩ := frC_cells hF.a1
        have HF := hid' hF
        clear hF
        go_wp2_with fail
        refine (rid_any l _ H4.out HN.out _).mono ?_
        rintro e w1 ⟨rfl, hw⟩
        subst w1
        go_wp2_with fail
        refine (rconn_any 1 _).mono ?_
        rintro e w1 ⟨rfl, hb1⟩
        have HF1 := hid' (HF.out.keep hb1)
        clear hb1
        go_wp2_with (refine wpl_st2 _ _ _ _ rfl rfl rfl rfl w.heap.size b2 b3 Fm.none' none 0 0 true true 1 (by kernel_rfl) (by kernel_rfl) (by kernel_rfl) (by kernel_rfl) HF1.out.a2 HF1.out.a3 HF1.out.g2 HF1.out.g3 ?_)
        intro w3 hp3 hw3 hb3
        go_wp2
        exact bodyPost_ret (v := rdV (.bad true 1) (.slice none 0 0)) (by simp [results, Try.results27, asAddr, ldp hp3, ldw hw3]; rfl) rfl ⟨rfl, HF1.out.bel.trans hb3⟩
      · obtain rfl : r = .bad false 1 := by rw [← hr2, if_pos h0]; simp [hs]
        subst h0
        have hs1 : (st == 0) = false := by simp [hs]
        clear hr2
        go_enter Try.func27, Try.ntmps27
        go_wp2_with (refine wpl_open _ rfl rfl rfl rfl rfl rfl 8 fl st l (by kernel_rfl) ?_)
        intro b1 b2 b3 w0 hF
        obtain ⟨c0, c1, c2, c3⟩ := frC_cells hF.a1
        have HF := hid' hF
        clear hF
        go_wp2_with fail
        refine (rid_any l _ H4.out HN.out _).mono ?_
        rintro e w1 ⟨rfl, hw⟩
        subst w1
        go_wp2_with fail
        refine (rstream_any 1 _).mono ?_
        rintro e w1 ⟨rfl, hb1⟩
        have HF1 := hid' (HF.out.keep hb1)
        clear hb1
        go_wp2_with (refine wpl_st2 _ _ _ _ rfl rfl rfl rfl w.heap.size b2 b3 Fm.none' none 0 0 true false 1 (by kernel_rfl) (by kernel_rfl) (by kernel_rfl) (by kernel_rfl) HF1.out.a2 HF1.out.a3 HF1.out.g2 HF1.out.g3 ?_)
        intro w3 hp3 hw3 hb3
        go_wp2
        exact bodyPost_ret (v := rdV (.bad false 1) (.slice none 0 0)) (by simp [results, Try.results27, asAddr, ldp hp3, ldw hw3]; rfl) rfl ⟨rfl, HF1.out.bel.trans hb3⟩
    · obtain rfl : r = .ok ⟨[], 0, 0, 0, 0, false, (n : Int), []⟩ := by rw [← hr2, if_neg h0]
      have hn0 : ((n : Int) == 0) = false := by simp; omega
      have hn1 : (n == 0) = false := by simp; omega
      clear hr2
      go_enter Try.func27, Try.ntmps27
      go_wp2_with (refine wpl_open _ rfl rfl rfl rfl rfl rfl 8 fl st l (by kernel_rfl) ?_)
      intro b1 b2 b3 w0 hF
      obtain ⟨c0, c1, c2, c3⟩ := frC_cells hF.a1
      have HF := hid' hF
      clear hF
      go_wp2_with fail
      refine (rid_any l _ H4.out HN.out _).mono ?_
      rintro e w1 ⟨rfl, hw⟩
      subst w1
      go_wp2_with (refine wpl_st2 _ _ _ _ rfl rfl rfl rfl w.heap.size b2 b3 ⟨[], 0, 0, 0, 0, false, (n : Int), []⟩ none 0 0 false false 0 (by kernel_rfl) (by kernel_rfl) (by kernel_rfl) (by kernel_rfl) HF.out.a2 HF.out.a3 HF.out.g2 HF.out.g3 ?_)
      intro w3 hp3 hw3 hb3
      go_wp2
      exact bodyPost_ret (v := rdV (.ok ⟨[], 0, 0, 0, 0, false, (n : Int), []⟩) (.slice none 0 0)) (by simp [results, Try.results27, asAddr, ldp hp3, ldw hw3]; rfl) rfl ⟨rfl, HF.out.bel.trans hb3⟩
  · obtain rfl : r = .bad true 6 := by
      rw [← hr]
      simp [Fm.parse, Fm.mis, Fm.sized, h4]
    have h4i : ((l.length : Int) != 4) = true := by simp; omega
    have h4n : (l.length != 4) = true := by simp; omega
    clear hr
    go_enter Try.func27, Try.ntmps27
    go_wp2_with (refine wpl_open _ rfl rfl rfl rfl rfl rfl 8 fl st l (by kernel_rfl) ?_)
    intro b1 b2 b3 w0 hF
    obtain ⟨c0, c1, c2, c3⟩ := frC_cells hF.a1
    have HF := hid' hF
    clear hF
    go_wp2_with fail
    refine (rconn_any 6 _).mono ?_
    rintro e w1 ⟨rfl, hb1⟩
    have HF1 := hid' (HF.out.keep hb1)
    clear hb1
    go_wp2_with (refine wpl_st2 _ _ _ _ rfl rfl rfl rfl w.heap.size b2 b3 Fm.none' none 0 0 true true 6 (by kernel_rfl) (by kernel_rfl) (by kernel_rfl) (by kernel_rfl) HF1.out.a2 HF1.out.a3 HF1.out.g2 HF1.out.g3 ?_)
    intro w3 hp3 hw3 hb3
    go_wp2
    exact bodyPost_ret (v := rdV (.bad true 6) (.slice none 0 0)) (by simp [results, Try.results27, asAddr, ldp hp3, ldw hw3]; rfl) rfl ⟨rfl, HF1.out.bel.trans hb3⟩


end Go.Proofs.Ythgdokcdpmoeeaa
