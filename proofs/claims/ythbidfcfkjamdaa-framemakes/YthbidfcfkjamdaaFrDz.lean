/-
  ostlerref07.Parse of the kinds that it reads itself: by its contract.
  ostlerref07.Parse of the kinds that it hands on: by its contract.
-/
import Derived.Test.YthbidfcfkjamdaaFrDx
import Derived.Test.YthbidfcfkjamdaaFrK
namespace Go.Proofs.Ythbidfcfkjamdaa
open Go.RowKit

set_option maxHeartbeats 4000000 in
set_option maxRecDepth 20000 in
theorem rparse_push (fl st : Int) (l : List UInt8) (r : Fm.Rd) (hr : Fm.parse 5 fl st l = r) (w : World) : Calls Try.prog 38 #[.agg (frC 5 fl st l)] w fun e w' => e = .returned (rdV r (.slice none 0 0)) ∧ Below w.heap.size w w' := by
  obtain rfl : r = .bad true 1 := by rw [← hr]; simp [Fm.parse, Fm.mis]
  clear hr
  go_enter Try.func38, Try.ntmps38
  go_wp2_with (refine wpl_open _ rfl rfl rfl rfl rfl rfl 5 fl st l (by kernel_rfl) ?_)
  intro b1 b2 b3 w0 hF
  obtain ⟨c0, c1, c2, c3⟩ := frC_cells hF.a1
  have HF := hid' hF
  clear hF
  go_wp2_with fail
  refine (rconn_any 1 _).mono ?_
  rintro e w1 ⟨rfl, hb1⟩
  have HF1 := hid' (HF.out.keep hb1)
  clear hb1
  go_wp2_with (refine wpl_st2 _ _ _ _ rfl rfl rfl rfl w.heap.size b2 b3 Fm.none' none 0 0 true true 1 (by kernel_rfl) (by kernel_rfl) (by kernel_rfl) (by kernel_rfl) HF1.out.a2 HF1.out.a3 HF1.out.g2 HF1.out.g3 ?_)
  intro w3 hp3 hw3 hb3
  go_wp2
  exact bodyPost_ret (v := rdV (.bad true 1) (.slice none 0 0)) (by simp [results, Try.results38, asAddr, ldp hp3, ldw hw3]; rfl) rfl ⟨rfl, HF1.out.bel.trans hb3⟩

set_option maxHeartbeats 4000000 in
set_option maxRecDepth 20000 in
theorem rparse_prio0 (fl : Int) (l : List UInt8) (r : Fm.Rd) (hr : Fm.parse 2 fl 0 l = r) (w : World) : Calls Try.prog 38 #[.agg (frC 2 fl 0 l)] w fun e w' => e = .returned (rdV r (.slice none 0 0)) ∧ Below w.heap.size w w' := by
  obtain rfl : r = .bad true 1 := by rw [← hr]; simp [Fm.parse, Fm.mis]
  clear hr
  go_enter Try.func38, Try.ntmps38
  go_wp2_with (refine wpl_open _ rfl rfl rfl rfl rfl rfl 2 fl 0 l (by kernel_rfl) ?_)
  intro b1 b2 b3 w0 hF
  obtain ⟨c0, c1, c2, c3⟩ := frC_cells hF.a1
  have HF := hid' hF
  clear hF
  go_wp2_with fail
  refine (rconn_any 1 _).mono ?_
  rintro e w1 ⟨rfl, hb1⟩
  have HF1 := hid' (HF.out.keep hb1)
  clear hb1
  go_wp2_with (refine wpl_st2 _ _ _ _ rfl rfl rfl rfl w.heap.size b2 b3 Fm.none' none 0 0 true true 1 (by kernel_rfl) (by kernel_rfl) (by kernel_rfl) (by kernel_rfl) HF1.out.a2 HF1.out.a3 HF1.out.g2 HF1.out.g3 ?_)
  intro w3 hp3 hw3 hb3
  go_wp2
  exact bodyPost_ret (v := rdV (.bad true 1) (.slice none 0 0)) (by simp [results, Try.results38, asAddr, ldp hp3, ldw hw3]; rfl) rfl ⟨rfl, HF1.out.bel.trans hb3⟩

set_option maxHeartbeats 4000000 in
set_option maxRecDepth 20000 in
theorem rparse_reset0 (fl : Int) (l : List UInt8) (r : Fm.Rd) (hr : Fm.parse 3 fl 0 l = r) (w : World) : Calls Try.prog 38 #[.agg (frC 3 fl 0 l)] w fun e w' => e = .returned (rdV r (.slice none 0 0)) ∧ Below w.heap.size w w' := by
  obtain rfl : r = .bad true 1 := by rw [← hr]; simp [Fm.parse, Fm.mis]
  clear hr
  go_enter Try.func38, Try.ntmps38
  go_wp2_with (refine wpl_open _ rfl rfl rfl rfl rfl rfl 3 fl 0 l (by kernel_rfl) ?_)
  intro b1 b2 b3 w0 hF
  obtain ⟨c0, c1, c2, c3⟩ := frC_cells hF.a1
  have HF := hid' hF
  clear hF
  go_wp2_with fail
  refine (rconn_any 1 _).mono ?_
  rintro e w1 ⟨rfl, hb1⟩
  have HF1 := hid' (HF.out.keep hb1)
  clear hb1
  go_wp2_with (refine wpl_st2 _ _ _ _ rfl rfl rfl rfl w.heap.size b2 b3 Fm.none' none 0 0 true true 1 (by kernel_rfl) (by kernel_rfl) (by kernel_rfl) (by kernel_rfl) HF1.out.a2 HF1.out.a3 HF1.out.g2 HF1.out.g3 ?_)
  intro w3 hp3 hw3 hb3
  go_wp2
  exact bodyPost_ret (v := rdV (.bad true 1) (.slice none 0 0)) (by simp [results, Try.results38, asAddr, ldp hp3, ldw hw3]; rfl) rfl ⟨rfl, HF1.out.bel.trans hb3⟩

set_option maxHeartbeats 4000000 in
set_option maxRecDepth 20000 in
theorem rparse_more0 (fl : Int) (l : List UInt8) (r : Fm.Rd) (hr : Fm.parse 9 fl 0 l = r) (w : World) : Calls Try.prog 38 #[.agg (frC 9 fl 0 l)] w fun e w' => e = .returned (rdV r (.slice none 0 0)) ∧ Below w.heap.size w w' := by
  obtain rfl : r = .bad true 1 := by rw [← hr]; simp [Fm.parse, Fm.mis]
  clear hr
  go_enter Try.func38, Try.ntmps38
  go_wp2_with (refine wpl_open _ rfl rfl rfl rfl rfl rfl 9 fl 0 l (by kernel_rfl) ?_)
  intro b1 b2 b3 w0 hF
  obtain ⟨c0, c1, c2, c3⟩ := frC_cells hF.a1
  have HF := hid' hF
  clear hF
  go_wp2_with fail
  refine (rconn_any 1 _).mono ?_
  rintro e w1 ⟨rfl, hb1⟩
  have HF1 := hid' (HF.out.keep hb1)
  clear hb1
  go_wp2_with (refine wpl_st2 _ _ _ _ rfl rfl rfl rfl w.heap.size b2 b3 Fm.none' none 0 0 true true 1 (by kernel_rfl) (by kernel_rfl) (by kernel_rfl) (by kernel_rfl) HF1.out.a2 HF1.out.a3 HF1.out.g2 HF1.out.g3 ?_)
  intro w3 hp3 hw3 hb3
  go_wp2
  exact bodyPost_ret (v := rdV (.bad true 1) (.slice none 0 0)) (by simp [results, Try.results38, asAddr, ldp hp3, ldw hw3]; rfl) rfl ⟨rfl, HF1.out.bel.trans hb3⟩

set_option maxHeartbeats 4000000 in
set_option maxRecDepth 20000 in
theorem rparse_more (fl st : Int) (l : List UInt8) (r : Fm.Rd) (hs : st ≠ 0) (hr : Fm.parse 9 fl st l = r) (w : World) : Calls Try.prog 38 #[.agg (frC 9 fl st l)] w fun e w' => e = .returned (rdV r (.slice none 0 0)) ∧ Below w.heap.size w w' := by
  obtain rfl : r = .ok ⟨l, 0, 0, 0, 0, false, 0, []⟩ := by rw [← hr]; simp [Fm.parse, Fm.mis, Fm.sized, Fm.say, hs]
  have hs1 : (st == 0) = false := by simp [hs]
  clear hr
  go_enter Try.func38, Try.ntmps38
  go_wp2_with (refine wpl_open _ rfl rfl rfl rfl rfl rfl 9 fl st l (by kernel_rfl) ?_)
  intro b1 b2 b3 w0 hF
  obtain ⟨c0, c1, c2, c3⟩ := frC_cells hF.a1
  have HF := hid' hF
  clear hF
  go_wp2_with (refine wpl_st2 _ _ _ _ rfl rfl rfl rfl w.heap.size b2 b3 ⟨l, 0, 0, 0, 0, false, 0, []⟩ none 0 0 false false 0 (by kernel_rfl) (by kernel_rfl) (by kernel_rfl) (by kernel_rfl) HF.out.a2 HF.out.a3 HF.out.g2 HF.out.g3 ?_)
  intro w3 hp3 hw3 hb3
  go_wp2
  exact bodyPost_ret (v := rdV (.ok ⟨l, 0, 0, 0, 0, false, 0, []⟩) (.slice none 0 0)) (by simp [results, Try.results38, asAddr, ldp hp3, ldw hw3]; rfl) rfl ⟨rfl, HF.out.bel.trans hb3⟩

set_option maxHeartbeats 4000000 in
set_option maxRecDepth 20000 in
theorem rparse_reset (fl st : Int) (l : List UInt8) (r : Fm.Rd) (hs : st ≠ 0) (hr : Fm.parse 3 fl st l = r) (w : World) : Calls Try.prog 38 #[.agg (frC 3 fl st l)] w fun e w' => e = .returned (rdV r (.slice none 0 0)) ∧ Below w.heap.size w w' := by
  have hs1 : (st == 0) = false := by simp [hs]
  by_cases h4 : l.length = 4
  · obtain ⟨c, hc⟩ : ∃ c, Fm.num l = c := ⟨_, rfl⟩
    obtain rfl : r = .ok ⟨[], 0, (c : Int), 0, 0, false, 0, []⟩ := by
      rw [← hr, ← hc]
      simp [Fm.parse, Fm.mis, Fm.sized, Fm.say, hs, h4, List.take_of_length_le (Nat.le_of_eq h4)]
    have h4i : ((l.length : Int) != 4) = false := by simp; omega
    have h4n : (l.length != 4) = false := by simp; omega
    have H4 := hid' h4
    have HC := hid' hc
    clear hr hc
    go_enter Try.func38, Try.ntmps38
    go_wp2_with (refine wpl_open _ rfl rfl rfl rfl rfl rfl 3 fl st l (by kernel_rfl) ?_)
    intro b1 b2 b3 w0 hF
    obtain ⟨c0, c1, c2, c3⟩ := frC_cells hF.a1
    have HF := hid' hF
    clear hF
    go_wp2_with fail
    refine (rnumber_any l (Nat.le_of_eq H4.out) _).mono ?_
    rintro e w1 ⟨rfl, hw⟩
    subst w1
    rw [HC.out]
    go_wp2_with (refine wpl_st2 _ _ _ _ rfl rfl rfl rfl w.heap.size b2 b3 ⟨[], 0, (c : Int), 0, 0, false, 0, []⟩ none 0 0 false false 0 (by kernel_rfl) (by kernel_rfl) (by kernel_rfl) (by kernel_rfl) HF.out.a2 HF.out.a3 HF.out.g2 HF.out.g3 ?_)
    intro w3 hp3 hw3 hb3
    go_wp2
    exact bodyPost_ret (v := rdV (.ok ⟨[], 0, (c : Int), 0, 0, false, 0, []⟩) (.slice none 0 0)) (by simp [results, Try.results38, asAddr, ldp hp3, ldw hw3]; rfl) rfl ⟨rfl, HF.out.bel.trans hb3⟩
  · obtain rfl : r = .bad true 6 := by
      rw [← hr]
      simp [Fm.parse, Fm.mis, Fm.sized, hs, h4]
    have h4i : ((l.length : Int) != 4) = true := by simp; omega
    have h4n : (l.length != 4) = true := by simp; omega
    clear hr
    go_enter Try.func38, Try.ntmps38
    go_wp2_with (refine wpl_open _ rfl rfl rfl rfl rfl rfl 3 fl st l (by kernel_rfl) ?_)
    intro b1 b2 b3 w0 hF
    obtain ⟨c0, c1, c2, c3⟩ := frC_cells hF.a1
    have HF := hid' hF
    clear hF
    go_wp2_with fail
    refine (rconn_any 6 _).mono ?_
    rintro e w1 ⟨rfl, hb1⟩
    have HF1 := hid' (HF.out.keep hb1)
    clear hb1
    go_wp2_with (refine wpl_st2 _ _ _ _ rfl rfl rfl rfl w.heap.size b2 b3 Fm.none' none 0 0 true true 6 (by kernel_rfl) (by kernel_rfl) (by kernel_rfl) (by kernel_rfl) HF1.out.a2 HF1.out.a3 HF1.out.g2 HF1.out.g3 ?_)
    intro w3 hp3 hw3 hb3
    go_wp2
    exact bodyPost_ret (v := rdV (.bad true 6) (.slice none 0 0)) (by simp [results, Try.results38, asAddr, ldp hp3, ldw hw3]; rfl) rfl ⟨rfl, HF1.out.bel.trans hb3⟩

set_option maxHeartbeats 4000000 in
set_option maxRecDepth 20000 in
theorem rparse_prio (fl st : Int) (l : List UInt8) (r : Fm.Rd) (hs : st ≠ 0) (hr : Fm.parse 2 fl st l = r) (w : World) : Calls Try.prog 38 #[.agg (frC 2 fl st l)] w fun e w' => e = .returned (rdV r (.slice none 0 0)) ∧ Below w.heap.size w w' := by
  have hs1 : (st == 0) = false := by simp [hs]
  by_cases h5 : l.length = 5
  · obtain ⟨p, hp⟩ : ∃ p, Fm.prio l [] = p := ⟨_, rfl⟩
    obtain rfl : r = .ok p := by
      rw [← hr, ← hp]
      simp [Fm.parse, Fm.mis, Fm.sized, Fm.say, hs, h5]
    have h5i : ((l.length : Int) != 5) = false := by simp; omega
    have h5n : (l.length != 5) = false := by simp; omega
    have H5 : Hid (5 ≤ l.length) := hid' (by omega)
    have HP := hid' hp
    clear hr hp
    go_enter Try.func38, Try.ntmps38
    go_wp2_with (refine wpl_open _ rfl rfl rfl rfl rfl rfl 2 fl st l (by kernel_rfl) ?_)
    intro b1 b2 b3 w0 hF
    obtain ⟨c0, c1, c2, c3⟩ := frC_cells hF.a1
    have HF := hid' hF
    clear hF
    go_wp2_with (refine wpl_alloc 27 rfl rfl _ zeroParts ?_)
    intro b5 w5 hg5 ha5 hb5
    have HN25 : Hid (b2 ≠ b5) := hid' (by have := HF.out.a2.lt; omega)
    have HG5 : Hid (w.heap.size ≤ b5) := hid' (Nat.le_trans HF.out.bel.size hg5)
    have HA5 := hid' ha5
    have HF5 := hid' (HF.out.keep hb5)
    clear hg5 ha5 hb5 HF
    go_wp2_with fail
    refine (rdepends_any l b5 (.slice none 0 0) _ H5.out HA5.out).mono ?_
    rintro e w6 ⟨rfl, ha6, hu6⟩
    rw [HP.out] at ha6
    have HA6 := hid' ha6
    have HA26 := hid' (hu6.keep HF5.out.a2 HN25.out)
    have HA36 := hid' (hu6.keep HF5.out.a3 (HF5.out.a3.apart HA5.out (by decide)))
    have HB6 := hid' (HF5.out.bel.trans (hu6.below HG5.out))
    have HG2 := hid' HF5.out.g2
    have HG3 := hid' HF5.out.g3
    clear ha6 hu6 HF5 HA5
    go_wp2_with (first | refine wpl_ldf _ rfl rfl b5 (by kernel_rfl) _ _ HA6.out ?_ | refine wpl_st2 _ _ _ _ rfl rfl rfl rfl w.heap.size b2 b3 p none 0 0 false false 0 (by kernel_rfl) (by kernel_rfl) (by kernel_rfl) (by kernel_rfl) HA26.out HA36.out HG2.out HG3.out ?_)
    intro w9 hp9 hw9 hb9
    go_wp2
    exact bodyPost_ret (v := rdV (.ok p) (.slice none 0 0)) (by simp [results, Try.results38, asAddr, ldp hp9, ldw hw9]; rfl) rfl ⟨rfl, HB6.out.trans hb9⟩
  · obtain rfl : r = .bad false 6 := by
      rw [← hr]
      simp [Fm.parse, Fm.mis, Fm.sized, hs, h5]
    have h5i : ((l.length : Int) != 5) = true := by simp; omega
    have h5n : (l.length != 5) = true := by simp; omega
    clear hr
    go_enter Try.func38, Try.ntmps38
    go_wp2_with (refine wpl_open _ rfl rfl rfl rfl rfl rfl 2 fl st l (by kernel_rfl) ?_)
    intro b1 b2 b3 w0 hF
    obtain ⟨c0, c1, c2, c3⟩ := frC_cells hF.a1
    have HF := hid' hF
    clear hF
    go_wp2_with fail
    refine (rstream_any 6 _).mono ?_
    rintro e w1 ⟨rfl, hb1⟩
    have HF1 := hid' (HF.out.keep hb1)
    clear hb1
    go_wp2_with (refine wpl_st2 _ _ _ _ rfl rfl rfl rfl w.heap.size b2 b3 Fm.none' none 0 0 true false 6 (by kernel_rfl) (by kernel_rfl) (by kernel_rfl) (by kernel_rfl) HF1.out.a2 HF1.out.a3 HF1.out.g2 HF1.out.g3 ?_)
    intro w3 hp3 hw3 hb3
    go_wp2
    exact bodyPost_ret (v := rdV (.bad false 6) (.slice none 0 0)) (by simp [results, Try.results38, asAddr, ldp hp3, ldw hw3]; rfl) rfl ⟨rfl, HF1.out.bel.trans hb3⟩

set_option maxHeartbeats 4000000 in
set_option maxRecDepth 20000 in
theorem rparse_other (k fl st : Int) (l : List UInt8) (r : Fm.Rd) (h0 : k ≠ 0) (h1 : k ≠ 1) (h2 : k ≠ 2) (h3 : k ≠ 3) (h4 : k ≠ 4) (h5 : k ≠ 5) (h6 : k ≠ 6) (h7 : k ≠ 7) (h8 : k ≠ 8) (h9 : k ≠ 9) (h16 : k ≠ 16) (hr : Fm.parse k fl st l = r) (w : World) : Calls Try.prog 38 #[.agg (frC k fl st l)] w fun e w' => e = .returned (rdV r (.slice none 0 0)) ∧ Below w.heap.size w w' := by
  obtain rfl : r = .ok Fm.none' := by rw [← hr]; simp [Fm.parse, Fm.mis, Fm.sized, Fm.say, h0, h1, h2, h3, h4, h5, h6, h7, h8, h9, h16]
  have k0 : (k == 0) = false := by simp [h0]
  have k1 : (k == 1) = false := by simp [h1]
  have k2 : (k == 2) = false := by simp [h2]
  have k3 : (k == 3) = false := by simp [h3]
  have k4 : (k == 4) = false := by simp [h4]
  have k5 : (k == 5) = false := by simp [h5]
  have k6 : (k == 6) = false := by simp [h6]
  have k7 : (k == 7) = false := by simp [h7]
  have k8 : (k == 8) = false := by simp [h8]
  have k9 : (k == 9) = false := by simp [h9]
  have k16 : (k == 16) = false := by simp [h16]
  clear hr
  go_enter Try.func38, Try.ntmps38
  go_wp2_with (refine wpl_open _ rfl rfl rfl rfl rfl rfl k fl st l (by kernel_rfl) ?_)
  intro b1 b2 b3 w0 hF
  obtain ⟨c0, c1, c2, c3⟩ := frC_cells hF.a1
  have HF := hid' hF
  clear hF
  go_wp2_with (refine wpl_st2 _ _ _ _ rfl rfl rfl rfl w.heap.size b2 b3 Fm.none' none 0 0 false false 0 (by kernel_rfl) (by kernel_rfl) (by kernel_rfl) (by kernel_rfl) HF.out.a2 HF.out.a3 HF.out.g2 HF.out.g3 ?_)
  intro w3 hp3 hw3 hb3
  go_wp2
  exact bodyPost_ret (v := rdV (.ok Fm.none') (.slice none 0 0)) (by simp [results, Try.results38, asAddr, ldp hp3, ldw hw3]; rfl) rfl ⟨rfl, HF.out.bel.trans hb3⟩

end Go.Proofs.Ythbidfcfkjamdaa

namespace Go.Proofs.Ythbidfcfkjamdaa
open Go.RowKit

set_option maxHeartbeats 4000000 in
set_option maxRecDepth 20000 in
theorem rparse_window (fl st : Int) (l : List UInt8) (r : Fm.Rd) (hsub : ∀ w, Calls Try.prog 55 #[.agg (frC 8 fl st l)] w fun e w' => e = .returned (rdV r (.slice none 0 0)) ∧ Below w.heap.size w w') (w : World) : Calls Try.prog 38 #[.agg (frC 8 fl st l)] w fun e w' => e = .returned (rdV r (.slice none 0 0)) ∧ Below w.heap.size w w' := by
  have HSUB := hid' hsub
  clear hsub
  cases r with
  | bad cn cd =>
    go_enter Try.func38, Try.ntmps38
    go_wp2_with (refine wpl_open _ rfl rfl rfl rfl rfl rfl 8 fl st l (by kernel_rfl) ?_)
    intro b1 b2 b3 w0 hF
    obtain ⟨c0, c1, c2, c3⟩ := frC_cells hF.a1
    have HF := hid' hF
    clear hF
    go_wp2_with (refine wpl_ldfr _ rfl rfl b1 (by kernel_rfl) _ _ _ _ HF.out.a1 ?_)
    go_wp2_with fail
    refine (HSUB.out _).mono ?_
    rintro e w1 ⟨rfl, hb1⟩
    have HF1 := hid' (HF.out.keep hb1)
    clear hb1
    simp only [rdV]
    go_wp2_with (refine wpl_st2 _ _ _ _ rfl rfl rfl rfl w.heap.size b2 b3 Fm.none' none 0 0 true cn cd (by kernel_rfl) (by kernel_rfl) (by kernel_rfl) (by kernel_rfl) HF1.out.a2 HF1.out.a3 HF1.out.g2 HF1.out.g3 ?_)
    intro w3 hp3 hw3 hb3
    go_wp2
    exact bodyPost_ret (v := rdV (.bad cn cd) (.slice none 0 0)) (by simp [results, Try.results38, asAddr, ldp hp3, ldw hw3]; rfl) rfl ⟨rfl, HF1.out.bel.trans hb3⟩
  | ok p =>
    go_enter Try.func38, Try.ntmps38
    go_wp2_with (refine wpl_open _ rfl rfl rfl rfl rfl rfl 8 fl st l (by kernel_rfl) ?_)
    intro b1 b2 b3 w0 hF
    obtain ⟨c0, c1, c2, c3⟩ := frC_cells hF.a1
    have HF := hid' hF
    clear hF
    go_wp2_with (refine wpl_ldfr _ rfl rfl b1 (by kernel_rfl) _ _ _ _ HF.out.a1 ?_)
    go_wp2_with fail
    refine (HSUB.out _).mono ?_
    rintro e w1 ⟨rfl, hb1⟩
    have HF1 := hid' (HF.out.keep hb1)
    clear hb1
    simp only [rdV]
    go_wp2_with (refine wpl_st2 _ _ _ _ rfl rfl rfl rfl w.heap.size b2 b3 p none 0 0 false false 0 (by kernel_rfl) (by kernel_rfl) (by kernel_rfl) (by kernel_rfl) HF1.out.a2 HF1.out.a3 HF1.out.g2 HF1.out.g3 ?_)
    intro w3 hp3 hw3 hb3
    go_wp2
    exact bodyPost_ret (v := rdV (.ok p) (.slice none 0 0)) (by simp [results, Try.results38, asAddr, ldp hp3, ldw hw3]; rfl) rfl ⟨rfl, HF1.out.bel.trans hb3⟩

set_option maxHeartbeats 4000000 in
set_option maxRecDepth 20000 in
theorem rparse_ping (fl st : Int) (l : List UInt8) (r : Fm.Rd) (hsub : ∀ w, Calls Try.prog 56 #[.agg (frC 6 fl st l)] w fun e w' => e = .returned (rdV r (.slice none 0 0)) ∧ Below w.heap.size w w') (w : World) : Calls Try.prog 38 #[.agg (frC 6 fl st l)] w fun e w' => e = .returned (rdV r (.slice none 0 0)) ∧ Below w.heap.size w w' := by
  have HSUB := hid' hsub
  clear hsub
  cases r with
  | bad cn cd =>
    go_enter Try.func38, Try.ntmps38
    go_wp2_with (refine wpl_open _ rfl rfl rfl rfl rfl rfl 6 fl st l (by kernel_rfl) ?_)
    intro b1 b2 b3 w0 hF
    obtain ⟨c0, c1, c2, c3⟩ := frC_cells hF.a1
    have HF := hid' hF
    clear hF
    go_wp2_with (refine wpl_ldfr _ rfl rfl b1 (by kernel_rfl) _ _ _ _ HF.out.a1 ?_)
    go_wp2_with fail
    refine (HSUB.out _).mono ?_
    rintro e w1 ⟨rfl, hb1⟩
    have HF1 := hid' (HF.out.keep hb1)
    clear hb1
    simp only [rdV]
    go_wp2_with (refine wpl_st2 _ _ _ _ rfl rfl rfl rfl w.heap.size b2 b3 Fm.none' none 0 0 true cn cd (by kernel_rfl) (by kernel_rfl) (by kernel_rfl) (by kernel_rfl) HF1.out.a2 HF1.out.a3 HF1.out.g2 HF1.out.g3 ?_)
    intro w3 hp3 hw3 hb3
    go_wp2
    exact bodyPost_ret (v := rdV (.bad cn cd) (.slice none 0 0)) (by simp [results, Try.results38, asAddr, ldp hp3, ldw hw3]; rfl) rfl ⟨rfl, HF1.out.bel.trans hb3⟩
  | ok p =>
    go_enter Try.func38, Try.ntmps38
    go_wp2_with (refine wpl_open _ rfl rfl rfl rfl rfl rfl 6 fl st l (by kernel_rfl) ?_)
    intro b1 b2 b3 w0 hF
    obtain ⟨c0, c1, c2, c3⟩ := frC_cells hF.a1
    have HF := hid' hF
    clear hF
    go_wp2_with (refine wpl_ldfr _ rfl rfl b1 (by kernel_rfl) _ _ _ _ HF.out.a1 ?_)
    go_wp2_with fail
    refine (HSUB.out _).mono ?_
    rintro e w1 ⟨rfl, hb1⟩
    have HF1 := hid' (HF.out.keep hb1)
    clear hb1
    simp only [rdV]
    go_wp2_with (refine wpl_st2 _ _ _ _ rfl rfl rfl rfl w.heap.size b2 b3 p none 0 0 false false 0 (by kernel_rfl) (by kernel_rfl) (by kernel_rfl) (by kernel_rfl) HF1.out.a2 HF1.out.a3 HF1.out.g2 HF1.out.g3 ?_)
    intro w3 hp3 hw3 hb3
    go_wp2
    exact bodyPost_ret (v := rdV (.ok p) (.slice none 0 0)) (by simp [results, Try.results38, asAddr, ldp hp3, ldw hw3]; rfl) rfl ⟨rfl, HF1.out.bel.trans hb3⟩

set_option maxHeartbeats 4000000 in
set_option maxRecDepth 20000 in
theorem rparse_away (fl st : Int) (l : List UInt8) (r : Fm.Rd) (hsub : ∀ w, Calls Try.prog 56 #[.agg (frC 7 fl st l)] w fun e w' => e = .returned (rdV r (.slice none 0 0)) ∧ Below w.heap.size w w') (w : World) : Calls Try.prog 38 #[.agg (frC 7 fl st l)] w fun e w' => e = .returned (rdV r (.slice none 0 0)) ∧ Below w.heap.size w w' := by
  have HSUB := hid' hsub
  clear hsub
  cases r with
  | bad cn cd =>
    go_enter Try.func38, Try.ntmps38
    go_wp2_with (refine wpl_open _ rfl rfl rfl rfl rfl rfl 7 fl st l (by kernel_rfl) ?_)
    intro b1 b2 b3 w0 hF
    obtain ⟨c0, c1, c2, c3⟩ := frC_cells hF.a1
    have HF := hid' hF
    clear hF
    go_wp2_with (refine wpl_ldfr _ rfl rfl b1 (by kernel_rfl) _ _ _ _ HF.out.a1 ?_)
    go_wp2_with fail
    refine (HSUB.out _).mono ?_
    rintro e w1 ⟨rfl, hb1⟩
    have HF1 := hid' (HF.out.keep hb1)
    clear hb1
    simp only [rdV]
    go_wp2_with (refine wpl_st2 _ _ _ _ rfl rfl rfl rfl w.heap.size b2 b3 Fm.none' none 0 0 true cn cd (by kernel_rfl) (by kernel_rfl) (by kernel_rfl) (by kernel_rfl) HF1.out.a2 HF1.out.a3 HF1.out.g2 HF1.out.g3 ?_)
    intro w3 hp3 hw3 hb3
    go_wp2
    exact bodyPost_ret (v := rdV (.bad cn cd) (.slice none 0 0)) (by simp [results, Try.results38, asAddr, ldp hp3, ldw hw3]; rfl) rfl ⟨rfl, HF1.out.bel.trans hb3⟩
  | ok p =>
    go_enter Try.func38, Try.ntmps38
    go_wp2_with (refine wpl_open _ rfl rfl rfl rfl rfl rfl 7 fl st l (by kernel_rfl) ?_)
    intro b1 b2 b3 w0 hF
    obtain ⟨c0, c1, c2, c3⟩ := frC_cells hF.a1
    have HF := hid' hF
    clear hF
    go_wp2_with (refine wpl_ldfr _ rfl rfl b1 (by kernel_rfl) _ _ _ _ HF.out.a1 ?_)
    go_wp2_with fail
    refine (HSUB.out _).mono ?_
    rintro e w1 ⟨rfl, hb1⟩
    have HF1 := hid' (HF.out.keep hb1)
    clear hb1
    simp only [rdV]
    go_wp2_with (refine wpl_st2 _ _ _ _ rfl rfl rfl rfl w.heap.size b2 b3 p none 0 0 false false 0 (by kernel_rfl) (by kernel_rfl) (by kernel_rfl) (by kernel_rfl) HF1.out.a2 HF1.out.a3 HF1.out.g2 HF1.out.g3 ?_)
    intro w3 hp3 hw3 hb3
    go_wp2
    exact bodyPost_ret (v := rdV (.ok p) (.slice none 0 0)) (by simp [results, Try.results38, asAddr, ldp hp3, ldw hw3]; rfl) rfl ⟨rfl, HF1.out.bel.trans hb3⟩

set_option maxHeartbeats 4000000 in
set_option maxRecDepth 20000 in
theorem rparse_update (fl st : Int) (l : List UInt8) (r : Fm.Rd) (hsub : ∀ w, Calls Try.prog 56 #[.agg (frC 16 fl st l)] w fun e w' => e = .returned (rdV r (.slice none 0 0)) ∧ Below w.heap.size w w') (w : World) : Calls Try.prog 38 #[.agg (frC 16 fl st l)] w fun e w' => e = .returned (rdV r (.slice none 0 0)) ∧ Below w.heap.size w w' := by
  have HSUB := hid' hsub
  clear hsub
  cases r with
  | bad cn cd =>
    go_enter Try.func38, Try.ntmps38
    go_wp2_with (refine wpl_open _ rfl rfl rfl rfl rfl rfl 16 fl st l (by kernel_rfl) ?_)
    intro b1 b2 b3 w0 hF
    obtain ⟨c0, c1, c2, c3⟩ := frC_cells hF.a1
    have HF := hid' hF
    clear hF
    go_wp2_with (refine wpl_ldfr _ rfl rfl b1 (by kernel_rfl) _ _ _ _ HF.out.a1 ?_)
    go_wp2_with fail
    refine (HSUB.out _).mono ?_
    rintro e w1 ⟨rfl, hb1⟩
    have HF1 := hid' (HF.out.keep hb1)
    clear hb1
    simp only [rdV]
    go_wp2_with (refine wpl_st2 _ _ _ _ rfl rfl rfl rfl w.heap.size b2 b3 Fm.none' none 0 0 true cn cd (by kernel_rfl) (by kernel_rfl) (by kernel_rfl) (by kernel_rfl) HF1.out.a2 HF1.out.a3 HF1.out.g2 HF1.out.g3 ?_)
    intro w3 hp3 hw3 hb3
    go_wp2
    exact bodyPost_ret (v := rdV (.bad cn cd) (.slice none 0 0)) (by simp [results, Try.results38, asAddr, ldp hp3, ldw hw3]; rfl) rfl ⟨rfl, HF1.out.bel.trans hb3⟩
  | ok p =>
    go_enter Try.func38, Try.ntmps38
    go_wp2_with (refine wpl_open _ rfl rfl rfl rfl rfl rfl 16 fl st l (by kernel_rfl) ?_)
    intro b1 b2 b3 w0 hF
    obtain ⟨c0, c1, c2, c3⟩ := frC_cells hF.a1
    have HF := hid' hF
    clear hF
    go_wp2_with (refine wpl_ldfr _ rfl rfl b1 (by kernel_rfl) _ _ _ _ HF.out.a1 ?_)
    go_wp2_with fail
    refine (HSUB.out _).mono ?_
    rintro e w1 ⟨rfl, hb1⟩
    have HF1 := hid' (HF.out.keep hb1)
    clear hb1
    simp only [rdV]
    go_wp2_with (refine wpl_st2 _ _ _ _ rfl rfl rfl rfl w.heap.size b2 b3 p none 0 0 false false 0 (by kernel_rfl) (by kernel_rfl) (by kernel_rfl) (by kernel_rfl) HF1.out.a2 HF1.out.a3 HF1.out.g2 HF1.out.g3 ?_)
    intro w3 hp3 hw3 hb3
    go_wp2
    exact bodyPost_ret (v := rdV (.ok p) (.slice none 0 0)) (by simp [results, Try.results38, asAddr, ldp hp3, ldw hw3]; rfl) rfl ⟨rfl, HF1.out.bel.trans hb3⟩

set_option maxHeartbeats 4000000 in
set_option maxRecDepth 20000 in
theorem rparse_data (fl st : Int) (l : List UInt8) (r : Fm.Rd) (hsub : ∀ w, Calls Try.prog 53 #[.agg (frC 0 fl st l)] w fun e w' => e = .returned (rdV r (.slice none 0 0)) ∧ Below w.heap.size w w') (w : World) : Calls Try.prog 38 #[.agg (frC 0 fl st l)] w fun e w' => e = .returned (rdV r (.slice none 0 0)) ∧ Below w.heap.size w w' := by
  have HSUB := hid' hsub
  clear hsub
  cases r with
  | bad cn cd =>
    go_enter Try.func38, Try.ntmps38
    go_wp2_with (refine wpl_open _ rfl rfl rfl rfl rfl rfl 0 fl st l (by kernel_rfl) ?_)
    intro b1 b2 b3 w0 hF
    obtain ⟨c0, c1, c2, c3⟩ := frC_cells hF.a1
    have HF := hid' hF
    clear hF
    go_wp2_with (refine wpl_ldfr _ rfl rfl b1 (by kernel_rfl) _ _ _ _ HF.out.a1 ?_)
    go_wp2_with fail
    refine (HSUB.out _).mono ?_
    rintro e w1 ⟨rfl, hb1⟩
    have HF1 := hid' (HF.out.keep hb1)
    clear hb1
    simp only [rdV]
    go_wp2_with (refine wpl_st2 _ _ _ _ rfl rfl rfl rfl w.heap.size b2 b3 Fm.none' none 0 0 true cn cd (by kernel_rfl) (by kernel_rfl) (by kernel_rfl) (by kernel_rfl) HF1.out.a2 HF1.out.a3 HF1.out.g2 HF1.out.g3 ?_)
    intro w3 hp3 hw3 hb3
    go_wp2
    exact bodyPost_ret (v := rdV (.bad cn cd) (.slice none 0 0)) (by simp [results, Try.results38, asAddr, ldp hp3, ldw hw3]; rfl) rfl ⟨rfl, HF1.out.bel.trans hb3⟩
  | ok p =>
    go_enter Try.func38, Try.ntmps38
    go_wp2_with (refine wpl_open _ rfl rfl rfl rfl rfl rfl 0 fl st l (by kernel_rfl) ?_)
    intro b1 b2 b3 w0 hF
    obtain ⟨c0, c1, c2, c3⟩ := frC_cells hF.a1
    have HF := hid' hF
    clear hF
    go_wp2_with (refine wpl_ldfr _ rfl rfl b1 (by kernel_rfl) _ _ _ _ HF.out.a1 ?_)
    go_wp2_with fail
    refine (HSUB.out _).mono ?_
    rintro e w1 ⟨rfl, hb1⟩
    have HF1 := hid' (HF.out.keep hb1)
    clear hb1
    simp only [rdV]
    go_wp2_with (refine wpl_st2 _ _ _ _ rfl rfl rfl rfl w.heap.size b2 b3 p none 0 0 false false 0 (by kernel_rfl) (by kernel_rfl) (by kernel_rfl) (by kernel_rfl) HF1.out.a2 HF1.out.a3 HF1.out.g2 HF1.out.g3 ?_)
    intro w3 hp3 hw3 hb3
    go_wp2
    exact bodyPost_ret (v := rdV (.ok p) (.slice none 0 0)) (by simp [results, Try.results38, asAddr, ldp hp3, ldw hw3]; rfl) rfl ⟨rfl, HF1.out.bel.trans hb3⟩

set_option maxHeartbeats 4000000 in
set_option maxRecDepth 20000 in
theorem rparse_headers (fl st : Int) (l : List UInt8) (r : Fm.Rd) (hsub : ∀ w, Calls Try.prog 53 #[.agg (frC 1 fl st l)] w fun e w' => e = .returned (rdV r (.slice none 0 0)) ∧ Below w.heap.size w w') (w : World) : Calls Try.prog 38 #[.agg (frC 1 fl st l)] w fun e w' => e = .returned (rdV r (.slice none 0 0)) ∧ Below w.heap.size w w' := by
  have HSUB := hid' hsub
  clear hsub
  cases r with
  | bad cn cd =>
    go_enter Try.func38, Try.ntmps38
    go_wp2_with (refine wpl_open _ rfl rfl rfl rfl rfl rfl 1 fl st l (by kernel_rfl) ?_)
    intro b1 b2 b3 w0 hF
    obtain ⟨c0, c1, c2, c3⟩ := frC_cells hF.a1
    have HF := hid' hF
    clear hF
    go_wp2_with (refine wpl_ldfr _ rfl rfl b1 (by kernel_rfl) _ _ _ _ HF.out.a1 ?_)
    go_wp2_with fail
    refine (HSUB.out _).mono ?_
    rintro e w1 ⟨rfl, hb1⟩
    have HF1 := hid' (HF.out.keep hb1)
    clear hb1
    simp only [rdV]
    go_wp2_with (refine wpl_st2 _ _ _ _ rfl rfl rfl rfl w.heap.size b2 b3 Fm.none' none 0 0 true cn cd (by kernel_rfl) (by kernel_rfl) (by kernel_rfl) (by kernel_rfl) HF1.out.a2 HF1.out.a3 HF1.out.g2 HF1.out.g3 ?_)
    intro w3 hp3 hw3 hb3
    go_wp2
    exact bodyPost_ret (v := rdV (.bad cn cd) (.slice none 0 0)) (by simp [results, Try.results38, asAddr, ldp hp3, ldw hw3]; rfl) rfl ⟨rfl, HF1.out.bel.trans hb3⟩
  | ok p =>
    go_enter Try.func38, Try.ntmps38
    go_wp2_with (refine wpl_open _ rfl rfl rfl rfl rfl rfl 1 fl st l (by kernel_rfl) ?_)
    intro b1 b2 b3 w0 hF
    obtain ⟨c0, c1, c2, c3⟩ := frC_cells hF.a1
    have HF := hid' hF
    clear hF
    go_wp2_with (refine wpl_ldfr _ rfl rfl b1 (by kernel_rfl) _ _ _ _ HF.out.a1 ?_)
    go_wp2_with fail
    refine (HSUB.out _).mono ?_
    rintro e w1 ⟨rfl, hb1⟩
    have HF1 := hid' (HF.out.keep hb1)
    clear hb1
    simp only [rdV]
    go_wp2_with (refine wpl_st2 _ _ _ _ rfl rfl rfl rfl w.heap.size b2 b3 p none 0 0 false false 0 (by kernel_rfl) (by kernel_rfl) (by kernel_rfl) (by kernel_rfl) HF1.out.a2 HF1.out.a3 HF1.out.g2 HF1.out.g3 ?_)
    intro w3 hp3 hw3 hb3
    go_wp2
    exact bodyPost_ret (v := rdV (.ok p) (.slice none 0 0)) (by simp [results, Try.results38, asAddr, ldp hp3, ldw hw3]; rfl) rfl ⟨rfl, HF1.out.bel.trans hb3⟩

end Go.Proofs.Ythbidfcfkjamdaa
