/-
  ostlerref07.connection, stream, flag: by their contracts.
  ostlerref07.depends, by its contract.
  ostlerref07.window, whole: by their contracts.
-/
import Derived.Test.YthbidfcfkjamdaaFrRa
namespace Go.Proofs.Ythbidfcfkjamdaa
open Go.RowKit

theorem rconn_any (c : Int) (w : World) : Calls Try.prog 57 #[.int .i64 c] w fun e w' => e = .returned (.agg (wgC true true c)) ∧ Below w.heap.size w w' := by
  go_enter Try.func57, Try.ntmps57
  go_wp2_with (refine wpl_alloc 74 rfl rfl _ zeroWrong ?_)
  intro b0 w0 hg0 ha0 hb0
  go_wp2_with (refine wpl_stw _ _ rfl rfl b0 true true c (by kernel_rfl) (by kernel_rfl) _ ha0 rfl ?_)
  intro w1 ha1 hu1
  go_wp2
  exact bodyPost_ret (v := .agg (wgC true true c)) (by simp [results, Try.results57, asAddr, ldw ha1]) rfl ⟨rfl, hb0.trans (hu1.below hg0)⟩

theorem rstream_any (c : Int) (w : World) : Calls Try.prog 58 #[.int .i64 c] w fun e w' => e = .returned (.agg (wgC true false c)) ∧ Below w.heap.size w w' := by
  go_enter Try.func58, Try.ntmps58
  go_wp2_with (refine wpl_alloc 74 rfl rfl _ zeroWrong ?_)
  intro b0 w0 hg0 ha0 hb0
  go_wp2_with (refine wpl_stw _ _ rfl rfl b0 true false c (by kernel_rfl) (by kernel_rfl) _ ha0 rfl ?_)
  intro w1 ha1 hu1
  go_wp2
  exact bodyPost_ret (v := .agg (wgC true false c)) (by simp [results, Try.results58, asAddr, ldw ha1]) rfl ⟨rfl, hb0.trans (hu1.below hg0)⟩

set_option maxHeartbeats 4000000 in
set_option maxRecDepth 20000 in
theorem rflag_any (k fl st : Int) (l : List UInt8) (b : Int) (r : Bool) (hb : b = 1 ∨ b = 8 ∨ b = 32) (hr : Fm.has fl b = r) (w : World) : Calls Try.prog 75 #[.agg (frC k fl st l), .int .i64 b] w fun e w' => e = .returned (.bool r) ∧ Below w.heap.size w w' := by
  obtain ⟨q, hq⟩ : ∃ q, fl.tmod (2 * b) = q := ⟨_, rfl⟩
  have hqe : q = if 0 ≤ fl then fl % (2 * b) else -((-fl) % (2 * b)) := by
    rw [← hq]
    by_cases h : 0 ≤ fl
    · rw [if_pos h, Int.tmod_eq_emod_of_nonneg h]
    · rw [if_neg h, ← Int.tmod_eq_emod_of_nonneg (show 0 ≤ -fl by omega), Int.neg_tmod, Int.neg_neg]
  have hfour : q < 2 * b ∧ -(2 * b) < q ∧ fl % (2 * b) = (if q < 0 then q + 2 * b else q) := by
    rcases hb with rfl | rfl | rfl <;> (rw [hqe]; repeat' split) <;> omega
  obtain ⟨hlt, hgt, hem⟩ := hfour
  obtain ⟨b2, hb2⟩ : ∃ b2, 2 * b = b2 := ⟨_, rfl⟩
  have hne : (b2 == 0) = false := beq_false_of_ne (by omega)
  have hw2 : b2 ≤ 64 := by omega
  have hw3 : 2 ≤ b2 := by omega
  rw [hb2] at hq hlt hgt hem
  have hbb : b ≤ 32 := by omega
  have hbp : 1 ≤ b := by omega
  have HR : Hid (r = decide (b ≤ if q < 0 then q + b2 else q)) := hid' (by rw [← hr]; unfold Fm.has; rw [hb2, hem])
  clear hr hem hb hqe
  unfold frC
  by_cases h0 : q < 0
  · have d0 : decide (q < 0) = true := decide_eq_true h0
    have HR2 : Hid (r = decide (b ≤ q + b2)) := hid' (by rw [HR.out, if_pos h0])
    clear HR h0
    go_enter Try.func75, Try.ntmps75
    go_wp2
    go_ret
    exact ⟨ret_bool HR2.out.symm, (Below.refl _ _).alloc (Nat.le_refl _) _⟩
  · have d0 : decide (q < 0) = false := decide_eq_false h0
    have HR2 : Hid (r = decide (b ≤ q)) := hid' (by rw [HR.out, if_neg h0])
    clear HR h0
    go_enter Try.func75, Try.ntmps75
    go_wp2
    go_ret
    exact ⟨ret_bool HR2.out.symm, (Below.refl _ _).alloc (Nat.le_refl _) _⟩

end Go.Proofs.Ythbidfcfkjamdaa

namespace Go.Proofs.Ythbidfcfkjamdaa
open Go.RowKit

set_option maxHeartbeats 4000000 in
set_option maxRecDepth 20000 in
theorem rdepends_any (l : List UInt8) (b : Nat) (v : Value) (w : World) (h : 5 ≤ l.length) (ha : Ar w b 27 (ptC Fm.none' v)) : Calls Try.prog 59 #[.string ⟨l.toArray⟩, .pointer (some ⟨b, 0, none⟩)] w fun e w' => e = .returned (.tuple #[]) ∧ Ar w' b 27 (ptC (Fm.prio l []) v) ∧ Upd b w w' := by
  have hcut := cut_ends l 4
  obtain ⟨y, hy⟩ : ∃ y, l.take 4 = y := ⟨_, rfl⟩
  have hyl : y.length = 4 := by rw [← hy, List.length_take]; omega
  rw [hy] at hcut
  obtain ⟨n, hn⟩ : ∃ n, Fm.num y % 2147483648 = n := ⟨_, rfl⟩
  have HN := hid' hn
  have HYL := hid' hyl
  have hl4 : (4 : Int) ≤ (l.length : Int) := by omega
  have hi4 : (4 : Int) < (l.length : Int) := by omega
  have hi0 : (0 : Int) < (l.length : Int) := by omega
  have hb4 : 4 < (⟨l.toArray⟩ : ByteArray).size := by show 4 < l.length; omega
  have hb0 : 0 < (⟨l.toArray⟩ : ByteArray).size := by show 0 < l.length; omega
  obtain ⟨c, hc⟩ : ∃ c, (⟨l.toArray⟩ : ByteArray)[4] = c := ⟨_, rfl⟩
  obtain ⟨d, hd⟩ : ∃ c, (⟨l.toArray⟩ : ByteArray)[0] = c := ⟨_, rfl⟩
  have c256 := UInt8.toNat_lt c
  have d256 := UInt8.toNat_lt d
  obtain ⟨o, ho⟩ : ∃ o, decide ((128 : Int) ≤ (d.toNat : Int)) = o := ⟨_, rfl⟩
  have ho2 : decide (128 ≤ d.toNat) = o := by rw [← ho]; simp; omega
  have HPR : Hid (Fm.prio l [] = ⟨[], 0, 0, (n : Int), (c.toNat : Int) + 1, o, 0, []⟩) := hid' (by
    match l, h with
    | x0 :: x1 :: x2 :: x3 :: x4 :: r, _ =>
      have e0 : x0 = d := hd
      have e4 : x4 = c := hc
      subst e0 e4
      have h1 := UInt8.toNat_lt x1; have h2 := UInt8.toNat_lt x2; have h3 := UInt8.toNat_lt x3
      have hq : Fm.num ((x0 :: x1 :: x2 :: x3 :: x4 :: r).take 4) = 16777216 * x0.toNat + 65536 * x1.toNat + 256 * x2.toNat + x3.toNat := Fm.num4 x0 x1 x2 x3
      have ht : decide (2147483648 ≤ Fm.num ((x0 :: x1 :: x2 :: x3 :: x4 :: r).take 4)) = o := by
        rw [hq, ← ho2]
        by_cases hx : 128 ≤ x0.toNat
        · rw [decide_eq_true hx, decide_eq_true (by omega)]
        · rw [decide_eq_false hx, decide_eq_false (by omega)]
      have hid : Fm.idn (x0 :: x1 :: x2 :: x3 :: x4 :: r) = n := by unfold Fm.idn; rw [hy]; exact hn
      unfold Fm.prio
      rw [ht, hid]
      rfl)
  have hw := wrap_byte c
  have hw1 := wrap_byte1 c
  obtain ⟨x0, x1, x2, x3, x4, x5, x6, x7⟩ : w.cell? ⟨b, 0, none⟩ = some (.string ⟨#[]⟩) ∧ w.cell? ⟨b, 1, none⟩ = some (.int .i64 0) ∧ w.cell? ⟨b, 2, none⟩ = some (.int .i64 0) ∧ w.cell? ⟨b, 3, none⟩ = some (.int .i64 0) ∧ w.cell? ⟨b, 4, none⟩ = some (.int .i64 0) ∧ w.cell? ⟨b, 5, none⟩ = some (.bool false) ∧ w.cell? ⟨b, 6, none⟩ = some (.int .i64 0) ∧ w.cell? ⟨b, 7, none⟩ = some v := ⟨ha.cell 0 _ rfl, ha.cell 1 _ rfl, ha.cell 2 _ rfl, ha.cell 3 _ rfl, ha.cell 4 _ rfl, ha.cell 5 _ rfl, ha.cell 6 _ rfl, ha.cell 7 _ rfl⟩
  have f3 := ha.free 3
  have f4 := ha.free 4
  have f5 := ha.free 5
  have HA := hid' ha
  clear hy hyl hn ha
  go_enter Try.func59, Try.ntmps59
  go_wp2_with fail
  refine (rid_any y n HYL.out HN.out _).mono ?_
  rintro e w1 ⟨rfl, hw'⟩
  subst w1
  go_wp2
  go_end0
  have hA := ((HA.out.set 3 (.int .i64 (n : Int))).set 5 (.bool o)).set 4 (.int .i64 ((c.toNat : Int) + 1))
  refine ⟨rfl, ?_, ((upd_setCell w b 3 _).put 5 _).put 4 _⟩
  rw [HPR.out]
  simpa [ptC, Fm.none'] using hA

end Go.Proofs.Ythbidfcfkjamdaa

namespace Go.Proofs.Ythbidfcfkjamdaa
open Go.RowKit

set_option maxHeartbeats 4000000 in
set_option maxRecDepth 20000 in
theorem rwindow_any (fl st : Int) (l : List UInt8) (r : Fm.Rd) (hr : Fm.parse 8 fl st l = r) (w : World) : Calls Try.prog 55 #[.agg (frC 8 fl st l)] w fun e w' => e = .returned (rdV r (.slice none 0 0)) ∧ Below w.heap.size w w' := by
  by_cases h4 : l.length = 4
  · obtain ⟨n, hn⟩ : ∃ n, Fm.num l % 2147483648 = n := ⟨_, rfl⟩
    have hid : Fm.idn l = n := by unfold Fm.idn; rw [List.take_of_length_le (by omega)]; exact hn
    have hr2 : (if n = 0 then .bad (decide (st = 0)) 1 else .ok ⟨[], 0, 0, 0, 0, false, (n : Int), []⟩) = r := by
      rw [← hr, ← hid]
      simp [Fm.parse, Fm.mis, Fm.sized, Fm.say, h4]
    have HN := hid' hn
    have H4 := hid' h4
    have h4i : ((l.length : Int) != 4) = false := by simp; omega
    have h4n : (l.length != 4) = false := by simp; omega
    clear hn hid hr
    by_cases h0 : n = 0
    · by_cases hs : st = 0
      · subst hs
        obtain rfl : r = .bad true 1 := by rw [← hr2, if_pos h0]; rfl
        subst h0
        clear hr2
        go_enter Try.func55, Try.ntmps55
        go_wp2_with (refine wpl_open _ rfl rfl rfl rfl rfl rfl 8 fl 0 l (by kernel_rfl) ?_)
        intro b1 b2 b3 w0 hF
        obtain ⟨c0, c1, c2, c3⟩ := frC_cells hF.a1
        have HF := hid' hF
        clear hF
        go_wp2_with fail
        refine (rid_any l _ H4.out HN.out _).mono ?_
        rintro e w1 ⟨rfl, hw⟩
        subst w1
        go_wp2_with fail
        refine (rconn_any 1 _).mono ?_
        rintro e w1 ⟨rfl, hb1⟩
        have HF1 := hid' (HF.out.keep hb1)
        clear hb1
        go_wp2_with (refine wpl_st2 _ _ _ _ rfl rfl rfl rfl w.heap.size b2 b3 Fm.none' none 0 0 true true 1 (by kernel_rfl) (by kernel_rfl) (by kernel_rfl) (by kernel_rfl) HF1.out.a2 HF1.out.a3 HF1.out.g2 HF1.out.g3 ?_)
        intro w3 hp3 hw3 hb3
        go_wp2
        exact bodyPost_ret (v := rdV (.bad true 1) (.slice none 0 0)) (by simp [results, Try.results55, asAddr, ldp hp3, ldw hw3]; rfl) rfl ⟨rfl, HF1.out.bel.trans hb3⟩
      · obtain rfl : r = .bad false 1 := by rw [← hr2, if_pos h0]; simp [hs]
        subst h0
        have hs1 : (st == 0) = false := by simp [hs]
        clear hr2
        go_enter Try.func55, Try.ntmps55
        go_wp2_with (refine wpl_open _ rfl rfl rfl rfl rfl rfl 8 fl st l (by kernel_rfl) ?_)
        intro b1 b2 b3 w0 hF
        obtain ⟨c0, c1, c2, c3⟩ := frC_cells hF.a1
        have HF := hid' hF
        clear hF
        go_wp2_with fail
        refine (rid_any l _ H4.out HN.out _).mono ?_
        rintro e w1 ⟨rfl, hw⟩
        subst w1
        go_wp2_with fail
        refine (rstream_any 1 _).mono ?_
        rintro e w1 ⟨rfl, hb1⟩
        have HF1 := hid' (HF.out.keep hb1)
        clear hb1
        go_wp2_with (refine wpl_st2 _ _ _ _ rfl rfl rfl rfl w.heap.size b2 b3 Fm.none' none 0 0 true false 1 (by kernel_rfl) (by kernel_rfl) (by kernel_rfl) (by kernel_rfl) HF1.out.a2 HF1.out.a3 HF1.out.g2 HF1.out.g3 ?_)
        intro w3 hp3 hw3 hb3
        go_wp2
        exact bodyPost_ret (v := rdV (.bad false 1) (.slice none 0 0)) (by simp [results, Try.results55, asAddr, ldp hp3, ldw hw3]; rfl) rfl ⟨rfl, HF1.out.bel.trans hb3⟩
    · obtain rfl : r = .ok ⟨[], 0, 0, 0, 0, false, (n : Int), []⟩ := by rw [← hr2, if_neg h0]
      have hn0 : ((n : Int) == 0) = false := by simp; omega
      have hn1 : (n == 0) = false := by simp; omega
      clear hr2
      go_enter Try.func55, Try.ntmps55
      go_wp2_with (refine wpl_open _ rfl rfl rfl rfl rfl rfl 8 fl st l (by kernel_rfl) ?_)
      intro b1 b2 b3 w0 hF
      obtain ⟨c0, c1, c2, c3⟩ := frC_cells hF.a1
      have HF := hid' hF
      clear hF
      go_wp2_with fail
      refine (rid_any l _ H4.out HN.out _).mono ?_
      rintro e w1 ⟨rfl, hw⟩
      subst w1
      go_wp2_with (refine wpl_st2 _ _ _ _ rfl rfl rfl rfl w.heap.size b2 b3 ⟨[], 0, 0, 0, 0, false, (n : Int), []⟩ none 0 0 false false 0 (by kernel_rfl) (by kernel_rfl) (by kernel_rfl) (by kernel_rfl) HF.out.a2 HF.out.a3 HF.out.g2 HF.out.g3 ?_)
      intro w3 hp3 hw3 hb3
      go_wp2
      exact bodyPost_ret (v := rdV (.ok ⟨[], 0, 0, 0, 0, false, (n : Int), []⟩) (.slice none 0 0)) (by simp [results, Try.results55, asAddr, ldp hp3, ldw hw3]; rfl) rfl ⟨rfl, HF.out.bel.trans hb3⟩
  · obtain rfl : r = .bad true 6 := by
      rw [← hr]
      simp [Fm.parse, Fm.mis, Fm.sized, h4]
    have h4i : ((l.length : Int) != 4) = true := by simp; omega
    have h4n : (l.length != 4) = true := by simp; omega
    clear hr
    go_enter Try.func55, Try.ntmps55
    go_wp2_with (refine wpl_open _ rfl rfl rfl rfl rfl rfl 8 fl st l (by kernel_rfl) ?_)
    intro b1 b2 b3 w0 hF
    obtain ⟨c0, c1, c2, c3⟩ := frC_cells hF.a1
    have HF := hid' hF
    clear hF
    go_wp2_with fail
    refine (rconn_any 6 _).mono ?_
    rintro e w1 ⟨rfl, hb1⟩
    have HF1 := hid' (HF.out.keep hb1)
    clear hb1
    go_wp2_with (refine wpl_st2 _ _ _ _ rfl rfl rfl rfl w.heap.size b2 b3 Fm.none' none 0 0 true true 6 (by kernel_rfl) (by kernel_rfl) (by kernel_rfl) (by kernel_rfl) HF1.out.a2 HF1.out.a3 HF1.out.g2 HF1.out.g3 ?_)
    intro w3 hp3 hw3 hb3
    go_wp2
    exact bodyPost_ret (v := rdV (.bad true 6) (.slice none 0 0)) (by simp [results, Try.results55, asAddr, ldp hp3, ldw hw3]; rfl) rfl ⟨rfl, HF1.out.bel.trans hb3⟩


end Go.Proofs.Ythbidfcfkjamdaa
