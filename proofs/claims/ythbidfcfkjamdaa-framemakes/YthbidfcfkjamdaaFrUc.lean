/-
  frame.unpad, ofData, ofHeaders: by their contracts.
-/
import Derived.Test.YthbidfcfkjamdaaFrT
import Derived.Deep.RegionHeld3
import Derived.Deep.Cut
namespace Go.Proofs.Ythbidfcfkjamdaa
open Go.RowKit


set_option maxHeartbeats 2000000 in
set_option maxRecDepth 20000 in
theorem cunpad_any (k fl st : Int) (l : List UInt8) (n q : Nat) (d : List UInt8) (hn : Fm.head k fl = n) (hq : Fm.pads fl l = q) (hl : n ≤ l.length) (hd : (l.drop n).take (l.length - n - q) = d) (hsz : l.length ≤ 140737488355328) (w : World) :
    Calls Try.prog 79 #[.agg (frC k fl st l)] w fun e w' => e = .returned (if l.length - n < q then .tuple #[.string ⟨#[]⟩, .int .i64 0, .bool false] else .tuple #[.string ⟨d.toArray⟩, .int .i64 (q : Int), .bool true]) ∧ Below w.heap.size w w' := by
  obtain ⟨R, hR⟩ : ∃ R, (if l.length - n < q then Value.tuple #[.string ⟨#[]⟩, .int .i64 0, .bool false] else .tuple #[.string ⟨d.toArray⟩, .int .i64 (q : Int), .bool true]) = R := ⟨_, rfl⟩
  rw [hR]
  have HR := hid' hR
  clear hR
  have HN := hid' hn
  have HQ := hid' hq
  have HD := hid' hd
  obtain ⟨x, hx⟩ : ∃ x, l.drop n = x := ⟨_, rfl⟩
  have hxl : x.length = l.length - n := by rw [← hx, List.length_drop]
  have hcut : (⟨l.toArray⟩ : ByteArray).extract n l.length = ⟨x.toArray⟩ := by rw [cut_rest, hx]
  have hnl : (n : Int) ≤ (l.length : Int) := by omega
  have HXL := hid' hxl
  have HX := hid' hx
  obtain ⟨r8, h8⟩ : ∃ r, Fm.has fl 8 = r := ⟨_, rfl⟩
  have H8 := hid' h8
  have HPQ : Hid (q = if r8 then (l.getD 0 0).toNat else 0) := hid' (by rw [← hq, ← h8]; rfl)
  have HH : Hid (r8 = true → 1 ≤ n) := hid' (by intro e; rw [← hn]; unfold Fm.head; rw [h8, e]; simp)
  clear hn hq hd hx hxl h8
  go_enter Try.func79, Try.ntmps79
  go_wp2_with (refine wpl_box 31 _ rfl rfl (frC k fl st l) (by kernel_rfl) ?_)
  intro b0 w0 hg0 ha0 hb0
  obtain ⟨c0, c1, c2, c3⟩ := frC_cells ha0
  have HB := hid' hb0
  have sOf : ∀ W W1 : World, (Below w0.heap.size w0 W ∧ W.cell? ⟨b0, 0, none⟩ = some (.int .i64 k) ∧ W.cell? ⟨b0, 1, none⟩ = some (.int .i64 fl) ∧ W.cell? ⟨b0, 2, none⟩ = some (.int .i64 st) ∧ W.cell? ⟨b0, 3, none⟩ = some (.string ⟨l.toArray⟩)) → Below W.heap.size W W1 → (Below w0.heap.size w0 W1 ∧ W1.cell? ⟨b0, 0, none⟩ = some (.int .i64 k) ∧ W1.cell? ⟨b0, 1, none⟩ = some (.int .i64 fl) ∧ W1.cell? ⟨b0, 2, none⟩ = some (.int .i64 st) ∧ W1.cell? ⟨b0, 3, none⟩ = some (.string ⟨l.toArray⟩)) := fun W W1 h hb => ⟨below_two h.1 hb, frC_cells (ha0.keep (below_two h.1 hb))⟩
  have hS : Below w0.heap.size w0 w0 ∧ w0.cell? ⟨b0, 0, none⟩ = some (.int .i64 k) ∧ w0.cell? ⟨b0, 1, none⟩ = some (.int .i64 fl) ∧ w0.cell? ⟨b0, 2, none⟩ = some (.int .i64 st) ∧ w0.cell? ⟨b0, 3, none⟩ = some (.string ⟨l.toArray⟩) := ⟨Below.refl _ _, c0, c1, c2, c3⟩
  have HA := hid' ha0
  clear ha0 hb0
  go_wp2_with fail
  go_region_held3 (fun W => Below w0.heap.size w0 W ∧ W.cell? ⟨b0, 0, none⟩ = some (.int .i64 k) ∧ W.cell? ⟨b0, 1, none⟩ = some (.int .i64 fl) ∧ W.cell? ⟨b0, 2, none⟩ = some (.int .i64 st) ∧ W.cell? ⟨b0, 3, none⟩ = some (.string ⟨l.toArray⟩))
    (first | assumption | exact sOf _ _ (by assumption) (by assumption) | exact sOf _ _ (by assumption) ((Below.refl _ _).drew))
    (first | (go_at_call 78; refine (chead_any k fl st l n HN.out _).mono ?_; rintro e w1 ⟨rfl, hb1⟩))
  have ha1 := (HA.out.drew).keep hb1
  have HB1 := hid' (below_two (HB.out.drew) hb1)
  obtain ⟨c0', c1', c2', c3'⟩ := frC_cells ha1
  have HA1 := hid' ha1
  clear c0 c1 c2 c3 sOf hS hb1 ha1
  go_wp2_with fail
  refine (chas_any k fl st l 8 r8 (by decide) H8.out _).mono ?_
  rintro e w2 ⟨rfl, hb2⟩
  obtain ⟨d0, d1, d2, d3⟩ := frC_cells (HA1.out.keep hb2)
  have HB2 := hid' (below_two HB1.out hb2)
  clear hb2
  cases r8
  · have hq0 : q = 0 := by rw [HPQ.out]; rfl
    go_wp2
    go_ret3
    refine ⟨?_, HB2.out⟩
    rw [← HR.out, hq0, if_neg (by omega), ← HD.out, hq0, HX.out, List.take_of_length_le (by rw [HXL.out]; omega)]
    rfl
  · have hn1 := HH.out rfl
    have hl0 : 0 < l.length := by omega
    have hl0i : (0 : Int) < (l.length : Int) := by omega
    have hsz0 : 0 < (⟨l.toArray⟩ : ByteArray).size := hl0
    obtain ⟨c, hc⟩ : ∃ c, (⟨l.toArray⟩ : ByteArray)[0] = c := ⟨_, rfl⟩
    have c256 := UInt8.toNat_lt c
    have hcq : c.toNat = q := by
      rw [HPQ.out, ← hc, if_pos rfl, List.getD_eq_getElem?_getD, List.getElem?_eq_getElem hl0]; rfl
    have HCQ := hid' hcq
    by_cases hlt : l.length - n < q
    · have t1 : decide ((x.length : Int) < (c.toNat : Int)) = true := decide_eq_true (by rw [HXL.out]; omega)
      have t2 : decide (x.length < c.toNat) = true := decide_eq_true (by rw [HXL.out]; omega)
      have HLT := hid' hlt
      clear hcq hlt
      go_wp2
      go_ret3
      refine ⟨?_, HB2.out⟩
      rw [← HR.out, if_pos HLT.out]
      rfl
    · have t1 : decide ((x.length : Int) < (c.toNat : Int)) = false := decide_eq_false (by rw [HXL.out]; omega)
      have t2 : decide (x.length < c.toNat) = false := decide_eq_false (by rw [HXL.out]; omega)
      obtain ⟨m, hm⟩ : ∃ m : Nat, (x.length : Int) - (c.toNat : Int) = (m : Int) := ⟨x.length - c.toNat, by rw [HXL.out]; omega⟩
      have hmx : (m : Int) ≤ (x.length : Int) := by omega
      have hcut2 : (⟨x.toArray⟩ : ByteArray).extract 0 m = ⟨d.toArray⟩ := by
        rw [cut_ends, ← HD.out, HX.out, ← hcq]
        congr 2
        have := HXL.out
        congr 1
        omega
      have HLT := hid' hlt
      have hx47 : x.length ≤ 140737488355328 := by rw [HXL.out]; omega
      clear hcq hlt
      go_wp2
      go_ret3
      refine ⟨?_, HB2.out⟩
      rw [← HR.out, if_neg HLT.out]
      have e := HCQ.out
      subst e
      rfl

theorem has_head (k fl : Int) (h : Fm.has fl 8 = true) : 1 ≤ Fm.head k fl := by unfold Fm.head; rw [h]; simp
theorem wpl_ldf {ops : Array Oper} {rest : List Oper} {o : Oper} {a : Act} {w : World} {Q : Exit → Act → World → Prop} (x : Operand) (ho : o.op = .load 27 x) (hgd : o.guard = none) (b : Nat) (hx : a.eval x = .pointer (some ⟨b, 0, none⟩)) (p : Fm.Pt) (v : Value) (hc : Ar w b 27 (ptC p v))
    (h : wpList Try.prog ops Q rest (a.put o.dst (.agg (ptC p v))) w) : wpList Try.prog ops Q (o :: rest) a w :=
  wpl_load 27 x ho hgd b hx 27 _ hc _ Try.underlying27 rfl sizeParts h

set_option maxHeartbeats 4000000 in
set_option maxRecDepth 20000 in
theorem cofData_any (fl st : Int) (l : List UInt8) (r : Fm.Rd) (hl : Fm.head 0 fl ≤ l.length) (hsz : l.length ≤ 140737488355328) (hr : Fm.say 0 fl st l = r) (w : World) : Calls Try.prog 67 #[.agg (frC 0 fl st l)] w fun e w' => e = .returned (rdV r (.slice none 0 0)) ∧ Below w.heap.size w w' := by
  obtain ⟨n, hn⟩ : ∃ n, Fm.head 0 fl = n := ⟨_, rfl⟩
  obtain ⟨q, hq⟩ : ∃ q, Fm.pads fl l = q := ⟨_, rfl⟩
  obtain ⟨d, hd⟩ : ∃ d, (l.drop n).take (l.length - n - q) = d := ⟨_, rfl⟩
  obtain ⟨r8, h8⟩ : ∃ r, Fm.has fl 8 = r := ⟨_, rfl⟩
  unfold Fm.say at hr
  simp only [true_or, if_true] at hr
  rw [hn, hq, hd, h8] at hr
  rw [hn] at hl
  have HN := hid' hn
  have HQ := hid' hq
  have HD := hid' hd
  have H8 := hid' h8
  have hq255 : q ≤ 255 := by
    rw [← hq]; unfold Fm.pads; split
    · have := UInt8.toNat_lt (l.getD 0 0); omega
    · omega
  clear hn hq hd h8
  by_cases hlt : l.length - n < q
  · rw [if_pos hlt] at hr
    subst hr
    have HU := hid' (fun (w : World) => cunpad_any 0 fl st l n q d HN.out HQ.out hl HD.out hsz w)
    rw [if_pos hlt] at HU
    clear hlt
    go_enter Try.func67, Try.ntmps67
    go_wp2_with (refine wpl_open _ rfl rfl rfl rfl rfl rfl 0 fl st l (by kernel_rfl) ?_)
    intro b1 b2 b3 w0 hF
    obtain ⟨c0, c1, c2, c3⟩ := frC_cells hF.a1
    have HF := hid' hF
    clear hF
    go_wp2_with fail
    refine (HU.out _).mono ?_
    rintro e w1 ⟨rfl, hb1⟩
    have HF1 := hid' (HF.out.keep hb1)
    clear hb1
    go_wp2_with fail
    refine (cofConn_any 1 _).mono ?_
    rintro e w2 ⟨rfl, hb2⟩
    have HF2 := hid' (HF1.out.keep hb2)
    clear hb2
    go_wp2_with (refine wpl_st2 _ _ _ _ rfl rfl rfl rfl w.heap.size b2 b3 Fm.none' none 0 0 true true 1 (by kernel_rfl) (by kernel_rfl) (by kernel_rfl) (by kernel_rfl) HF2.out.a2 HF2.out.a3 HF2.out.g2 HF2.out.g3 ?_)
    intro w3 hp3 hw3 hb3
    go_wp2
    exact bodyPost_ret (v := rdV (.bad true 1) (.slice none 0 0)) (by simp [results, Try.results67, asAddr, ldp hp3, ldw hw3]; rfl) rfl ⟨rfl, HF2.out.bel.trans hb3⟩
  · rw [if_neg hlt, if_neg (by decide)] at hr
    have HU := hid' (fun (w : World) => cunpad_any 0 fl st l n q d HN.out HQ.out hl HD.out hsz w)
    rw [if_neg hlt] at HU
    clear hlt
    have hq1 : (q : Int) ≤ 255 := by omega
    cases r8
    · subst hr
      go_enter Try.func67, Try.ntmps67
      go_wp2_with (refine wpl_open _ rfl rfl rfl rfl rfl rfl 0 fl st l (by kernel_rfl) ?_)
      intro b1 b2 b3 w0 hF
      obtain ⟨c0, c1, c2, c3⟩ := frC_cells hF.a1
      have HF := hid' hF
      clear hF
      go_wp2_with fail
      refine (HU.out _).mono ?_
      rintro e w1 ⟨rfl, hb1⟩
      have HF1 := hid' (HF.out.keep hb1)
      clear hb1
      go_wp2_with (refine wpl_alloc 27 rfl rfl _ zeroParts ?_)
      intro b4 w4 hg4 ha4 hb4
      refine wpl_stp _ _ rfl rfl b4 ⟨d, 0, 0, 0, 0, false, 0, []⟩ none 0 0 (by kernel_rfl) (by kernel_rfl) _ ha4 rfl ?_
      intro w5 ha5 hu5
      have hb5 := hb4.trans (hu5.below hg4)
      have hF5 := HF1.out.keep hb5
      obtain ⟨d0, d1, d2, d3⟩ := frC_cells hF5.a1
      have HF5 := hid' hF5
      have HA5 := hid' ha5
      clear ha4 hb4 ha5 hu5 hb5 hF5
      go_wp2_with fail
      refine (chas_any 0 fl st l 8 _ (by decide) H8.out _).mono ?_
      rintro e w6 ⟨rfl, hb6⟩
      have HF6 := hid' (HF5.out.keep hb6)
      have HA6 := hid' (HA5.out.keep hb6)
      clear hb6
      go_wp2_with (first | refine wpl_ldf _ rfl rfl b4 (by kernel_rfl) _ _ HA6.out ?_ | refine wpl_st2 _ _ _ _ rfl rfl rfl rfl w.heap.size b2 b3 ⟨d, 0, 0, 0, 0, false, 0, []⟩ none 0 0 false false 0 (by kernel_rfl) (by kernel_rfl) (by kernel_rfl) (by kernel_rfl) HF6.out.a2 HF6.out.a3 HF6.out.g2 HF6.out.g3 ?_)
      intro w7 hp7 hw7 hb7
      go_wp2
      exact bodyPost_ret (v := rdV (.ok ⟨d, 0, 0, 0, 0, false, 0, []⟩) (.slice none 0 0)) (by simp [results, Try.results67, asAddr, ldp hp7, ldw hw7]; rfl) rfl ⟨rfl, HF6.out.bel.trans hb7⟩
    · subst hr
      go_enter Try.func67, Try.ntmps67
      go_wp2_with (refine wpl_open _ rfl rfl rfl rfl rfl rfl 0 fl st l (by kernel_rfl) ?_)
      intro b1 b2 b3 w0 hF
      obtain ⟨c0, c1, c2, c3⟩ := frC_cells hF.a1
      have HF := hid' hF
      clear hF
      go_wp2_with fail
      refine (HU.out _).mono ?_
      rintro e w1 ⟨rfl, hb1⟩
      have HF1 := hid' (HF.out.keep hb1)
      clear hb1
      go_wp2_with (refine wpl_alloc 27 rfl rfl _ zeroParts ?_)
      intro b4 w4 hg4 ha4 hb4
      refine wpl_stp _ _ rfl rfl b4 ⟨d, 0, 0, 0, 0, false, 0, []⟩ none 0 0 (by kernel_rfl) (by kernel_rfl) _ ha4 rfl ?_
      intro w5 ha5 hu5
      have hb5 := hb4.trans (hu5.below hg4)
      have hF5 := HF1.out.keep hb5
      obtain ⟨d0, d1, d2, d3⟩ := frC_cells hF5.a1
      have HG := hid' hg4
      have HF5 := hid' hF5
      have HA5 := hid' ha5
      have hs1 := HF1.out.bel.size
      have HN1 := hid' (show b1 ≠ b4 by have := HF1.out.a1.lt; omega)
      have HN2 := hid' (show b2 ≠ b4 by have := HF1.out.a2.lt; omega)
      have HN3 := hid' (show b3 ≠ b4 by have := HF1.out.a3.lt; omega)
      clear ha4 hb4 ha5 hu5 hb5 hF5
      go_wp2_with fail
      refine (chas_any 0 fl st l 8 _ (by decide) H8.out _).mono ?_
      rintro e w6 ⟨rfl, hb6⟩
      have hA6 := HA5.out.keep hb6
      have x1 := hA6.cell 1 _ rfl
      have f1 := hA6.free 1
      have HF6 := hid' (HF5.out.keep hb6)
      have HA6 := hid' hA6
      clear hb6 hA6
      go_upto_region 7 with fail
      have hA7 : Ar (w6.setCell ⟨b4, 1, none⟩ (.int .i64 (1 + (q : Int)))) b4 27 (ptC ⟨d, (q : Int) + 1, 0, 0, 0, false, 0, []⟩ (.slice none 0 0)) := by
        have := HA6.out.set 1 (.int .i64 (1 + (q : Int)))
        rw [Int.add_comm] at this ⊢
        simpa [ptC] using this
      have hU7 := upd_setCell w6 b4 1 (.int .i64 (1 + (q : Int)))
      have hg : w.heap.size ≤ b4 := Nat.le_trans hs1 HG.out
      have hF7 := HF6.out.upd hU7 hg HN1.out HN2.out HN3.out
      rw [Int.add_comm 1 (q : Int)] at hF7 hA7 ⊢
      have HF7 := hid' hF7
      have HA7 := hid' hA7
      clear x1 f1 hA7 hU7 hF7
      generalize w6.setCell ⟨b4, 1, none⟩ (.int .i64 ((q : Int) + 1)) = w7 at *
      go_wp2_with (first | refine wpl_ldf _ rfl rfl b4 (by kernel_rfl) _ _ HA7.out ?_ | refine wpl_st2 _ _ _ _ rfl rfl rfl rfl w.heap.size b2 b3 ⟨d, (q : Int) + 1, 0, 0, 0, false, 0, []⟩ none 0 0 false false 0 (by kernel_rfl) (by kernel_rfl) (by kernel_rfl) (by kernel_rfl) HF7.out.a2 HF7.out.a3 HF7.out.g2 HF7.out.g3 ?_)
      intro w8 hp8 hw8 hb8
      go_wp2
      exact bodyPost_ret (v := rdV (.ok ⟨d, (q : Int) + 1, 0, 0, 0, false, 0, []⟩) (.slice none 0 0)) (by simp [results, Try.results67, asAddr, ldp hp8, ldw hw8]; rfl) rfl ⟨rfl, HF7.out.bel.trans hb8⟩

end Go.Proofs.Ythbidfcfkjamdaa
