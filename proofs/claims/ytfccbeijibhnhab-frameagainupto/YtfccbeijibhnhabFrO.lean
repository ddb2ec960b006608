/-
  frame.within, unwritable, Write: by their contracts.
-/
import Derived.Test.YtfccbeijibhnhabFrN
namespace Go.Proofs.Ytfccbeijibhnhab
open Go.RowKit

theorem cwithin_any (n m : Int) (r : Bool) (hr : decide (0 ≤ n ∧ n ≤ m) = r) (w : World) : Calls Try.prog 24 #[.int .i64 n, .int .i64 m] w fun e w' => e = .returned (.bool r) ∧ w' = w := by
  by_cases h0 : 0 ≤ n
  · have HR : Hid (r = decide (n ≤ m)) := hid' (by rw [← hr]; simp [h0])
    have d0 : decide (0 ≤ n) = true := decide_eq_true h0
    clear hr
    go_enter Try.func24, Try.ntmps24
    go_wp2
    go_ret
    exact ⟨ret_bool HR.out.symm, rfl⟩
  · have HR : Hid (r = false) := hid' (by rw [← hr]; simp [h0])
    have d0 : decide (0 ≤ n) = false := decide_eq_false h0
    clear hr
    go_enter Try.func24, Try.ntmps24
    go_wp2
    go_ret
    exact ⟨ret_bool HR.out.symm, rfl⟩

/-- Why a frame can't be written. -/
def Fm.unw (k fl st : Int) (n : Nat) : Int := if Fm.may k fl st then (if 16777215 < n then 3 else 0) else 5
theorem frC_keep {w w' : World} {b : Nat} {k fl st : Int} {l : List UInt8} (h : Ar w b 29 (frC k fl st l)) (hb : Below w.heap.size w w') : Ar w' b 29 (frC k fl st l) := h.keep hb

set_option maxHeartbeats 4000000 in
set_option maxRecDepth 20000 in
theorem cunw_any (k fl st : Int) (l : List UInt8) (r : Int) (hr : Fm.unw k fl st l.length = r) (w : World) : Calls Try.prog 13 #[.agg (frC k fl st l)] w fun e w' => e = .returned (.int .i64 r) ∧ Below w.heap.size w w' := by
  obtain ⟨a, ha⟩ : ∃ a, decide (0 ≤ k ∧ k ≤ 255) = a := ⟨_, rfl⟩
  obtain ⟨b, hb⟩ : ∃ a, decide (0 ≤ fl ∧ fl ≤ 255) = a := ⟨_, rfl⟩
  obtain ⟨c, hc⟩ : ∃ a, decide (0 ≤ st ∧ st ≤ 2147483647) = a := ⟨_, rfl⟩
  have hm : Fm.may k fl st = (a && b && c) := by
    unfold Fm.may; rw [← ha, ← hb, ← hc, Bool.eq_iff_iff]; simp; omega
  have HA := hid' ha
  have HB := hid' hb
  have HC := hid' hc
  have HR : Hid (r = if a && b && c then (if 16777215 < l.length then 3 else 0) else 5) := hid' (by rw [← hr, ← hm]; rfl)
  clear ha hb hc hm hr
  have hb0 : ∀ o, Below w.heap.size w (w.alloc o) := fun o => (Below.refl _ _).alloc (Nat.le_refl _) _
  have HB0 := hid' hb0
  clear hb0
  unfold frC
  cases a with
  | false =>
    obtain rfl : r = 5 := by rw [HR.out]; rfl
    go_enter Try.func13, Try.ntmps13
    go_wp2_with fail
    refine (cwithin_any k 255 false HA.out _).mono ?_
    rintro e w1 ⟨rfl, hw⟩
    subst w1
    go_wp2
    go_ret
    exact ⟨rfl, HB0.out _⟩
  | true => cases b with
  | false =>
    obtain rfl : r = 5 := by rw [HR.out]; rfl
    go_enter Try.func13, Try.ntmps13
    go_wp2_with fail
    refine (cwithin_any k 255 true HA.out _).mono ?_
    rintro e w1 ⟨rfl, hw⟩
    subst w1
    go_wp2_with fail
    refine (cwithin_any fl 255 false HB.out _).mono ?_
    rintro e w1 ⟨rfl, hw⟩
    subst w1
    go_wp2
    go_ret
    exact ⟨rfl, HB0.out _⟩
  | true => cases c with
  | false =>
    obtain rfl : r = 5 := by rw [HR.out]; rfl
    go_enter Try.func13, Try.ntmps13
    go_wp2_with fail
    refine (cwithin_any k 255 true HA.out _).mono ?_
    rintro e w1 ⟨rfl, hw⟩
    subst w1
    go_wp2_with fail
    refine (cwithin_any fl 255 true HB.out _).mono ?_
    rintro e w1 ⟨rfl, hw⟩
    subst w1
    go_wp2_with fail
    refine (cwithin_any st 2147483647 false HC.out _).mono ?_
    rintro e w1 ⟨rfl, hw⟩
    subst w1
    go_wp2
    go_ret
    exact ⟨rfl, HB0.out _⟩
  | true =>
    by_cases hl : 16777215 < l.length
    · obtain rfl : r = 3 := by rw [HR.out, if_pos (by rfl), if_pos hl]
      have d0 : decide ((16777215 : Int) < (l.length : Int)) = true := decide_eq_true (by omega)
      clear hl
      go_enter Try.func13, Try.ntmps13
      go_wp2_with fail
      refine (cwithin_any k 255 true HA.out _).mono ?_
      rintro e w1 ⟨rfl, hw⟩
      subst w1
      go_wp2_with fail
      refine (cwithin_any fl 255 true HB.out _).mono ?_
      rintro e w1 ⟨rfl, hw⟩
      subst w1
      go_wp2_with fail
      refine (cwithin_any st 2147483647 true HC.out _).mono ?_
      rintro e w1 ⟨rfl, hw⟩
      subst w1
      go_wp2
      go_ret
      exact ⟨rfl, HB0.out _⟩
    · obtain rfl : r = 0 := by rw [HR.out, if_pos (by rfl), if_neg hl]
      have d0 : decide ((16777215 : Int) < (l.length : Int)) = false := decide_eq_false (by omega)
      clear hl
      go_enter Try.func13, Try.ntmps13
      go_wp2_with fail
      refine (cwithin_any k 255 true HA.out _).mono ?_
      rintro e w1 ⟨rfl, hw⟩
      subst w1
      go_wp2_with fail
      refine (cwithin_any fl 255 true HB.out _).mono ?_
      rintro e w1 ⟨rfl, hw⟩
      subst w1
      go_wp2_with fail
      refine (cwithin_any st 2147483647 true HC.out _).mono ?_
      rintro e w1 ⟨rfl, hw⟩
      subst w1
      go_wp2
      go_ret
      exact ⟨rfl, HB0.out _⟩

theorem br_str {w : World} {B : Nat} {v : Value} {l : List UInt8} (h : BR w B v l) : (convert 44 9 v).run Try.prog w = .ok (.string ⟨l.toArray⟩) w := by
  rcases h.2 with ⟨rfl, hn⟩ | ⟨g, cap, cur, rfl, _⟩
  · obtain rfl := List.eq_nil_of_length_eq_zero hn
    kernel_rfl
  · refine run_convert_bytes_back w _ _ 5 ⟨g, 0, none⟩ cap l Try.underlying44 Try.underlying5 Try.underlying9 fun j hj => ?_
    exact h.cells (g := g) rfl j _ (by rw [Lib.byteCells, List.getElem?_map, List.getElem?_eq_getElem hj]; rfl)

set_option maxHeartbeats 4000000 in
set_option maxRecDepth 20000 in
theorem cwrite_bad (k fl st : Int) (l : List UInt8) (r : Int) (hr : Fm.unw k fl st l.length = r) (h0 : r ≠ 0) (w : World) : Calls Try.prog 9 #[.agg (frC k fl st l)] w fun e w' => e = .returned (.tuple #[.string ⟨#[]⟩, .int .i64 r]) ∧ Below w.heap.size w w' := by
  have HU := hid' (fun w => cunw_any k fl st l r hr w)
  have d0 : (r != 0) = true := bne_iff_ne.2 h0
  have d1 : (r == 0) = false := beq_false_of_ne h0
  clear hr h0
  go_enter Try.func9, Try.ntmps9
  go_wp2_with (refine wpl_box 29 _ rfl rfl (frC k fl st l) (by kernel_rfl) ?_)
  intro b0 w0 hg0 ha0 hb0
  obtain ⟨c0, c1, c2, c3⟩ := frC_cells ha0
  have HB := hid' hb0
  clear ha0 hb0
  go_wp2_with fail
  refine (HU.out _).mono ?_
  rintro e w1 ⟨rfl, hb1⟩
  have HB1 := hid' (below_two HB.out hb1)
  clear hb1
  go_wp2
  go_ret2
  exact ⟨rfl, HB1.out⟩

set_option maxHeartbeats 4000000 in
set_option maxRecDepth 20000 in
theorem cwrite_ok (k fl st : Int) (l : List UInt8) (hr : Fm.unw k fl st l.length = 0) (hl : l.length ≤ 16777215) (w : World) : Calls Try.prog 9 #[.agg (frC k fl st l)] w fun e w' => e = .returned (.tuple #[.string ⟨(Fm.wr k fl st l).toArray⟩, .int .i64 0]) ∧ Below w.heap.size w w' := by
  have HU := hid' (fun w => cunw_any k fl st l 0 hr w)
  obtain ⟨i0, hi, hz0, hz1, hz2⟩ := info_parts' infoByte'
  have HI := hid' hi
  have HZ0 := hid' hz0
  have HZ1 := hid' hz1
  have HZ2 := hid' hz2
  clear hi hz0 hz1 hz2
  have hk := (Fm.byt_cast k).symm
  have hf := (Fm.byt_cast fl).symm
  obtain ⟨x, hx⟩ : ∃ x, Fm.byt k = x := ⟨_, rfl⟩
  obtain ⟨y, hy⟩ : ∃ x, Fm.byt fl = x := ⟨_, rfl⟩
  rw [hx] at hk
  rw [hy] at hf
  have HWR : Hid (Fm.wr k fl st l = (([] ++ Fm.enc 3 l.length) ++ [x, y]) ++ Fm.enc 4 st ++ l) := hid' (by simp [Fm.wr, hx, hy])
  have HE3 := hid' (Fm.enc_length 3 (l.length : Int))
  have HE4 := hid' (Fm.enc_length 4 st)
  clear hr hx hy
  go_enter Try.func9, Try.ntmps9
  go_wp2_with (refine wpl_box 29 _ rfl rfl (frC k fl st l) (by kernel_rfl) ?_)
  intro b0 w0 hg0 ha0 hb0
  obtain ⟨c0, c1, c2, c3⟩ := frC_cells ha0
  have HB := hid' hb0
  have HA := hid' ha0
  clear ha0 hb0
  go_wp2_with fail
  refine (HU.out _).mono ?_
  rintro e w1 ⟨rfl, hb1⟩
  have HB1 := hid' (below_two HB.out hb1)
  have ha1 := HA.out.keep hb1
  obtain ⟨d0, d1, d2, d3⟩ := frC_cells ha1
  have HA1 := hid' ha1
  clear hb1 ha1 c0 c1 c2 c3
  go_wp2_with (refine wpl_make0 44 5 _ _ rfl rfl w.heap.size i0 _ 1 Try.underlying44 HI.out HZ0.out HZ1.out (9 + l.length) (by rw [HZ2.out]; omega) (by unfold maxLen; omega) HB1.out.size (by kernel_rfl) (by simp [Act.eval]) ?_)
  intro v2 w2 hown2 hb2
  have HB2 := hid' (below_two HB1.out hb2)
  have ha2 := HA1.out.keep hb2
  obtain ⟨e0, e1, e2, e3⟩ := frC_cells ha2
  have HA2 := hid' ha2
  have HO2 : Hid (BR w2 w.heap.size v2 []) := hid' hown2
  clear hb2 ha2 d0 d1 d2 d3 hown2
  go_wp2_with fail
  refine (cappend_any w.heap.size v2 [] (l.length : Int) 3 _ (by decide) HO2.out HB2.out.size (by simp)).mono ?_
  rintro e w3 ⟨⟨v3, rfl, ho3⟩, hn3⟩
  have ha3 := hn3.ar _ _ _ (by decide) HA2.out
  obtain ⟨f0, f1, f2, f3⟩ := frC_cells ha3
  have HA3 := hid' ha3
  have HB3 := hid' (HB2.out.trans hn3.bel)
  have HO3 : Hid (w3.ownsRow w.heap.size 5 1 v3 3 (Lib.byteCells ([] ++ Fm.enc 3 l.length))) := hid' (by have := ho3.out; unfold BR at this; simpa [HE3.out] using this)
  clear ha3 hn3 ho3 e0 e1 e2 e3
  go_wp2_with (at_builtin; refine wpList_append_own _ rfl _ _ 44 rfl w.heap.size 5 i0 (.int .u8 0) 1 1 Try.underlying44 HI.out HZ0.out HZ1.out HZ2.out rfl (by decide) _ _ _ rfl (World.ownsRow.alloc HO3.out _) ⟨w3.heap.size, 0, none⟩ 2 2 [.int .u8 (x.toNat : Int), .int .u8 (y.toNat : Int)] rfl rfl (two_new _ _ _ _) (fun u hu => by simp at hu; rcases hu with rfl | rfl <;> rfl) ?a1 ?a2 ?a3 ?_)
  case a1 => unfold maxLen; omega
  case a2 => omega
  case a3 => have := HB3.out.size; simp; omega
  intro v4 w4 hown4 hgrow4 _
  have hn4 : NB w.heap.size w3 w4 := NB.of_grown HO3.out (Fr_alloc hgrow4) HB3.out.size
  have ha4 := hn4.ar _ _ _ (by decide) HA3.out
  obtain ⟨g0, g1, g2, g3⟩ := frC_cells ha4
  have HA4 := hid' ha4
  have HB4 := hid' (HB3.out.trans hn4.bel)
  have HO4 : Hid (BR w4 w.heap.size v4 (([] ++ Fm.enc 3 l.length) ++ [x, y])) := hid' (by
    unfold BR
    rw [bytes_app, List.length_append, List.length_append, HE3.out]
    exact hown4)
  clear hown4 hgrow4 hn4 ha4 f0 f1 f2 f3
  go_wp2_with fail
  refine (cappend_any w.heap.size v4 _ st 4 _ (by decide) HO4.out HB4.out.size (by simp [HE3.out])).mono ?_
  rintro e w5 ⟨⟨v5, rfl, ho5⟩, hn5⟩
  have ha5 := hn5.ar _ _ _ (by decide) HA4.out
  obtain ⟨h0, h1, h2, h3⟩ := frC_cells ha5
  have HB5 := hid' (HB4.out.trans hn5.bel)
  have HO5 : Hid (w5.ownsRow w.heap.size 5 1 v5 9 (Lib.byteCells ((([] ++ Fm.enc 3 l.length) ++ [x, y]) ++ Fm.enc 4 st))) := hid' (by have := ho5.out; unfold BR at this; simpa [HE3.out, HE4.out] using this)
  clear ha5 hn5 ho5 g0 g1 g2 g3
  go_wp2_with (at_builtin; refine Lib.wpList_append_own_string _ rfl _ _ 44 9 rfl w.heap.size 5 i0 Try.underlying44 Try.underlying9 HI.out HZ0.out HZ1.out HZ2.out _ _ _ rfl HO5.out ⟨l.toArray⟩ rfl ?c3 ?c4 ?c5 ?_)
  case c3 => show 9 + l.length ≤ maxLen; unfold maxLen; omega
  case c4 => show 9 + l.length ≤ _; omega
  case c5 => exact HB5.out.size
  intro v6 w6 hown6 hgrow6 _
  have HB6 := hid' (HB5.out.trans (NB.of_grown HO5.out hgrow6 HB5.out.size).bel)
  have hbr : BR w6 w.heap.size v6 (Fm.wr k fl st l) := by
    unfold BR
    rw [HWR.out, bytes_app, List.length_append]
    have e : ((([] ++ Fm.enc 3 (l.length : Int)) ++ [x, y]) ++ Fm.enc 4 st).length = 9 := by simp [HE3.out, HE4.out]
    rw [e]
    exact hown6
  have hcv := br_str hbr
  clear hown6 hgrow6 hbr
  go_wp2
  go_ret2
  exact ⟨rfl, HB6.out⟩

end Go.Proofs.Ytfccbeijibhnhab
