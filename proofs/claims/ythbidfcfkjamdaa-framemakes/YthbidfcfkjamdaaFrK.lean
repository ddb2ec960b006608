/-
  frame.Make, out of what its parts answer.
-/
import Derived.Test.YthbidfcfkjamdaaFrSy
import Derived.Test.YthbidfcfkjamdaaFrO
import Derived.Test.YthbidfcfkjamdaaFrR
namespace Go.Proofs.Ythbidfcfkjamdaa
open Go.RowKit

/-- payloadOf answers so. -/
def PAYok (k fl st : Int) (p : Fm.Pt) (s : List UInt8) : Prop := ∀ (w : World) (v : Value), SR w v p.sets → Calls Try.prog 34 #[.agg (frC k fl st []), .agg (ptC p v)] w fun e w' => (∃ u, e = .returned (.tuple #[u, .bool true]) ∧ Hid ((convert 66 9 u).run Try.prog w' = .ok (.string ⟨s.toArray⟩) w')) ∧ Below w.heap.size w w'
def PAYno (k fl st : Int) (p : Fm.Pt) : Prop := ∀ (w : World) (v : Value), SR w v p.sets → Calls Try.prog 34 #[.agg (frC k fl st []), .agg (ptC p v)] w fun e w' => e = .returned (.tuple #[.slice none 0 0, .bool false]) ∧ Below w.heap.size w w'
/-- says answers so. -/
def SAY (k fl st : Int) (p : Fm.Pt) (s : List UInt8) (b : Bool) : Prop := ∀ (w : World) (v : Value), SR w v p.sets → Calls Try.prog 36 #[.agg (frC k fl st s), .agg (ptC p v)] w fun e w' => e = .returned (.bool b) ∧ Below w.heap.size w w'

section
variable {ops : Array Oper} {rest : List Oper} {o o' : Oper} {a : Act} {w : World} {Q : Exit → Act → World → Prop}
theorem wpl_ldfr (x : Operand) (ho : o.op = .load 31 x) (hgd : o.guard = none) (b : Nat) (hx : a.eval x = .pointer (some ⟨b, 0, none⟩)) (k fl st : Int) (l : List UInt8) (hc : Ar w b 31 (frC k fl st l))
    (h : wpList Try.prog ops Q rest (a.put o.dst (.agg (frC k fl st l))) w) : wpList Try.prog ops Q (o :: rest) a w :=
  wpl_load 31 x ho hgd b hx 31 _ hc _ Try.underlying31 rfl sizeFrame h
theorem wpl_bp (x : Operand) (ho : o.op = .box 27 x) (hgd : o.guard = none) (ho' : o'.op = .alloc 31) (hgd' : o'.guard = none) (p : Fm.Pt) (v : Value) (hx : a.eval x = .agg (ptC p v))
    (h : ∀ b1 b2 w', w.heap.size ≤ b1 → w.heap.size ≤ b2 → Ar w' b1 27 (ptC p v) → Ar w' b2 31 frZ → Below w.heap.size w w' → wpList Try.prog ops Q rest ((a.put o.dst (.pointer (some ⟨b1, 0, none⟩))).put o'.dst (.pointer (some ⟨b2, 0, none⟩))) w') :
    wpList Try.prog ops Q (o :: o' :: rest) a w := by
  refine wpl_box 27 x ho hgd _ hx ?_
  intro b1 w1 hg1 ha1 hb1
  refine wpl_alloc 31 ho' hgd' _ zeroFrame ?_
  intro b2 w2 hg2 ha2 hb2
  have s1 := hb1.size
  exact h b1 b2 w2 hg1 (by omega) (ha1.keep hb2) ha2 (below_two hb1 hb2)
end
theorem set_payload {w : World} {b : Nat} {k fl st : Int} {l s : List UInt8} (h : Ar w b 31 (frC k fl st l)) : Ar (w.setCell ⟨b, 3, none⟩ (.string ⟨s.toArray⟩)) b 31 (frC k fl st s) := by
  have := h.set 3 (.string ⟨s.toArray⟩)
  simpa [frC] using this

set_option maxHeartbeats 4000000 in
set_option maxRecDepth 20000 in
theorem cmake_none (k fl st : Int) (p : Fm.Pt) (v : Value) (hpay : PAYno k fl st p) (w : World) (hv : SR w v p.sets) :
    Calls Try.prog 9 #[.int .i64 k, .int .i64 fl, .int .i64 st, .agg (ptC p v)] w fun e w' => e = .returned (.tuple #[.agg frZ, .int .i64 70]) ∧ Below w.heap.size w w' := by
  have HV := hid' hv
  obtain ⟨ao, cap, hsh⟩ := hv.shape
  subst hsh
  have HPAY := hid' hpay
  clear hpay
  clear hv
  go_enter Try.func9, Try.ntmps9
  go_wp2_with (refine wpl_bp _ rfl rfl rfl rfl p (.slice ao p.sets.length cap) (by kernel_rfl) ?_)
  intro b1 b2 w0 hg1 hg2 ha1 ha2 hb0
  have HG2 := hid' hg2
  have HA1 := hid' ha1
  have HA2 := hid' ha2
  have HB0 := hid' hb0
  clear hg1 hg2 ha1 ha2 hb0
  go_wp2_with (refine wpl_alloc 31 rfl rfl _ zeroFrame ?_)
  intro b3 w1 hg3 ha3 hb1
  refine wpl_stf _ _ rfl rfl b3 k fl st [] (by kernel_rfl) (by kernel_rfl) _ ha3 rfl ?_
  intro w2 ha3' hu2
  have hb2 := hb1.trans (hu2.below hg3)
  have HB2 := hid' (below_two HB0.out hb2)
  have HN23 := hid' (show b2 ≠ b3 by have := HA2.out.lt; omega)
  have HG3 := hid' (Nat.le_trans HB0.out.size hg3)
  have hp2 := HA1.out.keep hb2
  have HF2 := hid' (HA2.out.keep hb2)
  obtain ⟨x0, x1, x2, x3, x4, x5, x6, x7⟩ := pt_cells hp2
  obtain ⟨c0, c1, c2, c3⟩ := frC_cells ha3'
  have HP2 := hid' hp2
  have HA3 := hid' ha3'
  clear hg3 ha3 hb1 ha3' hu2 hb2 hp2
  go_wp2_with fail
  refine (HPAY.out _ _ (HV.out.keep HB2.out)).mono ?_
  rintro e w3 ⟨rfl, hb3⟩
  have HB3 := hid' (below_two HB2.out hb3)
  have HF3 := hid' (HF2.out.keep hb3)
  clear hb3 x0 x1 x2 x3 x4 x5 x6 x7 c0 c1 c2 c3
  go_upto_region 4 with fail
  go_wp2_with (refine wpl_stf _ _ rfl rfl b2 0 0 0 [] (by kernel_rfl) (by kernel_rfl) _ HF3.out rfl ?_)
  intro w9 ha9 hu9
  go_wp2
  exact bodyPost_ret (v := .tuple #[.agg frZ, .int .i64 70]) (by simp [results, Try.results9, asAddr, ldf ha9]; rfl) rfl ⟨rfl, HB3.out.trans (hu9.below HG2.out)⟩

set_option maxHeartbeats 4000000 in
set_option maxRecDepth 20000 in
theorem cmake_unw (k fl st : Int) (p : Fm.Pt) (v : Value) (s : List UInt8) (r : Int) (hpay : PAYok k fl st p s) (hun : Fm.unw k fl st s.length = r) (h0 : r ≠ 0) (w : World) (hv : SR w v p.sets) :
    Calls Try.prog 9 #[.int .i64 k, .int .i64 fl, .int .i64 st, .agg (ptC p v)] w fun e w' => e = .returned (.tuple #[.agg frZ, .int .i64 70]) ∧ Below w.heap.size w w' := by
  have HV := hid' hv
  obtain ⟨ao, cap, hsh⟩ := hv.shape
  subst hsh
  have HPAY := hid' hpay
  have HUN := hid' hun
  have d0 : (r != 0) = true := bne_iff_ne.2 h0
  have d1 : (r == 0) = false := beq_false_of_ne h0
  clear hpay hun h0
  clear hv
  go_enter Try.func9, Try.ntmps9
  go_wp2_with (refine wpl_bp _ rfl rfl rfl rfl p (.slice ao p.sets.length cap) (by kernel_rfl) ?_)
  intro b1 b2 w0 hg1 hg2 ha1 ha2 hb0
  have HG2 := hid' hg2
  have HA1 := hid' ha1
  have HA2 := hid' ha2
  have HB0 := hid' hb0
  clear hg1 hg2 ha1 ha2 hb0
  go_wp2_with (refine wpl_alloc 31 rfl rfl _ zeroFrame ?_)
  intro b3 w1 hg3 ha3 hb1
  refine wpl_stf _ _ rfl rfl b3 k fl st [] (by kernel_rfl) (by kernel_rfl) _ ha3 rfl ?_
  intro w2 ha3' hu2
  have hb2 := hb1.trans (hu2.below hg3)
  have HB2 := hid' (below_two HB0.out hb2)
  have HN23 := hid' (show b2 ≠ b3 by have := HA2.out.lt; omega)
  have HG3 := hid' (Nat.le_trans HB0.out.size hg3)
  have hp2 := HA1.out.keep hb2
  have HF2 := hid' (HA2.out.keep hb2)
  obtain ⟨x0, x1, x2, x3, x4, x5, x6, x7⟩ := pt_cells hp2
  obtain ⟨c0, c1, c2, c3⟩ := frC_cells ha3'
  have HP2 := hid' hp2
  have HA3 := hid' ha3'
  clear hg3 ha3 hb1 ha3' hu2 hb2 hp2
  go_wp2_with fail
  refine (HPAY.out _ _ (HV.out.keep HB2.out)).mono ?_
  rintro e w3 ⟨⟨u, rfl, hu⟩, hb3⟩
  have hcv := hu.out
  have HB3 := hid' (below_two HB2.out hb3)
  have HF3 := hid' (HF2.out.keep hb3)
  have ha3 := HA3.out.keep hb3
  have HP3 := hid' (HP2.out.keep hb3)
  have z3 := ha3.cell 3 _ rfl
  have f3 := ha3.free 3
  have HA3' := hid' ha3
  clear hb3 x0 x1 x2 x3 x4 x5 x6 x7 c0 c1 c2 c3 ha3 hu
  go_upto_region 6 with fail
  clear z3 f3 hcv
  have hU4 := upd_setCell w3 b3 3 (.string ⟨s.toArray⟩)
  have hA4 := set_payload (s := s) HA3'.out
  have hP4 := hU4.keep HP3.out (HP3.out.apart HA3'.out (by decide))
  have HF4 := hid' (hU4.keep HF3.out HN23.out)
  have HB4 := hid' (HB3.out.trans (hU4.below HG3.out))
  generalize w3.setCell ⟨b3, 3, none⟩ (.string ⟨s.toArray⟩) = w4 at *
  obtain ⟨x0, x1, x2, x3, x4, x5, x6, x7⟩ := pt_cells hP4
  obtain ⟨c0, c1, c2, c3⟩ := frC_cells hA4
  have HA4 := hid' hA4
  have HP4 := hid' hP4
  clear hU4 hA4 hP4
  go_wp2_with fail
  refine (cunw_any k fl st s r HUN.out _).mono ?_
  rintro e w5 ⟨rfl, hb5⟩
  have HB5 := hid' (below_two HB4.out hb5)
  have HF5 := hid' (HF4.out.keep hb5)
  have HA5 := hid' (HA4.out.keep hb5)
  have HP5 := hid' (HP4.out.keep hb5)
  clear hb5 x0 x1 x2 x3 x4 x5 x6 x7 c0 c1 c2 c3
  go_upto_region 7 with fail
  go_wp2_with (refine wpl_stf _ _ rfl rfl b2 0 0 0 [] (by kernel_rfl) (by kernel_rfl) _ HF5.out rfl ?_)
  intro w9 ha9 hu9
  go_wp2
  exact bodyPost_ret (v := .tuple #[.agg frZ, .int .i64 70]) (by simp [results, Try.results9, asAddr, ldf ha9]; rfl) rfl ⟨rfl, HB5.out.trans (hu9.below HG2.out)⟩

set_option maxHeartbeats 4000000 in
set_option maxRecDepth 20000 in
theorem cmake_no (k fl st : Int) (p : Fm.Pt) (v : Value) (s : List UInt8) (hpay : PAYok k fl st p s) (hun : Fm.unw k fl st s.length = 0) (hsay : SAY k fl st p s false) (w : World) (hv : SR w v p.sets) :
    Calls Try.prog 9 #[.int .i64 k, .int .i64 fl, .int .i64 st, .agg (ptC p v)] w fun e w' => e = .returned (.tuple #[.agg frZ, .int .i64 70]) ∧ Below w.heap.size w w' := by
  have HV := hid' hv
  obtain ⟨ao, cap, hsh⟩ := hv.shape
  subst hsh
  have HPAY := hid' hpay
  have HUN := hid' hun
  have HSAY := hid' hsay
  clear hpay hun hsay
  clear hv
  go_enter Try.func9, Try.ntmps9
  go_wp2_with (refine wpl_bp _ rfl rfl rfl rfl p (.slice ao p.sets.length cap) (by kernel_rfl) ?_)
  intro b1 b2 w0 hg1 hg2 ha1 ha2 hb0
  have HG2 := hid' hg2
  have HA1 := hid' ha1
  have HA2 := hid' ha2
  have HB0 := hid' hb0
  clear hg1 hg2 ha1 ha2 hb0
  go_wp2_with (refine wpl_alloc 31 rfl rfl _ zeroFrame ?_)
  intro b3 w1 hg3 ha3 hb1
  refine wpl_stf _ _ rfl rfl b3 k fl st [] (by kernel_rfl) (by kernel_rfl) _ ha3 rfl ?_
  intro w2 ha3' hu2
  have hb2 := hb1.trans (hu2.below hg3)
  have HB2 := hid' (below_two HB0.out hb2)
  have HN23 := hid' (show b2 ≠ b3 by have := HA2.out.lt; omega)
  have HG3 := hid' (Nat.le_trans HB0.out.size hg3)
  have hp2 := HA1.out.keep hb2
  have HF2 := hid' (HA2.out.keep hb2)
  obtain ⟨x0, x1, x2, x3, x4, x5, x6, x7⟩ := pt_cells hp2
  obtain ⟨c0, c1, c2, c3⟩ := frC_cells ha3'
  have HP2 := hid' hp2
  have HA3 := hid' ha3'
  clear hg3 ha3 hb1 ha3' hu2 hb2 hp2
  go_wp2_with fail
  refine (HPAY.out _ _ (HV.out.keep HB2.out)).mono ?_
  rintro e w3 ⟨⟨u, rfl, hu⟩, hb3⟩
  have hcv := hu.out
  have HB3 := hid' (below_two HB2.out hb3)
  have HF3 := hid' (HF2.out.keep hb3)
  have ha3 := HA3.out.keep hb3
  have HP3 := hid' (HP2.out.keep hb3)
  have z3 := ha3.cell 3 _ rfl
  have f3 := ha3.free 3
  have HA3' := hid' ha3
  clear hb3 x0 x1 x2 x3 x4 x5 x6 x7 c0 c1 c2 c3 ha3 hu
  go_upto_region 6 with fail
  clear z3 f3 hcv
  have hU4 := upd_setCell w3 b3 3 (.string ⟨s.toArray⟩)
  have hA4 := set_payload (s := s) HA3'.out
  have hP4 := hU4.keep HP3.out (HP3.out.apart HA3'.out (by decide))
  have HF4 := hid' (hU4.keep HF3.out HN23.out)
  have HB4 := hid' (HB3.out.trans (hU4.below HG3.out))
  generalize w3.setCell ⟨b3, 3, none⟩ (.string ⟨s.toArray⟩) = w4 at *
  obtain ⟨x0, x1, x2, x3, x4, x5, x6, x7⟩ := pt_cells hP4
  obtain ⟨c0, c1, c2, c3⟩ := frC_cells hA4
  have HA4 := hid' hA4
  have HP4 := hid' hP4
  clear hU4 hA4 hP4
  go_wp2_with fail
  refine (cunw_any k fl st s 0 HUN.out _).mono ?_
  rintro e w5 ⟨rfl, hb5⟩
  have HB5 := hid' (below_two HB4.out hb5)
  have HF5 := hid' (HF4.out.keep hb5)
  have HA5 := hid' (HA4.out.keep hb5)
  have HP5 := hid' (HP4.out.keep hb5)
  clear hb5 x0 x1 x2 x3 x4 x5 x6 x7 c0 c1 c2 c3
  obtain ⟨x0, x1, x2, x3, x4, x5, x6, x7⟩ := pt_cells HP5.out
  obtain ⟨c0, c1, c2, c3⟩ := frC_cells HA5.out
  go_wp2_with fail
  refine (HSAY.out _ _ (HV.out.keep HB5.out)).mono ?_
  rintro e w6 ⟨rfl, hb6⟩
  have HB6 := hid' (below_two HB5.out hb6)
  have HF6 := hid' (HF5.out.keep hb6)
  have HA6 := hid' (HA5.out.keep hb6)
  clear hb6 x0 x1 x2 x3 x4 x5 x6 x7 c0 c1 c2 c3
  go_upto_region 7 with fail
  go_wp2_with (refine wpl_stf _ _ rfl rfl b2 0 0 0 [] (by kernel_rfl) (by kernel_rfl) _ HF6.out rfl ?_)
  intro w9 ha9 hu9
  go_wp2
  exact bodyPost_ret (v := .tuple #[.agg frZ, .int .i64 70]) (by simp [results, Try.results9, asAddr, ldf ha9]; rfl) rfl ⟨rfl, HB6.out.trans (hu9.below HG2.out)⟩

set_option maxHeartbeats 4000000 in
set_option maxRecDepth 20000 in
theorem cmake_yes (k fl st : Int) (p : Fm.Pt) (v : Value) (s : List UInt8) (hpay : PAYok k fl st p s) (hun : Fm.unw k fl st s.length = 0) (hsay : SAY k fl st p s true) (w : World) (hv : SR w v p.sets) :
    Calls Try.prog 9 #[.int .i64 k, .int .i64 fl, .int .i64 st, .agg (ptC p v)] w fun e w' => e = .returned (.tuple #[.agg (frC k fl st s), .int .i64 0]) ∧ Below w.heap.size w w' := by
  have HV := hid' hv
  obtain ⟨ao, cap, hsh⟩ := hv.shape
  subst hsh
  have HPAY := hid' hpay
  have HUN := hid' hun
  have HSAY := hid' hsay
  clear hpay hun hsay
  clear hv
  go_enter Try.func9, Try.ntmps9
  go_wp2_with (refine wpl_bp _ rfl rfl rfl rfl p (.slice ao p.sets.length cap) (by kernel_rfl) ?_)
  intro b1 b2 w0 hg1 hg2 ha1 ha2 hb0
  have HG2 := hid' hg2
  have HA1 := hid' ha1
  have HA2 := hid' ha2
  have HB0 := hid' hb0
  clear hg1 hg2 ha1 ha2 hb0
  go_wp2_with (refine wpl_alloc 31 rfl rfl _ zeroFrame ?_)
  intro b3 w1 hg3 ha3 hb1
  refine wpl_stf _ _ rfl rfl b3 k fl st [] (by kernel_rfl) (by kernel_rfl) _ ha3 rfl ?_
  intro w2 ha3' hu2
  have hb2 := hb1.trans (hu2.below hg3)
  have HB2 := hid' (below_two HB0.out hb2)
  have HN23 := hid' (show b2 ≠ b3 by have := HA2.out.lt; omega)
  have HG3 := hid' (Nat.le_trans HB0.out.size hg3)
  have hp2 := HA1.out.keep hb2
  have HF2 := hid' (HA2.out.keep hb2)
  obtain ⟨x0, x1, x2, x3, x4, x5, x6, x7⟩ := pt_cells hp2
  obtain ⟨c0, c1, c2, c3⟩ := frC_cells ha3'
  have HP2 := hid' hp2
  have HA3 := hid' ha3'
  clear hg3 ha3 hb1 ha3' hu2 hb2 hp2
  go_wp2_with fail
  refine (HPAY.out _ _ (HV.out.keep HB2.out)).mono ?_
  rintro e w3 ⟨⟨u, rfl, hu⟩, hb3⟩
  have hcv := hu.out
  have HB3 := hid' (below_two HB2.out hb3)
  have HF3 := hid' (HF2.out.keep hb3)
  have ha3 := HA3.out.keep hb3
  have HP3 := hid' (HP2.out.keep hb3)
  have z3 := ha3.cell 3 _ rfl
  have f3 := ha3.free 3
  have HA3' := hid' ha3
  clear hb3 x0 x1 x2 x3 x4 x5 x6 x7 c0 c1 c2 c3 ha3 hu
  go_upto_region 6 with fail
  clear z3 f3 hcv
  have hU4 := upd_setCell w3 b3 3 (.string ⟨s.toArray⟩)
  have hA4 := set_payload (s := s) HA3'.out
  have hP4 := hU4.keep HP3.out (HP3.out.apart HA3'.out (by decide))
  have HF4 := hid' (hU4.keep HF3.out HN23.out)
  have HB4 := hid' (HB3.out.trans (hU4.below HG3.out))
  generalize w3.setCell ⟨b3, 3, none⟩ (.string ⟨s.toArray⟩) = w4 at *
  obtain ⟨x0, x1, x2, x3, x4, x5, x6, x7⟩ := pt_cells hP4
  obtain ⟨c0, c1, c2, c3⟩ := frC_cells hA4
  have HA4 := hid' hA4
  have HP4 := hid' hP4
  clear hU4 hA4 hP4
  go_wp2_with fail
  refine (cunw_any k fl st s 0 HUN.out _).mono ?_
  rintro e w5 ⟨rfl, hb5⟩
  have HB5 := hid' (below_two HB4.out hb5)
  have HF5 := hid' (HF4.out.keep hb5)
  have HA5 := hid' (HA4.out.keep hb5)
  have HP5 := hid' (HP4.out.keep hb5)
  clear hb5 x0 x1 x2 x3 x4 x5 x6 x7 c0 c1 c2 c3
  obtain ⟨x0, x1, x2, x3, x4, x5, x6, x7⟩ := pt_cells HP5.out
  obtain ⟨c0, c1, c2, c3⟩ := frC_cells HA5.out
  go_wp2_with fail
  refine (HSAY.out _ _ (HV.out.keep HB5.out)).mono ?_
  rintro e w6 ⟨rfl, hb6⟩
  have HB6 := hid' (below_two HB5.out hb6)
  have HF6 := hid' (HF5.out.keep hb6)
  have HA6 := hid' (HA5.out.keep hb6)
  clear hb6 x0 x1 x2 x3 x4 x5 x6 x7 c0 c1 c2 c3
  go_upto_region 8 with fail
  go_wp2_with (first | refine wpl_ldfr _ rfl rfl b3 (by kernel_rfl) k fl st s HA6.out ?_ | refine wpl_stf _ _ rfl rfl b2 k fl st s (by kernel_rfl) (by kernel_rfl) _ HF6.out rfl ?_)
  intro w9 ha9 hu9
  go_wp2
  exact bodyPost_ret (v := .tuple #[.agg (frC k fl st s), .int .i64 0]) (by simp [results, Try.results9, asAddr, ldf ha9]) rfl ⟨rfl, HB6.out.trans (hu9.below HG2.out)⟩

end Go.Proofs.Ythbidfcfkjamdaa
