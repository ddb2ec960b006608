/-
  The law PrioFormats, by its contract: it returns true for every priority.
-/
import Derived.Test.YtekpjbhhbklboaaDoorPrW
import Derived.Test.YtekpjbhhbklboaaDoorDecs
namespace Go.Proofs.YtekpjbhhbklboaaDoor
open Go.RowKit

theorem itoa_dig (u : Nat) (hu : u ≤ 7) : Lib.itoa (u : Int) = [UInt8.ofNat (48 + u)] := by
  match u, hu with
  | 0, _ => decide +kernel
  | 1, _ => decide +kernel
  | 2, _ => decide +kernel
  | 3, _ => decide +kernel
  | 4, _ => decide +kernel
  | 5, _ => decide +kernel
  | 6, _ => decide +kernel
  | 7, _ => decide +kernel
theorem rdec_small (u : Nat) (hu : u ≤ 7) (c : UInt8) (hc : UInt8.ofNat (48 + u) = c) (w : World) : Calls Tryd.prog 32 #[.int .i64 (u : Int)] w fun e w' => e = .returned (.string ⟨#[c]⟩) ∧ Below w.heap.size w w' :=
  (rDecimal_any (u : Int) (by omega) (by omega) w).mono fun e w' ⟨he, hb⟩ => ⟨by rw [he, itoa_dig u hu, hc], hb⟩

theorem fld0 (x : Int) (p : Bool) (W : World) : (Instr.field 24 (.agg #[.int .i64 x, .bool p]) 0).run Tryd.prog W = .ok (.int .i64 x) W := by kernel_rfl
set_option maxHeartbeats 1000000 in
theorem rfmt_any (x : Int) (p : Bool) (w : World) : Calls Tryd.prog 13 #[.agg #[.int .i64 x, .bool p]] w fun e w' => e = .returned (.string ⟨(Pr.fmt (Pr.kept x) p).toArray⟩) ∧ Below w.heap.size w w' := by
  obtain ⟨u, hu⟩ : ∃ u, Pr.kept x = u := ⟨_, rfl⟩
  have HU7 : Hid (u ≤ 7) := hid' (by rw [← hu]; exact Pr.kept_le x)
  have HU := hid' hu
  rw [hu]
  clear hu
  go_enter Tryd.func13, Tryd.ntmps13
  go_wp2_with (refine wpl_box 24 _ rfl rfl #[.int .i64 x, .bool p] (by kernel_rfl) ?_)
  intro pb w0 hg0 ha0 hb0
  have p0 := ha0.cell 0 _ rfl
  have p1 := ha0.cell 1 _ rfl
  have HA0 := hid' ha0
  have HB0 := hid' hb0
  clear hg0 ha0 hb0
  go_wp2_with fail
  refine (rkept_any x p _).mono ?_
  rintro e w1 ⟨rfl, hb1⟩
  rw [HU.out]
  have HA1 := hid' (HA0.out.keep hb1)
  have HB1 := hid' (below_two HB0.out hb1)
  clear hb1 p0 p1
  obtain ⟨c, hc⟩ : ∃ c, UInt8.ofNat (48 + u) = c := ⟨_, rfl⟩
  have HC := hid' hc
  have hfd := fld0 (u : Int) p
  clear hc
  go_wp2_with fail
  refine (rdec_small u HU7.out c HC.out _).mono ?_
  rintro e w2 ⟨rfl, hb2⟩
  have q1 := (HA1.out.keep hb2).cell 1 _ rfl
  have HB2 := hid' (below_two HB1.out hb2)
  clear hb2
  cases p
  · go_wp2
    go_ret
    exact ⟨ret_str (by unfold Pr.fmt; rw [HC.out]; exact str_cat [117, 61] [c]), HB2.out⟩
  · go_wp2
    go_ret
    refine ⟨ret_str ?_, HB2.out⟩
    unfold Pr.fmt
    rw [HC.out]
    have e1 := str_cat [117, 61] [c]
    have e2 := str_cat [117, 61, c] [44, 32, 105]
    simp only [List.cons_append, List.nil_append] at e1 e2
    rw [e1, e2]
    rfl
theorem parse_fmt (u : Nat) (hu : u ≤ 7) (p : Bool) : Pr.parse (Pr.fmt u p) = (u, p) := by
  match u, hu, p with
  | 0, _, true => decide +kernel
  | 1, _, true => decide +kernel
  | 2, _, true => decide +kernel
  | 3, _, true => decide +kernel
  | 4, _, true => decide +kernel
  | 5, _, true => decide +kernel
  | 6, _, true => decide +kernel
  | 7, _, true => decide +kernel
  | 0, _, false => decide +kernel
  | 1, _, false => decide +kernel
  | 2, _, false => decide +kernel
  | 3, _, false => decide +kernel
  | 4, _, false => decide +kernel
  | 5, _, false => decide +kernel
  | 6, _, false => decide +kernel
  | 7, _, false => decide +kernel

set_option maxHeartbeats 4000000 in
set_option maxRecDepth 20000 in
theorem prioFormats_any (x : Int) (p : Bool) (w : World) :
    Calls Tryd.prog 4 #[.int .i64 x, .bool p] w fun e w' => e = .returned (.bool true) ∧ Below w.heap.size w w' := by
    obtain ⟨u, hu⟩ : ∃ u, Pr.kept x = u := ⟨_, rfl⟩
    have HU7 : Hid (u ≤ 7) := hid' (by rw [← hu]; exact Pr.kept_le x)
    have HK := hid' hu
    have HKI : Hid (min (max x 0) 7 = (u : Int)) := hid' (by rw [← hu, Pr.kept_int])
    clear hu
    obtain ⟨F, hF⟩ : ∃ F, Pr.fmt u p = F := ⟨_, rfl⟩
    have HF : Hid (Pr.fmt (Pr.kept x) p = F) := hid' (by rw [HK.out]; exact hF)
    have HP : Hid (Pr.parse (⟨F.toArray⟩ : ByteArray).data.toList = (u, p)) := hid' (by show Pr.parse F = _; rw [← hF]; exact parse_fmt u HU7.out p)
    have HL : Hid (F.length ≤ 6) := hid' (by rw [← hF]; unfold Pr.fmt; cases p <;> simp)
    have heq := eqp_yes (u : Int) p
    have hFF : (F == F) = true := beq_self_eq_true _
    have hpp : (p == p) = true := beq_self_eq_true _
    clear hF
    go_enter Tryd.func4, Tryd.ntmps4
    go_wp2_with fail
    refine (cfmt_any x p _).mono ?_
    rintro e w1 ⟨rfl, hb1⟩
    rw [HF.out]
    have HA5 : Hid (Ar w1 w.heap.size 24 #[.int .i64 x, .bool p]) := hid' (Ar.keep (heap_alloc_last w _) hb1)
    have HB1 : Hid (Below w.heap.size w w1) := hid' (below_two ((Below.refl _ _).alloc (Nat.le_refl _) _) hb1)
    clear hb1
    go_upto_region 4 with fail
    rw [HKI.out]
    obtain ⟨b7, hb7⟩ : ∃ b7, w1.heap.size = b7 := ⟨_, rfl⟩
    have HA7 : Hid (Ar (w1.alloc (.cells #[.int .i64 (u : Int), .bool p] 24)) b7 24 #[.int .i64 (u : Int), .bool p]) := hid' (by rw [← hb7]; exact heap_alloc_last w1 _)
    have HBA : Hid (Below w1.heap.size w1 (w1.alloc (.cells #[.int .i64 (u : Int), .bool p] 24))) := hid' ((Below.refl _ _).alloc (Nat.le_refl _) _)
    rw [hb7]
    generalize w1.alloc (.cells #[.int .i64 (u : Int), .bool p] 24) = w2 at *
    have HA5' := hid' (HA5.out.keep HBA.out)
    have HB2 := hid' (below_two HB1.out HBA.out)
    obtain ⟨b5, hb5⟩ : ∃ b5, w.heap.size = b5 := ⟨_, rfl⟩
    have HW := hid' hb5
    rw [hb5] at HA5' ⊢
    clear hb5 hb7
    have sOf : ∀ W : World, Below w2.heap.size w2 W → Below w2.heap.size w2 W ∧ W.cell? ⟨b5, 0, none⟩ = some (.int .i64 x) ∧ W.cell? ⟨b5, 1, none⟩ = some (.bool p) ∧ W.cell? ⟨b7, 0, none⟩ = some (.int .i64 (u : Int)) ∧ W.cell? ⟨b7, 1, none⟩ = some (.bool p) := fun W hb =>
      ⟨hb, (HA5'.out.keep hb).cell 0 _ rfl, (HA5'.out.keep hb).cell 1 _ rfl, (HA7.out.keep hb).cell 0 _ rfl, (HA7.out.keep hb).cell 1 _ rfl⟩
    go_region_held3 (fun W => Below w2.heap.size w2 W ∧ W.cell? ⟨b5, 0, none⟩ = some (.int .i64 x) ∧ W.cell? ⟨b5, 1, none⟩ = some (.bool p) ∧ W.cell? ⟨b7, 0, none⟩ = some (.int .i64 (u : Int)) ∧ W.cell? ⟨b7, 1, none⟩ = some (.bool p))
      (first | assumption | exact sOf _ (Below.drew (Below.refl _ _)) | exact sOf _ (by assumption))
      (first
      | (go_at_call 9; refine (awake_any _).mono ?_; rintro e wa ⟨rfl, hba⟩; have hba' : Below w2.heap.size w2 wa := below_two (And.left (by assumption)) hba; clear hba)
      | (go_at_call 13; refine (rfmt_any x p _).mono ?_; rintro e wb ⟨rfl, hbb⟩; rw [HF.out]; have hbb' : Below w2.heap.size w2 wb := below_two (And.left (by assumption)) hbb; clear hbb)
      | (go_at_call 10; refine (cparse_any ⟨F.toArray⟩ _ (by rw [size_l]; have := HL.out; omega) u p HP.out).mono ?_; rintro e wc ⟨rfl, hbc⟩; have hbc' : Below w2.heap.size w2 wc := below_two (And.left (by assumption)) hbc; clear hbc))
    go_wp2
    go_ret
    exact ⟨rfl, below_two HB2.out hbc'⟩

end Go.Proofs.YtekpjbhhbklboaaDoor
