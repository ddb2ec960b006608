/-
  frame.within, unwritable, Write: by their contracts.
-/
import Derived.Test.YthbidfcfkjamdaaFrN
namespace Go.Proofs.Ythbidfcfkjamdaa
open Go.RowKit

theorem cwithin_any (n m : Int) (r : Bool) (hr : decide (0 ≤ n ∧ n ≤ m) = r) (w : World) : Calls Try.prog 47 #[.int .i64 n, .int .i64 m] w fun e w' => e = .returned (.bool r) ∧ w' = w := by
  by_cases h0 : 0 ≤ n
  · have HR : Hid (r = decide (n ≤ m)) := hid' (by rw [← hr]; simp [h0])
    have d0 : decide (0 ≤ n) = true := decide_eq_true h0
    clear hr
    go_enter Try.func47, Try.ntmps47
    go_wp2
    go_ret
    exact ⟨ret_bool HR.out.symm, rfl⟩
  · have HR : Hid (r = false) := hid' (by rw [← hr]; simp [h0])
    have d0 : decide (0 ≤ n) = false := decide_eq_false h0
    clear hr
    go_enter Try.func47, Try.ntmps47
    go_wp2
    go_ret
    exact ⟨ret_bool HR.out.symm, rfl⟩

/-- Why a frame can't be written. -/
def Fm.unw (k fl st : Int) (n : Nat) : Int := if Fm.may k fl st then (if 16777215 < n then 3 else 0) else 5
theorem frC_keep {w w' : World} {b : Nat} {k fl st : Int} {l : List UInt8} (h : Ar w b 31 (frC k fl st l)) (hb : Below w.heap.size w w') : Ar w' b 31 (frC k fl st l) := h.keep hb

set_option maxHeartbeats 4000000 in
set_option maxRecDepth 20000 in
theorem cunw_any (k fl st : Int) (l : List UInt8) (r : Int) (hr : Fm.unw k fl st l.length = r) (w : World) : Calls Try.prog 35 #[.agg (frC k fl st l)] w fun e w' => e = .returned (.int .i64 r) ∧ Below w.heap.size w w' := by
  obtain ⟨a, ha⟩ : ∃ a, decide (0 ≤ k ∧ k ≤ 255) = a := ⟨_, rfl⟩
  obtain ⟨b, hb⟩ : ∃ a, decide (0 ≤ fl ∧ fl ≤ 255) = a := ⟨_, rfl⟩
  obtain ⟨c, hc⟩ : ∃ a, decide (0 ≤ st ∧ st ≤ 2147483647) = a := ⟨_, rfl⟩
  have hm : Fm.may k fl st = (a && b && c) := by
    unfold Fm.may; rw [← ha, ← hb, ← hc, Bool.eq_iff_iff]; simp; omega
  have HA := hid' ha
  have HB := hid' hb
  have HC := hid' hc
  have HR : Hid (r = if a && b && c then (if 16777215 < l.length then 3 else 0) else 5) := hid' (by rw [← hr, ← hm]; rfl)
  clear ha hb hc hm hr
  have hb0 : ∀ o, Below w.heap.size w (w.alloc o) := fun o => (Below.refl _ _).alloc (Nat.le_refl _) _
  have HB0 := hid' hb0
  clear hb0
  unfold frC
  cases a with
  | false =>
    obtain rfl : r = 5 := by rw [HR.out]; rfl
    go_enter Try.func35, Try.ntmps35
    go_wp2_with fail
    refine (cwithin_any k 255 false HA.out _).mono ?_
    rintro e w1 ⟨rfl, hw⟩
    subst w1
    go_wp2
    go_ret
    exact ⟨rfl, HB0.out _⟩
  | true => cases b with
  | false =>
    obtain rfl : r = 5 := by rw [HR.out]; rfl
    go_enter Try.func35, Try.ntmps35
    go_wp2_with fail
    refine (cwithin_any k 255 true HA.out _).mono ?_
    rintro e w1 ⟨rfl, hw⟩
    subst w1
    go_wp2_with fail
    refine (cwithin_any fl 255 false HB.out _).mono ?_
    rintro e w1 ⟨rfl, hw⟩
    subst w1
    go_wp2
    go_ret
    exact ⟨rfl, HB0.out _⟩
  | true => cases c with
  | false =>
    obtain rfl : r = 5 := by rw [HR.out]; rfl
    go_enter Try.func35, Try.ntmps35
    go_wp2_with fail
    refine (cwithin_any k 255 true HA.out _).mono ?_
    rintro e w1 ⟨rfl, hw⟩
    subst w1
    go_wp2_with fail
    refine (cwithin_any fl 255 true HB.out _).mono ?_
    rintro e w1 ⟨rfl, hw⟩
    subst w1
    go_wp2_with fail
    refine (cwithin_any st 2147483647 false HC.out _).mono ?_
    rintro e w1 ⟨rfl, hw⟩
    subst w1
    go_wp2
    go_ret
    exact ⟨rfl, HB0.out _⟩
  | true =>
    by_cases hl : 16777215 < l.length
    · obtain rfl : r = 3 := by rw [HR.out, if_pos (by rfl), if_pos hl]
      have d0 : decide ((16777215 : Int) < (l.length : Int)) = true := decide_eq_true (by omega)
      clear hl
      go_enter Try.func35, Try.ntmps35
      go_wp2_with fail
      refine (cwithin_any k 255 true HA.out _).mono ?_
      rintro e w1 ⟨rfl, hw⟩
      subst w1
      go_wp2_with fail
      refine (cwithin_any fl 255 true HB.out _).mono ?_
      rintro e w1 ⟨rfl, hw⟩
      subst w1
      go_wp2_with fail
      refine (cwithin_any st 2147483647 true HC.out _).mono ?_
      rintro e w1 ⟨rfl, hw⟩
      subst w1
      go_wp2
      go_ret
      exact ⟨rfl, HB0.out _⟩
    · obtain rfl : r = 0 := by rw [HR.out, if_pos (by rfl), if_neg hl]
      have d0 : decide ((16777215 : Int) < (l.length : Int)) = false := decide_eq_false (by omega)
      clear hl
      go_enter Try.func35, Try.ntmps35
      go_wp2_with fail
      refine (cwithin_any k 255 true HA.out _).mono ?_
      rintro e w1 ⟨rfl, hw⟩
      subst w1
      go_wp2_with fail
      refine (cwithin_any fl 255 true HB.out _).mono ?_
      rintro e w1 ⟨rfl, hw⟩
      subst w1
      go_wp2_with fail
      refine (cwithin_any st 2147483647 true HC.out _).mono ?_
      rintro e w1 ⟨rfl, hw⟩
      subst w1
      go_wp2
      go_ret
      exact ⟨rfl, HB0.out _⟩

theorem br_str {w : World} {B : Nat} {v : Value} {l : List UInt8} (h : BR w B v l) : (convert 66 9 v).run Try.prog w = .ok (.string ⟨l.toArray⟩) w := by
  rcases h.2 with ⟨rfl, hn⟩ | ⟨g, cap, cur, rfl, _⟩
  · obtain rfl := List.eq_nil_of_length_eq_zero hn
    kernel_rfl
  · refine run_convert_bytes_back w _ _ 5 ⟨g, 0, none⟩ cap l Try.underlying66 Try.underlying5 Try.underlying9 fun j hj => ?_
    exact h.cells (g := g) rfl j _ (by rw [Lib.byteCells, List.getElem?_map, List.getElem?_eq_getElem hj]; rfl)

end Go.Proofs.Ythbidfcfkjamdaa
