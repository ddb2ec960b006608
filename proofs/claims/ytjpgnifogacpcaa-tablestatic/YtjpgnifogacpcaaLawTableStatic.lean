/-
  TableStatic answers true.
-/
import Derived.Test.YtjpgnifogacpcaaTabW
import Derived.Test.YtjpgnifogacpcaaTabD
namespace Go.Proofs.Ytjpgnifogacpcaa
open Go.RowKit

set_option maxHeartbeats 2000000 in
set_option maxRecDepth 20000 in
theorem tableStatic_true (i : Int) (w : World) (h0 : -9223372036854775808 ≤ i) (h1 : i ≤ 9223372036854775807) :
    Calls Try.prog 4 #[.int .i64 i] w fun e w' => e = .returned (.bool true) ∧ Below w.heap.size w w' := by
  go_enter Try.func4, Try.ntmps4
  go_wp2_with fail
  refine (cnew_yes 0 (by omega) w.heap.size _ (Nat.le_refl _)).mono ?_
  rintro e w1 ⟨rfl, hC1, hb1⟩
  go_wp2_with fail
  refine (rnew_yes 0 (by omega) (by omega) w.heap.size _ hb1.size).mono ?_
  rintro e w2 ⟨rfl, hR2, hb2⟩
  have HC2 := hid' (hC1.keep hb2)
  have HB2 := hid' (below_two hb1 hb2)
  have HR2 := hid' hR2
  obtain ⟨b, hb⟩ : ∃ b, w.heap.size = b := ⟨_, rfl⟩
  obtain ⟨c, hc⟩ : ∃ c, w1.heap.size = c := ⟨_, rfl⟩
  have HB : Hid (Below b w w2) := hid' (by rw [← hb]; exact HB2.out)
  have hBs : b ≤ w2.heap.size := by have := HB2.out.size; omega
  rw [hb] at HC2 HR2
  rw [hc] at HR2
  have HC : Hid (CT w2 b b (.slice none 0 0) 0 []) := HC2
  have HR : Hid (RT w2 b c (.slice none 0 0) 0 []) := HR2
  have HBS := hid' hBs
  rw [hb, hc]
  clear hC1 hb1 hb2 hR2 HB2 HC2 HR2 hBs
  cases hf : Tb.at? [] i with
  | none =>
    have hi : i < 1 ∨ (1 ≤ i ∧ 61 < i) := by
      by_cases h1 : i < 1
      · exact .inl h1
      · by_cases h2 : 61 < i
        · exact .inr ⟨by omega, h2⟩
        · obtain ⟨f, e, _⟩ := Tb.at_some [] i (by omega) (by simp; omega)
          rw [hf] at e; cases e
    have HF := hid' hf
    have hng := noGuard
    have heq := eq_field_yes [] []
    clear hf
    have hdec : (decide (1 ≤ i) = false) ∨ (decide (1 ≤ i) = true ∧ decide (i ≤ 61) = false) := by
      rcases hi with h | ⟨h, h'⟩
      · exact .inl (decide_eq_false (by omega))
      · exact .inr ⟨decide_eq_true h, decide_eq_false (by omega)⟩
    clear hi
    go_wp2_with fail
    refine (cat_none b b _ 0 [] i _ HC.out (by decide) HF.out h1 h0).mono ?_
    rintro e w3 ⟨rfl, hb3⟩
    go_wp2_with fail
    obtain ⟨xb, hxb⟩ : ∃ xb, w3.heap.size = xb := ⟨_, rfl⟩
    have hb4 : Below w3.heap.size w3 (w3.alloc (.cells #[.string ⟨#[]⟩, .string ⟨#[]⟩] 32)) := (Below.refl _ _).alloc (Nat.le_refl _) _
    have hX : Ar (w3.alloc (.cells #[.string ⟨#[]⟩, .string ⟨#[]⟩] 32)) w3.heap.size 32 #[.string ⟨#[]⟩, .string ⟨#[]⟩] := heap_alloc_last w3 _
    have HX := hid' hX
    have HR4 := hid' ((HR.out.keep hb3).keep hb4)
    have HB4 := hid' (HB.out.trans ((below_two hb3 hb4).mono HBS.out))
    have HBS4 := hid' (Nat.le_trans HBS.out (below_two hb3 hb4).size)
    clear hb3 hb4 hX HR HB HBS HC
    rw [hxb] at HX ⊢
    generalize w3.alloc (.cells #[.string ⟨#[]⟩, .string ⟨#[]⟩] 32) = w4 at *
    refine (rat_none b c _ 0 [] i _ HR4.out (by decide) HF.out).mono ?_
    rintro e w5 ⟨rfl, hb5⟩
    go_wp2_with fail
    have hb6 : Below w5.heap.size w5 (w5.alloc (.cells #[.string ⟨#[]⟩, .string ⟨#[]⟩] 32)) := (Below.refl _ _).alloc (Nat.le_refl _) _
    have hY : Ar (w5.alloc (.cells #[.string ⟨#[]⟩, .string ⟨#[]⟩] 32)) w5.heap.size 32 #[.string ⟨#[]⟩, .string ⟨#[]⟩] := heap_alloc_last w5 _
    have HY := hid' hY
    have HX6 := hid' ((HX.out.keep hb5).keep hb6)
    have HB6 := hid' (HB4.out.trans ((below_two hb5 hb6).mono HBS4.out))
    have HBS6 := hid' (Nat.le_trans HBS4.out (below_two hb5 hb6).size)
    obtain ⟨yb, hyb⟩ : ∃ yb, w5.heap.size = yb := ⟨_, rfl⟩
    rw [hyb] at HY ⊢
    clear hb5 hb6 hY HB4 HBS4 HX
    generalize w5.alloc (.cells #[.string ⟨#[]⟩, .string ⟨#[]⟩] 32) = w6 at *
    refine (awake_any _).mono ?_
    rintro e w7 ⟨rfl, hb7⟩
    have x0 := (HX6.out.keep hb7).cell 0 _ rfl
    have x1 := (HX6.out.keep hb7).cell 1 _ rfl
    have y0 := (HY.out.keep hb7).cell 0 _ rfl
    have y1 := (HY.out.keep hb7).cell 1 _ rfl
    have HE : Hid (Below w.heap.size w w7) := hid' (by rw [hb]; exact HB6.out.trans (hb7.mono HBS6.out))
    clear hb7 HX6 HY HB6 HBS6
    rcases hdec with hd | ⟨hd, hd2⟩
    · go_wp2
      go_ret
      exact ⟨rfl, HE.out⟩
    · go_wp2
      go_ret
      exact ⟨rfl, HE.out⟩
  | some f =>
    obtain ⟨n, val⟩ := f
    have hi1 : 1 ≤ i := by
      by_cases h1 : 1 ≤ i
      · exact h1
      · rw [Tb.at_none [] i (.inl (by omega))] at hf; cases hf
    have hi2 : i ≤ 61 := by
      by_cases h1 : i ≤ 61
      · exact h1
      · rw [Tb.at_none [] i (.inr (by simp; omega))] at hf; cases hf
    have HF := hid' hf
    have hng := noGuard
    have heq := eq_field_yes n val
    have hd1 : decide (1 ≤ i) = true := decide_eq_true hi1
    have hd2 : decide (i ≤ 61) = true := decide_eq_true hi2
    clear hf
    go_wp2_with fail
    refine (cat_some b b _ 0 [] i (n, val) _ HC.out (by decide) HF.out).mono ?_
    rintro e w3 ⟨rfl, hb3⟩
    go_wp2_with fail
    obtain ⟨xb, hxb⟩ : ∃ xb, w3.heap.size = xb := ⟨_, rfl⟩
    have hb4 : Below w3.heap.size w3 (w3.alloc (.cells #[.string ⟨n.toArray⟩, .string ⟨val.toArray⟩] 32)) := (Below.refl _ _).alloc (Nat.le_refl _) _
    have hX : Ar (w3.alloc (.cells #[.string ⟨n.toArray⟩, .string ⟨val.toArray⟩] 32)) w3.heap.size 32 #[.string ⟨n.toArray⟩, .string ⟨val.toArray⟩] := heap_alloc_last w3 _
    have HX := hid' hX
    have HR4 := hid' ((HR.out.keep hb3).keep hb4)
    have HB4 := hid' (HB.out.trans ((below_two hb3 hb4).mono HBS.out))
    have HBS4 := hid' (Nat.le_trans HBS.out (below_two hb3 hb4).size)
    clear hb3 hb4 hX HR HB HBS HC
    rw [hxb] at HX ⊢
    generalize w3.alloc (.cells #[.string ⟨n.toArray⟩, .string ⟨val.toArray⟩] 32) = w4 at *
    refine (rat_some b c _ 0 [] i (n, val) _ HR4.out (by decide) HF.out).mono ?_
    rintro e w5 ⟨rfl, hb5⟩
    go_wp2_with fail
    have hb6 : Below w5.heap.size w5 (w5.alloc (.cells #[.string ⟨n.toArray⟩, .string ⟨val.toArray⟩] 32)) := (Below.refl _ _).alloc (Nat.le_refl _) _
    have hY : Ar (w5.alloc (.cells #[.string ⟨n.toArray⟩, .string ⟨val.toArray⟩] 32)) w5.heap.size 32 #[.string ⟨n.toArray⟩, .string ⟨val.toArray⟩] := heap_alloc_last w5 _
    have HY := hid' hY
    have HX6 := hid' ((HX.out.keep hb5).keep hb6)
    have HB6 := hid' (HB4.out.trans ((below_two hb5 hb6).mono HBS4.out))
    have HBS6 := hid' (Nat.le_trans HBS4.out (below_two hb5 hb6).size)
    obtain ⟨yb, hyb⟩ : ∃ yb, w5.heap.size = yb := ⟨_, rfl⟩
    rw [hyb] at HY ⊢
    clear hb5 hb6 hY HB4 HBS4 HX
    generalize w5.alloc (.cells #[.string ⟨n.toArray⟩, .string ⟨val.toArray⟩] 32) = w6 at *
    refine (awake_any _).mono ?_
    rintro e w7 ⟨rfl, hb7⟩
    have x0 := (HX6.out.keep hb7).cell 0 _ rfl
    have x1 := (HX6.out.keep hb7).cell 1 _ rfl
    have y0 := (HY.out.keep hb7).cell 0 _ rfl
    have y1 := (HY.out.keep hb7).cell 1 _ rfl
    have HE : Hid (Below w.heap.size w w7) := hid' (by rw [hb]; exact HB6.out.trans (hb7.mono HBS6.out))
    clear hb7 HX6 HY HB6 HBS6
    go_wp2
    go_ret
    exact ⟨rfl, HE.out⟩

end Go.Proofs.Ytjpgnifogacpcaa
