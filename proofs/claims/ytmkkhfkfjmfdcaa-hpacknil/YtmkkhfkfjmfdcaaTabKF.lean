/-
  The code's table: At, by its contract.
-/
import Derived.Test.YtmkkhfkfjmfdcaaTabK
import Derived.Test.YtmkkhfkfjmfdcaaTabKT
namespace Go.Proofs.Ytmkkhfkfjmfdcaa
open Go.RowKit

theorem at_static (fs : List (List UInt8 × List UInt8)) (j : Nat) (hj : j < 61) : Tb.at? fs ((j : Int) + 1) = Tb.stat[j]? := by
  unfold Tb.at? Tb.all
  rw [if_pos (by omega), show ((j : Int) + 1 - 1).toNat = j by omega, List.getElem?_append_left (by rw [Tb.stat_length]; exact hj)]
theorem at_dyn (fs : List (List UInt8 × List UInt8)) (j : Nat) : Tb.at? fs ((j : Int) + 62) = fs[j]? := by
  unfold Tb.at? Tb.all
  rw [if_pos (by omega), show ((j : Int) + 62 - 1).toNat = j + 61 by omega, List.getElem?_append_right (by rw [Tb.stat_length]; omega), Tb.stat_length, Nat.add_sub_cancel]
theorem rev_at (fs : List (List UInt8 × List UInt8)) (j : Nat) (hj : j < fs.length) : fs.reverse[fs.length - 1 - j]? = fs[j]? := by
  rw [List.getElem?_reverse (by omega)]
  congr 1
  omega

set_option maxHeartbeats 1000000 in
set_option maxRecDepth 20000 in
theorem cat_some (B b : Nat) (v : Value) (M : Nat) (fs : List (List UInt8 × List UInt8)) (i : Int) (f : (List UInt8 × List UInt8)) (w : World) (h : CT w B b v M fs) (hs : Tb.size fs ≤ 1048576) (hf : Tb.at? fs i = some f) :
    Calls Try.prog 66 #[.pointer (some ⟨b, 0, none⟩), .int .i64 i] w fun e w' => e = .returned (.tuple #[.agg #[.string ⟨f.1.toArray⟩, .string ⟨f.2.toArray⟩], .bool true]) ∧ Below w.heap.size w w' := by
  obtain ⟨n, val⟩ := f
  have hi1 : 1 ≤ i := by
    by_cases h1 : 1 ≤ i
    · exact h1
    · rw [Tb.at_none fs i (.inl (by omega))] at hf; cases hf
  have hi2 : i ≤ ((61 + fs.length : Nat) : Int) := by
    by_cases h1 : i ≤ ((61 + fs.length : Nat) : Int)
    · exact h1
    · rw [Tb.at_none fs i (.inr (by omega))] at hf; cases hf
  have hfl : fs.length ≤ 1048576 := by have := Tb.size_len fs; omega
  have hb0 : Below w.heap.size w (w.alloc (.cells #[.string ⟨#[]⟩, .string ⟨#[]⟩] 55)) := (Below.refl _ _).alloc (Nat.le_refl _) _
  have hA : Ar (w.alloc (.cells #[.string ⟨#[]⟩, .string ⟨#[]⟩] 55)) w.heap.size 55 #[.string ⟨#[]⟩, .string ⟨#[]⟩] := heap_alloc_last w _
  by_cases hs61 : i ≤ 61
  · obtain ⟨j, hj⟩ : ∃ j : Nat, i = (j : Int) + 1 := ⟨(i - 1).toNat, by omega⟩
    subst hj
    have hj2 : j < 61 := by omega
    rw [at_static fs j hj2] at hf
    have HF := hid' hf
    have hd1 : decide ((j : Int) + 1 < 1) = false := decide_eq_false (by omega)
    have hd2 : decide ((j : Int) + 1 ≤ 61) = true := decide_eq_true (by omega)
    clear hf h hi1 hi2 hs61
    go_enter Try.func66, Try.ntmps66
    go_wp2_with fail
    refine (cstatic_any j (n, val) HF.out _).mono ?_
    rintro e w1 ⟨rfl, hb1⟩
    have hA1 := hA.keep hb1
    have HB := hid' (below_two hb0 hb1)
    have r0 := hA1.cell 0 _ rfl
    have r1 := hA1.cell 1 _ rfl
    have q0 := hA1.free 0
    have q1 := hA1.free 1
    have HA := hid' hA1
    clear hA hb0 hb1 hA1
    go_wp2
    have hA2 := (HA.out.set 0 (.string ⟨n.toArray⟩)).set 1 (.string ⟨val.toArray⟩)
    have e0 := hA2.cell 0 (.string ⟨n.toArray⟩) rfl
    have e1 := hA2.cell 1 (.string ⟨val.toArray⟩) rfl
    clear r0 r1 q0 q1 HA hA2
    refine bodyPost_ret (v := .tuple #[.agg #[.string ⟨n.toArray⟩, .string ⟨val.toArray⟩], .bool true]) (by simp [results, Try.results66, go_sem, e0, e1]) rfl ⟨rfl, ?_⟩
    exact (HB.out.setCell (p := ⟨w.heap.size, 0, none⟩) (Nat.le_refl _) _).setCell (p := ⟨w.heap.size, 1, none⟩) (Nat.le_refl _) _
  · obtain ⟨j, hj⟩ : ∃ j : Nat, i = (j : Int) + 62 := ⟨(i - 62).toNat, by omega⟩
    subst hj
    have hj2 : j < fs.length := by omega
    rw [at_dyn fs j, ← rev_at fs j hj2] at hf
    obtain ⟨x0, x1⟩ := Tb.cells_at _ _ _ hf
    have HX0 := hid' x0
    have HX1 := hid' x1
    have HR := hid' (h.keep hb0).ring
    have hd1 : decide ((j : Int) + 62 < 1) = false := decide_eq_false (by omega)
    have hd2 : decide ((j : Int) + 62 ≤ 61) = false := decide_eq_false (by omega)
    have he : (j : Int) + 62 - 61 - 1 = (j : Int) := by omega
    clear hf h hi1 hi2 hs61 x0 x1
    go_enter Try.func66, Try.ntmps66
    go_wp2_with fail
    refine (atF_yes B b _ v _ fs.length _ j ⟨n.toArray⟩ ⟨val.toArray⟩ _ HR.out hj2 (by omega) HX0.out HX1.out).mono ?_
    rintro e w1 ⟨rfl, hb1⟩
    have hA1 := hA.keep hb1
    have HB := hid' (below_two hb0 hb1)
    have r0 := hA1.cell 0 _ rfl
    have r1 := hA1.cell 1 _ rfl
    have q0 := hA1.free 0
    have q1 := hA1.free 1
    have HA := hid' hA1
    clear hA hb0 hb1 hA1
    go_wp2
    have hA2 := (HA.out.set 0 (.string ⟨n.toArray⟩)).set 1 (.string ⟨val.toArray⟩)
    have e0 := hA2.cell 0 (.string ⟨n.toArray⟩) rfl
    have e1 := hA2.cell 1 (.string ⟨val.toArray⟩) rfl
    clear r0 r1 q0 q1 HA hA2
    refine bodyPost_ret (v := .tuple #[.agg #[.string ⟨n.toArray⟩, .string ⟨val.toArray⟩], .bool true]) (by simp [results, Try.results66, go_sem, e0, e1]) rfl ⟨rfl, ?_⟩
    exact (HB.out.setCell (p := ⟨w.heap.size, 0, none⟩) (Nat.le_refl _) _).setCell (p := ⟨w.heap.size, 1, none⟩) (Nat.le_refl _) _

set_option maxHeartbeats 1000000 in
set_option maxRecDepth 20000 in
theorem cat_none (B b : Nat) (v : Value) (M : Nat) (fs : List (List UInt8 × List UInt8)) (i : Int) (w : World) (h : CT w B b v M fs) (hs : Tb.size fs ≤ 1048576) (hf : Tb.at? fs i = none) (hmx : i ≤ 9223372036854775807) (hmn : -9223372036854775808 ≤ i) :
    Calls Try.prog 66 #[.pointer (some ⟨b, 0, none⟩), .int .i64 i] w fun e w' => e = .returned (.tuple #[.agg #[.string ⟨#[]⟩, .string ⟨#[]⟩], .bool false]) ∧ Below w.heap.size w w' := by
  have hi : i < 1 ∨ (1 ≤ i ∧ ((61 + fs.length : Nat) : Int) < i) := by
    by_cases h1 : i < 1
    · exact .inl h1
    · by_cases h2 : ((61 + fs.length : Nat) : Int) < i
      · exact .inr ⟨by omega, h2⟩
      · obtain ⟨f, e, _⟩ := Tb.at_some fs i (by omega) (by omega)
        rw [hf] at e; cases e
  have hfl : fs.length ≤ 1048576 := by have := Tb.size_len fs; omega
  have hb0 : Below w.heap.size w (w.alloc (.cells #[.string ⟨#[]⟩, .string ⟨#[]⟩] 55)) := (Below.refl _ _).alloc (Nat.le_refl _) _
  have hA : Ar (w.alloc (.cells #[.string ⟨#[]⟩, .string ⟨#[]⟩] 55)) w.heap.size 55 #[.string ⟨#[]⟩, .string ⟨#[]⟩] := heap_alloc_last w _
  rcases hi with hi | ⟨hi1, hi⟩
  · have hd1 : decide (i < 1) = true := decide_eq_true hi
    have e0 := hA.cell 0 _ rfl
    have e1 := hA.cell 1 _ rfl
    clear h hf hi
    go_enter Try.func66, Try.ntmps66
    go_wp2
    exact bodyPost_ret (v := .tuple #[.agg #[.string ⟨#[]⟩, .string ⟨#[]⟩], .bool false]) (by simp [results, Try.results66, go_sem, e0, e1]) rfl ⟨rfl, hb0⟩
  · obtain ⟨j, hj⟩ : ∃ j : Nat, i = (j : Int) + 62 := ⟨(i - 62).toNat, by omega⟩
    subst hj
    have hj2 : fs.length ≤ j := by omega
    have HR := hid' (h.keep hb0).ring
    have hd1 : decide ((j : Int) + 62 < 1) = false := decide_eq_false (by omega)
    have hd2 : decide ((j : Int) + 62 ≤ 61) = false := decide_eq_false (by omega)
    have he : (j : Int) + 62 - 61 - 1 = (j : Int) := by omega
    clear hf h hi1 hi
    go_enter Try.func66, Try.ntmps66
    go_wp2_with fail
    refine (atF_no B b _ v _ fs.length _ (j : Int) _ HR.out (.inr (by omega))).mono ?_
    rintro e w1 ⟨rfl, hb1⟩
    have hA1 := hA.keep hb1
    have HB := hid' (below_two hb0 hb1)
    have r0 := hA1.cell 0 _ rfl
    have r1 := hA1.cell 1 _ rfl
    have q0 := hA1.free 0
    have q1 := hA1.free 1
    have HA := hid' hA1
    clear hA hb0 hb1 hA1
    go_wp2
    have hA2 := (HA.out.set 0 (.string ⟨#[]⟩)).set 1 (.string ⟨#[]⟩)
    have e0 := hA2.cell 0 (.string ⟨#[]⟩) rfl
    have e1 := hA2.cell 1 (.string ⟨#[]⟩) rfl
    clear r0 r1 q0 q1 HA hA2
    refine bodyPost_ret (v := .tuple #[.agg #[.string ⟨#[]⟩, .string ⟨#[]⟩], .bool false]) (by simp [results, Try.results66, go_sem, e0, e1]) rfl ⟨rfl, ?_⟩
    exact (HB.out.setCell (p := ⟨w.heap.size, 0, none⟩) (Nat.le_refl _) _).setCell (p := ⟨w.heap.size, 1, none⟩) (Nat.le_refl _) _

end Go.Proofs.Ytmkkhfkfjmfdcaa
