/-
  The document's table: At, Find: by their contracts.
-/
import Derived.Test.YtjpgnifogacpcaaTabA
namespace Go.Proofs.Ytjpgnifogacpcaa
open Go.RowKit

theorem row_some {w : World} {B s n : Nat} {e : TypeId} {v : Value} {xs : List Value} (h : w.ownsRow B e s v n xs) (hn : 0 < n) : ∃ g cap, v = .slice (some ⟨g, 0, none⟩) n cap := by
  rcases h.2 with ⟨_, h0⟩ | ⟨g, cap, cur, hv, _⟩
  · omega
  · exact ⟨g, cap, hv⟩

set_option maxHeartbeats 1000000 in
theorem rat_some (B b : Nat) (v : Value) (M : Int) (fs : List (List UInt8 × List UInt8)) (i : Int) (f : (List UInt8 × List UInt8)) (w : World) (h : RT w B b v M fs) (hs : Tb.size fs ≤ 1048576) (hf : Tb.at? fs i = some f) :
    Calls Try.prog 18 #[.pointer (some ⟨b, 0, none⟩), .int .i64 i] w fun e w' => e = .returned (.tuple #[.agg #[.string ⟨f.1.toArray⟩, .string ⟨f.2.toArray⟩], .bool true]) ∧ Below w.heap.size w w' := by
  obtain ⟨n, val⟩ := f
  have hi1 : 1 ≤ i := by
    by_cases h1 : 1 ≤ i
    · exact h1
    · rw [Tb.at_none fs i (.inl (by omega))] at hf; cases hf
  have hi2 : i ≤ ((61 + fs.length : Nat) : Int) := by
    by_cases h1 : i ≤ ((61 + fs.length : Nat) : Int)
    · exact h1
    · rw [Tb.at_none fs i (.inr (by omega))] at hf; cases hf
  obtain ⟨f', hf', hg⟩ := Tb.at_some fs i hi1 hi2
  obtain rfl : f' = (n, val) := by rw [hf] at hf'; exact (Option.some.inj hf').symm
  obtain ⟨j, hj⟩ : ∃ j : Nat, i - 1 = (j : Int) := ⟨(i - 1).toNat, by omega⟩
  rw [hj, Int.toNat_natCast] at hg
  obtain ⟨e0, e1⟩ := Tb.cells_at _ _ _ hg
  have HE0 := hid' e0
  have HE1 := hid' e1
  have H := hid' h
  have hfl : fs.length ≤ 1048576 := by have := Tb.size_len fs; omega
  have hd1 : decide (i < 1) = false := decide_eq_false (by omega)
  obtain ⟨L, hL⟩ : ∃ L, 61 + fs.length = L := ⟨_, rfl⟩
  have HL := hid' hL
  rw [hL] at hi2
  have hd2 : decide ((L : Int) < i) = false := decide_eq_false (by omega)
  have hjL : j < L := by omega
  have hjL2 : (j : Int) < (L : Int) := by omega
  have hL0 : L ≤ 2000000 := by omega
  clear hf hf' hg h e0 e1 hL
  go_enter Try.func18, Try.ntmps18
  go_wp2_with fail
  refine (rall_any B b v M fs _ (H.out.keep ((Below.refl _ _).alloc (Nat.le_refl _) _)) hs).mono ?_
  rintro e w1 ⟨v1, rfl, hown, hb1⟩
  rw [HL.out] at hown
  obtain ⟨g, cap, rfl⟩ := row_some hown (by omega)
  have hA : Ar w1 w.heap.size 32 #[.string ⟨#[]⟩, .string ⟨#[]⟩] := Ar.keep (heap_alloc_last w _) hb1
  have c0 := (hown.cellAt (j * 2) (by omega)).trans HE0.out
  have c1 := (hown.cellAt (j * 2 + 1) (by omega)).trans HE1.out
  have r0 := hA.cell 0 _ rfl
  have r1 := hA.cell 1 _ rfl
  have q0 := hA.free 0
  have q1 := hA.free 1
  have HA := hid' hA
  have HB := hid' (below_two ((Below.refl _ w).alloc (Nat.le_refl _) _) hb1)
  clear hown hA hb1
  go_wp2
  have hA2 := (HA.out.set 0 (.string ⟨n.toArray⟩)).set 1 (.string ⟨val.toArray⟩)
  have e0 := hA2.cell 0 (.string ⟨n.toArray⟩) rfl
  have e1 := hA2.cell 1 (.string ⟨val.toArray⟩) rfl
  clear c0 c1 r0 r1 q0 q1 HA hA2 HE0 HE1
  refine bodyPost_ret (v := .tuple #[.agg #[.string ⟨n.toArray⟩, .string ⟨val.toArray⟩], .bool true]) (by simp [results, Try.results18, go_sem, e0, e1]) rfl ⟨rfl, ?_⟩
  exact (HB.out.setCell (p := ⟨w.heap.size, 0, none⟩) (Nat.le_refl _) _).setCell (p := ⟨w.heap.size, 1, none⟩) (Nat.le_refl _) _

set_option maxHeartbeats 1000000 in
theorem rat_none (B b : Nat) (v : Value) (M : Int) (fs : List (List UInt8 × List UInt8)) (i : Int) (w : World) (h : RT w B b v M fs) (hs : Tb.size fs ≤ 1048576) (hf : Tb.at? fs i = none) :
    Calls Try.prog 18 #[.pointer (some ⟨b, 0, none⟩), .int .i64 i] w fun e w' => e = .returned (.tuple #[.agg #[.string ⟨#[]⟩, .string ⟨#[]⟩], .bool false]) ∧ Below w.heap.size w w' := by
  have hi : i < 1 ∨ (1 ≤ i ∧ ((61 + fs.length : Nat) : Int) < i) := by
    by_cases h1 : i < 1
    · exact .inl h1
    · by_cases h2 : ((61 + fs.length : Nat) : Int) < i
      · exact .inr ⟨by omega, h2⟩
      · obtain ⟨f, e, _⟩ := Tb.at_some fs i (by omega) (by omega)
        rw [hf] at e; cases e
  have H := hid' h
  have hfl : fs.length ≤ 1048576 := by have := Tb.size_len fs; omega
  obtain ⟨L, hL⟩ : ∃ L, 61 + fs.length = L := ⟨_, rfl⟩
  have HL := hid' hL
  rw [hL] at hi
  have hL0 : 0 < L := by omega
  clear hf h hL
  rcases hi with hi | ⟨hi1, hi⟩
  all_goals
    first | (have hd1 : decide (i < 1) = true := decide_eq_true hi) | (have hd1 : decide (i < 1) = false := decide_eq_false (by omega); have hd2 : decide ((L : Int) < i) = true := decide_eq_true hi)
    go_enter Try.func18, Try.ntmps18
    go_wp2_with fail
    refine (rall_any B b v M fs _ (H.out.keep ((Below.refl _ _).alloc (Nat.le_refl _) _)) hs).mono ?_
    rintro e w1 ⟨v1, rfl, hown, hb1⟩
    rw [HL.out] at hown
    obtain ⟨g, cap, rfl⟩ := row_some hown hL0
    have hA : Ar w1 w.heap.size 32 #[.string ⟨#[]⟩, .string ⟨#[]⟩] := Ar.keep (heap_alloc_last w _) hb1
    have r0 := hA.cell 0 _ rfl
    have r1 := hA.cell 1 _ rfl
    have q0 := hA.free 0
    have q1 := hA.free 1
    have HA := hid' hA
    have HB := hid' (below_two ((Below.refl _ w).alloc (Nat.le_refl _) _) hb1)
    clear hown hA hb1
    go_wp2
    have hA2 := (HA.out.set 0 (.string ⟨#[]⟩)).set 1 (.string ⟨#[]⟩)
    have e0 := hA2.cell 0 (.string ⟨#[]⟩) rfl
    have e1 := hA2.cell 1 (.string ⟨#[]⟩) rfl
    clear r0 r1 q0 q1 HA hA2
    refine bodyPost_ret (v := .tuple #[.agg #[.string ⟨#[]⟩, .string ⟨#[]⟩], .bool false]) (by simp [results, Try.results18, go_sem, e0, e1]) rfl ⟨rfl, ?_⟩
    exact (HB.out.setCell (p := ⟨w.heap.size, 0, none⟩) (Nat.le_refl _) _).setCell (p := ⟨w.heap.size, 1, none⟩) (Nat.le_refl _) _

end Go.Proofs.Ytjpgnifogacpcaa
