/-
  The code's table in memory; table.Weight, isRoom, New, Size, Most, Len, shrink: by their contracts.
-/
import Derived.Test.YtmkkhfkfjmfdcaaGreatRingF
namespace Go.Proofs.YtmkkhfkfjmfdcaaGreat
open Go.RowKit

/-- The code's table: the fields in a row, the oldest first; their size; the room. -/
structure CT (w : World) (B b : Nat) (v : Value) (M : Nat) (fs : List (List UInt8 × List UInt8)) : Prop where
  ring : RG w B b 99 54 2 v [.int .i64 (Tb.size fs : Int), .int .i64 (M : Int)] fs.length (Tb.cells fs.reverse)
theorem CT.keep {w w' : World} {B b : Nat} {v : Value} {M : Nat} {fs : List (List UInt8 × List UInt8)} (h : CT w B b v M fs) (hb : Below w.heap.size w w') : CT w' B b v M fs := ⟨h.ring.keep hb⟩
theorem CT.drew {w : World} {B b : Nat} {v : Value} {M : Nat} {fs : List (List UInt8 × List UInt8)} (h : CT w B b v M fs) : CT w.drew B b v M fs := ⟨h.ring.drew⟩
theorem CT.c1 {w : World} {B b : Nat} {v : Value} {M : Nat} {fs : List (List UInt8 × List UInt8)} (h : CT w B b v M fs) : w.cell? ⟨b, 1, none⟩ = some (.int .i64 (Tb.size fs : Int)) := h.ring.obj.cell 1 _ rfl
theorem CT.c2 {w : World} {B b : Nat} {v : Value} {M : Nat} {fs : List (List UInt8 × List UInt8)} (h : CT w B b v M fs) : w.cell? ⟨b, 2, none⟩ = some (.int .i64 (M : Int)) := h.ring.obj.cell 2 _ rfl

theorem cweight_at (n v : List UInt8) (k : Nat) (hk : Tb.wt (n, v) = k) (hs : k ≤ 1152921504606846976) (w : World) :
    Calls Tryz.prog 60 #[.agg #[.string ⟨n.toArray⟩, .string ⟨v.toArray⟩]] w fun e w' => e = .returned (.int .i64 (k : Int)) ∧ Below w.heap.size w w' := by
  have HK := hid' hk
  have h1 : n.length ≤ 1152921504606846976 := by unfold Tb.wt at hk; simp only at hk; omega
  have h2 : v.length ≤ 1152921504606846976 := by unfold Tb.wt at hk; simp only at hk; omega
  clear hk
  go_enter Tryz.func60, Tryz.ntmps60
  go_wp2
  go_ret
  exact ⟨ret_int (by have := HK.out; unfold Tb.wt at this; simp only at this; omega), (Below.refl _ _).alloc (Nat.le_refl _) _⟩

theorem isRoom_any (most : Int) (r : Bool) (hr : r = (decide (0 ≤ most) && decide (most ≤ 65536))) (w : World) : Calls Tryz.prog 51 #[.int .i64 most] w fun e w' => e = .returned (.bool r) ∧ w' = w := by
  by_cases h0 : 0 ≤ most
  · by_cases h1 : most ≤ 65536
    · obtain rfl : r = true := by rw [hr]; simp [h0, h1]
      have hd0 : decide (0 ≤ most) = true := decide_eq_true h0
      have hd1 : decide (most ≤ 65536) = true := decide_eq_true h1
      clear hr
      go_enter Tryz.func51, Tryz.ntmps51
      go_wp2
      go_ret
      exact ⟨rfl, rfl⟩
    · obtain rfl : r = false := by rw [hr]; simp [h1]
      have hd0 : decide (0 ≤ most) = true := decide_eq_true h0
      have hd1 : decide (most ≤ 65536) = false := decide_eq_false h1
      clear hr
      go_enter Tryz.func51, Tryz.ntmps51
      go_wp2
      go_ret
      exact ⟨rfl, rfl⟩
  · obtain rfl : r = false := by rw [hr]; simp [h0]
    have hd0 : decide (0 ≤ most) = false := decide_eq_false h0
    clear hr
    go_enter Tryz.func51, Tryz.ntmps51
    go_wp2
    go_ret
    exact ⟨rfl, rfl⟩

theorem cnew_no (most : Int) (h : most < 0 ∨ 65536 < most) (w : World) : Calls Tryz.prog 32 #[.int .i64 most] w fun e w' => e = .returned (.tuple #[.pointer none, .int .i64 5]) ∧ w' = w := by
  have H : Hid (false = (decide (0 ≤ most) && decide (most ≤ 65536))) := hid' (by symm; rw [Bool.and_eq_false_iff]; rcases h with h | h; exact .inl (decide_eq_false (by omega)); exact .inr (decide_eq_false (by omega)))
  clear h
  go_enter Tryz.func32, Tryz.ntmps32
  go_wp2_with fail
  refine (isRoom_any most false H.out _).mono ?_
  rintro e w1 ⟨rfl, rfl⟩
  go_wp2
  go_ret2
  exact ⟨rfl, rfl⟩

theorem cnew_yes (M : Nat) (h1 : M ≤ 65536) (B : Nat) (w : World) (hB : B ≤ w.heap.size) : Calls Tryz.prog 32 #[.int .i64 (M : Int)] w fun e w' => e = .returned (.tuple #[.pointer (some ⟨w.heap.size, 0, none⟩), .int .i64 0]) ∧ CT w' B w.heap.size (.slice none 0 0) M [] ∧ Below w.heap.size w w' := by
  have H : Hid (true = (decide ((0 : Int) ≤ (M : Int)) && decide ((M : Int) ≤ 65536))) := hid' (by symm; rw [Bool.and_eq_true]; exact ⟨decide_eq_true (by omega), decide_eq_true (by omega)⟩)
  clear h1
  go_enter Tryz.func32, Tryz.ntmps32
  go_wp2_with fail
  refine (isRoom_any (M : Int) true H.out _).mono ?_
  rintro e w1 ⟨rfl, rfl⟩
  go_wp2
  go_ret2
  exact ⟨rfl, ⟨hB, heap_alloc_last w1 _, sl_nil _ _ _ _, by simp [Value.ownBlock]⟩, (Below.refl _ _).alloc (Nat.le_refl _) _⟩

theorem csize_any (B b : Nat) (v : Value) (M : Nat) (fs : List (List UInt8 × List UInt8)) (w : World) (h : CT w B b v M fs) :
    Calls Tryz.prog 47 #[.pointer (some ⟨b, 0, none⟩)] w fun e w' => e = .returned (.int .i64 (Tb.size fs : Int)) ∧ w' = w := by
  have c1 := h.c1
  clear h
  go_enter Tryz.func47, Tryz.ntmps47
  go_wp2
  go_ret
  exact ⟨rfl, rfl⟩
theorem cmost_any (B b : Nat) (v : Value) (M : Nat) (fs : List (List UInt8 × List UInt8)) (w : World) (h : CT w B b v M fs) :
    Calls Tryz.prog 54 #[.pointer (some ⟨b, 0, none⟩)] w fun e w' => e = .returned (.int .i64 (M : Int)) ∧ w' = w := by
  have c1 := h.c2
  clear h
  go_enter Tryz.func54, Tryz.ntmps54
  go_wp2
  go_ret
  exact ⟨rfl, rfl⟩

end Go.Proofs.YtmkkhfkfjmfdcaaGreat
