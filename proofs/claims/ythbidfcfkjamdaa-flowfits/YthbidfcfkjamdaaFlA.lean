/-
  A window in memory, the code's and the document's: New, Size, Add, Shift, Take: by their contracts.
-/
import Derived.Test.YthbidfcfkjamdaaProg
import Derived.Test.YthbidfcfkjamdaaHuffM
import Derived.Test.YthbidfcfkjamdaaFlP
namespace Go.Proofs.Ythbidfcfkjamdaa
open Go.RowKit

theorem Upd.refl (b : Nat) (w : World) : Upd b w w := ⟨rfl, rfl, rfl, rfl, fun _ _ => rfl⟩
theorem Ar.apart {w : World} {a b : Nat} {T T' : TypeId} {cs cs' : Array Value} (h : Ar w a T cs) (h' : Ar w b T' cs') (hne : T ≠ T') : a ≠ b := by
  rintro rfl
  unfold Ar at h h'
  rw [h] at h'
  injection h' with h'
  injection h' with _ h2 _
  exact hne h2

theorem wnew_no (n : Int) (h : n < 0 ∨ 2147483647 < n) (w : World) : Calls Try.prog 13 #[.int .i64 n] w fun e w' => e = .returned (.tuple #[.pointer none, .int .i64 5]) ∧ w' = w := by
  by_cases h1 : n < 0
  · clear h
    go_enter Try.func13, Try.ntmps13
    go_wp2
    go_ret2
    exact ⟨rfl, rfl⟩
  · have h2 : 2147483647 < n := by omega
    clear h
    go_enter Try.func13, Try.ntmps13
    go_wp2
    go_ret2
    exact ⟨rfl, rfl⟩

theorem wnew_yes (n : Int) (h1 : ¬ n < 0) (h2 : ¬ 2147483647 < n) (w : World) : Calls Try.prog 13 #[.int .i64 n] w fun e w' => (∃ b, e = .returned (.tuple #[.pointer (some ⟨b, 0, none⟩), .int .i64 0]) ∧ w.heap.size ≤ b ∧ Ar w' b 80 #[.int .i64 n]) ∧ Below w.heap.size w w' := by
  go_enter Try.func13, Try.ntmps13
  go_wp2
  go_ret2
  exact ⟨⟨_, rfl, Nat.le_refl _, heap_alloc_last w _⟩, (Below.refl _ _).alloc (Nat.le_refl _) _⟩

theorem wsize_any (b : Nat) (s : Int) (w : World) (h : Ar w b 80 #[.int .i64 s]) : Calls Try.prog 22 #[.pointer (some ⟨b, 0, none⟩)] w fun e w' => e = .returned (.int .i64 s) ∧ w' = w := by
  have c0 := h.cell 0 _ rfl
  clear h
  go_enter Try.func22, Try.ntmps22
  go_wp2
  go_ret
  exact ⟨rfl, rfl⟩
theorem wsize_nil (w : World) : Calls Try.prog 22 #[.pointer none] w fun e w' => e = .returned (.int .i64 0) ∧ w' = w := by
  go_enter Try.func22, Try.ntmps22
  go_wp2
  go_ret
  exact ⟨rfl, rfl⟩

theorem wadd_any (b : Nat) (s n r s' : Int) (hp : Fw.add s n = (r, s')) (hs : Fw.In s) (w : World) (h : Ar w b 80 #[.int .i64 s]) :
    Calls Try.prog 16 #[.pointer (some ⟨b, 0, none⟩), .int .i64 n] w fun e w' => e = .returned (.int .i64 r) ∧ Ar w' b 80 #[.int .i64 s'] ∧ Upd b w w' := by
  have c0 := h.cell 0 _ rfl
  have f0 := h.free 0
  have H := hid' h
  unfold Fw.In at hs
  unfold Fw.add at hp
  clear h
  by_cases h1 : n < 1
  · rw [if_pos h1] at hp
    obtain ⟨rfl, rfl⟩ := Prod.mk.inj hp
    clear hp
    go_enter Try.func16, Try.ntmps16
    go_wp2
    go_ret
    exact ⟨rfl, H.out, Upd.refl _ _⟩
  rw [if_neg h1] at hp
  by_cases h2 : 2147483647 - s < n
  · rw [if_pos h2] at hp
    obtain ⟨rfl, rfl⟩ := Prod.mk.inj hp
    clear hp
    go_enter Try.func16, Try.ntmps16
    go_wp2
    go_ret
    exact ⟨rfl, H.out, Upd.refl _ _⟩
  · rw [if_neg h2] at hp
    obtain ⟨rfl, rfl⟩ := Prod.mk.inj hp
    clear hp
    go_enter Try.func16, Try.ntmps16
    go_wp2
    go_ret
    exact ⟨rfl, H.out.set 0 _, upd_setCell _ _ _ _⟩

theorem dadd_any (b : Nat) (s n r s' : Int) (hp : Fw.add s n = (r, s')) (hs : Fw.In s) (w : World) (h : Ar w b 50 #[.int .i64 s]) :
    Calls Try.prog 17 #[.pointer (some ⟨b, 0, none⟩), .int .i64 n] w fun e w' => e = .returned (.int .i64 r) ∧ Ar w' b 50 #[.int .i64 s'] ∧ Upd b w w' := by
  have c0 := h.cell 0 _ rfl
  have f0 := h.free 0
  have H := hid' h
  unfold Fw.In at hs
  unfold Fw.add at hp
  clear h
  by_cases h1 : n < 1
  · rw [if_pos h1] at hp
    obtain ⟨rfl, rfl⟩ := Prod.mk.inj hp
    clear hp
    go_enter Try.func17, Try.ntmps17
    go_wp2
    go_ret
    exact ⟨rfl, H.out, Upd.refl _ _⟩
  rw [if_neg h1] at hp
  by_cases h2 : 2147483647 - s < n
  · rw [if_pos h2] at hp
    obtain ⟨rfl, rfl⟩ := Prod.mk.inj hp
    clear hp
    go_enter Try.func17, Try.ntmps17
    go_wp2
    go_ret
    exact ⟨rfl, H.out, Upd.refl _ _⟩
  · rw [if_neg h2] at hp
    obtain ⟨rfl, rfl⟩ := Prod.mk.inj hp
    clear hp
    go_enter Try.func17, Try.ntmps17
    go_wp2
    go_ret
    exact ⟨rfl, H.out.set 0 _, upd_setCell _ _ _ _⟩

theorem wtake_any (b : Nat) (s n r s' : Int) (hp : Fw.take s n = (r, s')) (hs : Fw.In s) (w : World) (h : Ar w b 80 #[.int .i64 s]) :
    Calls Try.prog 20 #[.pointer (some ⟨b, 0, none⟩), .int .i64 n] w fun e w' => e = .returned (.int .i64 r) ∧ Ar w' b 80 #[.int .i64 s'] ∧ Upd b w w' := by
  have c0 := h.cell 0 _ rfl
  have f0 := h.free 0
  have H := hid' h
  unfold Fw.In at hs
  unfold Fw.take at hp
  clear h
  by_cases h1 : n < 0
  · rw [if_pos h1] at hp
    obtain ⟨rfl, rfl⟩ := Prod.mk.inj hp
    clear hp
    go_enter Try.func20, Try.ntmps20
    go_wp2
    go_ret
    exact ⟨rfl, H.out, Upd.refl _ _⟩
  rw [if_neg h1] at hp
  by_cases h2 : 0 < n ∧ s < n
  · rw [if_pos h2] at hp
    obtain ⟨rfl, rfl⟩ := Prod.mk.inj hp
    obtain ⟨h3, h4⟩ := h2
    clear hp
    by_cases hz : s < 0
    · have h5 : (0 : Int) < n := by omega
      clear h3 h4
      go_enter Try.func20, Try.ntmps20
      go_wp2
      go_ret
      exact ⟨rfl, H.out, Upd.refl _ _⟩
    · have h5 : s < n := by omega
      clear h3 h4
      go_enter Try.func20, Try.ntmps20
      go_wp2
      go_ret
      exact ⟨rfl, H.out, Upd.refl _ _⟩
  · rw [if_neg h2] at hp
    obtain ⟨rfl, rfl⟩ := Prod.mk.inj hp
    clear hp
    have h6 : n ≤ 2147483647 := by omega
    by_cases hz : s < 0
    · have h5 : ¬ (0 : Int) < n := by omega
      clear h2
      go_enter Try.func20, Try.ntmps20
      go_wp2
      go_ret
      exact ⟨rfl, H.out.set 0 _, upd_setCell _ _ _ _⟩
    · have h5 : ¬ s < n := by omega
      clear h2
      go_enter Try.func20, Try.ntmps20
      go_wp2
      go_ret
      exact ⟨rfl, H.out.set 0 _, upd_setCell _ _ _ _⟩

theorem dtake_any (b : Nat) (s n r s' : Int) (hp : Fw.take s n = (r, s')) (hs : Fw.In s) (w : World) (h : Ar w b 50 #[.int .i64 s]) :
    Calls Try.prog 21 #[.pointer (some ⟨b, 0, none⟩), .int .i64 n] w fun e w' => e = .returned (.int .i64 r) ∧ Ar w' b 50 #[.int .i64 s'] ∧ Upd b w w' := by
  have c0 := h.cell 0 _ rfl
  have f0 := h.free 0
  have H := hid' h
  unfold Fw.In at hs
  unfold Fw.take at hp
  clear h
  by_cases h1 : n < 0
  · rw [if_pos h1] at hp
    obtain ⟨rfl, rfl⟩ := Prod.mk.inj hp
    clear hp
    go_enter Try.func21, Try.ntmps21
    go_wp2
    go_ret
    exact ⟨rfl, H.out, Upd.refl _ _⟩
  rw [if_neg h1] at hp
  by_cases h2 : 0 < n ∧ s < n
  · rw [if_pos h2] at hp
    obtain ⟨rfl, rfl⟩ := Prod.mk.inj hp
    obtain ⟨h3, h4⟩ := h2
    clear hp
    go_enter Try.func21, Try.ntmps21
    go_wp2
    go_ret
    exact ⟨rfl, H.out, Upd.refl _ _⟩
  · rw [if_neg h2] at hp
    obtain ⟨rfl, rfl⟩ := Prod.mk.inj hp
    clear hp
    have h6 : n ≤ 2147483647 := by omega
    by_cases h3 : 0 < n
    · have h4 : ¬ s < n := by omega
      clear h2
      go_enter Try.func21, Try.ntmps21
      go_wp2
      go_ret
      exact ⟨rfl, H.out.set 0 _, upd_setCell _ _ _ _⟩
    · clear h2
      go_enter Try.func21, Try.ntmps21
      go_wp2
      go_ret
      exact ⟨rfl, H.out.set 0 _, upd_setCell _ _ _ _⟩

theorem beyond_any (n : Int) (r : Bool) (hr : decide (n < -2147483647 ∨ 2147483647 < n) = r) (w : World) : Calls Try.prog 41 #[.int .i64 n] w fun e w' => e = .returned (.bool r) ∧ w' = w := by
  by_cases h1 : n < -2147483647
  · obtain rfl : true = r := by rw [← hr]; simp [h1]
    clear hr
    go_enter Try.func41, Try.ntmps41
    go_wp2
    go_ret
    exact ⟨rfl, rfl⟩
  · by_cases h2 : 2147483647 < n
    · obtain rfl : true = r := by rw [← hr]; simp [h2]
      clear hr
      go_enter Try.func41, Try.ntmps41
      go_wp2
      go_ret
      exact ⟨rfl, rfl⟩
    · obtain rfl : false = r := by rw [← hr]; simp [h1, h2]
      clear hr
      go_enter Try.func41, Try.ntmps41
      go_wp2
      go_ret
      exact ⟨rfl, rfl⟩

theorem wshift_any (b : Nat) (s n r s' : Int) (hp : Fw.shift s n = (r, s')) (hs : Fw.In s) (w : World) (h : Ar w b 80 #[.int .i64 s]) :
    Calls Try.prog 18 #[.pointer (some ⟨b, 0, none⟩), .int .i64 n] w fun e w' => e = .returned (.int .i64 r) ∧ Ar w' b 80 #[.int .i64 s'] ∧ Upd b w w' := by
  have c0 := h.cell 0 _ rfl
  have f0 := h.free 0
  have H := hid' h
  unfold Fw.In at hs
  unfold Fw.shift at hp
  clear h
  by_cases h2 : n < -2147483647 ∨ 2147483647 < n
  · rw [if_pos (by omega)] at hp
    obtain ⟨rfl, rfl⟩ := Prod.mk.inj hp
    have HB := hid' h2
    clear hp h2
    go_enter Try.func18, Try.ntmps18
    go_wp2_with fail
    refine (beyond_any (n) true (by simpa using HB.out) _).mono ?_
    rintro e w1 ⟨rfl, hw1⟩
    subst w1
    go_wp2
    go_ret
    exact ⟨rfl, H.out, Upd.refl _ _⟩
  · have hn1 : -2147483647 ≤ n := by omega
    have hn2 : n ≤ 2147483647 := by omega
    have HB := hid' h2
    clear h2
    by_cases h3 : s + n < -2147483647 ∨ 2147483647 < s + n
    · rw [if_pos (by omega)] at hp
      obtain ⟨rfl, rfl⟩ := Prod.mk.inj hp
      have HC := hid' h3
      clear hp h3
      go_enter Try.func18, Try.ntmps18
      go_wp2_with fail
      refine (beyond_any (n) false (by simpa using HB.out) _).mono ?_
      rintro e w1 ⟨rfl, hw1⟩
      subst w1
      go_wp2_with fail
      refine (beyond_any (s + n) true (by simpa using HC.out) _).mono ?_
      rintro e w1 ⟨rfl, hw1⟩
      subst w1
      go_wp2
      go_ret
      exact ⟨rfl, H.out, Upd.refl _ _⟩
    · rw [if_neg (by omega)] at hp
      obtain ⟨rfl, rfl⟩ := Prod.mk.inj hp
      have HC := hid' h3
      clear hp h3
      go_enter Try.func18, Try.ntmps18
      go_wp2_with fail
      refine (beyond_any (n) false (by simpa using HB.out) _).mono ?_
      rintro e w1 ⟨rfl, hw1⟩
      subst w1
      go_wp2_with fail
      refine (beyond_any (s + n) false (by simpa using HC.out) _).mono ?_
      rintro e w1 ⟨rfl, hw1⟩
      subst w1
      go_wp2
      go_ret
      exact ⟨rfl, H.out.set 0 _, upd_setCell _ _ _ _⟩

theorem dshift_any (b : Nat) (s n r s' : Int) (hp : Fw.shift s n = (r, s')) (hs : Fw.In s) (w : World) (h : Ar w b 50 #[.int .i64 s]) :
    Calls Try.prog 19 #[.pointer (some ⟨b, 0, none⟩), .int .i64 n] w fun e w' => e = .returned (.int .i64 r) ∧ Ar w' b 50 #[.int .i64 s'] ∧ Upd b w w' := by
  have c0 := h.cell 0 _ rfl
  have f0 := h.free 0
  have H := hid' h
  unfold Fw.In at hs
  unfold Fw.shift at hp
  clear h
  by_cases h1 : 2147483647 < n
  · rw [if_pos (by omega)] at hp
    obtain ⟨rfl, rfl⟩ := Prod.mk.inj hp
    clear hp
    go_enter Try.func19, Try.ntmps19
    go_wp2
    go_ret
    exact ⟨rfl, H.out, Upd.refl _ _⟩
  by_cases h2 : n < -2147483647
  · rw [if_pos (by omega)] at hp
    obtain ⟨rfl, rfl⟩ := Prod.mk.inj hp
    clear hp
    go_enter Try.func19, Try.ntmps19
    go_wp2
    go_ret
    exact ⟨rfl, H.out, Upd.refl _ _⟩
  by_cases h3 : 2147483647 < s + n
  · rw [if_pos (by omega)] at hp
    obtain ⟨rfl, rfl⟩ := Prod.mk.inj hp
    clear hp
    go_enter Try.func19, Try.ntmps19
    go_wp2
    go_ret
    exact ⟨rfl, H.out, Upd.refl _ _⟩
  by_cases h4 : s + n < -2147483647
  · rw [if_pos (by omega)] at hp
    obtain ⟨rfl, rfl⟩ := Prod.mk.inj hp
    clear hp
    go_enter Try.func19, Try.ntmps19
    go_wp2
    go_ret
    exact ⟨rfl, H.out, Upd.refl _ _⟩
  · rw [if_neg (by omega)] at hp
    obtain ⟨rfl, rfl⟩ := Prod.mk.inj hp
    clear hp
    go_enter Try.func19, Try.ntmps19
    go_wp2
    go_ret
    exact ⟨rfl, H.out.set 0 _, upd_setCell _ _ _ _⟩

theorem dnew_no (n : Int) (h : n < 0 ∨ 2147483647 < n) (w : World) : Calls Try.prog 14 #[.int .i64 n] w fun e w' => e = .returned (.tuple #[.pointer none, .int .i64 5]) ∧ w' = w := by
  by_cases h1 : n < 0
  · clear h
    go_enter Try.func14, Try.ntmps14
    go_wp2
    go_ret2
    exact ⟨rfl, rfl⟩
  · have h2 : 2147483647 < n := by omega
    clear h
    go_enter Try.func14, Try.ntmps14
    go_wp2
    go_ret2
    exact ⟨rfl, rfl⟩
theorem dnew_yes (n : Int) (h1 : ¬ n < 0) (h2 : ¬ 2147483647 < n) (w : World) : Calls Try.prog 14 #[.int .i64 n] w fun e w' => (∃ b, e = .returned (.tuple #[.pointer (some ⟨b, 0, none⟩), .int .i64 0]) ∧ w.heap.size ≤ b ∧ Ar w' b 50 #[.int .i64 n]) ∧ Below w.heap.size w w' := by
  go_enter Try.func14, Try.ntmps14
  go_wp2
  go_ret2
  exact ⟨⟨_, rfl, Nat.le_refl _, heap_alloc_last w _⟩, (Below.refl _ _).alloc (Nat.le_refl _) _⟩

theorem wnil_add (n : Int) (w : World) : Calls Try.prog 16 #[.pointer none, .int .i64 n] w fun e w' => e = .returned (.int .i64 2) ∧ w' = w := by
  go_enter Try.func16, Try.ntmps16
  go_wp2
  go_ret
  exact ⟨rfl, rfl⟩

theorem wnil_shift (n : Int) (w : World) : Calls Try.prog 18 #[.pointer none, .int .i64 n] w fun e w' => e = .returned (.int .i64 2) ∧ w' = w := by
  go_enter Try.func18, Try.ntmps18
  go_wp2
  go_ret
  exact ⟨rfl, rfl⟩

theorem wnil_take (n : Int) (w : World) : Calls Try.prog 20 #[.pointer none, .int .i64 n] w fun e w' => e = .returned (.int .i64 2) ∧ w' = w := by
  go_enter Try.func20, Try.ntmps20
  go_wp2
  go_ret
  exact ⟨rfl, rfl⟩

end Go.Proofs.Ythbidfcfkjamdaa
