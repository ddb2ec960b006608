/-
  Package hpack: newEnd, NewDecoder, NewEncoder, Limit, Size of both; Read of a decoder that has refused, or of none: by their contracts.
-/
import Derived.Test.YtmkkhfkfjmfdcaaHpRd
namespace Go.Proofs.Ytmkkhfkfjmfdcaa
open Go.RowKit

theorem newEnd_any (B : Nat) (w : World) (hB : B ≤ w.heap.size) : Calls Try.prog 19 #[] w fun e w' => e = .returned (.agg #[.pointer (some ⟨w.heap.size + 1, 0, none⟩)]) ∧ CT w' B (w.heap.size + 1) (.slice none 0 0) 4096 [] ∧ Below w.heap.size w w' := by
  have hb0 : Below w.heap.size w (w.alloc (.cells #[.pointer none] 48)) := (Below.refl _ _).alloc (Nat.le_refl _) _
  have hA : Ar (w.alloc (.cells #[.pointer none] 48)) w.heap.size 48 #[.pointer none] := heap_alloc_last w _
  have hz : (w.alloc (.cells #[.pointer none] 48)).heap.size = w.heap.size + 1 := by simp
  have HB := hid' hB
  have HA := hid' hA
  have HB0 := hid' hb0
  have HZ := hid' hz
  clear hB hA hb0 hz
  go_enter Try.func19, Try.ntmps19
  go_wp2_with fail
  obtain ⟨rb, hrb⟩ : ∃ rb, w.heap.size = rb := ⟨_, rfl⟩
  rw [hrb] at HA HZ ⊢
  generalize (w.alloc (.cells #[.pointer none] 48)) = w0 at *
  refine (cnew_yes 4096 (by omega) B w0 (Nat.le_trans HB.out HB0.out.size)).mono ?_
  rintro e w1 ⟨rfl, hC, hb1⟩
  have hA1 := HA.out.keep hb1
  have r0 := hA1.cell 0 _ rfl
  have q0 := hA1.free 0
  have HA1 := hid' hA1
  have HC := hid' hC
  have HB1 := hid' (below_two HB0.out hb1)
  rw [HZ.out] at HC ⊢
  clear hA1 hC hb1
  go_wp2
  have hA2 := HA1.out.set 0 (.pointer (some ⟨rb + 1, 0, none⟩))
  have e0 := hA2.cell 0 (.pointer (some ⟨rb + 1, 0, none⟩)) rfl
  clear r0 q0 hA2
  refine bodyPost_ret (v := .agg #[.pointer (some ⟨rb + 1, 0, none⟩)]) (by simp [results, Try.results19, go_sem, e0]) rfl ⟨by rw [hrb], ?_, ?_⟩
  · rw [hrb]
    exact (Fr.of_set (S := (· = rb)) rb 0 _ w1 rfl).ct HC.out (by omega) (fun k hk => by simp [Value.ownBlock] at hk)
  · exact HB1.out.setCell (p := ⟨rb, 0, none⟩) (Nat.le_of_eq hrb) _

theorem newDec_no (list : Int) (h : list < 1) (w : World) : Calls Try.prog 7 #[.int .i64 list] w fun e w' => e = .returned (.tuple #[.pointer none, .int .i64 1]) ∧ w' = w := by
  have hd : decide (list < 1) = true := decide_eq_true h
  clear h
  go_enter Try.func7, Try.ntmps7
  go_wp2
  go_ret2
  exact ⟨rfl, rfl⟩

theorem newDec_yes (list : Int) (h : 1 ≤ list) (B : Nat) (w : World) (hB : B ≤ w.heap.size) : Calls Try.prog 7 #[.int .i64 list] w fun e w' => ∃ d, e = .returned (.tuple #[.pointer (some ⟨d, 0, none⟩), .int .i64 0]) ∧ ∃ b, CD w' B d b (.slice none 0 0) list 4096 4096 [] ∧ Below w.heap.size w w' := by
  have hd : decide (list < 1) = false := decide_eq_false (by omega)
  have HB := hid' hB
  clear h hB
  go_enter Try.func7, Try.ntmps7
  go_wp2_with fail
  refine (newEnd_any B w HB.out).mono ?_
  rintro e w1 ⟨rfl, hC, hb1⟩
  have HC := hid' hC
  have HB1 := hid' hb1
  clear hC hb1
  go_wp2
  go_ret2
  have hb2 : Below w1.heap.size w1 (w1.alloc (.cells #[.pointer (some ⟨w.heap.size + 1, 0, none⟩), .int .i64 list, .int .i64 4096, .int .i64 0, .int .i64 0] 51)) := (Below.refl _ _).alloc (Nat.le_refl _) _
  exact ⟨_, rfl, _, ⟨Nat.le_trans HB.out HB1.out.size, heap_alloc_last w1 _, HC.out.keep hb2⟩, below_two HB1.out hb2⟩

theorem newEnc_any (B : Nat) (w : World) (hB : B ≤ w.heap.size) : Calls Try.prog 8 #[] w fun e w' => ∃ d, e = .returned (.pointer (some ⟨d, 0, none⟩)) ∧ ∃ b, CE w' B d b (.slice none 0 0) 4096 4096 4096 [] ∧ Below w.heap.size w w' := by
  have HB := hid' hB
  clear hB
  go_enter Try.func8, Try.ntmps8
  go_wp2_with fail
  refine (newEnd_any B w HB.out).mono ?_
  rintro e w1 ⟨rfl, hC, hb1⟩
  have HC := hid' hC
  have HB1 := hid' hb1
  clear hC hb1
  go_wp2
  go_ret
  have hb2 : Below w1.heap.size w1 (w1.alloc (.cells #[.pointer (some ⟨w.heap.size + 1, 0, none⟩), .int .i64 4096, .int .i64 4096] 53)) := (Below.refl _ _).alloc (Nat.le_refl _) _
  exact ⟨_, rfl, _, ⟨Nat.le_trans HB.out HB1.out.size, heap_alloc_last w1 _, HC.out.keep hb2⟩, below_two HB1.out hb2⟩

theorem dsize_at (B d b : Nat) (v : Value) (list : Int) (lim M : Nat) (fs : List (List UInt8 × List UInt8)) (S : Nat) (hS : Tb.size fs = S) (w : World) (h : CD w B d b v list lim M fs) :
    Calls Try.prog 16 #[.pointer (some ⟨d, 0, none⟩)] w fun e w' => e = .returned (.int .i64 (S : Int)) ∧ w' = w := by
  have c0 := h.obj.cell 0 _ rfl
  have c3 := h.obj.cell 3 _ rfl
  have H := hid' h
  have HS := hid' hS
  clear h hS
  go_enter Try.func16, Try.ntmps16
  go_wp2_with fail
  refine (esize_at B b v M fs S HS.out d _ c0 H.out.tab).mono ?_
  rintro e w1 ⟨rfl, rfl⟩
  go_wp2
  go_ret
  exact ⟨rfl, rfl⟩

theorem xsize_at (d : Nat) (list : Int) (lim er left : Nat) (her : er ≠ 0) (w : World) (h : CX w d list lim er left) :
    Calls Try.prog 16 #[.pointer (some ⟨d, 0, none⟩)] w fun e w' => e = .returned (.int .i64 (left : Int)) ∧ w' = w := by
  have c3 := Ar.cell h 3 _ rfl
  have c4 := Ar.cell h 4 _ rfl
  have he1 : ((er : Int) == 0) = false := beq_false_of_ne (by omega)
  have he2 : (er == 0) = false := beq_false_of_ne (by omega)
  clear h her
  go_enter Try.func16, Try.ntmps16
  go_wp2
  go_ret
  exact ⟨rfl, rfl⟩

theorem nsizeD_any (w : World) : Calls Try.prog 16 #[.pointer none] w fun e w' => e = .returned (.int .i64 0) ∧ w' = w := by
  go_enter Try.func16, Try.ntmps16
  go_wp2
  go_ret
  exact ⟨rfl, rfl⟩

theorem nsizeE_any (w : World) : Calls Try.prog 15 #[.pointer none] w fun e w' => e = .returned (.int .i64 0) ∧ w' = w := by
  go_enter Try.func15, Try.ntmps15
  go_wp2
  go_ret
  exact ⟨rfl, rfl⟩

theorem esizeE_at (B d b : Nat) (v : Value) (least told M : Nat) (fs : List (List UInt8 × List UInt8)) (S : Nat) (hS : Tb.size fs = S) (w : World) (h : CE w B d b v least told M fs) :
    Calls Try.prog 15 #[.pointer (some ⟨d, 0, none⟩)] w fun e w' => e = .returned (.int .i64 (S : Int)) ∧ w' = w := by
  have c0 := h.obj.cell 0 _ rfl
  have H := hid' h
  have HS := hid' hS
  clear h hS
  go_enter Try.func15, Try.ntmps15
  go_wp2_with fail
  refine (esize_at B b v M fs S HS.out d _ c0 H.out.tab).mono ?_
  rintro e w1 ⟨rfl, rfl⟩
  go_wp2
  go_ret
  exact ⟨rfl, rfl⟩

set_option maxRecDepth 20000 in
theorem readX_any (d : Nat) (list : Int) (lim er left : Nat) (her : er ≠ 0) (s : ByteArray) (w : World) (h : CX w d list lim er left) :
    Calls Try.prog 12 #[.pointer (some ⟨d, 0, none⟩), .string s] w fun e w' => e = .returned (.tuple #[.slice none 0 0, .int .i64 (er : Int)]) ∧ ∃ m, w' = w.drewN m := by
  have c3 := Ar.cell h 3 _ rfl
  have he1 : ((er : Int) == 0) = false := beq_false_of_ne (by omega)
  have he2 : (er == 0) = false := beq_false_of_ne (by omega)
  clear h her
  go_enter Try.func12, Try.ntmps12
  go_wp2
  go_quiet (fail)
  go_wp2
  go_ret2
  exact ⟨rfl, _, rfl⟩

theorem readN_any (s : ByteArray) (w : World) :
    Calls Try.prog 12 #[.pointer none, .string s] w fun e w' => e = .returned (.tuple #[.slice none 0 0, .int .i64 2]) ∧ w' = w := by
  go_enter Try.func12, Try.ntmps12
  go_wp2
  go_ret2
  exact ⟨rfl, rfl⟩

theorem limD_nil (n : Int) (w : World) :
    Calls Try.prog 11 #[.pointer none, .int .i64 n] w fun e w' => e = .returned (.int .i64 2) ∧ w' = w := by
  go_enter Try.func11, Try.ntmps11
  go_wp2
  go_ret
  exact ⟨rfl, rfl⟩

theorem limE_nil (n : Int) (w : World) :
    Calls Try.prog 10 #[.pointer none, .int .i64 n] w fun e w' => e = .returned (.int .i64 2) ∧ w' = w := by
  go_enter Try.func10, Try.ntmps10
  go_wp2
  go_ret
  exact ⟨rfl, rfl⟩

set_option maxRecDepth 20000 in
theorem limD_no (d : Nat) (n : Int) (hn : n < 0 ∨ 65536 < n) (w : World) :
    Calls Try.prog 11 #[.pointer (some ⟨d, 0, none⟩), .int .i64 n] w fun e w' => e = .returned (.int .i64 5) ∧ w' = w := by
  by_cases h0 : n < 0
  · have hd : decide (n < 0) = true := decide_eq_true h0
    clear hn h0
    go_enter Try.func11, Try.ntmps11
    go_wp2
    go_ret
    exact ⟨rfl, rfl⟩
  · have hd : decide (n < 0) = false := decide_eq_false h0
    have hd2 : decide (65536 < n) = true := decide_eq_true (by omega)
    clear hn h0
    go_enter Try.func11, Try.ntmps11
    go_wp2
    go_ret
    exact ⟨rfl, rfl⟩

set_option maxRecDepth 20000 in
theorem limD_yes (B d b : Nat) (v : Value) (list : Int) (lim M : Nat) (fs : List (List UInt8 × List UInt8)) (N : Nat) (hN : N ≤ 65536) (w : World) (h : CD w B d b v list lim M fs) :
    Calls Try.prog 11 #[.pointer (some ⟨d, 0, none⟩), .int .i64 (N : Int)] w fun e w' => e = .returned (.int .i64 0) ∧ CD w' B d b v list N M fs ∧ Fr (· = d) w w' := by
  have hd : decide ((N : Int) < 0) = false := decide_eq_false (by omega)
  have hd2 : decide (65536 < (N : Int)) = false := decide_eq_false (by omega)
  have hd3 : decide (65536 < N) = false := decide_eq_false (by omega)
  have c2 := h.obj.cell 2 _ rfl
  have f2 := h.obj.free 2
  have H := hid' h
  clear h hN
  go_enter Try.func11, Try.ntmps11
  go_wp2
  go_ret
  have hf : Fr (· = d) w (w.setCell ⟨d, 2, none⟩ (.int .i64 (N : Int))) := Fr.of_set d 2 _ w rfl
  exact ⟨rfl, ⟨H.out.ge, by have := H.out.obj.set 2 (.int .i64 (N : Int)); simpa using this, hf.ct H.out.tab (fun e => H.out.db e.symm) (fun k hk => H.out.dv k hk)⟩, hf⟩

set_option maxRecDepth 20000 in
theorem limE_no (d : Nat) (n : Int) (hn : n < 0 ∨ 4294967295 < n) (w : World) :
    Calls Try.prog 10 #[.pointer (some ⟨d, 0, none⟩), .int .i64 n] w fun e w' => e = .returned (.int .i64 5) ∧ w' = w := by
  by_cases h0 : n < 0
  · have hd : decide (n < 0) = true := decide_eq_true h0
    clear hn h0
    go_enter Try.func10, Try.ntmps10
    go_wp2
    go_ret
    exact ⟨rfl, rfl⟩
  · have hd : decide (n < 0) = false := decide_eq_false h0
    have hd2 : decide (4294967295 < n) = true := decide_eq_true (by omega)
    clear hn h0
    go_enter Try.func10, Try.ntmps10
    go_wp2
    go_ret
    exact ⟨rfl, rfl⟩

end Go.Proofs.Ytmkkhfkfjmfdcaa
