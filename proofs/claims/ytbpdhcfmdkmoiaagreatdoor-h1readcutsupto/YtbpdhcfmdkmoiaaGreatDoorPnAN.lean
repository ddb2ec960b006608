/-
  The reader's New, Within, Held: by their contracts.
-/
import Derived.Deep.RegionHeld3
import Derived.Test.YtbpdhcfmdkmoiaaGreatDoorPnAM
namespace Go.Proofs.YtbpdhcfmdkmoiaaGreatDoor
open Go.RowKit

set_option maxHeartbeats 1000000 in
theorem cnew21_no (L M c2 c3 c4 c5 c6 c7 c8 : Int) (h : L < 1 ∨ M < 0) (w : World) :
    Calls Tryz.prog 6 #[.agg #[.int .i64 L, .int .i64 M, .int .i64 c2, .int .i64 c3, .int .i64 c4, .int .i64 c5, .int .i64 c6, .int .i64 c7, .int .i64 c8]] w fun e w' => e = .returned (.tuple #[.pointer none, .int .i64 1]) ∧ Below w.heap.size w w' := by
  by_cases h1 : L < 1
  · clear h
    go_enter Tryz.func6, Tryz.ntmps6
    go_wp2
    go_ret2
    exact ⟨rfl, (Below.refl _ _).alloc (Nat.le_refl _) _⟩
  · have h2 : M < 0 := h.resolve_left h1
    clear h
    go_enter Tryz.func6, Tryz.ntmps6
    go_wp2
    go_ret2
    exact ⟨rfl, (Below.refl _ _).alloc (Nat.le_refl _) _⟩

set_option maxHeartbeats 1000000 in
theorem cnew21_yes (L M : Nat) (c2 c3 c4 c5 c6 c7 c8 : Int) (h : 1 ≤ L) (w : World) :
    Calls Tryz.prog 6 #[.agg #[.int .i64 L, .int .i64 M, .int .i64 c2, .int .i64 c3, .int .i64 c4, .int .i64 c5, .int .i64 c6, .int .i64 c7, .int .i64 c8]] w fun e w' => (∃ b, e = .returned (.tuple #[.pointer (some ⟨b, 0, none⟩), .int .i64 0]) ∧ RN w' w.heap.size b (rnx b (.inl false)) (.slice none 0 0) (.slice none 0 0) (Hr.zero L M (.inl false))) ∧ Below w.heap.size w w' := by
  have h1 : ¬ (L : Int) < 1 := by omega
  have h2 : ¬ (M : Int) < 0 := by omega
  have hmf : ∀ (fn : Fn) (first cap : Array Value) (w : World), (Instr.makeFunc fn first cap).run Tryz.prog w = .ok (.func fn first cap) w := fun _ _ _ _ => rfl
  clear h
  go_enter Tryz.func6, Tryz.ntmps6
  go_wp2
  go_ret2
  refine ⟨⟨_, rfl, ?_⟩, ?_⟩
  · refine ⟨Nat.le_succ _, ?_, World.ownsRow_nil _ _ _ _, World.ownsRow_nil _ _ _ _⟩
    have hq : (w.alloc (.cells #[.int .i64 L, .int .i64 M, .int .i64 c2, .int .i64 c3, .int .i64 c4, .int .i64 c5, .int .i64 c6, .int .i64 c7, .int .i64 c8] 29)).heap.size = w.heap.size + 1 := by simp
    rw [← hq]
    exact heap_alloc_last _ _
  · exact ((Below.refl _ _).alloc (Nat.le_refl _) _).alloc (by simp) _

set_option maxHeartbeats 1000000 in
theorem clheld21 (ao : Option Addr) (n cap : Nat) (e : Bool) (hn : n ≤ 1048576) (w : World) :
    Calls Tryz.prog 26 #[.agg #[.slice ao n cap, .bool e]] w fun r w' => r = .returned (.int .i64 ((n + if e then 1 else 0 : Nat) : Int)) ∧ Below w.heap.size w w' := by
  cases e
  · go_enter Tryz.func26, Tryz.ntmps26
    go_wp2
    go_ret
    exact ⟨rfl, (Below.refl _ _).alloc (Nat.le_refl _) _⟩
  · go_enter Tryz.func26, Tryz.ntmps26
    go_wp2
    go_ret
    exact ⟨by go_num, (Below.refl _ _).alloc (Nat.le_refl _) _⟩
set_option maxHeartbeats 1000000 in
theorem cfheld21 (ao : Option Addr) (n cap : Nat) (z : Nat) (hn : n ≤ 1048576) (hz : z ≤ 1125899906842624) (h : 32 * n ≤ z) (w : World) :
    Calls Tryz.prog 29 #[.agg #[.slice ao n cap, .int .i64 (z : Int)]] w fun r w' => r = .returned (.int .i64 ((z - 32 * n : Nat) : Int)) ∧ Below w.heap.size w w' := by
  have HH := hid' h
  go_enter Tryz.func29, Tryz.ntmps29
  go_wp2
  go_ret
  exact ⟨ret_int (by have := HH.out; omega), (Below.refl _ _).alloc (Nat.le_refl _) _⟩

set_option maxHeartbeats 1000000 in
theorem cwithin21 (B b : Nat) (nv lv fv : Value) (s : Hr.St) (w : World) (h : RN w B b nv lv fv s) (hl : s.ln.length ≤ 1048576) :
    Calls Tryz.prog 14 #[.pointer (some ⟨b, 0, none⟩)] w fun e w' => e = .returned (.bool (Hr.within s)) ∧ Below w.heap.size w w' := by
  obtain ⟨ao, cap, hlv⟩ := own_shape h.ln
  subst hlv
  have c3 : w.cell? ⟨b, 3, none⟩ = some (.bool s.bg) := h.obj.cell 3 _ rfl
  have c4 : w.cell? ⟨b, 4, none⟩ = some (.slice ao s.ln.length cap) := h.obj.cell 4 _ rfl
  have c5 : w.cell? ⟨b, 5, none⟩ = some (.bool s.cr) := h.obj.cell 5 _ rfl
  have HC := hid' (fun W => clheld21 ao s.ln.length cap s.cr hl W)
  have HW : Hid (Hr.within s = (s.bg || decide (0 < (s.ln.length + if s.cr then 1 else 0 : Nat)))) := hid' rfl
  obtain ⟨n, hn⟩ : ∃ n, (s.ln.length + if s.cr then 1 else 0 : Nat) = n := ⟨_, rfl⟩
  rw [hn] at HC HW
  obtain ⟨bg, hbg⟩ : ∃ bg, s.bg = bg := ⟨_, rfl⟩
  rw [hbg] at c3 HW
  rw [HW.out]
  clear h hl hn hbg
  cases bg
  · by_cases h0 : 0 < n
    · have h1 : decide (0 < n) = true := decide_eq_true h0
      rw [h1]
      go_enter Tryz.func14, Tryz.ntmps14
      go_wp2_with (go_at_call 26; refine (HC.out _).mono ?_; rintro e w1 ⟨rfl, hb1⟩)
      go_ret
      exact ⟨rfl, hb1⟩
    · have h1 : decide (0 < n) = false := decide_eq_false h0
      rw [h1]
      go_enter Tryz.func14, Tryz.ntmps14
      go_wp2_with (go_at_call 26; refine (HC.out _).mono ?_; rintro e w1 ⟨rfl, hb1⟩)
      go_ret
      exact ⟨rfl, hb1⟩
  · go_enter Tryz.func14, Tryz.ntmps14
    go_wp2_with fail
    go_ret
    exact ⟨rfl, Below.refl _ _⟩

set_option maxHeartbeats 2000000 in
theorem cheld21 (B b : Nat) (nv lv fv : Value) (s : Hr.St) (w : World) (h : RN w B b nv lv fv s) (hl : s.ln.length ≤ 1048576) (hm : s.m.size ≤ 1048576) (ht : s.t.size ≤ 1048576) (hf : s.fs.length ≤ 1048576) (hz : Ms.size s.fs ≤ 1125899906842624) :
    Calls Tryz.prog 20 #[.pointer (some ⟨b, 0, none⟩)] w fun e w' => e = .returned (.int .i64 (Hr.held s : Int)) ∧ Below w.heap.size w w' := by
  obtain ⟨ao, cap, hlv⟩ := own_shape h.ln
  subst hlv
  obtain ⟨fo, fcap, hfv⟩ := own_shape h.fl
  subst hfv
  have c4 : w.cell? ⟨b, 4, none⟩ = some (.slice ao s.ln.length cap) := h.obj.cell 4 _ rfl
  have c5 : w.cell? ⟨b, 5, none⟩ = some (.bool s.cr) := h.obj.cell 5 _ rfl
  have c6 : w.cell? ⟨b, 6, none⟩ = some (.string s.m) := h.obj.cell 6 _ rfl
  have c7 : w.cell? ⟨b, 7, none⟩ = some (.string s.t) := h.obj.cell 7 _ rfl
  have c9 : w.cell? ⟨b, 9, none⟩ = some (.slice fo s.fs.length fcap) := h.obj.cell 9 _ rfl
  have c10 : w.cell? ⟨b, 10, none⟩ = some (.int .i64 (Ms.size s.fs : Int)) := h.obj.cell 10 _ rfl
  have hsz := Hr.size_fsH s.fs
  have HC := hid' (fun W => clheld21 ao s.ln.length cap s.cr hl W)
  have HD := hid' (fun W => cfheld21 fo s.fs.length fcap (Ms.size s.fs) hf hz (by omega) W)
  have HW : Hid (Hr.held s = (s.ln.length + if s.cr then 1 else 0 : Nat) + s.m.size + s.t.size + (Ms.size s.fs - 32 * s.fs.length)) := hid' (by unfold Hr.held Hr.lnH; omega)
  obtain ⟨n, hn⟩ : ∃ n, (s.ln.length + if s.cr then 1 else 0 : Nat) = n := ⟨_, rfl⟩
  obtain ⟨k, hk⟩ : ∃ k, Ms.size s.fs - 32 * s.fs.length = k := ⟨_, rfl⟩
  have hn1 : n ≤ 1048577 := by rw [← hn]; split <;> omega
  have hk1 : k ≤ 1125899906842624 := by omega
  rw [hn] at HC HW
  rw [hk] at HD HW
  have hS : (∀ b' o v, b' < w.heap.size → w.cell? ⟨b', o, none⟩ = some v → w.cell? ⟨b', o, none⟩ = some v) := fun _ _ _ _ h => h
  clear h hl hn hk hsz hf hz hS
  go_enter Tryz.func20, Tryz.ntmps20
  go_wp2_with fail
  have sOf : ∀ W, Below w.heap.size w W → Below w.heap.size w W ∧ W.cell? ⟨b, 4, none⟩ = some (.slice ao s.ln.length cap) ∧ W.cell? ⟨b, 5, none⟩ = some (.bool s.cr) ∧ W.cell? ⟨b, 6, none⟩ = some (.string s.m) ∧ W.cell? ⟨b, 7, none⟩ = some (.string s.t) ∧ W.cell? ⟨b, 9, none⟩ = some (.slice fo s.fs.length fcap) ∧ W.cell? ⟨b, 10, none⟩ = some (.int .i64 (Ms.size s.fs : Int)) := fun W hb => ⟨hb, (hb.cell (cell_lt c4)).trans c4, (hb.cell (cell_lt c5)).trans c5, (hb.cell (cell_lt c6)).trans c6, (hb.cell (cell_lt c7)).trans c7, (hb.cell (cell_lt c9)).trans c9, (hb.cell (cell_lt c10)).trans c10⟩
  have sTwo : ∀ W W1, Below W.heap.size W W1 → (Below w.heap.size w W ∧ W.cell? ⟨b, 4, none⟩ = some (.slice ao s.ln.length cap) ∧ W.cell? ⟨b, 5, none⟩ = some (.bool s.cr) ∧ W.cell? ⟨b, 6, none⟩ = some (.string s.m) ∧ W.cell? ⟨b, 7, none⟩ = some (.string s.t) ∧ W.cell? ⟨b, 9, none⟩ = some (.slice fo s.fs.length fcap) ∧ W.cell? ⟨b, 10, none⟩ = some (.int .i64 (Ms.size s.fs : Int))) → (Below w.heap.size w W1 ∧ W1.cell? ⟨b, 4, none⟩ = some (.slice ao s.ln.length cap) ∧ W1.cell? ⟨b, 5, none⟩ = some (.bool s.cr) ∧ W1.cell? ⟨b, 6, none⟩ = some (.string s.m) ∧ W1.cell? ⟨b, 7, none⟩ = some (.string s.t) ∧ W1.cell? ⟨b, 9, none⟩ = some (.slice fo s.fs.length fcap) ∧ W1.cell? ⟨b, 10, none⟩ = some (.int .i64 (Ms.size s.fs : Int))) := fun W W1 hb h => sOf W1 (below_two h.1 hb)
  go_region_held3 (fun W => Below w.heap.size w W ∧ W.cell? ⟨b, 4, none⟩ = some (.slice ao s.ln.length cap) ∧ W.cell? ⟨b, 5, none⟩ = some (.bool s.cr) ∧ W.cell? ⟨b, 6, none⟩ = some (.string s.m) ∧ W.cell? ⟨b, 7, none⟩ = some (.string s.t) ∧ W.cell? ⟨b, 9, none⟩ = some (.slice fo s.fs.length fcap) ∧ W.cell? ⟨b, 10, none⟩ = some (.int .i64 (Ms.size s.fs : Int))) (first | exact sOf _ ((Below.refl _ _).drew) | exact sTwo _ _ (by assumption) (by assumption)) (first | (go_at_call 26; refine (HC.out _).mono ?_; rintro e w1 ⟨rfl, hb1⟩) | (go_at_call 29; refine (HD.out _).mono ?_; rintro e w1 ⟨rfl, hb1⟩))
  rename_i hh
  go_wp2
  go_ret
  exact ⟨ret_int (by have := HW.out; simp only [IntKind.wrap_i64]; omega), hh.1⟩

end Go.Proofs.YtbpdhcfmdkmoiaaGreatDoor
