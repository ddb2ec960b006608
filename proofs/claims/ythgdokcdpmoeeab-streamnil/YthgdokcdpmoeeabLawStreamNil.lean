/-
  StreamNil: no book has nothing happen.
-/
import Derived.Test.YthgdokcdpmoeeabStU
namespace Go.Proofs.Ythgdokcdpmoeeab
open Go.RowKit

theorem snil_do (s : Nat) (id : Int) (w : World) : Calls Try.prog 4 #[.pointer none, .int .u8 (s : Int), .int .i64 id, .bool true] w fun e w' => e = .returned (.tuple #[.agg #[.bool false, .bool false, .int .i64 0], .bool false]) ∧ Below w.heap.size w w' := by
  go_enter Try.func4, Try.ntmps4
  go_wp2_with (refine wpl_alloc 25 rfl rfl _ szeroW ?_)
  intro b0 w0 hg0 ha0 hb0
  go_wp2_with (refine wpl_store 25 _ _ rfl rfl b0 #[.bool false, .bool false, .int .i64 0] (by kernel_rfl) (by kernel_rfl) _ _ ha0 ssizeW rfl (by simp [Value.oneCell']) ?_)
  intro w1 ha1 hu1
  go_wp2
  have hld := sldW ha1
  refine bodyPost_ret (v := .tuple #[.agg #[.bool false, .bool false, .int .i64 0], .bool false]) (by simp [results, Try.results4, asAddr, hld]) rfl ⟨rfl, hb0.trans (hu1.below hg0)⟩

theorem snil_stop (w : World) : Calls Try.prog 5 #[.pointer none] w fun e w' => e = .returned (.tuple #[]) ∧ w' = w := by
  go_enter Try.func5, Try.ntmps5
  go_wp2
  go_end0
  exact ⟨rfl, rfl⟩

theorem snil_last (w : World) : Calls Try.prog 9 #[.pointer none] w fun e w' => e = .returned (.int .i64 0) ∧ w' = w := by
  go_enter Try.func9, Try.ntmps9
  go_wp2
  go_ret
  exact ⟨rfl, rfl⟩

theorem snil_open (w : World) : Calls Try.prog 8 #[.pointer none] w fun e w' => e = .returned (.slice none 0 0) ∧ w' = w := by
  go_enter Try.func8, Try.ntmps8
  go_wp2
  go_ret
  exact ⟨rfl, rfl⟩

theorem snil_phase (id : Int) (w : World) : Calls Try.prog 7 #[.pointer none, .int .i64 id] w fun e w' => e = .returned (.int .u8 0) ∧ w' = w := by
  go_enter Try.func7, Try.ntmps7
  go_wp2
  go_ret
  exact ⟨rfl, rfl⟩

set_option maxHeartbeats 4000000 in
set_option maxRecDepth 20000 in
theorem streamNil_true (s0 id : Int) (w : World) (h0 : 0 ≤ s0) (_h1 : s0 ≤ 255) :
    Calls Try.prog 3 #[.int .u8 s0, .int .i64 id] w fun e w' => e = .returned (.bool true) ∧ Below w.heap.size w w' := by
  obtain ⟨s, rfl⟩ : ∃ s : Nat, s0 = s := ⟨s0.toNat, by omega⟩
  have e1 : ∀ W, (binOp .eql 25 (.agg #[.bool false, .bool false, .int .i64 0]) (.agg #[.bool false, .bool false, .int .i64 0])).run Try.prog W = .ok (.bool true) W := fun W => eq_wrong false false false false 0 0 W
  have hnw := noGuardW
  clear h0
  go_enter Try.func3, Try.ntmps3
  go_wp2_with fail
  refine (snil_do s id _).mono ?_
  rintro e w1 ⟨rfl, hb1⟩
  have HB1 := hid' hb1
  clear hb1
  go_wp2_with (refine wpl_alloc 25 rfl rfl _ szeroW ?_)
  intro b2 w2 hg2 ha2 hb2
  go_wp2_with (refine wpl_store 25 _ _ rfl rfl b2 #[.bool false, .bool false, .int .i64 0] (by kernel_rfl) (by kernel_rfl) _ _ ha2 ssizeW rfl (by simp [Value.oneCell']) ?_)
  intro w3 ha3 hu3
  have HB3 := hid' (below_two HB1.out (hb2.trans (hu3.below hg2)))
  have HA3 := hid' ha3
  clear hg2 ha2 hb2 ha3 hu3
  go_wp2_with fail
  refine (snil_stop _).mono ?_
  rintro e w4 ⟨rfl, hw4⟩
  subst w4
  go_wp2_with fail
  refine (awake8 _).mono ?_
  rintro e w4 ⟨rfl, hb4⟩
  have HB4 := hid' (below_two HB3.out hb4)
  have HA4 := hid' (HA3.out.keep hb4)
  clear hb4
  have z0 := HA4.out.cell 0 _ rfl
  have z1 := HA4.out.cell 1 _ rfl
  have z2 := HA4.out.cell 2 _ rfl
  go_wp2_with fail
  refine (snil_phase id _).mono ?_
  rintro e w5 ⟨rfl, hw5⟩
  subst w5
  go_wp2_with fail
  refine (snil_open _).mono ?_
  rintro e w5 ⟨rfl, hw5⟩
  subst w5
  go_wp2_with fail
  refine (snil_last _).mono ?_
  rintro e w5 ⟨rfl, hw5⟩
  subst w5
  go_wp2
  go_ret
  exact ⟨rfl, HB4.out⟩

end Go.Proofs.Ythgdokcdpmoeeab
