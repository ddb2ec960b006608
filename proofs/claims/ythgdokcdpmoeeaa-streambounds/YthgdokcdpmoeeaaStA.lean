/-
  stream's judge and what it asks, by their contracts.
-/
import Derived.Test.YthgdokcdpmoeeaaStM
namespace Go.Proofs.Ythgdokcdpmoeeaa
open Go.RowKit

theorem swithStream_any (c : Int) (w : World) : Calls Try.prog 78 #[.int .i64 c] w fun e w' => e = .returned (.agg #[.bool true, .bool false, .int .i64 c]) ∧ Below w.heap.size w w' := by
  go_enter Try.func78, Try.ntmps78
  go_wp2_with (refine wpl_alloc 29 rfl rfl _ szeroW ?_)
  intro b0 w0 hg0 ha0 hb0
  go_wp2_with (refine wpl_store 29 _ _ rfl rfl b0 #[.bool true, .bool false, .int .i64 c] (by kernel_rfl) (by kernel_rfl) _ _ ha0 ssizeW rfl (by simp [Value.oneCell']) ?_)
  intro w1 ha1 hu1
  go_wp2
  have hld := sldW ha1
  refine bodyPost_ret (v := .agg #[.bool true, .bool false, .int .i64 c]) (by simp [results, Try.results78, asAddr, hld]) rfl ⟨rfl, hb0.trans (hu1.below hg0)⟩

theorem swithConn_any (c : Int) (w : World) : Calls Try.prog 79 #[.int .i64 c] w fun e w' => e = .returned (.agg #[.bool true, .bool true, .int .i64 c]) ∧ Below w.heap.size w w' := by
  go_enter Try.func79, Try.ntmps79
  go_wp2_with (refine wpl_alloc 29 rfl rfl _ szeroW ?_)
  intro b0 w0 hg0 ha0 hb0
  go_wp2_with (refine wpl_store 29 _ _ rfl rfl b0 #[.bool true, .bool true, .int .i64 c] (by kernel_rfl) (by kernel_rfl) _ _ ha0 ssizeW rfl (by simp [Value.oneCell']) ?_)
  intro w1 ha1 hu1
  go_wp2
  have hld := sldW ha1
  refine bodyPost_ret (v := .agg #[.bool true, .bool true, .int .i64 c]) (by simp [results, Try.results79, asAddr, hld]) rfl ⟨rfl, hb0.trans (hu1.below hg0)⟩

theorem sisOpen_any (p : Nat) (hp : p ≤ 5) (w : World) : Calls Try.prog 89 #[.int .u8 (p : Int)] w fun e w' => e = .returned (.bool (Sm.isOpen p)) ∧ w' = w := by
  rcases six hp with rfl | rfl | rfl | rfl | rfl | rfl <;>
  (go_enter Try.func89, Try.ntmps89
   go_wp2
   go_ret
   exact ⟨rfl, rfl⟩)

theorem sclientEnded_any (p : Nat) (hp : p ≤ 5) (w : World) : Calls Try.prog 95 #[.int .u8 (p : Int)] w fun e w' => e = .returned (.int .u8 ((if p = 1 then 2 else 4 : Nat) : Int)) ∧ w' = w := by
  rcases six hp with rfl | rfl | rfl | rfl | rfl | rfl <;>
  (go_enter Try.func95, Try.ntmps95
   go_wp2
   go_ret
   exact ⟨rfl, rfl⟩)

theorem sserverEnded_any (p : Nat) (hp : p ≤ 5) (w : World) : Calls Try.prog 96 #[.int .u8 (p : Int)] w fun e w' => e = .returned (.int .u8 ((if p = 1 then 3 else 4 : Nat) : Int)) ∧ w' = w := by
  rcases six hp with rfl | rfl | rfl | rfl | rfl | rfl <;>
  (go_enter Try.func96, Try.ntmps96
   go_wp2
   go_ret
   exact ⟨rfl, rfl⟩)

end Go.Proofs.Ythgdokcdpmoeeaa
