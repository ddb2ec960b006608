/-
  stream's verdicts, by their contracts.
-/
import Derived.Test.YthgdokcdpmoeeaaStA
namespace Go.Proofs.Ythgdokcdpmoeeaa
open Go.RowKit

theorem sclient_any (id : Int) (r : Bool) (hr : (decide (1 ≤ id) && decide (id % 2 = 1)) = r) (w : World) : Calls Try.prog 39 #[.int .i64 id] w fun e w' => e = .returned (.bool r) ∧ w' = w := by
  have HR := hid' hr
  clear hr
  by_cases h1 : 1 ≤ id
  · have hm : id.tmod 2 = id % 2 := Int.tmod_eq_emod_of_nonneg (by omega)
    by_cases h2 : id % 2 = 1
    · obtain rfl : true = r := by rw [← HR.out]; simp [h1, h2]
      rw [h2] at hm
      go_enter Try.func39, Try.ntmps39
      go_wp2
      go_ret
      exact ⟨rfl, rfl⟩
    · obtain rfl : false = r := by rw [← HR.out]; simp [h2]
      have h3 : id % 2 = 0 := by omega
      rw [h3] at hm
      go_enter Try.func39, Try.ntmps39
      go_wp2
      go_ret
      exact ⟨rfl, rfl⟩
  · obtain rfl : false = r := by rw [← HR.out]; simp [h1]
    go_enter Try.func39, Try.ntmps39
    go_wp2
    go_ret
    exact ⟨rfl, rfl⟩

theorem scompare_any (x y : Int) (w : World) : Calls Try.prog 76 #[.int .i64 x, .int .i64 y] w fun e w' => e = .returned (.int .i64 (if x < y then -1 else if y < x then 1 else 0)) ∧ w' = w := by
  have hnan : ∀ (z : Int) (w : World), Calls Try.prog 94 #[.int .i64 z] w fun e w' => e = .returned (.bool false) ∧ w' = w := by
    intro z w
    go_enter Try.func94, Try.ntmps94
    go_wp2
    go_ret
    exact ⟨rfl, rfl⟩
  have HN := hid' hnan
  clear hnan
  go_enter Try.func76, Try.ntmps76
  go_wp2_with fail
  refine (HN.out _ _).mono ?_
  rintro e w1 ⟨rfl, rfl⟩
  go_wp2_with fail
  refine (HN.out _ _).mono ?_
  rintro e w1 ⟨rfl, rfl⟩
  by_cases h1 : x < y
  · go_wp2
    go_ret
    exact ⟨by simp, rfl⟩
  · by_cases h2 : y < x
    · go_wp2
      go_ret
      exact ⟨by simp, rfl⟩
    · go_wp2
      go_ret
      exact ⟨by simp, rfl⟩

theorem sgotData_any (p : Nat) (hp : p ≤ 5) (e0 : Bool) (w : World) : Calls Try.prog 82 #[.int .u8 (p : Int), .bool e0] w fun e w' => e = .returned (.agg (vdC (Sm.gotData p e0))) ∧ Below w.heap.size w w' := by
  rcases six hp with rfl | rfl | rfl | rfl | rfl | rfl
  · cases e0
    · go_enter Try.func82, Try.ntmps82
      go_wp2_with (refine wpl_alloc 90 rfl rfl _ szeroV ?_)
      intro b0 w0 hg0 ha0 hb0
      have HA0 := hid' ha0
      have HB0 := hid' hb0
      have HG0 := hid' hg0
      clear ha0 hb0 hg0
      go_wp2_with fail
      refine (swithConn_any 1 _).mono ?_
      rintro e w1 ⟨rfl, hb1⟩
      have HA0 := hid' (HA0.out.keep hb1)
      have HB0 := hid' (below_two HB0.out hb1)
      clear hb1
      go_wp2_with (refine wpl_store 90 _ _ rfl rfl b0 #[.int .u8 0, .bool true, .bool true, .int .i64 1, .bool false] (by kernel_rfl) (by kernel_rfl) _ _ HA0.out ssizeV rfl (by simp [Value.oneCell']) ?_)
      intro w2 ha2 hu2
      go_wp2
      have hld := sldV ha2
      refine bodyPost_ret (v := .agg #[.int .u8 0, .bool true, .bool true, .int .i64 1, .bool false]) (by simp [results, Try.results82, asAddr, hld]) rfl ⟨rfl, HB0.out.trans (hu2.below HG0.out)⟩
    · go_enter Try.func82, Try.ntmps82
      go_wp2_with (refine wpl_alloc 90 rfl rfl _ szeroV ?_)
      intro b0 w0 hg0 ha0 hb0
      have HA0 := hid' ha0
      have HB0 := hid' hb0
      have HG0 := hid' hg0
      clear ha0 hb0 hg0
      go_wp2_with fail
      refine (swithConn_any 1 _).mono ?_
      rintro e w1 ⟨rfl, hb1⟩
      have HA0 := hid' (HA0.out.keep hb1)
      have HB0 := hid' (below_two HB0.out hb1)
      clear hb1
      go_wp2_with (refine wpl_store 90 _ _ rfl rfl b0 #[.int .u8 0, .bool true, .bool true, .int .i64 1, .bool false] (by kernel_rfl) (by kernel_rfl) _ _ HA0.out ssizeV rfl (by simp [Value.oneCell']) ?_)
      intro w2 ha2 hu2
      go_wp2
      have hld := sldV ha2
      refine bodyPost_ret (v := .agg #[.int .u8 0, .bool true, .bool true, .int .i64 1, .bool false]) (by simp [results, Try.results82, asAddr, hld]) rfl ⟨rfl, HB0.out.trans (hu2.below HG0.out)⟩
  · cases e0
    · go_enter Try.func82, Try.ntmps82
      go_wp2_with (refine wpl_alloc 90 rfl rfl _ szeroV ?_)
      intro b0 w0 hg0 ha0 hb0
      have HA0 := hid' ha0
      have HB0 := hid' hb0
      have HG0 := hid' hg0
      clear ha0 hb0 hg0
      go_wp2_with (refine wpl_store 90 _ _ rfl rfl b0 #[.int .u8 1, .bool false, .bool false, .int .i64 0, .bool true] (by kernel_rfl) (by kernel_rfl) _ _ HA0.out ssizeV rfl (by simp [Value.oneCell']) ?_)
      intro w2 ha2 hu2
      go_wp2
      have hld := sldV ha2
      refine bodyPost_ret (v := .agg #[.int .u8 1, .bool false, .bool false, .int .i64 0, .bool true]) (by simp [results, Try.results82, asAddr, hld]) rfl ⟨rfl, HB0.out.trans (hu2.below HG0.out)⟩
    · go_enter Try.func82, Try.ntmps82
      go_wp2_with (refine wpl_alloc 90 rfl rfl _ szeroV ?_)
      intro b0 w0 hg0 ha0 hb0
      have HA0 := hid' ha0
      have HB0 := hid' hb0
      have HG0 := hid' hg0
      clear ha0 hb0 hg0
      go_wp2_with fail
      refine (sclientEnded_any 1 (by omega) _).mono ?_
      rintro e w1 ⟨rfl, hw1⟩
      subst w1
      rw [show ((if 1 = 1 then 2 else 4 : Nat)) = 2 from rfl]
      go_wp2_with (refine wpl_store 90 _ _ rfl rfl b0 #[.int .u8 2, .bool false, .bool false, .int .i64 0, .bool true] (by kernel_rfl) (by kernel_rfl) _ _ HA0.out ssizeV rfl (by simp [Value.oneCell']) ?_)
      intro w2 ha2 hu2
      go_wp2
      have hld := sldV ha2
      refine bodyPost_ret (v := .agg #[.int .u8 2, .bool false, .bool false, .int .i64 0, .bool true]) (by simp [results, Try.results82, asAddr, hld]) rfl ⟨rfl, HB0.out.trans (hu2.below HG0.out)⟩
  · cases e0
    · go_enter Try.func82, Try.ntmps82
      go_wp2_with (refine wpl_alloc 90 rfl rfl _ szeroV ?_)
      intro b0 w0 hg0 ha0 hb0
      have HA0 := hid' ha0
      have HB0 := hid' hb0
      have HG0 := hid' hg0
      clear ha0 hb0 hg0
      go_wp2_with fail
      refine (swithStream_any 5 _).mono ?_
      rintro e w1 ⟨rfl, hb1⟩
      have HA0 := hid' (HA0.out.keep hb1)
      have HB0 := hid' (below_two HB0.out hb1)
      clear hb1
      go_wp2_with (refine wpl_store 90 _ _ rfl rfl b0 #[.int .u8 2, .bool true, .bool false, .int .i64 5, .bool false] (by kernel_rfl) (by kernel_rfl) _ _ HA0.out ssizeV rfl (by simp [Value.oneCell']) ?_)
      intro w2 ha2 hu2
      go_wp2
      have hld := sldV ha2
      refine bodyPost_ret (v := .agg #[.int .u8 2, .bool true, .bool false, .int .i64 5, .bool false]) (by simp [results, Try.results82, asAddr, hld]) rfl ⟨rfl, HB0.out.trans (hu2.below HG0.out)⟩
    · go_enter Try.func82, Try.ntmps82
      go_wp2_with (refine wpl_alloc 90 rfl rfl _ szeroV ?_)
      intro b0 w0 hg0 ha0 hb0
      have HA0 := hid' ha0
      have HB0 := hid' hb0
      have HG0 := hid' hg0
      clear ha0 hb0 hg0
      go_wp2_with fail
      refine (swithStream_any 5 _).mono ?_
      rintro e w1 ⟨rfl, hb1⟩
      have HA0 := hid' (HA0.out.keep hb1)
      have HB0 := hid' (below_two HB0.out hb1)
      clear hb1
      go_wp2_with (refine wpl_store 90 _ _ rfl rfl b0 #[.int .u8 2, .bool true, .bool false, .int .i64 5, .bool false] (by kernel_rfl) (by kernel_rfl) _ _ HA0.out ssizeV rfl (by simp [Value.oneCell']) ?_)
      intro w2 ha2 hu2
      go_wp2
      have hld := sldV ha2
      refine bodyPost_ret (v := .agg #[.int .u8 2, .bool true, .bool false, .int .i64 5, .bool false]) (by simp [results, Try.results82, asAddr, hld]) rfl ⟨rfl, HB0.out.trans (hu2.below HG0.out)⟩
  · cases e0
    · go_enter Try.func82, Try.ntmps82
      go_wp2_with (refine wpl_alloc 90 rfl rfl _ szeroV ?_)
      intro b0 w0 hg0 ha0 hb0
      have HA0 := hid' ha0
      have HB0 := hid' hb0
      have HG0 := hid' hg0
      clear ha0 hb0 hg0
      go_wp2_with (refine wpl_store 90 _ _ rfl rfl b0 #[.int .u8 3, .bool false, .bool false, .int .i64 0, .bool true] (by kernel_rfl) (by kernel_rfl) _ _ HA0.out ssizeV rfl (by simp [Value.oneCell']) ?_)
      intro w2 ha2 hu2
      go_wp2
      have hld := sldV ha2
      refine bodyPost_ret (v := .agg #[.int .u8 3, .bool false, .bool false, .int .i64 0, .bool true]) (by simp [results, Try.results82, asAddr, hld]) rfl ⟨rfl, HB0.out.trans (hu2.below HG0.out)⟩
    · go_enter Try.func82, Try.ntmps82
      go_wp2_with (refine wpl_alloc 90 rfl rfl _ szeroV ?_)
      intro b0 w0 hg0 ha0 hb0
      have HA0 := hid' ha0
      have HB0 := hid' hb0
      have HG0 := hid' hg0
      clear ha0 hb0 hg0
      go_wp2_with fail
      refine (sclientEnded_any 3 (by omega) _).mono ?_
      rintro e w1 ⟨rfl, hw1⟩
      subst w1
      rw [show ((if 3 = 1 then 2 else 4 : Nat)) = 4 from rfl]
      go_wp2_with (refine wpl_store 90 _ _ rfl rfl b0 #[.int .u8 4, .bool false, .bool false, .int .i64 0, .bool true] (by kernel_rfl) (by kernel_rfl) _ _ HA0.out ssizeV rfl (by simp [Value.oneCell']) ?_)
      intro w2 ha2 hu2
      go_wp2
      have hld := sldV ha2
      refine bodyPost_ret (v := .agg #[.int .u8 4, .bool false, .bool false, .int .i64 0, .bool true]) (by simp [results, Try.results82, asAddr, hld]) rfl ⟨rfl, HB0.out.trans (hu2.below HG0.out)⟩
  · cases e0
    · go_enter Try.func82, Try.ntmps82
      go_wp2_with (refine wpl_alloc 90 rfl rfl _ szeroV ?_)
      intro b0 w0 hg0 ha0 hb0
      have HA0 := hid' ha0
      have HB0 := hid' hb0
      have HG0 := hid' hg0
      clear ha0 hb0 hg0
      go_wp2_with fail
      refine (swithConn_any 5 _).mono ?_
      rintro e w1 ⟨rfl, hb1⟩
      have HA0 := hid' (HA0.out.keep hb1)
      have HB0 := hid' (below_two HB0.out hb1)
      clear hb1
      go_wp2_with (refine wpl_store 90 _ _ rfl rfl b0 #[.int .u8 4, .bool true, .bool true, .int .i64 5, .bool false] (by kernel_rfl) (by kernel_rfl) _ _ HA0.out ssizeV rfl (by simp [Value.oneCell']) ?_)
      intro w2 ha2 hu2
      go_wp2
      have hld := sldV ha2
      refine bodyPost_ret (v := .agg #[.int .u8 4, .bool true, .bool true, .int .i64 5, .bool false]) (by simp [results, Try.results82, asAddr, hld]) rfl ⟨rfl, HB0.out.trans (hu2.below HG0.out)⟩
    · go_enter Try.func82, Try.ntmps82
      go_wp2_with (refine wpl_alloc 90 rfl rfl _ szeroV ?_)
      intro b0 w0 hg0 ha0 hb0
      have HA0 := hid' ha0
      have HB0 := hid' hb0
      have HG0 := hid' hg0
      clear ha0 hb0 hg0
      go_wp2_with fail
      refine (swithConn_any 5 _).mono ?_
      rintro e w1 ⟨rfl, hb1⟩
      have HA0 := hid' (HA0.out.keep hb1)
      have HB0 := hid' (below_two HB0.out hb1)
      clear hb1
      go_wp2_with (refine wpl_store 90 _ _ rfl rfl b0 #[.int .u8 4, .bool true, .bool true, .int .i64 5, .bool false] (by kernel_rfl) (by kernel_rfl) _ _ HA0.out ssizeV rfl (by simp [Value.oneCell']) ?_)
      intro w2 ha2 hu2
      go_wp2
      have hld := sldV ha2
      refine bodyPost_ret (v := .agg #[.int .u8 4, .bool true, .bool true, .int .i64 5, .bool false]) (by simp [results, Try.results82, asAddr, hld]) rfl ⟨rfl, HB0.out.trans (hu2.below HG0.out)⟩
  · cases e0
    · go_enter Try.func82, Try.ntmps82
      go_wp2_with (refine wpl_alloc 90 rfl rfl _ szeroV ?_)
      intro b0 w0 hg0 ha0 hb0
      have HA0 := hid' ha0
      have HB0 := hid' hb0
      have HG0 := hid' hg0
      clear ha0 hb0 hg0
      go_wp2_with (refine wpl_store 90 _ _ rfl rfl b0 #[.int .u8 5, .bool false, .bool false, .int .i64 0, .bool false] (by kernel_rfl) (by kernel_rfl) _ _ HA0.out ssizeV rfl (by simp [Value.oneCell']) ?_)
      intro w2 ha2 hu2
      go_wp2
      have hld := sldV ha2
      refine bodyPost_ret (v := .agg #[.int .u8 5, .bool false, .bool false, .int .i64 0, .bool false]) (by simp [results, Try.results82, asAddr, hld]) rfl ⟨rfl, HB0.out.trans (hu2.below HG0.out)⟩
    · go_enter Try.func82, Try.ntmps82
      go_wp2_with (refine wpl_alloc 90 rfl rfl _ szeroV ?_)
      intro b0 w0 hg0 ha0 hb0
      have HA0 := hid' ha0
      have HB0 := hid' hb0
      have HG0 := hid' hg0
      clear ha0 hb0 hg0
      go_wp2_with (refine wpl_store 90 _ _ rfl rfl b0 #[.int .u8 5, .bool false, .bool false, .int .i64 0, .bool false] (by kernel_rfl) (by kernel_rfl) _ _ HA0.out ssizeV rfl (by simp [Value.oneCell']) ?_)
      intro w2 ha2 hu2
      go_wp2
      have hld := sldV ha2
      refine bodyPost_ret (v := .agg #[.int .u8 5, .bool false, .bool false, .int .i64 0, .bool false]) (by simp [results, Try.results82, asAddr, hld]) rfl ⟨rfl, HB0.out.trans (hu2.below HG0.out)⟩

theorem sgotReset_any (p : Nat) (hp : p ≤ 5) (w : World) : Calls Try.prog 83 #[.int .u8 (p : Int)] w fun e w' => e = .returned (.agg (vdC (Sm.gotReset p))) ∧ Below w.heap.size w w' := by
  rcases six hp with rfl | rfl | rfl | rfl | rfl | rfl
  · go_enter Try.func83, Try.ntmps83
    go_wp2_with (refine wpl_alloc 90 rfl rfl _ szeroV ?_)
    intro b0 w0 hg0 ha0 hb0
    have HA0 := hid' ha0
    have HB0 := hid' hb0
    have HG0 := hid' hg0
    clear ha0 hb0 hg0
    go_wp2_with fail
    refine (swithConn_any 1 _).mono ?_
    rintro e w1 ⟨rfl, hb1⟩
    have HA0 := hid' (HA0.out.keep hb1)
    have HB0 := hid' (below_two HB0.out hb1)
    clear hb1
    go_wp2_with (refine wpl_store 90 _ _ rfl rfl b0 #[.int .u8 0, .bool true, .bool true, .int .i64 1, .bool false] (by kernel_rfl) (by kernel_rfl) _ _ HA0.out ssizeV rfl (by simp [Value.oneCell']) ?_)
    intro w2 ha2 hu2
    go_wp2
    have hld := sldV ha2
    refine bodyPost_ret (v := .agg #[.int .u8 0, .bool true, .bool true, .int .i64 1, .bool false]) (by simp [results, Try.results83, asAddr, hld]) rfl ⟨rfl, HB0.out.trans (hu2.below HG0.out)⟩
  · go_enter Try.func83, Try.ntmps83
    go_wp2_with (refine wpl_alloc 90 rfl rfl _ szeroV ?_)
    intro b0 w0 hg0 ha0 hb0
    have HA0 := hid' ha0
    have HB0 := hid' hb0
    have HG0 := hid' hg0
    clear ha0 hb0 hg0
    go_wp2_with fail
    refine (sisOpen_any 1 (by omega) _).mono ?_
    rintro e w1 ⟨rfl, hw1⟩
    subst w1
    simp only [show Sm.isOpen 1 = true from rfl]
    go_wp2_with (refine wpl_store 90 _ _ rfl rfl b0 #[.int .u8 4, .bool false, .bool false, .int .i64 0, .bool true] (by kernel_rfl) (by kernel_rfl) _ _ HA0.out ssizeV rfl (by simp [Value.oneCell']) ?_)
    intro w2 ha2 hu2
    go_wp2
    have hld := sldV ha2
    refine bodyPost_ret (v := .agg #[.int .u8 4, .bool false, .bool false, .int .i64 0, .bool true]) (by simp [results, Try.results83, asAddr, hld]) rfl ⟨rfl, HB0.out.trans (hu2.below HG0.out)⟩
  · go_enter Try.func83, Try.ntmps83
    go_wp2_with (refine wpl_alloc 90 rfl rfl _ szeroV ?_)
    intro b0 w0 hg0 ha0 hb0
    have HA0 := hid' ha0
    have HB0 := hid' hb0
    have HG0 := hid' hg0
    clear ha0 hb0 hg0
    go_wp2_with fail
    refine (sisOpen_any 2 (by omega) _).mono ?_
    rintro e w1 ⟨rfl, hw1⟩
    subst w1
    simp only [show Sm.isOpen 2 = true from rfl]
    go_wp2_with (refine wpl_store 90 _ _ rfl rfl b0 #[.int .u8 4, .bool false, .bool false, .int .i64 0, .bool true] (by kernel_rfl) (by kernel_rfl) _ _ HA0.out ssizeV rfl (by simp [Value.oneCell']) ?_)
    intro w2 ha2 hu2
    go_wp2
    have hld := sldV ha2
    refine bodyPost_ret (v := .agg #[.int .u8 4, .bool false, .bool false, .int .i64 0, .bool true]) (by simp [results, Try.results83, asAddr, hld]) rfl ⟨rfl, HB0.out.trans (hu2.below HG0.out)⟩
  · go_enter Try.func83, Try.ntmps83
    go_wp2_with (refine wpl_alloc 90 rfl rfl _ szeroV ?_)
    intro b0 w0 hg0 ha0 hb0
    have HA0 := hid' ha0
    have HB0 := hid' hb0
    have HG0 := hid' hg0
    clear ha0 hb0 hg0
    go_wp2_with fail
    refine (sisOpen_any 3 (by omega) _).mono ?_
    rintro e w1 ⟨rfl, hw1⟩
    subst w1
    simp only [show Sm.isOpen 3 = true from rfl]
    go_wp2_with (refine wpl_store 90 _ _ rfl rfl b0 #[.int .u8 4, .bool false, .bool false, .int .i64 0, .bool true] (by kernel_rfl) (by kernel_rfl) _ _ HA0.out ssizeV rfl (by simp [Value.oneCell']) ?_)
    intro w2 ha2 hu2
    go_wp2
    have hld := sldV ha2
    refine bodyPost_ret (v := .agg #[.int .u8 4, .bool false, .bool false, .int .i64 0, .bool true]) (by simp [results, Try.results83, asAddr, hld]) rfl ⟨rfl, HB0.out.trans (hu2.below HG0.out)⟩
  · go_enter Try.func83, Try.ntmps83
    go_wp2_with (refine wpl_alloc 90 rfl rfl _ szeroV ?_)
    intro b0 w0 hg0 ha0 hb0
    have HA0 := hid' ha0
    have HB0 := hid' hb0
    have HG0 := hid' hg0
    clear ha0 hb0 hg0
    go_wp2_with fail
    refine (sisOpen_any 4 (by omega) _).mono ?_
    rintro e w1 ⟨rfl, hw1⟩
    subst w1
    simp only [show Sm.isOpen 4 = false from rfl]
    go_wp2_with (refine wpl_store 90 _ _ rfl rfl b0 #[.int .u8 4, .bool false, .bool false, .int .i64 0, .bool false] (by kernel_rfl) (by kernel_rfl) _ _ HA0.out ssizeV rfl (by simp [Value.oneCell']) ?_)
    intro w2 ha2 hu2
    go_wp2
    have hld := sldV ha2
    refine bodyPost_ret (v := .agg #[.int .u8 4, .bool false, .bool false, .int .i64 0, .bool false]) (by simp [results, Try.results83, asAddr, hld]) rfl ⟨rfl, HB0.out.trans (hu2.below HG0.out)⟩
  · go_enter Try.func83, Try.ntmps83
    go_wp2_with (refine wpl_alloc 90 rfl rfl _ szeroV ?_)
    intro b0 w0 hg0 ha0 hb0
    have HA0 := hid' ha0
    have HB0 := hid' hb0
    have HG0 := hid' hg0
    clear ha0 hb0 hg0
    go_wp2_with fail
    refine (sisOpen_any 5 (by omega) _).mono ?_
    rintro e w1 ⟨rfl, hw1⟩
    subst w1
    simp only [show Sm.isOpen 5 = false from rfl]
    go_wp2_with (refine wpl_store 90 _ _ rfl rfl b0 #[.int .u8 4, .bool false, .bool false, .int .i64 0, .bool false] (by kernel_rfl) (by kernel_rfl) _ _ HA0.out ssizeV rfl (by simp [Value.oneCell']) ?_)
    intro w2 ha2 hu2
    go_wp2
    have hld := sldV ha2
    refine bodyPost_ret (v := .agg #[.int .u8 4, .bool false, .bool false, .int .i64 0, .bool false]) (by simp [results, Try.results83, asAddr, hld]) rfl ⟨rfl, HB0.out.trans (hu2.below HG0.out)⟩

theorem sgotWindow_any (p : Nat) (hp : p ≤ 5) (w : World) : Calls Try.prog 84 #[.int .u8 (p : Int)] w fun e w' => e = .returned (.agg (vdC (Sm.gotWindow p))) ∧ Below w.heap.size w w' := by
  rcases six hp with rfl | rfl | rfl | rfl | rfl | rfl
  · go_enter Try.func84, Try.ntmps84
    go_wp2_with (refine wpl_alloc 90 rfl rfl _ szeroV ?_)
    intro b0 w0 hg0 ha0 hb0
    have HA0 := hid' ha0
    have HB0 := hid' hb0
    have HG0 := hid' hg0
    clear ha0 hb0 hg0
    go_wp2_with fail
    refine (swithConn_any 1 _).mono ?_
    rintro e w1 ⟨rfl, hb1⟩
    have HA0 := hid' (HA0.out.keep hb1)
    have HB0 := hid' (below_two HB0.out hb1)
    clear hb1
    go_wp2_with (refine wpl_store 90 _ _ rfl rfl b0 #[.int .u8 0, .bool true, .bool true, .int .i64 1, .bool false] (by kernel_rfl) (by kernel_rfl) _ _ HA0.out ssizeV rfl (by simp [Value.oneCell']) ?_)
    intro w2 ha2 hu2
    go_wp2
    have hld := sldV ha2
    refine bodyPost_ret (v := .agg #[.int .u8 0, .bool true, .bool true, .int .i64 1, .bool false]) (by simp [results, Try.results84, asAddr, hld]) rfl ⟨rfl, HB0.out.trans (hu2.below HG0.out)⟩
  · go_enter Try.func84, Try.ntmps84
    go_wp2_with (refine wpl_alloc 90 rfl rfl _ szeroV ?_)
    intro b0 w0 hg0 ha0 hb0
    have HA0 := hid' ha0
    have HB0 := hid' hb0
    have HG0 := hid' hg0
    clear ha0 hb0 hg0
    go_wp2_with fail
    refine (sisOpen_any 1 (by omega) _).mono ?_
    rintro e w1 ⟨rfl, hw1⟩
    subst w1
    simp only [show Sm.isOpen 1 = true from rfl]
    go_wp2_with (refine wpl_store 90 _ _ rfl rfl b0 #[.int .u8 1, .bool false, .bool false, .int .i64 0, .bool true] (by kernel_rfl) (by kernel_rfl) _ _ HA0.out ssizeV rfl (by simp [Value.oneCell']) ?_)
    intro w2 ha2 hu2
    go_wp2
    have hld := sldV ha2
    refine bodyPost_ret (v := .agg #[.int .u8 1, .bool false, .bool false, .int .i64 0, .bool true]) (by simp [results, Try.results84, asAddr, hld]) rfl ⟨rfl, HB0.out.trans (hu2.below HG0.out)⟩
  · go_enter Try.func84, Try.ntmps84
    go_wp2_with (refine wpl_alloc 90 rfl rfl _ szeroV ?_)
    intro b0 w0 hg0 ha0 hb0
    have HA0 := hid' ha0
    have HB0 := hid' hb0
    have HG0 := hid' hg0
    clear ha0 hb0 hg0
    go_wp2_with fail
    refine (sisOpen_any 2 (by omega) _).mono ?_
    rintro e w1 ⟨rfl, hw1⟩
    subst w1
    simp only [show Sm.isOpen 2 = true from rfl]
    go_wp2_with (refine wpl_store 90 _ _ rfl rfl b0 #[.int .u8 2, .bool false, .bool false, .int .i64 0, .bool true] (by kernel_rfl) (by kernel_rfl) _ _ HA0.out ssizeV rfl (by simp [Value.oneCell']) ?_)
    intro w2 ha2 hu2
    go_wp2
    have hld := sldV ha2
    refine bodyPost_ret (v := .agg #[.int .u8 2, .bool false, .bool false, .int .i64 0, .bool true]) (by simp [results, Try.results84, asAddr, hld]) rfl ⟨rfl, HB0.out.trans (hu2.below HG0.out)⟩
  · go_enter Try.func84, Try.ntmps84
    go_wp2_with (refine wpl_alloc 90 rfl rfl _ szeroV ?_)
    intro b0 w0 hg0 ha0 hb0
    have HA0 := hid' ha0
    have HB0 := hid' hb0
    have HG0 := hid' hg0
    clear ha0 hb0 hg0
    go_wp2_with fail
    refine (sisOpen_any 3 (by omega) _).mono ?_
    rintro e w1 ⟨rfl, hw1⟩
    subst w1
    simp only [show Sm.isOpen 3 = true from rfl]
    go_wp2_with (refine wpl_store 90 _ _ rfl rfl b0 #[.int .u8 3, .bool false, .bool false, .int .i64 0, .bool true] (by kernel_rfl) (by kernel_rfl) _ _ HA0.out ssizeV rfl (by simp [Value.oneCell']) ?_)
    intro w2 ha2 hu2
    go_wp2
    have hld := sldV ha2
    refine bodyPost_ret (v := .agg #[.int .u8 3, .bool false, .bool false, .int .i64 0, .bool true]) (by simp [results, Try.results84, asAddr, hld]) rfl ⟨rfl, HB0.out.trans (hu2.below HG0.out)⟩
  · go_enter Try.func84, Try.ntmps84
    go_wp2_with (refine wpl_alloc 90 rfl rfl _ szeroV ?_)
    intro b0 w0 hg0 ha0 hb0
    have HA0 := hid' ha0
    have HB0 := hid' hb0
    have HG0 := hid' hg0
    clear ha0 hb0 hg0
    go_wp2_with fail
    refine (sisOpen_any 4 (by omega) _).mono ?_
    rintro e w1 ⟨rfl, hw1⟩
    subst w1
    simp only [show Sm.isOpen 4 = false from rfl]
    go_wp2_with (refine wpl_store 90 _ _ rfl rfl b0 #[.int .u8 4, .bool false, .bool false, .int .i64 0, .bool false] (by kernel_rfl) (by kernel_rfl) _ _ HA0.out ssizeV rfl (by simp [Value.oneCell']) ?_)
    intro w2 ha2 hu2
    go_wp2
    have hld := sldV ha2
    refine bodyPost_ret (v := .agg #[.int .u8 4, .bool false, .bool false, .int .i64 0, .bool false]) (by simp [results, Try.results84, asAddr, hld]) rfl ⟨rfl, HB0.out.trans (hu2.below HG0.out)⟩
  · go_enter Try.func84, Try.ntmps84
    go_wp2_with (refine wpl_alloc 90 rfl rfl _ szeroV ?_)
    intro b0 w0 hg0 ha0 hb0
    have HA0 := hid' ha0
    have HB0 := hid' hb0
    have HG0 := hid' hg0
    clear ha0 hb0 hg0
    go_wp2_with fail
    refine (sisOpen_any 5 (by omega) _).mono ?_
    rintro e w1 ⟨rfl, hw1⟩
    subst w1
    simp only [show Sm.isOpen 5 = false from rfl]
    go_wp2_with (refine wpl_store 90 _ _ rfl rfl b0 #[.int .u8 5, .bool false, .bool false, .int .i64 0, .bool false] (by kernel_rfl) (by kernel_rfl) _ _ HA0.out ssizeV rfl (by simp [Value.oneCell']) ?_)
    intro w2 ha2 hu2
    go_wp2
    have hld := sldV ha2
    refine bodyPost_ret (v := .agg #[.int .u8 5, .bool false, .bool false, .int .i64 0, .bool false]) (by simp [results, Try.results84, asAddr, hld]) rfl ⟨rfl, HB0.out.trans (hu2.below HG0.out)⟩

theorem sgotPriority_any (p : Nat) (hp : p ≤ 5) (w : World) : Calls Try.prog 85 #[.int .u8 (p : Int)] w fun e w' => e = .returned (.agg (vdC (Sm.gotPriority p))) ∧ Below w.heap.size w w' := by
  rcases six hp with rfl | rfl | rfl | rfl | rfl | rfl
  · go_enter Try.func85, Try.ntmps85
    go_wp2_with (refine wpl_alloc 90 rfl rfl _ szeroV ?_)
    intro b0 w0 hg0 ha0 hb0
    have HA0 := hid' ha0
    have HB0 := hid' hb0
    have HG0 := hid' hg0
    clear ha0 hb0 hg0
    go_wp2_with fail
    refine (sisOpen_any 0 (by omega) _).mono ?_
    rintro e w1 ⟨rfl, hw1⟩
    subst w1
    simp only [show Sm.isOpen 0 = false from rfl]
    go_wp2_with (refine wpl_store 90 _ _ rfl rfl b0 #[.int .u8 0, .bool false, .bool false, .int .i64 0, .bool false] (by kernel_rfl) (by kernel_rfl) _ _ HA0.out ssizeV rfl (by simp [Value.oneCell']) ?_)
    intro w2 ha2 hu2
    go_wp2
    have hld := sldV ha2
    refine bodyPost_ret (v := .agg #[.int .u8 0, .bool false, .bool false, .int .i64 0, .bool false]) (by simp [results, Try.results85, asAddr, hld]) rfl ⟨rfl, HB0.out.trans (hu2.below HG0.out)⟩
  · go_enter Try.func85, Try.ntmps85
    go_wp2_with (refine wpl_alloc 90 rfl rfl _ szeroV ?_)
    intro b0 w0 hg0 ha0 hb0
    have HA0 := hid' ha0
    have HB0 := hid' hb0
    have HG0 := hid' hg0
    clear ha0 hb0 hg0
    go_wp2_with fail
    refine (sisOpen_any 1 (by omega) _).mono ?_
    rintro e w1 ⟨rfl, hw1⟩
    subst w1
    simp only [show Sm.isOpen 1 = true from rfl]
    go_wp2_with (refine wpl_store 90 _ _ rfl rfl b0 #[.int .u8 1, .bool false, .bool false, .int .i64 0, .bool true] (by kernel_rfl) (by kernel_rfl) _ _ HA0.out ssizeV rfl (by simp [Value.oneCell']) ?_)
    intro w2 ha2 hu2
    go_wp2
    have hld := sldV ha2
    refine bodyPost_ret (v := .agg #[.int .u8 1, .bool false, .bool false, .int .i64 0, .bool true]) (by simp [results, Try.results85, asAddr, hld]) rfl ⟨rfl, HB0.out.trans (hu2.below HG0.out)⟩
  · go_enter Try.func85, Try.ntmps85
    go_wp2_with (refine wpl_alloc 90 rfl rfl _ szeroV ?_)
    intro b0 w0 hg0 ha0 hb0
    have HA0 := hid' ha0
    have HB0 := hid' hb0
    have HG0 := hid' hg0
    clear ha0 hb0 hg0
    go_wp2_with fail
    refine (sisOpen_any 2 (by omega) _).mono ?_
    rintro e w1 ⟨rfl, hw1⟩
    subst w1
    simp only [show Sm.isOpen 2 = true from rfl]
    go_wp2_with (refine wpl_store 90 _ _ rfl rfl b0 #[.int .u8 2, .bool false, .bool false, .int .i64 0, .bool true] (by kernel_rfl) (by kernel_rfl) _ _ HA0.out ssizeV rfl (by simp [Value.oneCell']) ?_)
    intro w2 ha2 hu2
    go_wp2
    have hld := sldV ha2
    refine bodyPost_ret (v := .agg #[.int .u8 2, .bool false, .bool false, .int .i64 0, .bool true]) (by simp [results, Try.results85, asAddr, hld]) rfl ⟨rfl, HB0.out.trans (hu2.below HG0.out)⟩
  · go_enter Try.func85, Try.ntmps85
    go_wp2_with (refine wpl_alloc 90 rfl rfl _ szeroV ?_)
    intro b0 w0 hg0 ha0 hb0
    have HA0 := hid' ha0
    have HB0 := hid' hb0
    have HG0 := hid' hg0
    clear ha0 hb0 hg0
    go_wp2_with fail
    refine (sisOpen_any 3 (by omega) _).mono ?_
    rintro e w1 ⟨rfl, hw1⟩
    subst w1
    simp only [show Sm.isOpen 3 = true from rfl]
    go_wp2_with (refine wpl_store 90 _ _ rfl rfl b0 #[.int .u8 3, .bool false, .bool false, .int .i64 0, .bool true] (by kernel_rfl) (by kernel_rfl) _ _ HA0.out ssizeV rfl (by simp [Value.oneCell']) ?_)
    intro w2 ha2 hu2
    go_wp2
    have hld := sldV ha2
    refine bodyPost_ret (v := .agg #[.int .u8 3, .bool false, .bool false, .int .i64 0, .bool true]) (by simp [results, Try.results85, asAddr, hld]) rfl ⟨rfl, HB0.out.trans (hu2.below HG0.out)⟩
  · go_enter Try.func85, Try.ntmps85
    go_wp2_with (refine wpl_alloc 90 rfl rfl _ szeroV ?_)
    intro b0 w0 hg0 ha0 hb0
    have HA0 := hid' ha0
    have HB0 := hid' hb0
    have HG0 := hid' hg0
    clear ha0 hb0 hg0
    go_wp2_with fail
    refine (sisOpen_any 4 (by omega) _).mono ?_
    rintro e w1 ⟨rfl, hw1⟩
    subst w1
    simp only [show Sm.isOpen 4 = false from rfl]
    go_wp2_with (refine wpl_store 90 _ _ rfl rfl b0 #[.int .u8 4, .bool false, .bool false, .int .i64 0, .bool false] (by kernel_rfl) (by kernel_rfl) _ _ HA0.out ssizeV rfl (by simp [Value.oneCell']) ?_)
    intro w2 ha2 hu2
    go_wp2
    have hld := sldV ha2
    refine bodyPost_ret (v := .agg #[.int .u8 4, .bool false, .bool false, .int .i64 0, .bool false]) (by simp [results, Try.results85, asAddr, hld]) rfl ⟨rfl, HB0.out.trans (hu2.below HG0.out)⟩
  · go_enter Try.func85, Try.ntmps85
    go_wp2_with (refine wpl_alloc 90 rfl rfl _ szeroV ?_)
    intro b0 w0 hg0 ha0 hb0
    have HA0 := hid' ha0
    have HB0 := hid' hb0
    have HG0 := hid' hg0
    clear ha0 hb0 hg0
    go_wp2_with fail
    refine (sisOpen_any 5 (by omega) _).mono ?_
    rintro e w1 ⟨rfl, hw1⟩
    subst w1
    simp only [show Sm.isOpen 5 = false from rfl]
    go_wp2_with (refine wpl_store 90 _ _ rfl rfl b0 #[.int .u8 5, .bool false, .bool false, .int .i64 0, .bool false] (by kernel_rfl) (by kernel_rfl) _ _ HA0.out ssizeV rfl (by simp [Value.oneCell']) ?_)
    intro w2 ha2 hu2
    go_wp2
    have hld := sldV ha2
    refine bodyPost_ret (v := .agg #[.int .u8 5, .bool false, .bool false, .int .i64 0, .bool false]) (by simp [results, Try.results85, asAddr, hld]) rfl ⟨rfl, HB0.out.trans (hu2.below HG0.out)⟩

theorem ssent_any (p : Nat) (hp : p ≤ 5) (e0 : Bool) (w : World) : Calls Try.prog 86 #[.int .u8 (p : Int), .bool e0] w fun e w' => e = .returned (.agg (vdC (Sm.sent p e0))) ∧ Below w.heap.size w w' := by
  rcases six hp with rfl | rfl | rfl | rfl | rfl | rfl
  · cases e0
    · go_enter Try.func86, Try.ntmps86
      go_wp2_with (refine wpl_alloc 90 rfl rfl _ szeroV ?_)
      intro b0 w0 hg0 ha0 hb0
      have HA0 := hid' ha0
      have HB0 := hid' hb0
      have HG0 := hid' hg0
      clear ha0 hb0 hg0
      go_wp2_with fail
      refine (swithStream_any 2 _).mono ?_
      rintro e w1 ⟨rfl, hb1⟩
      have HA0 := hid' (HA0.out.keep hb1)
      have HB0 := hid' (below_two HB0.out hb1)
      clear hb1
      go_wp2_with (refine wpl_store 90 _ _ rfl rfl b0 #[.int .u8 0, .bool true, .bool false, .int .i64 2, .bool false] (by kernel_rfl) (by kernel_rfl) _ _ HA0.out ssizeV rfl (by simp [Value.oneCell']) ?_)
      intro w2 ha2 hu2
      go_wp2
      have hld := sldV ha2
      refine bodyPost_ret (v := .agg #[.int .u8 0, .bool true, .bool false, .int .i64 2, .bool false]) (by simp [results, Try.results86, asAddr, hld]) rfl ⟨rfl, HB0.out.trans (hu2.below HG0.out)⟩
    · go_enter Try.func86, Try.ntmps86
      go_wp2_with (refine wpl_alloc 90 rfl rfl _ szeroV ?_)
      intro b0 w0 hg0 ha0 hb0
      have HA0 := hid' ha0
      have HB0 := hid' hb0
      have HG0 := hid' hg0
      clear ha0 hb0 hg0
      go_wp2_with fail
      refine (swithStream_any 2 _).mono ?_
      rintro e w1 ⟨rfl, hb1⟩
      have HA0 := hid' (HA0.out.keep hb1)
      have HB0 := hid' (below_two HB0.out hb1)
      clear hb1
      go_wp2_with (refine wpl_store 90 _ _ rfl rfl b0 #[.int .u8 0, .bool true, .bool false, .int .i64 2, .bool false] (by kernel_rfl) (by kernel_rfl) _ _ HA0.out ssizeV rfl (by simp [Value.oneCell']) ?_)
      intro w2 ha2 hu2
      go_wp2
      have hld := sldV ha2
      refine bodyPost_ret (v := .agg #[.int .u8 0, .bool true, .bool false, .int .i64 2, .bool false]) (by simp [results, Try.results86, asAddr, hld]) rfl ⟨rfl, HB0.out.trans (hu2.below HG0.out)⟩
  · cases e0
    · go_enter Try.func86, Try.ntmps86
      go_wp2_with (refine wpl_alloc 90 rfl rfl _ szeroV ?_)
      intro b0 w0 hg0 ha0 hb0
      have HA0 := hid' ha0
      have HB0 := hid' hb0
      have HG0 := hid' hg0
      clear ha0 hb0 hg0
      go_wp2_with (refine wpl_store 90 _ _ rfl rfl b0 #[.int .u8 1, .bool false, .bool false, .int .i64 0, .bool true] (by kernel_rfl) (by kernel_rfl) _ _ HA0.out ssizeV rfl (by simp [Value.oneCell']) ?_)
      intro w2 ha2 hu2
      go_wp2
      have hld := sldV ha2
      refine bodyPost_ret (v := .agg #[.int .u8 1, .bool false, .bool false, .int .i64 0, .bool true]) (by simp [results, Try.results86, asAddr, hld]) rfl ⟨rfl, HB0.out.trans (hu2.below HG0.out)⟩
    · go_enter Try.func86, Try.ntmps86
      go_wp2_with (refine wpl_alloc 90 rfl rfl _ szeroV ?_)
      intro b0 w0 hg0 ha0 hb0
      have HA0 := hid' ha0
      have HB0 := hid' hb0
      have HG0 := hid' hg0
      clear ha0 hb0 hg0
      go_wp2_with fail
      refine (sserverEnded_any 1 (by omega) _).mono ?_
      rintro e w1 ⟨rfl, hw1⟩
      subst w1
      rw [show ((if 1 = 1 then 3 else 4 : Nat)) = 3 from rfl]
      go_wp2_with (refine wpl_store 90 _ _ rfl rfl b0 #[.int .u8 3, .bool false, .bool false, .int .i64 0, .bool true] (by kernel_rfl) (by kernel_rfl) _ _ HA0.out ssizeV rfl (by simp [Value.oneCell']) ?_)
      intro w2 ha2 hu2
      go_wp2
      have hld := sldV ha2
      refine bodyPost_ret (v := .agg #[.int .u8 3, .bool false, .bool false, .int .i64 0, .bool true]) (by simp [results, Try.results86, asAddr, hld]) rfl ⟨rfl, HB0.out.trans (hu2.below HG0.out)⟩
  · cases e0
    · go_enter Try.func86, Try.ntmps86
      go_wp2_with (refine wpl_alloc 90 rfl rfl _ szeroV ?_)
      intro b0 w0 hg0 ha0 hb0
      have HA0 := hid' ha0
      have HB0 := hid' hb0
      have HG0 := hid' hg0
      clear ha0 hb0 hg0
      go_wp2_with (refine wpl_store 90 _ _ rfl rfl b0 #[.int .u8 2, .bool false, .bool false, .int .i64 0, .bool true] (by kernel_rfl) (by kernel_rfl) _ _ HA0.out ssizeV rfl (by simp [Value.oneCell']) ?_)
      intro w2 ha2 hu2
      go_wp2
      have hld := sldV ha2
      refine bodyPost_ret (v := .agg #[.int .u8 2, .bool false, .bool false, .int .i64 0, .bool true]) (by simp [results, Try.results86, asAddr, hld]) rfl ⟨rfl, HB0.out.trans (hu2.below HG0.out)⟩
    · go_enter Try.func86, Try.ntmps86
      go_wp2_with (refine wpl_alloc 90 rfl rfl _ szeroV ?_)
      intro b0 w0 hg0 ha0 hb0
      have HA0 := hid' ha0
      have HB0 := hid' hb0
      have HG0 := hid' hg0
      clear ha0 hb0 hg0
      go_wp2_with fail
      refine (sserverEnded_any 2 (by omega) _).mono ?_
      rintro e w1 ⟨rfl, hw1⟩
      subst w1
      rw [show ((if 2 = 1 then 3 else 4 : Nat)) = 4 from rfl]
      go_wp2_with (refine wpl_store 90 _ _ rfl rfl b0 #[.int .u8 4, .bool false, .bool false, .int .i64 0, .bool true] (by kernel_rfl) (by kernel_rfl) _ _ HA0.out ssizeV rfl (by simp [Value.oneCell']) ?_)
      intro w2 ha2 hu2
      go_wp2
      have hld := sldV ha2
      refine bodyPost_ret (v := .agg #[.int .u8 4, .bool false, .bool false, .int .i64 0, .bool true]) (by simp [results, Try.results86, asAddr, hld]) rfl ⟨rfl, HB0.out.trans (hu2.below HG0.out)⟩
  · cases e0
    · go_enter Try.func86, Try.ntmps86
      go_wp2_with (refine wpl_alloc 90 rfl rfl _ szeroV ?_)
      intro b0 w0 hg0 ha0 hb0
      have HA0 := hid' ha0
      have HB0 := hid' hb0
      have HG0 := hid' hg0
      clear ha0 hb0 hg0
      go_wp2_with fail
      refine (swithStream_any 2 _).mono ?_
      rintro e w1 ⟨rfl, hb1⟩
      have HA0 := hid' (HA0.out.keep hb1)
      have HB0 := hid' (below_two HB0.out hb1)
      clear hb1
      go_wp2_with (refine wpl_store 90 _ _ rfl rfl b0 #[.int .u8 3, .bool true, .bool false, .int .i64 2, .bool false] (by kernel_rfl) (by kernel_rfl) _ _ HA0.out ssizeV rfl (by simp [Value.oneCell']) ?_)
      intro w2 ha2 hu2
      go_wp2
      have hld := sldV ha2
      refine bodyPost_ret (v := .agg #[.int .u8 3, .bool true, .bool false, .int .i64 2, .bool false]) (by simp [results, Try.results86, asAddr, hld]) rfl ⟨rfl, HB0.out.trans (hu2.below HG0.out)⟩
    · go_enter Try.func86, Try.ntmps86
      go_wp2_with (refine wpl_alloc 90 rfl rfl _ szeroV ?_)
      intro b0 w0 hg0 ha0 hb0
      have HA0 := hid' ha0
      have HB0 := hid' hb0
      have HG0 := hid' hg0
      clear ha0 hb0 hg0
      go_wp2_with fail
      refine (swithStream_any 2 _).mono ?_
      rintro e w1 ⟨rfl, hb1⟩
      have HA0 := hid' (HA0.out.keep hb1)
      have HB0 := hid' (below_two HB0.out hb1)
      clear hb1
      go_wp2_with (refine wpl_store 90 _ _ rfl rfl b0 #[.int .u8 3, .bool true, .bool false, .int .i64 2, .bool false] (by kernel_rfl) (by kernel_rfl) _ _ HA0.out ssizeV rfl (by simp [Value.oneCell']) ?_)
      intro w2 ha2 hu2
      go_wp2
      have hld := sldV ha2
      refine bodyPost_ret (v := .agg #[.int .u8 3, .bool true, .bool false, .int .i64 2, .bool false]) (by simp [results, Try.results86, asAddr, hld]) rfl ⟨rfl, HB0.out.trans (hu2.below HG0.out)⟩
  · cases e0
    · go_enter Try.func86, Try.ntmps86
      go_wp2_with (refine wpl_alloc 90 rfl rfl _ szeroV ?_)
      intro b0 w0 hg0 ha0 hb0
      have HA0 := hid' ha0
      have HB0 := hid' hb0
      have HG0 := hid' hg0
      clear ha0 hb0 hg0
      go_wp2_with fail
      refine (swithStream_any 2 _).mono ?_
      rintro e w1 ⟨rfl, hb1⟩
      have HA0 := hid' (HA0.out.keep hb1)
      have HB0 := hid' (below_two HB0.out hb1)
      clear hb1
      go_wp2_with (refine wpl_store 90 _ _ rfl rfl b0 #[.int .u8 4, .bool true, .bool false, .int .i64 2, .bool false] (by kernel_rfl) (by kernel_rfl) _ _ HA0.out ssizeV rfl (by simp [Value.oneCell']) ?_)
      intro w2 ha2 hu2
      go_wp2
      have hld := sldV ha2
      refine bodyPost_ret (v := .agg #[.int .u8 4, .bool true, .bool false, .int .i64 2, .bool false]) (by simp [results, Try.results86, asAddr, hld]) rfl ⟨rfl, HB0.out.trans (hu2.below HG0.out)⟩
    · go_enter Try.func86, Try.ntmps86
      go_wp2_with (refine wpl_alloc 90 rfl rfl _ szeroV ?_)
      intro b0 w0 hg0 ha0 hb0
      have HA0 := hid' ha0
      have HB0 := hid' hb0
      have HG0 := hid' hg0
      clear ha0 hb0 hg0
      go_wp2_with fail
      refine (swithStream_any 2 _).mono ?_
      rintro e w1 ⟨rfl, hb1⟩
      have HA0 := hid' (HA0.out.keep hb1)
      have HB0 := hid' (below_two HB0.out hb1)
      clear hb1
      go_wp2_with (refine wpl_store 90 _ _ rfl rfl b0 #[.int .u8 4, .bool true, .bool false, .int .i64 2, .bool false] (by kernel_rfl) (by kernel_rfl) _ _ HA0.out ssizeV rfl (by simp [Value.oneCell']) ?_)
      intro w2 ha2 hu2
      go_wp2
      have hld := sldV ha2
      refine bodyPost_ret (v := .agg #[.int .u8 4, .bool true, .bool false, .int .i64 2, .bool false]) (by simp [results, Try.results86, asAddr, hld]) rfl ⟨rfl, HB0.out.trans (hu2.below HG0.out)⟩
  · cases e0
    · go_enter Try.func86, Try.ntmps86
      go_wp2_with (refine wpl_alloc 90 rfl rfl _ szeroV ?_)
      intro b0 w0 hg0 ha0 hb0
      have HA0 := hid' ha0
      have HB0 := hid' hb0
      have HG0 := hid' hg0
      clear ha0 hb0 hg0
      go_wp2_with fail
      refine (swithStream_any 2 _).mono ?_
      rintro e w1 ⟨rfl, hb1⟩
      have HA0 := hid' (HA0.out.keep hb1)
      have HB0 := hid' (below_two HB0.out hb1)
      clear hb1
      go_wp2_with (refine wpl_store 90 _ _ rfl rfl b0 #[.int .u8 5, .bool true, .bool false, .int .i64 2, .bool false] (by kernel_rfl) (by kernel_rfl) _ _ HA0.out ssizeV rfl (by simp [Value.oneCell']) ?_)
      intro w2 ha2 hu2
      go_wp2
      have hld := sldV ha2
      refine bodyPost_ret (v := .agg #[.int .u8 5, .bool true, .bool false, .int .i64 2, .bool false]) (by simp [results, Try.results86, asAddr, hld]) rfl ⟨rfl, HB0.out.trans (hu2.below HG0.out)⟩
    · go_enter Try.func86, Try.ntmps86
      go_wp2_with (refine wpl_alloc 90 rfl rfl _ szeroV ?_)
      intro b0 w0 hg0 ha0 hb0
      have HA0 := hid' ha0
      have HB0 := hid' hb0
      have HG0 := hid' hg0
      clear ha0 hb0 hg0
      go_wp2_with fail
      refine (swithStream_any 2 _).mono ?_
      rintro e w1 ⟨rfl, hb1⟩
      have HA0 := hid' (HA0.out.keep hb1)
      have HB0 := hid' (below_two HB0.out hb1)
      clear hb1
      go_wp2_with (refine wpl_store 90 _ _ rfl rfl b0 #[.int .u8 5, .bool true, .bool false, .int .i64 2, .bool false] (by kernel_rfl) (by kernel_rfl) _ _ HA0.out ssizeV rfl (by simp [Value.oneCell']) ?_)
      intro w2 ha2 hu2
      go_wp2
      have hld := sldV ha2
      refine bodyPost_ret (v := .agg #[.int .u8 5, .bool true, .bool false, .int .i64 2, .bool false]) (by simp [results, Try.results86, asAddr, hld]) rfl ⟨rfl, HB0.out.trans (hu2.below HG0.out)⟩

theorem ssentReset_any (p : Nat) (hp : p ≤ 5) (w : World) : Calls Try.prog 87 #[.int .u8 (p : Int)] w fun e w' => e = .returned (.agg (vdC (Sm.sentReset p))) ∧ Below w.heap.size w w' := by
  rcases six hp with rfl | rfl | rfl | rfl | rfl | rfl
  · go_enter Try.func87, Try.ntmps87
    go_wp2_with (refine wpl_alloc 90 rfl rfl _ szeroV ?_)
    intro b0 w0 hg0 ha0 hb0
    have HA0 := hid' ha0
    have HB0 := hid' hb0
    have HG0 := hid' hg0
    clear ha0 hb0 hg0
    go_wp2_with fail
    refine (swithStream_any 2 _).mono ?_
    rintro e w1 ⟨rfl, hb1⟩
    have HA0 := hid' (HA0.out.keep hb1)
    have HB0 := hid' (below_two HB0.out hb1)
    clear hb1
    go_wp2_with (refine wpl_store 90 _ _ rfl rfl b0 #[.int .u8 0, .bool true, .bool false, .int .i64 2, .bool false] (by kernel_rfl) (by kernel_rfl) _ _ HA0.out ssizeV rfl (by simp [Value.oneCell']) ?_)
    intro w2 ha2 hu2
    go_wp2
    have hld := sldV ha2
    refine bodyPost_ret (v := .agg #[.int .u8 0, .bool true, .bool false, .int .i64 2, .bool false]) (by simp [results, Try.results87, asAddr, hld]) rfl ⟨rfl, HB0.out.trans (hu2.below HG0.out)⟩
  · go_enter Try.func87, Try.ntmps87
    go_wp2_with (refine wpl_alloc 90 rfl rfl _ szeroV ?_)
    intro b0 w0 hg0 ha0 hb0
    have HA0 := hid' ha0
    have HB0 := hid' hb0
    have HG0 := hid' hg0
    clear ha0 hb0 hg0
    go_wp2_with fail
    refine (sisOpen_any 1 (by omega) _).mono ?_
    rintro e w1 ⟨rfl, hw1⟩
    subst w1
    simp only [show Sm.isOpen 1 = true from rfl]
    go_wp2_with (refine wpl_store 90 _ _ rfl rfl b0 #[.int .u8 5, .bool false, .bool false, .int .i64 0, .bool true] (by kernel_rfl) (by kernel_rfl) _ _ HA0.out ssizeV rfl (by simp [Value.oneCell']) ?_)
    intro w2 ha2 hu2
    go_wp2
    have hld := sldV ha2
    refine bodyPost_ret (v := .agg #[.int .u8 5, .bool false, .bool false, .int .i64 0, .bool true]) (by simp [results, Try.results87, asAddr, hld]) rfl ⟨rfl, HB0.out.trans (hu2.below HG0.out)⟩
  · go_enter Try.func87, Try.ntmps87
    go_wp2_with (refine wpl_alloc 90 rfl rfl _ szeroV ?_)
    intro b0 w0 hg0 ha0 hb0
    have HA0 := hid' ha0
    have HB0 := hid' hb0
    have HG0 := hid' hg0
    clear ha0 hb0 hg0
    go_wp2_with fail
    refine (sisOpen_any 2 (by omega) _).mono ?_
    rintro e w1 ⟨rfl, hw1⟩
    subst w1
    simp only [show Sm.isOpen 2 = true from rfl]
    go_wp2_with (refine wpl_store 90 _ _ rfl rfl b0 #[.int .u8 5, .bool false, .bool false, .int .i64 0, .bool true] (by kernel_rfl) (by kernel_rfl) _ _ HA0.out ssizeV rfl (by simp [Value.oneCell']) ?_)
    intro w2 ha2 hu2
    go_wp2
    have hld := sldV ha2
    refine bodyPost_ret (v := .agg #[.int .u8 5, .bool false, .bool false, .int .i64 0, .bool true]) (by simp [results, Try.results87, asAddr, hld]) rfl ⟨rfl, HB0.out.trans (hu2.below HG0.out)⟩
  · go_enter Try.func87, Try.ntmps87
    go_wp2_with (refine wpl_alloc 90 rfl rfl _ szeroV ?_)
    intro b0 w0 hg0 ha0 hb0
    have HA0 := hid' ha0
    have HB0 := hid' hb0
    have HG0 := hid' hg0
    clear ha0 hb0 hg0
    go_wp2_with fail
    refine (sisOpen_any 3 (by omega) _).mono ?_
    rintro e w1 ⟨rfl, hw1⟩
    subst w1
    simp only [show Sm.isOpen 3 = true from rfl]
    go_wp2_with (refine wpl_store 90 _ _ rfl rfl b0 #[.int .u8 5, .bool false, .bool false, .int .i64 0, .bool true] (by kernel_rfl) (by kernel_rfl) _ _ HA0.out ssizeV rfl (by simp [Value.oneCell']) ?_)
    intro w2 ha2 hu2
    go_wp2
    have hld := sldV ha2
    refine bodyPost_ret (v := .agg #[.int .u8 5, .bool false, .bool false, .int .i64 0, .bool true]) (by simp [results, Try.results87, asAddr, hld]) rfl ⟨rfl, HB0.out.trans (hu2.below HG0.out)⟩
  · go_enter Try.func87, Try.ntmps87
    go_wp2_with (refine wpl_alloc 90 rfl rfl _ szeroV ?_)
    intro b0 w0 hg0 ha0 hb0
    have HA0 := hid' ha0
    have HB0 := hid' hb0
    have HG0 := hid' hg0
    clear ha0 hb0 hg0
    go_wp2_with fail
    refine (sisOpen_any 4 (by omega) _).mono ?_
    rintro e w1 ⟨rfl, hw1⟩
    subst w1
    simp only [show Sm.isOpen 4 = false from rfl]
    go_wp2_with (refine wpl_store 90 _ _ rfl rfl b0 #[.int .u8 4, .bool false, .bool false, .int .i64 0, .bool false] (by kernel_rfl) (by kernel_rfl) _ _ HA0.out ssizeV rfl (by simp [Value.oneCell']) ?_)
    intro w2 ha2 hu2
    go_wp2
    have hld := sldV ha2
    refine bodyPost_ret (v := .agg #[.int .u8 4, .bool false, .bool false, .int .i64 0, .bool false]) (by simp [results, Try.results87, asAddr, hld]) rfl ⟨rfl, HB0.out.trans (hu2.below HG0.out)⟩
  · go_enter Try.func87, Try.ntmps87
    go_wp2_with (refine wpl_alloc 90 rfl rfl _ szeroV ?_)
    intro b0 w0 hg0 ha0 hb0
    have HA0 := hid' ha0
    have HB0 := hid' hb0
    have HG0 := hid' hg0
    clear ha0 hb0 hg0
    go_wp2_with fail
    refine (sisOpen_any 5 (by omega) _).mono ?_
    rintro e w1 ⟨rfl, hw1⟩
    subst w1
    simp only [show Sm.isOpen 5 = false from rfl]
    go_wp2_with (refine wpl_store 90 _ _ rfl rfl b0 #[.int .u8 5, .bool false, .bool false, .int .i64 0, .bool false] (by kernel_rfl) (by kernel_rfl) _ _ HA0.out ssizeV rfl (by simp [Value.oneCell']) ?_)
    intro w2 ha2 hu2
    go_wp2
    have hld := sldV ha2
    refine bodyPost_ret (v := .agg #[.int .u8 5, .bool false, .bool false, .int .i64 0, .bool false]) (by simp [results, Try.results87, asAddr, hld]) rfl ⟨rfl, HB0.out.trans (hu2.below HG0.out)⟩

theorem sgotHeaders_any (p : Nat) (hp : p ≤ 5) (e0 : Bool) (w : World) : Calls Try.prog 81 #[.int .u8 (p : Int), .bool e0] w fun e w' => e = .returned (.agg (vdC (Sm.gotHeaders p e0))) ∧ Below w.heap.size w w' := by
  rcases six hp with rfl | rfl | rfl | rfl | rfl | rfl
  · cases e0
    · go_enter Try.func81, Try.ntmps81
      go_wp2_with (refine wpl_alloc 90 rfl rfl _ szeroV ?_)
      intro b0 w0 hg0 ha0 hb0
      have HA0 := hid' ha0
      have HB0 := hid' hb0
      have HG0 := hid' hg0
      clear ha0 hb0 hg0
      go_wp2_with fail
      refine (sgotData_any 0 (by omega) false _).mono ?_
      rintro e w1 ⟨rfl, hb1⟩
      have HA0 := hid' (HA0.out.keep hb1)
      have HB0 := hid' (below_two HB0.out hb1)
      clear hb1
      rw [show vdC (Sm.gotData 0 false) = #[.int .u8 0, .bool true, .bool true, .int .i64 1, .bool false] from rfl]
      go_wp2_with (refine wpl_store 90 _ _ rfl rfl b0 #[.int .u8 0, .bool true, .bool true, .int .i64 1, .bool false] (by kernel_rfl) (by kernel_rfl) _ _ HA0.out ssizeV rfl (by simp [Value.oneCell']) ?_)
      intro w2 ha2 hu2
      go_wp2
      have hld := sldV ha2
      refine bodyPost_ret (v := .agg #[.int .u8 0, .bool true, .bool true, .int .i64 1, .bool false]) (by simp [results, Try.results81, asAddr, hld]) rfl ⟨rfl, HB0.out.trans (hu2.below HG0.out)⟩
    · go_enter Try.func81, Try.ntmps81
      go_wp2_with (refine wpl_alloc 90 rfl rfl _ szeroV ?_)
      intro b0 w0 hg0 ha0 hb0
      have HA0 := hid' ha0
      have HB0 := hid' hb0
      have HG0 := hid' hg0
      clear ha0 hb0 hg0
      go_wp2_with fail
      refine (sgotData_any 0 (by omega) true _).mono ?_
      rintro e w1 ⟨rfl, hb1⟩
      have HA0 := hid' (HA0.out.keep hb1)
      have HB0 := hid' (below_two HB0.out hb1)
      clear hb1
      rw [show vdC (Sm.gotData 0 true) = #[.int .u8 0, .bool true, .bool true, .int .i64 1, .bool false] from rfl]
      go_wp2_with (refine wpl_store 90 _ _ rfl rfl b0 #[.int .u8 0, .bool true, .bool true, .int .i64 1, .bool false] (by kernel_rfl) (by kernel_rfl) _ _ HA0.out ssizeV rfl (by simp [Value.oneCell']) ?_)
      intro w2 ha2 hu2
      go_wp2
      have hld := sldV ha2
      refine bodyPost_ret (v := .agg #[.int .u8 0, .bool true, .bool true, .int .i64 1, .bool false]) (by simp [results, Try.results81, asAddr, hld]) rfl ⟨rfl, HB0.out.trans (hu2.below HG0.out)⟩
  · cases e0
    · go_enter Try.func81, Try.ntmps81
      go_wp2_with (refine wpl_alloc 90 rfl rfl _ szeroV ?_)
      intro b0 w0 hg0 ha0 hb0
      have HA0 := hid' ha0
      have HB0 := hid' hb0
      have HG0 := hid' hg0
      clear ha0 hb0 hg0
      go_wp2_with fail
      refine (swithStream_any 1 _).mono ?_
      rintro e w1 ⟨rfl, hb1⟩
      have HA0 := hid' (HA0.out.keep hb1)
      have HB0 := hid' (below_two HB0.out hb1)
      clear hb1
      go_wp2_with (refine wpl_store 90 _ _ rfl rfl b0 #[.int .u8 1, .bool true, .bool false, .int .i64 1, .bool false] (by kernel_rfl) (by kernel_rfl) _ _ HA0.out ssizeV rfl (by simp [Value.oneCell']) ?_)
      intro w2 ha2 hu2
      go_wp2
      have hld := sldV ha2
      refine bodyPost_ret (v := .agg #[.int .u8 1, .bool true, .bool false, .int .i64 1, .bool false]) (by simp [results, Try.results81, asAddr, hld]) rfl ⟨rfl, HB0.out.trans (hu2.below HG0.out)⟩
    · go_enter Try.func81, Try.ntmps81
      go_wp2_with (refine wpl_alloc 90 rfl rfl _ szeroV ?_)
      intro b0 w0 hg0 ha0 hb0
      have HA0 := hid' ha0
      have HB0 := hid' hb0
      have HG0 := hid' hg0
      clear ha0 hb0 hg0
      go_wp2_with fail
      refine (sgotData_any 1 (by omega) true _).mono ?_
      rintro e w1 ⟨rfl, hb1⟩
      have HA0 := hid' (HA0.out.keep hb1)
      have HB0 := hid' (below_two HB0.out hb1)
      clear hb1
      rw [show vdC (Sm.gotData 1 true) = #[.int .u8 2, .bool false, .bool false, .int .i64 0, .bool true] from rfl]
      go_wp2_with (refine wpl_store 90 _ _ rfl rfl b0 #[.int .u8 2, .bool false, .bool false, .int .i64 0, .bool true] (by kernel_rfl) (by kernel_rfl) _ _ HA0.out ssizeV rfl (by simp [Value.oneCell']) ?_)
      intro w2 ha2 hu2
      go_wp2
      have hld := sldV ha2
      refine bodyPost_ret (v := .agg #[.int .u8 2, .bool false, .bool false, .int .i64 0, .bool true]) (by simp [results, Try.results81, asAddr, hld]) rfl ⟨rfl, HB0.out.trans (hu2.below HG0.out)⟩
  · cases e0
    · go_enter Try.func81, Try.ntmps81
      go_wp2_with (refine wpl_alloc 90 rfl rfl _ szeroV ?_)
      intro b0 w0 hg0 ha0 hb0
      have HA0 := hid' ha0
      have HB0 := hid' hb0
      have HG0 := hid' hg0
      clear ha0 hb0 hg0
      go_wp2_with fail
      refine (sgotData_any 2 (by omega) false _).mono ?_
      rintro e w1 ⟨rfl, hb1⟩
      have HA0 := hid' (HA0.out.keep hb1)
      have HB0 := hid' (below_two HB0.out hb1)
      clear hb1
      rw [show vdC (Sm.gotData 2 false) = #[.int .u8 2, .bool true, .bool false, .int .i64 5, .bool false] from rfl]
      go_wp2_with (refine wpl_store 90 _ _ rfl rfl b0 #[.int .u8 2, .bool true, .bool false, .int .i64 5, .bool false] (by kernel_rfl) (by kernel_rfl) _ _ HA0.out ssizeV rfl (by simp [Value.oneCell']) ?_)
      intro w2 ha2 hu2
      go_wp2
      have hld := sldV ha2
      refine bodyPost_ret (v := .agg #[.int .u8 2, .bool true, .bool false, .int .i64 5, .bool false]) (by simp [results, Try.results81, asAddr, hld]) rfl ⟨rfl, HB0.out.trans (hu2.below HG0.out)⟩
    · go_enter Try.func81, Try.ntmps81
      go_wp2_with (refine wpl_alloc 90 rfl rfl _ szeroV ?_)
      intro b0 w0 hg0 ha0 hb0
      have HA0 := hid' ha0
      have HB0 := hid' hb0
      have HG0 := hid' hg0
      clear ha0 hb0 hg0
      go_wp2_with fail
      refine (sgotData_any 2 (by omega) true _).mono ?_
      rintro e w1 ⟨rfl, hb1⟩
      have HA0 := hid' (HA0.out.keep hb1)
      have HB0 := hid' (below_two HB0.out hb1)
      clear hb1
      rw [show vdC (Sm.gotData 2 true) = #[.int .u8 2, .bool true, .bool false, .int .i64 5, .bool false] from rfl]
      go_wp2_with (refine wpl_store 90 _ _ rfl rfl b0 #[.int .u8 2, .bool true, .bool false, .int .i64 5, .bool false] (by kernel_rfl) (by kernel_rfl) _ _ HA0.out ssizeV rfl (by simp [Value.oneCell']) ?_)
      intro w2 ha2 hu2
      go_wp2
      have hld := sldV ha2
      refine bodyPost_ret (v := .agg #[.int .u8 2, .bool true, .bool false, .int .i64 5, .bool false]) (by simp [results, Try.results81, asAddr, hld]) rfl ⟨rfl, HB0.out.trans (hu2.below HG0.out)⟩
  · cases e0
    · go_enter Try.func81, Try.ntmps81
      go_wp2_with (refine wpl_alloc 90 rfl rfl _ szeroV ?_)
      intro b0 w0 hg0 ha0 hb0
      have HA0 := hid' ha0
      have HB0 := hid' hb0
      have HG0 := hid' hg0
      clear ha0 hb0 hg0
      go_wp2_with fail
      refine (swithStream_any 1 _).mono ?_
      rintro e w1 ⟨rfl, hb1⟩
      have HA0 := hid' (HA0.out.keep hb1)
      have HB0 := hid' (below_two HB0.out hb1)
      clear hb1
      go_wp2_with (refine wpl_store 90 _ _ rfl rfl b0 #[.int .u8 3, .bool true, .bool false, .int .i64 1, .bool false] (by kernel_rfl) (by kernel_rfl) _ _ HA0.out ssizeV rfl (by simp [Value.oneCell']) ?_)
      intro w2 ha2 hu2
      go_wp2
      have hld := sldV ha2
      refine bodyPost_ret (v := .agg #[.int .u8 3, .bool true, .bool false, .int .i64 1, .bool false]) (by simp [results, Try.results81, asAddr, hld]) rfl ⟨rfl, HB0.out.trans (hu2.below HG0.out)⟩
    · go_enter Try.func81, Try.ntmps81
      go_wp2_with (refine wpl_alloc 90 rfl rfl _ szeroV ?_)
      intro b0 w0 hg0 ha0 hb0
      have HA0 := hid' ha0
      have HB0 := hid' hb0
      have HG0 := hid' hg0
      clear ha0 hb0 hg0
      go_wp2_with fail
      refine (sgotData_any 3 (by omega) true _).mono ?_
      rintro e w1 ⟨rfl, hb1⟩
      have HA0 := hid' (HA0.out.keep hb1)
      have HB0 := hid' (below_two HB0.out hb1)
      clear hb1
      rw [show vdC (Sm.gotData 3 true) = #[.int .u8 4, .bool false, .bool false, .int .i64 0, .bool true] from rfl]
      go_wp2_with (refine wpl_store 90 _ _ rfl rfl b0 #[.int .u8 4, .bool false, .bool false, .int .i64 0, .bool true] (by kernel_rfl) (by kernel_rfl) _ _ HA0.out ssizeV rfl (by simp [Value.oneCell']) ?_)
      intro w2 ha2 hu2
      go_wp2
      have hld := sldV ha2
      refine bodyPost_ret (v := .agg #[.int .u8 4, .bool false, .bool false, .int .i64 0, .bool true]) (by simp [results, Try.results81, asAddr, hld]) rfl ⟨rfl, HB0.out.trans (hu2.below HG0.out)⟩
  · cases e0
    · go_enter Try.func81, Try.ntmps81
      go_wp2_with (refine wpl_alloc 90 rfl rfl _ szeroV ?_)
      intro b0 w0 hg0 ha0 hb0
      have HA0 := hid' ha0
      have HB0 := hid' hb0
      have HG0 := hid' hg0
      clear ha0 hb0 hg0
      go_wp2_with fail
      refine (sgotData_any 4 (by omega) false _).mono ?_
      rintro e w1 ⟨rfl, hb1⟩
      have HA0 := hid' (HA0.out.keep hb1)
      have HB0 := hid' (below_two HB0.out hb1)
      clear hb1
      rw [show vdC (Sm.gotData 4 false) = #[.int .u8 4, .bool true, .bool true, .int .i64 5, .bool false] from rfl]
      go_wp2_with (refine wpl_store 90 _ _ rfl rfl b0 #[.int .u8 4, .bool true, .bool true, .int .i64 5, .bool false] (by kernel_rfl) (by kernel_rfl) _ _ HA0.out ssizeV rfl (by simp [Value.oneCell']) ?_)
      intro w2 ha2 hu2
      go_wp2
      have hld := sldV ha2
      refine bodyPost_ret (v := .agg #[.int .u8 4, .bool true, .bool true, .int .i64 5, .bool false]) (by simp [results, Try.results81, asAddr, hld]) rfl ⟨rfl, HB0.out.trans (hu2.below HG0.out)⟩
    · go_enter Try.func81, Try.ntmps81
      go_wp2_with (refine wpl_alloc 90 rfl rfl _ szeroV ?_)
      intro b0 w0 hg0 ha0 hb0
      have HA0 := hid' ha0
      have HB0 := hid' hb0
      have HG0 := hid' hg0
      clear ha0 hb0 hg0
      go_wp2_with fail
      refine (sgotData_any 4 (by omega) true _).mono ?_
      rintro e w1 ⟨rfl, hb1⟩
      have HA0 := hid' (HA0.out.keep hb1)
      have HB0 := hid' (below_two HB0.out hb1)
      clear hb1
      rw [show vdC (Sm.gotData 4 true) = #[.int .u8 4, .bool true, .bool true, .int .i64 5, .bool false] from rfl]
      go_wp2_with (refine wpl_store 90 _ _ rfl rfl b0 #[.int .u8 4, .bool true, .bool true, .int .i64 5, .bool false] (by kernel_rfl) (by kernel_rfl) _ _ HA0.out ssizeV rfl (by simp [Value.oneCell']) ?_)
      intro w2 ha2 hu2
      go_wp2
      have hld := sldV ha2
      refine bodyPost_ret (v := .agg #[.int .u8 4, .bool true, .bool true, .int .i64 5, .bool false]) (by simp [results, Try.results81, asAddr, hld]) rfl ⟨rfl, HB0.out.trans (hu2.below HG0.out)⟩
  · cases e0
    · go_enter Try.func81, Try.ntmps81
      go_wp2_with (refine wpl_alloc 90 rfl rfl _ szeroV ?_)
      intro b0 w0 hg0 ha0 hb0
      have HA0 := hid' ha0
      have HB0 := hid' hb0
      have HG0 := hid' hg0
      clear ha0 hb0 hg0
      go_wp2_with fail
      refine (sgotData_any 5 (by omega) false _).mono ?_
      rintro e w1 ⟨rfl, hb1⟩
      have HA0 := hid' (HA0.out.keep hb1)
      have HB0 := hid' (below_two HB0.out hb1)
      clear hb1
      rw [show vdC (Sm.gotData 5 false) = #[.int .u8 5, .bool false, .bool false, .int .i64 0, .bool false] from rfl]
      go_wp2_with (refine wpl_store 90 _ _ rfl rfl b0 #[.int .u8 5, .bool false, .bool false, .int .i64 0, .bool false] (by kernel_rfl) (by kernel_rfl) _ _ HA0.out ssizeV rfl (by simp [Value.oneCell']) ?_)
      intro w2 ha2 hu2
      go_wp2
      have hld := sldV ha2
      refine bodyPost_ret (v := .agg #[.int .u8 5, .bool false, .bool false, .int .i64 0, .bool false]) (by simp [results, Try.results81, asAddr, hld]) rfl ⟨rfl, HB0.out.trans (hu2.below HG0.out)⟩
    · go_enter Try.func81, Try.ntmps81
      go_wp2_with (refine wpl_alloc 90 rfl rfl _ szeroV ?_)
      intro b0 w0 hg0 ha0 hb0
      have HA0 := hid' ha0
      have HB0 := hid' hb0
      have HG0 := hid' hg0
      clear ha0 hb0 hg0
      go_wp2_with fail
      refine (sgotData_any 5 (by omega) true _).mono ?_
      rintro e w1 ⟨rfl, hb1⟩
      have HA0 := hid' (HA0.out.keep hb1)
      have HB0 := hid' (below_two HB0.out hb1)
      clear hb1
      rw [show vdC (Sm.gotData 5 true) = #[.int .u8 5, .bool false, .bool false, .int .i64 0, .bool false] from rfl]
      go_wp2_with (refine wpl_store 90 _ _ rfl rfl b0 #[.int .u8 5, .bool false, .bool false, .int .i64 0, .bool false] (by kernel_rfl) (by kernel_rfl) _ _ HA0.out ssizeV rfl (by simp [Value.oneCell']) ?_)
      intro w2 ha2 hu2
      go_wp2
      have hld := sldV ha2
      refine bodyPost_ret (v := .agg #[.int .u8 5, .bool false, .bool false, .int .i64 0, .bool false]) (by simp [results, Try.results81, asAddr, hld]) rfl ⟨rfl, HB0.out.trans (hu2.below HG0.out)⟩

end Go.Proofs.Ythgdokcdpmoeeaa
