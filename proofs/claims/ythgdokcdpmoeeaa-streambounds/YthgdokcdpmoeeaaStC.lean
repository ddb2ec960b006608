/-
  stream.judge, got, noStream, by their contracts.
-/
import Derived.Test.YthgdokcdpmoeeaaStB
namespace Go.Proofs.Ythgdokcdpmoeeaa
open Go.RowKit

theorem nine (s : Nat) : s = 1 ∨ s = 2 ∨ s = 3 ∨ s = 4 ∨ s = 5 ∨ s = 6 ∨ s = 7 ∨ s = 8 ∨ (s ≠ 1 ∧ s ≠ 2 ∧ s ≠ 3 ∧ s ≠ 4 ∧ s ≠ 5 ∧ s ≠ 6 ∧ s ≠ 7 ∧ s ≠ 8) := by omega

theorem sgot_any (s : Nat) (w : World) : Calls Try.prog 44 #[.int .u8 (s : Int)] w fun e w' => e = .returned (.bool (Sm.isGot s)) ∧ w' = w := by
  rcases nine s with rfl | rfl | rfl | rfl | rfl | rfl | rfl | rfl | ⟨h1, h2, h3, h4, h5, h6, h7, h8⟩
  · go_enter Try.func44, Try.ntmps44
    go_wp2
    go_ret
    exact ⟨rfl, rfl⟩
  · go_enter Try.func44, Try.ntmps44
    go_wp2
    go_ret
    exact ⟨rfl, rfl⟩
  · go_enter Try.func44, Try.ntmps44
    go_wp2
    go_ret
    exact ⟨rfl, rfl⟩
  · go_enter Try.func44, Try.ntmps44
    go_wp2
    go_ret
    exact ⟨rfl, rfl⟩
  · go_enter Try.func44, Try.ntmps44
    go_wp2
    go_ret
    exact ⟨rfl, rfl⟩
  · go_enter Try.func44, Try.ntmps44
    go_wp2
    go_ret
    exact ⟨rfl, rfl⟩
  · go_enter Try.func44, Try.ntmps44
    go_wp2
    go_ret
    exact ⟨rfl, rfl⟩
  · go_enter Try.func44, Try.ntmps44
    go_wp2
    go_ret
    exact ⟨rfl, rfl⟩
  · have h1i : ((s : Int) == 1) = false := by simp; omega
    have h2i : ((s : Int) == 2) = false := by simp; omega
    have h3i : ((s : Int) == 3) = false := by simp; omega
    have h4i : ((s : Int) == 4) = false := by simp; omega
    have h5i : ((s : Int) == 5) = false := by simp; omega
    have hg : Sm.isGot s = false := by simp [Sm.isGot, h1, h2, h3, h4, h5]
    rw [hg]
    clear hg h6 h7 h8
    go_enter Try.func44, Try.ntmps44
    go_wp2
    go_ret
    exact ⟨rfl, rfl⟩

theorem snoStream_any (s : Nat) (w : World) : Calls Try.prog 42 #[.int .u8 (s : Int)] w fun e w' => e = .returned (.agg #[.bool true, .bool (Sm.noConn s), .int .i64 (Sm.noCode s)]) ∧ Below w.heap.size w w' := by
  rcases nine s with rfl | rfl | rfl | rfl | rfl | rfl | rfl | rfl | ⟨h1, h2, h3, h4, h5, h6, h7, h8⟩
  · go_enter Try.func42, Try.ntmps42
    go_wp2_with (refine wpl_alloc 29 rfl rfl _ szeroW ?_)
    intro b0 w0 hg0 ha0 hb0
    have HA0 := hid' ha0
    have HB0 := hid' hb0
    have HG0 := hid' hg0
    clear ha0 hb0 hg0
    go_wp2_with fail
    refine (swithConn_any 1 _).mono ?_
    rintro e w1 ⟨rfl, hb1⟩
    have HA0 := hid' (HA0.out.keep hb1)
    have HB0 := hid' (below_two HB0.out hb1)
    clear hb1
    go_wp2_with (refine wpl_store 29 _ _ rfl rfl b0 #[.bool true, .bool true, .int .i64 1] (by kernel_rfl) (by kernel_rfl) _ _ HA0.out ssizeW rfl (by simp [Value.oneCell']) ?_)
    intro w2 ha2 hu2
    go_wp2
    have hld := sldW ha2
    refine bodyPost_ret (v := .agg #[.bool true, .bool true, .int .i64 1]) (by simp [results, Try.results42, asAddr, hld]) rfl ⟨rfl, HB0.out.trans (hu2.below HG0.out)⟩
  · go_enter Try.func42, Try.ntmps42
    go_wp2_with (refine wpl_alloc 29 rfl rfl _ szeroW ?_)
    intro b0 w0 hg0 ha0 hb0
    have HA0 := hid' ha0
    have HB0 := hid' hb0
    have HG0 := hid' hg0
    clear ha0 hb0 hg0
    go_wp2_with fail
    refine (swithConn_any 1 _).mono ?_
    rintro e w1 ⟨rfl, hb1⟩
    have HA0 := hid' (HA0.out.keep hb1)
    have HB0 := hid' (below_two HB0.out hb1)
    clear hb1
    go_wp2_with (refine wpl_store 29 _ _ rfl rfl b0 #[.bool true, .bool true, .int .i64 1] (by kernel_rfl) (by kernel_rfl) _ _ HA0.out ssizeW rfl (by simp [Value.oneCell']) ?_)
    intro w2 ha2 hu2
    go_wp2
    have hld := sldW ha2
    refine bodyPost_ret (v := .agg #[.bool true, .bool true, .int .i64 1]) (by simp [results, Try.results42, asAddr, hld]) rfl ⟨rfl, HB0.out.trans (hu2.below HG0.out)⟩
  · go_enter Try.func42, Try.ntmps42
    go_wp2_with (refine wpl_alloc 29 rfl rfl _ szeroW ?_)
    intro b0 w0 hg0 ha0 hb0
    have HA0 := hid' ha0
    have HB0 := hid' hb0
    have HG0 := hid' hg0
    clear ha0 hb0 hg0
    go_wp2_with fail
    refine (swithConn_any 1 _).mono ?_
    rintro e w1 ⟨rfl, hb1⟩
    have HA0 := hid' (HA0.out.keep hb1)
    have HB0 := hid' (below_two HB0.out hb1)
    clear hb1
    go_wp2_with (refine wpl_store 29 _ _ rfl rfl b0 #[.bool true, .bool true, .int .i64 1] (by kernel_rfl) (by kernel_rfl) _ _ HA0.out ssizeW rfl (by simp [Value.oneCell']) ?_)
    intro w2 ha2 hu2
    go_wp2
    have hld := sldW ha2
    refine bodyPost_ret (v := .agg #[.bool true, .bool true, .int .i64 1]) (by simp [results, Try.results42, asAddr, hld]) rfl ⟨rfl, HB0.out.trans (hu2.below HG0.out)⟩
  · go_enter Try.func42, Try.ntmps42
    go_wp2_with (refine wpl_alloc 29 rfl rfl _ szeroW ?_)
    intro b0 w0 hg0 ha0 hb0
    have HA0 := hid' ha0
    have HB0 := hid' hb0
    have HG0 := hid' hg0
    clear ha0 hb0 hg0
    go_wp2_with fail
    refine (swithConn_any 1 _).mono ?_
    rintro e w1 ⟨rfl, hb1⟩
    have HA0 := hid' (HA0.out.keep hb1)
    have HB0 := hid' (below_two HB0.out hb1)
    clear hb1
    go_wp2_with (refine wpl_store 29 _ _ rfl rfl b0 #[.bool true, .bool true, .int .i64 1] (by kernel_rfl) (by kernel_rfl) _ _ HA0.out ssizeW rfl (by simp [Value.oneCell']) ?_)
    intro w2 ha2 hu2
    go_wp2
    have hld := sldW ha2
    refine bodyPost_ret (v := .agg #[.bool true, .bool true, .int .i64 1]) (by simp [results, Try.results42, asAddr, hld]) rfl ⟨rfl, HB0.out.trans (hu2.below HG0.out)⟩
  · go_enter Try.func42, Try.ntmps42
    go_wp2_with (refine wpl_alloc 29 rfl rfl _ szeroW ?_)
    intro b0 w0 hg0 ha0 hb0
    have HA0 := hid' ha0
    have HB0 := hid' hb0
    have HG0 := hid' hg0
    clear ha0 hb0 hg0
    go_wp2_with fail
    refine (swithConn_any 1 _).mono ?_
    rintro e w1 ⟨rfl, hb1⟩
    have HA0 := hid' (HA0.out.keep hb1)
    have HB0 := hid' (below_two HB0.out hb1)
    clear hb1
    go_wp2_with (refine wpl_store 29 _ _ rfl rfl b0 #[.bool true, .bool true, .int .i64 1] (by kernel_rfl) (by kernel_rfl) _ _ HA0.out ssizeW rfl (by simp [Value.oneCell']) ?_)
    intro w2 ha2 hu2
    go_wp2
    have hld := sldW ha2
    refine bodyPost_ret (v := .agg #[.bool true, .bool true, .int .i64 1]) (by simp [results, Try.results42, asAddr, hld]) rfl ⟨rfl, HB0.out.trans (hu2.below HG0.out)⟩
  · go_enter Try.func42, Try.ntmps42
    go_wp2_with (refine wpl_alloc 29 rfl rfl _ szeroW ?_)
    intro b0 w0 hg0 ha0 hb0
    have HA0 := hid' ha0
    have HB0 := hid' hb0
    have HG0 := hid' hg0
    clear ha0 hb0 hg0
    go_wp2_with fail
    refine (swithStream_any 2 _).mono ?_
    rintro e w1 ⟨rfl, hb1⟩
    have HA0 := hid' (HA0.out.keep hb1)
    have HB0 := hid' (below_two HB0.out hb1)
    clear hb1
    go_wp2_with (refine wpl_store 29 _ _ rfl rfl b0 #[.bool true, .bool false, .int .i64 2] (by kernel_rfl) (by kernel_rfl) _ _ HA0.out ssizeW rfl (by simp [Value.oneCell']) ?_)
    intro w2 ha2 hu2
    go_wp2
    have hld := sldW ha2
    refine bodyPost_ret (v := .agg #[.bool true, .bool false, .int .i64 2]) (by simp [results, Try.results42, asAddr, hld]) rfl ⟨rfl, HB0.out.trans (hu2.below HG0.out)⟩
  · go_enter Try.func42, Try.ntmps42
    go_wp2_with (refine wpl_alloc 29 rfl rfl _ szeroW ?_)
    intro b0 w0 hg0 ha0 hb0
    have HA0 := hid' ha0
    have HB0 := hid' hb0
    have HG0 := hid' hg0
    clear ha0 hb0 hg0
    go_wp2_with fail
    refine (swithStream_any 2 _).mono ?_
    rintro e w1 ⟨rfl, hb1⟩
    have HA0 := hid' (HA0.out.keep hb1)
    have HB0 := hid' (below_two HB0.out hb1)
    clear hb1
    go_wp2_with (refine wpl_store 29 _ _ rfl rfl b0 #[.bool true, .bool false, .int .i64 2] (by kernel_rfl) (by kernel_rfl) _ _ HA0.out ssizeW rfl (by simp [Value.oneCell']) ?_)
    intro w2 ha2 hu2
    go_wp2
    have hld := sldW ha2
    refine bodyPost_ret (v := .agg #[.bool true, .bool false, .int .i64 2]) (by simp [results, Try.results42, asAddr, hld]) rfl ⟨rfl, HB0.out.trans (hu2.below HG0.out)⟩
  · go_enter Try.func42, Try.ntmps42
    go_wp2_with (refine wpl_alloc 29 rfl rfl _ szeroW ?_)
    intro b0 w0 hg0 ha0 hb0
    have HA0 := hid' ha0
    have HB0 := hid' hb0
    have HG0 := hid' hg0
    clear ha0 hb0 hg0
    go_wp2_with fail
    refine (swithStream_any 2 _).mono ?_
    rintro e w1 ⟨rfl, hb1⟩
    have HA0 := hid' (HA0.out.keep hb1)
    have HB0 := hid' (below_two HB0.out hb1)
    clear hb1
    go_wp2_with (refine wpl_store 29 _ _ rfl rfl b0 #[.bool true, .bool false, .int .i64 2] (by kernel_rfl) (by kernel_rfl) _ _ HA0.out ssizeW rfl (by simp [Value.oneCell']) ?_)
    intro w2 ha2 hu2
    go_wp2
    have hld := sldW ha2
    refine bodyPost_ret (v := .agg #[.bool true, .bool false, .int .i64 2]) (by simp [results, Try.results42, asAddr, hld]) rfl ⟨rfl, HB0.out.trans (hu2.below HG0.out)⟩
  · have h6i : ((s : Int) == 6) = false := by simp; omega
    have h7i : ((s : Int) == 7) = false := by simp; omega
    have h8i : ((s : Int) == 8) = false := by simp; omega
    have hg : Sm.noConn s = true := by simp [Sm.noConn, h6, h7, h8]
    have hc : Sm.noCode s = 1 := by simp [Sm.noCode, hg]
    rw [hg, hc]
    clear hg hc h1 h2 h3 h4 h5
    go_enter Try.func42, Try.ntmps42
    go_wp2_with (refine wpl_alloc 29 rfl rfl _ szeroW ?_)
    intro b0 w0 hg0 ha0 hb0
    have HA0 := hid' ha0
    have HB0 := hid' hb0
    have HG0 := hid' hg0
    clear ha0 hb0 hg0
    go_wp2_with fail
    refine (swithConn_any 1 _).mono ?_
    rintro e w1 ⟨rfl, hb1⟩
    have HA0 := hid' (HA0.out.keep hb1)
    have HB0 := hid' (below_two HB0.out hb1)
    clear hb1
    go_wp2_with (refine wpl_store 29 _ _ rfl rfl b0 #[.bool true, .bool true, .int .i64 1] (by kernel_rfl) (by kernel_rfl) _ _ HA0.out ssizeW rfl (by simp [Value.oneCell']) ?_)
    intro w2 ha2 hu2
    go_wp2
    have hld := sldW ha2
    refine bodyPost_ret (v := .agg #[.bool true, .bool true, .int .i64 1]) (by simp [results, Try.results42, asAddr, hld]) rfl ⟨rfl, HB0.out.trans (hu2.below HG0.out)⟩

theorem sjudge_any (s p : Nat) (hp : p ≤ 5) (e0 : Bool) (w : World) : Calls Try.prog 46 #[.int .u8 (s : Int), .int .u8 (p : Int), .bool e0] w fun e w' => e = .returned (.agg (vdC (Sm.judge s p e0))) ∧ Below w.heap.size w w' := by
  rcases nine s with rfl | rfl | rfl | rfl | rfl | rfl | rfl | rfl | ⟨h1, h2, h3, h4, h5, h6, h7, h8⟩
  · obtain ⟨X, hX⟩ : ∃ X, Sm.gotHeaders p e0 = X := ⟨_, rfl⟩
    have hJ : Sm.judge 1 p e0 = X := hX
    have HC := hid' (sgotHeaders_any p hp e0)
    rw [hX] at HC
    rw [hJ]
    clear hX hJ hp
    go_enter Try.func46, Try.ntmps46
    go_wp2_with (refine wpl_alloc 90 rfl rfl _ szeroV ?_)
    intro b0 w0 hg0 ha0 hb0
    have HA0 := hid' ha0
    have HB0 := hid' hb0
    have HG0 := hid' hg0
    clear ha0 hb0 hg0
    go_wp2_with fail
    refine (HC.out _).mono ?_
    rintro e w1 ⟨rfl, hb1⟩
    have HA0 := hid' (HA0.out.keep hb1)
    have HB0 := hid' (below_two HB0.out hb1)
    clear hb1
    go_wp2_with (refine wpl_store 90 _ _ rfl rfl b0 (vdC X) (by kernel_rfl) (by kernel_rfl) _ _ HA0.out ssizeV rfl (by simp [vdC, Value.oneCell']) ?_)
    intro w2 ha2 hu2
    go_wp2
    have hld := sldV ha2
    refine bodyPost_ret (v := .agg (vdC X)) (by simp [results, Try.results46, asAddr, hld]; rfl) rfl ⟨rfl, HB0.out.trans (hu2.below HG0.out)⟩
  · obtain ⟨X, hX⟩ : ∃ X, Sm.gotData p e0 = X := ⟨_, rfl⟩
    have hJ : Sm.judge 2 p e0 = X := hX
    have HC := hid' (sgotData_any p hp e0)
    rw [hX] at HC
    rw [hJ]
    clear hX hJ hp
    go_enter Try.func46, Try.ntmps46
    go_wp2_with (refine wpl_alloc 90 rfl rfl _ szeroV ?_)
    intro b0 w0 hg0 ha0 hb0
    have HA0 := hid' ha0
    have HB0 := hid' hb0
    have HG0 := hid' hg0
    clear ha0 hb0 hg0
    go_wp2_with fail
    refine (HC.out _).mono ?_
    rintro e w1 ⟨rfl, hb1⟩
    have HA0 := hid' (HA0.out.keep hb1)
    have HB0 := hid' (below_two HB0.out hb1)
    clear hb1
    go_wp2_with (refine wpl_store 90 _ _ rfl rfl b0 (vdC X) (by kernel_rfl) (by kernel_rfl) _ _ HA0.out ssizeV rfl (by simp [vdC, Value.oneCell']) ?_)
    intro w2 ha2 hu2
    go_wp2
    have hld := sldV ha2
    refine bodyPost_ret (v := .agg (vdC X)) (by simp [results, Try.results46, asAddr, hld]; rfl) rfl ⟨rfl, HB0.out.trans (hu2.below HG0.out)⟩
  · obtain ⟨X, hX⟩ : ∃ X, Sm.gotReset p = X := ⟨_, rfl⟩
    have hJ : Sm.judge 3 p e0 = X := hX
    have HC := hid' (sgotReset_any p hp)
    rw [hX] at HC
    rw [hJ]
    clear hX hJ hp
    go_enter Try.func46, Try.ntmps46
    go_wp2_with (refine wpl_alloc 90 rfl rfl _ szeroV ?_)
    intro b0 w0 hg0 ha0 hb0
    have HA0 := hid' ha0
    have HB0 := hid' hb0
    have HG0 := hid' hg0
    clear ha0 hb0 hg0
    go_wp2_with fail
    refine (HC.out _).mono ?_
    rintro e w1 ⟨rfl, hb1⟩
    have HA0 := hid' (HA0.out.keep hb1)
    have HB0 := hid' (below_two HB0.out hb1)
    clear hb1
    go_wp2_with (refine wpl_store 90 _ _ rfl rfl b0 (vdC X) (by kernel_rfl) (by kernel_rfl) _ _ HA0.out ssizeV rfl (by simp [vdC, Value.oneCell']) ?_)
    intro w2 ha2 hu2
    go_wp2
    have hld := sldV ha2
    refine bodyPost_ret (v := .agg (vdC X)) (by simp [results, Try.results46, asAddr, hld]; rfl) rfl ⟨rfl, HB0.out.trans (hu2.below HG0.out)⟩
  · obtain ⟨X, hX⟩ : ∃ X, Sm.gotWindow p = X := ⟨_, rfl⟩
    have hJ : Sm.judge 4 p e0 = X := hX
    have HC := hid' (sgotWindow_any p hp)
    rw [hX] at HC
    rw [hJ]
    clear hX hJ hp
    go_enter Try.func46, Try.ntmps46
    go_wp2_with (refine wpl_alloc 90 rfl rfl _ szeroV ?_)
    intro b0 w0 hg0 ha0 hb0
    have HA0 := hid' ha0
    have HB0 := hid' hb0
    have HG0 := hid' hg0
    clear ha0 hb0 hg0
    go_wp2_with fail
    refine (HC.out _).mono ?_
    rintro e w1 ⟨rfl, hb1⟩
    have HA0 := hid' (HA0.out.keep hb1)
    have HB0 := hid' (below_two HB0.out hb1)
    clear hb1
    go_wp2_with (refine wpl_store 90 _ _ rfl rfl b0 (vdC X) (by kernel_rfl) (by kernel_rfl) _ _ HA0.out ssizeV rfl (by simp [vdC, Value.oneCell']) ?_)
    intro w2 ha2 hu2
    go_wp2
    have hld := sldV ha2
    refine bodyPost_ret (v := .agg (vdC X)) (by simp [results, Try.results46, asAddr, hld]; rfl) rfl ⟨rfl, HB0.out.trans (hu2.below HG0.out)⟩
  · obtain ⟨X, hX⟩ : ∃ X, Sm.gotPriority p = X := ⟨_, rfl⟩
    have hJ : Sm.judge 5 p e0 = X := hX
    have HC := hid' (sgotPriority_any p hp)
    rw [hX] at HC
    rw [hJ]
    clear hX hJ hp
    go_enter Try.func46, Try.ntmps46
    go_wp2_with (refine wpl_alloc 90 rfl rfl _ szeroV ?_)
    intro b0 w0 hg0 ha0 hb0
    have HA0 := hid' ha0
    have HB0 := hid' hb0
    have HG0 := hid' hg0
    clear ha0 hb0 hg0
    go_wp2_with fail
    refine (HC.out _).mono ?_
    rintro e w1 ⟨rfl, hb1⟩
    have HA0 := hid' (HA0.out.keep hb1)
    have HB0 := hid' (below_two HB0.out hb1)
    clear hb1
    go_wp2_with (refine wpl_store 90 _ _ rfl rfl b0 (vdC X) (by kernel_rfl) (by kernel_rfl) _ _ HA0.out ssizeV rfl (by simp [vdC, Value.oneCell']) ?_)
    intro w2 ha2 hu2
    go_wp2
    have hld := sldV ha2
    refine bodyPost_ret (v := .agg (vdC X)) (by simp [results, Try.results46, asAddr, hld]; rfl) rfl ⟨rfl, HB0.out.trans (hu2.below HG0.out)⟩
  · obtain ⟨X, hX⟩ : ∃ X, Sm.sent p e0 = X := ⟨_, rfl⟩
    have hJ : Sm.judge 6 p e0 = X := hX
    have HC := hid' (ssent_any p hp e0)
    rw [hX] at HC
    rw [hJ]
    clear hX hJ hp
    go_enter Try.func46, Try.ntmps46
    go_wp2_with (refine wpl_alloc 90 rfl rfl _ szeroV ?_)
    intro b0 w0 hg0 ha0 hb0
    have HA0 := hid' ha0
    have HB0 := hid' hb0
    have HG0 := hid' hg0
    clear ha0 hb0 hg0
    go_wp2_with fail
    refine (HC.out _).mono ?_
    rintro e w1 ⟨rfl, hb1⟩
    have HA0 := hid' (HA0.out.keep hb1)
    have HB0 := hid' (below_two HB0.out hb1)
    clear hb1
    go_wp2_with (refine wpl_store 90 _ _ rfl rfl b0 (vdC X) (by kernel_rfl) (by kernel_rfl) _ _ HA0.out ssizeV rfl (by simp [vdC, Value.oneCell']) ?_)
    intro w2 ha2 hu2
    go_wp2
    have hld := sldV ha2
    refine bodyPost_ret (v := .agg (vdC X)) (by simp [results, Try.results46, asAddr, hld]; rfl) rfl ⟨rfl, HB0.out.trans (hu2.below HG0.out)⟩
  · obtain ⟨X, hX⟩ : ∃ X, Sm.sent p e0 = X := ⟨_, rfl⟩
    have hJ : Sm.judge 7 p e0 = X := hX
    have HC := hid' (ssent_any p hp e0)
    rw [hX] at HC
    rw [hJ]
    clear hX hJ hp
    go_enter Try.func46, Try.ntmps46
    go_wp2_with (refine wpl_alloc 90 rfl rfl _ szeroV ?_)
    intro b0 w0 hg0 ha0 hb0
    have HA0 := hid' ha0
    have HB0 := hid' hb0
    have HG0 := hid' hg0
    clear ha0 hb0 hg0
    go_wp2_with fail
    refine (HC.out _).mono ?_
    rintro e w1 ⟨rfl, hb1⟩
    have HA0 := hid' (HA0.out.keep hb1)
    have HB0 := hid' (below_two HB0.out hb1)
    clear hb1
    go_wp2_with (refine wpl_store 90 _ _ rfl rfl b0 (vdC X) (by kernel_rfl) (by kernel_rfl) _ _ HA0.out ssizeV rfl (by simp [vdC, Value.oneCell']) ?_)
    intro w2 ha2 hu2
    go_wp2
    have hld := sldV ha2
    refine bodyPost_ret (v := .agg (vdC X)) (by simp [results, Try.results46, asAddr, hld]; rfl) rfl ⟨rfl, HB0.out.trans (hu2.below HG0.out)⟩
  · obtain ⟨X, hX⟩ : ∃ X, Sm.sentReset p = X := ⟨_, rfl⟩
    have hJ : Sm.judge 8 p e0 = X := hX
    have HC := hid' (ssentReset_any p hp)
    rw [hX] at HC
    rw [hJ]
    clear hX hJ hp
    go_enter Try.func46, Try.ntmps46
    go_wp2_with (refine wpl_alloc 90 rfl rfl _ szeroV ?_)
    intro b0 w0 hg0 ha0 hb0
    have HA0 := hid' ha0
    have HB0 := hid' hb0
    have HG0 := hid' hg0
    clear ha0 hb0 hg0
    go_wp2_with fail
    refine (HC.out _).mono ?_
    rintro e w1 ⟨rfl, hb1⟩
    have HA0 := hid' (HA0.out.keep hb1)
    have HB0 := hid' (below_two HB0.out hb1)
    clear hb1
    go_wp2_with (refine wpl_store 90 _ _ rfl rfl b0 (vdC X) (by kernel_rfl) (by kernel_rfl) _ _ HA0.out ssizeV rfl (by simp [vdC, Value.oneCell']) ?_)
    intro w2 ha2 hu2
    go_wp2
    have hld := sldV ha2
    refine bodyPost_ret (v := .agg (vdC X)) (by simp [results, Try.results46, asAddr, hld]; rfl) rfl ⟨rfl, HB0.out.trans (hu2.below HG0.out)⟩
  · have h1i : ((s : Int) == 1) = false := by simp; omega
    have h2i : ((s : Int) == 2) = false := by simp; omega
    have h3i : ((s : Int) == 3) = false := by simp; omega
    have h4i : ((s : Int) == 4) = false := by simp; omega
    have h5i : ((s : Int) == 5) = false := by simp; omega
    have h6i : ((s : Int) == 6) = false := by simp; omega
    have h7i : ((s : Int) == 7) = false := by simp; omega
    have h8i : ((s : Int) == 8) = false := by simp; omega
    have hJ : vdC (Sm.judge s p e0) = #[.int .u8 (p : Int), .bool true, .bool false, .int .i64 2, .bool false] := by simp [Sm.judge, h1, h2, h3, h4, h5, h6, h7, h8, vdC]
    rw [hJ]
    clear hJ hp
    go_enter Try.func46, Try.ntmps46
    go_wp2_with (refine wpl_alloc 90 rfl rfl _ szeroV ?_)
    intro b0 w0 hg0 ha0 hb0
    have HA0 := hid' ha0
    have HB0 := hid' hb0
    have HG0 := hid' hg0
    clear ha0 hb0 hg0
    go_wp2_with fail
    refine (swithStream_any 2 _).mono ?_
    rintro e w1 ⟨rfl, hb1⟩
    have HA0 := hid' (HA0.out.keep hb1)
    have HB0 := hid' (below_two HB0.out hb1)
    clear hb1
    go_wp2_with (refine wpl_store 90 _ _ rfl rfl b0 #[.int .u8 (p : Int), .bool true, .bool false, .int .i64 2, .bool false] (by kernel_rfl) (by kernel_rfl) _ _ HA0.out ssizeV rfl (by simp [Value.oneCell']) ?_)
    intro w2 ha2 hu2
    go_wp2
    have hld := sldV ha2
    refine bodyPost_ret (v := .agg #[.int .u8 (p : Int), .bool true, .bool false, .int .i64 2, .bool false]) (by simp [results, Try.results46, asAddr, hld]) rfl ⟨rfl, HB0.out.trans (hu2.below HG0.out)⟩

end Go.Proofs.Ythgdokcdpmoeeaa
