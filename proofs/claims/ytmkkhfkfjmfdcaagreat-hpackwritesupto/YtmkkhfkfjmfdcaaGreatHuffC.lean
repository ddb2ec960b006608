/-
  huff.counts, firsts: by their contracts.
-/
import Derived.Test.YtmkkhfkfjmfdcaaGreatHuffA
import Derived.BigRegion
namespace Go.Proofs.YtmkkhfkfjmfdcaaGreat
open Go.RowKit

theorem w64 (n : Int) : IntKind.i64.wrap n = wrap64 n := by rw [IntKind.wrap_i64, wrap64]

theorem index_nums (w : World) (l : List Int) (i : Nat) (v : Int) (hl : l.length = 257) (hi : l[i]? = some v) : (Instr.index 116 (.agg (nums .i64 l)) (.int .i64 i)).run Tryz.prog w = .ok (.int .i64 v) w := by
  have h1 : i < l.length := (List.getElem?_eq_some_iff.1 hi).1
  have h2 : (i : Int) < 257 := by omega
  have h3 : (nums .i64 l)[i]? = some (.int .i64 v) := nums_at hi
  simp [Instr.index, asIntOf, go_sem, h3]
  omega

set_option maxHeartbeats 1000000 in
set_option maxRecDepth 100000 in
theorem counts_any (w : World) :
    Calls Tryz.prog 93 #[.agg (nums .i64 Hf.lens)] w fun e w' => e = .returned (.agg (nums .i64 Hf.cnt)) ∧ Below w.heap.size w w' := by
  go_enter Tryz.func93, Tryz.ntmps93
  go_wp2_with (refine wpl_box 116 _ rfl rfl (nums .i64 Hf.lens) (by kernel_rfl) ?_)
  intro b0 w0 hb0 ha0 hl0
  refine wpl_alloc 134 rfl rfl _ zero31i ?_
  intro b1 w1 hb1 ha1 hl1
  go_wp2_with (refine wpl_alloc 134 rfl rfl _ zero31i ?_)
  intro b2 w2 hb2 ha2 hl2
  have HS : Hid (Ar w2 b0 116 (nums .i64 Hf.lens) ∧ Ar w2 b1 134 (nums .i64 Hf.zero31) ∧ Ar w2 b2 134 (nums .i64 (Hf.cntTo 0)) ∧ Below w.heap.size w w2 ∧ w.heap.size ≤ b0 ∧ b0 < b1 ∧ b1 < b2) := hid' (by
    have l0 := ha0.lt
    have l1 := ha1.lt
    exact ⟨(ha0.keep hl1).keep hl2, ha1.keep hl2, ha2, below_two (below_two hl0 hl1) hl2, hb0, by omega, by omega⟩)
  clear hb0 ha0 hl0 hb1 ha1 hl1 hb2 ha2 hl2
  have H0 := hid' HS.out.1
  go_wp2_with (refine wpl_load 116 _ rfl rfl b0 (by kernel_rfl) _ _ H0.out _ Tryz.underlying116 rfl (by rw [nums_size, Hf.lens_length]; exact size257i) ?_)
  clear H0
  go_loopw [7] (fun i wr => ∃ k : Nat, k ≤ 257 ∧ i = .int .i64 k ∧ Hid (Ar wr b1 134 (nums .i64 Hf.zero31) ∧ Ar wr b2 134 (nums .i64 (Hf.cntTo k)) ∧ Below w.heap.size w wr ∧ w.heap.size ≤ b0 ∧ b0 < b1 ∧ b1 < b2)) (fun i _ => 257 - (intOf i).toNat)
  case atStart => exact ⟨0, Nat.zero_le _, rfl, HS.out.2⟩
  case round =>
    obtain ⟨k, hk, rfl, HS⟩ := hrel
    by_cases hlt : k < 257
    · obtain ⟨v, hv, v0, v1⟩ := Hf.lens_at k hlt
      obtain ⟨m, rfl⟩ : ∃ m : Nat, v = m := ⟨v.toNat, by omega⟩
      have hk2 : (k : Int) < 257 := by omega
      have hm : (m : Int) < 31 := by omega
      have hc1 := HS.out.2.1.num m (by rw [Hf.cntTo_length]; omega)
      have hf1 := HS.out.2.1.free m
      obtain ⟨x, hx⟩ : ∃ x, (Hf.cntTo k).getD m 0 = x := ⟨_, rfl⟩
      rw [hx] at hc1
      have HX := hid' hx
      have HV := hid' hv
      clear hv hx
      have hix := fun W => index_nums W Hf.lens k m Hf.lens_length HV.out
      go_wp2
      go_roundw
      case rel =>
        obtain ⟨h1, h2, h3, h4, h5, h6⟩ := HS.out
        refine ⟨k + 1, by omega, by go_num, hid' ⟨h1.other (by omega) _ _, ?_, h3.trans ((upd_setCell wr b2 m _).below (by omega)), h4, h5, h6⟩⟩
        rw [Hf.cntTo_step k m HV.out, Hf.bump, Int.toNat_natCast, HX.out, w64]
        exact h2.put m _
      case measure => simp [intOf]; omega
    · have hk' : k = 257 := by omega
      subst hk'
      obtain ⟨h1, h2, h3, h4, h5, h6⟩ := HS.out
      rw [Hf.cntTo_all] at h2
      have H1 := hid' h1
      have H2 := hid' h2
      have H3 := hid' h3
      clear h1 h2 h3 HS
      go_wp2_with (first | refine wpl_load 134 _ rfl rfl b2 (by kernel_rfl) _ _ H2.out _ Tryz.underlying134 rfl (by rw [nums_size]; exact size31i) ?_ | refine wpl_store 134 _ _ rfl rfl b1 (nums .i64 Hf.cnt) (by kernel_rfl) (by kernel_rfl) _ _ H1.out (by rw [nums_size]; exact size31i) (by rw [nums_size, nums_size, Hf.zero31_length]; rfl) (nums_one _ _) ?_)
      intro w5 ha5 hu5
      go_wp2
      have hld := run_loadVar_row (P := Tryz.prog) w5 b1 134 134 (nums .i64 Hf.cnt) (0, 0) _ ha5 Tryz.underlying134 rfl (by rw [nums_size]; exact size31i)
      refine bodyPost_ret (v := .agg (nums .i64 Hf.cnt)) ?_ rfl ⟨rfl, H3.out.trans (hu5.below (by omega))⟩
      simp [results, Tryz.results93, asAddr, hld]

set_option maxHeartbeats 1000000 in
set_option maxRecDepth 100000 in
theorem firsts_any (w : World) :
    Calls Tryz.prog 92 #[.agg (nums .i64 Hf.cnt)] w fun e w' => e = .returned (.agg (nums .u64 Hf.fsts)) ∧ Below w.heap.size w w' := by
  go_enter Tryz.func92, Tryz.ntmps92
  go_wp2_with (refine wpl_box 134 _ rfl rfl (nums .i64 Hf.cnt) (by kernel_rfl) ?_)
  intro b0 w0 hb0 ha0 hl0
  refine wpl_alloc 132 rfl rfl _ zero31u ?_
  intro b1 w1 hb1 ha1 hl1
  go_wp2_with (refine wpl_alloc 132 rfl rfl _ zero31u ?_)
  intro b2 w2 hb2 ha2 hl2
  have HS : Hid (Ar w2 b0 134 (nums .i64 Hf.cnt) ∧ Ar w2 b1 132 (nums .u64 Hf.zero31) ∧ Ar w2 b2 132 (nums .u64 (Hf.fstTo 0)) ∧ Below w.heap.size w w2 ∧ w.heap.size ≤ b0 ∧ b0 < b1 ∧ b1 < b2) := hid' (by
    have l0 := ha0.lt
    have l1 := ha1.lt
    exact ⟨(ha0.keep hl1).keep hl2, ha1.keep hl2, ha2, below_two (below_two hl0 hl1) hl2, hb0, by omega, by omega⟩)
  clear hb0 ha0 hl0 hb1 ha1 hl1 hb2 ha2 hl2
  go_wp2
  go_loopw [4] (fun s wr => ∃ i k : Nat, k ≤ 30 ∧ s = .int .i64 (i : Int) ∧ Hid (i = k + 1) ∧ Hid (Ar wr b0 134 (nums .i64 Hf.cnt) ∧ Ar wr b1 132 (nums .u64 Hf.zero31) ∧ Ar wr b2 132 (nums .u64 (Hf.fstTo k)) ∧ Below w.heap.size w wr ∧ w.heap.size ≤ b0 ∧ b0 < b1 ∧ b1 < b2)) (fun i _ => 31 - (intOf i).toNat)
  case atStart => exact ⟨1, 0, Nat.zero_le _, rfl, hid' rfl, HS⟩
  case round =>
    obtain ⟨i, k, hk, rfl, HI, HS⟩ := hrel
    by_cases hlt : k < 30
    · have hi := HI.out
      have hk2 : (i : Int) ≤ 30 := by omega
      have hk3 : (i : Int) - 1 = (k : Int) := by omega
      have hk4 : (k : Int) < 31 := by omega
      have hk5 : (i : Int) < 31 := by omega
      obtain ⟨x, hx⟩ : ∃ x, (Hf.fstTo k).getD k 0 = x := ⟨_, rfl⟩
      obtain ⟨y, hy⟩ : ∃ y, Hf.cnt.getD k 0 = y := ⟨_, rfl⟩
      have hc0 := HS.out.1.num k (by show k < 31; omega)
      have hc2 := HS.out.2.2.1.num k (by rw [Hf.fstTo_length]; omega)
      have hc3 := HS.out.2.2.1.num i (by rw [Hf.fstTo_length]; omega)
      have hf3 := HS.out.2.2.1.free i
      rw [hx] at hc2
      rw [hy] at hc0
      have HX := hid' hx
      have HY := hid' hy
      clear hx hy hi
      go_wp2
      go_region
      go_wp2
      go_roundw
      case rel =>
        obtain ⟨h0, h1, h2, h3, h4, h5, h6⟩ := HS.out
        have hi := HI.out
        refine ⟨i + 1, k + 1, by omega, by go_num, hid' (by omega), hid' ⟨(h0.other (by omega) _ _).drew, (h1.other (by omega) _ _).drew, ?_, (h3.trans ((upd_setCell wr b2 i _).below (by omega))).drew, h4, h5, h6⟩⟩
        rw [Hf.fstTo, HX.out, HY.out, ← hi]
        exact (h2.put i _).drew
      case measure => simp [intOf]; omega
    · have hk' : k = 30 := by omega
      subst hk'
      have hi := HI.out
      subst hi
      obtain ⟨h0, h1, h2, h3, h4, h5, h6⟩ := HS.out
      have H1 := hid' h1
      have H2 : Hid (Ar wr b2 132 (nums .u64 Hf.fsts)) := hid' h2
      have H3 := hid' h3
      clear h0 h1 h2 h3 HS
      go_wp2_with (first | refine wpl_load 132 _ rfl rfl b2 (by kernel_rfl) _ _ H2.out _ Tryz.underlying132 rfl (by rw [nums_size, Hf.fsts, Hf.fstTo_length]; exact size31u) ?_ | refine wpl_store 132 _ _ rfl rfl b1 (nums .u64 Hf.fsts) (by kernel_rfl) (by kernel_rfl) _ _ H1.out (by rw [nums_size, Hf.fsts, Hf.fstTo_length]; exact size31u) (by rw [nums_size, nums_size, Hf.zero31_length, Hf.fsts, Hf.fstTo_length]) (nums_one _ _) ?_)
      intro w5 ha5 hu5
      go_wp2
      have hld := run_loadVar_row (P := Tryz.prog) w5 b1 132 132 (nums .u64 Hf.fsts) (0, 0) _ ha5 Tryz.underlying132 rfl (by rw [nums_size, Hf.fsts, Hf.fstTo_length]; exact size31u)
      refine bodyPost_ret (v := .agg (nums .u64 Hf.fsts)) ?_ rfl ⟨rfl, H3.out.trans (hu5.below (by omega))⟩
      simp [results, Tryz.results92, asAddr, hld]

end Go.Proofs.YtmkkhfkfjmfdcaaGreat
