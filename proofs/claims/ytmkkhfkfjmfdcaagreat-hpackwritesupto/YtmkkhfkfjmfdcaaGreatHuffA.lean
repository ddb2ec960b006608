/-
  huff.lengths, by its contract.
-/
import Derived.Test.YtmkkhfkfjmfdcaaGreatHuffB
import Derived.Test.YtmkkhfkfjmfdcaaGreatHuffP
import Derived.Laws.ResultCell
namespace Go.Proofs.YtmkkhfkfjmfdcaaGreat
open Go.RowKit

theorem zero257i : (Tryz.prog.info? 116).map (fun i => i.zero) = some (some (.agg (nums .i64 Hf.zero257))) := by kernel_rfl
theorem size257i : (Tryz.prog.info? 116).map (·.size) = some 257 := by kernel_rfl
theorem zero257u : (Tryz.prog.info? 120).map (fun i => i.zero) = some (some (.agg (nums .u64 Hf.zero257))) := by kernel_rfl
theorem size257u : (Tryz.prog.info? 120).map (·.size) = some 257 := by kernel_rfl
theorem zero31i : (Tryz.prog.info? 134).map (fun i => i.zero) = some (some (.agg (nums .i64 Hf.zero31))) := by kernel_rfl
theorem size31i : (Tryz.prog.info? 134).map (·.size) = some 31 := by kernel_rfl
theorem zero31u : (Tryz.prog.info? 132).map (fun i => i.zero) = some (some (.agg (nums .u64 Hf.zero31))) := by kernel_rfl
theorem size31u : (Tryz.prog.info? 132).map (·.size) = some 31 := by kernel_rfl
theorem zeroRows : (Tryz.prog.info? 131).map (fun i => i.zero) = some (some (.agg (nums .u8 (List.replicate 256 0)))) := by kernel_rfl
theorem sizeRows : (Tryz.prog.info? 131).map (·.size) = some 256 := by kernel_rfl

set_option maxHeartbeats 1000000 in
set_option maxRecDepth 100000 in
theorem lengths_any (w : World) :
    Calls Tryz.prog 79 #[] w fun e w' => e = .returned (.agg (nums .i64 Hf.lens)) ∧ Below w.heap.size w w' := by
  go_enter Tryz.func79, Tryz.ntmps79
  go_wp2_with (refine wpl_alloc 116 rfl rfl _ zero257i ?_)
  intro b0 w0 hb0 ha0 hl0
  go_wp2_with (refine wpl_build 130 _ rfl rfl (nums .u8 (Hf.row 0)) (by kernel_rfl) ?_)
  rintro _ (rfl : _ = _)
  refine wpl_build 130 _ rfl rfl (nums .u8 (Hf.row 1)) (by kernel_rfl) ?_
  rintro _ (rfl : _ = _)
  refine wpl_build 130 _ rfl rfl (nums .u8 (Hf.row 2)) (by kernel_rfl) ?_
  rintro _ (rfl : _ = _)
  refine wpl_build 130 _ rfl rfl (nums .u8 (Hf.row 3)) (by kernel_rfl) ?_
  rintro _ (rfl : _ = _)
  refine wpl_build 130 _ rfl rfl (nums .u8 (Hf.row 4)) (by kernel_rfl) ?_
  rintro _ (rfl : _ = _)
  refine wpl_build 130 _ rfl rfl (nums .u8 (Hf.row 5)) (by kernel_rfl) ?_
  rintro _ (rfl : _ = _)
  refine wpl_build 130 _ rfl rfl (nums .u8 (Hf.row 6)) (by kernel_rfl) ?_
  rintro _ (rfl : _ = _)
  refine wpl_build 130 _ rfl rfl (nums .u8 (Hf.row 7)) (by kernel_rfl) ?_
  rintro _ (rfl : _ = _)
  refine wpl_build 131 _ rfl rfl (nums .u8 Hf.rows) (by kernel_rfl) ?_
  rintro _ (rfl : _ = _)
  refine wpl_alloc 131 rfl rfl _ zeroRows ?_
  intro b1 w1 hb1 ha1 hl1
  refine wpl_store 131 _ _ rfl rfl b1 (nums .u8 Hf.rows) (by kernel_rfl) (by kernel_rfl) _ _ ha1 (by rw [nums_size, Hf.rows_length]; exact sizeRows) (by rw [nums_size, nums_size, Hf.rows_length]; decide +kernel) (nums_one _ _) ?_
  intro w2 ha2 hu2
  go_wp2_with (refine wpl_build 116 _ rfl rfl (nums .i64 Hf.len0) (by kernel_rfl) ?_)
  rintro _ (rfl : _ = _)
  refine wpl_alloc 116 rfl rfl _ zero257i ?_
  intro b2 w3 hb2 ha3 hl3
  refine wpl_store 116 _ _ rfl rfl b2 (nums .i64 Hf.len0) (by kernel_rfl) (by kernel_rfl) _ _ ha3 (by rw [nums_size, Hf.len0_length]; exact size257i) (by rw [nums_size, nums_size, Hf.len0_length, Hf.zero257_length]) (nums_one _ _) ?_
  intro w4 ha4 hu4
  have HS : Hid (Ar w4 b0 116 (nums .i64 Hf.zero257) ∧ Ar w4 b1 131 (nums .u8 Hf.rows) ∧ Ar w4 b2 116 (nums .i64 (Hf.lenTo 0)) ∧ Below w.heap.size w w4 ∧ w.heap.size ≤ b0 ∧ b0 < b1 ∧ b1 < b2) := hid' (by
    have l0 := ha0.lt
    have a1 := ha0.keep hl1
    have l1 := ha1.lt
    have a2 := hu2.keep a1 (by omega)
    have l2 := ha2.lt
    have s2 := hu2.size
    have s1 := hl1.size
    refine ⟨hu4.keep (a2.keep hl3) (by omega), hu4.keep (ha2.keep hl3) (by omega), by rw [Hf.lenTo_zero]; exact ha4, ?_, hb0, by omega, by omega⟩
    have B1 := below_two hl0 hl1
    have := hu2.below (B := w.heap.size) (by omega)
    have B2 := below_two (B1.trans this) hl3
    exact B2.trans (hu4.below (by omega)))
  clear hb0 ha0 hl0 hb1 ha1 hl1 ha2 hu2 hb2 ha3 hl3 ha4 hu4
  go_wp2
  go_loopw [14] (fun i wr => ∃ k : Nat, k ≤ 256 ∧ i = .int .i64 k ∧ Hid (Ar wr b0 116 (nums .i64 Hf.zero257) ∧ Ar wr b1 131 (nums .u8 Hf.rows) ∧ Ar wr b2 116 (nums .i64 (Hf.lenTo k)) ∧ Below w.heap.size w wr ∧ w.heap.size ≤ b0 ∧ b0 < b1 ∧ b1 < b2)) (fun i _ => 256 - (intOf i).toNat)
  case atStart => exact ⟨0, Nat.zero_le _, rfl, HS⟩
  case round =>
    obtain ⟨k, hk, rfl, HS⟩ := hrel
    by_cases hlt : k < 256
    · obtain ⟨v, hv, v0, v1⟩ := Hf.rows_at k hlt
      obtain ⟨q, r, hkq, hr32⟩ : ∃ q r : Nat, k = 32 * q + r ∧ r < 32 := ⟨k / 32, k % 32, by omega, by omega⟩
      have hq : (k : Int) / 32 = (q : Int) := by omega
      have hq2 : (k : Int).tdiv 32 = (q : Int) := by rw [Int.tdiv_eq_ediv_of_nonneg (by omega)]; omega
      have hr : (k : Int) % 32 = (r : Int) := by omega
      have hr2 : (k : Int).tmod 32 = (r : Int) := by rw [Int.tmod_eq_emod_of_nonneg (by omega)]; omega
      have HK : Hid (k = 32 * q + r) := hid' hkq
      have hq8 : (q : Int) < 8 := by omega
      have hrr : (r : Int) < 32 := by omega
      have hk2 : (k : Int) < 257 := by omega
      clear hkq
      have hc1 : wr.cell? ⟨b1, q * 32 + r, none⟩ = some (.int .u8 v) := HS.out.2.1.val _ _ (by rw [show q * 32 + r = k by have := HK.out; omega]; exact hv)
      have hc2 := HS.out.2.2.1.num k (by rw [Hf.lenTo_length k hk]; omega)
      have hf2 := HS.out.2.2.1.free k
      have HV : Hid (Hf.rows[k]? = some v) := hid' hv
      clear hv
      go_wp2
      go_roundw
      case rel =>
        obtain ⟨h0, h1, h2, h3, h4, h5, h6⟩ := HS.out
        refine ⟨k + 1, by omega, by go_num, hid' ⟨h0.other (by omega) _ _, h1.other (by omega) _ _, ?_, h3.trans ((upd_setCell wr b2 k _).below (by omega)), h4, h5, h6⟩⟩
        rw [Hf.lenTo_step k hlt v HV.out]
        exact h2.put k v
      case measure => simp [intOf]; omega
    · have hk' : k = 256 := by omega
      subst hk'
      obtain ⟨h0, h1, h2, h3, h4, h5, h6⟩ := HS.out
      rw [Hf.lenTo_all] at h2
      have H0 := hid' h0
      have H2 := hid' h2
      have H3 := hid' h3
      clear h0 h1 h2 h3 HS
      go_wp2_with (first | refine wpl_load 116 _ rfl rfl b2 (by kernel_rfl) _ _ H2.out _ Tryz.underlying116 rfl (by rw [nums_size, Hf.lens_length]; exact size257i) ?_ | refine wpl_store 116 _ _ rfl rfl b0 (nums .i64 Hf.lens) (by kernel_rfl) (by kernel_rfl) _ _ H0.out (by rw [nums_size, Hf.lens_length]; exact size257i) (by rw [nums_size, nums_size, Hf.lens_length, Hf.zero257_length]) (nums_one _ _) ?_)
      intro w5 ha5 hu5
      go_wp2
      have hld := run_loadVar_row (P := Tryz.prog) w5 b0 116 116 (nums .i64 Hf.lens) (0, 0) _ ha5 Tryz.underlying116 rfl (by rw [nums_size, Hf.lens_length]; exact size257i)
      refine bodyPost_ret (v := .agg (nums .i64 Hf.lens)) ?_ rfl ⟨rfl, H3.out.trans (hu5.below (by omega))⟩
      simp [results, Tryz.results79, asAddr, hld]

end Go.Proofs.YtmkkhfkfjmfdcaaGreat
