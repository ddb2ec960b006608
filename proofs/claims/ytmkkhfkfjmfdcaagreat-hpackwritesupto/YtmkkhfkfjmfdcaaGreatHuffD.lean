/-
  huff.codes, by its contract.
-/
import Derived.Test.YtmkkhfkfjmfdcaaGreatHuffC
namespace Go.Proofs.YtmkkhfkfjmfdcaaGreat
open Go.RowKit

set_option maxHeartbeats 1000000 in
set_option maxRecDepth 100000 in
theorem codes_any (w : World) :
    Calls Tryz.prog 80 #[.agg (nums .i64 Hf.lens)] w fun e w' => e = .returned (.agg (nums .u64 Hf.cods)) ∧ Below w.heap.size w w' := by
  go_enter Tryz.func80, Tryz.ntmps80
  go_wp2_with (refine wpl_box 116 _ rfl rfl (nums .i64 Hf.lens) (by kernel_rfl) ?_)
  intro b0 w0 hb0 ha0 hl0
  refine wpl_alloc 120 rfl rfl _ zero257u ?_
  intro b1 w1 hb1 ha1 hl1
  go_wp2_with (refine wpl_alloc 120 rfl rfl _ zero257u ?_)
  intro b2 w2 hb2 ha2 hl2
  have H0 := hid' ((ha0.keep hl1).keep hl2)
  go_wp2_with (refine wpl_load 116 _ rfl rfl b0 (by kernel_rfl) _ _ H0.out _ Tryz.underlying116 rfl (by rw [nums_size, Hf.lens_length]; exact size257i) ?_)
  refine (counts_any _).mono ?_
  rintro e w3 ⟨rfl, hl3⟩
  go_wp2_with fail
  refine (firsts_any _).mono ?_
  rintro e w4 ⟨rfl, hl4⟩
  go_wp2_with (refine wpl_alloc 132 rfl rfl _ zero31u ?_)
  intro b3 w5 hb3 ha3 hl5
  refine wpl_store 132 _ _ rfl rfl b3 (nums .u64 Hf.fsts) (by kernel_rfl) (by kernel_rfl) _ _ ha3 (by rw [nums_size, Hf.fsts_length]; exact size31u) (by rw [nums_size, nums_size, Hf.zero31_length, Hf.fsts_length]) (nums_one _ _) ?_
  intro w6 ha6 hu6
  have HS : Hid (Ar w6 b0 116 (nums .i64 Hf.lens) ∧ Ar w6 b1 120 (nums .u64 Hf.zero257) ∧ Ar w6 b2 120 (nums .u64 (Hf.codTo 0)) ∧ Ar w6 b3 132 (nums .u64 (Hf.nxtTo 0)) ∧ Below w.heap.size w w6 ∧ w.heap.size ≤ b0 ∧ b0 < b1 ∧ b1 < b2 ∧ b2 < b3) := hid' (by
    have l0 := ha0.lt
    have l1 := ha1.lt
    have l2 := ha2.lt
    have h23 := below_two (below_two hl3 hl4) hl5
    have s3 := hl3.size
    have s4 := hl4.size
    refine ⟨hu6.keep (H0.out.keep h23) (by omega), hu6.keep ((ha1.keep hl2).keep h23) (by omega), hu6.keep (by rw [Hf.codTo_zero]; exact ha2.keep h23) (by omega), ha6, ?_, hb0, by omega, by omega, by omega⟩
    exact (below_two (below_two (below_two hl0 hl1) hl2) h23).trans (hu6.below (by omega)))
  clear hb0 ha0 hl0 hb1 ha1 hl1 hb2 ha2 hl2 hl3 hl4 hb3 ha3 hl5 ha6 hu6 H0
  go_wp2
  go_loopw [10] (fun s wr => ∃ k : Nat, k ≤ 257 ∧ s = .int .i64 k ∧ Hid (Ar wr b0 116 (nums .i64 Hf.lens) ∧ Ar wr b1 120 (nums .u64 Hf.zero257) ∧ Ar wr b2 120 (nums .u64 (Hf.codTo k)) ∧ Ar wr b3 132 (nums .u64 (Hf.nxtTo k)) ∧ Below w.heap.size w wr ∧ w.heap.size ≤ b0 ∧ b0 < b1 ∧ b1 < b2 ∧ b2 < b3)) (fun i _ => 257 - (intOf i).toNat)
  case atStart => exact ⟨0, Nat.zero_le _, rfl, HS⟩
  case round =>
    obtain ⟨k, hk, rfl, HS⟩ := hrel
    by_cases hlt : k < 257
    · obtain ⟨v, hv, v0, v1⟩ := Hf.lens_at k hlt
      obtain ⟨m, rfl⟩ : ∃ m : Nat, v = m := ⟨v.toNat, by omega⟩
      have hk2 : (k : Int) < 257 := by omega
      have hm : (m : Int) < 31 := by omega
      obtain ⟨x, hx⟩ : ∃ x, (Hf.nxtTo k).getD m 0 = x := ⟨_, rfl⟩
      have hcx := Hf.cods_at k m hv
      rw [Int.toNat_natCast, hx] at hcx
      have hc0 := HS.out.1.val k m hv
      have hc2 := HS.out.2.2.1.num k (by rw [Hf.codTo_length k hk]; omega)
      have hf2 := HS.out.2.2.1.free k
      have hc3 := HS.out.2.2.2.1.num m (by rw [Hf.nxtTo_length]; omega)
      have hf3 := HS.out.2.2.2.1.free m
      rw [hx] at hc3
      have hne : b2 ≠ b3 := by have := HS.out; omega
      have HX := hid' hx
      have HV := hid' hv
      have HC := hid' hcx
      clear hv hx hcx
      go_wp2
      go_roundw
      case rel =>
        obtain ⟨h0, h1, h2, h3, h4, h5, h6, h7, h8⟩ := HS.out
        refine ⟨k + 1, by omega, by go_num, hid' ⟨(h0.other (by omega) _ _).other (by omega) _ _, (h1.other (by omega) _ _).other (by omega) _ _, ?_, ?_, (h4.trans ((upd_setCell wr b2 k _).below (by omega))).trans ((upd_setCell _ b3 m _).below (by omega)), h5, h6, h7, h8⟩⟩
        · rw [Hf.codTo_step k hlt x HC.out]
          exact (h2.put k x).other (by omega) _ _
        · rw [Hf.nxtTo_step k m HV.out, Hf.bump, Int.toNat_natCast, HX.out]
          exact (h3.other (by omega) _ _).put m _
      case measure => simp [intOf]; omega
    · have hk' : k = 257 := by omega
      subst hk'
      obtain ⟨h0, h1, h2, h3, h4, h5, h6, h7, h8⟩ := HS.out
      rw [Hf.codTo_all] at h2
      have H1 := hid' h1
      have H2 := hid' h2
      have H4 := hid' h4
      clear h0 h1 h2 h3 h4 HS
      go_wp2_with (first | refine wpl_load 120 _ rfl rfl b2 (by kernel_rfl) _ _ H2.out _ Tryz.underlying120 rfl (by rw [nums_size, Hf.cods_length]; exact size257u) ?_ | refine wpl_store 120 _ _ rfl rfl b1 (nums .u64 Hf.cods) (by kernel_rfl) (by kernel_rfl) _ _ H1.out (by rw [nums_size, Hf.cods_length]; exact size257u) (by rw [nums_size, nums_size, Hf.cods_length, Hf.zero257_length]) (nums_one _ _) ?_)
      intro w5 ha5 hu5
      go_wp2
      have hld := run_loadVar_row (P := Tryz.prog) w5 b1 120 120 (nums .u64 Hf.cods) (0, 0) _ ha5 Tryz.underlying120 rfl (by rw [nums_size, Hf.cods_length]; exact size257u)
      refine bodyPost_ret (v := .agg (nums .u64 Hf.cods)) ?_ rfl ⟨rfl, H4.out.trans (hu5.below (by omega))⟩
      simp [results, Tryz.results80, asAddr, hld]

end Go.Proofs.YtmkkhfkfjmfdcaaGreat
