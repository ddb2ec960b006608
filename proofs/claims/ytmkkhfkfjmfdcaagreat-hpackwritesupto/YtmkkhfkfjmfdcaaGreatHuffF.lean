/-
  huff.ones, huff.Size: by their contracts.
-/
import Derived.Test.YtmkkhfkfjmfdcaaGreatHuffA
import Derived.Test.YtmkkhfkfjmfdcaaGreatHuffQ
import Derived.Lib.Strings
namespace Go.Proofs.YtmkkhfkfjmfdcaaGreat
open Go.RowKit

theorem ret_int {k : IntKind} {a b : Int} (h : a = b) : Ending.returned (.int k a) = .returned (.int k b) := by rw [h]
theorem ret_str {a b : ByteArray} (h : a = b) : Ending.returned (.string a) = .returned (.string b) := by rw [h]

set_option maxHeartbeats 400000 in
theorem ones_any (n : Nat) (h : n < 64) (w : World) : Calls Tryz.prog 82 #[.int .i64 (n : Int)] w fun e w' => e = .returned (.int .u64 ((2 ^ n - 1 : Nat) : Int)) ∧ w' = w := by
  have h0 : (0 : Int) ≤ n := by omega
  have h1 : (n : Int) < 64 := by omega
  go_enter Tryz.func82, Tryz.ntmps82
  go_wp2
  go_ret
  refine ⟨ret_int ?_, rfl⟩
  have hp : 2 ^ n ≤ 2 ^ 63 := Nat.pow_le_pow_right (by omega) (by omega)
  have hq : 1 ≤ 2 ^ n := Nat.one_le_two_pow
  have hc : ((2 : Int) ^ n) = ((2 ^ n : Nat) : Int) := by norm_cast
  rw [hc, IntKind.wrap_u64, IntKind.wrap_u64]
  generalize 2 ^ n = p at hp hq ⊢
  omega

theorem ones_is (n o : Nat) (h : n < 64) (ho : 2 ^ n - 1 = o) (w : World) : Calls Tryz.prog 82 #[.int .i64 (n : Int)] w fun e w' => e = .returned (.int .u64 (o : Int)) ∧ w' = w := by
  subst ho; exact ones_any n h w

set_option maxHeartbeats 1000000 in
set_option maxRecDepth 100000 in
theorem size_any (s : ByteArray) (hs : s.size ≤ 2147483648) (w : World) : Calls Tryz.prog 62 #[.string s] w fun e w' => e = .returned (.int .i64 (((Hf.nbits s.data.toList + 7) / 8 : Nat) : Int)) ∧ Below w.heap.size w w' := by
  go_enter Tryz.func62, Tryz.ntmps62
  go_wp2_with fail
  refine (lengths_any _).mono ?_
  rintro e w1 ⟨rfl, hl1⟩
  go_wp2_with (refine wpl_alloc 116 rfl rfl _ zero257i ?_)
  intro b0 w2 hb0 ha2 hl2
  refine wpl_store 116 _ _ rfl rfl b0 (nums .i64 Hf.lens) (by kernel_rfl) (by kernel_rfl) _ _ ha2 (by rw [nums_size, Hf.lens_length]; exact size257i) (by rw [nums_size, nums_size, Hf.lens_length, Hf.zero257_length]) (nums_one _ _) ?_
  intro w3 ha3 hu3
  have HA := hid' ha3
  have HB : Hid (Below w.heap.size w w3) := hid' ((below_two hl1 hl2).trans (hu3.below (by have := hl1.size; omega)))
  clear hl1 hb0 ha2 hl2 ha3 hu3
  go_wp2
  go_loopw [9, 4] (fun i t => fun wr => ∃ k : Nat, k ≤ s.size ∧ i = .int .i64 k ∧ t = .int .i64 (Hf.nbits (s.data.toList.take k) : Nat) ∧ wr = w3) (fun i _ _ => s.size - (intOf i).toNat)
  case atStart => exact ⟨0, Nat.zero_le _, rfl, rfl, rfl⟩
  case round =>
    obtain ⟨k, hk, rfl, rfl, rfl⟩ := hrel
    by_cases hlt : k < s.size
    · have hl : k < s.data.toList.length := by rw [← Lib.size_eq]; exact hlt
      obtain ⟨x, hx⟩ : ∃ x : UInt8, s[k] = x := ⟨_, rfl⟩
      have hxl : s.data.toList[k] = x := hx
      have x256 := UInt8.toNat_lt x
      have h257 : (x.toNat : Int) < 257 := by omega
      obtain ⟨hv, v0, v1⟩ := Hf.len_at x.toNat (by omega)
      have hc := HA.out.val x.toNat _ hv
      have hb := (Hf.nbits_le (s.data.toList.take k)).2
      have hb2 : (s.data.toList.take k).length ≤ k := by simp; omega
      have HE : Hid (Hf.nbits (s.data.toList.take (k + 1)) = Hf.nbits (s.data.toList.take k) + Hf.lenN x.toNat) := hid' (by rw [Hf.take_snoc _ k hl, hxl, Hf.nbits_append, Hf.nbits_one])
      obtain ⟨a, ha⟩ : ∃ a, Hf.nbits (s.data.toList.take k) = a := ⟨_, rfl⟩
      obtain ⟨m, hm⟩ : ∃ m, Hf.lenN x.toNat = m := ⟨_, rfl⟩
      rw [ha, hm] at HE
      rw [hm] at hc v0 v1
      rw [ha] at hb ⊢
      clear hv ha hm hxl
      go_wp2
      go_roundw
      case rel => exact ⟨k + 1, by omega, by go_num, by rw [HE.out]; go_num, by first | rfl | trivial⟩
      case measure => simp [intOf]; omega
    · have hk' : k = s.size := by omega
      have ht : s.data.toList.take k = s.data.toList := by rw [hk']; exact List.take_of_length_le (by rw [← Lib.size_eq]; exact Nat.le_refl _)
      rw [ht]
      have hb := (Hf.nbits_le s.data.toList).2
      rw [← Lib.size_eq] at hb
      obtain ⟨a, ha⟩ : ∃ a, Hf.nbits s.data.toList = a := ⟨_, rfl⟩
      rw [ha] at hb ⊢
      have hq : ((a : Int) + 7).tdiv 8 = (((a + 7) / 8 : Nat) : Int) := by rw [Int.tdiv_eq_ediv_of_nonneg (by omega)]; omega
      have HA2 := hid' ha
      clear ht ha
      go_wp2
      go_ret
      exact ⟨ret_int (by rw [HA2.out]; omega), HB.out⟩

end Go.Proofs.YtmkkhfkfjmfdcaaGreat
