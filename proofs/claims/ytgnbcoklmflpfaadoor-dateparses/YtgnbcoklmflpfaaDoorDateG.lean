/-
  The document's Parse: the digits at a place.
-/
import Derived.Test.YtgnbcoklmflpfaaDoorDateF
namespace Go.Proofs.YtgnbcoklmflpfaaDoor
open Go.RowKit

namespace Dt
/-- What digits count; -1, if they are none. -/
def dg (l : List UInt8) : Int := if Tx.digs 10 l = true then Tx.numv 10 l else -1
theorem dg_two (n : Int) (h0 : 0 ≤ n) (h1 : n ≤ 99) : dg (two n) = n := by
  have a := dgt_ch (n / 10) (by omega) (by omega)
  have b := dgt_ch (n % 10) (by omega) (by omega)
  have hd : Tx.digs 10 (two n) = true := num_small _ (by intro c hc; simp [two] at hc; rcases hc with rfl | rfl <;> omega)
  have hv : Tx.numv 10 (two n) = n := by simp only [two, Tx.numv, List.foldl]; rw [a, b]; omega
  unfold dg; rw [if_pos hd, hv]
theorem dg_four (n : Int) (h0 : 0 ≤ n) (h1 : n ≤ 9999) : dg (four n) = n := by
  have a := dgt_ch (n / 100 / 10) (by omega) (by omega)
  have b := dgt_ch (n / 100 % 10) (by omega) (by omega)
  have c := dgt_ch (n % 100 / 10) (by omega) (by omega)
  have d := dgt_ch (n % 100 % 10) (by omega) (by omega)
  have hd : Tx.digs 10 (four n) = true := num_small _ (by intro c hc; simp only [four, two, List.cons_append, List.nil_append, List.mem_cons, List.not_mem_nil, or_false] at hc; rcases hc with rfl | rfl | rfl | rfl <;> omega)
  have hv : Tx.numv 10 (four n) = n := by simp only [four, two, Tx.numv, List.foldl, List.cons_append, List.nil_append]; rw [a, b, c, d]; omega
  unfold dg; rw [if_pos hd, hv]
theorem dg_bd (l : List UInt8) : -1 ≤ dg l ∧ dg l < 10 ^ l.length := by
  have hp : (0 : Int) < 10 ^ l.length := Int.pow_pos (by decide)
  unfold dg
  split
  · rename_i h
    exact ⟨by have := Tx.numv_nonneg 10 (by decide) l; omega, numv_hi l h⟩
  · exact ⟨by omega, by omega⟩
theorem dg_bad (l : List UInt8) (c : UInt8) (hc : c ∈ l) (h : ¬ Tx.dgt (c.toNat : Int) < 10) : dg l = -1 := by
  unfold dg
  rw [if_neg]
  intro hd
  unfold Tx.digs Tx.allC at hd
  exact h (of_decide_eq_true (List.all_eq_true.1 hd c hc))
theorem dig_iff (c : UInt8) : Tx.dgt (c.toNat : Int) < 10 ↔ (48 ≤ c.toNat ∧ c.toNat ≤ 57) := by
  have := c.toNat_lt
  unfold Tx.dgt Tx.digC
  by_cases h : (48 : Int) ≤ (c.toNat : Int) ∧ (c.toNat : Int) ≤ 57
  · rw [if_pos (by simp; omega)]; omega
  · rw [if_neg (by simp; omega)]
    split
    · rename_i h2; simp at h2; omega
    · split
      · rename_i h2; simp at h2; omega
      · omega
theorem dig_val (c : UInt8) (h : 48 ≤ c.toNat) (h' : c.toNat ≤ 57) : Tx.dgt (c.toNat : Int) = (c.toNat : Int) - 48 := by
  unfold Tx.dgt Tx.digC
  rw [if_pos (by simp; omega)]
end Dt

set_option maxHeartbeats 1000000 in
theorem digits_any (s : ByteArray) (a n : Nat) (hn : n ≤ 4) (hs : a + n ≤ s.size) (hm : s.size ≤ 1000) (w : World) :
    Calls Tryd.prog 36 #[.string s, .int .i64 a, .int .i64 n] w fun e w' => e = .returned (.int .i64 (Dt.dg ((s.data.toList.drop a).take n))) ∧ w' = w := by
  obtain ⟨l, hl⟩ : ∃ l, s.data.toList.drop a = l := ⟨_, rfl⟩
  have hll : n ≤ l.length := by rw [← hl, List.length_drop, ← Lib.size_eq]; omega
  have HL := hid' hl
  have HLL := hid' hll
  clear hl hll
  rw [HL.out]
  go_enter Tryd.func36, Tryd.ntmps36
  go_wp2
  go_loop [7, 8] (fun kv iv => ∃ (j : Nat) (v : Int), j ≤ n ∧ iv = .int .i64 ((a + j : Nat) : Int) ∧ kv = .int .i64 v ∧ 0 ≤ v ∧ v < 10 ^ j ∧ Tx.digs 10 (l.take j) = true ∧ Tx.numv 10 (l.take j) = v) (fun _ iv => (a + n - intOf iv).toNat)
  case atStart => exact ⟨0, 0, Nat.zero_le _, rfl, rfl, by decide, by decide, rfl, rfl⟩
  case round =>
    obtain ⟨j, v, hj, rfl, rfl, v0, v1, hd, hv⟩ := hrel
    have v2 : v < 10000 := by
      have : j = 0 ∨ j = 1 ∨ j = 2 ∨ j = 3 ∨ j = 4 := by omega
      rcases this with rfl | rfl | rfl | rfl | rfl <;> omega
    have HD := hid' hd
    have HV := hid' hv
    clear hd hv v1
    by_cases hlt : j < n
    · have hk : a + j < s.size := by omega
      have hb0 : s[a + j].toNat ≤ 255 := by have := s[a + j].toNat_lt; omega
      have HC : Hid (l.take (j + 1) = l.take j ++ [s[a + j]]) := hid' (by
        have hjl : j < l.length := by have := HLL.out; omega
        rw [List.take_add_one]
        congr 1
        rw [List.getElem?_eq_getElem hjl]
        have : l[j] = s[a + j] := by
          have h2 := Tx.get_byte s (a + j) hk
          have h3 : l[j]? = s.data.toList[a + j]? := by rw [← HL.out, List.getElem?_drop]
          rw [List.getElem?_eq_getElem hjl, h2] at h3
          exact Option.some.inj h3
        rw [this]; rfl)
      by_cases h48 : s[a + j].toNat < 48
      · have HF : Hid ((-1 : Int) = Dt.dg (l.take n)) := hid' (Dt.dg_bad _ s[a + j] (List.mem_of_mem_take (i := j + 1) (by rw [List.take_take, Nat.min_eq_left (by omega), HC.out]; simp)) (by rw [Dt.dig_iff]; omega)).symm
        go_wp2
        go_ret
        exact ⟨ret_int HF.out, rfl⟩
      · by_cases h57 : 57 < s[a + j].toNat
        · have HF : Hid ((-1 : Int) = Dt.dg (l.take n)) := hid' (Dt.dg_bad _ s[a + j] (List.mem_of_mem_take (i := j + 1) (by rw [List.take_take, Nat.min_eq_left (by omega), HC.out]; simp)) (by rw [Dt.dig_iff]; omega)).symm
          go_wp2
          go_ret
          exact ⟨ret_int HF.out, rfl⟩
        · have hdv := Dt.dig_val s[a + j] (by omega) (by omega)
          have HD2 : Hid (Tx.digs 10 (l.take (j + 1)) = true) := hid' (by rw [HC.out]; exact Tx.digs_snoc 10 _ _ HD.out (by rw [Dt.dig_iff]; omega))
          have HV2 : Hid (Tx.numv 10 (l.take (j + 1)) = 10 * v + ((s[a + j].toNat : Int) - 48)) := hid' (by rw [HC.out, Tx.numv_snoc, HV.out, hdv]; omega)
          clear hdv
          go_wp2
          go_round
          case rel => exact ⟨j + 1, 10 * v + ((s[a + j].toNat : Int) - 48), by omega, by go_num, by first | rfl | (congr 1; omega), by omega, by have := Dt.numv_hi _ HD2.out; rw [HV2.out, List.length_take, Nat.min_eq_left (by have := HLL.out; omega)] at this; exact this, HD2.out, HV2.out⟩
          case measure => simp [intOf]; omega
    · obtain rfl : j = n := by omega
      have HF : Hid (v = Dt.dg (l.take j)) := hid' (by unfold Dt.dg; rw [if_pos HD.out, HV.out])
      go_wp2
      go_ret
      exact ⟨ret_int HF.out, rfl⟩

end Go.Proofs.YtgnbcoklmflpfaaDoor
