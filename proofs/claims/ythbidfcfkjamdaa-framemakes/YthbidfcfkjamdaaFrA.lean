/-
  frame.number, stream, code, has: by their contracts.
-/
import Derived.Test.YthbidfcfkjamdaaFrM
namespace Go.Proofs.Ythbidfcfkjamdaa
open Go.RowKit

set_option maxHeartbeats 1000000 in
set_option maxRecDepth 20000 in
theorem cnumber_any (l : List UInt8) (h : l.length ≤ 4) (w : World) : Calls Try.prog 61 #[.string ⟨l.toArray⟩] w fun e w' => e = .returned (.int .i64 (Fm.num l : Int)) ∧ w' = w := by
  go_enter Try.func61, Try.ntmps61
  go_wp2
  go_loop [3, 7] (fun s3 s7 => ∃ (n : Int) (i : Nat), s7 = .int .i64 (i : Int) ∧ s3 = .int .i64 n ∧ i ≤ l.length ∧ Hid ((Fm.num (l.take i) : Int) = n)) (fun _ s7 => l.length - (intOf s7).toNat)
  case atStart => exact ⟨0, 0, rfl, rfl, Nat.zero_le _, hid' rfl⟩
  case round =>
    obtain ⟨n, i, rfl, rfl, hi, HN⟩ := hrel
    by_cases hlt : i < l.length
    · have hlt2 : (i : Int) < (l.length : Int) := by omega
      have hltb : i < (⟨l.toArray⟩ : ByteArray).size := hlt
      obtain ⟨c, hc⟩ : ∃ c, (⟨l.toArray⟩ : ByteArray)[i] = c := ⟨_, rfl⟩
      have hcl : l[i] = c := hc
      have c256 := UInt8.toNat_lt c
      have hn0 : 0 ≤ n := by rw [← HN.out]; omega
      have hn1 : n ≤ 16777215 := by
        have h3 : (l.take i).length ≤ 3 := by rw [List.length_take]; omega
        have : Fm.num (l.take i) < 16777216 := by
          match l.take i, h3 with
          | [], _ => simp [Fm.num]
          | [a], _ => have := UInt8.toNat_lt a; rw [Fm.num1]; omega
          | [a, b], _ => have := Fm.num_lt2 (l := [a, b]) rfl; omega
          | [a, b, c], _ => exact Fm.num_lt3 rfl
        rw [← HN.out]; omega
      have hor := or_byte n c.toNat hn0 hn1 c256
      have HN2 : Hid ((Fm.num (l.take (i + 1)) : Int) = n * 256 + c.toNat) := hid' (by
        rw [List.take_succ_eq_append_getElem hlt, Fm.num_snoc, hcl]
        have := HN.out; omega)
      clear hcl
      go_wp2
      go_round
      case rel => exact ⟨n * 256 + c.toNat, i + 1, by go_num, by go_num, by omega, HN2⟩
      case measure => simp [intOf]; omega
    · have hib : i = l.length := by omega
      have hlt2 : decide ((i : Int) < (l.length : Int)) = false := by simp; omega
      have HIB := hid' hib
      clear hib
      go_wp2
      go_ret
      have e := HN.out
      rw [HIB.out, List.take_length] at e
      exact ⟨ret_int e.symm, rfl⟩

theorem cstream_any (l : List UInt8) (n : Nat) (h : 4 ≤ l.length) (hn : Fm.idn l = n) (w : World) : Calls Try.prog 62 #[.string ⟨l.toArray⟩] w fun e w' => e = .returned (.int .i64 (n : Int)) ∧ w' = w := by
  have hcut := cut_ends l 4
  obtain ⟨y, hy⟩ : ∃ y, l.take 4 = y := ⟨_, rfl⟩
  have hl : y.length = 4 := by rw [← hy, List.length_take]; omega
  rw [hy] at hcut
  have HL := hid' hl
  have hlow := low31 (Fm.num y) (Fm.num_lt4 hl)
  rw [← hy] at hlow
  change Go.bits .and .i64 _ _ = ((Fm.idn l : Nat) : Int) at hlow
  rw [hy, hn] at hlow
  have h4 : (4 : Int) ≤ (l.length : Int) := by omega
  clear hy hl hn
  go_enter Try.func62, Try.ntmps62
  go_wp2_with fail
  refine (cnumber_any y (by rw [HL.out]; decide) _).mono ?_
  rintro e w1 ⟨rfl, hw⟩
  subst w1
  go_wp2
  go_ret
  exact ⟨rfl, rfl⟩

theorem ccode_any (l : List UInt8) (h : 4 ≤ l.length) (w : World) : Calls Try.prog 70 #[.string ⟨l.toArray⟩] w fun e w' => e = .returned (.int .i64 (Fm.num (l.take 4) : Int)) ∧ w' = w := by
  have hcut := cut_ends l 4
  obtain ⟨y, hy⟩ : ∃ y, l.take 4 = y := ⟨_, rfl⟩
  have hl : y.length = 4 := by rw [← hy, List.length_take]; omega
  rw [hy] at hcut ⊢
  have HL := hid' hl
  have h4 : (4 : Int) ≤ (l.length : Int) := by omega
  clear hy hl
  go_enter Try.func70, Try.ntmps70
  go_wp2_with fail
  refine (cnumber_any y (by rw [HL.out]; decide) _).mono ?_
  rintro e w1 ⟨rfl, hw⟩
  subst w1
  go_wp2
  go_ret
  exact ⟨rfl, rfl⟩

theorem chas_any (k fl st : Int) (l : List UInt8) (b : Int) (r : Bool) (hb : b = 1 ∨ b = 8 ∨ b = 32) (hr : Fm.has fl b = r) (w : World) : Calls Try.prog 43 #[.agg (frC k fl st l), .int .i64 b] w fun e w' => e = .returned (.bool r) ∧ Below w.heap.size w w' := by
  have hbit : (Go.bits .and .i64 fl b != 0) = r := by
    rw [← hr]
    rcases hb with rfl | rfl | rfl
    · exact has1 fl
    · exact has8 fl
    · exact has32 fl
  clear hr hb
  unfold frC
  go_enter Try.func43, Try.ntmps43
  go_wp2
  go_ret
  exact ⟨rfl, (Below.refl _ _).alloc (Nat.le_refl _) _⟩

theorem cofConn_any (c : Int) (w : World) : Calls Try.prog 65 #[.int .i64 c] w fun e w' => e = .returned (.agg (wgC true true c)) ∧ Below w.heap.size w w' := by
  go_enter Try.func65, Try.ntmps65
  go_wp2_with (refine wpl_alloc 74 rfl rfl _ zeroWrong ?_)
  intro b0 w0 hg0 ha0 hb0
  go_wp2_with (refine wpl_store 74 _ _ rfl rfl b0 #[.bool true, .bool true, .int .i64 c] (by kernel_rfl) (by kernel_rfl) _ _ ha0 sizeWrong rfl (by simp [Value.oneCell']) ?_)
  intro w1 ha1 hu1
  go_wp2
  have hld := ld_wrong ha1
  refine bodyPost_ret (v := .agg (wgC true true c)) (by simp [results, Try.results65, asAddr, hld, wgC]) rfl ⟨rfl, hb0.trans (hu1.below hg0)⟩

end Go.Proofs.Ythbidfcfkjamdaa
