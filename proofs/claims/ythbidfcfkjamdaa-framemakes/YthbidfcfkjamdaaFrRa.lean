/-
  ostlerref07.number, id, Next: by their contracts.
-/
import Derived.Test.YthbidfcfkjamdaaFrK
namespace Go.Proofs.Ythbidfcfkjamdaa
open Go.RowKit

set_option maxHeartbeats 1000000 in
set_option maxRecDepth 20000 in
theorem rnumber_any (l : List UInt8) (h : l.length ≤ 4) (w : World) : Calls Try.prog 60 #[.string ⟨l.toArray⟩] w fun e w' => e = .returned (.int .i64 (Fm.num l : Int)) ∧ w' = w := by
  go_enter Try.func60, Try.ntmps60
  go_wp2
  go_loop [3, 4] (fun s3 s4 => ∃ (n : Int) (i : Nat), s4 = .int .i64 (i : Int) ∧ s3 = .int .i64 n ∧ i ≤ l.length ∧ Hid ((Fm.num (l.take i) : Int) = n)) (fun _ s4 => l.length - (intOf s4).toNat)
  case atStart => exact ⟨0, 0, rfl, rfl, Nat.zero_le _, hid' rfl⟩
  case round =>
    obtain ⟨n, i, rfl, rfl, hi, HN⟩ := hrel
    by_cases hlt : i < l.length
    · have hlt2 : (i : Int) < (l.length : Int) := by omega
      have hltb : i < (⟨l.toArray⟩ : ByteArray).size := hlt
      obtain ⟨c, hc⟩ : ∃ c, (⟨l.toArray⟩ : ByteArray)[i] = c := ⟨_, rfl⟩
      have hcl : l[i] = c := hc
      have c256 := UInt8.toNat_lt c
      have hn0 : 0 ≤ n := by rw [← HN.out]; omega
      have hn1 : n ≤ 4294967295 := by
        have := Fm.num_le (l.take i) (by rw [List.length_take]; omega)
        rw [← HN.out]; omega
      have HN2 : Hid ((Fm.num (l.take (i + 1)) : Int) = 256 * n + c.toNat) := hid' (by
        rw [List.take_succ_eq_append_getElem hlt, Fm.num_snoc, hcl]
        have := HN.out; omega)
      clear hcl
      go_wp2
      go_round
      case rel => exact ⟨256 * n + c.toNat, i + 1, by go_num, by go_num, by omega, HN2⟩
      case measure => simp [intOf]; omega
    · have hib : i = l.length := by omega
      have hlt2 : decide ((i : Int) < (l.length : Int)) = false := by simp; omega
      have HIB := hid' hib
      clear hib
      go_wp2
      go_ret
      have e := HN.out
      rw [HIB.out, List.take_length] at e
      exact ⟨ret_int e.symm, rfl⟩

theorem rid_any (l : List UInt8) (n : Nat) (h : l.length = 4) (hn : Fm.num l % 2147483648 = n) (w : World) : Calls Try.prog 76 #[.string ⟨l.toArray⟩] w fun e w' => e = .returned (.int .i64 (n : Int)) ∧ w' = w := by
  obtain ⟨q, hq⟩ : ∃ q, Fm.num l = q := ⟨_, rfl⟩
  have hq4 := Fm.num_lt4 h
  rw [hq] at hq4 hn
  have HQ := hid' hq
  have hm : (q : Int).tmod 2147483648 = (n : Int) := by rw [Int.tmod_eq_emod_of_nonneg (by omega)]; omega
  have hm2 : (q : Int) % 2147483648 = (n : Int) := by omega
  have HL := hid' h
  clear hq hn h
  go_enter Try.func76, Try.ntmps76
  go_wp2_with fail
  refine (rnumber_any l (by rw [HL.out]; decide) _).mono ?_
  rintro e w1 ⟨rfl, hw⟩
  subst w1
  rw [HQ.out]
  go_wp2
  go_ret
  exact ⟨rfl, rfl⟩

end Go.Proofs.Ythbidfcfkjamdaa
