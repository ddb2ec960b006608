/-
  ostlerref04.ReadInt, by its contract.
-/
import Derived.Test.YthldbhpkkcoafaaPrimR
namespace Go.Proofs.Ythldbhpkkcoafaa
open Go.RowKit

set_option maxHeartbeats 1000000 in
theorem rreadInt_arg (s : ByteArray) (b : Int) (hb : ¬ (1 ≤ b ∧ b ≤ 8)) (w : World) :
    Calls Try.prog 13 #[.string s, .int .i64 b] w fun e w' => e = .returned (Pm.rV .arg) ∧ w' = w := by
  by_cases h1 : b < 1
  · clear hb
    go_enter Try.func13, Try.ntmps13
    go_wp2
    go_ret3
    exact ⟨rfl, rfl⟩
  · have h8 : 8 < b := by omega
    clear hb
    go_enter Try.func13, Try.ntmps13
    go_wp2
    go_ret3
    exact ⟨rfl, rfl⟩

set_option maxHeartbeats 1000000 in
set_option maxRecDepth 20000 in
theorem rreadInt_any (s : ByteArray) (b : Nat) (h0 : 1 ≤ b) (h1 : b ≤ 8) (w : World) :
    Calls Try.prog 13 #[.string s, .int .i64 (b : Int)] w fun e w' => e = .returned (Pm.rV (Pm.rd b s.data.toList)) ∧ w' = w := by
  obtain ⟨R, hR⟩ : ∃ R, Pm.rd b s.data.toList = R := ⟨_, rfl⟩
  rw [hR]
  have HR := hid' hR
  clear hR
  have hb1 : (1 : Int) ≤ b := by omega
  have hb2 : (b : Int) ≤ 8 := by omega
  have hd1 : decide ((b : Int) < 1) = false := decide_eq_false (by omega)
  have hd2 : decide ((8 : Int) < (b : Int)) = false := decide_eq_false (by omega)
  by_cases hs : s.size = 0
  · obtain rfl : s = ⟨#[]⟩ := by
      apply ByteArray.ext; exact Array.eq_empty_of_size_eq_zero hs
    obtain rfl : R = .short := by rw [← HR.out]; rfl
    go_enter Try.func13, Try.ntmps13
    go_wp2
    go_ret3
    exact ⟨rfl, rfl⟩
  · have hl : 0 < s.data.toList.length := by rw [← Lib.size_eq]; omega
    have hs0 : 0 < s.size := by omega
    have hz : ((s.size : Int) == 0) = false := beq_false_of_ne (by omega)
    obtain ⟨p, hp⟩ : ∃ p, 2 ^ b = p := ⟨_, rfl⟩
    obtain ⟨_, _, p2, p256⟩ := Pm.pow8 b h0 h1
    rw [hp] at p2 p256
    have HP := hid' hp
    obtain ⟨x, hx⟩ : ∃ x : UInt8, s[0] = x := ⟨_, rfl⟩
    have hxl : s.data.toList[0] = x := hx
    have x256 := UInt8.toNat_lt x
    obtain ⟨y, hy⟩ : ∃ y, x.toNat % p = y := ⟨_, rfl⟩
    have hmod : (x.toNat : Int).tmod (p : Int) = (y : Int) := by rw [Int.tmod_eq_emod_of_nonneg (by omega), ← hy]; norm_cast
    have hmod2 : (x.toNat : Int) % (p : Int) = (y : Int) := by rw [← hy]; norm_cast
    have hp0 : ((p : Int) == 0) = false := beq_false_of_ne (by omega)
    have hyp : y < p := by rw [← hy]; exact Nat.mod_lt _ (by omega)
    have HD : Hid (R = if y < p - 1 then .ok y 1 else Pm.more y 1 1 (s.data.toList.drop 1)) := hid' (by
      rw [← HR.out]
      conv => lhs; rw [← List.drop_zero (l := s.data.toList), List.drop_eq_getElem_cons hl, hxl, Pm.rd, hp, hy])
    clear hp hy hxl
    by_cases hlt : y < p - 1
    · have hlt2 : decide ((y : Int) < (p : Int) - 1) = true := decide_eq_true (by omega)
      obtain rfl : R = .ok y 1 := by rw [HD.out, if_pos hlt]
      go_enter Try.func13, Try.ntmps13
      go_wp2_with fail
      refine (power_at b p h1 HP.out _).mono ?_
      rintro e w' ⟨rfl, rfl⟩
      go_wp2
      go_ret3
      exact ⟨rfl, rfl⟩
    · have hlt2 : decide ((y : Int) < (p : Int) - 1) = false := decide_eq_false (by omega)
      have HE : Hid (Pm.more y 1 1 (s.data.toList.drop 1) = R) := hid' (by rw [HD.out, if_neg hlt])
      have hy255 : y ≤ 255 := by omega
      clear HD HR hlt
      go_enter Try.func13, Try.ntmps13
      go_wp2_with fail
      refine (power_at b p h1 HP.out _).mono ?_
      rintro e w' ⟨rfl, rfl⟩
      go_wp2
      clear hmod hmod2 hlt2 hx x256 hyp hp0 hz
      go_loop [10, 8, 9] (fun s10 s8 s9 => ∃ (i n : Nat) (U : Int), s10 = .int .i64 (i : Int) ∧ s8 = .int .i64 (n : Int) ∧ s9 = .int .i64 U ∧ 1 ≤ i ∧ i ≤ 5 ∧ n ≤ 2147483647 ∧ Hid (∃ u : Nat, U = (u : Int) ∧ u = 128 ^ (i - 1) ∧ Pm.more n u i (s.data.toList.drop i) = R)) (fun s10 _ _ => 5 - (intOf s10).toNat)
      case atStart => exact ⟨1, y, 1, rfl, rfl, rfl, by omega, by omega, by omega, hid' ⟨1, rfl, rfl, HE.out⟩⟩
      case round =>
        clear HE
        obtain ⟨i, n, U, rfl, rfl, rfl, hi1, hi5, hn, HS⟩ := hrel
        have hi5' : decide ((i : Int) ≤ 5) = true := decide_eq_true (by omega)
        by_cases hlt : i < s.size
        · have hlt2 : decide ((s.size : Int) ≤ (i : Int)) = false := decide_eq_false (by omega)
          have hlt3 : (i : Int) < (s.size : Int) := by omega
          have hil : i < s.data.toList.length := by rw [← Lib.size_eq]; exact hlt
          obtain ⟨z, hz⟩ : ∃ z : UInt8, s[i] = z := ⟨_, rfl⟩
          have hzl : s.data.toList[i] = z := hz
          have z256 := UInt8.toNat_lt z
          obtain ⟨d, U2, hmul, hU2, hdb, HN⟩ : ∃ (d : Nat) (U2 : Int), wrap64 (U * ((z.toNat : Int) % 128)) = (d : Int) ∧ wrap64 (128 * U) = U2 ∧ d ≤ 34091302912 ∧ Hid (∃ u2 : Nat, U2 = (u2 : Int) ∧ u2 = 128 ^ i ∧ R = if 2147483647 < n + d ∨ (i = 5 ∧ 128 ≤ z.toNat) then .number else if z.toNat < 128 then .ok (n + d) (i + 1) else Pm.more (n + d) u2 (i + 1) (s.data.toList.drop (i + 1))) := by
            obtain ⟨u, hU, hu, hmo⟩ := HS.out
            have hub : u ≤ 268435456 := by rw [hu]; exact Nat.pow_le_pow_right (n := 128) (by omega) (show i - 1 ≤ 4 by omega)
            have hdd : u * (z.toNat % 128) ≤ 268435456 * 127 := Nat.mul_le_mul hub (by omega)
            have e1 : U * ((z.toNat : Int) % 128) = ((u * (z.toNat % 128) : Nat) : Int) := by rw [hU]; norm_cast
            have e2 : 128 * U = ((128 * u : Nat) : Int) := by rw [hU]; norm_cast
            refine ⟨u * (z.toNat % 128), ((128 * u : Nat) : Int), ?_, ?_, by omega, hid' ⟨128 * u, rfl, ?_, ?_⟩⟩
            · rw [e1]
              generalize u * (z.toNat % 128) = d at hdd ⊢
              unfold wrap64; omega
            · rw [e2]
              unfold wrap64; omega
            · rw [hu, Nat.mul_comm, ← Nat.pow_succ]; congr 1; omega
            · rw [← hmo, List.drop_eq_getElem_cons hil, hzl, Pm.more]
          obtain ⟨C, hC⟩ : ∃ C : Int, (z.toNat : Int) % 128 = C := ⟨_, rfl⟩
          have hC2 : (z.toNat : Int).tmod 128 = C := by rw [Int.tmod_eq_emod_of_nonneg (by omega)]; exact hC
          rw [hC] at hmul
          clear HS hzl
          by_cases hz8 : z.toNat < 128
          · have hz9 : decide ((z.toNat : Int) < 128) = true := decide_eq_true (by omega)
            have hz10 : decide ((128 : Int) ≤ (z.toNat : Int)) = false := decide_eq_false (by omega)
            by_cases hg : 2147483647 < n + d
            · obtain rfl : R = .number := by obtain ⟨_, _, _, h⟩ := HN.out; rw [h, if_pos (Or.inl hg)]
              have hg2 : decide ((2147483647 : Int) < (n : Int) + (d : Int)) = true := decide_eq_true (Pm.over hg)
              clear hg
              go_wp2
              go_ret3
              exact ⟨rfl, rfl⟩
            · obtain rfl : R = .ok (n + d) (i + 1) := by obtain ⟨_, _, _, h⟩ := HN.out; rw [h, if_neg (by omega), if_pos hz8]
              have hg2 : decide ((2147483647 : Int) < (n : Int) + (d : Int)) = false := decide_eq_false (by have := Pm.under hg; omega)
              by_cases hi : i = 5
              · have hi2 : ((i : Int) == 5) = true := by simp; omega
                clear hi hg
                go_wp2
                go_ret3
                exact ⟨rfl, rfl⟩
              · have hi2 : ((i : Int) == 5) = false := beq_false_of_ne (by omega)
                clear hg
                go_wp2
                go_ret3
                exact ⟨rfl, rfl⟩
          · have hz9 : decide ((z.toNat : Int) < 128) = false := decide_eq_false (by omega)
            have hz10 : decide ((128 : Int) ≤ (z.toNat : Int)) = true := decide_eq_true (by omega)
            by_cases hg : 2147483647 < n + d
            · obtain rfl : R = .number := by obtain ⟨_, _, _, h⟩ := HN.out; rw [h, if_pos (Or.inl hg)]
              have hg2 : decide ((2147483647 : Int) < (n : Int) + (d : Int)) = true := decide_eq_true (Pm.over hg)
              clear hg
              go_wp2
              go_ret3
              exact ⟨rfl, rfl⟩
            · have hg2 : decide ((2147483647 : Int) < (n : Int) + (d : Int)) = false := decide_eq_false (by have := Pm.under hg; omega)
              have hnd : n + d ≤ 2147483647 := by omega
              by_cases hi : i = 5
              · obtain rfl : R = .number := by obtain ⟨_, _, _, h⟩ := HN.out; rw [h, if_pos (Or.inr ⟨hi, by omega⟩)]
                have hi2 : ((i : Int) == 5) = true := by simp; omega
                clear hi hg hnd
                go_wp2
                go_ret3
                exact ⟨rfl, rfl⟩
              · have HS2 : Hid (∃ u : Nat, U2 = (u : Int) ∧ u = 128 ^ (i + 1 - 1) ∧ Pm.more (n + d) u (i + 1) (s.data.toList.drop (i + 1)) = R) := hid' (by
                  obtain ⟨u2, a, c, h⟩ := HN.out
                  exact ⟨u2, a, by rw [Nat.add_sub_cancel]; exact c, by rw [h, if_neg (by omega), if_neg hz8]⟩)
                have hi2 : ((i : Int) == 5) = false := beq_false_of_ne (by omega)
                have hi4 : i ≤ 4 := by omega
                have HND := hid' hnd
                clear hg hnd
                go_wp2
                go_round
                case rel => exact ⟨i + 1, n + d, U2, by go_num, by go_num, by first | rfl | rw [hU2], by omega, by omega, HND.out, HS2⟩
                case measure => simp [intOf]; omega
        · have hlt2 : decide ((s.size : Int) ≤ (i : Int)) = true := decide_eq_true (by omega)
          obtain rfl : R = .short := by
            obtain ⟨u, _, _, h⟩ := HS.out
            rw [← h, List.drop_of_length_le (by rw [← Lib.size_eq]; omega)]; rfl
          go_wp2
          go_ret3
          exact ⟨rfl, rfl⟩

end Go.Proofs.Ythldbhpkkcoafaa
