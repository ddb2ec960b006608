/-
  prim.ReadInt, by its contract.
-/
import Derived.Test.YtmkkhfkfjmfdcaaGreatPrimA
import Derived.Deep.QuietTactic
import Derived.BigQuiet
namespace Go.Proofs.YtmkkhfkfjmfdcaaGreat
open Go.RowKit
theorem Pm.over {n d : Nat} (h : 2147483647 < n + d) : (2147483647 : Int) < (n : Int) + (d : Int) := by omega
theorem Pm.under {n d : Nat} (h : ¬ 2147483647 < n + d) : (n : Int) + (d : Int) ≤ 2147483647 := by omega
theorem below_drewN (w : World) (n : Nat) : Below w.heap.size w (w.drewN n) := ⟨rfl, rfl, rfl, Nat.le_refl _, fun _ _ => rfl⟩

set_option maxHeartbeats 1000000 in
theorem readInt_arg (s : ByteArray) (b : Int) (hb : ¬ (1 ≤ b ∧ b ≤ 8)) (w : World) :
    Calls Tryz.prog 85 #[.string s, .int .i64 b] w fun e w' => e = .returned (Pm.rV .arg) ∧ w' = w := by
  go_enter Tryz.func85, Tryz.ntmps85
  go_wp2_with fail
  refine (areBits_no _ hb _).mono ?_
  rintro e w' ⟨rfl, rfl⟩
  go_wp2
  go_ret3
  exact ⟨rfl, rfl⟩

set_option maxHeartbeats 1000000 in
set_option maxRecDepth 20000 in
theorem readInt_q (s : ByteArray) (b : Nat) (h0 : 1 ≤ b) (h1 : b ≤ 8) (w : World) :
    Calls Tryz.prog 85 #[.string s, .int .i64 (b : Int)] w fun e w' => e = .returned (Pm.rV (Pm.rd b s.data.toList)) ∧ ∃ m, w' = w.drewN m := by
  obtain ⟨R, hR⟩ : ∃ R, Pm.rd b s.data.toList = R := ⟨_, rfl⟩
  rw [hR]
  have HR := hid' hR
  clear hR
  have hb1 : (1 : Int) ≤ b := by omega
  have hb2 : (b : Int) ≤ 8 := by omega
  by_cases hs : s.size = 0
  · obtain rfl : s = ⟨#[]⟩ := by
      apply ByteArray.ext; exact Array.eq_empty_of_size_eq_zero hs
    obtain rfl : R = .short := by rw [← HR.out]; rfl
    go_enter Tryz.func85, Tryz.ntmps85
    go_wp2_with fail
    refine (areBits_yes _ hb1 hb2 _).mono ?_
    rintro e w' ⟨rfl, rfl⟩
    go_wp2
    go_ret3
    exact ⟨rfl, 0, rfl⟩
  · have hl : 0 < s.data.toList.length := by rw [← Lib.size_eq]; omega
    have hs0 : 0 < s.size := by omega
    have hne : s.toList.isEmpty = false := by
      rw [Lib.toList_data]
      cases hc : s.data.toList with
      | nil => rw [hc] at hl; simp at hl
      | cons a r => rfl
    obtain ⟨o, ho⟩ : ∃ o, 2 ^ b - 1 = o := ⟨_, rfl⟩
    obtain ⟨q, hq, p2, p256⟩ := Pm.pow8 b h0 h1
    have HO := hid' ho
    obtain ⟨x, hx⟩ : ∃ x : UInt8, s[0] = x := ⟨_, rfl⟩
    have hxl : s.data.toList[0] = x := hx
    have x256 := UInt8.toNat_lt x
    obtain ⟨y, hy⟩ : ∃ y, x.toNat % 2 ^ b = y := ⟨_, rfl⟩
    have hand : Go.bits .and .i64 (x.toNat : Int) (o : Int) = (y : Int) := by rw [Pm.mask_i64 _ b o (by omega) h1 ho, hy]
    have hyo : y ≤ o := by have := Nat.mod_lt x.toNat (show 0 < 2 ^ b by omega); omega
    have ho255 : o ≤ 255 := by omega
    have HD : Hid (R = if y < o then .ok y 1 else Pm.more y 1 1 (s.data.toList.drop 1)) := hid' (by
      rw [← HR.out]
      conv => lhs; rw [← List.drop_zero (l := s.data.toList), List.drop_eq_getElem_cons hl, hxl, Pm.rd, hy, ho])
    clear hq p2 p256 ho hy hxl
    go_enter Tryz.func85, Tryz.ntmps85
    go_wp2_with fail
    refine (areBits_yes _ hb1 hb2 _).mono ?_
    rintro e w' ⟨rfl, rfl⟩
    go_wp2
    go_quiet ((go_at_call 75; exact Calls.quiet_of_same (pones b o h1 HO.out _)))
    go_wp2_with fail
    refine (pones b o h1 HO.out _).mono ?_
    rintro e w1 ⟨rfl, rfl⟩
    by_cases hlt : y < o
    · have hlt2 : (y : Int) < (o : Int) := by omega
      obtain rfl : R = .ok y 1 := by rw [HD.out, if_pos hlt]
      go_wp2
      go_ret3
      exact ⟨rfl, _, rfl⟩
    · have hle : decide ((y : Int) < (o : Int)) = false := by simp; omega
      have HE : Hid (Pm.more y 1 1 (s.data.toList.drop 1) = R) := hid' (by rw [HD.out, if_neg hlt])
      have hy255 : y ≤ 255 := by omega
      clear HD HR hand hyo ho255 HO hx x256
      go_wp2
      go_loopw [8, 7] (fun s8 s7 wr => ∃ i n : Nat, s8 = .int .i64 (i : Int) ∧ s7 = .int .i64 (n : Int) ∧ 1 ≤ i ∧ i ≤ 5 ∧ i ≤ s.size ∧ n ≤ 2147483647 ∧ Hid (Pm.more n (128 ^ (i - 1)) i (s.data.toList.drop i) = R) ∧ wr = w'.drewN nq) (fun s8 _ _ => 5 - (intOf s8).toNat)
      case atStart => exact ⟨1, y, rfl, rfl, by omega, by omega, by omega, by omega, HE, rfl⟩
      case round =>
        clear HE hle hlt
        obtain ⟨i, n, rfl, rfl, hi1, hi5, his, hn, HS, rfl⟩ := hrel
        by_cases hlt : i < s.size
        · have hlt2 : (i : Int) < (s.size : Int) := by omega
          have hil : i < s.data.toList.length := by rw [← Lib.size_eq]; exact hlt
          obtain ⟨z, hz⟩ : ∃ z : UInt8, s[i] = z := ⟨_, rfl⟩
          have hzl : s.data.toList[i] = z := hz
          have z256 := UInt8.toNat_lt z
          obtain ⟨c, hc⟩ : ∃ c, z.toNat % 128 = c := ⟨_, rfl⟩
          have hand : Go.bits .and .i64 (z.toNat : Int) 127 = (c : Int) := by rw [i64_and127, ← hc]; omega
          have hc128 : c ≤ 127 := by omega
          obtain ⟨j, hj⟩ : ∃ j : Nat, 7 * ((i : Int) - 1) = (j : Int) := ⟨7 * (i - 1), by omega⟩
          have hj28 : j ≤ 28 := by omega
          obtain ⟨u, hu⟩ : ∃ u, 128 ^ (i - 1) = u := ⟨_, rfl⟩
          have hu2 : 2 ^ j = u := by
            rw [← hu, show j = 7 * (i - 1) by omega, Nat.pow_mul]
          have hub : u ≤ 268435456 := by rw [← hu2]; exact Nat.pow_le_pow_right (n := 2) (by omega) hj28
          obtain ⟨d, hd⟩ : ∃ d, u * c = d := ⟨_, rfl⟩
          have hdb : d ≤ 34091302912 := by rw [← hd]; exact Nat.mul_le_mul hub hc128
          have hsh : wrap64 ((c : Int) * 2 ^ j) = (d : Int) := by
            have e : (c : Int) * 2 ^ j = (d : Int) := by
              rw [← hd, ← hu2, Nat.mul_comm]; norm_cast
            rw [e]; unfold wrap64; omega
          have HN : Hid (R = if 2147483647 < n + d ∨ (i = 5 ∧ 128 ≤ z.toNat) then .number else if z.toNat < 128 then .ok (n + d) (i + 1) else Pm.more (n + d) (128 ^ i) (i + 1) (s.data.toList.drop (i + 1))) := hid' (by
            rw [← HS.out, List.drop_eq_getElem_cons hil, hzl, Pm.more, hc, hu, hd]
            have : 128 * u = 128 ^ i := by rw [← hu, Nat.mul_comm, ← Nat.pow_succ]; congr 1; omega
            rw [this])
          generalize (c : Int) = C at hand hsh
          clear hc hu hu2 hd HS hzl hub hc128
          by_cases hz8 : z.toNat < 128
          · have hb0 : Go.bits .and .i64 (z.toNat : Int) 128 = 0 := by rw [Pm.and_128 _ (by omega), if_pos hz8]
            by_cases hg : 2147483647 < n + d
            · obtain rfl : R = .number := by rw [HN.out, if_pos (Or.inl hg)]
              have hg2 : (2147483647 : Int) < (n : Int) + (d : Int) := Pm.over hg
              clear hg
              go_wp2_with fail
              refine (pones 7 127 (by omega) rfl _).mono ?_
              rintro e w1 ⟨rfl, rfl⟩
              go_wp2
              go_ret3
              exact ⟨rfl, _, rfl⟩
            · obtain rfl : R = .ok (n + d) (i + 1) := by rw [HN.out, if_neg (by omega), if_pos hz8]
              have hg2 : (n : Int) + (d : Int) ≤ 2147483647 := Pm.under hg
              by_cases hi : i = 5
              · have hi2 : ((i : Int) == 5) = true := by simp; omega
                clear hi
                go_wp2_with fail
                refine (pones 7 127 (by omega) rfl _).mono ?_
                rintro e w1 ⟨rfl, rfl⟩
                go_wp2
                go_ret3
                exact ⟨rfl, _, rfl⟩
              · have hi2 : ((i : Int) == 5) = false := by simp; omega
                go_wp2_with fail
                refine (pones 7 127 (by omega) rfl _).mono ?_
                rintro e w1 ⟨rfl, rfl⟩
                go_wp2
                go_ret3
                exact ⟨rfl, _, rfl⟩
          · have hb0 : Go.bits .and .i64 (z.toNat : Int) 128 = 128 := by rw [Pm.and_128 _ (by omega), if_neg hz8]
            by_cases hg : 2147483647 < n + d
            · obtain rfl : R = .number := by rw [HN.out, if_pos (Or.inl hg)]
              have hg2 : (2147483647 : Int) < (n : Int) + (d : Int) := Pm.over hg
              clear hg
              go_wp2_with fail
              refine (pones 7 127 (by omega) rfl _).mono ?_
              rintro e w1 ⟨rfl, rfl⟩
              go_wp2
              go_ret3
              exact ⟨rfl, _, rfl⟩
            · have hg2 : (n : Int) + (d : Int) ≤ 2147483647 := Pm.under hg
              by_cases hi : i = 5
              · obtain rfl : R = .number := by rw [HN.out, if_pos (Or.inr ⟨hi, by omega⟩)]
                have hi2 : ((i : Int) == 5) = true := by simp; omega
                clear hi
                go_wp2_with fail
                refine (pones 7 127 (by omega) rfl _).mono ?_
                rintro e w1 ⟨rfl, rfl⟩
                go_wp2
                go_ret3
                exact ⟨rfl, _, rfl⟩
              · have HS2 : Hid (Pm.more (n + d) (128 ^ (i + 1 - 1)) (i + 1) (s.data.toList.drop (i + 1)) = R) := hid' (by rw [Nat.add_sub_cancel, HN.out, if_neg (by omega), if_neg hz8])
                have hi2 : ((i : Int) == 5) = false := by simp; omega
                have hi4 : i ≤ 4 := by omega
                go_wp2_with fail
                refine (pones 7 127 (by omega) rfl _).mono ?_
                rintro e w1 ⟨rfl, rfl⟩
                go_wp2
                go_roundw
                case rel => exact ⟨i + 1, n + d, by go_num, by go_num, by omega, by omega, by omega, by omega, HS2, by first | rfl | trivial⟩
                case measure => simp [intOf]; omega
        · have hlt2 : decide ((i : Int) < (s.size : Int)) = false := by simp; omega
          obtain rfl : R = .short := by
            rw [← HS.out, List.drop_of_length_le (by rw [← Lib.size_eq]; omega)]; rfl
          go_wp2
          go_ret3
          exact ⟨rfl, _, rfl⟩

theorem readInt_any (s : ByteArray) (b : Nat) (h0 : 1 ≤ b) (h1 : b ≤ 8) (w : World) :
    Calls Tryz.prog 85 #[.string s, .int .i64 (b : Int)] w fun e w' => e = .returned (Pm.rV (Pm.rd b s.data.toList)) ∧ Below w.heap.size w w' := by
  refine (readInt_q s b h0 h1 w).mono ?_
  rintro e w' ⟨rfl, m, rfl⟩
  exact ⟨rfl, below_drewN _ _⟩

end Go.Proofs.YtmkkhfkfjmfdcaaGreat
