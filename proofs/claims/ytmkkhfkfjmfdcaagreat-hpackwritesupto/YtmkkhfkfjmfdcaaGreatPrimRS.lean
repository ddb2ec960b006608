/-
  ostlerref04.power, ostlerref04.Int, ostlerref04.ReadInt: by their contracts.
  ostlerref04.ReadInt, by its contract.
-/
import Derived.Test.YtmkkhfkfjmfdcaaGreatPrimW
namespace Go.Proofs.YtmkkhfkfjmfdcaaGreat
open Go.RowKit

set_option maxHeartbeats 400000 in
theorem power_at (b p : Nat) (h : b ≤ 8) (hp : 2 ^ b = p) (w : World) : Calls Tryz.prog 65 #[.int .i64 (b : Int)] w fun e w' => e = .returned (.int .i64 (p : Int)) ∧ w' = w := by
  have HP := hid' hp
  clear hp
  go_enter Tryz.func65, Tryz.ntmps65
  go_wp2
  go_loop [3, 4] (fun s3 s4 => ∃ i k : Nat, s4 = .int .i64 (i : Int) ∧ s3 = .int .i64 (k : Int) ∧ i ≤ b ∧ k ≤ 256 ∧ Hid (2 ^ i = k)) (fun _ s4 => b - (intOf s4).toNat)
  case atStart => exact ⟨0, 1, rfl, rfl, Nat.zero_le _, by omega, hid' rfl⟩
  case round =>
    obtain ⟨i, k, rfl, rfl, hi, hk, HK⟩ := hrel
    by_cases hlt : i < b
    · have hlt2 : (i : Int) < (b : Int) := by omega
      have HK2 : Hid (2 ^ (i + 1) = 2 * k) := hid' (by rw [← HK.out, Nat.pow_succ, Nat.mul_comm])
      have hk2 : 2 * k ≤ 256 := by
        rw [← HK2.out]; exact Nat.pow_le_pow_right (n := 2) (by omega) (show i + 1 ≤ 8 by omega)
      go_wp2
      go_round
      case rel => exact ⟨i + 1, 2 * k, by go_num, by go_num, by omega, hk2, HK2⟩
      case measure => simp [intOf]; omega
    · have hib : i = b := by omega
      have hlt2 : decide ((i : Int) < (b : Int)) = false := by simp; omega
      have HIB := hid' hib
      clear hib
      go_wp2
      go_ret
      have e := HK.out
      rw [HIB.out, HP.out] at e
      exact ⟨ret_int (by rw [e]), rfl⟩

set_option maxHeartbeats 1000000 in
set_option maxRecDepth 20000 in
theorem rint_arg (h : Nat) (b n : Int) (hh : h < 256) (hbad : ¬ (1 ≤ b ∧ b ≤ 8 ∧ 0 ≤ n ∧ n ≤ 2147483647 ∧ h % 2 ^ b.toNat = 0)) (w : World) :
    Calls Tryz.prog 42 #[.int .u8 (h : Int), .int .i64 b, .int .i64 n] w fun e w' => e = .returned (.tuple #[.string ⟨#[]⟩, .int .i64 1]) ∧ w' = w := by
  by_cases hb1 : b < 1
  · clear hbad
    go_enter Tryz.func42, Tryz.ntmps42
    go_wp2
    go_ret2
    exact ⟨rfl, rfl⟩
  by_cases hb8 : 8 < b
  · clear hbad
    go_enter Tryz.func42, Tryz.ntmps42
    go_wp2
    go_ret2
    exact ⟨rfl, rfl⟩
  by_cases hn0 : n < 0
  · clear hbad
    go_enter Tryz.func42, Tryz.ntmps42
    go_wp2
    go_ret2
    exact ⟨rfl, rfl⟩
  by_cases hn1 : 2147483647 < n
  · clear hbad
    go_enter Tryz.func42, Tryz.ntmps42
    go_wp2
    go_ret2
    exact ⟨rfl, rfl⟩
  obtain ⟨k, rfl⟩ : ∃ k : Nat, b = (k : Int) := ⟨b.toNat, by omega⟩
  rw [Int.toNat_natCast] at hbad
  have hk : k ≤ 8 := by omega
  obtain ⟨p, hp⟩ : ∃ p, 2 ^ k = p := ⟨_, rfl⟩
  obtain ⟨_, _, p2, p256⟩ := Pm.pow8 k (by omega) hk
  rw [hp] at hbad p2 p256
  have HP := hid' hp
  obtain ⟨r, hr⟩ : ∃ r, h % p = r := ⟨_, rfl⟩
  have hr0 : r ≠ 0 := fun e => hbad ⟨by omega, by omega, by omega, by omega, by omega⟩
  have hmod : (h : Int).tmod (p : Int) = (r : Int) := by rw [Int.tmod_eq_emod_of_nonneg (by omega), ← hr]; norm_cast
  have hmod2 : (h : Int) % (p : Int) = (r : Int) := by rw [← hr]; norm_cast
  have hr1 : ((r : Int) == 0) = false := beq_false_of_ne (by omega)
  have hr2 : ((r : Int) != 0) = true := bne_iff_ne.2 (by omega)
  have hp0 : ((p : Int) == 0) = false := beq_false_of_ne (by omega)
  clear hbad hp hr
  go_enter Tryz.func42, Tryz.ntmps42
  go_wp2_with fail
  refine (power_at k p hk HP.out _).mono ?_
  rintro e w' ⟨rfl, rfl⟩
  go_wp2
  go_ret2
  exact ⟨rfl, rfl⟩

set_option maxHeartbeats 1000000 in
set_option maxRecDepth 20000 in
theorem rint_ok (h b n : Nat) (hh : h < 256) (h0 : 1 ≤ b) (h1 : b ≤ 8) (hm : h % 2 ^ b = 0) (hn : n ≤ 2147483647) (w : World) :
    Calls Tryz.prog 42 #[.int .u8 (h : Int), .int .i64 (b : Int), .int .i64 (n : Int)] w fun e w' => e = .returned (.tuple #[.string ⟨(Pm.num h b n).toArray⟩, .int .i64 0]) ∧ Below w.heap.size w w' := by
  obtain ⟨i0, hi, hz0, hz1, hz2⟩ := info_parts infoByte
  have HI := hid' hi
  have HZ0 := hid' hz0
  have HZ1 := hid' hz1
  have HZ2 := hid' hz2
  clear hi hz0 hz1 hz2
  obtain ⟨p, hp⟩ : ∃ p, 2 ^ b = p := ⟨_, rfl⟩
  obtain ⟨q, hq, p2, p256⟩ := Pm.pow8 b h0 h1
  have HP := hid' hp
  have hm' := hm
  rw [hp] at hm' p2 p256
  have hmod : (h : Int).tmod (p : Int) = 0 := by rw [Int.tmod_eq_emod_of_nonneg (by omega), show (0 : Int) = ((h % p : Nat) : Int) by rw [hm']; rfl]; norm_cast
  have hmod2 : (h : Int) % (p : Int) = 0 := by rw [show (0 : Int) = ((h % p : Nat) : Int) by rw [hm']; rfl]; norm_cast
  have hp0 : ((p : Int) == 0) = false := beq_false_of_ne (by omega)
  have hb1 : (1 : Int) ≤ b := by omega
  have hb8 : (b : Int) ≤ 8 := by omega
  have hn2 : (n : Int) ≤ 2147483647 := by omega
  have hd1 : decide ((b : Int) < 1) = false := decide_eq_false (by omega)
  have hd2 : decide ((8 : Int) < (b : Int)) = false := decide_eq_false (by omega)
  have hd3 : decide ((n : Int) < 0) = false := decide_eq_false (by omega)
  have hd4 : decide ((2147483647 : Int) < (n : Int)) = false := decide_eq_false (by omega)
  have HNUM : Hid (Pm.num h b n = if n < p - 1 then [UInt8.ofNat (h + n)] else UInt8.ofNat (h + (p - 1)) :: Pm.tail (n - (p - 1))) := hid' (by unfold Pm.num; rw [hp])
  have HF : Hid (∀ n, n < p → h + n < 256) := hid' (fun n hn => (Pm.first h b n h0 h1 hh hm (by omega)).1)
  clear hq hm hm' hp
  by_cases hlt : n < p - 1
  · have hlt2 : (n : Int) < (p : Int) - 1 := by omega
    have hf := HF.out n (by omega)
    obtain ⟨x, hx⟩ : ∃ x : UInt8, (h : Int) + (n : Int) = (x.toNat : Int) := ⟨UInt8.ofNat (h + n), by rw [UInt8.toNat_ofNat', Nat.mod_eq_of_lt (by omega)]; omega⟩
    have hconv := Pm.one_string w x
    have HX : Hid (Pm.num h b n = [x]) := hid' (by
      rw [HNUM.out, if_pos hlt, show h + n = x.toNat by omega]; simp)
    go_enter Tryz.func42, Tryz.ntmps42
    go_wp2_with fail
    refine (power_at b p h1 HP.out _).mono ?_
    rintro e w' ⟨rfl, rfl⟩
    go_wp2
    go_ret2
    exact ⟨by rw [HX.out]; rfl, (Below.refl _ _).alloc (Nat.le_refl _) _⟩
  · have hle2 : decide ((n : Int) < (p : Int) - 1) = false := decide_eq_false (by omega)
    have hf := HF.out (p - 1) (by omega)
    obtain ⟨o, ho⟩ : ∃ o : Nat, (p : Int) - 1 = (o : Int) := ⟨p - 1, by omega⟩
    obtain ⟨x, hx⟩ : ∃ x : UInt8, (h : Int) + (o : Int) = (x.toNat : Int) := ⟨UInt8.ofNat (h + o), by rw [UInt8.toNat_ofNat', Nat.mod_eq_of_lt (by omega)]; omega⟩
    obtain ⟨m0, hm0⟩ : ∃ m0 : Nat, (n : Int) - (o : Int) = (m0 : Int) := ⟨n - o, by omega⟩
    have hlo : decide ((n : Int) < (o : Int)) = false := decide_eq_false (by omega)
    have hlo2 : decide (n < o) = false := decide_eq_false (by omega)
    have ho255 : o ≤ 255 := by omega
    have HX : Hid ([x] ++ Pm.tail m0 = Pm.num h b n) := hid' (by
      rw [HNUM.out, if_neg hlt, show h + (p - 1) = x.toNat by omega, show n - (p - 1) = m0 by omega]; simp)
    have hm62 : m0 ≤ 2147483647 := by omega
    have HL : Hid ((Pm.num h b n).length ≤ 10) := hid' (Pm.num_ten h b n (by omega))
    have hle3 : (o : Int) ≤ (n : Int) := by omega
    clear hlt hle2
    go_enter Tryz.func42, Tryz.ntmps42
    go_wp2_with fail
    refine (power_at b p h1 HP.out _).mono ?_
    rintro e w' ⟨rfl, rfl⟩
    go_wp2
    go_loopw [2, 9] (fun s2 s8 wr => ∃ m : Nat, s2 = .int .i64 (m : Int) ∧ m ≤ 2147483647 ∧ Hid (∃ pre, wr.ownsRow w'.heap.size 5 1 s8 pre.length (Lib.byteCells pre) ∧ pre ++ Pm.tail m = Pm.num h b n ∧ Below w'.heap.size w' wr)) (fun s2 _ _ => (intOf s2).toNat)
    case atStart => exact ⟨m0, by first | rfl | go_num, hm62, hid' ⟨[x], Pm.own_one w' x, HX.out, (Below.refl _ _).alloc (Nat.le_refl _) _⟩⟩
    case round =>
      clear hm0 hm62 hx hlo hle3 ho
      obtain ⟨m, rfl, hm62, HS⟩ := hrel
      by_cases hb : 128 ≤ m
      · have hb2 : (128 : Int) ≤ m := by omega
        obtain ⟨pre, HOW, HPR, HB⟩ : ∃ pre, Hid (wr.ownsRow w'.heap.size 5 1 u9 pre.length (Lib.byteCells pre)) ∧ Hid (pre ++ Pm.tail m = Pm.num h b n) ∧ Hid (Below w'.heap.size w' wr) := by
          obtain ⟨pre, a, b, c⟩ := HS.out
          exact ⟨pre, hid' a, hid' b, hid' c⟩
        have hpl : pre.length ≤ 10 := by have h1 := HPR.out; have h2 := HL.out; rw [← h1, List.length_append] at h2; omega
        obtain ⟨z, hz⟩ : ∃ z : UInt8, z.toNat = 128 + m % 128 := ⟨UInt8.ofNat (128 + m % 128), by rw [UInt8.toNat_ofNat', Nat.mod_eq_of_lt (by omega)]⟩
        have hz3 : 128 + (m : Int) % 128 = (z.toNat : Int) := by omega
        have hz4 : (m : Int).tmod 128 = (m : Int) % 128 := Int.tmod_eq_emod_of_nonneg (by omega)
        have hz5 : (m : Int).tdiv 128 = (m : Int) / 128 := Int.tdiv_eq_ediv_of_nonneg (by omega)
        have z256 := UInt8.toNat_lt z
        have HZ : Hid ((pre ++ [z]) ++ Pm.tail (m / 128) = Pm.num h b n) := hid' (by
          rw [← HPR.out, Pm.tail_big m hb, List.append_assoc, ← hz]; simp)
        obtain ⟨xs, hxs⟩ : ∃ xs, Lib.byteCells pre = xs := ⟨_, rfl⟩
        obtain ⟨np, hnp⟩ : ∃ np, pre.length = np := ⟨_, rfl⟩
        rw [hxs, hnp] at HOW
        rw [hnp] at hpl
        have HXS := hid' hxs
        have HNP := hid' hnp
        clear hz HS hxs hnp
        go_wp2_with (at_builtin; refine wpList_append_own _ rfl _ _ 57 rfl w'.heap.size 5 i0 (.int .u8 0) 1 1 Tryz.underlying57 HI.out HZ0.out HZ1.out HZ2.out rfl (by decide) _ _ _ rfl (World.ownsRow.alloc HOW.out _) ⟨wr.heap.size, 0, none⟩ 1 1 [.int .u8 (z.toNat : Int)] rfl rfl (Pm.one_new _ _ _) (fun u hu => by simp at hu; subst hu; rfl) ?a1 ?a2 ?a3 ?_)
        case a1 => unfold maxLen; omega
        case a2 => omega
        case a3 => have := HB.out.size; simp; omega
        intro vx w5 hown hgrow _
        have hbe := Pm.grown_below HOW.out (Pm.grown_alloc hgrow) HB.out.size
        have HS5 : Hid (∃ pre, w5.ownsRow w'.heap.size 5 1 vx pre.length (Lib.byteCells pre) ∧ pre ++ Pm.tail (m / 128) = Pm.num h b n ∧ Below w'.heap.size w' w5) := hid' (by
          refine ⟨pre ++ [z], ?_, HZ.out, HB.out.trans hbe⟩
          rw [Pm.byteCells_snoc, HXS.out, List.length_append, HNP.out]; exact hown)
        clear hown hgrow hbe
        go_wp2
        go_roundw
        case rel => exact ⟨m / 128, by go_num, by omega, HS5⟩
        case measure => simp [intOf]; omega
      · have hb2 : decide ((128 : Int) ≤ (m : Int)) = false := decide_eq_false (by omega)
        have hb3 : (m : Int) ≤ 127 := by omega
        obtain ⟨pre, HOW, HPR, HB⟩ : ∃ pre, Hid (wr.ownsRow w'.heap.size 5 1 u9 pre.length (Lib.byteCells pre)) ∧ Hid (pre ++ Pm.tail m = Pm.num h b n) ∧ Hid (Below w'.heap.size w' wr) := by
          obtain ⟨pre, a, b, c⟩ := HS.out
          exact ⟨pre, hid' a, hid' b, hid' c⟩
        have hpl : pre.length ≤ 10 := by have h1 := HPR.out; have h2 := HL.out; rw [← h1, List.length_append] at h2; omega
        obtain ⟨z, hz⟩ : ∃ z : UInt8, z.toNat = m := ⟨UInt8.ofNat m, by rw [UInt8.toNat_ofNat', Nat.mod_eq_of_lt (by omega)]⟩
        have HZ : Hid (pre ++ [z] = Pm.num h b n) := hid' (by
          rw [← HPR.out, Pm.tail_small m (by omega), ← hz]; simp)
        subst hz
        obtain ⟨xs, hxs⟩ : ∃ xs, Lib.byteCells pre = xs := ⟨_, rfl⟩
        obtain ⟨np, hnp⟩ : ∃ np, pre.length = np := ⟨_, rfl⟩
        rw [hxs, hnp] at HOW
        rw [hnp] at hpl
        have HXS := hid' hxs
        have HNP := hid' hnp
        clear HS hxs hnp hb
        go_wp2_with (at_builtin; refine wpList_append_own _ rfl _ _ 57 rfl w'.heap.size 5 i0 (.int .u8 0) 1 1 Tryz.underlying57 HI.out HZ0.out HZ1.out HZ2.out rfl (by decide) _ _ _ rfl (World.ownsRow.alloc HOW.out _) ⟨wr.heap.size, 0, none⟩ 1 1 [.int .u8 (z.toNat : Int)] rfl rfl (Pm.one_new _ _ _) (fun u hu => by simp at hu; subst hu; rfl) ?a1 ?a2 ?a3 ?_)
        case a1 => unfold maxLen; omega
        case a2 => omega
        case a3 => have := HB.out.size; simp; omega
        intro vx w5 hown hgrow _
        have hbe := Pm.grown_below HOW.out (Pm.grown_alloc hgrow) HB.out.size
        have HOW5 : Hid (w5.ownsRow w'.heap.size 5 1 vx (np + 1) (Lib.byteCells (Pm.num h b n))) := hid' (by
          rw [← HZ.out, Pm.byteCells_snoc, HXS.out]; exact hown)
        have hcv := Pm.own_str HOW5.out (by rw [← HZ.out, List.length_append, HNP.out]; rfl)
        have HB5 := hid' (HB.out.trans hbe)
        clear hown hgrow hbe
        go_wp2
        go_ret2
        exact ⟨rfl, HB5.out⟩

end Go.Proofs.YtmkkhfkfjmfdcaaGreat

namespace Go.Proofs.YtmkkhfkfjmfdcaaGreat
open Go.RowKit

end Go.Proofs.YtmkkhfkfjmfdcaaGreat
