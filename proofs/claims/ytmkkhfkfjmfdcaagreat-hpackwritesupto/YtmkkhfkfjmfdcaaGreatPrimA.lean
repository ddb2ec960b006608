/-
  prim.areBits, prim.ones, prim.number, prim.Int: by their contracts.
-/
import Derived.Test.YtmkkhfkfjmfdcaaGreatPrimM
namespace Go.Proofs.YtmkkhfkfjmfdcaaGreat
open Go.RowKit

theorem areBits_yes (b : Int) (h0 : 1 ≤ b) (h1 : b ≤ 8) (w : World) : Calls Tryz.prog 74 #[.int .i64 b] w fun e w' => e = .returned (.bool true) ∧ w' = w := by
  go_enter Tryz.func74, Tryz.ntmps74
  go_wp2
  go_ret
  exact ⟨rfl, rfl⟩
theorem areBits_no (b : Int) (h : ¬ (1 ≤ b ∧ b ≤ 8)) (w : World) : Calls Tryz.prog 74 #[.int .i64 b] w fun e w' => e = .returned (.bool false) ∧ w' = w := by
  by_cases h0 : 1 ≤ b
  · have h1 : ¬ b ≤ 8 := fun h1 => h ⟨h0, h1⟩
    clear h
    go_enter Tryz.func74, Tryz.ntmps74
    go_wp2
    go_ret
    exact ⟨rfl, rfl⟩
  · clear h
    go_enter Tryz.func74, Tryz.ntmps74
    go_wp2
    go_ret
    exact ⟨rfl, rfl⟩

theorem pones (b o : Nat) (h : b ≤ 8) (ho : 2 ^ b - 1 = o) (w : World) : Calls Tryz.prog 75 #[.int .i64 (b : Int)] w fun e w' => e = .returned (.int .i64 (o : Int)) ∧ w' = w := by
  have h0 : (0 : Int) ≤ b := by omega
  have h1 : (b : Int) ≤ 8 := by omega
  have HO := hid' ho
  clear ho
  go_enter Tryz.func75, Tryz.ntmps75
  go_wp2
  go_ret
  refine ⟨ret_int ?_, rfl⟩
  have hp : 2 ^ b ≤ 2 ^ 8 := Nat.pow_le_pow_right (by omega) h
  have hq : 1 ≤ 2 ^ b := Nat.one_le_two_pow
  have hc : ((2 : Int) ^ b) = ((2 ^ b : Nat) : Int) := by norm_cast
  have := HO.out
  rw [hc]
  clear hc
  generalize 2 ^ b = p at *
  first | omega | (unfold wrap64; omega)

set_option maxHeartbeats 1000000 in
set_option maxRecDepth 20000 in
theorem number_any (h b n : Nat) (hh : h < 256) (h0 : 1 ≤ b) (h1 : b ≤ 8) (hm : h % 2 ^ b = 0) (hn : n ≤ 4611686018427387904) (w : World) :
    Calls Tryz.prog 63 #[.int .u8 (h : Int), .int .i64 (b : Int), .int .i64 (n : Int)] w fun e w' => e = .returned (.string ⟨(Pm.num h b n).toArray⟩) ∧ Below w.heap.size w w' := by
  obtain ⟨i0, hi, hz0, hz1, hz2⟩ := info_parts infoByte
  have HI := hid' hi
  have HZ0 := hid' hz0
  have HZ1 := hid' hz1
  have HZ2 := hid' hz2
  clear hi hz0 hz1 hz2
  obtain ⟨o, ho⟩ : ∃ o, 2 ^ b - 1 = o := ⟨_, rfl⟩
  obtain ⟨q, hq, p2, p256⟩ := Pm.pow8 b h0 h1
  have HM := hid' hm
  have HO := hid' ho
  have ho1 : 1 ≤ o := by omega
  have ho2 : o ≤ 255 := by omega
  by_cases hlt : n < o
  · have hlt2 : (n : Int) < (o : Int) := by omega
    have hf := (Pm.first h b n h0 h1 hh hm (by omega)).1
    obtain ⟨x, hx⟩ : ∃ x : UInt8, x.toNat = h + n := ⟨UInt8.ofNat (h + n), by rw [UInt8.toNat_ofNat', Nat.mod_eq_of_lt (by omega)]⟩
    have hor : Go.bits .or .u8 (h : Int) (n : Int) = (x.toNat : Int) := by rw [hx]; exact Pm.or_u8 h n b hh hm h1 (by omega)
    have hconv := Pm.one_string w x
    have HX : Hid (Pm.num h b n = [x]) := hid' (by unfold Pm.num; rw [if_pos (by omega), ← hx]; simp)
    clear hq hm ho hx p2 p256
    go_enter Tryz.func63, Tryz.ntmps63
    go_wp2_with fail
    refine (pones b o h1 HO.out _).mono ?_
    rintro e w' ⟨rfl, rfl⟩
    go_wp2
    go_ret
    exact ⟨ret_str (by rw [HX.out]), (Below.refl _ _).alloc (Nat.le_refl _) _⟩
  · have hle : (o : Int) ≤ (n : Int) := by omega
    have hf := (Pm.first h b o h0 h1 hh hm (by omega)).1
    obtain ⟨x, hx⟩ : ∃ x : UInt8, x.toNat = h + o := ⟨UInt8.ofNat (h + o), by rw [UInt8.toNat_ofNat', Nat.mod_eq_of_lt (by omega)]⟩
    have hor : Go.bits .or .u8 (h : Int) (o : Int) = (x.toNat : Int) := by rw [hx]; exact Pm.or_u8 h o b hh hm h1 (by omega)
    obtain ⟨m0, hm0⟩ : ∃ m0 : Nat, (n : Int) - (o : Int) = (m0 : Int) := ⟨n - o, by omega⟩
    have HX : Hid ([x] ++ Pm.tail m0 = Pm.num h b n) := hid' (by
      unfold Pm.num
      have : n - o = m0 := by omega
      rw [if_neg (by omega), ho, ← hx, this]; simp)
    have hm62 : m0 ≤ 4611686018427387904 := by omega
    have HL : Hid ((Pm.num h b n).length ≤ 10) := hid' (by
      rw [← HX.out, List.length_append]
      have := Pm.tail_length 8 m0 (by omega)
      simp; omega)
    clear hq hm ho hx p2 p256
    go_enter Tryz.func63, Tryz.ntmps63
    go_wp2_with fail
    refine (pones b o h1 HO.out _).mono ?_
    rintro e w' ⟨rfl, rfl⟩
    go_wp2
    go_loopw [2, 8] (fun s2 s8 wr => ∃ m : Nat, s2 = .int .i64 (m : Int) ∧ m ≤ 4611686018427387904 ∧ Hid (∃ pre, wr.ownsRow w'.heap.size 5 1 s8 pre.length (Lib.byteCells pre) ∧ pre ++ Pm.tail m = Pm.num h b n ∧ Below w'.heap.size w' wr)) (fun s2 _ _ => (intOf s2).toNat)
    case atStart => exact ⟨m0, by first | rfl | go_num, hm62, hid' ⟨[x], Pm.own_one w' x, HX.out, (Below.refl _ _).alloc (Nat.le_refl _) _⟩⟩
    case round =>
      clear hm0 hor hm62
      obtain ⟨m, rfl, hm62, HS⟩ := hrel
      by_cases hb : 128 ≤ m
      · have hb2 : (128 : Int) ≤ m := by omega
        obtain ⟨pre, HOW, HP, HB⟩ : ∃ pre, Hid (wr.ownsRow w'.heap.size 5 1 u8 pre.length (Lib.byteCells pre)) ∧ Hid (pre ++ Pm.tail m = Pm.num h b n) ∧ Hid (Below w'.heap.size w' wr) := by
          obtain ⟨pre, a, b, c⟩ := HS.out
          exact ⟨pre, hid' a, hid' b, hid' c⟩
        have hpl : pre.length ≤ 10 := by have h1 := HP.out; have h2 := HL.out; rw [← h1, List.length_append] at h2; omega
        obtain ⟨z, hz⟩ : ∃ z : UInt8, z.toNat = 128 + m % 128 := ⟨UInt8.ofNat (128 + m % 128), by rw [UInt8.toNat_ofNat', Nat.mod_eq_of_lt (by omega)]⟩
        have hor : Go.bits .or .u8 128 ((m : Int) % 256) = (z.toNat : Int) := by
          have e := Pm.or_128 (m % 256) (by omega)
          rw [hz]
          rw [show ((m : Int) % 256) = ((m % 256 : Nat) : Int) by omega, e]
          omega
        have HZ : Hid ((pre ++ [z]) ++ Pm.tail (m / 128) = Pm.num h b n) := hid' (by
          rw [← HP.out, Pm.tail_big m hb, List.append_assoc, ← hz]; simp)
        obtain ⟨xs, hxs⟩ : ∃ xs, Lib.byteCells pre = xs := ⟨_, rfl⟩
        obtain ⟨np, hnp⟩ : ∃ np, pre.length = np := ⟨_, rfl⟩
        rw [hxs, hnp] at HOW
        rw [hnp] at hpl
        have HXS := hid' hxs
        have HNP := hid' hnp
        clear hz HS hxs hnp
        go_wp2_with (at_builtin; refine wpList_append_own _ rfl _ _ 57 rfl w'.heap.size 5 i0 (.int .u8 0) 1 1 Tryz.underlying57 HI.out HZ0.out HZ1.out HZ2.out rfl (by decide) _ _ _ rfl (World.ownsRow.alloc HOW.out _) ⟨wr.heap.size, 0, none⟩ 1 1 [.int .u8 (z.toNat : Int)] rfl rfl (Pm.one_new _ _ _) (fun u hu => by simp at hu; subst hu; rfl) ?a1 ?a2 ?a3 ?_)
        case a1 => unfold maxLen; omega
        case a2 => omega
        case a3 => have := HB.out.size; simp; omega
        intro vx w5 hown hgrow _
        have hbe := Pm.grown_below HOW.out (Pm.grown_alloc hgrow) HB.out.size
        have HS5 : Hid (∃ pre, w5.ownsRow w'.heap.size 5 1 vx pre.length (Lib.byteCells pre) ∧ pre ++ Pm.tail (m / 128) = Pm.num h b n ∧ Below w'.heap.size w' w5) := hid' (by
          refine ⟨pre ++ [z], ?_, HZ.out, HB.out.trans hbe⟩
          rw [Pm.byteCells_snoc, HXS.out, List.length_append, HNP.out]; exact hown)
        clear hown hgrow hbe
        go_wp2
        go_roundw
        case rel => exact ⟨m / 128, by go_num, by omega, HS5⟩
        case measure => simp [intOf]; omega
      · have hb2 : (m : Int) < 128 := by omega
        obtain ⟨pre, HOW, HP, HB⟩ : ∃ pre, Hid (wr.ownsRow w'.heap.size 5 1 u8 pre.length (Lib.byteCells pre)) ∧ Hid (pre ++ Pm.tail m = Pm.num h b n) ∧ Hid (Below w'.heap.size w' wr) := by
          obtain ⟨pre, a, b, c⟩ := HS.out
          exact ⟨pre, hid' a, hid' b, hid' c⟩
        have hpl : pre.length ≤ 10 := by have h1 := HP.out; have h2 := HL.out; rw [← h1, List.length_append] at h2; omega
        obtain ⟨z, hz⟩ : ∃ z : UInt8, z.toNat = m := ⟨UInt8.ofNat m, by rw [UInt8.toNat_ofNat', Nat.mod_eq_of_lt (by omega)]⟩
        have HZ : Hid (pre ++ [z] = Pm.num h b n) := hid' (by
          rw [← HP.out, Pm.tail_small m (by omega), ← hz]; simp)
        subst hz
        obtain ⟨xs, hxs⟩ : ∃ xs, Lib.byteCells pre = xs := ⟨_, rfl⟩
        obtain ⟨np, hnp⟩ : ∃ np, pre.length = np := ⟨_, rfl⟩
        rw [hxs, hnp] at HOW
        rw [hnp] at hpl
        have HXS := hid' hxs
        have HNP := hid' hnp
        clear HS hxs hnp
        go_wp2_with (at_builtin; refine wpList_append_own _ rfl _ _ 57 rfl w'.heap.size 5 i0 (.int .u8 0) 1 1 Tryz.underlying57 HI.out HZ0.out HZ1.out HZ2.out rfl (by decide) _ _ _ rfl (World.ownsRow.alloc HOW.out _) ⟨wr.heap.size, 0, none⟩ 1 1 [.int .u8 (z.toNat : Int)] rfl rfl (Pm.one_new _ _ _) (fun u hu => by simp at hu; subst hu; rfl) ?a1 ?a2 ?a3 ?_)
        case a1 => unfold maxLen; omega
        case a2 => omega
        case a3 => have := HB.out.size; simp; omega
        intro vx w5 hown hgrow _
        have hbe := Pm.grown_below HOW.out (Pm.grown_alloc hgrow) HB.out.size
        have HOW5 : Hid (w5.ownsRow w'.heap.size 5 1 vx (np + 1) (Lib.byteCells (Pm.num h b n))) := hid' (by
          rw [← HZ.out, Pm.byteCells_snoc, HXS.out]; exact hown)
        have hcv := Pm.own_str HOW5.out (by rw [← HZ.out, List.length_append, HNP.out]; rfl)
        have HB5 := hid' (HB.out.trans hbe)
        clear hown hgrow hbe
        go_wp2
        go_ret
        exact ⟨rfl, HB5.out⟩

set_option maxHeartbeats 1000000 in
set_option maxRecDepth 20000 in
theorem int_ok (h b n : Nat) (hh : h < 256) (h0 : 1 ≤ b) (h1 : b ≤ 8) (hm : h % 2 ^ b = 0) (hn : n ≤ 2147483647) (w : World) :
    Calls Tryz.prog 56 #[.int .u8 (h : Int), .int .i64 (b : Int), .int .i64 (n : Int)] w fun e w' => e = .returned (.tuple #[.string ⟨(Pm.num h b n).toArray⟩, .int .i64 0]) ∧ Below w.heap.size w w' := by
  obtain ⟨o, ho⟩ : ∃ o, 2 ^ b - 1 = o := ⟨_, rfl⟩
  have HO := hid' ho
  have HM := hid' hm
  have hand : Go.bits .and .i64 (h : Int) (o : Int) = 0 := by rw [Pm.mask_i64 h b o hh h1 ho, hm]; rfl
  have hb1 : (1 : Int) ≤ b := by omega
  have hb2 : (b : Int) ≤ 8 := by omega
  have hn2 : (n : Int) ≤ 2147483647 := by omega
  clear ho hm
  go_enter Tryz.func56, Tryz.ntmps56
  go_wp2_with fail
  refine (areBits_yes _ hb1 hb2 _).mono ?_
  rintro e w' ⟨rfl, rfl⟩
  go_wp2_with fail
  refine (pones b o h1 HO.out _).mono ?_
  rintro e w'' ⟨rfl, rfl⟩
  go_wp2_with fail
  refine (number_any h b n hh h0 h1 HM.out (by omega) _).mono ?_
  rintro e w3 ⟨rfl, hb⟩
  have HB := hid' hb
  clear hb
  go_wp2
  go_ret2
  exact ⟨rfl, HB.out⟩

set_option maxHeartbeats 1000000 in
set_option maxRecDepth 20000 in
theorem int_arg (h : Nat) (b n : Int) (hh : h < 256) (hbad : ¬ (1 ≤ b ∧ b ≤ 8 ∧ 0 ≤ n ∧ n ≤ 2147483647 ∧ h % 2 ^ b.toNat = 0)) (w : World) :
    Calls Tryz.prog 56 #[.int .u8 (h : Int), .int .i64 b, .int .i64 n] w fun e w' => e = .returned (.tuple #[.string ⟨#[]⟩, .int .i64 1]) ∧ w' = w := by
  by_cases h1 : 1 ≤ b ∧ b ≤ 8
  · by_cases hn0 : n < 0
    · clear hbad
      go_enter Tryz.func56, Tryz.ntmps56
      go_wp2_with fail
      refine (areBits_yes _ h1.1 h1.2 _).mono ?_
      rintro e w' ⟨rfl, rfl⟩
      go_wp2
      go_ret2
      exact ⟨rfl, rfl⟩
    · by_cases hn1 : 2147483647 < n
      · clear hbad
        go_enter Tryz.func56, Tryz.ntmps56
        go_wp2_with fail
        refine (areBits_yes _ h1.1 h1.2 _).mono ?_
        rintro e w' ⟨rfl, rfl⟩
        go_wp2
        go_ret2
        exact ⟨rfl, rfl⟩
      · obtain ⟨k, rfl⟩ : ∃ k : Nat, b = (k : Int) := ⟨b.toNat, by omega⟩
        rw [Int.toNat_natCast] at hbad
        have hk : k ≤ 8 := by omega
        obtain ⟨o, ho⟩ : ∃ o, 2 ^ k - 1 = o := ⟨_, rfl⟩
        have HO := hid' ho
        obtain ⟨r, hr⟩ : ∃ r, h % 2 ^ k = r := ⟨_, rfl⟩
        have hr0 : r ≠ 0 := fun e => hbad ⟨h1.1, h1.2, by omega, by omega, by omega⟩
        have hand : Go.bits .and .i64 (h : Int) (o : Int) = (r : Int) := by rw [Pm.mask_i64 h k o hh hk ho, hr]
        have hr1 : ((r : Int) == 0) = false := by simp; omega
        have hr2 : ((r : Int) != 0) = true := by simp; omega
        clear hbad ho hr
        go_enter Tryz.func56, Tryz.ntmps56
        go_wp2_with fail
        refine (areBits_yes _ h1.1 h1.2 _).mono ?_
        rintro e w' ⟨rfl, rfl⟩
        go_wp2_with fail
        refine (pones k o hk HO.out _).mono ?_
        rintro e w' ⟨rfl, rfl⟩
        go_wp2
        go_ret2
        exact ⟨rfl, rfl⟩
  · clear hbad
    go_enter Tryz.func56, Tryz.ntmps56
    go_wp2_with fail
    refine (areBits_no _ h1 _).mono ?_
    rintro e w' ⟨rfl, rfl⟩
    go_wp2
    go_ret2
    exact ⟨rfl, rfl⟩

end Go.Proofs.YtmkkhfkfjmfdcaaGreat
