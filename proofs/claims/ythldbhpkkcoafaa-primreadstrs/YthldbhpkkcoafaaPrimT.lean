/-
  ostlerref04.Str, ostlerref04.ReadStr: by their contracts.
-/
import Derived.Test.YthldbhpkkcoafaaPrimS
import Derived.Test.YthldbhpkkcoafaaHuffVF
namespace Go.Proofs.Ythldbhpkkcoafaa
open Go.RowKit

theorem rint_at (h b n : Nat) (a : List UInt8) (ha : Pm.num h b n = a) (hh : h < 256) (h0 : 1 ≤ b) (h1 : b ≤ 8) (hm : h % 2 ^ b = 0) (hn : n ≤ 2147483647) (w : World) :
    Calls Try.prog 10 #[.int .u8 (h : Int), .int .i64 (b : Int), .int .i64 (n : Int)] w fun e w' => e = .returned (.tuple #[.string ⟨a.toArray⟩, .int .i64 0]) ∧ Below w.heap.size w w' := by
  subst ha; exact rint_ok h b n hh h0 h1 hm hn w
theorem rencode_at (l c : List UInt8) (hc : Hf.enc l = c) (hs : l.length ≤ 2147483648) (w : World) : Calls Try.prog 24 #[.string ⟨l.toArray⟩] w fun e w' => e = .returned (.string ⟨c.toArray⟩) ∧ Below w.heap.size w w' := by
  subst hc; exact rencode_any ⟨l.toArray⟩ (by rw [size_l]; exact hs) w
theorem rdecode_at (l : List UInt8) (most : Int) (M : Nat) (hM : max most 0 = (M : Int)) (hs : l.length ≤ 2147483648) (R : Hf.Res) (hR : Hf.dec M (Hf.unp l) 0 0 [] = R) (w : World) :
    Calls Try.prog 28 #[.string ⟨l.toArray⟩, .int .i64 most] w fun e w' => e = .returned (Hf.resV R) ∧ Below w.heap.size w w' := by
  subst hR; exact rdecode_any ⟨l.toArray⟩ (by rw [size_l]; exact hs) most M hM w
theorem rreadInt_at (s : ByteArray) (b : Nat) (h0 : 1 ≤ b) (h1 : b ≤ 8) (R : Pm.R) (hR : Pm.rd b s.data.toList = R) (w : World) :
    Calls Try.prog 13 #[.string s, .int .i64 (b : Int)] w fun e w' => e = .returned (Pm.rV R) ∧ Below w.heap.size w w' := by
  subst hR
  refine (rreadInt_any s b h0 h1 w).mono ?_
  rintro e w' ⟨rfl, rfl⟩
  exact ⟨rfl, Below.refl _ _⟩

set_option maxHeartbeats 1000000 in
theorem rstr_at (l t : List UInt8) (ht : Pm.str l = t) (hl : l.length ≤ 2147483647) (w : World) :
    Calls Try.prog 15 #[.string ⟨l.toArray⟩] w fun e w' => e = .returned (.string ⟨t.toArray⟩) ∧ Below w.heap.size w w' := by
  have HT := hid' ht
  clear ht
  obtain ⟨c, hc⟩ : ∃ c, Hf.enc l = c := ⟨_, rfl⟩
  have HC := hid' hc
  have hcl := (Pm.enc_le l).2
  rw [hc] at hcl
  by_cases h : c.length < l.length
  · have h2 : (c.length : Int) < (l.length : Int) := by omega
    obtain ⟨a, ha⟩ : ∃ a, Pm.num 128 7 c.length = a := ⟨_, rfl⟩
    have HA := hid' ha
    have hcat : (⟨a.toArray⟩ : ByteArray) ++ ⟨c.toArray⟩ = ⟨(a ++ c).toArray⟩ := Pm.str_cat a c
    have hal : a.length ≤ 10 := by rw [← ha]; exact Pm.num_ten _ _ _ (by omega)
    have HS : Hid (t = a ++ c) := hid' (by rw [← HT.out]; unfold Pm.str; rw [hc, if_pos h, ha])
    clear hc ha
    go_enter Try.func15, Try.ntmps15
    go_wp2_with fail
    refine (rencode_at l c HC.out (by omega) _).mono ?_
    rintro e w1 ⟨rfl, hb1⟩
    have HB1 := hid' hb1
    clear hb1
    go_wp2_with fail
    refine (rint_at 128 7 c.length a HA.out (by omega) (by omega) (by omega) (by decide) (by omega) _).mono ?_
    rintro e w2 ⟨rfl, hb2⟩
    have HB2 := hid' (below_two HB1.out hb2)
    clear hb2 HB1
    go_wp2
    go_ret
    exact ⟨ret_str (by rw [HS.out]), HB2.out⟩
  · have h2 : decide ((c.length : Int) < (l.length : Int)) = false := by simp; omega
    obtain ⟨a, ha⟩ : ∃ a, Pm.num 0 7 l.length = a := ⟨_, rfl⟩
    have HA := hid' ha
    have hcat : (⟨a.toArray⟩ : ByteArray) ++ ⟨l.toArray⟩ = ⟨(a ++ l).toArray⟩ := Pm.str_cat a l
    have hal : a.length ≤ 10 := by rw [← ha]; exact Pm.num_ten _ _ _ (by omega)
    have HS : Hid (t = a ++ l) := hid' (by rw [← HT.out]; unfold Pm.str; rw [hc, if_neg h, ha])
    clear hc ha
    go_enter Try.func15, Try.ntmps15
    go_wp2_with fail
    refine (rencode_at l c HC.out (by omega) _).mono ?_
    rintro e w1 ⟨rfl, hb1⟩
    have HB1 := hid' hb1
    clear hb1
    go_wp2_with fail
    refine (rint_at 0 7 l.length a HA.out (by omega) (by omega) (by omega) (by decide) hl _).mono ?_
    rintro e w2 ⟨rfl, hb2⟩
    have HB2 := hid' (below_two HB1.out hb2)
    clear hb2 HB1
    go_wp2
    go_ret
    exact ⟨ret_str (by rw [HS.out]), HB2.out⟩

set_option maxHeartbeats 2000000 in
set_option maxRecDepth 20000 in
theorem rreadStr_any (s : ByteArray) (most : Int) (M : Nat) (hM : max most 0 = (M : Int)) (hs : s.size ≤ 281474976710656) (w : World) :
    Calls Try.prog 17 #[.string s, .int .i64 most] w fun e w' => e = .returned (Pm.sV (Pm.rs M s.data.toList)) ∧ Below w.heap.size w w' := by
  obtain ⟨R, hR⟩ : ∃ R, Pm.rd 7 s.data.toList = R := ⟨_, rfl⟩
  have HR := hid' hR
  have HRS : Hid (Pm.rs M s.data.toList = Pm.ofR M s.data.toList R) := hid' (by unfold Pm.rs; rw [hR])
  have HL := hid' (fun n k => Pm.rd_le 7 n k (by omega) s.data.toList)
  clear hR
  cases R with
  | arg =>
    go_enter Try.func17, Try.ntmps17
    go_wp2_with fail
    refine (rreadInt_at s 7 (by omega) (by omega) _ HR.out _).mono ?_
    rintro e w1 ⟨rfl, hb1⟩
    have HB1 := hid' hb1
    clear hb1
    simp only [Pm.rV]
    go_wp2
    go_ret3
    exact ⟨by rw [HRS.out]; rfl, HB1.out⟩
  | short =>
    go_enter Try.func17, Try.ntmps17
    go_wp2_with fail
    refine (rreadInt_at s 7 (by omega) (by omega) _ HR.out _).mono ?_
    rintro e w1 ⟨rfl, hb1⟩
    have HB1 := hid' hb1
    clear hb1
    simp only [Pm.rV]
    go_wp2
    go_ret3
    exact ⟨by rw [HRS.out]; rfl, HB1.out⟩
  | number =>
    go_enter Try.func17, Try.ntmps17
    go_wp2_with fail
    refine (rreadInt_at s 7 (by omega) (by omega) _ HR.out _).mono ?_
    rintro e w1 ⟨rfl, hb1⟩
    have HB1 := hid' hb1
    clear hb1
    simp only [Pm.rV]
    go_wp2
    go_ret3
    exact ⟨by rw [HRS.out]; rfl, HB1.out⟩
  | ok n k =>
    obtain ⟨hk1, hk2, hk6, hn⟩ := HL.out n k HR.out
    rw [← Lib.size_eq] at hk2
    clear HL
    have hs0 : 0 < s.size := by omega
    have hl0 : 0 < s.data.toList.length := by rw [← Lib.size_eq]; omega
    obtain ⟨x, hx⟩ : ∃ x : UInt8, s[0] = x := ⟨_, rfl⟩
    have hxl : s.data.toList[0] = x := hx
    have hhd : s.data.toList.headD 0 = x := by rw [Pm.headD_get _ hl0, hxl]
    have x256 := UInt8.toNat_lt x
    have HRS := hid' HRS.out
    rw [Pm.ofR, hhd] at HRS
    clear hhd hxl
    obtain ⟨e, he⟩ : ∃ e : Nat, (k : Int) + (n : Int) = (e : Int) := ⟨k + n, by omega⟩
    have hee : k + n = e := by omega
    obtain ⟨t, ht⟩ : ∃ t, (s.data.toList.drop k).take n = t := ⟨_, rfl⟩
    have hcut : s.extract k e = ⟨t.toArray⟩ := by
      have := Pm.cut_mid s.data.toList k e
      rw [show e - k = n by omega, ht] at this
      exact this
    have htl : t.length ≤ 2147483647 := by rw [← ht, List.length_take]; omega
    have hke : k ≤ e := by omega
    have HB : Hid (Pm.rs M s.data.toList = if M < (if decide (128 ≤ x.toNat) then (n + 3) / 4 else n) then .err 3 else if s.size < e then .err 40 else if decide (128 ≤ x.toNat) then Pm.ofRes e (Hf.dec M (Hf.unp t) 0 0 []) else .ok t e) := hid' (by
      rw [HRS.out]; unfold Pm.body; rw [ht, hee, ← Lib.size_eq])
    clear HRS ht
    have HEE := hid' hee
    clear hee
    by_cases hx8 : x.toNat < 128
    · have hb0 : decide ((128 : Int) ≤ (x.toNat : Int)) = false := decide_eq_false (by omega)
      have HB' : Hid (Pm.rs M s.data.toList = if M < n then .err 3 else if s.size < e then .err 40 else .ok t e) := hid' (by
        have hd : decide (128 ≤ x.toNat) = false := by simp; omega
        rw [HB.out, hd]; rfl)
      clear HB
      by_cases hMn : M < n
      · have hMn2 : (M : Int) < (n : Int) := by omega
        go_enter Try.func17, Try.ntmps17
        go_wp2_with fail
        refine (rreadInt_at s 7 (by omega) (by omega) _ HR.out _).mono ?_
        rintro e w1 ⟨rfl, hb1⟩
        have HB1 := hid' hb1
        clear hb1
        simp only [Pm.rV]
        go_wp2
        go_ret3
        exact ⟨by rw [HB'.out, if_pos hMn]; rfl, HB1.out⟩
      · have hMn2 : decide ((M : Int) < (n : Int)) = false := by simp; omega
        by_cases hse : s.size < e
        · have hse2 : (s.size : Int) - (k : Int) < (n : Int) := by omega
          go_enter Try.func17, Try.ntmps17
          go_wp2_with fail
          refine (rreadInt_at s 7 (by omega) (by omega) _ HR.out _).mono ?_
          rintro e w1 ⟨rfl, hb1⟩
          have HB1 := hid' hb1
          clear hb1
          simp only [Pm.rV]
          go_wp2
          go_ret3
          exact ⟨by rw [HB'.out, if_neg hMn, if_pos hse]; rfl, HB1.out⟩
        · have hse2 : decide ((s.size : Int) - (k : Int) < (n : Int)) = false := by simp; omega
          have hse3 : (e : Int) ≤ (s.size : Int) := by omega
          go_enter Try.func17, Try.ntmps17
          go_wp2_with fail
          refine (rreadInt_at s 7 (by omega) (by omega) _ HR.out _).mono ?_
          rintro e w1 ⟨rfl, hb1⟩
          have HB1 := hid' hb1
          clear hb1
          simp only [Pm.rV]
          go_wp2
          go_ret3
          exact ⟨by rw [HB'.out, if_neg hMn, if_neg hse]; rfl, HB1.out⟩
    · have hb0 : decide ((128 : Int) ≤ (x.toNat : Int)) = true := decide_eq_true (by omega)
      obtain ⟨q, hq⟩ : ∃ q, (n + 3) / 4 = q := ⟨_, rfl⟩
      have HQ := hid' hq
      have hq4 : ((n : Int) + 3).tdiv 4 = (q : Int) := by rw [Int.tdiv_eq_ediv_of_nonneg (by omega)]; omega
      have hq5 : ((n : Int) + 3) / 4 = (q : Int) := by omega
      have HB' : Hid (Pm.rs M s.data.toList = if M < q then .err 3 else if s.size < e then .err 40 else Pm.ofRes e (Hf.dec M (Hf.unp t) 0 0 [])) := hid' (by
        have hd : decide (128 ≤ x.toNat) = true := by simp; omega
        rw [HB.out, hd, if_pos rfl, if_pos rfl, hq])
      clear HB hq
      by_cases hMn : M < q
      · have hMn2 : (M : Int) < (q : Int) := by omega
        go_enter Try.func17, Try.ntmps17
        go_wp2_with fail
        refine (rreadInt_at s 7 (by omega) (by omega) _ HR.out _).mono ?_
        rintro e w1 ⟨rfl, hb1⟩
        have HB1 := hid' hb1
        clear hb1
        simp only [Pm.rV]
        go_wp2
        go_ret3
        exact ⟨by rw [HB'.out, if_pos hMn]; rfl, HB1.out⟩
      · have hMn2 : decide ((M : Int) < (q : Int)) = false := by simp; omega
        by_cases hse : s.size < e
        · have hse2 : (s.size : Int) - (k : Int) < (n : Int) := by omega
          go_enter Try.func17, Try.ntmps17
          go_wp2_with fail
          refine (rreadInt_at s 7 (by omega) (by omega) _ HR.out _).mono ?_
          rintro e w1 ⟨rfl, hb1⟩
          have HB1 := hid' hb1
          clear hb1
          simp only [Pm.rV]
          go_wp2
          go_ret3
          exact ⟨by rw [HB'.out, if_neg hMn, if_pos hse]; rfl, HB1.out⟩
        · have hse2 : decide ((s.size : Int) - (k : Int) < (n : Int)) = false := by simp; omega
          have hse3 : (e : Int) ≤ (s.size : Int) := by omega
          have HM2 : Hid (max (M : Int) 0 = (M : Int)) := hid' (by omega)
          obtain ⟨D, hD⟩ : ∃ D, Hf.dec M (Hf.unp t) 0 0 [] = D := ⟨_, rfl⟩
          have HD := hid' hD
          rw [hD] at HB'
          clear hD
          cases D with
          | ok u =>
            go_enter Try.func17, Try.ntmps17
            go_wp2_with fail
            refine (rreadInt_at s 7 (by omega) (by omega) _ HR.out _).mono ?_
            rintro e w1 ⟨rfl, hb1⟩
            have HB1 := hid' hb1
            clear hb1
            simp only [Pm.rV]
            go_wp2_with fail
            refine (rdecode_at t (M : Int) M HM2.out (by omega) _ HD.out _).mono ?_
            rintro e w3 ⟨rfl, hb3⟩
            have HB3 := hid' (below_two HB1.out hb3)
            clear hb3
            simp only [Hf.resV]
            go_wp2
            go_ret3
            exact ⟨by rw [HB'.out, if_neg hMn, if_neg hse]; rfl, HB3.out⟩
          | _ =>
            go_enter Try.func17, Try.ntmps17
            go_wp2_with fail
            refine (rreadInt_at s 7 (by omega) (by omega) _ HR.out _).mono ?_
            rintro e w1 ⟨rfl, hb1⟩
            have HB1 := hid' hb1
            clear hb1
            simp only [Pm.rV]
            go_wp2_with fail
            refine (rdecode_at t (M : Int) M HM2.out (by omega) _ HD.out _).mono ?_
            rintro e w3 ⟨rfl, hb3⟩
            have HB3 := hid' (below_two HB1.out hb3)
            clear hb3
            simp only [Hf.resV]
            go_wp2
            go_ret3
            exact ⟨by rw [HB'.out, if_neg hMn, if_neg hse]; rfl, HB3.out⟩

end Go.Proofs.Ythldbhpkkcoafaa
