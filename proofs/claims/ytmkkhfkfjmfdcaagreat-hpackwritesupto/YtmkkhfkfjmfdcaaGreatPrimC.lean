/-
  prim.Str, prim.fewest, strings.Clone, prim.ReadStr: by their contracts.
-/
import Derived.Test.YtmkkhfkfjmfdcaaGreatPrimB
import Derived.Test.YtmkkhfkfjmfdcaaGreatPrimQ
namespace Go.Proofs.YtmkkhfkfjmfdcaaGreat
open Go.RowKit

set_option maxHeartbeats 1000000 in
theorem str_any (l : List UInt8) (hl : l.length ≤ 2147483648) (w : World) :
    Calls Tryz.prog 41 #[.string ⟨l.toArray⟩] w fun e w' => e = .returned (.string ⟨(Pm.str l).toArray⟩) ∧ Below w.heap.size w w' := by
  obtain ⟨c, hc⟩ : ∃ c, Hf.enc l = c := ⟨_, rfl⟩
  have HC := hid' hc
  have HSZ : Hid ((Hf.enc l).length = c.length) := hid' (by rw [hc])
  have hcl := (Pm.enc_le l).2
  rw [hc] at hcl
  by_cases h : c.length < l.length
  · have h2 : (c.length : Int) < (l.length : Int) := by omega
    obtain ⟨a, ha⟩ : ∃ a, Pm.num 128 7 c.length = a := ⟨_, rfl⟩
    have HA := hid' ha
    have hcat : (⟨a.toArray⟩ : ByteArray) ++ ⟨c.toArray⟩ = ⟨(a ++ c).toArray⟩ := Pm.str_cat a c
    have hal : a.length ≤ 10 := by rw [← ha]; exact Pm.num_ten _ _ _ (by omega)
    have HS : Hid (Pm.str l = a ++ c) := hid' (by unfold Pm.str; rw [hc, if_pos h, ha])
    clear hc ha
    go_enter Tryz.func41, Tryz.ntmps41
    go_wp2_with fail
    refine (size_of l c.length HSZ.out hl _).mono ?_
    rintro e w1 ⟨rfl, hb1⟩
    have HB1 := hid' hb1
    clear hb1
    go_wp2_with fail
    refine (number_any 128 7 c.length (by omega) (by omega) (by omega) (by decide) (by omega) _).mono ?_
    rintro e w2 ⟨rfl, hb2⟩
    rw [HA.out]
    have HB2 := hid' (below_two HB1.out hb2)
    clear hb2 HB1
    go_wp2_with fail
    refine (encode_l l c HC.out hl _).mono ?_
    rintro e w3 ⟨rfl, hb3⟩
    have HB3 := hid' (below_two HB2.out hb3)
    clear hb3 HB2
    go_wp2
    go_ret
    exact ⟨ret_str (by rw [HS.out]), HB3.out⟩
  · have h2 : decide ((c.length : Int) < (l.length : Int)) = false := by simp; omega
    obtain ⟨a, ha⟩ : ∃ a, Pm.num 0 7 l.length = a := ⟨_, rfl⟩
    have HA := hid' ha
    have hcat : (⟨a.toArray⟩ : ByteArray) ++ ⟨l.toArray⟩ = ⟨(a ++ l).toArray⟩ := Pm.str_cat a l
    have hal : a.length ≤ 10 := by rw [← ha]; exact Pm.num_ten _ _ _ (by omega)
    have HS : Hid (Pm.str l = a ++ l) := hid' (by unfold Pm.str; rw [hc, if_neg h, ha])
    clear hc ha
    go_enter Tryz.func41, Tryz.ntmps41
    go_wp2_with fail
    refine (size_of l c.length HSZ.out hl _).mono ?_
    rintro e w1 ⟨rfl, hb1⟩
    have HB1 := hid' hb1
    clear hb1
    go_wp2_with fail
    refine (number_any 0 7 l.length (by omega) (by omega) (by omega) (by decide) (by omega) _).mono ?_
    rintro e w2 ⟨rfl, hb2⟩
    rw [HA.out]
    have HB2 := hid' (below_two HB1.out hb2)
    clear hb2 HB1
    go_wp2
    go_ret
    exact ⟨ret_str (by rw [HS.out]), HB2.out⟩

theorem fewest_no (n : Nat) (w : World) : Calls Tryz.prog 98 #[.int .i64 (n : Int), .bool false] w fun e w' => e = .returned (.int .i64 (n : Int)) ∧ w' = w := by
  go_enter Tryz.func98, Tryz.ntmps98
  go_wp2
  go_ret
  exact ⟨rfl, rfl⟩
theorem fewest_yes (n q : Nat) (hn : n ≤ 2147483647) (hq : (n + 3) / 4 = q) (w : World) : Calls Tryz.prog 98 #[.int .i64 (n : Int), .bool true] w fun e w' => e = .returned (.int .i64 (q : Int)) ∧ w' = w := by
  have HQ := hid' hq
  have h4 : ((n : Int) + 3).tdiv 4 = (q : Int) := by rw [Int.tdiv_eq_ediv_of_nonneg (by omega)]; omega
  clear hq
  go_enter Tryz.func98, Tryz.ntmps98
  go_wp2
  go_ret
  refine ⟨ret_int ?_, rfl⟩
  have := HQ.out
  first | omega | (unfold wrap64; omega)

theorem clone_any (s : ByteArray) (hs : s.size ≤ 281474976710656) (w : World) : Calls Tryz.prog 78 #[.string s] w fun e w' => e = .returned (.string s) ∧ Below w.heap.size w w' := by
  go_enter Tryz.func78, Tryz.ntmps78
  go_wp2_with fail
  refine (Tryz.stringslite_Clone s _ hs).mono ?_
  rintro e w1 ⟨rfl, hb1⟩
  go_wp2
  go_ret
  exact ⟨rfl, hb1⟩

theorem readInt_at (s : ByteArray) (b : Nat) (h0 : 1 ≤ b) (h1 : b ≤ 8) (R : Pm.R) (hR : Pm.rd b s.data.toList = R) (w : World) :
    Calls Tryz.prog 85 #[.string s, .int .i64 (b : Int)] w fun e w' => e = .returned (Pm.rV R) ∧ Below w.heap.size w w' := by
  subst hR; exact readInt_any s b h0 h1 w

set_option maxHeartbeats 2000000 in
set_option maxRecDepth 20000 in
theorem readStr_any (s : ByteArray) (most : Int) (M : Nat) (hM : max most 0 = (M : Int)) (hs : s.size ≤ 281474976710656) (w : World) :
    Calls Tryz.prog 96 #[.string s, .int .i64 most] w fun e w' => e = .returned (Pm.sV (Pm.rs M s.data.toList)) ∧ Below w.heap.size w w' := by
  obtain ⟨R, hR⟩ : ∃ R, Pm.rd 7 s.data.toList = R := ⟨_, rfl⟩
  have HR := hid' hR
  have HRS : Hid (Pm.rs M s.data.toList = Pm.ofR M s.data.toList R) := hid' (by unfold Pm.rs; rw [hR])
  have HL := hid' (fun n k => Pm.rd_le 7 n k (by omega) s.data.toList)
  clear hR
  cases R with
  | arg =>
    go_enter Tryz.func96, Tryz.ntmps96
    go_wp2_with fail
    refine (readInt_at s 7 (by omega) (by omega) _ HR.out _).mono ?_
    rintro e w1 ⟨rfl, hb1⟩
    have HB1 := hid' hb1
    clear hb1
    simp only [Pm.rV]
    go_wp2
    go_ret3
    exact ⟨by rw [HRS.out]; rfl, HB1.out⟩
  | short =>
    go_enter Tryz.func96, Tryz.ntmps96
    go_wp2_with fail
    refine (readInt_at s 7 (by omega) (by omega) _ HR.out _).mono ?_
    rintro e w1 ⟨rfl, hb1⟩
    have HB1 := hid' hb1
    clear hb1
    simp only [Pm.rV]
    go_wp2
    go_ret3
    exact ⟨by rw [HRS.out]; rfl, HB1.out⟩
  | number =>
    go_enter Tryz.func96, Tryz.ntmps96
    go_wp2_with fail
    refine (readInt_at s 7 (by omega) (by omega) _ HR.out _).mono ?_
    rintro e w1 ⟨rfl, hb1⟩
    have HB1 := hid' hb1
    clear hb1
    simp only [Pm.rV]
    go_wp2
    go_ret3
    exact ⟨by rw [HRS.out]; rfl, HB1.out⟩
  | ok n k =>
    obtain ⟨hk1, hk2, hk6, hn⟩ := HL.out n k HR.out
    rw [← Lib.size_eq] at hk2
    clear HL
    have hs0 : 0 < s.size := by omega
    have hl0 : 0 < s.data.toList.length := by rw [← Lib.size_eq]; omega
    obtain ⟨x, hx⟩ : ∃ x : UInt8, s[0] = x := ⟨_, rfl⟩
    have hxl : s.data.toList[0] = x := hx
    have hhd : s.data.toList.headD 0 = x := by rw [Pm.headD_get _ hl0, hxl]
    have x256 := UInt8.toNat_lt x
    have HRS := hid' HRS.out
    rw [Pm.ofR, hhd] at HRS
    clear hhd hxl
    obtain ⟨e, he⟩ : ∃ e : Nat, (k : Int) + (n : Int) = (e : Int) := ⟨k + n, by omega⟩
    have hee : k + n = e := by omega
    obtain ⟨t, ht⟩ : ∃ t, (s.data.toList.drop k).take n = t := ⟨_, rfl⟩
    have hcut : s.extract k e = ⟨t.toArray⟩ := by
      have := Pm.cut_mid s.data.toList k e
      rw [show e - k = n by omega, ht] at this
      exact this
    have htl : t.length ≤ 2147483647 := by rw [← ht, List.length_take]; omega
    have hke : k ≤ e := by omega
    have HB : Hid (Pm.rs M s.data.toList = if M < (if decide (128 ≤ x.toNat) then (n + 3) / 4 else n) then .err 3 else if s.size < e then .err 40 else if decide (128 ≤ x.toNat) then Pm.ofRes e (Hf.dec M (Hf.unp t) 0 0 []) else .ok t e) := hid' (by
      rw [HRS.out]; unfold Pm.body; rw [ht, hee, ← Lib.size_eq])
    clear HRS ht
    have HEE := hid' hee
    clear hee
    by_cases hx8 : x.toNat < 128
    · have hb0 : Go.bits .and .u8 (x.toNat : Int) 128 = 0 := by rw [Pm.and_128_u8 _ (by omega), if_pos hx8]
      have HB' : Hid (Pm.rs M s.data.toList = if M < n then .err 3 else if s.size < e then .err 40 else .ok t e) := hid' (by
        have hd : decide (128 ≤ x.toNat) = false := by simp; omega
        rw [HB.out, hd]; rfl)
      clear HB
      by_cases hMn : M < n
      · have hMn2 : (M : Int) < (n : Int) := by omega
        go_enter Tryz.func96, Tryz.ntmps96
        go_wp2_with fail
        refine (readInt_at s 7 (by omega) (by omega) _ HR.out _).mono ?_
        rintro e w1 ⟨rfl, hb1⟩
        have HB1 := hid' hb1
        clear hb1
        simp only [Pm.rV]
        go_wp2_with fail
        refine (fewest_no n _).mono ?_
        rintro e w2 ⟨rfl, rfl⟩
        go_wp2
        go_ret3
        exact ⟨by rw [HB'.out, if_pos hMn]; rfl, HB1.out⟩
      · have hMn2 : decide ((M : Int) < (n : Int)) = false := by simp; omega
        by_cases hse : s.size < e
        · have hse2 : (s.size : Int) - (k : Int) < (n : Int) := by omega
          go_enter Tryz.func96, Tryz.ntmps96
          go_wp2_with fail
          refine (readInt_at s 7 (by omega) (by omega) _ HR.out _).mono ?_
          rintro e w1 ⟨rfl, hb1⟩
          have HB1 := hid' hb1
          clear hb1
          simp only [Pm.rV]
          go_wp2_with fail
          refine (fewest_no n _).mono ?_
          rintro e w2 ⟨rfl, rfl⟩
          go_wp2
          go_ret3
          exact ⟨by rw [HB'.out, if_neg hMn, if_pos hse]; rfl, HB1.out⟩
        · have hse2 : decide ((s.size : Int) - (k : Int) < (n : Int)) = false := by simp; omega
          have hse3 : (e : Int) ≤ (s.size : Int) := by omega
          go_enter Tryz.func96, Tryz.ntmps96
          go_wp2_with fail
          refine (readInt_at s 7 (by omega) (by omega) _ HR.out _).mono ?_
          rintro e w1 ⟨rfl, hb1⟩
          have HB1 := hid' hb1
          clear hb1
          simp only [Pm.rV]
          go_wp2_with fail
          refine (fewest_no n _).mono ?_
          rintro e w2 ⟨rfl, rfl⟩
          go_wp2_with fail
          refine (clone_any ⟨t.toArray⟩ (by rw [size_l]; omega) _).mono ?_
          rintro e w3 ⟨rfl, hb3⟩
          have HB3 := hid' (below_two HB1.out hb3)
          clear hb3
          go_wp2
          go_ret3
          exact ⟨by rw [HB'.out, if_neg hMn, if_neg hse]; rfl, HB3.out⟩
    · have hb0 : Go.bits .and .u8 (x.toNat : Int) 128 = 128 := by rw [Pm.and_128_u8 _ (by omega), if_neg hx8]
      obtain ⟨q, hq⟩ : ∃ q, (n + 3) / 4 = q := ⟨_, rfl⟩
      have HQ := hid' hq
      have HB' : Hid (Pm.rs M s.data.toList = if M < q then .err 3 else if s.size < e then .err 40 else Pm.ofRes e (Hf.dec M (Hf.unp t) 0 0 [])) := hid' (by
        have hd : decide (128 ≤ x.toNat) = true := by simp; omega
        rw [HB.out, hd, if_pos rfl, if_pos rfl, hq])
      clear HB hq
      by_cases hMn : M < q
      · have hMn2 : (M : Int) < (q : Int) := by omega
        go_enter Tryz.func96, Tryz.ntmps96
        go_wp2_with fail
        refine (readInt_at s 7 (by omega) (by omega) _ HR.out _).mono ?_
        rintro e w1 ⟨rfl, hb1⟩
        have HB1 := hid' hb1
        clear hb1
        simp only [Pm.rV]
        go_wp2_with fail
        refine (fewest_yes n q hn HQ.out _).mono ?_
        rintro e w2 ⟨rfl, rfl⟩
        go_wp2
        go_ret3
        exact ⟨by rw [HB'.out, if_pos hMn]; rfl, HB1.out⟩
      · have hMn2 : decide ((M : Int) < (q : Int)) = false := by simp; omega
        by_cases hse : s.size < e
        · have hse2 : (s.size : Int) - (k : Int) < (n : Int) := by omega
          go_enter Tryz.func96, Tryz.ntmps96
          go_wp2_with fail
          refine (readInt_at s 7 (by omega) (by omega) _ HR.out _).mono ?_
          rintro e w1 ⟨rfl, hb1⟩
          have HB1 := hid' hb1
          clear hb1
          simp only [Pm.rV]
          go_wp2_with fail
          refine (fewest_yes n q hn HQ.out _).mono ?_
          rintro e w2 ⟨rfl, rfl⟩
          go_wp2
          go_ret3
          exact ⟨by rw [HB'.out, if_neg hMn, if_pos hse]; rfl, HB1.out⟩
        · have hse2 : decide ((s.size : Int) - (k : Int) < (n : Int)) = false := by simp; omega
          have hse3 : (e : Int) ≤ (s.size : Int) := by omega
          have HM2 : Hid (max (M : Int) 0 = (M : Int)) := hid' (by omega)
          obtain ⟨D, hD⟩ : ∃ D, Hf.dec M (Hf.unp t) 0 0 [] = D := ⟨_, rfl⟩
          have HD := hid' hD
          rw [hD] at HB'
          clear hD
          cases D with
          | ok u =>
            go_enter Tryz.func96, Tryz.ntmps96
            go_wp2_with fail
            refine (readInt_at s 7 (by omega) (by omega) _ HR.out _).mono ?_
            rintro e w1 ⟨rfl, hb1⟩
            have HB1 := hid' hb1
            clear hb1
            simp only [Pm.rV]
            go_wp2_with fail
            refine (fewest_yes n q hn HQ.out _).mono ?_
            rintro e w2 ⟨rfl, rfl⟩
            go_wp2_with fail
            refine (decode_l t (M : Int) M HM2.out (by omega) _ HD.out _).mono ?_
            rintro e w3 ⟨rfl, hb3⟩
            have HB3 := hid' (below_two HB1.out hb3)
            clear hb3
            simp only [Hf.resV]
            go_wp2
            go_ret3
            exact ⟨by rw [HB'.out, if_neg hMn, if_neg hse]; rfl, HB3.out⟩
          | _ =>
            go_enter Tryz.func96, Tryz.ntmps96
            go_wp2_with fail
            refine (readInt_at s 7 (by omega) (by omega) _ HR.out _).mono ?_
            rintro e w1 ⟨rfl, hb1⟩
            have HB1 := hid' hb1
            clear hb1
            simp only [Pm.rV]
            go_wp2_with fail
            refine (fewest_yes n q hn HQ.out _).mono ?_
            rintro e w2 ⟨rfl, rfl⟩
            go_wp2_with fail
            refine (decode_l t (M : Int) M HM2.out (by omega) _ HD.out _).mono ?_
            rintro e w3 ⟨rfl, hb3⟩
            have HB3 := hid' (below_two HB1.out hb3)
            clear hb3
            simp only [Hf.resV]
            go_wp2
            go_ret3
            exact ⟨by rw [HB'.out, if_neg hMn, if_neg hse]; rfl, HB3.out⟩

end Go.Proofs.YtmkkhfkfjmfdcaaGreat
