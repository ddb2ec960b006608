/-
  The law HuffTorn, by its contract.
-/
import Derived.Test.YtojfbeldoemmoaaHuffW
namespace Go.Proofs.Ytojfbeldoemmoaa
open Go.RowKit

theorem cut_ends (c : List UInt8) (n : Nat) : (⟨c.toArray⟩ : ByteArray).extract 0 n = ⟨(c.take n).toArray⟩ := by
  apply ByteArray.ext
  simp [ByteArray.data_extract]
theorem str_cat (a b : List UInt8) : (⟨a.toArray⟩ : ByteArray) ++ ⟨b.toArray⟩ = ⟨(a ++ b).toArray⟩ := by
  apply ByteArray.ext; simp

theorem one_string (w : World) (x : UInt8) : (convert 31 9 (.slice (some ⟨w.heap.size, 0, none⟩) 1 1)).run Try.prog (w.alloc (.cells #[.int .u8 (x.toNat : Int)] 5)) = .ok (.string ⟨#[x]⟩) (w.alloc (.cells #[.int .u8 (x.toNat : Int)] 5)) := by
  refine run_convert_bytes_back _ _ _ 5 ⟨w.heap.size, 0, none⟩ 1 [x] Try.underlying31 Try.underlying5 Try.underlying9 fun j hj => ?_
  obtain rfl : j = 0 := by simpa using hj
  simp [Addr.add]

set_option maxHeartbeats 1000000 in
theorem huffTorn_any (s : ByteArray) (more : Int) (w : World) (hs : s.size ≤ 1048576) (m0 : 0 ≤ more) (m1 : more ≤ 255) :
    Calls Try.prog 8 #[.string s, .int .u8 more] w fun e w' => e = .returned (.bool true) ∧ Below w.heap.size w w' := by
  obtain ⟨l, hl⟩ : ∃ l, s.data.toList = l := ⟨_, rfl⟩
  obtain rfl : s = ⟨l.toArray⟩ := by rw [← hl]
  clear hl
  rw [size_l] at hs
  by_cases he : l = []
  · subst he
    go_enter Try.func8, Try.ntmps8
    go_wp2_with fail
    refine (awake_any _).mono ?_
    rintro e w1 ⟨rfl, hb1⟩
    have HB1 := hid' hb1
    clear hb1
    go_wp2
    go_ret
    exact ⟨rfl, HB1.out⟩
  · obtain ⟨c, hc⟩ : ∃ c, Hf.enc l = c := ⟨_, rfl⟩
    have hb := Hf.nbits_le l
    have hpos : 0 < l.length := List.length_pos_iff.2 he
    have hcl : c.length = (Hf.nbits l + 7) / 8 := by rw [← hc, Hf.enc_length]
    have hc1 : 1 ≤ c.length := by omega
    have hcs : c.length ≤ 16777215 := by omega
    obtain ⟨x, hx⟩ : ∃ x : UInt8, (x.toNat : Int) = more := ⟨UInt8.ofNat more.toNat, by rw [UInt8.toNat_ofNat', Nat.mod_eq_of_lt (by omega)]; omega⟩
    subst hx
    go_enter Try.func8, Try.ntmps8
    have HC := hid' hc
    have hle : (l == []) = false := by simpa using he
    have hce : (c == []) = false := by cases c with
      | nil => simp at hc1
      | cons a b => rfl
    have hc2 : (1 : Int) ≤ (c.length : Int) := by omega
    obtain ⟨c0, h0⟩ : ∃ c0, c.take (c.length - 1) = c0 := ⟨_, rfl⟩
    have hcut : (⟨c.toArray⟩ : ByteArray).extract 0 (c.length - 1) = ⟨c0.toArray⟩ := by rw [cut_ends, h0]
    have hc0s : c0.length ≤ 16777216 := by rw [← h0, List.length_take]; omega
    have HM : Hid (max (l.length : Int) 0 = (l.length : Int)) := hid' (by omega)
    have HL := Hf.torn_less l he
    rw [hc, h0] at HL
    have HR := Hf.torn_more l x
    rw [hc] at HR
    obtain ⟨c3, h3⟩ : ∃ c3, c ++ [x] = c3 := ⟨_, rfl⟩
    have hcat : (⟨c.toArray⟩ : ByteArray) ++ ⟨#[x]⟩ = ⟨c3.toArray⟩ := by rw [← h3]; exact str_cat c [x]
    have hc3s : c3.length ≤ 16777216 := by rw [← h3]; simp; omega
    have HM3 : Hid (max (2 * (l.length : Int) + 8) 0 = ((2 * l.length + 8 : Nat) : Int)) := hid' (by omega)
    rw [h3] at HR
    clear hb hcl hc he h0 h3
    go_wp2_with fail
    refine (encode_l l c HC.out (by omega) _).mono ?_
    rintro e w1 ⟨rfl, hb1⟩
    have HB1 := hid' hb1
    clear hb1
    rcases HL with HL | ⟨t, HL, htl⟩
    · have HL' := hid' HL
      clear HL
      go_wp2_with fail
      refine (decode_pad c0 _ _ HM.out hc0s HL'.out _).mono ?_
      rintro e w2 ⟨rfl, hb2⟩
      have HB2 := hid' (below_two HB1.out hb2)
      clear hb2 HB1
      have hconv := one_string w2 x
      obtain ⟨HR1, HR2⟩ := HR
      cases hR : Hf.dec (2 * l.length + 8) (Hf.unp c3) 0 0 [] with
      | long => exact absurd hR HR1
      | ok u =>
        have HR := hid' hR
        have hul : (l.length : Int) < (u.length : Int) := by have := HR2 u hR; omega
        clear hR HR1 HR2
        go_wp2_with fail
        refine (decode_ok c3 _ _ HM3.out hc3s u HR.out _).mono ?_
        rintro e w3 ⟨rfl, hb3⟩
        have HB3 := hid' (below_two HB2.out (below_two ((Below.refl _ _).alloc (Nat.le_refl _) _) hb3))
        clear hb3 HB2
        go_wp2_with fail
        refine (awake_any _).mono ?_
        rintro e w4 ⟨rfl, hb4⟩
        have HB4 := hid' (below_two HB3.out hb4)
        clear hb4 HB3
        go_wp2
        go_ret
        exact ⟨rfl, HB4.out⟩
      | pad =>
        have HR := hid' hR
        clear hR HR1 HR2
        go_wp2_with fail
        refine (decode_pad c3 _ _ HM3.out hc3s HR.out _).mono ?_
        rintro e w3 ⟨rfl, hb3⟩
        have HB3 := hid' (below_two HB2.out (below_two ((Below.refl _ _).alloc (Nat.le_refl _) _) hb3))
        clear hb3 HB2
        go_wp2_with fail
        refine (awake_any _).mono ?_
        rintro e w4 ⟨rfl, hb4⟩
        have HB4 := hid' (below_two HB3.out hb4)
        clear hb4 HB3
        go_wp2
        go_ret
        exact ⟨rfl, HB4.out⟩
      | fin =>
        have HR := hid' hR
        clear hR HR1 HR2
        go_wp2_with fail
        refine (decode_fin c3 _ _ HM3.out hc3s HR.out _).mono ?_
        rintro e w3 ⟨rfl, hb3⟩
        have HB3 := hid' (below_two HB2.out (below_two ((Below.refl _ _).alloc (Nat.le_refl _) _) hb3))
        clear hb3 HB2
        go_wp2_with fail
        refine (awake_any _).mono ?_
        rintro e w4 ⟨rfl, hb4⟩
        have HB4 := hid' (below_two HB3.out hb4)
        clear hb4 HB3
        go_wp2
        go_ret
        exact ⟨rfl, HB4.out⟩
    · have HL' := hid' HL
      have htl2 : (t.length : Int) < (l.length : Int) := by omega
      clear HL htl
      go_wp2_with fail
      refine (decode_ok c0 _ _ HM.out hc0s t HL'.out _).mono ?_
      rintro e w2 ⟨rfl, hb2⟩
      have HB2 := hid' (below_two HB1.out hb2)
      clear hb2 HB1
      have hconv := one_string w2 x
      obtain ⟨HR1, HR2⟩ := HR
      cases hR : Hf.dec (2 * l.length + 8) (Hf.unp c3) 0 0 [] with
      | long => exact absurd hR HR1
      | ok u =>
        have HR := hid' hR
        have hul : (l.length : Int) < (u.length : Int) := by have := HR2 u hR; omega
        clear hR HR1 HR2
        go_wp2_with fail
        refine (decode_ok c3 _ _ HM3.out hc3s u HR.out _).mono ?_
        rintro e w3 ⟨rfl, hb3⟩
        have HB3 := hid' (below_two HB2.out (below_two ((Below.refl _ _).alloc (Nat.le_refl _) _) hb3))
        clear hb3 HB2
        go_wp2_with fail
        refine (awake_any _).mono ?_
        rintro e w4 ⟨rfl, hb4⟩
        have HB4 := hid' (below_two HB3.out hb4)
        clear hb4 HB3
        go_wp2
        go_ret
        exact ⟨rfl, HB4.out⟩
      | pad =>
        have HR := hid' hR
        clear hR HR1 HR2
        go_wp2_with fail
        refine (decode_pad c3 _ _ HM3.out hc3s HR.out _).mono ?_
        rintro e w3 ⟨rfl, hb3⟩
        have HB3 := hid' (below_two HB2.out (below_two ((Below.refl _ _).alloc (Nat.le_refl _) _) hb3))
        clear hb3 HB2
        go_wp2_with fail
        refine (awake_any _).mono ?_
        rintro e w4 ⟨rfl, hb4⟩
        have HB4 := hid' (below_two HB3.out hb4)
        clear hb4 HB3
        go_wp2
        go_ret
        exact ⟨rfl, HB4.out⟩
      | fin =>
        have HR := hid' hR
        clear hR HR1 HR2
        go_wp2_with fail
        refine (decode_fin c3 _ _ HM3.out hc3s HR.out _).mono ?_
        rintro e w3 ⟨rfl, hb3⟩
        have HB3 := hid' (below_two HB2.out (below_two ((Below.refl _ _).alloc (Nat.le_refl _) _) hb3))
        clear hb3 HB2
        go_wp2_with fail
        refine (awake_any _).mono ?_
        rintro e w4 ⟨rfl, hb4⟩
        have HB4 := hid' (below_two HB3.out hb4)
        clear hb4 HB3
        go_wp2
        go_ret
        exact ⟨rfl, HB4.out⟩

end Go.Proofs.Ytojfbeldoemmoaa
