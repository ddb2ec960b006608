/-
  The law HuffBack, by its contract.
-/
import Derived.Test.YtojfbeldoemmoaaHuffW
namespace Go.Proofs.Ytojfbeldoemmoaa
open Go.RowKit

set_option maxHeartbeats 1000000 in
theorem huffBack_any (s : ByteArray) (most : Int) (w : World) (hs : s.size ≤ 1048576) :
    Calls Try.prog 5 #[.string s, .int .i64 most] w fun e w' => e = .returned (.bool true) ∧ Below w.heap.size w w' := by
  obtain ⟨l, hl⟩ : ∃ l, s.data.toList = l := ⟨_, rfl⟩
  obtain rfl : s = ⟨l.toArray⟩ := by rw [← hl]
  clear hl
  rw [size_l] at hs
  obtain ⟨c, hc⟩ : ∃ c, Hf.enc l = c := ⟨_, rfl⟩
  obtain ⟨M, hM⟩ : ∃ M : Nat, max most 0 = (M : Int) := ⟨(max most 0).toNat, by omega⟩
  have hb := Hf.nbits_le l
  have hcl : c.length = (Hf.nbits l + 7) / 8 := by rw [← hc, Hf.enc_length]
  have hcs : c.length ≤ 16777216 := by omega
  have h85 : 5 * (l.length : Int) ≤ 8 * (c.length : Int) := by omega
  have HM := hid' hM
  have HC := hid' hc
  have hq : (l == l) = true := by simp
  by_cases h : most < (l.length : Int) ∧ 0 < l.length
  · obtain ⟨h1, h2⟩ := h
    have h3 : (0 : Int) < (l.length : Int) := by omega
    have HR : Hid (Hf.dec M (Hf.unp c) 0 0 [] = .long) := hid' (by rw [← hc]; exact Hf.back_long M l (by omega))
    clear hM hc hcl hb
    go_enter Try.func5, Try.ntmps5
    go_wp2_with fail
    refine (encode_l l c HC.out (by omega) _).mono ?_
    rintro e w1 ⟨rfl, hb1⟩
    have HB1 := hid' hb1
    clear hb1
    go_wp2_with fail
    refine (decode_long c most M HM.out hcs HR.out _).mono ?_
    rintro e w2 ⟨rfl, hb2⟩
    have HB2 := hid' (below_two HB1.out hb2)
    clear hb2 HB1
    go_wp2_with fail
    refine (awake_any _).mono ?_
    rintro e w3 ⟨rfl, hb3⟩
    have HB3 := hid' (below_two HB2.out hb3)
    clear hb3 HB2
    go_wp2
    go_ret
    exact ⟨rfl, HB3.out⟩
  · have HR : Hid (Hf.dec M (Hf.unp c) 0 0 [] = .ok l) := hid' (by rw [← hc]; exact Hf.back_ok M l (by omega))
    have HSZ : Hid ((Hf.enc l).length = c.length) := hid' (by rw [hc])
    clear hM hc hcl hb
    by_cases h1 : most < (l.length : Int)
    · have h2 : l.length = 0 := by omega
      obtain rfl := List.eq_nil_of_length_eq_zero h2
      clear h2
      go_enter Try.func5, Try.ntmps5
      go_wp2_with fail
      refine (encode_l [] c HC.out (by decide) _).mono ?_
      rintro e w1 ⟨rfl, hb1⟩
      have HB1 := hid' hb1
      clear hb1
      go_wp2_with fail
      refine (decode_ok c most M HM.out hcs [] HR.out _).mono ?_
      rintro e w2 ⟨rfl, hb2⟩
      have HB2 := hid' (below_two HB1.out hb2)
      clear hb2 HB1
      go_wp2_with fail
      refine (awake_any _).mono ?_
      rintro e w3 ⟨rfl, hb3⟩
      have HB3 := hid' (below_two HB2.out hb3)
      clear hb3 HB2
      go_wp2_with fail
      refine (size_of [] c.length HSZ.out (by decide) _).mono ?_
      rintro e w4 ⟨rfl, hb4⟩
      have HB4 := hid' (below_two HB3.out hb4)
      clear hb4 HB3
      go_wp2
      go_ret
      exact ⟨rfl, HB4.out⟩
    · have h2 : decide (most < (l.length : Int)) = false := by simp; omega
      go_enter Try.func5, Try.ntmps5
      go_wp2_with fail
      refine (encode_l l c HC.out (by omega) _).mono ?_
      rintro e w1 ⟨rfl, hb1⟩
      have HB1 := hid' hb1
      clear hb1
      go_wp2_with fail
      refine (decode_ok c most M HM.out hcs l HR.out _).mono ?_
      rintro e w2 ⟨rfl, hb2⟩
      have HB2 := hid' (below_two HB1.out hb2)
      clear hb2 HB1
      go_wp2_with fail
      refine (awake_any _).mono ?_
      rintro e w3 ⟨rfl, hb3⟩
      have HB3 := hid' (below_two HB2.out hb3)
      clear hb3 HB2
      go_wp2_with fail
      refine (size_of l c.length HSZ.out (by omega) _).mono ?_
      rintro e w4 ⟨rfl, hb4⟩
      have HB4 := hid' (below_two HB3.out hb4)
      clear hb4 HB3
      go_wp2
      go_ret
      exact ⟨rfl, HB4.out⟩

end Go.Proofs.Ytojfbeldoemmoaa
