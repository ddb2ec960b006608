/-
  The law HuffJoins, by its contract.
-/
import Derived.Test.YtojfbeldoemmoaaHuffW
import Derived.Deep.RegionHeld3
namespace Go.Proofs.Ytojfbeldoemmoaa
open Go.RowKit

theorem cut_head (c : List UInt8) (n : Nat) : (⟨c.toArray⟩ : ByteArray).extract 0 n = ⟨(c.take n).toArray⟩ := by
  apply ByteArray.ext
  simp [ByteArray.data_extract]
theorem str_join (a b : List UInt8) : (⟨a.toArray⟩ : ByteArray) ++ ⟨b.toArray⟩ = ⟨(a ++ b).toArray⟩ := by
  apply ByteArray.ext; simp

set_option maxHeartbeats 1000000 in
theorem huffJoins_any (sa sb : ByteArray) (w : World) (hs : sa.size + sb.size ≤ 1048576) :
    Calls Try.prog 7 #[.string sa, .string sb] w fun e w' => e = .returned (.bool true) ∧ Below w.heap.size w w' := by
  obtain ⟨a, ha⟩ : ∃ l, sa.data.toList = l := ⟨_, rfl⟩
  obtain rfl : sa = ⟨a.toArray⟩ := by rw [← ha]
  obtain ⟨b, hb⟩ : ∃ l, sb.data.toList = l := ⟨_, rfl⟩
  obtain rfl : sb = ⟨b.toArray⟩ := by rw [← hb]
  clear ha hb
  rw [size_l, size_l] at hs
  obtain ⟨ab, hab⟩ : ∃ ab, a ++ b = ab := ⟨_, rfl⟩
  have hcat : (⟨a.toArray⟩ : ByteArray) ++ ⟨b.toArray⟩ = ⟨ab.toArray⟩ := by rw [← hab]; exact str_join a b
  have habl : ab.length ≤ 16777216 := by rw [← hab, List.length_append]; omega
  obtain ⟨c, hc⟩ : ∃ c, Hf.enc a = c := ⟨_, rfl⟩
  obtain ⟨d, hd⟩ : ∃ d, Hf.enc ab = d := ⟨_, rfl⟩
  obtain ⟨f, hf⟩ : ∃ f, Hf.enc b = f := ⟨_, rfl⟩
  have hj := Hf.join_len a b
  have hh := Hf.join_head a b
  rw [hab, hc, hd] at hj hh
  rw [hf] at hj
  obtain ⟨j1, j2, j3⟩ := hj
  obtain ⟨k, hk⟩ : ∃ k : Nat, max ((c.length : Int) - 1) 0 = (k : Int) := ⟨(max ((c.length : Int) - 1) 0).toNat, by omega⟩
  have hh' := hh k (by omega)
  have hkc : k ≤ c.length := by omega
  have hkd : k ≤ d.length := by omega
  have n1 : (d.length : Int) - (c.length : Int) - (f.length : Int) ≤ 0 := by omega
  have n2 : -1 ≤ (d.length : Int) - (c.length : Int) - (f.length : Int) := by omega
  have n3 : (c.length : Int) ≤ (d.length : Int) := by omega
  have hcm : c.length ≤ 16777216 := by rw [← hc, Hf.enc_length]; have := (Hf.nbits_le a).2; omega
  have hdm : d.length ≤ 16777216 := by rw [← hd, Hf.enc_length]; have := (Hf.nbits_le ab).2; rw [← hab, List.length_append] at this; rw [← hab]; omega
  have hfm : f.length ≤ 16777216 := by rw [← hf, Hf.enc_length]; have := (Hf.nbits_le b).2; omega
  obtain ⟨t, ht⟩ : ∃ t, c.take k = t := ⟨_, rfl⟩
  have hc1 : (⟨c.toArray⟩ : ByteArray).extract 0 k = ⟨t.toArray⟩ := by rw [cut_head, ht]
  have hd1 : (⟨d.toArray⟩ : ByteArray).extract 0 k = ⟨t.toArray⟩ := by rw [cut_head, hh', ht]
  have hq : (t == t) = true := by simp
  have HC := hid' hc
  have HD := hid' hd
  have HF := hid' hf
  clear hc hd hf hh hh' ht hab j1 j2 j3
  go_enter Try.func7, Try.ntmps7
  go_wp2_with fail
  refine (encode_l a c HC.out (by omega) _).mono ?_
  rintro e w1 ⟨rfl, hb1⟩
  have HB1 := hid' hb1
  clear hb1
  go_wp2_with fail
  refine (encode_l ab d HD.out habl _).mono ?_
  rintro e w2 ⟨rfl, hb2⟩
  have HB2 := hid' (below_two HB1.out hb2)
  clear hb2 HB1
  go_wp2_with fail
  refine (encode_l b f HF.out (by omega) _).mono ?_
  rintro e w3 ⟨rfl, hb3⟩
  have HB3 := hid' (below_two HB2.out hb3)
  clear hb3 HB2
  go_wp2
  have hS : Below w3.heap.size w3 w3 := Below.refl _ _
  go_region_held3 (fun W => Below w3.heap.size w3 W) (first | assumption | exact below_two (by assumption) (by assumption) | exact Below.drew (by assumption))
    (first | (go_at_call 10; refine (awake_any _).mono ?_; rintro e w4 ⟨rfl, hb4⟩))
  go_wp2
  go_ret
  exact ⟨rfl, below_two HB3.out (by assumption)⟩

end Go.Proofs.Ytojfbeldoemmoaa
