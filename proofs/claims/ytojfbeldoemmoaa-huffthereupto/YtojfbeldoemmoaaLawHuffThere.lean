/-
  The law HuffThere, by its contract.
-/
import Derived.Test.YtojfbeldoemmoaaHuffW
namespace Go.Proofs.Ytojfbeldoemmoaa
open Go.RowKit

set_option maxHeartbeats 1000000 in
theorem huffThere_any (s : ByteArray) (w : World) (hs : s.size ≤ 1048576) :
    Calls Try.prog 6 #[.string s] w fun e w' => e = .returned (.bool true) ∧ Below w.heap.size w w' := by
  obtain ⟨l, hl⟩ : ∃ l, s.data.toList = l := ⟨_, rfl⟩
  obtain rfl : s = ⟨l.toArray⟩ := by rw [← hl]
  clear hl
  rw [size_l] at hs
  have HM : Hid (max (2 * (l.length : Int)) 0 = ((2 * l.length : Nat) : Int)) := hid' (by omega)
  have hls : l.length ≤ 16777216 := by omega
  have hq : (l == l) = true := by simp
  have hnl := Hf.there_fits l
  cases hR : Hf.dec (2 * l.length) (Hf.unp l) 0 0 [] with
  | long => exact absurd hR hnl
  | ok t =>
    have HR := hid' hR
    have HE := hid' (Hf.there_ok _ _ _ hR)
    have ht := Hf.there_len _ _ _ hR
    have hts : t.length ≤ 16777216 := by omega
    clear hR hnl ht
    go_enter Try.func6, Try.ntmps6
    go_wp2_with fail
    refine (decode_ok l _ _ HM.out hls t HR.out _).mono ?_
    rintro e w1 ⟨rfl, hb1⟩
    have HB1 := hid' hb1
    clear hb1
    go_wp2_with fail
    refine (awake_any _).mono ?_
    rintro e w2 ⟨rfl, hb2⟩
    have HB2 := hid' (below_two HB1.out hb2)
    clear hb2 HB1
    go_wp2_with fail
    refine (encode_l t l HE.out hts _).mono ?_
    rintro e w3 ⟨rfl, hb3⟩
    have HB3 := hid' (below_two HB2.out hb3)
    clear hb3 HB2
    go_wp2
    go_ret
    exact ⟨rfl, HB3.out⟩
  | pad =>
    have HR := hid' hR
    clear hR hnl
    go_enter Try.func6, Try.ntmps6
    go_wp2_with fail
    refine (decode_pad l _ _ HM.out hls HR.out _).mono ?_
    rintro e w1 ⟨rfl, hb1⟩
    have HB1 := hid' hb1
    clear hb1
    go_wp2_with fail
    refine (awake_any _).mono ?_
    rintro e w2 ⟨rfl, hb2⟩
    have HB2 := hid' (below_two HB1.out hb2)
    clear hb2 HB1
    go_wp2
    go_ret
    exact ⟨rfl, HB2.out⟩
  | fin =>
    have HR := hid' hR
    clear hR hnl
    go_enter Try.func6, Try.ntmps6
    go_wp2_with fail
    refine (decode_fin l _ _ HM.out hls HR.out _).mono ?_
    rintro e w1 ⟨rfl, hb1⟩
    have HB1 := hid' hb1
    clear hb1
    go_wp2_with fail
    refine (awake_any _).mono ?_
    rintro e w2 ⟨rfl, hb2⟩
    have HB2 := hid' (below_two HB1.out hb2)
    clear hb2 HB1
    go_wp2
    go_ret
    exact ⟨rfl, HB2.out⟩

end Go.Proofs.Ytojfbeldoemmoaa
