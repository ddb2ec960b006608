/-
  ostlerref04.Str, ostlerref04.ReadStr: by their contracts.
-/
import Derived.Test.YtmkkhfkfjmfdcaaGreatPrimRS
import Derived.Test.YtmkkhfkfjmfdcaaGreatHuffRf
namespace Go.Proofs.YtmkkhfkfjmfdcaaGreat
open Go.RowKit

theorem rint_at (h b n : Nat) (a : List UInt8) (ha : Pm.num h b n = a) (hh : h < 256) (h0 : 1 ≤ b) (h1 : b ≤ 8) (hm : h % 2 ^ b = 0) (hn : n ≤ 2147483647) (w : World) :
    Calls Tryz.prog 42 #[.int .u8 (h : Int), .int .i64 (b : Int), .int .i64 (n : Int)] w fun e w' => e = .returned (.tuple #[.string ⟨a.toArray⟩, .int .i64 0]) ∧ Below w.heap.size w w' := by
  subst ha; exact rint_ok h b n hh h0 h1 hm hn w

theorem rencode_at (l c : List UInt8) (hc : Hf.enc l = c) (hs : l.length ≤ 2147483648) (w : World) : Calls Tryz.prog 67 #[.string ⟨l.toArray⟩] w fun e w' => e = .returned (.string ⟨c.toArray⟩) ∧ Below w.heap.size w w' := by
  subst hc; exact rencode_any ⟨l.toArray⟩ (by rw [size_l]; exact hs) w

set_option maxHeartbeats 1000000 in
theorem rstr_at (l t : List UInt8) (ht : Pm.str l = t) (hl : l.length ≤ 2147483647) (w : World) :
    Calls Tryz.prog 44 #[.string ⟨l.toArray⟩] w fun e w' => e = .returned (.string ⟨t.toArray⟩) ∧ Below w.heap.size w w' := by
  have HT := hid' ht
  clear ht
  obtain ⟨c, hc⟩ : ∃ c, Hf.enc l = c := ⟨_, rfl⟩
  have HC := hid' hc
  have hcl := (Pm.enc_le l).2
  rw [hc] at hcl
  by_cases h : c.length < l.length
  · have h2 : (c.length : Int) < (l.length : Int) := by omega
    obtain ⟨a, ha⟩ : ∃ a, Pm.num 128 7 c.length = a := ⟨_, rfl⟩
    have HA := hid' ha
    have hcat : (⟨a.toArray⟩ : ByteArray) ++ ⟨c.toArray⟩ = ⟨(a ++ c).toArray⟩ := Pm.str_cat a c
    have hal : a.length ≤ 10 := by rw [← ha]; exact Pm.num_ten _ _ _ (by omega)
    have HS : Hid (t = a ++ c) := hid' (by rw [← HT.out]; unfold Pm.str; rw [hc, if_pos h, ha])
    clear hc ha
    go_enter Tryz.func44, Tryz.ntmps44
    go_wp2_with fail
    refine (rencode_at l c HC.out (by omega) _).mono ?_
    rintro e w1 ⟨rfl, hb1⟩
    have HB1 := hid' hb1
    clear hb1
    go_wp2_with fail
    refine (rint_at 128 7 c.length a HA.out (by omega) (by omega) (by omega) (by decide) (by omega) _).mono ?_
    rintro e w2 ⟨rfl, hb2⟩
    have HB2 := hid' (below_two HB1.out hb2)
    clear hb2 HB1
    go_wp2
    go_ret
    exact ⟨ret_str (by rw [HS.out]), HB2.out⟩
  · have h2 : decide ((c.length : Int) < (l.length : Int)) = false := by simp; omega
    obtain ⟨a, ha⟩ : ∃ a, Pm.num 0 7 l.length = a := ⟨_, rfl⟩
    have HA := hid' ha
    have hcat : (⟨a.toArray⟩ : ByteArray) ++ ⟨l.toArray⟩ = ⟨(a ++ l).toArray⟩ := Pm.str_cat a l
    have hal : a.length ≤ 10 := by rw [← ha]; exact Pm.num_ten _ _ _ (by omega)
    have HS : Hid (t = a ++ l) := hid' (by rw [← HT.out]; unfold Pm.str; rw [hc, if_neg h, ha])
    clear hc ha
    go_enter Tryz.func44, Tryz.ntmps44
    go_wp2_with fail
    refine (rencode_at l c HC.out (by omega) _).mono ?_
    rintro e w1 ⟨rfl, hb1⟩
    have HB1 := hid' hb1
    clear hb1
    go_wp2_with fail
    refine (rint_at 0 7 l.length a HA.out (by omega) (by omega) (by omega) (by decide) hl _).mono ?_
    rintro e w2 ⟨rfl, hb2⟩
    have HB2 := hid' (below_two HB1.out hb2)
    clear hb2 HB1
    go_wp2
    go_ret
    exact ⟨ret_str (by rw [HS.out]), HB2.out⟩

end Go.Proofs.YtmkkhfkfjmfdcaaGreat
