/-
  The law PrimStrBack, by its contract.
-/
import Derived.Test.YthldbhpkkcoafaaPrimW
namespace Go.Proofs.Ythldbhpkkcoafaa
open Go.RowKit

set_option maxHeartbeats 1000000 in
set_option maxRecDepth 20000 in
theorem primStrBack_any (s r : ByteArray) (cut : Int) (w : World) (hr : r.size ≤ 140737488355328) :
    Calls Try.prog 8 #[.string s, .string r, .int .i64 cut] w fun e w' => e = .returned (.bool true) ∧ Below w.heap.size w w' := by
  obtain ⟨l, hl⟩ : ∃ l, s.data.toList = l := ⟨_, rfl⟩
  obtain rfl : s = ⟨l.toArray⟩ := by rw [← hl]
  clear hl
  obtain ⟨q, hq⟩ : ∃ q, r.data.toList = q := ⟨_, rfl⟩
  obtain rfl : r = ⟨q.toArray⟩ := by rw [← hq]
  clear hq
  rw [size_l] at hr
  by_cases hbig : l.length < 268435456
  · have hbig2 : (l.length : Int) < 268435456 := by omega
    obtain ⟨c, hc⟩ : ∃ c, Pm.str l = c := ⟨_, rfl⟩
    have HC := hid' hc
    have hcl := Pm.str_length l hbig
    rw [hc] at hcl
    obtain ⟨c1, c5⟩ := hcl
    have hcat : (⟨c.toArray⟩ : ByteArray) ++ ⟨q.toArray⟩ = ⟨(c ++ q).toArray⟩ := Pm.str_cat c q
    have HR : Hid (Pm.rs l.length (c ++ q) = .ok l c.length) := hid' (by rw [← hc]; exact Pm.str_back l q hbig)
    obtain ⟨m, hm⟩ : ∃ m : Nat, min (max cut 0) ((c.length : Int) - 1) = (m : Int) := ⟨(min (max cut 0) ((c.length : Int) - 1)).toNat, by omega⟩
    have hmc : m < c.length := by omega
    have hmc2 : (m : Int) ≤ (c.length : Int) := by omega
    obtain ⟨t, ht⟩ : ∃ t, c.take m = t := ⟨_, rfl⟩
    have hcut : (⟨c.toArray⟩ : ByteArray).extract 0 m = ⟨t.toArray⟩ := by rw [Pm.cut_ends, ht]
    have htl : t.length ≤ 281474976710656 := by rw [← ht, List.length_take]; omega
    have HT : Hid (Pm.rs l.length t = .err 40) := hid' (by
      have := Pm.str_torn l m hbig (by rw [hc]; exact hmc)
      rw [hc, ht] at this; exact this)
    have HM : Hid (max (l.length : Int) 0 = (l.length : Int)) := hid' (by omega)
    have hcql : (c ++ q).length ≤ 281474976710656 := by rw [List.length_append]; omega
    have c1' : (1 : Int) ≤ (c.length : Int) := by omega
    have c5' : (c.length : Int) ≤ (l.length : Int) + 5 := by omega
    have hll : (l == l) = true := by simp
    have HCQ := hid' hcql
    have HTL := hid' htl
    by_cases hz : l.length = 0
    · obtain rfl := List.eq_nil_of_length_eq_zero hz
      obtain ⟨S, hS⟩ : ∃ S, Pm.rs 0 c = S := ⟨_, rfl⟩
      have HS := hid' hS
      clear hc ht hz hS hcql htl
      go_enter Try.func8, Try.ntmps8
      go_wp2_with fail
      refine (str_at [] c HC.out (by decide) _).mono ?_
      rintro e w1 ⟨rfl, hb1⟩
      have HB1 := hid' hb1
      clear hb1
      go_wp2_with fail
      refine (readStr_ok (c ++ q) 0 0 rfl HCQ.out [] c.length HR.out _).mono ?_
      rintro e w2 ⟨rfl, hb2⟩
      have HB2 := hid' (below_two HB1.out hb2)
      clear hb2 HB1
      go_wp2_with fail
      refine (readStr_err t 0 0 rfl HTL.out 40 HT.out _).mono ?_
      rintro e w3 ⟨rfl, hb3⟩
      have HB3 := hid' (below_two HB2.out hb3)
      clear hb3 HB2
      cases S with
      | ok u k =>
        go_wp2_with fail
        refine (readStr_l c (-1) 0 rfl (by omega) _ HS.out _).mono ?_
        rintro e w4 ⟨rfl, hb4⟩
        have HB4 := hid' (below_two HB3.out hb4)
        clear hb4
        simp only [Pm.sV]
        go_wp2_with fail
        refine (awake_any _).mono ?_
        rintro e w5 ⟨rfl, hb5⟩
        have HB5 := hid' (below_two HB4.out hb5)
        clear hb5 HB4
        go_wp2
        go_ret
        exact ⟨rfl, HB5.out⟩
      | err x =>
        go_wp2_with fail
        refine (readStr_l c (-1) 0 rfl (by omega) _ HS.out _).mono ?_
        rintro e w4 ⟨rfl, hb4⟩
        have HB4 := hid' (below_two HB3.out hb4)
        clear hb4
        simp only [Pm.sV]
        go_wp2_with fail
        refine (awake_any _).mono ?_
        rintro e w5 ⟨rfl, hb5⟩
        have HB5 := hid' (below_two HB4.out hb5)
        clear hb5 HB4
        go_wp2
        go_ret
        exact ⟨rfl, HB5.out⟩
    · have hz2 : ((l.length : Int) == 0) = false := by simp; exact fun h => hz (by rw [h]; rfl)
      obtain ⟨l1, hl1⟩ : ∃ l1 : Nat, (l.length : Int) - 1 = (l1 : Int) := ⟨l.length - 1, by omega⟩
      have HS : Hid (Pm.rs l1 c = .err 3) := hid' (by
        rw [← hc, show l1 = l.length - 1 by omega]; exact Pm.str_long l hbig (by omega))
      have HM1 : Hid (max ((l.length : Int) - 1) 0 = (l1 : Int)) := hid' (by omega)
      clear hc ht hz hcql htl hl1 hbig
      have ht1 : decide ((l.length : Int) + 5 < (c.length : Int)) = false := by simp; omega
      have ht2 : decide ((c.length : Int) < 1) = false := by simp; omega
      clear c5'
      have hb3 : decide ((268435456 : Int) ≤ (l.length : Int)) = false := by simp; omega
      have hb4 : (l.length : Int) ≤ 268435455 := by omega
      have HB5 := hid' hbig2
      clear hbig2
      go_enter Try.func8, Try.ntmps8
      go_wp2_with fail
      refine (str_at l c HC.out (by have := HB5.out; omega) _).mono ?_
      rintro e w1 ⟨rfl, hb1⟩
      have HB1 := hid' hb1
      clear hb1
      go_wp2_with fail
      refine (readStr_ok (c ++ q) (l.length : Int) l.length HM.out HCQ.out l c.length HR.out _).mono ?_
      rintro e w2 ⟨rfl, hb2⟩
      have HB2 := hid' (below_two HB1.out hb2)
      clear hb2 HB1
      go_wp2_with fail
      refine (readStr_err t (l.length : Int) l.length HM.out HTL.out 40 HT.out _).mono ?_
      rintro e w3 ⟨rfl, hb3⟩
      have HB3 := hid' (below_two HB2.out hb3)
      clear hb3 HB2
      go_wp2_with fail
      refine (readStr_err c ((l.length : Int) - 1) l1 HM1.out (by omega) 3 HS.out _).mono ?_
      rintro e w4 ⟨rfl, hb4⟩
      have HB4 := hid' (below_two HB3.out hb4)
      clear hb4 HB3
      go_wp2_with fail
      refine (awake_any _).mono ?_
      rintro e w5 ⟨rfl, hb5⟩
      have HB5 := hid' (below_two HB4.out hb5)
      clear hb5 HB4
      go_wp2
      go_ret
      exact ⟨rfl, HB5.out⟩
  · have hbig2 : (268435456 : Int) ≤ (l.length : Int) := by omega
    go_enter Try.func8, Try.ntmps8
    go_wp2_with fail
    refine (awake_any _).mono ?_
    rintro e w1 ⟨rfl, hb1⟩
    have HB1 := hid' hb1
    clear hb1
    go_wp2
    go_ret
    exact ⟨rfl, HB1.out⟩

end Go.Proofs.Ythldbhpkkcoafaa
