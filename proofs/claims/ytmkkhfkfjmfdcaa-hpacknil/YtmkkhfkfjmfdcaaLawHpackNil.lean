/-
  The law HpackNil: no encoder and no decoder do nothing; the limits of both.
-/
import Derived.Test.YtmkkhfkfjmfdcaaHpU
namespace Go.Proofs.Ytmkkhfkfjmfdcaa
open Go.RowKit

theorem fr_below {S : Nat → Prop} {w w' : World} (h : Fr S w w') {W : World} (hW : Below W.heap.size W w) (hs : ∀ k, S k → W.heap.size ≤ k) : Below W.heap.size W w' := hW.trans (h.below hs hW.size)

set_option maxHeartbeats 2000000 in
set_option maxRecDepth 20000 in
theorem hpackNil_true (n : Int) (w : World) : Calls Try.prog 6 #[.int .i64 n] w fun e w' => e = .returned (.bool true) ∧ Below w.heap.size w w' := by
  have ways : n < 0 ∨ (∃ N : Nat, n = (N : Int) ∧ N ≤ 65536) ∨ (∃ N : Nat, n = (N : Int) ∧ 65536 < N ∧ N ≤ 4294967295) ∨ 4294967295 < n := by
    by_cases h1 : n < 0
    · exact .inl h1
    · by_cases h2 : n ≤ 65536
      · exact .inr (.inl ⟨n.toNat, by omega, by omega⟩)
      · by_cases h3 : n ≤ 4294967295
        · exact .inr (.inr (.inl ⟨n.toNat, by omega, by omega, by omega⟩))
        · exact .inr (.inr (.inr (by omega)))
  rcases ways with hn | ⟨N, rfl, hN⟩ | ⟨N, rfl, hN, hN2⟩ | hn
  · have HN := hid' hn
    have k0 : decide ((0 : Int) ≤ n) = false := decide_eq_false (by omega)
    have k1 : decide (n ≤ 65536) = true := decide_eq_true (by omega)
    have k2 : decide (n ≤ 4294967295) = true := decide_eq_true (by omega)
    clear hn
    go_enter Try.func6, Try.ntmps6
    go_wp2_with fail
    refine (readN_any _ _).mono ?_
    rintro e w1 ⟨rfl, hw⟩
    subst w1
    go_wp2_with fail
    refine (newDec_yes 1 (by omega) w.heap.size w (Nat.le_refl _)).mono ?_
    rintro e w2 ⟨d2, rfl, b2, hD, hb2⟩
    have HD := hid' hD
    have HB2 := hid' hb2
    clear hD hb2
    go_wp2_with fail
    refine (newEnc_any w2.heap.size w2 (Nat.le_refl _)).mono ?_
    rintro e w3 ⟨d1, rfl, b1, hE, hb3⟩
    have HD3 := hid' (HD.out.keep hb3)
    have HE3 := hid' hE
    have HB3 := hid' (below_two HB2.out hb3)
    have hs23 : w.heap.size ≤ w2.heap.size := HB2.out.size
    have HS23 := hid' hs23
    clear hE hb3 HD hs23
    go_wp2_with fail
    refine (limD_no d2 n (by have := HN.out; omega) _).mono ?_
    rintro e w4 ⟨rfl, hw⟩
    subst w4
    have HE4 := HE3
    have HB4 := HB3
    go_wp2_with fail
    refine (limE_no d1 n (by have := HN.out; omega) _).mono ?_
    rintro e w5 ⟨rfl, hw⟩
    subst w5
    have HB5 := HB4
    go_wp2_with fail
    refine (awake6 _).mono ?_
    rintro e w6 ⟨rfl, hb6⟩
    have HB6 := hid' (below_two HB5.out hb6)
    clear hb6
    go_wp2_with fail
    refine (limD_nil _ _).mono ?_
    rintro e w7 ⟨rfl, hw⟩
    subst w7
    go_wp2_with fail
    refine (limE_nil _ _).mono ?_
    rintro e w7 ⟨rfl, hw⟩
    subst w7
    go_wp2_with fail
    refine (writeN_any _ _).mono ?_
    rintro e w7 ⟨rfl, hw⟩
    subst w7
    go_wp2_with fail
    refine (nsizeD_any _).mono ?_
    rintro e w7 ⟨rfl, hw⟩
    subst w7
    go_wp2_with fail
    refine (nsizeE_any _).mono ?_
    rintro e w7 ⟨rfl, hw⟩
    subst w7
    go_wp2
    go_ret
    exact ⟨rfl, HB6.out⟩
  · have HN := hid' hN
    have k0 : decide ((0 : Int) ≤ (N : Int)) = true := decide_eq_true (by omega)
    have k1 : decide ((N : Int) ≤ 65536) = true := decide_eq_true (by omega)
    have k2 : decide ((N : Int) ≤ 4294967295) = true := decide_eq_true (by omega)
    have k3 : decide (N ≤ 65536) = true := decide_eq_true (by omega)
    have k4 : decide (N ≤ 4294967295) = true := decide_eq_true (by omega)
    clear hN
    go_enter Try.func6, Try.ntmps6
    go_wp2_with fail
    refine (readN_any _ _).mono ?_
    rintro e w1 ⟨rfl, hw⟩
    subst w1
    go_wp2_with fail
    refine (newDec_yes 1 (by omega) w.heap.size w (Nat.le_refl _)).mono ?_
    rintro e w2 ⟨d2, rfl, b2, hD, hb2⟩
    have HD := hid' hD
    have HB2 := hid' hb2
    clear hD hb2
    go_wp2_with fail
    refine (newEnc_any w2.heap.size w2 (Nat.le_refl _)).mono ?_
    rintro e w3 ⟨d1, rfl, b1, hE, hb3⟩
    have HD3 := hid' (HD.out.keep hb3)
    have HE3 := hid' hE
    have HB3 := hid' (below_two HB2.out hb3)
    have hs23 : w.heap.size ≤ w2.heap.size := HB2.out.size
    have HS23 := hid' hs23
    clear hE hb3 HD hs23
    go_wp2_with fail
    refine (limD_yes w.heap.size d2 b2 _ 1 4096 4096 [] N HN.out _ HD3.out).mono ?_
    rintro e w4 ⟨rfl, hD4, hF4⟩
    have HE4 := hid' (HE3.out.fr hF4 (HE3.out.obj.ne HD3.out.obj (by decide)) (HE3.out.tab.ring.obj.ne HD3.out.obj (by decide)) (fun k hk => by simp [Value.ownBlock] at hk))
    have HB4 := hid' (fr_below hF4 HB3.out (fun k hk => by rw [show k = d2 from hk]; exact HD3.out.ge))
    clear hD4 hF4
    go_wp2_with fail
    refine (limE_yes w2.heap.size d1 b1 _ 4096 4096 4096 [] N (by have := HN.out; omega) _ HE4.out (by decide) _ _ rfl rfl).mono ?_
    rintro e w5 ⟨rfl, v5, hE5, hv5, hF5⟩
    have HB5 := hid' (fr_below hF5 HB4.out (fun k hk => by
      have h23 := HS23.out
      rcases hk with e | e | e
      · rw [e]; have := HE4.out.ge; omega
      · rw [e]; have := HE4.out.tab.ring.ge; omega
      · simp [Value.ownBlock] at e))
    clear hE5 hv5 hF5
    go_wp2_with fail
    refine (awake6 _).mono ?_
    rintro e w6 ⟨rfl, hb6⟩
    have HB6 := hid' (below_two HB5.out hb6)
    clear hb6
    go_wp2_with fail
    refine (limD_nil _ _).mono ?_
    rintro e w7 ⟨rfl, hw⟩
    subst w7
    go_wp2_with fail
    refine (limE_nil _ _).mono ?_
    rintro e w7 ⟨rfl, hw⟩
    subst w7
    go_wp2_with fail
    refine (writeN_any _ _).mono ?_
    rintro e w7 ⟨rfl, hw⟩
    subst w7
    go_wp2_with fail
    refine (nsizeD_any _).mono ?_
    rintro e w7 ⟨rfl, hw⟩
    subst w7
    go_wp2_with fail
    refine (nsizeE_any _).mono ?_
    rintro e w7 ⟨rfl, hw⟩
    subst w7
    go_wp2
    go_ret
    exact ⟨rfl, HB6.out⟩
  · have HN := hid' (show 65536 < N ∧ N ≤ 4294967295 from ⟨hN, hN2⟩)
    have k0 : decide ((0 : Int) ≤ (N : Int)) = true := decide_eq_true (by omega)
    have k1 : decide ((N : Int) ≤ 65536) = false := decide_eq_false (by omega)
    have k2 : decide ((N : Int) ≤ 4294967295) = true := decide_eq_true (by omega)
    have k3 : decide (N ≤ 65536) = false := decide_eq_false (by omega)
    have k4 : decide (N ≤ 4294967295) = true := decide_eq_true (by omega)
    clear hN hN2
    go_enter Try.func6, Try.ntmps6
    go_wp2_with fail
    refine (readN_any _ _).mono ?_
    rintro e w1 ⟨rfl, hw⟩
    subst w1
    go_wp2_with fail
    refine (newDec_yes 1 (by omega) w.heap.size w (Nat.le_refl _)).mono ?_
    rintro e w2 ⟨d2, rfl, b2, hD, hb2⟩
    have HD := hid' hD
    have HB2 := hid' hb2
    clear hD hb2
    go_wp2_with fail
    refine (newEnc_any w2.heap.size w2 (Nat.le_refl _)).mono ?_
    rintro e w3 ⟨d1, rfl, b1, hE, hb3⟩
    have HD3 := hid' (HD.out.keep hb3)
    have HE3 := hid' hE
    have HB3 := hid' (below_two HB2.out hb3)
    have hs23 : w.heap.size ≤ w2.heap.size := HB2.out.size
    have HS23 := hid' hs23
    clear hE hb3 HD hs23
    go_wp2_with fail
    refine (limD_no d2 (N : Int) (by have := HN.out; omega) _).mono ?_
    rintro e w4 ⟨rfl, hw⟩
    subst w4
    have HE4 := HE3
    have HB4 := HB3
    go_wp2_with fail
    refine (limE_yes w2.heap.size d1 b1 _ 4096 4096 4096 [] N (by have := HN.out; omega) _ HE4.out (by decide) _ _ rfl rfl).mono ?_
    rintro e w5 ⟨rfl, v5, hE5, hv5, hF5⟩
    have HB5 := hid' (fr_below hF5 HB4.out (fun k hk => by
      have h23 := HS23.out
      rcases hk with e | e | e
      · rw [e]; have := HE4.out.ge; omega
      · rw [e]; have := HE4.out.tab.ring.ge; omega
      · simp [Value.ownBlock] at e))
    clear hE5 hv5 hF5
    go_wp2_with fail
    refine (awake6 _).mono ?_
    rintro e w6 ⟨rfl, hb6⟩
    have HB6 := hid' (below_two HB5.out hb6)
    clear hb6
    go_wp2_with fail
    refine (limD_nil _ _).mono ?_
    rintro e w7 ⟨rfl, hw⟩
    subst w7
    go_wp2_with fail
    refine (limE_nil _ _).mono ?_
    rintro e w7 ⟨rfl, hw⟩
    subst w7
    go_wp2_with fail
    refine (writeN_any _ _).mono ?_
    rintro e w7 ⟨rfl, hw⟩
    subst w7
    go_wp2_with fail
    refine (nsizeD_any _).mono ?_
    rintro e w7 ⟨rfl, hw⟩
    subst w7
    go_wp2_with fail
    refine (nsizeE_any _).mono ?_
    rintro e w7 ⟨rfl, hw⟩
    subst w7
    go_wp2
    go_ret
    exact ⟨rfl, HB6.out⟩
  · have HN := hid' hn
    have k0 : decide ((0 : Int) ≤ n) = true := decide_eq_true (by omega)
    have k1 : decide (n ≤ 65536) = false := decide_eq_false (by omega)
    have k2 : decide (n ≤ 4294967295) = false := decide_eq_false (by omega)
    clear hn
    go_enter Try.func6, Try.ntmps6
    go_wp2_with fail
    refine (readN_any _ _).mono ?_
    rintro e w1 ⟨rfl, hw⟩
    subst w1
    go_wp2_with fail
    refine (newDec_yes 1 (by omega) w.heap.size w (Nat.le_refl _)).mono ?_
    rintro e w2 ⟨d2, rfl, b2, hD, hb2⟩
    have HD := hid' hD
    have HB2 := hid' hb2
    clear hD hb2
    go_wp2_with fail
    refine (newEnc_any w2.heap.size w2 (Nat.le_refl _)).mono ?_
    rintro e w3 ⟨d1, rfl, b1, hE, hb3⟩
    have HD3 := hid' (HD.out.keep hb3)
    have HE3 := hid' hE
    have HB3 := hid' (below_two HB2.out hb3)
    have hs23 : w.heap.size ≤ w2.heap.size := HB2.out.size
    have HS23 := hid' hs23
    clear hE hb3 HD hs23
    go_wp2_with fail
    refine (limD_no d2 n (by have := HN.out; omega) _).mono ?_
    rintro e w4 ⟨rfl, hw⟩
    subst w4
    have HE4 := HE3
    have HB4 := HB3
    go_wp2_with fail
    refine (limE_no d1 n (by have := HN.out; omega) _).mono ?_
    rintro e w5 ⟨rfl, hw⟩
    subst w5
    have HB5 := HB4
    go_wp2_with fail
    refine (awake6 _).mono ?_
    rintro e w6 ⟨rfl, hb6⟩
    have HB6 := hid' (below_two HB5.out hb6)
    clear hb6
    go_wp2_with fail
    refine (limD_nil _ _).mono ?_
    rintro e w7 ⟨rfl, hw⟩
    subst w7
    go_wp2_with fail
    refine (limE_nil _ _).mono ?_
    rintro e w7 ⟨rfl, hw⟩
    subst w7
    go_wp2_with fail
    refine (writeN_any _ _).mono ?_
    rintro e w7 ⟨rfl, hw⟩
    subst w7
    go_wp2_with fail
    refine (nsizeD_any _).mono ?_
    rintro e w7 ⟨rfl, hw⟩
    subst w7
    go_wp2_with fail
    refine (nsizeE_any _).mono ?_
    rintro e w7 ⟨rfl, hw⟩
    subst w7
    go_wp2
    go_ret
    exact ⟨rfl, HB6.out⟩

end Go.Proofs.Ytmkkhfkfjmfdcaa
