/-
  The code's digit, read, escapable and bare: by their contracts.
-/
import Derived.Test.YtjgdmooedeilhaaDoorPtA
namespace Go.Proofs.YtjgdmooedeilhaaDoor
open Go.RowKit

namespace Pt
/-- What a byte counts, and nought where it counts nothing. -/
def dv (c : UInt8) : Int := if 0 ≤ hx c then hx c else 0
theorem dv_bd (c : UInt8) : 0 ≤ dv c ∧ dv c ≤ 15 := by
  have := hx_bd c
  unfold dv
  split <;> omega
theorem or16 (a b : Int) (ha0 : 0 ≤ a) (ha : a ≤ 15) (hb0 : 0 ≤ b) (hb : b ≤ 15) : Go.bits .or .u8 (a * 16) b = 16 * a + b := by
  obtain ⟨x, rfl⟩ : ∃ x : Nat, a = (x : Int) := ⟨a.toNat, by omega⟩
  obtain ⟨y, rfl⟩ : ∃ y : Nat, b = (y : Int) := ⟨b.toNat, by omega⟩
  have key : ∀ x : Fin 16, ∀ y : Fin 16, Go.bits .or .u8 ((x.val : Int) * 16) (y.val : Int) = 16 * (x.val : Int) + (y.val : Int) := by decide +kernel
  exact key ⟨x, by omega⟩ ⟨y, by omega⟩
end Pt

set_option maxHeartbeats 1000000 in
theorem cdig17 (c : UInt8) (w : World) : Calls Tryd.prog 35 #[.int .u8 (c.toNat : Int)] w fun e w' => e = .returned (.tuple #[.int .u8 (Pt.dv c), .bool (decide (0 ≤ Pt.hx c))]) ∧ w' = w := by
  obtain ⟨x, hx⟩ : ∃ x : Int, (c.toNat : Int) = x := ⟨_, rfl⟩
  have hx0 : 0 ≤ x := by omega
  have hx1 : x < 256 := by have := c.toNat_lt; omega
  have HE : Hid (Pt.hx c = Tx.dgr x) := hid' (by unfold Pt.hx; rw [hx])
  have HV : Hid (∀ v : Int, 0 ≤ v → Tx.dgr x = v → Pt.dv c = v ∧ decide (0 ≤ Pt.hx c) = true) := hid' (fun v h0 hv => by
    unfold Pt.dv
    rw [HE.out, hv, if_pos h0, decide_eq_true h0]; exact ⟨rfl, rfl⟩)
  have HN : Hid (Tx.dgr x = -1 → Pt.dv c = 0 ∧ decide (0 ≤ Pt.hx c) = false) := hid' (fun hv => by
    unfold Pt.dv
    rw [HE.out, hv]; exact ⟨rfl, rfl⟩)
  rw [hx]
  clear hx HE
  by_cases h1 : 48 ≤ x
  · by_cases h2 : x ≤ 57
    · have HR := hid' (HV.out (x - 48) (by omega) (by unfold Tx.dgr Tx.digC; rw [decide_eq_true h1, decide_eq_true h2]; rfl))
      go_enter Tryd.func35, Tryd.ntmps35
      go_wp2
      go_ret2
      exact ⟨by rw [HR.out.1, HR.out.2]; go_num, rfl⟩
    · by_cases h5 : 65 ≤ x
      · by_cases h6 : x ≤ 70
        · have h3 : ¬ 97 ≤ x := by omega
          have HR := hid' (HV.out (x - 65 + 10) (by omega) (by unfold Tx.dgr Tx.digC; rw [decide_eq_true h1, decide_eq_false h2, decide_eq_false h3, decide_eq_true h5, decide_eq_true h6]; simp; omega))
          go_enter Tryd.func35, Tryd.ntmps35
          go_wp2
          go_ret2
          exact ⟨by rw [HR.out.1, HR.out.2]; go_num, rfl⟩
        · by_cases h3 : 97 ≤ x
          · by_cases h4 : x ≤ 102
            · have HR := hid' (HV.out (x - 97 + 10) (by omega) (by unfold Tx.dgr Tx.digC; rw [decide_eq_true h1, decide_eq_false h2, decide_eq_true h3, decide_eq_true h4]; simp; omega))
              go_enter Tryd.func35, Tryd.ntmps35
              go_wp2
              go_ret2
              exact ⟨by rw [HR.out.1, HR.out.2]; go_num, rfl⟩
            · have HR := hid' (HN.out (by unfold Tx.dgr Tx.digC; rw [decide_eq_true h1, decide_eq_false h2, decide_eq_true h3, decide_eq_false h4, decide_eq_true h5, decide_eq_false h6]; rfl))
              go_enter Tryd.func35, Tryd.ntmps35
              go_wp2
              go_ret2
              exact ⟨by rw [HR.out.1, HR.out.2]; rfl, rfl⟩
          · have HR := hid' (HN.out (by unfold Tx.dgr Tx.digC; rw [decide_eq_true h1, decide_eq_false h2, decide_eq_false h3, decide_eq_true h5, decide_eq_false h6]; rfl))
            go_enter Tryd.func35, Tryd.ntmps35
            go_wp2
            go_ret2
            exact ⟨by rw [HR.out.1, HR.out.2]; rfl, rfl⟩
      · have h3 : ¬ 97 ≤ x := by omega
        have HR := hid' (HN.out (by unfold Tx.dgr Tx.digC; rw [decide_eq_true h1, decide_eq_false h2, decide_eq_false h3, decide_eq_false h5]; rfl))
        go_enter Tryd.func35, Tryd.ntmps35
        go_wp2
        go_ret2
        exact ⟨by rw [HR.out.1, HR.out.2]; rfl, rfl⟩
  · have h3 : ¬ 97 ≤ x := by omega
    have h5 : ¬ 65 ≤ x := by omega
    have HR := hid' (HN.out (by unfold Tx.dgr Tx.digC; rw [decide_eq_false h1, decide_eq_false h3, decide_eq_false h5]; rfl))
    go_enter Tryd.func35, Tryd.ntmps35
    go_wp2
    go_ret2
    exact ⟨by rw [HR.out.1, HR.out.2]; rfl, rfl⟩

set_option maxHeartbeats 1000000 in
theorem cread17s (s : ByteArray) (hs : s.size < 2) (w : World) : Calls Tryd.prog 28 #[.string s] w fun e w' => e = .returned (.tuple #[.int .u8 0, .bool false]) ∧ w' = w := by
  have h2 : (s.size : Int) < 2 := by omega
  go_enter Tryd.func28, Tryd.ntmps28
  go_wp2
  go_ret2
  exact ⟨rfl, rfl⟩

set_option maxHeartbeats 1000000 in
theorem cread17 (s : ByteArray) (h0 : 0 < s.size) (h1 : 1 < s.size) (hb : s.size ≤ 9223372036854775807) (w : World) : Calls Tryd.prog 28 #[.string s] w fun e w' => e = .returned (.tuple #[.int .u8 ((16 : Int) * Pt.dv s[0] + Pt.dv s[1]), .bool (decide (0 ≤ Pt.hx s[0]) && decide (0 ≤ Pt.hx s[1]))]) ∧ w' = w := by
  have h2 : ¬ (s.size : Int) < 2 := by omega
  have g0 : (0 : Int) < (s.size : Int) := by omega
  have g1 : (1 : Int) < (s.size : Int) := by omega
  have H0 := hid' (fun W => cdig17 s[0] W)
  have H1 := hid' (fun W => cdig17 s[1] W)
  have b0 := Pt.dv_bd s[0]
  have b1 := Pt.dv_bd s[1]
  generalize Pt.dv s[0] = a at *
  generalize Pt.dv s[1] = b at *
  generalize decide (0 ≤ Pt.hx s[0]) = p at *
  generalize decide (0 ≤ Pt.hx s[1]) = q at *
  have HOR := hid' (Pt.or16 a b b0.1 b0.2 b1.1 b1.2)
  go_enter Tryd.func28, Tryd.ntmps28
  go_wp2_with fail
  refine (H0.out _).mono ?_
  rintro e w1 ⟨rfl, hw⟩
  subst w1
  go_wp2_with fail
  refine (H1.out _).mono ?_
  rintro e w1 ⟨rfl, hw⟩
  subst w1
  cases p
  · go_wp2
    go_ret2
    exact ⟨by rw [← HOR.out]; rfl, rfl⟩
  · go_wp2
    go_ret2
    exact ⟨by rw [← HOR.out]; rfl, rfl⟩

set_option maxHeartbeats 1000000 in
theorem cescb17 (c : UInt8) (w : World) : Calls Tryd.prog 29 #[.int .u8 (c.toNat : Int)] w fun e w' => e = .returned (.bool (Pt.okb (c.toNat : Int))) ∧ w' = w := by
  obtain ⟨x, hx⟩ : ∃ x : Int, (c.toNat : Int) = x := ⟨_, rfl⟩
  have hx0 : 0 ≤ x := by omega
  have hx1 : x < 256 := by have := c.toNat_lt; omega
  rw [hx]
  clear hx
  have HE : Hid (Pt.okb x = (!decide (x < 32) && (!(x == 127) && !(x == 47)))) := hid' rfl
  by_cases h1 : x < 32
  · have g1 : ¬ 32 ≤ x := by omega
    rw [decide_eq_true h1] at HE
    go_enter Tryd.func29, Tryd.ntmps29
    go_wp2
    go_ret
    exact ⟨by rw [HE.out]; rfl, rfl⟩
  · have g1 : 32 ≤ x := by omega
    rw [decide_eq_false h1] at HE
    cases h2 : (x == 127)
    · have g2 : (x != 127) = true := by unfold bne; rw [h2]; rfl
      rw [h2] at HE
      cases h3 : (x == 47)
      · have g3 : (x != 47) = true := by unfold bne; rw [h3]; rfl
        rw [h3] at HE
        go_enter Tryd.func29, Tryd.ntmps29
        go_wp2
        go_ret
        exact ⟨by rw [HE.out]; rfl, rfl⟩
      · have g3 : (x != 47) = false := by unfold bne; rw [h3]; rfl
        rw [h3] at HE
        go_enter Tryd.func29, Tryd.ntmps29
        go_wp2
        go_ret
        exact ⟨by rw [HE.out]; rfl, rfl⟩
    · have g2 : (x != 127) = false := by unfold bne; rw [h2]; rfl
      rw [h2] at HE
      go_enter Tryd.func29, Tryd.ntmps29
      go_wp2
      go_ret
      exact ⟨by rw [HE.out]; rfl, rfl⟩

namespace Pt
/-- bare, of a number. -/
def plI (x : Int) : Bool := (decide (97 ≤ x) && decide (x ≤ 122)) || (decide (65 ≤ x) && decide (x ≤ 90)) || (decide (48 ≤ x) && decide (x ≤ 57)) || x == 45 || x == 46 || x == 95 || x == 126 || x == 47
theorem plI_is (c : UInt8) : plain c = plI (c.toNat : Int) := by
  have key : ∀ c : Fin 256, plain (UInt8.ofNat c.val) = plI ((UInt8.ofNat c.val).toNat : Int) := by decide +kernel
  have := key ⟨c.toNat, c.toNat_lt⟩
  simpa using this
end Pt

set_option maxHeartbeats 4000000 in
theorem cbare17 (c : UInt8) (w : World) : Calls Tryd.prog 23 #[.int .u8 (c.toNat : Int)] w fun e w' => e = .returned (.bool (Pt.plain c)) ∧ w' = w := by
  have HE := hid' (Pt.plI_is c)
  obtain ⟨x, hx⟩ : ∃ x : Int, (c.toNat : Int) = x := ⟨_, rfl⟩
  have hx0 : 0 ≤ x := by omega
  have hx1 : x < 256 := by have := c.toNat_lt; omega
  rw [hx] at HE ⊢
  clear hx
  by_cases a0 : 97 ≤ x
  · by_cases b0 : x ≤ 122
    · have HR : Hid (Pt.plain c = true) := hid' (by rw [HE.out]; unfold Pt.plI; rw [decide_eq_true a0, decide_eq_true b0]; rfl)
      go_enter Tryd.func23, Tryd.ntmps23
      go_wp2
      go_ret
      exact ⟨by rw [HR.out]; rfl, rfl⟩
    · by_cases a1 : 65 ≤ x
      · by_cases b1 : x ≤ 90
        · have HR : Hid (Pt.plain c = true) := hid' (by rw [HE.out]; unfold Pt.plI; rw [decide_eq_true a0, decide_eq_false b0, decide_eq_true a1, decide_eq_true b1]; rfl)
          go_enter Tryd.func23, Tryd.ntmps23
          go_wp2
          go_ret
          exact ⟨by rw [HR.out]; rfl, rfl⟩
        · by_cases a2 : 48 ≤ x
          · by_cases b2 : x ≤ 57
            · have HR : Hid (Pt.plain c = true) := hid' (by rw [HE.out]; unfold Pt.plI; rw [decide_eq_true a0, decide_eq_false b0, decide_eq_true a1, decide_eq_false b1, decide_eq_true a2, decide_eq_true b2]; rfl)
              go_enter Tryd.func23, Tryd.ntmps23
              go_wp2
              go_ret
              exact ⟨by rw [HR.out]; rfl, rfl⟩
            · cases e0 : (x == 45)
              · cases e1 : (x == 46)
                · cases e2 : (x == 95)
                  · cases e3 : (x == 126)
                    · cases e4 : (x == 47)
                      · have HR : Hid (Pt.plain c = false) := hid' (by rw [HE.out]; unfold Pt.plI; rw [decide_eq_true a0, decide_eq_false b0, decide_eq_true a1, decide_eq_false b1, decide_eq_true a2, decide_eq_false b2, e0, e1, e2, e3, e4]; rfl)
                        go_enter Tryd.func23, Tryd.ntmps23
                        go_wp2
                        go_ret
                        exact ⟨by rw [HR.out]; rfl, rfl⟩
                      · have HR : Hid (Pt.plain c = true) := hid' (by rw [HE.out]; unfold Pt.plI; rw [decide_eq_true a0, decide_eq_false b0, decide_eq_true a1, decide_eq_false b1, decide_eq_true a2, decide_eq_false b2, e0, e1, e2, e3, e4]; rfl)
                        go_enter Tryd.func23, Tryd.ntmps23
                        go_wp2
                        go_ret
                        exact ⟨by rw [HR.out]; rfl, rfl⟩
                    · have HR : Hid (Pt.plain c = true) := hid' (by rw [HE.out]; unfold Pt.plI; rw [decide_eq_true a0, decide_eq_false b0, decide_eq_true a1, decide_eq_false b1, decide_eq_true a2, decide_eq_false b2, e0, e1, e2, e3]; rfl)
                      go_enter Tryd.func23, Tryd.ntmps23
                      go_wp2
                      go_ret
                      exact ⟨by rw [HR.out]; rfl, rfl⟩
                  · have HR : Hid (Pt.plain c = true) := hid' (by rw [HE.out]; unfold Pt.plI; rw [decide_eq_true a0, decide_eq_false b0, decide_eq_true a1, decide_eq_false b1, decide_eq_true a2, decide_eq_false b2, e0, e1, e2]; rfl)
                    go_enter Tryd.func23, Tryd.ntmps23
                    go_wp2
                    go_ret
                    exact ⟨by rw [HR.out]; rfl, rfl⟩
                · have HR : Hid (Pt.plain c = true) := hid' (by rw [HE.out]; unfold Pt.plI; rw [decide_eq_true a0, decide_eq_false b0, decide_eq_true a1, decide_eq_false b1, decide_eq_true a2, decide_eq_false b2, e0, e1]; rfl)
                  go_enter Tryd.func23, Tryd.ntmps23
                  go_wp2
                  go_ret
                  exact ⟨by rw [HR.out]; rfl, rfl⟩
              · have HR : Hid (Pt.plain c = true) := hid' (by rw [HE.out]; unfold Pt.plI; rw [decide_eq_true a0, decide_eq_false b0, decide_eq_true a1, decide_eq_false b1, decide_eq_true a2, decide_eq_false b2, e0]; rfl)
                go_enter Tryd.func23, Tryd.ntmps23
                go_wp2
                go_ret
                exact ⟨by rw [HR.out]; rfl, rfl⟩
          · cases e0 : (x == 45)
            · cases e1 : (x == 46)
              · cases e2 : (x == 95)
                · cases e3 : (x == 126)
                  · cases e4 : (x == 47)
                    · have HR : Hid (Pt.plain c = false) := hid' (by rw [HE.out]; unfold Pt.plI; rw [decide_eq_true a0, decide_eq_false b0, decide_eq_true a1, decide_eq_false b1, decide_eq_false a2, e0, e1, e2, e3, e4]; rfl)
                      go_enter Tryd.func23, Tryd.ntmps23
                      go_wp2
                      go_ret
                      exact ⟨by rw [HR.out]; rfl, rfl⟩
                    · have HR : Hid (Pt.plain c = true) := hid' (by rw [HE.out]; unfold Pt.plI; rw [decide_eq_true a0, decide_eq_false b0, decide_eq_true a1, decide_eq_false b1, decide_eq_false a2, e0, e1, e2, e3, e4]; rfl)
                      go_enter Tryd.func23, Tryd.ntmps23
                      go_wp2
                      go_ret
                      exact ⟨by rw [HR.out]; rfl, rfl⟩
                  · have HR : Hid (Pt.plain c = true) := hid' (by rw [HE.out]; unfold Pt.plI; rw [decide_eq_true a0, decide_eq_false b0, decide_eq_true a1, decide_eq_false b1, decide_eq_false a2, e0, e1, e2, e3]; rfl)
                    go_enter Tryd.func23, Tryd.ntmps23
                    go_wp2
                    go_ret
                    exact ⟨by rw [HR.out]; rfl, rfl⟩
                · have HR : Hid (Pt.plain c = true) := hid' (by rw [HE.out]; unfold Pt.plI; rw [decide_eq_true a0, decide_eq_false b0, decide_eq_true a1, decide_eq_false b1, decide_eq_false a2, e0, e1, e2]; rfl)
                  go_enter Tryd.func23, Tryd.ntmps23
                  go_wp2
                  go_ret
                  exact ⟨by rw [HR.out]; rfl, rfl⟩
              · have HR : Hid (Pt.plain c = true) := hid' (by rw [HE.out]; unfold Pt.plI; rw [decide_eq_true a0, decide_eq_false b0, decide_eq_true a1, decide_eq_false b1, decide_eq_false a2, e0, e1]; rfl)
                go_enter Tryd.func23, Tryd.ntmps23
                go_wp2
                go_ret
                exact ⟨by rw [HR.out]; rfl, rfl⟩
            · have HR : Hid (Pt.plain c = true) := hid' (by rw [HE.out]; unfold Pt.plI; rw [decide_eq_true a0, decide_eq_false b0, decide_eq_true a1, decide_eq_false b1, decide_eq_false a2, e0]; rfl)
              go_enter Tryd.func23, Tryd.ntmps23
              go_wp2
              go_ret
              exact ⟨by rw [HR.out]; rfl, rfl⟩
      · by_cases a2 : 48 ≤ x
        · by_cases b2 : x ≤ 57
          · have HR : Hid (Pt.plain c = true) := hid' (by rw [HE.out]; unfold Pt.plI; rw [decide_eq_true a0, decide_eq_false b0, decide_eq_false a1, decide_eq_true a2, decide_eq_true b2]; rfl)
            go_enter Tryd.func23, Tryd.ntmps23
            go_wp2
            go_ret
            exact ⟨by rw [HR.out]; rfl, rfl⟩
          · cases e0 : (x == 45)
            · cases e1 : (x == 46)
              · cases e2 : (x == 95)
                · cases e3 : (x == 126)
                  · cases e4 : (x == 47)
                    · have HR : Hid (Pt.plain c = false) := hid' (by rw [HE.out]; unfold Pt.plI; rw [decide_eq_true a0, decide_eq_false b0, decide_eq_false a1, decide_eq_true a2, decide_eq_false b2, e0, e1, e2, e3, e4]; rfl)
                      go_enter Tryd.func23, Tryd.ntmps23
                      go_wp2
                      go_ret
                      exact ⟨by rw [HR.out]; rfl, rfl⟩
                    · have HR : Hid (Pt.plain c = true) := hid' (by rw [HE.out]; unfold Pt.plI; rw [decide_eq_true a0, decide_eq_false b0, decide_eq_false a1, decide_eq_true a2, decide_eq_false b2, e0, e1, e2, e3, e4]; rfl)
                      go_enter Tryd.func23, Tryd.ntmps23
                      go_wp2
                      go_ret
                      exact ⟨by rw [HR.out]; rfl, rfl⟩
                  · have HR : Hid (Pt.plain c = true) := hid' (by rw [HE.out]; unfold Pt.plI; rw [decide_eq_true a0, decide_eq_false b0, decide_eq_false a1, decide_eq_true a2, decide_eq_false b2, e0, e1, e2, e3]; rfl)
                    go_enter Tryd.func23, Tryd.ntmps23
                    go_wp2
                    go_ret
                    exact ⟨by rw [HR.out]; rfl, rfl⟩
                · have HR : Hid (Pt.plain c = true) := hid' (by rw [HE.out]; unfold Pt.plI; rw [decide_eq_true a0, decide_eq_false b0, decide_eq_false a1, decide_eq_true a2, decide_eq_false b2, e0, e1, e2]; rfl)
                  go_enter Tryd.func23, Tryd.ntmps23
                  go_wp2
                  go_ret
                  exact ⟨by rw [HR.out]; rfl, rfl⟩
              · have HR : Hid (Pt.plain c = true) := hid' (by rw [HE.out]; unfold Pt.plI; rw [decide_eq_true a0, decide_eq_false b0, decide_eq_false a1, decide_eq_true a2, decide_eq_false b2, e0, e1]; rfl)
                go_enter Tryd.func23, Tryd.ntmps23
                go_wp2
                go_ret
                exact ⟨by rw [HR.out]; rfl, rfl⟩
            · have HR : Hid (Pt.plain c = true) := hid' (by rw [HE.out]; unfold Pt.plI; rw [decide_eq_true a0, decide_eq_false b0, decide_eq_false a1, decide_eq_true a2, decide_eq_false b2, e0]; rfl)
              go_enter Tryd.func23, Tryd.ntmps23
              go_wp2
              go_ret
              exact ⟨by rw [HR.out]; rfl, rfl⟩
        · cases e0 : (x == 45)
          · cases e1 : (x == 46)
            · cases e2 : (x == 95)
              · cases e3 : (x == 126)
                · cases e4 : (x == 47)
                  · have HR : Hid (Pt.plain c = false) := hid' (by rw [HE.out]; unfold Pt.plI; rw [decide_eq_true a0, decide_eq_false b0, decide_eq_false a1, decide_eq_false a2, e0, e1, e2, e3, e4]; rfl)
                    go_enter Tryd.func23, Tryd.ntmps23
                    go_wp2
                    go_ret
                    exact ⟨by rw [HR.out]; rfl, rfl⟩
                  · have HR : Hid (Pt.plain c = true) := hid' (by rw [HE.out]; unfold Pt.plI; rw [decide_eq_true a0, decide_eq_false b0, decide_eq_false a1, decide_eq_false a2, e0, e1, e2, e3, e4]; rfl)
                    go_enter Tryd.func23, Tryd.ntmps23
                    go_wp2
                    go_ret
                    exact ⟨by rw [HR.out]; rfl, rfl⟩
                · have HR : Hid (Pt.plain c = true) := hid' (by rw [HE.out]; unfold Pt.plI; rw [decide_eq_true a0, decide_eq_false b0, decide_eq_false a1, decide_eq_false a2, e0, e1, e2, e3]; rfl)
                  go_enter Tryd.func23, Tryd.ntmps23
                  go_wp2
                  go_ret
                  exact ⟨by rw [HR.out]; rfl, rfl⟩
              · have HR : Hid (Pt.plain c = true) := hid' (by rw [HE.out]; unfold Pt.plI; rw [decide_eq_true a0, decide_eq_false b0, decide_eq_false a1, decide_eq_false a2, e0, e1, e2]; rfl)
                go_enter Tryd.func23, Tryd.ntmps23
                go_wp2
                go_ret
                exact ⟨by rw [HR.out]; rfl, rfl⟩
            · have HR : Hid (Pt.plain c = true) := hid' (by rw [HE.out]; unfold Pt.plI; rw [decide_eq_true a0, decide_eq_false b0, decide_eq_false a1, decide_eq_false a2, e0, e1]; rfl)
              go_enter Tryd.func23, Tryd.ntmps23
              go_wp2
              go_ret
              exact ⟨by rw [HR.out]; rfl, rfl⟩
          · have HR : Hid (Pt.plain c = true) := hid' (by rw [HE.out]; unfold Pt.plI; rw [decide_eq_true a0, decide_eq_false b0, decide_eq_false a1, decide_eq_false a2, e0]; rfl)
            go_enter Tryd.func23, Tryd.ntmps23
            go_wp2
            go_ret
            exact ⟨by rw [HR.out]; rfl, rfl⟩
  · by_cases a1 : 65 ≤ x
    · by_cases b1 : x ≤ 90
      · have HR : Hid (Pt.plain c = true) := hid' (by rw [HE.out]; unfold Pt.plI; rw [decide_eq_false a0, decide_eq_true a1, decide_eq_true b1]; rfl)
        go_enter Tryd.func23, Tryd.ntmps23
        go_wp2
        go_ret
        exact ⟨by rw [HR.out]; rfl, rfl⟩
      · by_cases a2 : 48 ≤ x
        · by_cases b2 : x ≤ 57
          · have HR : Hid (Pt.plain c = true) := hid' (by rw [HE.out]; unfold Pt.plI; rw [decide_eq_false a0, decide_eq_true a1, decide_eq_false b1, decide_eq_true a2, decide_eq_true b2]; rfl)
            go_enter Tryd.func23, Tryd.ntmps23
            go_wp2
            go_ret
            exact ⟨by rw [HR.out]; rfl, rfl⟩
          · cases e0 : (x == 45)
            · cases e1 : (x == 46)
              · cases e2 : (x == 95)
                · cases e3 : (x == 126)
                  · cases e4 : (x == 47)
                    · have HR : Hid (Pt.plain c = false) := hid' (by rw [HE.out]; unfold Pt.plI; rw [decide_eq_false a0, decide_eq_true a1, decide_eq_false b1, decide_eq_true a2, decide_eq_false b2, e0, e1, e2, e3, e4]; rfl)
                      go_enter Tryd.func23, Tryd.ntmps23
                      go_wp2
                      go_ret
                      exact ⟨by rw [HR.out]; rfl, rfl⟩
                    · have HR : Hid (Pt.plain c = true) := hid' (by rw [HE.out]; unfold Pt.plI; rw [decide_eq_false a0, decide_eq_true a1, decide_eq_false b1, decide_eq_true a2, decide_eq_false b2, e0, e1, e2, e3, e4]; rfl)
                      go_enter Tryd.func23, Tryd.ntmps23
                      go_wp2
                      go_ret
                      exact ⟨by rw [HR.out]; rfl, rfl⟩
                  · have HR : Hid (Pt.plain c = true) := hid' (by rw [HE.out]; unfold Pt.plI; rw [decide_eq_false a0, decide_eq_true a1, decide_eq_false b1, decide_eq_true a2, decide_eq_false b2, e0, e1, e2, e3]; rfl)
                    go_enter Tryd.func23, Tryd.ntmps23
                    go_wp2
                    go_ret
                    exact ⟨by rw [HR.out]; rfl, rfl⟩
                · have HR : Hid (Pt.plain c = true) := hid' (by rw [HE.out]; unfold Pt.plI; rw [decide_eq_false a0, decide_eq_true a1, decide_eq_false b1, decide_eq_true a2, decide_eq_false b2, e0, e1, e2]; rfl)
                  go_enter Tryd.func23, Tryd.ntmps23
                  go_wp2
                  go_ret
                  exact ⟨by rw [HR.out]; rfl, rfl⟩
              · have HR : Hid (Pt.plain c = true) := hid' (by rw [HE.out]; unfold Pt.plI; rw [decide_eq_false a0, decide_eq_true a1, decide_eq_false b1, decide_eq_true a2, decide_eq_false b2, e0, e1]; rfl)
                go_enter Tryd.func23, Tryd.ntmps23
                go_wp2
                go_ret
                exact ⟨by rw [HR.out]; rfl, rfl⟩
            · have HR : Hid (Pt.plain c = true) := hid' (by rw [HE.out]; unfold Pt.plI; rw [decide_eq_false a0, decide_eq_true a1, decide_eq_false b1, decide_eq_true a2, decide_eq_false b2, e0]; rfl)
              go_enter Tryd.func23, Tryd.ntmps23
              go_wp2
              go_ret
              exact ⟨by rw [HR.out]; rfl, rfl⟩
        · cases e0 : (x == 45)
          · cases e1 : (x == 46)
            · cases e2 : (x == 95)
              · cases e3 : (x == 126)
                · cases e4 : (x == 47)
                  · have HR : Hid (Pt.plain c = false) := hid' (by rw [HE.out]; unfold Pt.plI; rw [decide_eq_false a0, decide_eq_true a1, decide_eq_false b1, decide_eq_false a2, e0, e1, e2, e3, e4]; rfl)
                    go_enter Tryd.func23, Tryd.ntmps23
                    go_wp2
                    go_ret
                    exact ⟨by rw [HR.out]; rfl, rfl⟩
                  · have HR : Hid (Pt.plain c = true) := hid' (by rw [HE.out]; unfold Pt.plI; rw [decide_eq_false a0, decide_eq_true a1, decide_eq_false b1, decide_eq_false a2, e0, e1, e2, e3, e4]; rfl)
                    go_enter Tryd.func23, Tryd.ntmps23
                    go_wp2
                    go_ret
                    exact ⟨by rw [HR.out]; rfl, rfl⟩
                · have HR : Hid (Pt.plain c = true) := hid' (by rw [HE.out]; unfold Pt.plI; rw [decide_eq_false a0, decide_eq_true a1, decide_eq_false b1, decide_eq_false a2, e0, e1, e2, e3]; rfl)
                  go_enter Tryd.func23, Tryd.ntmps23
                  go_wp2
                  go_ret
                  exact ⟨by rw [HR.out]; rfl, rfl⟩
              · have HR : Hid (Pt.plain c = true) := hid' (by rw [HE.out]; unfold Pt.plI; rw [decide_eq_false a0, decide_eq_true a1, decide_eq_false b1, decide_eq_false a2, e0, e1, e2]; rfl)
                go_enter Tryd.func23, Tryd.ntmps23
                go_wp2
                go_ret
                exact ⟨by rw [HR.out]; rfl, rfl⟩
            · have HR : Hid (Pt.plain c = true) := hid' (by rw [HE.out]; unfold Pt.plI; rw [decide_eq_false a0, decide_eq_true a1, decide_eq_false b1, decide_eq_false a2, e0, e1]; rfl)
              go_enter Tryd.func23, Tryd.ntmps23
              go_wp2
              go_ret
              exact ⟨by rw [HR.out]; rfl, rfl⟩
          · have HR : Hid (Pt.plain c = true) := hid' (by rw [HE.out]; unfold Pt.plI; rw [decide_eq_false a0, decide_eq_true a1, decide_eq_false b1, decide_eq_false a2, e0]; rfl)
            go_enter Tryd.func23, Tryd.ntmps23
            go_wp2
            go_ret
            exact ⟨by rw [HR.out]; rfl, rfl⟩
    · by_cases a2 : 48 ≤ x
      · by_cases b2 : x ≤ 57
        · have HR : Hid (Pt.plain c = true) := hid' (by rw [HE.out]; unfold Pt.plI; rw [decide_eq_false a0, decide_eq_false a1, decide_eq_true a2, decide_eq_true b2]; rfl)
          go_enter Tryd.func23, Tryd.ntmps23
          go_wp2
          go_ret
          exact ⟨by rw [HR.out]; rfl, rfl⟩
        · cases e0 : (x == 45)
          · cases e1 : (x == 46)
            · cases e2 : (x == 95)
              · cases e3 : (x == 126)
                · cases e4 : (x == 47)
                  · have HR : Hid (Pt.plain c = false) := hid' (by rw [HE.out]; unfold Pt.plI; rw [decide_eq_false a0, decide_eq_false a1, decide_eq_true a2, decide_eq_false b2, e0, e1, e2, e3, e4]; rfl)
                    go_enter Tryd.func23, Tryd.ntmps23
                    go_wp2
                    go_ret
                    exact ⟨by rw [HR.out]; rfl, rfl⟩
                  · have HR : Hid (Pt.plain c = true) := hid' (by rw [HE.out]; unfold Pt.plI; rw [decide_eq_false a0, decide_eq_false a1, decide_eq_true a2, decide_eq_false b2, e0, e1, e2, e3, e4]; rfl)
                    go_enter Tryd.func23, Tryd.ntmps23
                    go_wp2
                    go_ret
                    exact ⟨by rw [HR.out]; rfl, rfl⟩
                · have HR : Hid (Pt.plain c = true) := hid' (by rw [HE.out]; unfold Pt.plI; rw [decide_eq_false a0, decide_eq_false a1, decide_eq_true a2, decide_eq_false b2, e0, e1, e2, e3]; rfl)
                  go_enter Tryd.func23, Tryd.ntmps23
                  go_wp2
                  go_ret
                  exact ⟨by rw [HR.out]; rfl, rfl⟩
              · have HR : Hid (Pt.plain c = true) := hid' (by rw [HE.out]; unfold Pt.plI; rw [decide_eq_false a0, decide_eq_false a1, decide_eq_true a2, decide_eq_false b2, e0, e1, e2]; rfl)
                go_enter Tryd.func23, Tryd.ntmps23
                go_wp2
                go_ret
                exact ⟨by rw [HR.out]; rfl, rfl⟩
            · have HR : Hid (Pt.plain c = true) := hid' (by rw [HE.out]; unfold Pt.plI; rw [decide_eq_false a0, decide_eq_false a1, decide_eq_true a2, decide_eq_false b2, e0, e1]; rfl)
              go_enter Tryd.func23, Tryd.ntmps23
              go_wp2
              go_ret
              exact ⟨by rw [HR.out]; rfl, rfl⟩
          · have HR : Hid (Pt.plain c = true) := hid' (by rw [HE.out]; unfold Pt.plI; rw [decide_eq_false a0, decide_eq_false a1, decide_eq_true a2, decide_eq_false b2, e0]; rfl)
            go_enter Tryd.func23, Tryd.ntmps23
            go_wp2
            go_ret
            exact ⟨by rw [HR.out]; rfl, rfl⟩
      · cases e0 : (x == 45)
        · cases e1 : (x == 46)
          · cases e2 : (x == 95)
            · cases e3 : (x == 126)
              · cases e4 : (x == 47)
                · have HR : Hid (Pt.plain c = false) := hid' (by rw [HE.out]; unfold Pt.plI; rw [decide_eq_false a0, decide_eq_false a1, decide_eq_false a2, e0, e1, e2, e3, e4]; rfl)
                  go_enter Tryd.func23, Tryd.ntmps23
                  go_wp2
                  go_ret
                  exact ⟨by rw [HR.out]; rfl, rfl⟩
                · have HR : Hid (Pt.plain c = true) := hid' (by rw [HE.out]; unfold Pt.plI; rw [decide_eq_false a0, decide_eq_false a1, decide_eq_false a2, e0, e1, e2, e3, e4]; rfl)
                  go_enter Tryd.func23, Tryd.ntmps23
                  go_wp2
                  go_ret
                  exact ⟨by rw [HR.out]; rfl, rfl⟩
              · have HR : Hid (Pt.plain c = true) := hid' (by rw [HE.out]; unfold Pt.plI; rw [decide_eq_false a0, decide_eq_false a1, decide_eq_false a2, e0, e1, e2, e3]; rfl)
                go_enter Tryd.func23, Tryd.ntmps23
                go_wp2
                go_ret
                exact ⟨by rw [HR.out]; rfl, rfl⟩
            · have HR : Hid (Pt.plain c = true) := hid' (by rw [HE.out]; unfold Pt.plI; rw [decide_eq_false a0, decide_eq_false a1, decide_eq_false a2, e0, e1, e2]; rfl)
              go_enter Tryd.func23, Tryd.ntmps23
              go_wp2
              go_ret
              exact ⟨by rw [HR.out]; rfl, rfl⟩
          · have HR : Hid (Pt.plain c = true) := hid' (by rw [HE.out]; unfold Pt.plI; rw [decide_eq_false a0, decide_eq_false a1, decide_eq_false a2, e0, e1]; rfl)
            go_enter Tryd.func23, Tryd.ntmps23
            go_wp2
            go_ret
            exact ⟨by rw [HR.out]; rfl, rfl⟩
        · have HR : Hid (Pt.plain c = true) := hid' (by rw [HE.out]; unfold Pt.plI; rw [decide_eq_false a0, decide_eq_false a1, decide_eq_false a2, e0]; rfl)
          go_enter Tryd.func23, Tryd.ntmps23
          go_wp2
          go_ret
          exact ⟨by rw [HR.out]; rfl, rfl⟩

end Go.Proofs.YtjgdmooedeilhaaDoor
