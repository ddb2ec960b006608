/-
  A clean path, escaped, is cleaned to itself.
-/
import Derived.Test.YtjgdmooedeilhaaDoorPtY
namespace Go.Proofs.YtjgdmooedeilhaaDoor
open Go.RowKit

namespace Pt
theorem esc_len (l : T8) : (esc l).length ≤ 3 * l.length := by
  induction l with
  | nil => simp [esc]
  | cons c r ih =>
    rw [show esc (c :: r) = esc1 c ++ esc r from rfl, List.length_append, List.length_cons]
    have : (esc1 c).length ≤ 3 := by unfold esc1; split <;> simp
    omega
end Pt

set_option maxHeartbeats 8000000 in
set_option maxRecDepth 20000 in
theorem pathBack_any (s : ByteArray) (w : World) (hT : CT17 w) (hs : s.size ≤ 1048576) :
    Calls Tryd.prog 5 #[.string s] w fun e w' => e = .returned (.bool true) ∧ Below w.heap.size w w' := by
  have HT := hid' hT
  have HAW := hid' (fun W (h : CT17 W) => awake17 W h)
  obtain ⟨l, hl⟩ : ∃ l, s.data.toList = l := ⟨_, rfl⟩
  have HCC := hid' (cclean17 s l hl w (by omega) hT)
  have hlen : l.length ≤ 1048576 := by rw [← hl, ← Lib.size_eq]; exact hs
  have h1 := Pt.core_len (Pt.pre l)
  have h2 := Pt.pre_le l
  simp only [clV17, Pt.clean] at HCC
  generalize (if (Pt.core (Pt.pre l)).2 == 0 then Pt.qry l else []) = Qy at HCC
  obtain ⟨cr, hcr⟩ : ∃ cr, Pt.core (Pt.pre l) = cr := ⟨_, rfl⟩
  have HBK : Hid (∀ P, cr = (P, 0) → (∀ c ∈ P, ¬ c.toNat < 32 ∧ c ≠ 127) → Pt.clean (Pt.esc P) = (P, [], 0)) := hid' (fun P h hb => Pt.back (hcr.trans h) hb)
  rw [hcr] at HCC h1
  obtain ⟨P, er⟩ := cr
  simp only at HCC h1
  have hPL : P.length ≤ 1048579 := by omega
  clear hT hl hcr h1 h2 hlen
  cases h0 : (er == 0)
  · have n0 : (er != 0) = true := by unfold bne; rw [h0]; rfl
    go_enter Tryd.func5, Tryd.ntmps5
    go_wp2_with fail
    refine HCC.out.mono ?_
    rintro e w1 ⟨rfl, hb1⟩
    have HB1 := hid' hb1
    have HT1 := hid' (HT.out.keep hb1)
    clear hb1
    go_wp2_with fail
    refine (HAW.out _ HT1.out).mono ?_
    rintro e w2 ⟨rfl, hb2⟩
    have HB2 := hid' (below_two HB1.out hb2)
    clear hb2
    go_wp2
    go_ret
    exact ⟨rfl, HB2.out⟩
  obtain rfl : er = 0 := eq_of_beq h0
  have HBK2 := hid' (HBK.out P rfl)
  have hEL := Pt.esc_len P
  have HES := hid' (fun W (h : CT17 W) => cesc17 ⟨P.toArray⟩ P rfl W (by rw [size_l']; omega) h)
  have HC2 := hid' (fun W (h : CT17 W) => cclean17 ⟨(Pt.esc P).toArray⟩ (Pt.esc P) rfl W (by rw [size_l']; omega) h)
  simp only [clV17] at HC2
  obtain ⟨c2, hc2⟩ : ∃ c2, Pt.clean (Pt.esc P) = c2 := ⟨_, rfl⟩
  rw [hc2] at HC2 HBK2
  obtain ⟨A2, B2, E2⟩ := c2
  simp only at HC2
  generalize Pt.esc P = EP at HES HC2
  obtain ⟨y, hy⟩ : ∃ y : ByteArray, (⟨P.toArray⟩ : ByteArray) = y := ⟨_, rfl⟩
  have HYL : Hid (y.data.toList = P) := hid' (by rw [← hy])
  have HYE := hid' hy
  have HYG : Hid (∀ k (h : k < y.size), P[k]? = some y[k]) := hid' (fun k h => by rw [← HYL.out]; exact Tx.get_byte y k h)
  have hyl : y.size ≤ 1048579 := by rw [← hy, size_l']; exact hPL
  rw [hy] at HCC HES
  clear h0 hc2 hy hEL
  go_enter Tryd.func5, Tryd.ntmps5
  go_wp2_with fail
  refine HCC.out.mono ?_
  rintro e w1 ⟨rfl, hb1⟩
  have HB1 := hid' hb1
  have HT1 := hid' (HT.out.keep hb1)
  clear hb1
  go_wp2_with fail
  refine (HES.out _ HT1.out).mono ?_
  rintro e w2 ⟨rfl, hb2⟩
  have HB2 := hid' (below_two HB1.out hb2)
  have HT2 := hid' (HT.out.keep HB2.out)
  clear hb2
  go_wp2_with fail
  refine (HC2.out _ HT2.out).mono ?_
  rintro e w3 ⟨rfl, hb3⟩
  have HB3 := hid' (below_two HB2.out hb3)
  have HT3 := hid' (HT.out.keep HB3.out)
  clear hb3
  go_wp2
  go_loopw [9] (fun s9 wr => ∃ (i : Nat), s9 = .int .i64 (i : Int) ∧ i ≤ y.size ∧ Hid (∀ j (h : j < y.size), j < i → ¬ y[j].toNat < 32 ∧ y[j] ≠ 127) ∧ Hid (wr = w3)) (fun s9 _ => y.size - (intOf s9).toNat)
  case atStart => exact ⟨0, rfl, Nat.zero_le _, hid' (fun j _ h => absurd h (Nat.not_lt_zero _)), hid' rfl⟩
  case round =>
    obtain ⟨i, rfl, hi, HV, HWi⟩ := hrel
    obtain rfl := HWi.out
    by_cases hlt : i < y.size
    · have hlt2 : (i : Int) < (y.size : Int) := by omega
      by_cases c1 : (y[i].toNat : Int) < 32
      · go_wp2_with fail
        refine (HAW.out _ HT3.out).mono ?_
        rintro e w4 ⟨rfl, hb4⟩
        have HB4 := hid' (below_two HB3.out hb4)
        clear hb4
        go_wp2
        go_ret
        exact ⟨rfl, HB4.out⟩
      · cases c2 : ((y[i].toNat : Int) == 127)
        · have HV2 : Hid (∀ j (h : j < y.size), j < i + 1 → ¬ y[j].toNat < 32 ∧ y[j] ≠ 127) := hid' (fun j h hj => by
            by_cases hji : j = i
            · subst hji
              refine ⟨by omega, fun e => ?_⟩
              rw [e] at c2; revert c2; decide
            · exact HV.out j h (by omega))
          go_wp2
          go_roundw
          case rel => exact ⟨i + 1, by go_num, by omega, HV2, hid' (by trivial)⟩
          case measure => simp [intOf]; omega
        · go_wp2_with fail
          refine (HAW.out _ HT3.out).mono ?_
          rintro e w4 ⟨rfl, hb4⟩
          have HB4 := hid' (below_two HB3.out hb4)
          clear hb4
          go_wp2
          go_ret
          exact ⟨rfl, HB4.out⟩
    · have hlt2 : ¬ (i : Int) < (y.size : Int) := by omega
      have hall : ∀ c ∈ P, ¬ c.toNat < 32 ∧ c ≠ 127 := fun c hc => by
        obtain ⟨j, hj, hjc⟩ := List.mem_iff_getElem.1 hc
        have hjs : j < y.size := by rw [← HYE.out, size_l']; exact hj
        have h1 := HYG.out j hjs
        rw [List.getElem?_eq_getElem hj, hjc] at h1
        injection h1 with h1
        rw [h1]
        exact HV.out j hjs (by omega)
      have hq := HBK2.out hall
      simp only [Prod.mk.injEq] at hq
      obtain ⟨rfl, rfl, rfl⟩ := hq
      have hye := HYE.out
      rw [hye]
      clear hlt hall hye
      go_wp2_with fail
      refine (HAW.out _ HT3.out).mono ?_
      rintro e w4 ⟨rfl, hb4⟩
      have HB4 := hid' (below_two HB3.out hb4)
      clear hb4
      go_wp2
      go_ret
      exact ⟨rfl, HB4.out⟩

end Go.Proofs.YtjgdmooedeilhaaDoor
