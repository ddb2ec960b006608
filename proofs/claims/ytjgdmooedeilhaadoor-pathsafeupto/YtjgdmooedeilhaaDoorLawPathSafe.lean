/-
  A clean path never leads above its root.
-/
import Derived.Test.YtjgdmooedeilhaaDoorPtY
namespace Go.Proofs.YtjgdmooedeilhaaDoor
open Go.RowKit

set_option maxHeartbeats 8000000 in
set_option maxRecDepth 20000 in
theorem pathSafe_any (s : ByteArray) (w : World) (hT : CT17 w) (hs : s.size ≤ 4194304) :
    Calls Tryd.prog 4 #[.string s] w fun e w' => e = .returned (.bool true) ∧ Below w.heap.size w w' := by
  have HT := hid' hT
  have HAW := hid' (fun W (h : CT17 W) => awake17 W h)
  obtain ⟨l, hl⟩ : ∃ l, s.data.toList = l := ⟨_, rfl⟩
  have HCC := hid' (cclean17 s l hl w hs hT)
  have HSZ : Hid (s.size = l.length) := hid' (by rw [Lib.size_eq, hl])
  have HGB : Hid (∀ k (h : k < s.size), l[k]? = some s[k]) := hid' (fun k h => by rw [← hl]; exact Tx.get_byte s k h)
  clear hT hl
  go_enter Tryd.func4, Tryd.ntmps4
  go_wp2
  go_loopw [3] (fun s3 wr => ∃ k : Nat, s3 = .int .i64 (k : Int) ∧ k ≤ s.size ∧ Hid (∀ j (h : j < s.size), j < k → ¬ s[j].toNat < 33 ∧ ¬ 126 < s[j].toNat) ∧ Hid (wr = w)) (fun s3 _ => s.size - (intOf s3).toNat)
  case atStart => exact ⟨0, rfl, Nat.zero_le _, hid' (fun j _ h => absurd h (Nat.not_lt_zero _)), hid' rfl⟩
  case round =>
    obtain ⟨k, rfl, hk, HV, HW⟩ := hrel
    obtain rfl := HW.out
    by_cases hlt : k < s.size
    · have hlt2 : (k : Int) < (s.size : Int) := by omega
      by_cases c1 : (s[k].toNat : Int) < 33
      · go_wp2_with fail
        refine (HAW.out _ HT.out).mono ?_
        rintro e w1 ⟨rfl, hb1⟩
        go_wp2
        go_ret
        exact ⟨rfl, hb1⟩
      · by_cases c2 : (126 : Int) < (s[k].toNat : Int)
        · go_wp2_with fail
          refine (HAW.out _ HT.out).mono ?_
          rintro e w1 ⟨rfl, hb1⟩
          go_wp2
          go_ret
          exact ⟨rfl, hb1⟩
        · have HV2 : Hid (∀ j (h : j < s.size), j < k + 1 → ¬ s[j].toNat < 33 ∧ ¬ 126 < s[j].toNat) := hid' (fun j h hj => by
            by_cases hjk : j = k
            · subst hjk; omega
            · exact HV.out j h (by omega))
          go_wp2
          go_roundw
          case rel => exact ⟨k + 1, by go_num, by omega, HV2, hid' (by trivial)⟩
          case measure => simp [intOf]; omega
    · have hlt2 : ¬ (k : Int) < (s.size : Int) := by omega
      have HLV : Hid (∀ c ∈ l, ¬ c.toNat < 33 ∧ ¬ 126 < c.toNat) := hid' (fun c hc => by
        obtain ⟨j, hj, hjc⟩ := List.mem_iff_getElem.1 hc
        have hjs : j < s.size := by rw [HSZ.out]; exact hj
        have h1 := HGB.out j hjs
        rw [List.getElem?_eq_getElem hj, hjc] at h1
        injection h1 with h1
        rw [h1]
        exact HV.out j hjs (by omega))
      have HSF : Hid (∀ P, Pt.core (Pt.pre l) = (P, 0) → (∀ c ∈ P, ¬ c.toNat < 32 ∧ c ≠ 127) ∧ ∃ r, P = 47 :: r ∧ Pt.segs (Pt.cutS [] r)) := hid' (fun P h => ⟨Pt.safe_bytes h HLV.out, Pt.safe_segs h⟩)
      have HER : Hid (((Pt.core (Pt.pre l)).2 == 0) = false → (Pt.core (Pt.pre l)).1 = [] ∧ ((Pt.core (Pt.pre l)).2 = 1 ∨ (Pt.core (Pt.pre l)).2 = 170 ∨ (Pt.core (Pt.pre l)).2 = 171)) := hid' Pt.core_err
      simp only [clV17, Pt.clean] at HCC
      generalize (if (Pt.core (Pt.pre l)).2 == 0 then Pt.qry l else []) = Qy at HCC
      obtain ⟨cr, hcr⟩ : ∃ cr, Pt.core (Pt.pre l) = cr := ⟨_, rfl⟩
      rw [hcr] at HCC HSF HER
      obtain ⟨P, er⟩ := cr
      simp only at HCC HER
      have hPL : P.length ≤ 4194310 := by
        have h1 := Pt.core_len (Pt.pre l)
        have h2 := Pt.pre_le l
        rw [hcr] at h1
        simp only at h1
        have h3 := HSZ.out
        omega
      clear hlt hcr HV
      cases h0 : (er == 0)
      · have hE := HER.out h0
        obtain ⟨hP, hE3⟩ := hE
        subst hP
        have n0 : (er != 0) = true := by unfold bne; rw [h0]; rfl
        rcases hE3 with rfl | rfl | rfl
        all_goals
          go_wp2_with fail
          refine HCC.out.mono ?_
          rintro e w1 ⟨rfl, hb1⟩
          have HB1 := hid' hb1
          have HT1 := hid' (HT.out.keep hb1)
          clear hb1
          go_wp2_with fail
          refine (HAW.out _ HT1.out).mono ?_
          rintro e w2 ⟨rfl, hb2⟩
          have HB2 := hid' (below_two HB1.out hb2)
          clear hb2
          go_wp2
          go_ret
          exact ⟨rfl, HB2.out⟩
      · obtain rfl : er = 0 := eq_of_beq h0
        obtain ⟨hPb, r, hPr, hSg⟩ := HSF.out P rfl
        have HPB := hid' hPb
        obtain ⟨y, hy⟩ : ∃ y : ByteArray, (⟨P.toArray⟩ : ByteArray) = y := ⟨_, rfl⟩
        have HYL : Hid (y.data.toList = P) := hid' (by rw [← hy])
        have HYS : Hid (y.size = r.length + 1) := hid' (by rw [← hy, size_l', hPr]; rfl)
        have hyp : 0 < y.size := by rw [HYS.out]; omega
        have hypI : (0 : Int) < (y.size : Int) := by omega
        have HYG : Hid (∀ k (h : k < y.size), P[k]? = some y[k]) := hid' (fun k h => by rw [← HYL.out]; exact Tx.get_byte y k h)
        have hye : y.toList.isEmpty = false := by rw [Lib.toList_data, HYL.out, hPr]; rfl
        have hy0 : ((y[0].toNat : Int) != 47) = false := by
          have h1 := HYG.out 0 hyp
          rw [hPr] at h1
          simp at h1
          rw [← h1]; rfl
        have hyl : y.size ≤ 9223372036854775807 := by rw [← hy, size_l']; omega
        rw [hy] at HCC
        have HPR := hid' hPr
        have HSG := hid' hSg
        clear h0 hPb hPr hSg hy
        go_wp2_with fail
        refine HCC.out.mono ?_
        rintro e w1 ⟨rfl, hb1⟩
        have HB1 := hid' hb1
        have HT1 := hid' (HT.out.keep hb1)
        clear hb1
        go_wp2
        go_loopw [7, 8] (fun s7 s8 wr => ∃ (i : Nat) (Z : List UInt8), s8 = .int .i64 (i : Int) ∧ s7 = .string ⟨Z.toArray⟩ ∧ 1 ≤ i ∧ i ≤ y.size ∧ Z.length ≤ i ∧ Hid (Pt.segs (Pt.cutS Z (P.drop i))) ∧ Hid (wr = w1)) (fun _ s8 _ => y.size - (intOf s8).toNat)
        case atStart => exact ⟨1, [], rfl, rfl, Nat.le_refl _, by omega, by simp, hid' (by rw [HPR.out]; exact HSG.out), hid' rfl⟩
        case round =>
          obtain ⟨i, Z, rfl, rfl, h1i, hi, hZi, HSi, HWi⟩ := hrel
          obtain rfl := HWi.out
          by_cases hlt : i < y.size
          · have hlt2 : (i : Int) < (y.size : Int) := by omega
            have HDC := hid' (Pt.drop_c (HYG.out i hlt))
            rw [HDC.out] at HSi
            have hcb := HPB.out y[i] (List.mem_of_getElem? (HYG.out i hlt))
            have b1 : ¬ (y[i].toNat : Int) < 32 := by omega
            have b2 : ((y[i].toNat : Int) == 127) = false := by
              rw [beq_eq_false_iff_ne]
              intro e
              exact hcb.2 (UInt8.toNat_inj.1 (by simpa using (by omega : y[i].toNat = 127)))
            have g2 : (i : Int) + 1 ≤ (y.size : Int) := by omega
            have g3 : i + 1 ≤ y.size := by omega
            clear hcb
            cases h47 : ((y[i].toNat : Int) == 47)
            · have n47 : ((y[i].toNat : Int) != 47) = true := by unfold bne; rw [h47]; rfl
              rw [Pt.cutS, if_neg (by rw [u47 y i hlt, h47]; decide)] at HSi
              have hex : y.extract i (i + 1) = ⟨#[y[i]]⟩ := by
                rw [ext_td17, HYL.out, HDC.out, show i + 1 - i = 1 by omega]; rfl
              have k1 : ¬ 9223372036854775807 < Z.length + 1 := by omega
              clear h47
              go_wp2
              go_roundw
              case rel => exact ⟨i + 1, Z ++ [y[i]], by go_num, by first | rfl | (congr 1; apply ByteArray.ext; simp), by omega, by omega, by simp; omega, HSi, hid' (by trivial)⟩
              case measure => simp [intOf]; omega
            · have n47 : ((y[i].toNat : Int) != 47) = false := by unfold bne; rw [h47]; rfl
              have hc47 : y[i] = 47 := eq_of_beq ((u47 y i hlt).trans h47)
              rw [hc47] at HSi
              have hst := Pt.segs_step HSi.out
              obtain ⟨z, hz⟩ : ∃ z : ByteArray, (⟨Z.toArray⟩ : ByteArray) = z := ⟨_, rfl⟩
              have HST := hid' hst
              have hd := dots_at17 ⟨Z.toArray⟩ Z rfl
              have q1 : (Z == Pt.dots) = false := beq_false_of_ne hst.1.2.2
              have q2 : (Z == Pt.dot) = false := beq_false_of_ne hst.1.2.1
              have q3 : Z.isEmpty = false := by
                cases hq : Z with
                | nil => exact absurd hq hst.1.1
                | cons a b => rfl
              rw [q1, q2, q3] at hd
              obtain ⟨hd1, hd2, hd3⟩ := hd
              rw [hz] at hd1 hd2 hd3 ⊢
              clear h47 hst q1 q2 q3 hz
              go_wp2
              go_roundw
              case rel => exact ⟨i + 1, [], by go_num, rfl, by omega, by omega, by simp, hid' HST.out.2, hid' (by trivial)⟩
              case measure => simp [intOf]; omega
          · have hlt2 : ¬ (i : Int) < (y.size : Int) := by omega
            rw [List.drop_eq_nil_of_le (by rw [← HYL.out, ← Lib.size_eq]; omega), Pt.cutS] at HSi
            have hst : Z ≠ Pt.dot ∧ Z ≠ Pt.dots := HSi.out
            obtain ⟨z, hz⟩ : ∃ z : ByteArray, (⟨Z.toArray⟩ : ByteArray) = z := ⟨_, rfl⟩
            have hd := dots_at17 ⟨Z.toArray⟩ Z rfl
            rw [show (Z == Pt.dots) = false from beq_false_of_ne hst.2, show (Z == Pt.dot) = false from beq_false_of_ne hst.1] at hd
            obtain ⟨d1, d2, _⟩ := hd
            rw [hz] at d1 d2 ⊢
            clear hlt hst hz
            go_wp2_with fail
            refine (HAW.out _ HT1.out).mono ?_
            rintro e w2 ⟨rfl, hb2⟩
            have HB2 := hid' (below_two HB1.out hb2)
            clear hb2
            go_wp2
            go_ret
            exact ⟨rfl, HB2.out⟩

end Go.Proofs.YtjgdmooedeilhaaDoor
