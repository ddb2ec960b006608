/-
  A clean path is its parts, joined again.
-/
import Derived.Test.YtjgdmooedeilhaaDoorPtY
namespace Go.Proofs.YtjgdmooedeilhaaDoor
open Go.RowKit

namespace Pt
theorem flat_take17 {k : List T8} {i : Nat} {p : T8} (h : k[i]? = some p) : (k.take (i + 1)).flatMap (fun x => 47 :: x) = (k.take i).flatMap (fun x => 47 :: x) ++ 47 :: p := by
  rw [List.take_add_one, h]; simp
theorem parts_sum (l : T8) : ((parts l).map List.length).sum + (parts l).length ≤ l.length + 1 := by
  have h := cutS_sum l
  have key : ∀ (ps : List T8), ((ps.filter (fun p => !p.isEmpty)).map List.length).sum + (ps.filter (fun p => !p.isEmpty)).length ≤ (ps.map List.length).sum + ps.length := by
    intro ps
    induction ps with
    | nil => simp
    | cons p r ih =>
      rw [List.filter_cons]
      split
      · simp only [List.map_cons, List.sum_cons, List.length_cons]; omega
      · simp only [List.map_cons, List.sum_cons, List.length_cons]; omega
  have := key (cutS [] l)
  unfold parts
  omega
theorem flat_len17 (k : List T8) : (k.flatMap (fun x => 47 :: x)).length = (k.map List.length).sum + k.length := by
  induction k with
  | nil => rfl
  | cons p r ih => rw [List.flatMap_cons, List.length_append, ih]; simp; omega
end Pt

set_option maxHeartbeats 8000000 in
set_option maxRecDepth 20000 in
theorem pathJoins_any (s : ByteArray) (w : World) (hT : CT17 w) (hs : s.size ≤ 1048576) :
    Calls Tryd.prog 7 #[.string s] w fun e w' => e = .returned (.bool true) ∧ Below w.heap.size w w' := by
  have HT := hid' hT
  have HAW := hid' (fun W (h : CT17 W) => awake17 W h)
  obtain ⟨l, hl⟩ : ∃ l, s.data.toList = l := ⟨_, rfl⟩
  have HCC := hid' (cclean17 s l hl w (by omega) hT)
  have hlen : l.length ≤ 1048576 := by rw [← hl, ← Lib.size_eq]; exact hs
  have h1 := Pt.core_len (Pt.pre l)
  have h2 := Pt.pre_le l
  simp only [clV17, Pt.clean] at HCC
  generalize (if (Pt.core (Pt.pre l)).2 == 0 then Pt.qry l else []) = Qy at HCC
  obtain ⟨cr, hcr⟩ : ∃ cr, Pt.core (Pt.pre l) = cr := ⟨_, rfl⟩
  have HJ : Hid (∀ P, cr = (P, 0) → (Pt.parts P = [] → P = [47]) ∧ (Pt.parts P ≠ [] → P = (Pt.parts P).flatMap (fun x => 47 :: x) ∨ P = (Pt.parts P).flatMap (fun x => 47 :: x) ++ [47])) := hid' (fun P h => Pt.joins (hcr.trans h))
  rw [hcr] at HCC h1
  obtain ⟨P, er⟩ := cr
  simp only at HCC h1
  have hPL : P.length ≤ 1048579 := by omega
  clear hT hl hcr h1 h2 hlen
  cases h0 : (er == 0)
  · have n0 : (er != 0) = true := by unfold bne; rw [h0]; rfl
    go_enter Tryd.func7, Tryd.ntmps7
    go_wp2_with fail
    refine HCC.out.mono ?_
    rintro e w1 ⟨rfl, hb1⟩
    have HB1 := hid' hb1
    have HT1 := hid' (HT.out.keep hb1)
    clear hb1
    go_wp2_with fail
    refine (HAW.out _ HT1.out).mono ?_
    rintro e w2 ⟨rfl, hb2⟩
    have HB2 := hid' (below_two HB1.out hb2)
    clear hb2
    go_wp2
    go_ret
    exact ⟨rfl, HB2.out⟩
  obtain rfl : er = 0 := eq_of_beq h0
  have HJ2 := hid' (HJ.out P rfl)
  have HPA := hid' (fun W (h : CT17 W) => cparts17 ⟨P.toArray⟩ P rfl W (by rw [size_l']; omega) h)
  have hsum := Pt.parts_sum P
  obtain ⟨K, hK⟩ : ∃ K, Pt.parts P = K := ⟨_, rfl⟩
  rw [hK] at HPA HJ2 hsum
  have HFL : Hid (∀ i, ((K.take i).flatMap (fun x => 47 :: x)).length ≤ 1048580) := hid' (fun i => by
    rw [Pt.flat_len17]
    have h3 : ((K.take i).map List.length).sum ≤ (K.map List.length).sum := by
      conv => rhs; rw [← List.take_append_drop i K, List.map_append, List.sum_append]
      omega
    have h4 : (K.take i).length ≤ K.length := by rw [List.length_take]; omega
    omega)
  have HKP : Hid (∀ p ∈ K, p.length ≤ 1048580) := hid' (fun p hp => by
    have := List.single_le_sum17 (List.mem_map_of_mem (f := List.length) hp)
    omega)
  have hKL : K.length ≤ 1048580 := by omega
  obtain ⟨y, hy⟩ : ∃ y : ByteArray, (⟨P.toArray⟩ : ByteArray) = y := ⟨_, rfl⟩
  have HYE := hid' hy
  rw [hy] at HCC HPA
  clear h0 hK hy hsum
  go_enter Tryd.func7, Tryd.ntmps7
  go_wp2_with fail
  refine HCC.out.mono ?_
  rintro e w1 ⟨rfl, hb1⟩
  have HB1 := hid' hb1
  have HT1 := hid' (HT.out.keep hb1)
  clear hb1
  go_wp2_with fail
  refine (HPA.out _ HT1.out).mono ?_
  rintro e w2 ⟨⟨m, ro, rc, rfl, hm, hown⟩, hb2⟩
  have HB2 := hid' (below_two HB1.out hb2)
  have HT2 := hid' (HT.out.keep HB2.out)
  have HSR := hid' (SR17.own hown)
  have HM := hid' hm
  have hmb : m ≤ 1048580 := by rw [← hm]; exact hKL
  clear hb2 hm hown
  go_wp2
  go_loopw [7, 8] (fun s7 s8 wr => ∃ (i : Nat) (Z : List UInt8), s8 = .int .i64 (i : Int) ∧ s7 = .string ⟨Z.toArray⟩ ∧ i ≤ m ∧ Hid ((K.take i).flatMap (fun x => 47 :: x) = Z) ∧ Hid (wr = w2)) (fun _ s8 _ => m - (intOf s8).toNat)
  case atStart => exact ⟨0, [], rfl, rfl, Nat.zero_le _, hid' rfl, hid' rfl⟩
  case round =>
    obtain ⟨i, Z, rfl, rfl, hi, HZ, HWi⟩ := hrel
    obtain rfl := HWi.out
    have hZb : Z.length ≤ 1048580 := by rw [← HZ.out]; exact HFL.out i
    by_cases hlt : i < m
    · have hlt2 : (i : Int) < (m : Int) := by omega
      obtain ⟨p, hp⟩ : ∃ p, K[i]? = some p := ⟨_, List.getElem?_eq_getElem (by rw [HM.out]; exact hlt)⟩
      obtain ⟨g, rfl, _, y0⟩ := HSR.out i p hp
      have hpb : p.length ≤ 1048580 := HKP.out p (List.mem_of_getElem? hp)
      have HFT := hid' (Pt.flat_take17 hp)
      rw [HZ.out] at HFT
      have k1 : ¬ 9223372036854775807 < Z.length + 1 := by omega
      have k2 : ¬ 9223372036854775807 < Z.length + 1 + p.length := by omega
      clear hp
      go_wp2
      go_roundw
      case rel => exact ⟨i + 1, Z ++ 47 :: p, by go_num, by first | rfl | (congr 1; apply ByteArray.ext; simp), by omega, HFT, hid' (by trivial)⟩
      case measure => simp [intOf]; omega
    · have hlt2 : ¬ (i : Int) < (m : Int) := by omega
      rw [List.take_of_length_le (by rw [HM.out]; omega)] at HZ
      rw [HZ.out] at HJ2
      clear hlt
      by_cases hm0 : m = 0
      · have hmB : ((m : Int) == 0) = true := by rw [beq_iff_eq]; omega
        have hP : P = [47] := HJ2.out.1 (List.eq_nil_of_length_eq_zero (HM.out.trans hm0))
        have hyE : (y.toList == [47]) = true := by rw [Lib.toList_data, ← HYE.out, hP]; rfl
        clear hm0 hP
        go_wp2_with fail
        refine (HAW.out _ HT2.out).mono ?_
        rintro e w3 ⟨rfl, hb3⟩
        have HB3 := hid' (below_two HB2.out hb3)
        clear hb3
        go_wp2
        go_ret
        exact ⟨rfl, HB3.out⟩
      · have hmB : ((m : Int) == 0) = false := by rw [beq_eq_false_iff_ne]; omega
        have hKne : K ≠ [] := fun e => hm0 (by rw [← HM.out, e]; rfl)
        have hcase := HJ2.out.2 hKne
        have k1 : ¬ 9223372036854775807 < Z.length + 1 := by omega
        clear hm0 hKne
        obtain ⟨z, hz⟩ : ∃ z : ByteArray, (⟨Z.toArray⟩ : ByteArray) = z := ⟨_, rfl⟩
        rcases hcase with hc | hc
        · have hyz : y = z := by rw [← HYE.out, hc, hz]
          rw [hz, hyz]
          clear hyz hc hz
          go_wp2_with fail
          refine (HAW.out _ HT2.out).mono ?_
          rintro e w3 ⟨rfl, hb3⟩
          have HB3 := hid' (below_two HB2.out hb3)
          clear hb3
          go_wp2
          go_ret
          exact ⟨rfl, HB3.out⟩
        · have hyz : z ++ ⟨#[47]⟩ = y := by rw [← HYE.out, hc, ← hz]; apply ByteArray.ext; simp
          have hne : (y.toList == z.toList) = false := by
            rw [Lib.toList_data, Lib.toList_data, ← HYE.out, ← hz, hc]
            rw [beq_eq_false_iff_ne]
            intro e
            have := congrArg List.length e
            simp at this
          have HZZ : Hid (z.size = Z.length) := hid' (by rw [← hz, size_l'])
          have k2 : ¬ 9223372036854775807 < z.size + 1 := by rw [HZZ.out]; exact k1
          rw [hz]
          clear hc hz k1
          go_wp2_with fail
          refine (HAW.out _ HT2.out).mono ?_
          rintro e w3 ⟨rfl, hb3⟩
          have HB3 := hid' (below_two HB2.out hb3)
          clear hb3
          go_wp2
          go_ret
          exact ⟨rfl, HB3.out⟩

end Go.Proofs.YtjgdmooedeilhaaDoor
