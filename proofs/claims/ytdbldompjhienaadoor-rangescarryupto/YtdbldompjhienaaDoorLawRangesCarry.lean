/-
  The bytes of the ranges stand in a body of parts, in order; the line stands nowhere in the body.
-/
import Derived.Test.YtdbldompjhienaaDoorRhK
import Derived.Test.YtdbldompjhienaaDoorRgQ
namespace Go.Proofs.YtdbldompjhienaaDoor
open Go.RowKit

namespace Rg
def abK : T8 := [97, 47, 98]
theorem parts_at {b k ln : T8} {rs : List Rn} {i : Nat} {r : Rn} (h : rs[i]? = some r) :
    ((parts b k ln rs).drop ((rs.take i).flatMap (part b k ln)).length).take (part b k ln r).length = part b k ln r ∧ ((rs.take i).flatMap (part b k ln)).length + (part b k ln r).length ≤ (parts b k ln rs).length := by
  have e : parts b k ln rs = (rs.take i).flatMap (part b k ln) ++ (part b k ln r ++ ((rs.drop (i + 1)).flatMap (part b k ln) ++ fin ln)) := by
    obtain ⟨h1, h2⟩ := List.getElem?_eq_some_iff.1 h
    have e0 : rs = rs.take i ++ r :: rs.drop (i + 1) := by
      rw [← h2, List.getElem_cons_drop, List.take_append_drop]
    unfold parts
    conv => lhs; rw [e0]
    rw [List.flatMap_append, List.flatMap_cons]
    simp
  rw [e, List.drop_left, List.take_left]
  exact ⟨rfl, by rw [List.length_append, List.length_append]; omega⟩
theorem parts_end {b k ln : T8} {rs : List Rn} : (parts b k ln rs).drop (rs.flatMap (part b k ln)).length = fin ln ∧ (rs.flatMap (part b k ln)).length ≤ (parts b k ln rs).length := by
  unfold parts
  rw [List.drop_left]
  exact ⟨rfl, by rw [List.length_append]; omega⟩
end Rg
theorem want_cat16 (L U V : List UInt8) : ((((((⟨#[45, 45]⟩ : ByteArray) ++ ⟨L.toArray⟩) ++ ⟨#[13, 10, 67, 111, 110, 116, 101, 110, 116, 45, 84, 121, 112, 101, 58, 32, 97, 47, 98, 13, 10, 67, 111, 110, 116, 101, 110, 116, 45, 82, 97, 110, 103, 101, 58, 32]⟩) ++ ⟨U.toArray⟩) ++ ⟨#[13, 10, 13, 10]⟩) ++ ⟨V.toArray⟩) ++ ⟨#[13, 10]⟩ = ⟨((Rg.dd ++ (L ++ (Rg.crlf ++ (Rg.sType ++ (Rg.abK ++ (Rg.crlf ++ (Rg.sRange ++ (U ++ (Rg.crlf ++ Rg.crlf))))))))) ++ (V ++ Rg.crlf)).toArray⟩ := by
  apply ByteArray.ext; simp [Rg.dd, Rg.crlf, Rg.sType, Rg.sRange, Rg.abK]
theorem fin2_cat16 (L : List UInt8) : ((⟨#[45, 45]⟩ : ByteArray) ++ ⟨L.toArray⟩) ++ ⟨#[45, 45, 13, 10]⟩ = ⟨(Rg.fin L).toArray⟩ := by
  apply ByteArray.ext; simp [Rg.fin, Rg.dd, Rg.crlf]

set_option maxHeartbeats 8000000 in
set_option maxRecDepth 20000 in
theorem rangesCarry_any (x : ByteArray) (ao : Option Addr) (cap : Nat) (rs : List Rg.Rn) (w : World) (hr : RW16 w ao rs) (hT : TB16 w) (hx : x.size ≤ 1048576) (hnb : rs.length ≤ 1048576) :
    Calls Tryd.prog 7 #[.string x, .slice ao rs.length cap] w fun e w' => e = .returned (.bool true) ∧ Below w.heap.size w w' := by
  have HT := hid' hT
  have HAW := hid' (fun W (h : TB16 W) => awake16 W h)
  obtain ⟨q, hq⟩ := Rg.free_ex x.data.toList
  have hqx : q ≤ 1048576 := by have := hq.2.2; rw [← Lib.size_eq] at this; omega
  have HLC := hid' (cline16 x q hq w hx hT)
  have HST := hid' (fun W => rstands16 ⟨(Rg.line q).toArray⟩ x false hq.1 W (by rw [size_l16]; have := Rg.line_len q (by omega); omega) (by omega))
  have hll : (Rg.line q).length ≤ 25 := Rg.line_len q (by omega)
  generalize Rg.line q = L at HLC HST hll
  obtain ⟨X, hX⟩ : ∃ X, x.data.toList = X := ⟨_, rfl⟩
  have HXX := hid' hX
  have HXS : Hid (X.length = x.size) := hid' (by rw [← hX, ← Lib.size_eq])
  obtain ⟨n, hn⟩ : ∃ n, rs.length = n := ⟨_, rfl⟩
  rw [hn] at hnb ⊢
  have HN := hid' hn
  have HR := hid' hr
  have HPC := hid' (fun W (h : RW16 W ao rs) (ht : TB16 W) => cparts16 x ⟨#[97, 47, 98]⟩ ⟨L.toArray⟩ ao n cap rs HN.out hnb W h hx (by decide) (by rw [size_l16]; omega) ht)
  rw [show (⟨#[97, 47, 98]⟩ : ByteArray).data.toList = Rg.abK from rfl, show (⟨L.toArray⟩ : ByteArray).data.toList = L from rfl, hX] at HPC
  clear hT hq hX hn hr
  cases hok : Rg.okP X rs
  · have e1 : Rg.partsS X Rg.abK L rs = [] := by unfold Rg.partsS; rw [hok]; rfl
    have e2 : Rg.partsE X rs = 1 := by unfold Rg.partsE; rw [hok]; rfl
    rw [e1, e2] at HPC
    clear e1 e2 hok
    go_enter Tryd.func7, Tryd.ntmps7
    go_wp2_with fail
    refine HLC.out.mono ?_
    rintro e w1 ⟨rfl, hb1⟩
    have HB1 := hid' hb1
    have HR1 := hid' (HR.out.below hb1)
    have HT1 := hid' (HT.out.keep hb1)
    clear hb1
    go_wp2_with fail
    refine (HST.out _).mono ?_
    rintro e w2 ⟨rfl, hw⟩
    subst w2
    go_wp2_with fail
    refine (HPC.out _ HR1.out HT1.out).mono ?_
    rintro e w2 ⟨rfl, hb2⟩
    have HB2 := hid' (below_two HB1.out hb2)
    have HT2 := hid' (HT.out.keep HB2.out)
    clear hb2
    go_wp2_with fail
    refine (HAW.out _ HT2.out).mono ?_
    rintro e w3 ⟨rfl, hb3⟩
    have HB3 := hid' (below_two HB2.out hb3)
    clear hb3
    go_wp2
    go_ret
    exact ⟨rfl, HB3.out⟩
  have e1 : Rg.partsS X Rg.abK L rs = Rg.parts X Rg.abK L rs := by unfold Rg.partsS; rw [hok]; rfl
  have e2 : Rg.partsE X rs = 0 := by unfold Rg.partsE; rw [hok]; rfl
  rw [e1, e2] at HPC
  have HAL : Hid (rs.all (fun r => Rg.wth r X.length) = true) := hid' (by unfold Rg.okP at hok; rw [Bool.and_eq_true] at hok; exact hok.2)
  have HPA := hid' (fun (i : Nat) (r : Rg.Rn) (h : rs[i]? = some r) => Rg.parts_at (b := X) (k := Rg.abK) (ln := L) h)
  have HPE := hid' (Rg.parts_end (b := X) (k := Rg.abK) (ln := L) (rs := rs))
  have hPL : (Rg.parts X Rg.abK L rs).length ≤ 1048576 * 3146228 + 1000 := by
    have h2 := Rg.flat_len (k := Rg.abK) (ln := L) HAL.out (by rw [HXS.out]; exact hx)
    have h3 : rs.length ≤ 1048576 := by rw [HN.out]; exact hnb
    have h4 : X.length + Rg.abK.length + L.length + 200 ≤ 3146228 := by rw [HXS.out, show Rg.abK.length = 3 from rfl]; omega
    have h5 := Nat.le_trans h2 (Nat.mul_le_mul h3 h4)
    unfold Rg.parts Rg.fin
    simp only [List.length_append, Rg.dd, Rg.crlf, List.length_cons, List.length_nil]
    omega
  generalize Rg.parts X Rg.abK L rs = P at HPC HPA HPE hPL
  obtain ⟨y, hy⟩ : ∃ y : ByteArray, (⟨P.toArray⟩ : ByteArray) = y := ⟨_, rfl⟩
  have HYL : Hid (y.data.toList = P) := hid' (by rw [← hy])
  have HYS : Hid (y.size = P.length) := hid' (by rw [← hy, size_l16])
  have hys : y.size ≤ 1048576 * 3146228 + 1000 := by rw [HYS.out]; exact hPL
  rw [hy] at HPC
  clear e1 e2 hok hy hPL
  go_enter Tryd.func7, Tryd.ntmps7
  go_wp2_with fail
  refine HLC.out.mono ?_
  rintro e w1 ⟨rfl, hb1⟩
  have HB1 := hid' hb1
  have HR1 := hid' (HR.out.below hb1)
  have HT1 := hid' (HT.out.keep hb1)
  clear hb1
  go_wp2_with fail
  refine (HST.out _).mono ?_
  rintro e w2 ⟨rfl, hw⟩
  subst w2
  go_wp2_with fail
  refine (HPC.out _ HR1.out HT1.out).mono ?_
  rintro e w2 ⟨rfl, hb2⟩
  have HB2 := hid' (below_two HB1.out hb2)
  clear hb2 HLC HPC
  go_wp2
  go_loopw [8, 9] (fun s8 s9 wr => ∃ (i a : Nat), s9 = .int .i64 (i : Int) ∧ s8 = .int .i64 (a : Int) ∧ i ≤ n ∧ a ≤ y.size ∧ Hid (((rs.take i).flatMap (Rg.part X Rg.abK L)).length = a) ∧ Hid (Below w.heap.size w wr)) (fun _ s9 _ => n - (intOf s9).toNat)
  case atStart => exact ⟨0, 0, rfl, rfl, Nat.zero_le _, Nat.zero_le _, hid' rfl, HB2⟩
  case round =>
    obtain ⟨i, a, rfl, rfl, hi, hay, HA, HB⟩ := hrel
    by_cases hlt : i < n
    · have hlt2 : (i : Int) < (n : Int) := by omega
      obtain ⟨r, hr⟩ : ∃ r, rs[i]? = some r := ⟨_, List.getElem?_eq_getElem (by rw [HN.out]; exact hlt)⟩
      obtain ⟨ad, rfl, _, y0, y1⟩ := (HR.out.below HB.out) i r hr
      have HWR : Hid (Rg.wth r X.length = true) := hid' (List.all_eq_true.1 HAL.out r (List.mem_of_getElem? hr))
      have HFT := hid' (Rg.flat_take (b := X) (k := Rg.abK) (ln := L) hr)
      have HAT := hid' (HPA.out i r hr)
      rw [HA.out] at HAT
      obtain ⟨A, C, rfl, hAC, hCX⟩ := Rg.wth_nat HWR.out
      rw [HXS.out] at hCX
      have HTL := hid' (Rg.told_len HWR.out (by rw [HXS.out]; exact hx))
      have HTO := hid' (fun W (h : TB16 W) => ctold16 ⟨(A : Int), (C : Int)⟩ (x.size : Int) W (by simp only; omega) (by simp only; omega) (by simp only; omega) (by simp only; omega) (by omega) (by omega) h)
      have HPT : Hid (Rg.part X Rg.abK L ⟨(A : Int), (C : Int)⟩ = Rg.hd Rg.abK L ⟨(A : Int), (C : Int)⟩ (x.size : Int) ++ (Rg.cutR X ⟨(A : Int), (C : Int)⟩ ++ Rg.crlf)) := hid' (by unfold Rg.part; rw [HXS.out])
      rw [HXS.out] at HTL
      simp only at HTO
      obtain ⟨U, hU⟩ : ∃ U, Rg.told ⟨(A : Int), (C : Int)⟩ (x.size : Int) = U := ⟨_, rfl⟩
      rw [hU] at HTO HTL
      have hUL : U.length ≤ 71 := HTL.out
      obtain ⟨V, hV⟩ : ∃ V, Rg.cutR X ⟨(A : Int), (C : Int)⟩ = V := ⟨_, rfl⟩
      have hve : x.extract A (C + 1) = ⟨V.toArray⟩ := by
        rw [← hV, ext_td16, HXX.out]
        unfold Rg.cutR
        simp only [Int.toNat_natCast]
        rw [show ((C : Int) + 1).toNat = C + 1 by omega]
      have hVL : V.length ≤ 1048576 := by
        have := Rg.cutR_len X ⟨(A : Int), (C : Int)⟩
        rw [hV, HXS.out] at this
        omega
      have hWC := want_cat16 L U V
      have HPW : Hid (Rg.part X Rg.abK L ⟨(A : Int), (C : Int)⟩ = (Rg.dd ++ (L ++ (Rg.crlf ++ (Rg.sType ++ (Rg.abK ++ (Rg.crlf ++ (Rg.sRange ++ (U ++ (Rg.crlf ++ Rg.crlf))))))))) ++ (V ++ Rg.crlf)) := hid' (by rw [HPT.out, hV]; unfold Rg.hd; rw [hU])
      rw [← HPW.out] at hWC
      obtain ⟨D, hD⟩ : ∃ D, Rg.part X Rg.abK L ⟨(A : Int), (C : Int)⟩ = D := ⟨_, rfl⟩
      rw [hD] at hWC HAT HFT
      obtain ⟨z, hz⟩ : ∃ z : ByteArray, (⟨D.toArray⟩ : ByteArray) = z := ⟨_, rfl⟩
      rw [hz] at hWC
      have HZS : Hid (z.size = D.length) := hid' (by rw [← hz, size_l16])
      have HWC := hid' hWC
      have hsl : y.extract a (a + z.size) = z := by
        rw [ext_td16, HYL.out, show a + z.size - a = D.length by rw [HZS.out]; omega, HAT.out.1]
        exact hz
      have hazy : a + z.size ≤ y.size := by rw [HYS.out, HZS.out]; exact HAT.out.2
      have HNX : Hid (((rs.take (i + 1)).flatMap (Rg.part X Rg.abK L)).length = a + z.size) := hid' (by rw [HFT.out, List.length_append, HA.out, HZS.out])
      have HLa : Hid (Ar (wr.alloc (.cells #[.int .i64 (A : Int), .int .i64 (C : Int)] 23)) wr.heap.size 23 #[.int .i64 (A : Int), .int .i64 (C : Int)]) := hid' (heap_alloc_last wr _)
      have HBa := hid' (below_two HB.out (bl_alloc wr (.cells #[.int .i64 (A : Int), .int .i64 (C : Int)] 23)))
      simp only at y0 y1
      have k1 : ¬ 9223372036854775807 < 2 + L.length := by omega
      have k2 : ¬ 9223372036854775807 < 2 + L.length + 36 := by omega
      have k3 : ¬ 9223372036854775807 < 2 + L.length + 36 + U.length := by omega
      have k4 : ¬ 9223372036854775807 < 2 + L.length + 36 + U.length + 4 := by omega
      have k5 : ¬ 9223372036854775807 < 2 + L.length + 36 + U.length + 4 + V.length := by omega
      have k6 : ¬ 9223372036854775807 < 2 + L.length + 36 + U.length + 4 + V.length + 2 := by omega
      have q1 : (A : Int) ≤ (C : Int) + 1 := by omega
      have q2 : (C : Int) + 1 ≤ (x.size : Int) := by omega
      clear hr hU hV hD hz hWC
      go_upto_region 12 with fail
      obtain ⟨fb, hfb⟩ : ∃ fb, wr.heap.size = fb := ⟨_, rfl⟩
      rw [hfb] at HLa ⊢
      generalize wr.alloc (.cells #[.int .i64 (A : Int), .int .i64 (C : Int)] 23) = w3 at *
      have p0 := HLa.out.cell 0 _ rfl
      have p1 := HLa.out.cell 1 _ rfl
      have HT3 := hid' (HT.out.keep HBa.out)
      clear hfb y0 y1
      go_wp2_with fail
      refine (HTO.out _ HT3.out).mono ?_
      rintro e w4 ⟨rfl, hb4⟩
      have HB4 := hid' (below_two HBa.out hb4)
      have HL4 := hid' (HLa.out.keep hb4)
      clear hb4 p0 p1
      have p0 := HL4.out.cell 0 _ rfl
      have p1 := HL4.out.cell 1 _ rfl
      go_upto_region 14 with fail
      rw [HWC.out]
      clear k1 k2 k3 k4 k5 k6 q1 q2 p0 p1 hve
      have t1 : ¬ (y.size : Int) - (a : Int) < (z.size : Int) := by omega
      have t2 : (a : Int) + (z.size : Int) ≤ (y.size : Int) := by omega
      have t3 : (a : Int) ≤ (a : Int) + (z.size : Int) := by omega
      have hne : (z.toList != z.toList) = false := by unfold bne; rw [beq_self_eq_true]; rfl
      go_wp2
      go_roundw
      case rel => exact ⟨i + 1, a + z.size, by go_num, by go_num, by omega, hazy, HNX, HB4⟩
      case measure => simp [intOf]; omega
    · have hlt2 : ¬ (i : Int) < (n : Int) := by omega
      have HTk : Hid (rs.take i = rs) := hid' (List.take_of_length_le (by rw [HN.out]; omega))
      rw [HTk.out] at HA
      have hpe := HPE.out
      rw [HA.out] at hpe
      have hfin : y.extract a y.size = ⟨(Rg.fin L).toArray⟩ := by
        rw [ext_td16, HYL.out, List.take_of_length_le (by rw [List.length_drop, HYS.out]; exact Nat.le_refl _), hpe.1]
      rw [← fin2_cat16] at hfin
      have k1 : ¬ 9223372036854775807 < 2 + L.length := by omega
      have k2 : ¬ 9223372036854775807 < 2 + L.length + 4 := by omega
      have t1 : (a : Int) ≤ (y.size : Int) := by omega
      have HT2 := hid' (HT.out.keep HB.out)
      clear hlt hpe
      go_wp2_with fail
      refine (HAW.out _ HT2.out).mono ?_
      rintro e w5 ⟨rfl, hb5⟩
      have HB5 := hid' (below_two HB.out hb5)
      clear hb5
      go_wp2
      go_ret
      exact ⟨rfl, HB5.out⟩

end Go.Proofs.YtdbldompjhienaaDoor
