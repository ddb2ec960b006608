/-
  The code's Parts: by its contract.
-/
import Derived.Test.YtdbldompjhienaaDoorRhI
import Derived.Test.YtdbldompjhienaaDoorRhEG
import Derived.Test.YtdbldompjhienaaDoorRhH
import Derived.Test.YtdbldompjhienaaDoorRgE
import Derived.Test.YtdbldompjhienaaDoorRgPl
namespace Go.Proofs.YtdbldompjhienaaDoor
open Go.RowKit

theorem zeroBd16 : (Tryd.prog.info? 58).map (fun i => i.zero) = some (some (.agg #[.pointer none, .slice none 0 0])) := by kernel_rfl

set_option maxHeartbeats 8000000 in
set_option maxRecDepth 20000 in
theorem cparts16 (x kd ln : ByteArray) (ao : Option Addr) (n cap : Nat) (rs : List Rg.Rn) (hn : rs.length = n) (hnb : n ≤ 1048576) (w : World) (hrs : RW16 w ao rs) (hx : x.size ≤ 1048576) (hk : kd.size ≤ 1048576) (hl : ln.size ≤ 1048576) (hT : TB16 w) :
    Calls Tryd.prog 18 #[.string x, .string kd, .string ln, .slice ao n cap] w fun e w' => e = .returned (.tuple #[.string ⟨(Rg.partsS x.data.toList kd.data.toList ln.data.toList rs).toArray⟩, .int .i64 (Rg.partsE x.data.toList rs)]) ∧ Below w.heap.size w w' := by
  obtain ⟨X, hX⟩ : ∃ X, x.data.toList = X := ⟨_, rfl⟩
  obtain ⟨K, hK⟩ : ∃ K, kd.data.toList = K := ⟨_, rfl⟩
  obtain ⟨L, hL⟩ : ∃ L, ln.data.toList = L := ⟨_, rfl⟩
  rw [hX, hK, hL]
  have HXS : Hid (X.length = x.size) := hid' (by rw [← hX, ← Lib.size_eq])
  have HKS : Hid (K.length = kd.size) := hid' (by rw [← hK, ← Lib.size_eq])
  have HLS : Hid (L.length = ln.size) := hid' (by rw [← hL, ← Lib.size_eq])
  have HXX := hid' hX
  have HKE : Hid (kd = ⟨K.toArray⟩) := hid' (by rw [← hK])
  have HLE : Hid (ln = ⟨L.toArray⟩) := hid' (by rw [← hL])
  have HRS := hid' hrs
  have HN := hid' hn
  have HT := hid' hT
  clear hX hK hL hrs hn hT
  by_cases hn0 : n = 0
  · have hnB : ((n : Int) == 0) = true := by rw [beq_iff_eq]; omega
    have HOK : Hid (Rg.okP X rs = false) := hid' (by
      have : rs = [] := List.eq_nil_of_length_eq_zero (HN.out.trans hn0)
      rw [this]; rfl)
    have HS : Hid (Rg.partsS X K L rs = []) := hid' (by unfold Rg.partsS; rw [HOK.out]; rfl)
    have HE : Hid (Rg.partsE X rs = 1) := hid' (by unfold Rg.partsE; rw [HOK.out]; rfl)
    clear hn0
    go_enter Tryd.func18, Tryd.ntmps18
    go_wp2
    go_ret2
    exact ⟨by rw [HS.out, HE.out]; rfl, Below.refl _ _⟩
  have hnB : ((n : Int) == 0) = false := by rw [beq_eq_false_iff_ne]; omega
  have HNE : Hid (rs.isEmpty = false) := hid' (by
    cases hq : rs with
    | nil => exact absurd (HN.out.symm.trans (by rw [hq]; rfl)) hn0
    | cons a b => rfl)
  clear hn0
  go_enter Tryd.func18, Tryd.ntmps18
  go_wp2
  go_loopw [20] (fun s20 wr => ∃ i : Nat, s20 = .int .i64 (i : Int) ∧ i ≤ n ∧ Hid ((rs.take i).all (fun r => Rg.wth r X.length) = true) ∧ Hid (Below w.heap.size w wr)) (fun s20 _ => n - (intOf s20).toNat)
  case atStart => exact ⟨0, rfl, Nat.zero_le _, hid' rfl, hid' (Below.refl _ _)⟩
  case round =>
    obtain ⟨i, rfl, hi, HAL, HB⟩ := hrel
    by_cases hlt : i < n
    · have hlt2 : (i : Int) < (n : Int) := by omega
      obtain ⟨r, hr⟩ : ∃ r, rs[i]? = some r := ⟨_, List.getElem?_eq_getElem (by rw [HN.out]; exact hlt)⟩
      obtain ⟨a, rfl, _, y0, y1⟩ := (HRS.out.below HB.out) i r hr
      have HMEM := hid' (List.mem_of_getElem? hr)
      have HAT := hid' (Rg.all_take2 (fun r => Rg.wth r X.length) hr)
      have HWT := hid' (fun W => cwth16 r (x.size : Int) W)
      have HWX : Hid (Rg.wth r (X.length : Int) = Rg.wth r (x.size : Int)) := hid' (by rw [HXS.out])
      obtain ⟨ra, rb⟩ := r
      simp only at y0 y1 HWT
      have HBa := hid' (below_two HB.out (bl_alloc wr (.cells #[.int .i64 ra, .int .i64 rb] 23)))
      have HLa : Hid (Ar (wr.alloc (.cells #[.int .i64 ra, .int .i64 rb] 23)) wr.heap.size 23 #[.int .i64 ra, .int .i64 rb]) := hid' (heap_alloc_last wr _)
      clear hr
      go_upto_region 6 with fail
      obtain ⟨fb, hfb⟩ : ∃ fb, wr.heap.size = fb := ⟨_, rfl⟩
      rw [hfb] at HLa ⊢
      generalize wr.alloc (.cells #[.int .i64 ra, .int .i64 rb] 23) = w2 at *
      have p0 := HLa.out.cell 0 _ rfl
      have p1 := HLa.out.cell 1 _ rfl
      clear hfb y0 y1
      go_wp2_with fail
      refine (HWT.out _).mono ?_
      rintro e w3 ⟨rfl, hb3⟩
      have HB3 := hid' (below_two HBa.out hb3)
      clear hb3 p0 p1 HLa
      cases hq : Rg.wth ⟨ra, rb⟩ (x.size : Int)
      · have HOK : Hid (Rg.okP X rs = false) := hid' (Rg.okP_bad HMEM.out (by rw [HWX.out]; exact hq))
        have HS : Hid (Rg.partsS X K L rs = []) := hid' (by unfold Rg.partsS; rw [HOK.out]; rfl)
        have HE : Hid (Rg.partsE X rs = 1) := hid' (by unfold Rg.partsE; rw [HOK.out]; rfl)
        go_wp2
        go_ret2
        exact ⟨by rw [HS.out, HE.out]; rfl, HB3.out⟩
      · have HAL2 : Hid ((rs.take (i + 1)).all (fun r => Rg.wth r X.length) = true) := hid' (by rw [HAT.out, HAL.out, HWX.out, hq]; rfl)
        go_wp2
        go_roundw
        case rel => exact ⟨i + 1, by go_num, by omega, HAL2, HB3⟩
        case measure => simp [intOf]; omega
    · have hlt2 : ¬ (i : Int) < (n : Int) := by omega
      have HTk : Hid (rs.take i = rs) := hid' (List.take_of_length_le (by rw [HN.out]; omega))
      rw [HTk.out] at HAL
      have HOK : Hid (Rg.okP X rs = true) := hid' (by unfold Rg.okP; rw [HNE.out, HAL.out]; rfl)
      have HS : Hid (Rg.partsS X K L rs = Rg.parts X K L rs) := hid' (by unfold Rg.partsS; rw [HOK.out]; rfl)
      have HE : Hid (Rg.partsE X rs = 0) := hid' (by unfold Rg.partsE; rw [HOK.out]; rfl)
      have HMX : Hid (∀ j, ((rs.take j).flatMap (Rg.part X K L)).length ≤ 1048576 * 3146228) := hid' (fun j => by
        have h1 : (rs.take j).all (fun r => Rg.wth r X.length) = true := by
          rw [List.all_eq_true]
          intro r hr
          exact List.all_eq_true.1 HAL.out r (List.mem_of_mem_take hr)
        have h2 := Rg.flat_len (k := K) (ln := L) h1 (by rw [HXS.out]; exact hx)
        have h3 : (rs.take j).length ≤ 1048576 := by rw [List.length_take, HN.out]; omega
        have h4 : X.length + K.length + L.length + 200 ≤ 3146228 := by rw [HXS.out, HKS.out, HLS.out]; omega
        exact Nat.le_trans h2 (Nat.mul_le_mul h3 h4))
      clear hlt
      go_wp2_with (refine wpl_alloc 58 rfl rfl #[.pointer none, .slice none 0 0] zeroBd16 ?_)
      intro ob wo hob hao hbo
      have HBo := hid' (below_two HB.out hbo)
      have HBdo : Hid (Bld wo w.heap.size ob []) := hid' (bld_new w ob wo (Nat.le_trans HB.out.size hob) hao)
      clear hob hao hbo
      go_wp2
      go_loopw [32] (fun s32 wr => ∃ i : Nat, s32 = .int .i64 (i : Int) ∧ i ≤ n ∧ Hid (Bld wr w.heap.size ob ((rs.take i).flatMap (Rg.part X K L))) ∧ Hid (Below w.heap.size w wr)) (fun s32 _ => n - (intOf s32).toNat)
      case atStart => exact ⟨0, rfl, Nat.zero_le _, hid' (by simpa using HBdo.out), HBo⟩
      case round =>
        obtain ⟨i, rfl, hi, HBd, HB⟩ := hrel
        by_cases hlt : i < n
        · have hlt2 : (i : Int) < (n : Int) := by omega
          obtain ⟨r, hr⟩ : ∃ r, rs[i]? = some r := ⟨_, List.getElem?_eq_getElem (by rw [HN.out]; exact hlt)⟩
          obtain ⟨a, rfl, _, y0, y1⟩ := (HRS.out.below HB.out) i r hr
          have HWR : Hid (Rg.wth r X.length = true) := hid' (List.all_eq_true.1 HAL.out r (List.mem_of_getElem? hr))
          have HFT := hid' (Rg.flat_take (b := X) (k := K) (ln := L) hr)
          obtain ⟨A, C, rfl, hAC, hCX⟩ := Rg.wth_nat HWR.out
          rw [HXS.out] at hCX
          have HTL := hid' (Rg.told_len HWR.out (by rw [HXS.out]; exact hx))
          have HTO := hid' (fun W (h : TB16 W) => ctold16 ⟨(A : Int), (C : Int)⟩ (x.size : Int) W (by simp only; omega) (by simp only; omega) (by simp only; omega) (by simp only; omega) (by omega) (by omega) h)
          have HPT : Hid (Rg.part X K L ⟨(A : Int), (C : Int)⟩ = Rg.hd K L ⟨(A : Int), (C : Int)⟩ (x.size : Int) ++ (Rg.cutR X ⟨(A : Int), (C : Int)⟩ ++ Rg.crlf)) := hid' (by unfold Rg.part; rw [HXS.out])
          rw [HXS.out] at HTL
          simp only at HTO
          obtain ⟨U, hU⟩ : ∃ U, Rg.told ⟨(A : Int), (C : Int)⟩ (x.size : Int) = U := ⟨_, rfl⟩
          rw [hU] at HTO HTL
          obtain ⟨V, hV⟩ : ∃ V, Rg.cutR X ⟨(A : Int), (C : Int)⟩ = V := ⟨_, rfl⟩
          have HVE : Hid (x.extract A (C + 1) = ⟨V.toArray⟩) := hid' (by
            rw [← hV, ext_td16, HXX.out]
            unfold Rg.cutR
            simp only [Int.toNat_natCast]
            rw [show ((C : Int) + 1).toNat = C + 1 by omega])
          have HVL : Hid (V.length ≤ x.size) := hid' (by rw [← hV, ← HXS.out]; exact Rg.cutR_len _ _)
          have HPE : Hid (Rg.part X K L ⟨(A : Int), (C : Int)⟩ = Rg.dd ++ (L ++ (Rg.crlf ++ (Rg.sType ++ (K ++ (Rg.crlf ++ (Rg.sRange ++ (U ++ (Rg.crlf ++ Rg.crlf)))))))) ++ (V ++ Rg.crlf)) := hid' (by rw [HPT.out, hV]; unfold Rg.hd; rw [hU])
          have HLN : Hid (K.length ≤ 1048576 ∧ L.length ≤ 1048576 ∧ U.length ≤ 71 ∧ V.length ≤ 1048576) := hid' ⟨by rw [HKS.out]; exact hk, by rw [HLS.out]; exact hl, HTL.out, by have := HVL.out; omega⟩
          have HLa : Hid (Ar (wr.alloc (.cells #[.int .i64 (A : Int), .int .i64 (C : Int)] 23)) wr.heap.size 23 #[.int .i64 (A : Int), .int .i64 (C : Int)]) := hid' (heap_alloc_last wr _)
          have HBa := hid' (bl_alloc wr (.cells #[.int .i64 (A : Int), .int .i64 (C : Int)] 23))
          have HBdw2 := hid' (bld_keep HBd.out HBa.out)
          have HBew2 := hid' (below_two HB.out HBa.out)
          obtain ⟨c0, hc0⟩ : ∃ z, (rs.take i).flatMap (Rg.part X K L) = z := ⟨_, rfl⟩
          rw [hc0] at HBdw2 HFT
          have HL_c0 : Hid (c0.length ≤ 1048576 * 3146228) := hid' (by rw [← hc0]; exact HMX.out i)
          simp only at y0 y1
          clear hr hU hV hc0 HBa HB HBd
          go_upto_region 13 with fail
          obtain ⟨fb, hfb⟩ : ∃ fb, wr.heap.size = fb := ⟨_, rfl⟩
          rw [hfb] at HLa ⊢
          generalize wr.alloc (.cells #[.int .i64 (A : Int), .int .i64 (C : Int)] 23) = w2 at *
          have HBxw2 := HLa
          clear hfb y0 y1 HLa
          have hln := HLE.out
          have hkd := HKE.out
          subst hln
          subst hkd
          have HFL : Hid ([Rg.dd, L].flatten.length ≤ 1048690) := hid' (by have e9 : [Rg.dd, L].flatten.length = Rg.dd.length + L.length := Rg.fl2 _ _; have e0 : Rg.dd.length = 2 := rfl; have h9 := HLN.out; omega)
          have HBa := hid' (bl_alloc w2 (.cells #[.string ⟨#[45, 45]⟩, .string ⟨L.toArray⟩] 9))
          have HTR : Hid (TR16 (w2.alloc (.cells #[.string ⟨#[45, 45]⟩, .string ⟨L.toArray⟩] 9)) (some ⟨w2.heap.size, 0, none⟩) [Rg.dd, L]) := hid' (.inr ⟨w2.heap.size, rfl, heap_alloc_last w2 _⟩)
          have HBd0 := hid' (bld_keep HBdw2.out HBa.out)
          have HBe0 := hid' (below_two HBew2.out HBa.out)
          have HBx0 := hid' (HBxw2.out.keep HBa.out)
          clear HBa HBdw2 HBew2 HBxw2
          have HWL := hid' (cwline16 w.heap.size ob 2 2 (some ⟨w2.heap.size, 0, none⟩) c0 [Rg.dd, L] rfl (by omega) (w2.alloc (.cells #[.string ⟨#[45, 45]⟩, .string ⟨L.toArray⟩] 9)) HBd0.out HTR.out (by have h8 := HFL.out; have h9 := HL_c0.out; omega) HBe0.out.size)
          go_wp2_with fail
          refine HWL.out.mono ?_
          rintro e w3 ⟨rfl, g1, g2, g3⟩
          have HBdw3 := hid' g1
          have HBew3 := hid' (HBe0.out.trans g2)
          have HBxw3 : Hid (Ar w3 fb 23 #[.int .i64 (A : Int), .int .i64 (C : Int)]) := hid' (by obtain ⟨p, q, hpq⟩ := bld_obj HBd0.out; exact g3.ar HBx0.out (ar_ne16 HBx0.out hpq (by decide)) (by decide))
          clear g1 g2 g3 HWL HTR HBd0 HBe0 HBx0
          obtain ⟨c1, hacc⟩ : ∃ z, c0 ++ [Rg.dd, L].flatten ++ [13, 10] = z := ⟨_, rfl⟩
          rw [hacc] at HBdw3
          have HL_c1 : Hid (c1.length ≤ 3299060220028) := hid' (by rw [← hacc, List.length_append, List.length_append]; have h8 := HFL.out; have h9 := HL_c0.out; have e8 : ([13, 10] : List UInt8).length = 2 := rfl; omega)
          have HA_c1 := hid' hacc
          clear hacc HFL
          have HFL : Hid ([Rg.sType, K].flatten.length ≤ 1048690) := hid' (by have e9 : [Rg.sType, K].flatten.length = Rg.sType.length + K.length := Rg.fl2 _ _; have e0 : Rg.sType.length = 14 := rfl; have h9 := HLN.out; omega)
          have HBa := hid' (bl_alloc w3 (.cells #[.string ⟨#[67, 111, 110, 116, 101, 110, 116, 45, 84, 121, 112, 101, 58, 32]⟩, .string ⟨K.toArray⟩] 9))
          have HTR : Hid (TR16 (w3.alloc (.cells #[.string ⟨#[67, 111, 110, 116, 101, 110, 116, 45, 84, 121, 112, 101, 58, 32]⟩, .string ⟨K.toArray⟩] 9)) (some ⟨w3.heap.size, 0, none⟩) [Rg.sType, K]) := hid' (.inr ⟨w3.heap.size, rfl, heap_alloc_last w3 _⟩)
          have HBd0 := hid' (bld_keep HBdw3.out HBa.out)
          have HBe0 := hid' (below_two HBew3.out HBa.out)
          have HBx0 := hid' (HBxw3.out.keep HBa.out)
          clear HBa HBdw3 HBew3 HBxw3
          have HWL := hid' (cwline16 w.heap.size ob 2 2 (some ⟨w3.heap.size, 0, none⟩) c1 [Rg.sType, K] rfl (by omega) (w3.alloc (.cells #[.string ⟨#[67, 111, 110, 116, 101, 110, 116, 45, 84, 121, 112, 101, 58, 32]⟩, .string ⟨K.toArray⟩] 9)) HBd0.out HTR.out (by have h8 := HFL.out; have h9 := HL_c1.out; omega) HBe0.out.size)
          go_wp2_with fail
          refine HWL.out.mono ?_
          rintro e w4 ⟨rfl, g1, g2, g3⟩
          have HBdw4 := hid' g1
          have HBew4 := hid' (HBe0.out.trans g2)
          have HBxw4 : Hid (Ar w4 fb 23 #[.int .i64 (A : Int), .int .i64 (C : Int)]) := hid' (by obtain ⟨p, q, hpq⟩ := bld_obj HBd0.out; exact g3.ar HBx0.out (ar_ne16 HBx0.out hpq (by decide)) (by decide))
          clear g1 g2 g3 HWL HTR HBd0 HBe0 HBx0
          obtain ⟨c2, hacc⟩ : ∃ z, c1 ++ [Rg.sType, K].flatten ++ [13, 10] = z := ⟨_, rfl⟩
          rw [hacc] at HBdw4
          have HL_c2 : Hid (c2.length ≤ 3299061268728) := hid' (by rw [← hacc, List.length_append, List.length_append]; have h8 := HFL.out; have h9 := HL_c1.out; have e8 : ([13, 10] : List UInt8).length = 2 := rfl; omega)
          have HA_c2 := hid' hacc
          clear hacc HFL
          have HTw4 := hid' (HT.out.keep HBew4.out)
          have p0 := HBxw4.out.cell 0 _ rfl
          have p1 := HBxw4.out.cell 1 _ rfl
          go_wp2_with fail
          refine (HTO.out _ HTw4.out).mono ?_
          rintro e w5 ⟨rfl, hb5⟩
          have HBdw5 := hid' (bld_keep HBdw4.out hb5)
          have HBew5 := hid' (below_two HBew4.out hb5)
          have HBxw5 := hid' (HBxw4.out.keep hb5)
          clear p0 p1 hb5 HBdw4 HBew4 HBxw4
          have HFL : Hid ([Rg.sRange, U].flatten.length ≤ 1048690) := hid' (by have e9 : [Rg.sRange, U].flatten.length = Rg.sRange.length + U.length := Rg.fl2 _ _; have e0 : Rg.sRange.length = 15 := rfl; have h9 := HLN.out; omega)
          have HBa := hid' (bl_alloc w5 (.cells #[.string ⟨#[67, 111, 110, 116, 101, 110, 116, 45, 82, 97, 110, 103, 101, 58, 32]⟩, .string ⟨U.toArray⟩] 9))
          have HTR : Hid (TR16 (w5.alloc (.cells #[.string ⟨#[67, 111, 110, 116, 101, 110, 116, 45, 82, 97, 110, 103, 101, 58, 32]⟩, .string ⟨U.toArray⟩] 9)) (some ⟨w5.heap.size, 0, none⟩) [Rg.sRange, U]) := hid' (.inr ⟨w5.heap.size, rfl, heap_alloc_last w5 _⟩)
          have HBd0 := hid' (bld_keep HBdw5.out HBa.out)
          have HBe0 := hid' (below_two HBew5.out HBa.out)
          have HBx0 := hid' (HBxw5.out.keep HBa.out)
          clear HBa HBdw5 HBew5 HBxw5
          have HWL := hid' (cwline16 w.heap.size ob 2 2 (some ⟨w5.heap.size, 0, none⟩) c2 [Rg.sRange, U] rfl (by omega) (w5.alloc (.cells #[.string ⟨#[67, 111, 110, 116, 101, 110, 116, 45, 82, 97, 110, 103, 101, 58, 32]⟩, .string ⟨U.toArray⟩] 9)) HBd0.out HTR.out (by have h8 := HFL.out; have h9 := HL_c2.out; omega) HBe0.out.size)
          go_wp2_with fail
          refine HWL.out.mono ?_
          rintro e w6 ⟨rfl, g1, g2, g3⟩
          have HBdw6 := hid' g1
          have HBew6 := hid' (HBe0.out.trans g2)
          have HBxw6 : Hid (Ar w6 fb 23 #[.int .i64 (A : Int), .int .i64 (C : Int)]) := hid' (by obtain ⟨p, q, hpq⟩ := bld_obj HBd0.out; exact g3.ar HBx0.out (ar_ne16 HBx0.out hpq (by decide)) (by decide))
          clear g1 g2 g3 HWL HTR HBd0 HBe0 HBx0
          obtain ⟨c3, hacc⟩ : ∃ z, c2 ++ [Rg.sRange, U].flatten ++ [13, 10] = z := ⟨_, rfl⟩
          rw [hacc] at HBdw6
          have HL_c3 : Hid (c3.length ≤ 3299062317428) := hid' (by rw [← hacc, List.length_append, List.length_append]; have h8 := HFL.out; have h9 := HL_c2.out; have e8 : ([13, 10] : List UInt8).length = 2 := rfl; omega)
          have HA_c3 := hid' hacc
          clear hacc HFL
          have HFL : Hid (([] : List (List UInt8)).flatten.length ≤ 1048690) := hid' (by have e9 : ([] : List (List UInt8)).flatten.length = 0 := rfl; have h9 := HLN.out; omega)
          have HTR : Hid (TR16 w6 none []) := hid' (.inl ⟨rfl, rfl⟩)
          have HBd0 := HBdw6
          have HBe0 := HBew6
          have HBx0 := HBxw6
          clear HBdw6 HBew6 HBxw6
          have HWL := hid' (cwline16 w.heap.size ob 0 0 none c3 ([] : List (List UInt8)) rfl (by omega) w6 HBd0.out HTR.out (by have h8 := HFL.out; have h9 := HL_c3.out; omega) HBe0.out.size)
          go_wp2_with fail
          refine HWL.out.mono ?_
          rintro e w7 ⟨rfl, g1, g2, g3⟩
          have HBdw7 := hid' g1
          have HBew7 := hid' (HBe0.out.trans g2)
          have HBxw7 : Hid (Ar w7 fb 23 #[.int .i64 (A : Int), .int .i64 (C : Int)]) := hid' (by obtain ⟨p, q, hpq⟩ := bld_obj HBd0.out; exact g3.ar HBx0.out (ar_ne16 HBx0.out hpq (by decide)) (by decide))
          clear g1 g2 g3 HWL HTR HBd0 HBe0 HBx0
          obtain ⟨c4, hacc⟩ : ∃ z, c3 ++ ([] : List (List UInt8)).flatten ++ [13, 10] = z := ⟨_, rfl⟩
          rw [hacc] at HBdw7
          have HL_c4 : Hid (c4.length ≤ 3299063366128) := hid' (by rw [← hacc, List.length_append, List.length_append]; have h8 := HFL.out; have h9 := HL_c3.out; have e8 : ([13, 10] : List UInt8).length = 2 := rfl; omega)
          have HA_c4 := hid' hacc
          clear hacc HFL
          have p0 := HBxw7.out.cell 0 _ rfl
          have p1 := HBxw7.out.cell 1 _ rfl
          have q1 : (A : Int) ≤ (C : Int) + 1 := by omega
          have q2 : (C : Int) + 1 ≤ (x.size : Int) := by omega
          have hve := HVE.out
          have HFL : Hid ([V].flatten.length ≤ 1048690) := hid' (by have e9 : [V].flatten.length = V.length := Rg.fl1 _; have h9 := HLN.out; omega)
          have HBa := hid' (bl_alloc w7 (.cells #[.string ⟨V.toArray⟩] 9))
          have HTR : Hid (TR16 (w7.alloc (.cells #[.string ⟨V.toArray⟩] 9)) (some ⟨w7.heap.size, 0, none⟩) [V]) := hid' (.inr ⟨w7.heap.size, rfl, heap_alloc_last w7 _⟩)
          have HBd0 := hid' (bld_keep HBdw7.out HBa.out)
          have HBe0 := hid' (below_two HBew7.out HBa.out)
          have HBx0 := hid' (HBxw7.out.keep HBa.out)
          clear HBa HBdw7 HBew7 HBxw7
          have HWL := hid' (cwline16 w.heap.size ob 1 1 (some ⟨w7.heap.size, 0, none⟩) c4 [V] rfl (by omega) (w7.alloc (.cells #[.string ⟨V.toArray⟩] 9)) HBd0.out HTR.out (by have h8 := HFL.out; have h9 := HL_c4.out; omega) HBe0.out.size)
          go_wp2_with fail
          refine HWL.out.mono ?_
          rintro e w8 ⟨rfl, g1, g2, g3⟩
          have HBdw8 := hid' g1
          have HBew8 := hid' (HBe0.out.trans g2)
          have HBxw8 : Hid (Ar w8 fb 23 #[.int .i64 (A : Int), .int .i64 (C : Int)]) := hid' (by obtain ⟨p, q, hpq⟩ := bld_obj HBd0.out; exact g3.ar HBx0.out (ar_ne16 HBx0.out hpq (by decide)) (by decide))
          clear g1 g2 g3 HWL HTR HBd0 HBe0 HBx0
          obtain ⟨c5, hacc⟩ : ∃ z, c4 ++ [V].flatten ++ [13, 10] = z := ⟨_, rfl⟩
          rw [hacc] at HBdw8
          have HL_c5 : Hid (c5.length ≤ 3299064414828) := hid' (by rw [← hacc, List.length_append, List.length_append]; have h8 := HFL.out; have h9 := HL_c4.out; have e8 : ([13, 10] : List UInt8).length = 2 := rfl; omega)
          have HA_c5 := hid' hacc
          clear hacc HFL
          have HEND : Hid (Bld w8 w.heap.size ob ((rs.take (i + 1)).flatMap (Rg.part X K L))) := hid' (by
            have e1 : (rs.take (i + 1)).flatMap (Rg.part X K L) = c5 := by
              rw [HFT.out, HPE.out, ← HA_c5.out, ← HA_c4.out, ← HA_c3.out, ← HA_c2.out, ← HA_c1.out]
              simp [Rg.crlf]
            rw [e1]; exact HBdw8.out)
          clear q1 q2 p0 p1 hve
          go_wp2
          go_roundw
          case rel => exact ⟨i + 1, by go_num, by omega, HEND, HBew8⟩
          case measure => simp [intOf]; omega
        · have hlt2 : ¬ (i : Int) < (n : Int) := by omega
          have HTk : Hid (rs.take i = rs) := hid' (List.take_of_length_le (by rw [HN.out]; omega))
          have HL_c0 : Hid ((rs.flatMap (Rg.part X K L)).length ≤ 1048576 * 3146228) := hid' (by have := HMX.out i; rwa [HTk.out] at this)
          rw [HTk.out] at HBd
          obtain ⟨c0, hc0⟩ : ∃ z, rs.flatMap (Rg.part X K L) = z := ⟨_, rfl⟩
          rw [hc0] at HBd HL_c0
          have HC0 := hid' hc0
          have HLN : Hid (K.length ≤ 1048576 ∧ L.length ≤ 1048576 ∧ True ∧ True) := hid' ⟨by rw [HKS.out]; exact hk, by rw [HLS.out]; exact hl, trivial, trivial⟩
          have HBdwr := HBd
          have HBewr := HB
          have hln := HLE.out
          subst hln
          clear hlt hc0 HBd HB
          have HFL : Hid ([Rg.dd, L, Rg.dd].flatten.length ≤ 1048690) := hid' (by have e9 : [Rg.dd, L, Rg.dd].flatten.length = Rg.dd.length + L.length + Rg.dd.length := Rg.fl3 _ _ _; have e0 : Rg.dd.length = 2 := rfl; have e2 : Rg.dd.length = 2 := rfl; have h9 := HLN.out; omega)
          have HBa := hid' (bl_alloc wr (.cells #[.string ⟨#[45, 45]⟩, .string ⟨L.toArray⟩, .string ⟨#[45, 45]⟩] 9))
          have HTR : Hid (TR16 (wr.alloc (.cells #[.string ⟨#[45, 45]⟩, .string ⟨L.toArray⟩, .string ⟨#[45, 45]⟩] 9)) (some ⟨wr.heap.size, 0, none⟩) [Rg.dd, L, Rg.dd]) := hid' (.inr ⟨wr.heap.size, rfl, heap_alloc_last wr _⟩)
          have HBd0 := hid' (bld_keep HBdwr.out HBa.out)
          have HBe0 := hid' (below_two HBewr.out HBa.out)
          clear HBa HBdwr HBewr
          have HWL := hid' (cwline16 w.heap.size ob 3 3 (some ⟨wr.heap.size, 0, none⟩) c0 [Rg.dd, L, Rg.dd] rfl (by omega) (wr.alloc (.cells #[.string ⟨#[45, 45]⟩, .string ⟨L.toArray⟩, .string ⟨#[45, 45]⟩] 9)) HBd0.out HTR.out (by have h8 := HFL.out; have h9 := HL_c0.out; omega) HBe0.out.size)
          go_wp2_with fail
          refine HWL.out.mono ?_
          rintro e w3 ⟨rfl, g1, g2, g3⟩
          have HBdw3 := hid' g1
          have HBew3 := hid' (HBe0.out.trans g2)
          clear g1 g2 g3 HWL HTR HBd0 HBe0
          obtain ⟨c1, hacc⟩ : ∃ z, c0 ++ [Rg.dd, L, Rg.dd].flatten ++ [13, 10] = z := ⟨_, rfl⟩
          rw [hacc] at HBdw3
          have HL_c1 : Hid (c1.length ≤ 3299060220028) := hid' (by rw [← hacc, List.length_append, List.length_append]; have h8 := HFL.out; have h9 := HL_c0.out; have e8 : ([13, 10] : List UInt8).length = 2 := rfl; omega)
          have HA_c1 := hid' hacc
          clear hacc HFL
          have HST := hid' (string_any w.heap.size ob c1 w3 HBdw3.out HBew3.out.size)
          go_wp2_with fail
          refine HST.out.mono ?_
          rintro e w4 ⟨rfl, hb4, _⟩
          have HBew4 := hid' (HBew3.out.trans hb4)
          have HPP : Hid (Rg.parts X K L rs = c1) := hid' (by
            rw [← HA_c1.out, ← HC0.out]
            unfold Rg.parts Rg.fin
            simp [Rg.crlf])
          clear hb4 HST
          go_wp2
          go_ret2
          exact ⟨by rw [HS.out, HE.out, HPP.out]; rfl, HBew4.out⟩

end Go.Proofs.YtdbldompjhienaaDoor
