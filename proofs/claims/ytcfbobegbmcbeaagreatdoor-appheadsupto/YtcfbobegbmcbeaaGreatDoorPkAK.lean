/-
  What the row stands on.
-/
import Derived.Test.YtcfbobegbmcbeaaGreatDoorPkAJ
namespace Go.Proofs.YtcfbobegbmcbeaaGreatDoor
set_option maxHeartbeats 64000000
namespace Rg
def crlf : T8 := [13, 10]
def dd : T8 := [45, 45]
def sType : T8 := [67, 111, 110, 116, 101, 110, 116, 45, 84, 121, 112, 101, 58, 32]
def sRange : T8 := [67, 111, 110, 116, 101, 110, 116, 45, 82, 97, 110, 103, 101, 58, 32]
theorem fl1 (a : T8) : [a].flatten.length = a.length := by simp
theorem fl2 (a b : T8) : [a, b].flatten.length = a.length + b.length := by simp
theorem fl3 (a b c : T8) : [a, b, c].flatten.length = a.length + b.length + c.length := by simp; omega
def cutR (b : T8) (r : Rn) : T8 := (b.drop r.a.toNat).take ((r.b + 1).toNat - r.a.toNat)
def hd (k ln : T8) (r : Rn) (n : Int) : T8 := dd ++ (ln ++ (crlf ++ (sType ++ (k ++ (crlf ++ (sRange ++ (told r n ++ (crlf ++ crlf))))))))
def part (b k ln : T8) (r : Rn) : T8 := hd k ln r b.length ++ (cutR b r ++ crlf)
def fin (ln : T8) : T8 := dd ++ (ln ++ (dd ++ crlf))
def parts (b k ln : T8) (rs : List Rn) : T8 := rs.flatMap (part b k ln) ++ fin ln
def okP (b : T8) (rs : List Rn) : Bool := !rs.isEmpty && rs.all (fun r => wth r b.length)
def partsS (b k ln : T8) (rs : List Rn) : T8 := if okP b rs then parts b k ln rs else []
def partsE (b : T8) (rs : List Rn) : Int := if okP b rs then 0 else 1
theorem wth_nat {r : Rn} {n : Nat} (h : wth r n = true) : ∃ A C : Nat, r = ⟨(A : Int), (C : Int)⟩ ∧ A ≤ C ∧ C < n := by
 obtain ⟨a, b⟩ := r
 unfold wth at h
 simp only [Bool.and_eq_true, decide_eq_true_iff] at h
 exact ⟨a.toNat, b.toNat, by congr 1 <;> omega, by omega, by omega⟩
theorem itoa_19 {n : Int} (h0 : -9223372036854775808 ≤ n) (h1 : n ≤ 9223372036854775807) : (Lib.itoa n).length ≤ 21 := Tx.itoa_le _ 19 (by omega)
theorem told_len {r : Rn} {n : Nat} (h : wth r n = true) (hn : n ≤ 1048576) : (told r n).length ≤ 71 := by
 obtain ⟨A, C, rfl, h1, h2⟩ := wth_nat h
 unfold told
 have a1 := itoa_19 (n := (A : Int)) (by omega) (by omega)
 have a2 := itoa_19 (n := (C : Int)) (by omega) (by omega)
 have a3 := itoa_19 (n := (n : Int)) (by omega) (by omega)
 simp only [sBytes, List.length_append, List.length_cons, List.length_nil]
 omega
theorem cutR_len (b : T8) (r : Rn) : (cutR b r).length ≤ b.length := by
 unfold cutR
 rw [List.length_take, List.length_drop]; omega
theorem part_len {b k ln : T8} {r : Rn} (h : wth r b.length = true) (hb : b.length ≤ 1048576) : (part b k ln r).length ≤ b.length + k.length + ln.length + 200 := by
 have h1 := told_len h hb
 have h2 := cutR_len b r
 unfold part hd
 simp only [List.length_append, crlf, dd, sType, sRange, List.length_cons, List.length_nil]
 omega
theorem flat_len {b k ln : T8} {rs : List Rn} (h : rs.all (fun r => wth r b.length) = true) (hb : b.length ≤ 1048576) : (rs.flatMap (part b k ln)).length ≤ rs.length * (b.length + k.length + ln.length + 200) := by
 induction rs with
 | nil => simp
 | cons r rs ih =>
  rw [List.all_cons, Bool.and_eq_true] at h
  have h1 := part_len (k := k) (ln := ln) h.1 hb
  have h2 := ih h.2
  rw [List.flatMap_cons, List.length_append, List.length_cons, Nat.succ_mul]
  omega
theorem flat_take {b k ln : T8} {rs : List Rn} {i : Nat} {r : Rn} (h : rs[i]? = some r) : (rs.take (i + 1)).flatMap (part b k ln) = (rs.take i).flatMap (part b k ln) ++ part b k ln r := by
 rw [List.take_add_one, h]; simp
theorem all_take2 {rs : List Rn} {i : Nat} {r : Rn} (g : Rn → Bool) (h : rs[i]? = some r) : (rs.take (i + 1)).all g = ((rs.take i).all g && g r) := by
 rw [List.take_add_one, h]; simp
theorem okP_bad {b : T8} {rs : List Rn} {r : Rn} (hr : r ∈ rs) (h : wth r b.length = false) : okP b rs = false := by
 unfold okP
 have : rs.all (fun r => wth r b.length) = false := by
  rw [Bool.eq_false_iff]; intro ht
  have := List.all_eq_true.1 ht r hr
  rw [h] at this; cases this
 rw [this, Bool.and_false]
end Rg

open Go.RowKit

theorem zeroBd16 : (Tryz.prog.info? 124).map (fun i => i.zero) = some (some (.agg #[.pointer none, .slice none 0 0])) := by kernel_rfl

set_option maxRecDepth 20000 in
theorem cparts16 (x kd ln : ByteArray) (ao : Option Addr) (n cap : Nat) (rs : List Rg.Rn) (hn : rs.length = n) (hnb : n ≤ 1048576) (w : World) (hrs : RW16 w ao rs) (hx : x.size ≤ 1048576) (hk : kd.size ≤ 1048576) (hl : ln.size ≤ 1048576) (hT : TB16 w) :
  Calls Tryz.prog 194 #[.string x, .string kd, .string ln, .slice ao n cap] w fun e w' => e = .returned (.tuple #[.string ⟨(Rg.partsS x.data.toList kd.data.toList ln.data.toList rs).toArray⟩, .int .i64 (Rg.partsE x.data.toList rs)]) ∧ Below w.heap.size w w' := by
 obtain ⟨X, hX⟩ : ∃ X, x.data.toList = X := ⟨_, rfl⟩
 obtain ⟨K, hK⟩ : ∃ K, kd.data.toList = K := ⟨_, rfl⟩
 obtain ⟨L, hL⟩ : ∃ L, ln.data.toList = L := ⟨_, rfl⟩
 rw [hX, hK, hL]
 have HXS : Hid (X.length = x.size) := hid' (by rw [← hX, ← Lib.size_eq])
 have HKS : Hid (K.length = kd.size) := hid' (by rw [← hK, ← Lib.size_eq])
 have HLS : Hid (L.length = ln.size) := hid' (by rw [← hL, ← Lib.size_eq])
 have HXX := hid' hX
 have HKE : Hid (kd = ⟨K.toArray⟩) := hid' (by rw [← hK])
 have HLE : Hid (ln = ⟨L.toArray⟩) := hid' (by rw [← hL])
 have HRS := hid' hrs
 have HN := hid' hn
 have HT := hid' hT
 clear hX hK hL hrs hn hT
 by_cases hn0 : n = 0
 ·have hnB : ((n : Int) == 0) = true := by rw [beq_iff_eq]; omega
  have HOK : Hid (Rg.okP X rs = false) := hid' (by
   have : rs = [] := List.eq_nil_of_length_eq_zero (HN.out.trans hn0)
   rw [this]; rfl)
  have HS : Hid (Rg.partsS X K L rs = []) := hid' (by unfold Rg.partsS; rw [HOK.out]; rfl)
  have HE : Hid (Rg.partsE X rs = 1) := hid' (by unfold Rg.partsE; rw [HOK.out]; rfl)
  clear hn0
  go_enter Tryz.func194, Tryz.ntmps194
  go_wp2
  go_ret2
  exact ⟨by rw [HS.out, HE.out]; rfl, Below.refl _ _⟩
 have hnB : ((n : Int) == 0) = false := by rw [beq_eq_false_iff_ne]; omega
 have HNE : Hid (rs.isEmpty = false) := hid' (by
  cases hq : rs with
  | nil => exact absurd (HN.out.symm.trans (by rw [hq]; rfl)) hn0
  | cons a b => rfl)
 clear hn0
 go_enter Tryz.func194, Tryz.ntmps194
 go_wp2
 go_loopw [20] (fun s20 wr => ∃ i : Nat, s20 = .int .i64 (i : Int) ∧ i ≤ n ∧ Hid ((rs.take i).all (fun r => Rg.wth r X.length) = true) ∧ Hid (Below w.heap.size w wr)) (fun s20 _ => n - (intOf s20).toNat)
 case atStart => exact ⟨0, rfl, Nat.zero_le _, hid' rfl, hid' (Below.refl _ _)⟩
 case round =>
  obtain ⟨i, rfl, hi, HAL, HB⟩ := hrel
  by_cases hlt : i < n
  ·have hlt2 : (i : Int) < (n : Int) := by omega
   obtain ⟨r, hr⟩ : ∃ r, rs[i]? = some r := ⟨_, List.getElem?_eq_getElem (by rw [HN.out]; exact hlt)⟩
   obtain ⟨a, rfl, _, y0, y1⟩ := (HRS.out.below HB.out) i r hr
   have HMEM := hid' (List.mem_of_getElem? hr)
   have HAT := hid' (Rg.all_take2 (fun r => Rg.wth r X.length) hr)
   have HWT := hid' (fun W => cwth16 r (x.size : Int) W)
   have HWX : Hid (Rg.wth r (X.length : Int) = Rg.wth r (x.size : Int)) := hid' (by rw [HXS.out])
   obtain ⟨ra, rb⟩ := r
   simp only at y0 y1 HWT
   have HBa := hid' (below_two HB.out (bl_alloc wr (.cells #[.int .i64 ra, .int .i64 rb] 228)))
   have HLa : Hid (Ar (wr.alloc (.cells #[.int .i64 ra, .int .i64 rb] 228)) wr.heap.size 228 #[.int .i64 ra, .int .i64 rb]) := hid' (heap_alloc_last wr _)
   clear hr
   go_upto_region 6 with fail
   obtain ⟨fb, hfb⟩ : ∃ fb, wr.heap.size = fb := ⟨_, rfl⟩
   rw [hfb] at HLa ⊢
   generalize wr.alloc (.cells #[.int .i64 ra, .int .i64 rb] 228) = w2 at *
   have p0 := HLa.out.cell 0 _ rfl
   have p1 := HLa.out.cell 1 _ rfl
   clear hfb y0 y1
   go_wp2_with fail
   refine (HWT.out _).mono ?_
   rintro e w3 ⟨rfl, hb3⟩
   have HB3 := hid' (below_two HBa.out hb3)
   clear hb3 p0 p1 HLa
   cases hq : Rg.wth ⟨ra, rb⟩ (x.size : Int)
   ·have HOK : Hid (Rg.okP X rs = false) := hid' (Rg.okP_bad HMEM.out (by rw [HWX.out]; exact hq))
    have HS : Hid (Rg.partsS X K L rs = []) := hid' (by unfold Rg.partsS; rw [HOK.out]; rfl)
    have HE : Hid (Rg.partsE X rs = 1) := hid' (by unfold Rg.partsE; rw [HOK.out]; rfl)
    go_wp2
    go_ret2
    exact ⟨by rw [HS.out, HE.out]; rfl, HB3.out⟩
   ·have HAL2 : Hid ((rs.take (i + 1)).all (fun r => Rg.wth r X.length) = true) := hid' (by rw [HAT.out, HAL.out, HWX.out, hq]; rfl)
    go_wp2
    go_roundw
    case rel => exact ⟨i + 1, by go_num, by omega, HAL2, HB3⟩
    case measure => simp [intOf]; omega
  ·have hlt2 : ¬ (i : Int) < (n : Int) := by omega
   have HTk : Hid (rs.take i = rs) := hid' (List.take_of_length_le (by rw [HN.out]; omega))
   rw [HTk.out] at HAL
   have HOK : Hid (Rg.okP X rs = true) := hid' (by unfold Rg.okP; rw [HNE.out, HAL.out]; rfl)
   have HS : Hid (Rg.partsS X K L rs = Rg.parts X K L rs) := hid' (by unfold Rg.partsS; rw [HOK.out]; rfl)
   have HE : Hid (Rg.partsE X rs = 0) := hid' (by unfold Rg.partsE; rw [HOK.out]; rfl)
   have HMX : Hid (∀ j, ((rs.take j).flatMap (Rg.part X K L)).length ≤ 1048576 * 3146228) := hid' (fun j => by
    have h1 : (rs.take j).all (fun r => Rg.wth r X.length) = true := by
     rw [List.all_eq_true]
     intro r hr
     exact List.all_eq_true.1 HAL.out r (List.mem_of_mem_take hr)
    have h2 := Rg.flat_len (k := K) (ln := L) h1 (by rw [HXS.out]; exact hx)
    have h3 : (rs.take j).length ≤ 1048576 := by rw [List.length_take, HN.out]; omega
    have h4 : X.length + K.length + L.length + 200 ≤ 3146228 := by rw [HXS.out, HKS.out, HLS.out]; omega
    exact Nat.le_trans h2 (Nat.mul_le_mul h3 h4))
   clear hlt
   go_wp2_with (refine wpl_alloc 124 rfl rfl #[.pointer none, .slice none 0 0] zeroBd16 ?_)
   intro ob wo hob hao hbo
   have HBo := hid' (below_two HB.out hbo)
   have HBdo : Hid (Bld wo w.heap.size ob []) := hid' (bld_new w ob wo (Nat.le_trans HB.out.size hob) hao)
   clear hob hao hbo
   go_wp2
   go_loopw [32] (fun s32 wr => ∃ i : Nat, s32 = .int .i64 (i : Int) ∧ i ≤ n ∧ Hid (Bld wr w.heap.size ob ((rs.take i).flatMap (Rg.part X K L))) ∧ Hid (Below w.heap.size w wr)) (fun s32 _ => n - (intOf s32).toNat)
   case atStart => exact ⟨0, rfl, Nat.zero_le _, hid' (by simpa using HBdo.out), HBo⟩
   case round =>
    obtain ⟨i, rfl, hi, HBd, HB⟩ := hrel
    by_cases hlt : i < n
    ·have hlt2 : (i : Int) < (n : Int) := by omega
     obtain ⟨r, hr⟩ : ∃ r, rs[i]? = some r := ⟨_, List.getElem?_eq_getElem (by rw [HN.out]; exact hlt)⟩
     obtain ⟨a, rfl, _, y0, y1⟩ := (HRS.out.below HB.out) i r hr
     have HWR : Hid (Rg.wth r X.length = true) := hid' (List.all_eq_true.1 HAL.out r (List.mem_of_getElem? hr))
     have HFT := hid' (Rg.flat_take (b := X) (k := K) (ln := L) hr)
     obtain ⟨A, C, rfl, hAC, hCX⟩ := Rg.wth_nat HWR.out
     rw [HXS.out] at hCX
     have HTL := hid' (Rg.told_len HWR.out (by rw [HXS.out]; exact hx))
     have HTO := hid' (fun W (h : TB16 W) => ctold16 ⟨(A : Int), (C : Int)⟩ (x.size : Int) W (by simp only; omega) (by simp only; omega) (by simp only; omega) (by simp only; omega) (by omega) (by omega) h)
     have HPT : Hid (Rg.part X K L ⟨(A : Int), (C : Int)⟩ = Rg.hd K L ⟨(A : Int), (C : Int)⟩ (x.size : Int) ++ (Rg.cutR X ⟨(A : Int), (C : Int)⟩ ++ Rg.crlf)) := hid' (by unfold Rg.part; rw [HXS.out])
     rw [HXS.out] at HTL
     simp only at HTO
     obtain ⟨U, hU⟩ : ∃ U, Rg.told ⟨(A : Int), (C : Int)⟩ (x.size : Int) = U := ⟨_, rfl⟩
     rw [hU] at HTO HTL
     obtain ⟨V, hV⟩ : ∃ V, Rg.cutR X ⟨(A : Int), (C : Int)⟩ = V := ⟨_, rfl⟩
     have HVE : Hid (x.extract A (C + 1) = ⟨V.toArray⟩) := hid' (by
      rw [← hV, ext_td16, HXX.out]
      unfold Rg.cutR
      simp only [Int.toNat_natCast]
      rw [show ((C : Int) + 1).toNat = C + 1 by omega])
     have HVL : Hid (V.length ≤ x.size) := hid' (by rw [← hV, ← HXS.out]; exact Rg.cutR_len _ _)
     have HPE : Hid (Rg.part X K L ⟨(A : Int), (C : Int)⟩ = Rg.dd ++ (L ++ (Rg.crlf ++ (Rg.sType ++ (K ++ (Rg.crlf ++ (Rg.sRange ++ (U ++ (Rg.crlf ++ Rg.crlf)))))))) ++ (V ++ Rg.crlf)) := hid' (by rw [HPT.out, hV]; unfold Rg.hd; rw [hU])
     have HLN : Hid (K.length ≤ 1048576 ∧ L.length ≤ 1048576 ∧ U.length ≤ 71 ∧ V.length ≤ 1048576) := hid' ⟨by rw [HKS.out]; exact hk, by rw [HLS.out]; exact hl, HTL.out, by have := HVL.out; omega⟩
     have HLa : Hid (Ar (wr.alloc (.cells #[.int .i64 (A : Int), .int .i64 (C : Int)] 228)) wr.heap.size 228 #[.int .i64 (A : Int), .int .i64 (C : Int)]) := hid' (heap_alloc_last wr _)
     have HBa := hid' (bl_alloc wr (.cells #[.int .i64 (A : Int), .int .i64 (C : Int)] 228))
     have HBdw2 := hid' (bld_keep HBd.out HBa.out)
     have HBew2 := hid' (below_two HB.out HBa.out)
     obtain ⟨c0, hc0⟩ : ∃ z, (rs.take i).flatMap (Rg.part X K L) = z := ⟨_, rfl⟩
     rw [hc0] at HBdw2 HFT
     have HL_c0 : Hid (c0.length ≤ 1048576 * 3146228) := hid' (by rw [← hc0]; exact HMX.out i)
     simp only at y0 y1
     clear hr hU hV hc0 HBa HB HBd
     go_upto_region 13 with fail
     obtain ⟨fb, hfb⟩ : ∃ fb, wr.heap.size = fb := ⟨_, rfl⟩
     rw [hfb] at HLa ⊢
     generalize wr.alloc (.cells #[.int .i64 (A : Int), .int .i64 (C : Int)] 228) = w2 at *
     have HBxw2 := HLa
     clear hfb y0 y1 HLa
     have hln := HLE.out
     have hkd := HKE.out
     subst hln
     subst hkd
     have HFL : Hid ([Rg.dd, L].flatten.length ≤ 1048690) := hid' (by have e9 : [Rg.dd, L].flatten.length = Rg.dd.length + L.length := Rg.fl2 _ _; have e0 : Rg.dd.length = 2 := rfl; have h9 := HLN.out; omega)
     have HBa := hid' (bl_alloc w2 (.cells #[.string ⟨#[45, 45]⟩, .string ⟨L.toArray⟩] 9))
     have HTR : Hid (TR16 (w2.alloc (.cells #[.string ⟨#[45, 45]⟩, .string ⟨L.toArray⟩] 9)) (some ⟨w2.heap.size, 0, none⟩) [Rg.dd, L]) := hid' (.inr ⟨w2.heap.size, rfl, heap_alloc_last w2 _⟩)
     have HBd0 := hid' (bld_keep HBdw2.out HBa.out)
     have HBe0 := hid' (below_two HBew2.out HBa.out)
     have HBx0 := hid' (HBxw2.out.keep HBa.out)
     clear HBa HBdw2 HBew2 HBxw2
     have HWL := hid' (cwline16 w.heap.size ob 2 2 (some ⟨w2.heap.size, 0, none⟩) c0 [Rg.dd, L] rfl (by omega) (w2.alloc (.cells #[.string ⟨#[45, 45]⟩, .string ⟨L.toArray⟩] 9)) HBd0.out HTR.out (by have h8 := HFL.out; have h9 := HL_c0.out; omega) HBe0.out.size)
     go_wp2_with fail
     refine HWL.out.mono ?_
     rintro e w3 ⟨rfl, g1, g2, g3⟩
     have HBdw3 := hid' g1
     have HBew3 := hid' (HBe0.out.trans g2)
     have HBxw3 : Hid (Ar w3 fb 228 #[.int .i64 (A : Int), .int .i64 (C : Int)]) := hid' (by obtain ⟨p, q, hpq⟩ := bld_obj HBd0.out; exact g3.ar HBx0.out (ar_ne16 HBx0.out hpq (by decide)) (by decide))
     clear g1 g2 g3 HWL HTR HBd0 HBe0 HBx0
     obtain ⟨c1, hacc⟩ : ∃ z, c0 ++ [Rg.dd, L].flatten ++ [13, 10] = z := ⟨_, rfl⟩
     rw [hacc] at HBdw3
     have HL_c1 : Hid (c1.length ≤ 3299060220028) := hid' (by rw [← hacc, List.length_append, List.length_append]; have h8 := HFL.out; have h9 := HL_c0.out; have e8 : ([13, 10] : List UInt8).length = 2 := rfl; omega)
     have HA_c1 := hid' hacc
     clear hacc HFL
     have HFL : Hid ([Rg.sType, K].flatten.length ≤ 1048690) := hid' (by have e9 : [Rg.sType, K].flatten.length = Rg.sType.length + K.length := Rg.fl2 _ _; have e0 : Rg.sType.length = 14 := rfl; have h9 := HLN.out; omega)
     have HBa := hid' (bl_alloc w3 (.cells #[.string ⟨#[67, 111, 110, 116, 101, 110, 116, 45, 84, 121, 112, 101, 58, 32]⟩, .string ⟨K.toArray⟩] 9))
     have HTR : Hid (TR16 (w3.alloc (.cells #[.string ⟨#[67, 111, 110, 116, 101, 110, 116, 45, 84, 121, 112, 101, 58, 32]⟩, .string ⟨K.toArray⟩] 9)) (some ⟨w3.heap.size, 0, none⟩) [Rg.sType, K]) := hid' (.inr ⟨w3.heap.size, rfl, heap_alloc_last w3 _⟩)
     have HBd0 := hid' (bld_keep HBdw3.out HBa.out)
     have HBe0 := hid' (below_two HBew3.out HBa.out)
     have HBx0 := hid' (HBxw3.out.keep HBa.out)
     clear HBa HBdw3 HBew3 HBxw3
     have HWL := hid' (cwline16 w.heap.size ob 2 2 (some ⟨w3.heap.size, 0, none⟩) c1 [Rg.sType, K] rfl (by omega) (w3.alloc (.cells #[.string ⟨#[67, 111, 110, 116, 101, 110, 116, 45, 84, 121, 112, 101, 58, 32]⟩, .string ⟨K.toArray⟩] 9)) HBd0.out HTR.out (by have h8 := HFL.out; have h9 := HL_c1.out; omega) HBe0.out.size)
     go_wp2_with fail
     refine HWL.out.mono ?_
     rintro e w4 ⟨rfl, g1, g2, g3⟩
     have HBdw4 := hid' g1
     have HBew4 := hid' (HBe0.out.trans g2)
     have HBxw4 : Hid (Ar w4 fb 228 #[.int .i64 (A : Int), .int .i64 (C : Int)]) := hid' (by obtain ⟨p, q, hpq⟩ := bld_obj HBd0.out; exact g3.ar HBx0.out (ar_ne16 HBx0.out hpq (by decide)) (by decide))
     clear g1 g2 g3 HWL HTR HBd0 HBe0 HBx0
     obtain ⟨c2, hacc⟩ : ∃ z, c1 ++ [Rg.sType, K].flatten ++ [13, 10] = z := ⟨_, rfl⟩
     rw [hacc] at HBdw4
     have HL_c2 : Hid (c2.length ≤ 3299061268728) := hid' (by rw [← hacc, List.length_append, List.length_append]; have h8 := HFL.out; have h9 := HL_c1.out; have e8 : ([13, 10] : List UInt8).length = 2 := rfl; omega)
     have HA_c2 := hid' hacc
     clear hacc HFL
     have HTw4 := hid' (HT.out.keep HBew4.out)
     have p0 := HBxw4.out.cell 0 _ rfl
     have p1 := HBxw4.out.cell 1 _ rfl
     go_wp2_with fail
     refine (HTO.out _ HTw4.out).mono ?_
     rintro e w5 ⟨rfl, hb5⟩
     have HBdw5 := hid' (bld_keep HBdw4.out hb5)
     have HBew5 := hid' (below_two HBew4.out hb5)
     have HBxw5 := hid' (HBxw4.out.keep hb5)
     clear p0 p1 hb5 HBdw4 HBew4 HBxw4
     have HFL : Hid ([Rg.sRange, U].flatten.length ≤ 1048690) := hid' (by have e9 : [Rg.sRange, U].flatten.length = Rg.sRange.length + U.length := Rg.fl2 _ _; have e0 : Rg.sRange.length = 15 := rfl; have h9 := HLN.out; omega)
     have HBa := hid' (bl_alloc w5 (.cells #[.string ⟨#[67, 111, 110, 116, 101, 110, 116, 45, 82, 97, 110, 103, 101, 58, 32]⟩, .string ⟨U.toArray⟩] 9))
     have HTR : Hid (TR16 (w5.alloc (.cells #[.string ⟨#[67, 111, 110, 116, 101, 110, 116, 45, 82, 97, 110, 103, 101, 58, 32]⟩, .string ⟨U.toArray⟩] 9)) (some ⟨w5.heap.size, 0, none⟩) [Rg.sRange, U]) := hid' (.inr ⟨w5.heap.size, rfl, heap_alloc_last w5 _⟩)
     have HBd0 := hid' (bld_keep HBdw5.out HBa.out)
     have HBe0 := hid' (below_two HBew5.out HBa.out)
     have HBx0 := hid' (HBxw5.out.keep HBa.out)
     clear HBa HBdw5 HBew5 HBxw5
     have HWL := hid' (cwline16 w.heap.size ob 2 2 (some ⟨w5.heap.size, 0, none⟩) c2 [Rg.sRange, U] rfl (by omega) (w5.alloc (.cells #[.string ⟨#[67, 111, 110, 116, 101, 110, 116, 45, 82, 97, 110, 103, 101, 58, 32]⟩, .string ⟨U.toArray⟩] 9)) HBd0.out HTR.out (by have h8 := HFL.out; have h9 := HL_c2.out; omega) HBe0.out.size)
     go_wp2_with fail
     refine HWL.out.mono ?_
     rintro e w6 ⟨rfl, g1, g2, g3⟩
     have HBdw6 := hid' g1
     have HBew6 := hid' (HBe0.out.trans g2)
     have HBxw6 : Hid (Ar w6 fb 228 #[.int .i64 (A : Int), .int .i64 (C : Int)]) := hid' (by obtain ⟨p, q, hpq⟩ := bld_obj HBd0.out; exact g3.ar HBx0.out (ar_ne16 HBx0.out hpq (by decide)) (by decide))
     clear g1 g2 g3 HWL HTR HBd0 HBe0 HBx0
     obtain ⟨c3, hacc⟩ : ∃ z, c2 ++ [Rg.sRange, U].flatten ++ [13, 10] = z := ⟨_, rfl⟩
     rw [hacc] at HBdw6
     have HL_c3 : Hid (c3.length ≤ 3299062317428) := hid' (by rw [← hacc, List.length_append, List.length_append]; have h8 := HFL.out; have h9 := HL_c2.out; have e8 : ([13, 10] : List UInt8).length = 2 := rfl; omega)
     have HA_c3 := hid' hacc
     clear hacc HFL
     have HFL : Hid (([] : List (List UInt8)).flatten.length ≤ 1048690) := hid' (by have e9 : ([] : List (List UInt8)).flatten.length = 0 := rfl; have h9 := HLN.out; omega)
     have HTR : Hid (TR16 w6 none []) := hid' (.inl ⟨rfl, rfl⟩)
     have HBd0 := HBdw6
     have HBe0 := HBew6
     have HBx0 := HBxw6
     clear HBdw6 HBew6 HBxw6
     have HWL := hid' (cwline16 w.heap.size ob 0 0 none c3 ([] : List (List UInt8)) rfl (by omega) w6 HBd0.out HTR.out (by have h8 := HFL.out; have h9 := HL_c3.out; omega) HBe0.out.size)
     go_wp2_with fail
     refine HWL.out.mono ?_
     rintro e w7 ⟨rfl, g1, g2, g3⟩
     have HBdw7 := hid' g1
     have HBew7 := hid' (HBe0.out.trans g2)
     have HBxw7 : Hid (Ar w7 fb 228 #[.int .i64 (A : Int), .int .i64 (C : Int)]) := hid' (by obtain ⟨p, q, hpq⟩ := bld_obj HBd0.out; exact g3.ar HBx0.out (ar_ne16 HBx0.out hpq (by decide)) (by decide))
     clear g1 g2 g3 HWL HTR HBd0 HBe0 HBx0
     obtain ⟨c4, hacc⟩ : ∃ z, c3 ++ ([] : List (List UInt8)).flatten ++ [13, 10] = z := ⟨_, rfl⟩
     rw [hacc] at HBdw7
     have HL_c4 : Hid (c4.length ≤ 3299063366128) := hid' (by rw [← hacc, List.length_append, List.length_append]; have h8 := HFL.out; have h9 := HL_c3.out; have e8 : ([13, 10] : List UInt8).length = 2 := rfl; omega)
     have HA_c4 := hid' hacc
     clear hacc HFL
     have p0 := HBxw7.out.cell 0 _ rfl
     have p1 := HBxw7.out.cell 1 _ rfl
     have q1 : (A : Int) ≤ (C : Int) + 1 := by omega
     have q2 : (C : Int) + 1 ≤ (x.size : Int) := by omega
     have hve := HVE.out
     have HFL : Hid ([V].flatten.length ≤ 1048690) := hid' (by have e9 : [V].flatten.length = V.length := Rg.fl1 _; have h9 := HLN.out; omega)
     have HBa := hid' (bl_alloc w7 (.cells #[.string ⟨V.toArray⟩] 9))
     have HTR : Hid (TR16 (w7.alloc (.cells #[.string ⟨V.toArray⟩] 9)) (some ⟨w7.heap.size, 0, none⟩) [V]) := hid' (.inr ⟨w7.heap.size, rfl, heap_alloc_last w7 _⟩)
     have HBd0 := hid' (bld_keep HBdw7.out HBa.out)
     have HBe0 := hid' (below_two HBew7.out HBa.out)
     have HBx0 := hid' (HBxw7.out.keep HBa.out)
     clear HBa HBdw7 HBew7 HBxw7
     have HWL := hid' (cwline16 w.heap.size ob 1 1 (some ⟨w7.heap.size, 0, none⟩) c4 [V] rfl (by omega) (w7.alloc (.cells #[.string ⟨V.toArray⟩] 9)) HBd0.out HTR.out (by have h8 := HFL.out; have h9 := HL_c4.out; omega) HBe0.out.size)
     go_wp2_with fail
     refine HWL.out.mono ?_
     rintro e w8 ⟨rfl, g1, g2, g3⟩
     have HBdw8 := hid' g1
     have HBew8 := hid' (HBe0.out.trans g2)
     have HBxw8 : Hid (Ar w8 fb 228 #[.int .i64 (A : Int), .int .i64 (C : Int)]) := hid' (by obtain ⟨p, q, hpq⟩ := bld_obj HBd0.out; exact g3.ar HBx0.out (ar_ne16 HBx0.out hpq (by decide)) (by decide))
     clear g1 g2 g3 HWL HTR HBd0 HBe0 HBx0
     obtain ⟨c5, hacc⟩ : ∃ z, c4 ++ [V].flatten ++ [13, 10] = z := ⟨_, rfl⟩
     rw [hacc] at HBdw8
     have HL_c5 : Hid (c5.length ≤ 3299064414828) := hid' (by rw [← hacc, List.length_append, List.length_append]; have h8 := HFL.out; have h9 := HL_c4.out; have e8 : ([13, 10] : List UInt8).length = 2 := rfl; omega)
     have HA_c5 := hid' hacc
     clear hacc HFL
     have HEND : Hid (Bld w8 w.heap.size ob ((rs.take (i + 1)).flatMap (Rg.part X K L))) := hid' (by
      have e1 : (rs.take (i + 1)).flatMap (Rg.part X K L) = c5 := by
       rw [HFT.out, HPE.out, ← HA_c5.out, ← HA_c4.out, ← HA_c3.out, ← HA_c2.out, ← HA_c1.out]
       simp [Rg.crlf]
      rw [e1]; exact HBdw8.out)
     clear q1 q2 p0 p1 hve
     go_wp2
     go_roundw
     case rel => exact ⟨i + 1, by go_num, by omega, HEND, HBew8⟩
     case measure => simp [intOf]; omega
    ·have hlt2 : ¬ (i : Int) < (n : Int) := by omega
     have HTk : Hid (rs.take i = rs) := hid' (List.take_of_length_le (by rw [HN.out]; omega))
     have HL_c0 : Hid ((rs.flatMap (Rg.part X K L)).length ≤ 1048576 * 3146228) := hid' (by have := HMX.out i; rwa [HTk.out] at this)
     rw [HTk.out] at HBd
     obtain ⟨c0, hc0⟩ : ∃ z, rs.flatMap (Rg.part X K L) = z := ⟨_, rfl⟩
     rw [hc0] at HBd HL_c0
     have HC0 := hid' hc0
     have HLN : Hid (K.length ≤ 1048576 ∧ L.length ≤ 1048576 ∧ True ∧ True) := hid' ⟨by rw [HKS.out]; exact hk, by rw [HLS.out]; exact hl, trivial, trivial⟩
     have HBdwr := HBd
     have HBewr := HB
     have hln := HLE.out
     subst hln
     clear hlt hc0 HBd HB
     have HFL : Hid ([Rg.dd, L, Rg.dd].flatten.length ≤ 1048690) := hid' (by have e9 : [Rg.dd, L, Rg.dd].flatten.length = Rg.dd.length + L.length + Rg.dd.length := Rg.fl3 _ _ _; have e0 : Rg.dd.length = 2 := rfl; have e2 : Rg.dd.length = 2 := rfl; have h9 := HLN.out; omega)
     have HBa := hid' (bl_alloc wr (.cells #[.string ⟨#[45, 45]⟩, .string ⟨L.toArray⟩, .string ⟨#[45, 45]⟩] 9))
     have HTR : Hid (TR16 (wr.alloc (.cells #[.string ⟨#[45, 45]⟩, .string ⟨L.toArray⟩, .string ⟨#[45, 45]⟩] 9)) (some ⟨wr.heap.size, 0, none⟩) [Rg.dd, L, Rg.dd]) := hid' (.inr ⟨wr.heap.size, rfl, heap_alloc_last wr _⟩)
     have HBd0 := hid' (bld_keep HBdwr.out HBa.out)
     have HBe0 := hid' (below_two HBewr.out HBa.out)
     clear HBa HBdwr HBewr
     have HWL := hid' (cwline16 w.heap.size ob 3 3 (some ⟨wr.heap.size, 0, none⟩) c0 [Rg.dd, L, Rg.dd] rfl (by omega) (wr.alloc (.cells #[.string ⟨#[45, 45]⟩, .string ⟨L.toArray⟩, .string ⟨#[45, 45]⟩] 9)) HBd0.out HTR.out (by have h8 := HFL.out; have h9 := HL_c0.out; omega) HBe0.out.size)
     go_wp2_with fail
     refine HWL.out.mono ?_
     rintro e w3 ⟨rfl, g1, g2, g3⟩
     have HBdw3 := hid' g1
     have HBew3 := hid' (HBe0.out.trans g2)
     clear g1 g2 g3 HWL HTR HBd0 HBe0
     obtain ⟨c1, hacc⟩ : ∃ z, c0 ++ [Rg.dd, L, Rg.dd].flatten ++ [13, 10] = z := ⟨_, rfl⟩
     rw [hacc] at HBdw3
     have HL_c1 : Hid (c1.length ≤ 3299060220028) := hid' (by rw [← hacc, List.length_append, List.length_append]; have h8 := HFL.out; have h9 := HL_c0.out; have e8 : ([13, 10] : List UInt8).length = 2 := rfl; omega)
     have HA_c1 := hid' hacc
     clear hacc HFL
     have HST := hid' (string_any w.heap.size ob c1 w3 HBdw3.out HBew3.out.size)
     go_wp2_with fail
     refine HST.out.mono ?_
     rintro e w4 ⟨rfl, hb4, _⟩
     have HBew4 := hid' (HBew3.out.trans hb4)
     have HPP : Hid (Rg.parts X K L rs = c1) := hid' (by
      rw [← HA_c1.out, ← HC0.out]
      unfold Rg.parts Rg.fin
      simp [Rg.crlf])
     clear hb4 HST
     go_wp2
     go_ret2
     exact ⟨by rw [HS.out, HE.out, HPP.out]; rfl, HBew4.out⟩


namespace Rg
def rd (l : T8) (n : Int) : Rn × Bool := if (pc l n).2.2 then ((pc l n).1, true) else (⟨0, 0⟩, false)
theorem rd_no {l : T8} {n : Int} (h : hasD l = false) : rd l n = (⟨0, 0⟩, false) := by unfold rd pc; rw [h]; rfl
theorem rd_yes {l : T8} {n : Int} (h : hasD l = true) : rd l n =
  if (l.take (ahead l)).isEmpty then (if digB (l.drop (ahead l + 1)) then (⟨max (n - digN (l.drop (ahead l + 1))) 0, n - 1⟩, true) else (⟨0, 0⟩, false))
  else if (l.drop (ahead l + 1)).isEmpty then (if digB (l.take (ahead l)) then (⟨digN (l.take (ahead l)), n - 1⟩, true) else (⟨0, 0⟩, false))
  else if digB (l.take (ahead l)) && digB (l.drop (ahead l + 1)) && decide (digN (l.take (ahead l)) ≤ digN (l.drop (ahead l + 1))) then (⟨digN (l.take (ahead l)), min (digN (l.drop (ahead l + 1))) (n - 1)⟩, true) else (⟨0, 0⟩, false) := by
 have hal := ahead_lt h
 have e1 : (l.take (ahead l)).isEmpty = decide (ahead l = 0) := by
  rw [Bool.eq_iff_iff, List.isEmpty_iff_length_eq_zero, decide_eq_true_iff, List.length_take]; omega
 have e2 : (l.drop (ahead l + 1)).isEmpty = decide (ahead l + 1 = l.length) := by
  rw [Bool.eq_iff_iff, List.isEmpty_iff_length_eq_zero, decide_eq_true_iff, List.length_drop]; omega
 unfold rd pc
 rw [if_pos h, e1, e2]
 simp only
 by_cases h0 : ahead l = 0
 ·simp only [h0, if_true, decide_true]
 ·by_cases h1 : ahead l + 1 = l.length
  ·simp only [h0, h1, if_true, if_false, decide_true, decide_false, Bool.false_eq_true]
  ·simp only [h0, h1, if_false, decide_false, Bool.false_eq_true]
theorem digB_empty {l : T8} (h : digB l = true) : l.isEmpty = false := by
 cases l with
 | nil => exact absurd h (by decide)
 | cons a b => rfl
end Rg
def rdV16 (q : Rg.Rn × Bool) : Value := .tuple #[.agg #[.int .i64 q.1.a, .int .i64 q.1.b], .bool q.2]

set_option maxRecDepth 20000 in
theorem cread16 (s : ByteArray) (l : List UInt8) (hl : s.data.toList = l) (n : Int) (n0 : 0 ≤ n) (n1 : n ≤ 9223372036854775807) (w : World) (hs : s.size ≤ 1048576) (hT : TB16 w) :
  Calls Tryz.prog 190 #[.string s, .int .i64 n] w fun e w' => e = .returned (rdV16 (Rg.rd l n)) ∧ Below w.heap.size w w' := by
 have HSL : Hid (l.length ≤ 1048576) := hid' (by rw [← hl, ← Lib.size_eq]; exact hs)
 have HC := hid' (fun W (h : TB16 W) => scut16 s ⟨#[45]⟩ W hs h)
 have HT := hid' hT
 rw [hl, show (⟨#[45]⟩ : ByteArray).data.toList = [45] from rfl, Rg.cut_dash] at HC
 clear hT hl
 cases hd : Rg.hasD l
 ·rw [hd] at HC
  simp only [Bool.false_eq_true, if_false] at HC
  have HR := hid' (Rg.rd_no (n := n) hd)
  obtain ⟨z1, _, hc1⟩ := cnum16 ⟨l.toArray⟩ l rfl (by rw [size_l16]; exact HSL.out)
  obtain ⟨z2, _, hc2⟩ := cnum16 ⟨([] : List UInt8).toArray⟩ [] rfl (by simp [ByteArray.size])
  have HC1 := hid' hc1
  have HC2 := hid' hc2
  obtain ⟨x, hx⟩ : ∃ x : ByteArray, (⟨l.toArray⟩ : ByteArray) = x := ⟨_, rfl⟩
  obtain ⟨y, hy⟩ : ∃ x : ByteArray, (⟨([] : List UInt8).toArray⟩ : ByteArray) = x := ⟨_, rfl⟩
  rw [hx] at HC1 HC
  rw [hy] at HC2 HC
  generalize Rg.digB l = f1 at HC1
  generalize Rg.digB [] = f2 at HC2
  clear hd hc1 hc2 hx hy
  go_enter Tryz.func190, Tryz.ntmps190
  go_wp2_with (refine wpl_alloc 228 rfl rfl #[.int .i64 0, .int .i64 0] zeroRg16 ?_)
  intro b0 w0 hb0 ha0 hbe0
  have HX := hid' ha0
  have HB0 := hid' hbe0
  have HG0 := hid' hb0
  have HT0 := hid' (HT.out.keep hbe0)
  clear hb0 ha0 hbe0
  go_wp2_with fail
  refine (HC.out _ HT0.out).mono ?_
  rintro e w1 ⟨rfl, hb1⟩
  have HBq := hid' (below_two HB0.out hb1)
  have HXq := hid' (HX.out.keep hb1)
  clear hb1
  go_wp2_with fail
  refine (HC1.out _).mono ?_
  rintro e w2 ⟨rfl, hw⟩
  subst w2
  go_wp2_with fail
  refine (HC2.out _).mono ?_
  rintro e w2 ⟨rfl, hw⟩
  subst w2
  go_wp2_with (refine wpl_store 228 _ _ rfl rfl b0 #[.int .i64 0, .int .i64 0] (by rfl) (by rfl) _ _ HXq.out sizeRg16 rfl (by simp [Value.oneCell']) ?_)
  intro w9 ha9 hu9
  have hld := ldRg16 ha9
  have HB9 := hid' (HBq.out.trans (hu9.below HG0.out))
  clear ha9 hu9
  go_wp2
  exact bodyPost_ret (v := .tuple #[.agg #[.int .i64 0, .int .i64 0], .bool false]) (by simp [results, Tryz.results190, asAddr, hld]) rfl ⟨by rw [HR.out]; rfl, HB9.out⟩
 rw [hd] at HC
 simp only [if_true] at HC
 have HRD := hid' (Rg.rd_yes (n := n) hd)
 have hXL : (l.take (Rg.ahead l)).length ≤ 1048576 := Nat.le_trans (List.length_take_le' _ _) HSL.out
 have hYL : (l.drop (Rg.ahead l + 1)).length ≤ 1048576 := by rw [List.length_drop]; have := HSL.out; omega
 generalize l.take (Rg.ahead l) = X at HC HRD hXL
 generalize l.drop (Rg.ahead l + 1) = Y at HC HRD hYL
 obtain ⟨z1, hz1, hc1⟩ := cnum16 ⟨X.toArray⟩ X rfl (by rw [size_l16]; exact hXL)
 obtain ⟨z2, hz2, hc2⟩ := cnum16 ⟨Y.toArray⟩ Y rfl (by rw [size_l16]; exact hYL)
 have HZ1 : Hid (Rg.digB X = true → Rg.digN X = z1) := hid' (fun h => (hz1 h).symm)
 have HZ2 : Hid (Rg.digB Y = true → Rg.digN Y = z2) := hid' (fun h => (hz2 h).symm)
 have xb := Rg.digN_bd X
 have yb := Rg.digN_bd Y
 have HC1 := hid' hc1
 have HC2 := hid' hc2
 have HXE : Hid (Rg.digB X = true → X.isEmpty = false) := hid' Rg.digB_empty
 have HYE : Hid (Rg.digB Y = true → Y.isEmpty = false) := hid' Rg.digB_empty
 obtain ⟨x, hx⟩ : ∃ x : ByteArray, (⟨X.toArray⟩ : ByteArray) = x := ⟨_, rfl⟩
 obtain ⟨y, hy⟩ : ∃ x : ByteArray, (⟨Y.toArray⟩ : ByteArray) = x := ⟨_, rfl⟩
 have hxe : x.toList.isEmpty = X.isEmpty := by rw [← hx, Lib.toList_data]
 have hye : y.toList.isEmpty = Y.isEmpty := by rw [← hy, Lib.toList_data]
 rw [hx] at HC1 HC
 rw [hy] at HC2 HC
 generalize Rg.digB X = f1 at HC1 HRD HXE HZ1
 generalize Rg.digB Y = f2 at HC2 HRD HYE HZ2
 generalize Rg.digN X = xa at HRD HZ1 xb
 generalize Rg.digN Y = ya at HRD HZ2 yb
 generalize X.isEmpty = xe at HRD HXE hxe
 generalize Y.isEmpty = ye at HRD HYE hye
 clear hd hc1 hc2 hx hy hz1 hz2 hXL hYL
 have wn1 : IntKind.i64.wrap (n - 1) = n - 1 := wrp16 _ (by omega) (by omega)
 go_enter Tryz.func190, Tryz.ntmps190
 go_wp2_with (refine wpl_alloc 228 rfl rfl #[.int .i64 0, .int .i64 0] zeroRg16 ?_)
 intro b0 w0 hb0 ha0 hbe0
 have HX := hid' ha0
 have HB0 := hid' hbe0
 have HG0 := hid' hb0
 have HT0 := hid' (HT.out.keep hbe0)
 clear hb0 ha0 hbe0
 go_wp2_with fail
 refine (HC.out _ HT0.out).mono ?_
 rintro e w1 ⟨rfl, hb1⟩
 have HBq := hid' (below_two HB0.out hb1)
 have HXq := hid' (HX.out.keep hb1)
 clear hb1
 go_wp2_with fail
 refine (HC1.out _).mono ?_
 rintro e w2 ⟨rfl, hw⟩
 subst w2
 go_wp2_with fail
 refine (HC2.out _).mono ?_
 rintro e w2 ⟨rfl, hw⟩
 subst w2
 cases f1
 ·cases xe
  ·have HR : Hid (Rg.rd l n = (⟨0, 0⟩, false)) := hid' (by rw [HRD.out]; cases ye <;> rfl)
   go_wp2_with (refine wpl_store 228 _ _ rfl rfl b0 #[.int .i64 0, .int .i64 0] (by rfl) (by rfl) _ _ HXq.out sizeRg16 rfl (by simp [Value.oneCell']) ?_)
   intro w9 ha9 hu9
   have hld := ldRg16 ha9
   have HB9 := hid' (HBq.out.trans (hu9.below HG0.out))
   clear ha9 hu9
   go_wp2
   exact bodyPost_ret (v := .tuple #[.agg #[.int .i64 0, .int .i64 0], .bool false]) (by simp [results, Tryz.results190, asAddr, hld]) rfl ⟨by rw [HR.out]; rfl, HB9.out⟩
  ·cases f2
   ·have HR : Hid (Rg.rd l n = (⟨0, 0⟩, false)) := hid' (by rw [HRD.out]; rfl)
    go_wp2_with (refine wpl_store 228 _ _ rfl rfl b0 #[.int .i64 0, .int .i64 0] (by rfl) (by rfl) _ _ HXq.out sizeRg16 rfl (by simp [Value.oneCell']) ?_)
    intro w9 ha9 hu9
    have hld := ldRg16 ha9
    have HB9 := hid' (HBq.out.trans (hu9.below HG0.out))
    clear ha9 hu9
    go_wp2
    exact bodyPost_ret (v := .tuple #[.agg #[.int .i64 0, .int .i64 0], .bool false]) (by simp [results, Tryz.results190, asAddr, hld]) rfl ⟨by rw [HR.out]; rfl, HB9.out⟩
   ·have hz2 := HZ2.out rfl
    subst hz2
    have wnb : IntKind.i64.wrap (n - ya) = n - ya := wrp16 _ (by omega) (by omega)
    have HR : Hid (Rg.rd l n = (⟨max (n - ya) 0, n - 1⟩, true)) := hid' (by rw [HRD.out]; rfl)
    go_wp2_with (refine wpl_store 228 _ _ rfl rfl b0 #[.int .i64 (max (n - ya) 0), .int .i64 (n - 1)] (by rfl) (by rfl) _ _ HXq.out sizeRg16 rfl (by simp [Value.oneCell']) ?_)
    intro w9 ha9 hu9
    have hld := ldRg16 ha9
    have HB9 := hid' (HBq.out.trans (hu9.below HG0.out))
    clear ha9 hu9
    go_wp2
    exact bodyPost_ret (v := .tuple #[.agg #[.int .i64 (max (n - ya) 0), .int .i64 (n - 1)], .bool true]) (by simp [results, Tryz.results190, asAddr, hld]) rfl ⟨by rw [HR.out]; rfl, HB9.out⟩
 ·have hxe := HXE.out rfl
  subst hxe
  have hz1 := HZ1.out rfl
  subst hz1
  cases f2
  ·cases ye
   ·have HR : Hid (Rg.rd l n = (⟨0, 0⟩, false)) := hid' (by rw [HRD.out]; rfl)
    go_wp2_with (refine wpl_store 228 _ _ rfl rfl b0 #[.int .i64 0, .int .i64 0] (by rfl) (by rfl) _ _ HXq.out sizeRg16 rfl (by simp [Value.oneCell']) ?_)
    intro w9 ha9 hu9
    have hld := ldRg16 ha9
    have HB9 := hid' (HBq.out.trans (hu9.below HG0.out))
    clear ha9 hu9
    go_wp2
    exact bodyPost_ret (v := .tuple #[.agg #[.int .i64 0, .int .i64 0], .bool false]) (by simp [results, Tryz.results190, asAddr, hld]) rfl ⟨by rw [HR.out]; rfl, HB9.out⟩
   ·have HR : Hid (Rg.rd l n = (⟨xa, n - 1⟩, true)) := hid' (by rw [HRD.out]; rfl)
    go_wp2_with (refine wpl_store 228 _ _ rfl rfl b0 #[.int .i64 xa, .int .i64 (n - 1)] (by rfl) (by rfl) _ _ HXq.out sizeRg16 rfl (by simp [Value.oneCell']) ?_)
    intro w9 ha9 hu9
    have hld := ldRg16 ha9
    have HB9 := hid' (HBq.out.trans (hu9.below HG0.out))
    clear ha9 hu9
    go_wp2
    exact bodyPost_ret (v := .tuple #[.agg #[.int .i64 xa, .int .i64 (n - 1)], .bool true]) (by simp [results, Tryz.results190, asAddr, hld]) rfl ⟨by rw [HR.out]; rfl, HB9.out⟩
  ·have hye := HYE.out rfl
   subst hye
   have hz2 := HZ2.out rfl
   subst hz2
   by_cases hle : xa ≤ ya
   ·have HR : Hid (Rg.rd l n = (⟨xa, min ya (n - 1)⟩, true)) := hid' (by rw [HRD.out, decide_eq_true hle]; rfl)
    go_wp2_with (refine wpl_store 228 _ _ rfl rfl b0 #[.int .i64 xa, .int .i64 (min ya (n - 1))] (by rfl) (by rfl) _ _ HXq.out sizeRg16 rfl (by simp [Value.oneCell']) ?_)
    intro w9 ha9 hu9
    have hld := ldRg16 ha9
    have HB9 := hid' (HBq.out.trans (hu9.below HG0.out))
    clear ha9 hu9
    go_wp2
    exact bodyPost_ret (v := .tuple #[.agg #[.int .i64 xa, .int .i64 (min ya (n - 1))], .bool true]) (by simp [results, Tryz.results190, asAddr, hld]) rfl ⟨by rw [HR.out]; rfl, HB9.out⟩
   ·have HR : Hid (Rg.rd l n = (⟨0, 0⟩, false)) := hid' (by rw [HRD.out, decide_eq_false hle]; rfl)
    go_wp2_with (refine wpl_store 228 _ _ rfl rfl b0 #[.int .i64 0, .int .i64 0] (by rfl) (by rfl) _ _ HXq.out sizeRg16 rfl (by simp [Value.oneCell']) ?_)
    intro w9 ha9 hu9
    have hld := ldRg16 ha9
    have HB9 := hid' (HBq.out.trans (hu9.below HG0.out))
    clear ha9 hu9
    go_wp2
    exact bodyPost_ret (v := .tuple #[.agg #[.int .i64 0, .int .i64 0], .bool false]) (by simp [results, Tryz.results190, asAddr, hld]) rfl ⟨by rw [HR.out]; rfl, HB9.out⟩

end Go.Proofs.YtcfbobegbmcbeaaGreatDoor
