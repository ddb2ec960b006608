/-
  The document's Parts: by its contract.
-/
import Derived.Test.YtdbldompjhienaaDoorRgD
import Derived.Test.YtdbldompjhienaaDoorRgE
import Derived.Test.YtdbldompjhienaaDoorRgJ
import Derived.Test.YtdbldompjhienaaDoorOwn
import Derived.Lib.AppendStr
namespace Go.Proofs.YtdbldompjhienaaDoor
open Go.RowKit

theorem infoB16 : (Tryd.prog.info? 5).map (fun i => (i.zero, i.size, i.bytes)) = some (some (.int .u8 0), 1, 1) := by kernel_rfl
theorem ar_grown16 {w w' : World} {g : Nat} {T e : TypeId} {c : Array Value} {B n s : Nat} {v : Value} {xs : List Value} (h : Ar w g T c) (ho : w.ownsRow B e s v n xs) (hg : w.grownBy w' v.ownBlock) (hT : T ≠ e) : Ar w' g T c := by
  have hne : v.ownBlock ≠ some g := fun hk => by
    obtain ⟨_, c1, h1⟩ := own_ty ho g hk
    unfold Ar at h
    rw [h1] at h
    injection h with h
    injection h with _ h2 _
    exact hT h2.symm
  unfold Ar at *
  rw [hg.block g (Array.getElem?_eq_some_iff.1 h).1 (fun e => hne e.symm)]
  exact h
theorem bc_app16 (l : List UInt8) (s : List UInt8) : byteCells l ++ Lib.strCells ⟨s.toArray⟩ = byteCells (l ++ s) := by
  unfold byteCells Lib.strCells
  rw [List.map_append]
theorem hd_cat16 (L K U : List UInt8) : ((((((⟨#[45, 45]⟩ : ByteArray) ++ ⟨L.toArray⟩) ++ ⟨#[13, 10, 67, 111, 110, 116, 101, 110, 116, 45, 84, 121, 112, 101, 58, 32]⟩) ++ ⟨K.toArray⟩) ++ ⟨#[13, 10, 67, 111, 110, 116, 101, 110, 116, 45, 82, 97, 110, 103, 101, 58, 32]⟩) ++ ⟨U.toArray⟩) ++ ⟨#[13, 10, 13, 10]⟩ = ⟨(Rg.dd ++ (L ++ (Rg.crlf ++ (Rg.sType ++ (K ++ (Rg.crlf ++ (Rg.sRange ++ (U ++ (Rg.crlf ++ Rg.crlf))))))))).toArray⟩ := by
  apply ByteArray.ext; simp [Rg.dd, Rg.crlf, Rg.sType, Rg.sRange]
theorem fin_cat16 (Z L : List UInt8) : (((⟨Z.toArray⟩ : ByteArray) ++ ⟨#[45, 45]⟩) ++ ⟨L.toArray⟩) ++ ⟨#[45, 45, 13, 10]⟩ = ⟨(Z ++ Rg.fin L).toArray⟩ := by
  apply ByteArray.ext; simp [Rg.fin, Rg.dd, Rg.crlf]

set_option maxHeartbeats 8000000 in
set_option maxRecDepth 20000 in
theorem rparts16 (x kd ln : ByteArray) (ao : Option Addr) (n cap : Nat) (rs : List Rg.Rn) (hn : rs.length = n) (hnb : n ≤ 1048576) (w : World) (hrs : RW16 w ao rs) (hx : x.size ≤ 1048576) (hk : kd.size ≤ 1048576) (hl : ln.size ≤ 1048576) :
    Calls Tryd.prog 19 #[.string x, .string kd, .string ln, .slice ao n cap] w fun e w' => e = .returned (.tuple #[.string ⟨(Rg.partsS x.data.toList kd.data.toList ln.data.toList rs).toArray⟩, .int .i64 (Rg.partsE x.data.toList rs)]) ∧ Below w.heap.size w w' := by
  obtain ⟨i0, hi0, hz0, hz1, hz2⟩ := minfo16 infoB16
  have HI := hid' hi0
  have HZ0 := hid' hz0
  have HZ1 := hid' hz1
  have HZ2 := hid' hz2
  clear hi0 hz0 hz1 hz2
  obtain ⟨X, hX⟩ : ∃ X, x.data.toList = X := ⟨_, rfl⟩
  obtain ⟨K, hK⟩ : ∃ K, kd.data.toList = K := ⟨_, rfl⟩
  obtain ⟨L, hL⟩ : ∃ L, ln.data.toList = L := ⟨_, rfl⟩
  rw [hX, hK, hL]
  have HXS : Hid (X.length = x.size) := hid' (by rw [← hX, ← Lib.size_eq])
  have HKS : K.length ≤ 1048576 := by rw [← hK, ← Lib.size_eq]; exact hk
  have HLS : L.length ≤ 1048576 := by rw [← hL, ← Lib.size_eq]; exact hl
  have HXX := hid' hX
  obtain rfl : kd = ⟨K.toArray⟩ := by rw [← hK]
  obtain rfl : ln = ⟨L.toArray⟩ := by rw [← hL]
  have HRS := hid' hrs
  have HN := hid' hn
  clear hX hK hL hrs hn hk hl
  go_enter Tryd.func19, Tryd.ntmps19
  go_wp2
  go_loopw [10, 11] (fun s10 s11 wr => ∃ (i c : Nat) (ro : Option Addr) (rc : Nat) (Z : List UInt8), s11 = .int .i64 (i : Int) ∧ s10 = .slice ro c rc ∧ i ≤ n ∧ Hid (Z.length = c) ∧ Hid ((rs.take i).flatMap (Rg.part X K L) = Z) ∧ Hid ((rs.take i).all (fun r => Rg.wth r X.length) = true) ∧ Hid (wr.ownsRow w.heap.size 5 1 (.slice ro c rc) c (byteCells Z)) ∧ Hid (Below w.heap.size w wr)) (fun _ s11 _ => n - (intOf s11).toNat)
  case atStart => exact ⟨0, 0, none, 0, [], rfl, rfl, Nat.zero_le _, hid' rfl, hid' rfl, hid' rfl, hid' (World.ownsRow_nil _ _ _ _), hid' (Below.refl _ _)⟩
  case round =>
    obtain ⟨i, c, ro, rc, Z, rfl, rfl, hi, HZL, HZE, HAL, HO, HB⟩ := hrel
    have hcb : c ≤ 1048576 * 3146228 := by
      have h2 := Rg.flat_len (k := K) (ln := L) HAL.out (by rw [HXS.out]; exact hx)
      have h3 : (rs.take i).length ≤ 1048576 := by rw [List.length_take, HN.out]; omega
      have h4 : X.length + K.length + L.length + 200 ≤ 3146228 := by rw [HXS.out]; omega
      rw [HZE.out, HZL.out] at h2
      exact Nat.le_trans h2 (Nat.mul_le_mul h3 h4)
    by_cases hlt : i < n
    · have hlt2 : (i : Int) < (n : Int) := by omega
      obtain ⟨r, hr⟩ : ∃ r, rs[i]? = some r := ⟨_, List.getElem?_eq_getElem (by rw [HN.out]; exact hlt)⟩
      obtain ⟨a, rfl, _, y0, y1⟩ := (HRS.out.below HB.out) i r hr
      have HMEM := hid' (List.mem_of_getElem? hr)
      have HAT := hid' (Rg.all_take2 (fun r => Rg.wth r X.length) hr)
      have HFT := hid' (Rg.flat_take (b := X) (k := K) (ln := L) hr)
      rw [HZE.out] at HFT
      obtain ⟨ra, rb⟩ := r
      simp only at y0 y1
      have HBa := hid' (below_two HB.out (bl_alloc wr (.cells #[.int .i64 ra, .int .i64 rb] 23)))
      have HOa := hid' (HO.out.alloc (.cells #[.int .i64 ra, .int .i64 rb] 23))
      have HLa : Hid (Ar (wr.alloc (.cells #[.int .i64 ra, .int .i64 rb] 23)) wr.heap.size 23 #[.int .i64 ra, .int .i64 rb]) := hid' (heap_alloc_last wr _)
      have HBAD : Hid (Rg.wth ⟨ra, rb⟩ (X.length : Int) = false → Rg.partsS X K L rs = [] ∧ Rg.partsE X rs = 1) := hid' (fun h => by
        have := Rg.okP_bad HMEM.out h
        unfold Rg.partsS Rg.partsE
        rw [this]
        exact ⟨rfl, rfl⟩)
      rw [HXS.out] at HBAD
      clear hr
      go_upto_region 6 with fail
      obtain ⟨fb, hfb⟩ : ∃ fb, wr.heap.size = fb := ⟨_, rfl⟩
      rw [hfb] at HLa ⊢
      generalize wr.alloc (.cells #[.int .i64 ra, .int .i64 rb] 23) = w2 at *
      have p0 := HLa.out.cell 0 _ rfl
      have p1 := HLa.out.cell 1 _ rfl
      clear hfb y0 y1
      by_cases t1 : ra < 0
      · have HF := hid' (HBAD.out (by unfold Rg.wth; simp only; rw [decide_eq_false (show ¬ 0 ≤ ra by omega), Bool.false_and]))
        go_wp2
        go_ret2
        exact ⟨by rw [HF.out.1, HF.out.2]; rfl, HBa.out⟩
      by_cases t2 : rb < ra
      · have HF := hid' (HBAD.out (by unfold Rg.wth; simp only; rw [decide_eq_false (show ¬ ra ≤ rb by omega), Bool.false_and, Bool.and_false]))
        go_wp2
        go_ret2
        exact ⟨by rw [HF.out.1, HF.out.2]; rfl, HBa.out⟩
      by_cases t3 : (x.size : Int) ≤ rb
      · have HF := hid' (HBAD.out (by unfold Rg.wth; simp only; rw [decide_eq_false (show ¬ rb < (x.size : Int) by omega), Bool.and_false, Bool.and_false]))
        go_wp2
        go_ret2
        exact ⟨by rw [HF.out.1, HF.out.2]; rfl, HBa.out⟩
      have HWR : Hid (Rg.wth ⟨ra, rb⟩ (X.length : Int) = true) := hid' (by unfold Rg.wth; simp only; rw [HXS.out, decide_eq_true (show 0 ≤ ra by omega), decide_eq_true (show ra ≤ rb by omega), decide_eq_true (show rb < (x.size : Int) by omega)]; rfl)
      obtain ⟨A, C, hrr, hAC, hCX⟩ := Rg.wth_nat HWR.out
      injection hrr with hA hC
      subst hA hC
      rw [HXS.out] at hCX
      have HTL := hid' (Rg.told_len HWR.out (by rw [HXS.out]; exact hx))
      have HTO := hid' (fun W => rtold16 ⟨(A : Int), (C : Int)⟩ (x.size : Int) W (by simp only; omega) (by simp only; omega) (by simp only; omega) (by simp only; omega) (by omega) (by omega))
      have HPT : Hid (Rg.part X K L ⟨(A : Int), (C : Int)⟩ = Rg.hd K L ⟨(A : Int), (C : Int)⟩ (x.size : Int) ++ (Rg.cutR X ⟨(A : Int), (C : Int)⟩ ++ Rg.crlf)) := hid' (by unfold Rg.part; rw [HXS.out])
      rw [HXS.out] at HTL
      simp only at HTO
      obtain ⟨U, hU⟩ : ∃ U, Rg.told ⟨(A : Int), (C : Int)⟩ (x.size : Int) = U := ⟨_, rfl⟩
      rw [hU] at HTO HTL
      have hUL : U.length ≤ 71 := HTL.out
      obtain ⟨V, hV⟩ : ∃ V, Rg.cutR X ⟨(A : Int), (C : Int)⟩ = V := ⟨_, rfl⟩
      have HVE : Hid (x.extract A (C + 1) = ⟨V.toArray⟩) := hid' (by
        rw [← hV, ext_td16, HXX.out]
        unfold Rg.cutR
        simp only [Int.toNat_natCast]
        rw [show ((C : Int) + 1).toNat = C + 1 by omega])
      have hVL : V.length ≤ 1048576 := by
        have := Rg.cutR_len X ⟨(A : Int), (C : Int)⟩
        rw [hV, HXS.out] at this
        omega
      obtain ⟨Y, hY⟩ : ∃ Y, Rg.dd ++ (L ++ (Rg.crlf ++ (Rg.sType ++ (K ++ (Rg.crlf ++ (Rg.sRange ++ (U ++ (Rg.crlf ++ Rg.crlf)))))))) = Y := ⟨_, rfl⟩
      have HPE : Hid (Rg.part X K L ⟨(A : Int), (C : Int)⟩ = Y ++ (V ++ Rg.crlf)) := hid' (by rw [HPT.out, hV]; unfold Rg.hd; rw [hU, hY])
      have hYL : Y.length = 2 + L.length + 16 + K.length + 17 + U.length + 4 := by
        rw [← hY]; simp only [List.length_append, Rg.dd, Rg.crlf, Rg.sType, Rg.sRange, List.length_cons, List.length_nil]; omega
      have HYC := hid' (hd_cat16 L K U)
      rw [hY] at HYC
      have HYL := hid' hYL
      have k1 : ¬ 9223372036854775807 < 2 + L.length := by omega
      have k2 : ¬ 9223372036854775807 < 2 + L.length + 16 := by omega
      have k3 : ¬ 9223372036854775807 < 2 + L.length + 16 + K.length := by omega
      have k4 : ¬ 9223372036854775807 < 2 + L.length + 16 + K.length + 17 := by omega
      have k5 : ¬ 9223372036854775807 < 2 + L.length + 16 + K.length + 17 + U.length := by omega
      have k6 : ¬ 9223372036854775807 < 2 + L.length + 16 + K.length + 17 + U.length + 4 := by omega
      clear hU hV hY hYL
      go_wp2_with fail
      refine (HTO.out _).mono ?_
      rintro e w3 ⟨rfl, hb3⟩
      have HB3 := hid' (below_two HBa.out hb3)
      have HO3 := hid' (own_kp16 HOa.out hb3)
      have HL3 := hid' (HLa.out.keep hb3)
      clear hb3 p0 p1 HOa HLa
      go_wp2_with (at_builtin; refine Lib.wpList_append_own_string _ rfl _ _ 56 9 rfl w.heap.size 5 i0 Tryd.underlying56 Tryd.underlying9 HI.out HZ0.out HZ1.out HZ2.out (.slice ro c rc) c (byteCells Z) rfl HO3.out ⟨Y.toArray⟩ (by rw [← HYC.out]; rfl) (by rw [size_l']; unfold maxLen; have := HYL.out; omega) (by rw [size_l']; have := HYL.out; omega) HB3.out.size ?_; intro v4 w4 hown4 hgrow4 _; refine Hid.out ?_)
      refine hid' ?_
      rw [bc_app16, size_l'] at hown4
      obtain ⟨v4o, v4c, hv4⟩ := own_shape16 hown4
      subst hv4
      have HO4 := hid' hown4
      have HB4 : Hid (Below w.heap.size w w4) := hid' (HB3.out.grown hgrow4 HB3.out.size (fun k hk => (HO3.out.lt k hk).1))
      have HL4 := hid' (ar_grown16 HL3.out HO3.out hgrow4 (by decide))
      clear hown4 hgrow4 HO3 HB3 HL3 k1 k2 k3 k4 k5 k6
      have p0 := HL4.out.cell 0 _ rfl
      have p1 := HL4.out.cell 1 _ rfl
      have q1 : (A : Int) ≤ (C : Int) + 1 := by omega
      have q2 : (C : Int) + 1 ≤ (x.size : Int) := by omega
      have hve := HVE.out
      go_wp2_with (at_builtin; refine Lib.wpList_append_own_string _ rfl _ _ 56 9 rfl w.heap.size 5 i0 Tryd.underlying56 Tryd.underlying9 HI.out HZ0.out HZ1.out HZ2.out (.slice v4o (c + Y.length) v4c) (c + Y.length) (byteCells (Z ++ Y)) rfl HO4.out ⟨V.toArray⟩ rfl (by rw [size_l']; unfold maxLen; have := HYL.out; omega) (by rw [size_l']; have := HYL.out; omega) HB4.out.size ?_; intro v5 w5 hown5 hgrow5 _; refine Hid.out ?_)
      refine hid' ?_
      rw [bc_app16, size_l'] at hown5
      obtain ⟨v5o, v5c, hv5⟩ := own_shape16 hown5
      subst hv5
      have HO5 := hid' hown5
      have HB5 : Hid (Below w.heap.size w w5) := hid' (HB4.out.grown hgrow5 HB4.out.size (fun k hk => (HO4.out.lt k hk).1))
      clear hown5 hgrow5 HO4 HB4 HL4 p0 p1 q1 q2 hve
      go_wp2_with (at_builtin; refine Lib.wpList_append_own_string _ rfl _ _ 56 9 rfl w.heap.size 5 i0 Tryd.underlying56 Tryd.underlying9 HI.out HZ0.out HZ1.out HZ2.out (.slice v5o (c + Y.length + V.length) v5c) (c + Y.length + V.length) (byteCells (Z ++ Y ++ V)) rfl HO5.out ⟨Rg.crlf.toArray⟩ rfl (by rw [size_l', show Rg.crlf.length = 2 from rfl]; unfold maxLen; have := HYL.out; omega) (by rw [size_l', show Rg.crlf.length = 2 from rfl]; have := HYL.out; omega) HB5.out.size ?_; intro v6 w6 hown6 hgrow6 _; refine Hid.out ?_)
      refine hid' ?_
      rw [bc_app16, size_l', show Rg.crlf.length = 2 from rfl] at hown6
      obtain ⟨v6o, v6c, hv6⟩ := own_shape16 hown6
      subst hv6
      have HO6 := hid' hown6
      have HB6 : Hid (Below w.heap.size w w6) := hid' (HB5.out.grown hgrow6 HB5.out.size (fun k hk => (HO5.out.lt k hk).1))
      have HZ6 : Hid ((rs.take (i + 1)).flatMap (Rg.part X K L) = Z ++ Y ++ V ++ Rg.crlf) := hid' (by rw [HFT.out, HPE.out]; simp)
      have HZ6L : Hid ((Z ++ Y ++ V ++ Rg.crlf).length = c + Y.length + V.length + 2) := hid' (by rw [List.length_append, List.length_append, List.length_append, HZL.out]; rfl)
      have HAL6 : Hid ((rs.take (i + 1)).all (fun r => Rg.wth r X.length) = true) := hid' (by rw [HAT.out, HAL.out, HWR.out]; rfl)
      clear hown6 hgrow6 HO5 HB5
      go_wp2
      go_roundw
      case rel => exact ⟨i + 1, c + Y.length + V.length + 2, v6o, v6c, Z ++ Y ++ V ++ Rg.crlf, by go_num, rfl, by omega, HZ6L, HZ6, HAL6, HO6, HB6⟩
      case measure => simp [intOf]; omega
    · have hlt2 : ¬ (i : Int) < (n : Int) := by omega
      have HTk : Hid (rs.take i = rs) := hid' (List.take_of_length_le (by rw [HN.out]; omega))
      rw [HTk.out] at HAL HZE
      by_cases hn0 : n = 0
      · have hnB : ((n : Int) == 0) = true := by rw [beq_iff_eq]; omega
        have HOK : Hid (Rg.okP X rs = false) := hid' (by
          have : rs = [] := List.eq_nil_of_length_eq_zero (HN.out.trans hn0)
          rw [this]; rfl)
        have HS : Hid (Rg.partsS X K L rs = []) := hid' (by unfold Rg.partsS; rw [HOK.out]; rfl)
        have HE : Hid (Rg.partsE X rs = 1) := hid' (by unfold Rg.partsE; rw [HOK.out]; rfl)
        clear hn0 hlt
        go_wp2
        go_ret2
        exact ⟨by rw [HS.out, HE.out]; rfl, HB.out⟩
      have hnB : ((n : Int) == 0) = false := by rw [beq_eq_false_iff_ne]; omega
      have HNE : Hid (rs.isEmpty = false) := hid' (by
        cases hq : rs with
        | nil => exact absurd (HN.out.symm.trans (by rw [hq]; rfl)) hn0
        | cons a b => rfl)
      have HOK : Hid (Rg.okP X rs = true) := hid' (by unfold Rg.okP; rw [HNE.out, HAL.out]; rfl)
      have HS : Hid (Rg.partsS X K L rs = Z ++ Rg.fin L) := hid' (by unfold Rg.partsS Rg.parts; rw [HOK.out, HZE.out]; rfl)
      have HE : Hid (Rg.partsE X rs = 0) := hid' (by unfold Rg.partsE; rw [HOK.out]; rfl)
      have hcv := own_string' HO.out HZL.out
      have hZb : Z.length ≤ 1048576 * 3146228 := by rw [HZL.out]; exact hcb
      have k1 : ¬ 9223372036854775807 < Z.length + 2 := by omega
      have k2 : ¬ 9223372036854775807 < Z.length + 2 + L.length := by omega
      have k3 : ¬ 9223372036854775807 < Z.length + 2 + L.length + 4 := by omega
      clear hn0 hlt
      go_wp2
      go_ret2
      exact ⟨by rw [HS.out, HE.out, ← fin_cat16]; rfl, HB.out⟩

end Go.Proofs.YtdbldompjhienaaDoor
