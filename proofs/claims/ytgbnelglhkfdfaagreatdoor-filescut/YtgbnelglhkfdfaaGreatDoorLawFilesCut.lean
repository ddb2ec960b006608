/-
  The law FilesCut, over the code's Answer: a part is the body's part, and the parts of neighbouring ranges are the whole.
-/
import Derived.Test.YtgbnelglhkfdfaaGreatDoorFsS
import Derived.Test.YtgbnelglhkfdfaaGreatDoorFtQ
namespace Go.Proofs.YtgbnelglhkfdfaaGreatDoor
open Go.RowKit

theorem cut_two19 (y : ByteArray) (i j : Nat) (h : i ≤ j) : y.extract 0 i ++ y.extract i j = y.extract 0 j := by
  apply ByteArray.ext
  rw [ByteArray.data_append, ByteArray.data_extract, ByteArray.data_extract, ByteArray.data_extract, Array.extract_append_extract, Nat.zero_min, Nat.max_eq_right h]
theorem cut_all19 (y : ByteArray) (n : Nat) (h : y.size ≤ n) : y.extract 0 n = y := by
  apply ByteArray.ext
  rw [ByteArray.data_extract]
  exact Array.extract_eq_self_of_le h
theorem cut_size19 (y : ByteArray) (i j : Nat) : (y.extract i j).size ≤ y.size := by
  rw [ByteArray.size_extract]; omega

set_option maxHeartbeats 8000000 in
set_option maxRecDepth 20000 in
theorem filesCut_any (y : ByteArray) (t q a b : Int) (hy : y.size ≤ 140737488425328) (w : World) (hT : TB19 w) :
    Calls Tryz.prog 4 #[.agg #[.string y, .int .i64 t, .int .i64 q], .int .i64 a, .int .i64 b] w fun e w' => e = .returned (.bool true) ∧ Below w.heap.size w w' := by
  have HA : Hid AnsC19 := hid' cansC19
  have HT := hid' hT
  have HY := hid' hy
  clear hT hy
  go_enter Tryz.func4, Tryz.ntmps4
  go_wp2_with (refine wpl_box 31 _ rfl rfl #[.string y, .int .i64 t, .int .i64 q] (by kernel_rfl) ?_)
  intro xo w0 hg0 ha0 hb0
  have HX0 := hid' ha0
  have HB0 := hid' hb0
  clear hg0 ha0 hb0
  go_wp2_with fail
  refine (cnew13 w0).mono ?_
  rintro _ w1 ⟨⟨d, K1, rfl, hd⟩, hb⟩
  have HD1 := hid' hd
  have HB1 := hid' (below_two HB0.out hb)
  have HX1 := hid' (HX0.out.keep hb)
  have HL0 : Hid (xo < w0.heap.size) := hid' HX0.out.lt
  have HW0 : Hid (w.heap.size ≤ w0.heap.size) := hid' HB0.out.size
  have x0 := HX1.out.cell 0 _ rfl
  have x1 := HX1.out.cell 1 _ rfl
  clear hd hb HX0 HB0
  by_cases h1 : a < 0
  · go_wp2_with fail
    refine (awake19 HA.out _ (tb_below19 HT.out HB1.out)).mono ?_
    rintro _ w2 ⟨rfl, hb⟩
    have HB2 := hid' (below_two HB1.out hb)
    clear hb
    go_wp2
    go_ret
    exact ⟨rfl, HB2.out⟩
  by_cases h2 : b ≤ a
  · go_wp2_with fail
    refine (awake19 HA.out _ (tb_below19 HT.out HB1.out)).mono ?_
    rintro _ w2 ⟨rfl, hb⟩
    have HB2 := hid' (below_two HB1.out hb)
    clear hb
    go_wp2
    go_ret
    exact ⟨rfl, HB2.out⟩
  by_cases h3 : (y.size : Int) ≤ b
  · go_wp2_with fail
    refine (awake19 HA.out _ (tb_below19 HT.out HB1.out)).mono ?_
    rintro _ w2 ⟨rfl, hb⟩
    have HB2 := hid' (below_two HB1.out hb)
    clear hb
    go_wp2
    go_ret
    exact ⟨rfl, HB2.out⟩
  have d1 : decide (a < 0) = false := decide_eq_false h1
  have d2 : decide (b ≤ a) = false := decide_eq_false h2
  have d3 : decide ((y.size : Int) ≤ b) = false := decide_eq_false h3
  obtain ⟨c, es, q1, hput⟩ := putOf13_ex [] 0 ⟨#[47, 119, 47, 120]⟩ y t
  go_wp2_with fail
  refine (cput13 hput _ d K1 w1 HD1.out (by decide) HY.out (by decide) (by decide)).mono ?_
  rintro _ w2 ⟨rfl, K2, hd, hf, _⟩
  have HB2 := hid' (HB1.out.trans (hf.below HB1.out.size (fun k hk => Nat.le_trans HW0.out (HD1.out.lt k hk).1)))
  have HX2 := hid' (hf.ar HX1.out (fun hk => by have h1 := (HD1.out.lt _ hk).1; have h2 := HL0.out; omega))
  have HD2 := hid' hd
  clear hd hf HD1 HB1 HX1 x0 x1
  by_cases hc0 : c = 0
  · obtain ⟨rfl, rfl, hys, ht0, ht1⟩ := putX19 hput hc0
    subst hc0
    have HE : Hid (EN19 (Fs.eX y t 1)) := hid' ⟨hys, ht0, ht1, show (0 : Int) ≤ 1 by decide, show (1 : Int) ≤ 9223372036854775807 by decide⟩
    have HYS := hid' hys
    have HZ : Hid (∀ e ∈ [Fs.eX y t 1], EN19 e) := hid' (by intro e he; rw [List.mem_singleton.1 he]; exact HE.out)
    clear hput ht0 ht1
    obtain ⟨A1, hA1⟩ : ∃ A1, a + 1 = A1 := ⟨_, rfl⟩
    obtain ⟨B1, hB1⟩ : ∃ B1, b + 1 = B1 := ⟨_, rfl⟩
    have hwa : IntKind.i64.wrap (a + 1) = A1 := by rw [wrp _ (by omega) (by omega)]; exact hA1
    have hwb : IntKind.i64.wrap (b + 1) = B1 := by rw [wrp _ (by omega) (by omega)]; exact hB1
    have HP1 := hid' (fun (B sb : Nat) (K : Nat → Prop) W (h : CS W B sb K 1 [Fs.eX y t 1]) (hh : TB19 W) => cpart19 HA.out y t HE.out B sb K 0 a (by decide) (by omega) (by omega) W h hh)
    have HP2 := hid' (fun (B sb : Nat) (K : Nat → Prop) W (h : CS W B sb K 1 [Fs.eX y t 1]) (hh : TB19 W) => cpart19 HA.out y t HE.out B sb K A1 b (by omega) (by omega) (by omega) W h hh)
    rw [hA1, show (0 : Int).toNat = 0 from rfl] at HP1
    rw [hB1] at HP2
    have HN3 := hid' (fun W => num19_any B1 (by omega) (by omega) W)
    have l1 : (Lib.itoa B1).length ≤ 21 := Lib.itoa_length_le B1 (by omega) (by omega)
    have HV := hid' (va19 B1)
    have hvs : (Fs.vA B1).length ≤ 28 := by unfold Fs.vA Rg.head6; simp; omega
    have HVZ : Hid (Tg.vsz [Fs.fG (Fs.vA B1)] ≤ 1048576) := hid' (by rw [show Tg.vsz [Fs.fG (Fs.vA B1)] = (Fs.vA B1).length + 2 from rfl]; omega)
    have HAZ := hid' (fun (h : ¬ B1 < (y.size : Int)) => Fs.ans_z y t 1 (a := B1) (by omega) h (by omega))
    have HAA := hid' (fun (h : B1 < (y.size : Int)) => Fs.ans_a y t 1 (a := B1) (by omega) h (by omega))
    have HC12 : Hid (B1 = (y.size : Int) → y.extract 0 A1.toNat ++ y.extract A1.toNat B1.toNat = y) := hid' (fun h => by rw [cut_two19 y _ _ (by omega)]; exact cut_all19 y _ (by omega))
    have HC123 : Hid (y.extract 0 A1.toNat ++ y.extract A1.toNat B1.toNat ++ y.extract B1.toNat y.size = y) := hid' (by rw [cut_two19 y _ _ (by omega), cut_two19 y _ _ (by omega)]; exact cut_all19 y _ (Nat.le_refl _))
    have HCU : Hid ((⟨(((Fs.eX y t 1).body.data.toList.take ((y.size : Int) - 1 + 1).toNat).drop B1.toNat).toArray⟩ : ByteArray) = y.extract B1.toNat y.size) := hid' (by rw [show ((y.size : Int) - 1 + 1).toNat = y.size by omega]; exact cut19 y _ _)
    have so1 := cut_size19 y 0 A1.toNat
    have so2 := cut_size19 y A1.toNat B1.toNat
    have so3 := cut_size19 y B1.toNat y.size
    generalize y.extract 0 A1.toNat = o1 at *
    generalize y.extract A1.toNat B1.toNat = o2 at *
    generalize y.extract B1.toNat y.size = o3 at *
    obtain ⟨fv, hfv⟩ : ∃ fv, Fs.fG (Fs.vA B1) = fv := ⟨_, rfl⟩
    have HFV : Hid (⟨⟨#[114, 97, 110, 103, 101]⟩, Fs.str (Fs.vA B1)⟩ = fv) := hid' hfv
    rw [hfv] at HAZ HAA HVZ
    generalize Fs.str (Fs.vA B1) = vs at *
    obtain ⟨ib, hib⟩ : ∃ ib : ByteArray, (⟨(Lib.itoa B1).toArray⟩ : ByteArray) = ib := ⟨_, rfl⟩
    have z2 : ib.size ≤ 21 := by rw [← hib]; simpa [ByteArray.size] using l1
    rw [hib] at HN3 HV
    have s1 : 6 + ib.size ≤ 9223372036854775807 := by omega
    have s2 : 6 + ib.size + 1 ≤ 9223372036854775807 := by omega
    have s3 : o1.size + o2.size ≤ 9223372036854775807 := by omega
    have s4 : o1.size + o2.size + o3.size ≤ 9223372036854775807 := by omega
    have hvv := HV.out
    have HBN : Hid (B1 ≤ (y.size : Int)) := hid' (by omega)
    clear hA1 hB1 hfv hib z2 l1 hvs so1 so2 so3 h1 h2 h3 hys HV
    go_wp2_with fail
    refine (csnap13 _ d K2 1 [Fs.eX y t 1] w2 HD2.out).mono ?_
    rintro _ w3 ⟨⟨s, Ks, rfl, hs⟩, hb⟩
    have HS3 := hid' hs
    have HX3 := hid' (HX2.out.keep hb)
    have HB3 := hid' (below_from HB2.out hb HB2.out.size)
    clear hs hb HD2 HB2 HX2
    go_wp2_with fail
    refine (HP1.out _ s Ks w3 HS3.out (tb_below19 HT.out HB3.out)).mono ?_
    rintro _ w4 ⟨rfl, hb⟩
    have HS4 := hid' (cs_keep19 HS3.out hb)
    have HX4 := hid' (HX3.out.keep hb)
    have HB4 := hid' (below_from HB3.out hb HB3.out.size)
    clear hb HS3 HB3 HX3
    go_wp2_with fail
    refine (HP2.out _ s Ks w4 HS4.out (tb_below19 HT.out HB4.out)).mono ?_
    rintro _ w5 ⟨rfl, hb⟩
    have HS5 := hid' (cs_keep19 HS4.out hb)
    have HX5 := hid' (HX4.out.keep hb)
    have HB5 := hid' (below_from HB4.out hb HB4.out.size)
    clear hb HS4 HB4 HX4
    go_wp2_with fail
    refine (HN3.out w5).mono ?_
    rintro _ w6 ⟨rfl, hb⟩
    have hb7 := bl_alloc19 w6 (.cells #[.string ⟨#[114, 97, 110, 103, 101]⟩, .string vs] 42)
    have HS7 := hid' (cs_keep19 (cs_keep19 HS5.out hb) hb7)
    have HX7 := hid' ((HX5.out.keep hb).keep hb7)
    have HB7 := hid' (below_two (below_from HB5.out hb HB5.out.size) hb7)
    have HL : Hid (FW (w6.alloc (.cells #[.string ⟨#[114, 97, 110, 103, 101]⟩, .string vs] 42)) (.slice (some ⟨w6.heap.size, 0, none⟩) 1 1) [fv]) := hid' (by rw [← HFV.out]; exact fw_lit19 w6 [⟨⟨#[114, 97, 110, 103, 101]⟩, vs⟩] 1 rfl (by decide))
    clear hb hb7 HS5 HX5 HB5
    go_wp2_with fail
    refine (HA.out _ s Ks 1 [Fs.eX y t 1] ⟨#[47, 119]⟩ ⟨#[71, 69, 84]⟩ ⟨#[47, 120]⟩ ⟨#[120]⟩ (.slice (some ⟨w6.heap.size, 0, none⟩) 1 1) [fv] _ HS7.out HL.out (Nat.le_of_ble_eq_true rfl) HVZ.out (by decide) (by decide) (by decide) (by decide) HZ.out (tb_below19 HT.out HB7.out)).mono ?_
    by_cases hn : B1 = (y.size : Int)
    · obtain ⟨r, hr, hrs⟩ := HAZ.out (by omega)
      have ho := HC12.out hn
      have hbn : (B1 == (y.size : Int)) = true := by rw [hn]; exact beq_self_eq_true _
      have eyz : (y.toList == y.toList) = true := beq_self_eq_true _
      rw [show Fs.ans [Fs.eX y t 1] (⟨#[47, 119]⟩ : ByteArray).data.toList (⟨#[71, 69, 84]⟩ : ByteArray).data.toList (⟨#[47, 120]⟩ : ByteArray).data.toList (⟨#[120]⟩ : ByteArray).data.toList [fv] = r from hr, hrs]
      rintro _ w8 ⟨⟨vo, n, vc, rfl, _⟩, hb⟩
      have HX8 := hid' (HX7.out.keep hb)
      have HB8 := hid' (below_two HB7.out hb)
      unfold rpC
      generalize (⟨r.b.toArray⟩ : ByteArray) = rb at *
      have HR : Hid (Ar (w8.alloc (.cells #[.int .i64 416, .slice vo n vc, .string rb, .slice none 0 0] 24)) w8.heap.size 24 #[.int .i64 416, .slice vo n vc, .string rb, .slice none 0 0]) := hid' (heap_alloc_last w8 _)
      have hb9 := bl_alloc19 w8 (.cells #[.int .i64 416, .slice vo n vc, .string rb, .slice none 0 0] 24)
      have HX9 := hid' (HX8.out.keep hb9)
      have HB9 := hid' (below_two HB8.out hb9)
      clear hb hb9 hn hr hrs
      go_upto_region 11 with fail
      obtain ⟨rbk, hrb⟩ : ∃ rbk, w8.heap.size = rbk := ⟨_, rfl⟩
      rw [hrb] at HR ⊢
      generalize w8.alloc (.cells #[.int .i64 416, .slice vo n vc, .string rb, .slice none 0 0] 24) = w9 at *
      clear hrb
      have r0 := HR.out.cell 0 _ rfl
      have x0 := HX9.out.cell 0 _ rfl
      go_wp2_with fail
      refine (awake19 HA.out _ (tb_below19 HT.out HB9.out)).mono ?_
      rintro _ w10 ⟨rfl, hb⟩
      have HB10 := hid' (below_two HB9.out hb)
      clear hb
      go_wp2
      go_ret
      exact ⟨rfl, HB10.out⟩
    · have hlt : B1 < (y.size : Int) := by have := HBN.out; omega
      have ho := HC123.out
      have hbn : (B1 == (y.size : Int)) = false := by simpa using hn
      have eyz : (y.toList == y.toList) = true := beq_self_eq_true _
      rw [show Fs.ans [Fs.eX y t 1] (⟨#[47, 119]⟩ : ByteArray).data.toList (⟨#[71, 69, 84]⟩ : ByteArray).data.toList (⟨#[47, 120]⟩ : ByteArray).data.toList (⟨#[120]⟩ : ByteArray).data.toList [fv] = _ from HAA.out hlt]
      rintro _ w8 ⟨⟨vo, n, vc, rfl, _⟩, hb⟩
      have HX8 := hid' (HX7.out.keep hb)
      have HB8 := hid' (below_two HB7.out hb)
      unfold rpC Fs.one
      simp only
      rw [HCU.out]
      have HR : Hid (Ar (w8.alloc (.cells #[.int .i64 206, .slice vo n vc, .string o3, .slice none 0 0] 24)) w8.heap.size 24 #[.int .i64 206, .slice vo n vc, .string o3, .slice none 0 0]) := hid' (heap_alloc_last w8 _)
      have hb9 := bl_alloc19 w8 (.cells #[.int .i64 206, .slice vo n vc, .string o3, .slice none 0 0] 24)
      have HX9 := hid' (HX8.out.keep hb9)
      have HB9 := hid' (below_two HB8.out hb9)
      clear hb hb9 hn hlt
      go_upto_region 11 with fail
      obtain ⟨rbk, hrb⟩ : ∃ rbk, w8.heap.size = rbk := ⟨_, rfl⟩
      rw [hrb] at HR ⊢
      generalize w8.alloc (.cells #[.int .i64 206, .slice vo n vc, .string o3, .slice none 0 0] 24) = w9 at *
      clear hrb
      have r0 := HR.out.cell 0 _ rfl
      have r2 := HR.out.cell 2 _ rfl
      have x0 := HX9.out.cell 0 _ rfl
      go_wp2_with fail
      refine (awake19 HA.out _ (tb_below19 HT.out HB9.out)).mono ?_
      rintro _ w10 ⟨rfl, hb⟩
      have HB10 := hid' (below_two HB9.out hb)
      clear hb
      go_wp2
      go_ret
      exact ⟨rfl, HB10.out⟩
  · have hc1 : (c != 0) = true := by simp [hc0]
    clear hput
    go_wp2_with fail
    refine (awake19 HA.out _ (tb_below19 HT.out HB2.out)).mono ?_
    rintro _ w3 ⟨rfl, hb⟩
    have HB3 := hid' (below_two HB2.out hb)
    clear hb
    go_wp2
    go_ret
    exact ⟨rfl, HB3.out⟩

end Go.Proofs.YtgbnelglhkfdfaaGreatDoor
