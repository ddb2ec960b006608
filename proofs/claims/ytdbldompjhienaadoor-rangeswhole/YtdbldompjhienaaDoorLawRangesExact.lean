/-
  one range within the body is just what is asked for; a tail is the last bytes; a head is all from it on.
-/
import Derived.Test.YtdbldompjhienaaDoorRhK
import Derived.Test.YtdbldompjhienaaDoorRgL
import Derived.Test.YtdbldompjhienaaDoorRgD
namespace Go.Proofs.YtdbldompjhienaaDoor
open Go.RowKit

theorem cat_ab16 (A B : List UInt8) : (((⟨#[98, 121, 116, 101, 115, 61]⟩ : ByteArray) ++ ⟨A.toArray⟩) ++ ⟨#[45]⟩) ++ ⟨B.toArray⟩ = ⟨(Rg.head6 ++ (A ++ 45 :: B)).toArray⟩ := by
  apply ByteArray.ext; simp [Rg.head6]
theorem cat_a16 (A : List UInt8) : ((⟨#[98, 121, 116, 101, 115, 61]⟩ : ByteArray) ++ ⟨A.toArray⟩) ++ ⟨#[45]⟩ = ⟨(Rg.head6 ++ (A ++ [45])).toArray⟩ := by
  apply ByteArray.ext; simp [Rg.head6]
theorem cat_t16 (B : List UInt8) : (⟨#[98, 121, 116, 101, 115, 61, 45]⟩ : ByteArray) ++ ⟨B.toArray⟩ = ⟨(Rg.head6 ++ (45 :: B)).toArray⟩ := by
  apply ByteArray.ext; simp [Rg.head6]

set_option maxHeartbeats 8000000 in
set_option maxRecDepth 20000 in
theorem rangesExact_any (a b n : Int) (w : World) (a0 : -9223372036854775808 ≤ a) (a1 : a ≤ 9223372036854775807) (b0 : -9223372036854775808 ≤ b) (b1 : b ≤ 9223372036854775807) (n0 : -9223372036854775808 ≤ n) (n1 : n ≤ 9223372036854775807) (hT : TB16 w) :
    Calls Tryd.prog 6 #[.int .i64 a, .int .i64 b, .int .i64 n] w fun e w' => e = .returned (.bool true) ∧ Below w.heap.size w w' := by
  have HT := hid' hT
  have HAW := hid' (fun W (h : TB16 W) => awake16 W h)
  clear hT
  by_cases t1 : a < 0
  · go_enter Tryd.func6, Tryd.ntmps6
    go_wp2_with fail
    refine (HAW.out _ HT.out).mono ?_
    rintro e w1 ⟨rfl, hb1⟩
    go_wp2
    go_ret
    exact ⟨rfl, hb1⟩
  by_cases t2 : b < a
  · go_enter Tryd.func6, Tryd.ntmps6
    go_wp2_with fail
    refine (HAW.out _ HT.out).mono ?_
    rintro e w1 ⟨rfl, hb1⟩
    go_wp2
    go_ret
    exact ⟨rfl, hb1⟩
  by_cases t3 : n ≤ b
  · go_enter Tryd.func6, Tryd.ntmps6
    go_wp2_with fail
    refine (HAW.out _ HT.out).mono ?_
    rintro e w1 ⟨rfl, hb1⟩
    go_wp2
    go_ret
    exact ⟨rfl, hb1⟩
  by_cases t4 : 999999999999999 < n
  · go_enter Tryd.func6, Tryd.ntmps6
    go_wp2_with fail
    refine (HAW.out _ HT.out).mono ?_
    rintro e w1 ⟨rfl, hb1⟩
    go_wp2
    go_ret
    exact ⟨rfl, hb1⟩
  obtain ⟨A, hA⟩ : ∃ A, Lib.itoa a = A := ⟨_, rfl⟩
  obtain ⟨B, hB⟩ : ∃ B, Lib.itoa b = B := ⟨_, rfl⟩
  obtain ⟨D, hD⟩ : ∃ D, Lib.itoa (b + 1) = D := ⟨_, rfl⟩
  have lA : A.length ≤ 21 := by rw [← hA]; exact Rg.itoa_19 (by omega) (by omega)
  have lB : B.length ≤ 21 := by rw [← hB]; exact Rg.itoa_19 (by omega) (by omega)
  have lD : D.length ≤ 21 := by rw [← hD]; exact Rg.itoa_19 (by omega) (by omega)
  have HDA := hid' (fun W => rDecimal_any a a0 a1 W)
  have HDB := hid' (fun W => rDecimal_any b b0 b1 W)
  have HDD := hid' (fun W => rDecimal_any (b + 1) (by omega) (by omega) W)
  rw [hA] at HDA
  rw [hB] at HDB
  rw [hD] at HDD
  have hX := Rg.ask_ab (a := a) (b := b) (n := n) (by omega) (by omega) (by omega) (by omega)
  have hY := Rg.ask_a (a := a) (n := n) (by omega) (by omega) (by omega)
  have hZ := Rg.ask_t (b := b + 1) (n := n) (by omega) (by omega) (by omega)
  rw [if_pos (show a < n by omega), if_pos (show a < n by omega)] at hY
  rw [show max (n - (b + 1)) 0 = n - b - 1 by omega] at hZ
  rw [hA, hB] at hX
  rw [hA] at hY
  rw [hD] at hZ
  have HPX := hid' (fun W (h : TB16 W) => cparse16 ⟨(Rg.head6 ++ (A ++ 45 :: B)).toArray⟩ (Rg.head6 ++ (A ++ 45 :: B)) rfl n n1 W (by rw [size_l16]; simp [Rg.head6]; omega) h)
  have HPY := hid' (fun W (h : TB16 W) => cparse16 ⟨(Rg.head6 ++ (A ++ [45])).toArray⟩ (Rg.head6 ++ (A ++ [45])) rfl n n1 W (by rw [size_l16]; simp [Rg.head6]; omega) h)
  have HPZ := hid' (fun W (h : TB16 W) => cparse16 ⟨(Rg.head6 ++ (45 :: D)).toArray⟩ (Rg.head6 ++ (45 :: D)) rfl n n1 W (by rw [size_l16]; simp [Rg.head6]; omega) h)
  rw [hX.1, hX.2, ← cat_ab16] at HPX
  rw [hY.1, hY.2, ← cat_a16] at HPY
  rw [hZ.1, hZ.2, ← cat_t16] at HPZ
  have k1 : ¬ 9223372036854775807 < 6 + A.length := by omega
  have k2 : ¬ 9223372036854775807 < 6 + A.length + 1 := by omega
  have k3 : ¬ 9223372036854775807 < 6 + A.length + 1 + B.length := by omega
  have k4 : ¬ 9223372036854775807 < 7 + D.length := by omega
  have wn1 : IntKind.i64.wrap (n - 1) = n - 1 := wrp16 _ (by omega) (by omega)
  have wnb : IntKind.i64.wrap (n - b) = n - b := wrp16 _ (by omega) (by omega)
  have wnb1 : IntKind.i64.wrap (n - b - 1) = n - b - 1 := wrp16 _ (by omega) (by omega)
  have wb1 : IntKind.i64.wrap (b + 1) = b + 1 := wrp16 _ (by omega) (by omega)
  clear hA hB hD hX hY hZ
  go_enter Tryd.func6, Tryd.ntmps6
  go_wp2_with fail
  refine (HDA.out _).mono ?_
  rintro e w1 ⟨rfl, hb⟩
  have HBw1 := hid' hb
  clear hb
  go_wp2_with fail
  refine (HDB.out _).mono ?_
  rintro e w2 ⟨rfl, hb⟩
  have HBw2 := hid' (below_two HBw1.out hb)
  clear hb HBw1
  have HTw2 := hid' (HT.out.keep HBw2.out)
  go_wp2_with fail
  refine (HPX.out _ HTw2.out).mono ?_
  rintro e w3 ⟨⟨mx, xo, xc, rfl, hm, hown⟩, hb⟩
  obtain rfl : 1 = mx := hm
  have HOxw3 := hid' hown
  clear hown
  have HBw3 := hid' (below_two HBw2.out hb)
  clear hb HBw2
  go_wp2_with fail
  refine (HDA.out _).mono ?_
  rintro e w4 ⟨rfl, hb⟩
  have HBw4 := hid' (below_two HBw3.out hb)
  have HOxw4 := hid' (own_kp16 HOxw3.out hb)
  clear hb HBw3 HOxw3
  have HTw4 := hid' (HT.out.keep HBw4.out)
  go_wp2_with fail
  refine (HPY.out _ HTw4.out).mono ?_
  rintro e w5 ⟨⟨my, yo, yc, rfl, hm, hown⟩, hb⟩
  obtain rfl : 1 = my := hm
  have HOyw5 := hid' hown
  clear hown
  have HBw5 := hid' (below_two HBw4.out hb)
  have HOxw5 := hid' (own_kp16 HOxw4.out hb)
  clear hb HBw4 HOxw4
  go_wp2_with fail
  refine (HDD.out _).mono ?_
  rintro e w6 ⟨rfl, hb⟩
  have HBw6 := hid' (below_two HBw5.out hb)
  have HOxw6 := hid' (own_kp16 HOxw5.out hb)
  have HOyw6 := hid' (own_kp16 HOyw5.out hb)
  clear hb HBw5 HOxw5 HOyw5
  have HTw6 := hid' (HT.out.keep HBw6.out)
  go_wp2_with fail
  refine (HPZ.out _ HTw6.out).mono ?_
  rintro e w7 ⟨⟨mz, zo, zc, rfl, hm, hown⟩, hb⟩
  obtain rfl : 1 = mz := hm
  have HOzw7 := hid' hown
  clear hown
  have HBw7 := hid' (below_two HBw6.out hb)
  have HOxw7 := hid' (own_kp16 HOxw6.out hb)
  have HOyw7 := hid' (own_kp16 HOyw6.out hb)
  clear hb HBw6 HOxw6 HOyw6
  have HBa := hid' (bl_alloc w7 (.cells #[.int .i64 a, .int .i64 b] 23))
  have HLa : Hid (RW16 (w7.alloc (.cells #[.int .i64 a, .int .i64 b] 23)) (some ⟨w7.heap.size, 0, none⟩) [⟨a, b⟩]) := hid' (RW16.lit (heap_alloc_last w7 _))
  have HSA := hid' (rsame16 xo (some ⟨w7.heap.size, 0, none⟩) 1 xc 1 [⟨a, b⟩] rfl (by omega) _ (RW16.own (own_kp16 HOxw7.out HBa.out)) HLa.out)
  go_wp2_with fail
  refine HSA.out.mono ?_
  rintro e w8 ⟨rfl, hb0⟩
  have hb := below_two HBa.out hb0
  clear hb0 HBa HLa HSA
  have HBw8 := hid' (below_two HBw7.out hb)
  have HOxw8 := hid' (own_kp16 HOxw7.out hb)
  have HOyw8 := hid' (own_kp16 HOyw7.out hb)
  have HOzw8 := hid' (own_kp16 HOzw7.out hb)
  clear hb HBw7 HOxw7 HOyw7 HOzw7
  have HBa := hid' (bl_alloc w8 (.cells #[.int .i64 a, .int .i64 (n - 1)] 23))
  have HLa : Hid (RW16 (w8.alloc (.cells #[.int .i64 a, .int .i64 (n - 1)] 23)) (some ⟨w8.heap.size, 0, none⟩) [⟨a, n - 1⟩]) := hid' (RW16.lit (heap_alloc_last w8 _))
  have HSA := hid' (rsame16 yo (some ⟨w8.heap.size, 0, none⟩) 1 yc 1 [⟨a, n - 1⟩] rfl (by omega) _ (RW16.own (own_kp16 HOyw8.out HBa.out)) HLa.out)
  go_wp2_with fail
  refine HSA.out.mono ?_
  rintro e w9 ⟨rfl, hb0⟩
  have hb := below_two HBa.out hb0
  clear hb0 HBa HLa HSA
  have HBw9 := hid' (below_two HBw8.out hb)
  have HOxw9 := hid' (own_kp16 HOxw8.out hb)
  have HOyw9 := hid' (own_kp16 HOyw8.out hb)
  have HOzw9 := hid' (own_kp16 HOzw8.out hb)
  clear hb HBw8 HOxw8 HOyw8 HOzw8
  have HBa := hid' (bl_alloc w9 (.cells #[.int .i64 (n - b - 1), .int .i64 (n - 1)] 23))
  have HLa : Hid (RW16 (w9.alloc (.cells #[.int .i64 (n - b - 1), .int .i64 (n - 1)] 23)) (some ⟨w9.heap.size, 0, none⟩) [⟨n - b - 1, n - 1⟩]) := hid' (RW16.lit (heap_alloc_last w9 _))
  have HSA := hid' (rsame16 zo (some ⟨w9.heap.size, 0, none⟩) 1 zc 1 [⟨n - b - 1, n - 1⟩] rfl (by omega) _ (RW16.own (own_kp16 HOzw9.out HBa.out)) HLa.out)
  go_wp2_with fail
  refine HSA.out.mono ?_
  rintro e wa ⟨rfl, hb0⟩
  have hb := below_two HBa.out hb0
  clear hb0 HBa HLa HSA
  have HBwa := hid' (below_two HBw9.out hb)
  have HOxwa := hid' (own_kp16 HOxw9.out hb)
  have HOywa := hid' (own_kp16 HOyw9.out hb)
  have HOzwa := hid' (own_kp16 HOzw9.out hb)
  clear hb HBw9 HOxw9 HOyw9 HOzw9
  have HTwa := hid' (HT.out.keep HBwa.out)
  go_wp2_with fail
  refine (HAW.out _ HTwa.out).mono ?_
  rintro e wb ⟨rfl, hb⟩
  have HBwb := hid' (below_two HBwa.out hb)
  have HOxwb := hid' (own_kp16 HOxwa.out hb)
  have HOywb := hid' (own_kp16 HOywa.out hb)
  have HOzwb := hid' (own_kp16 HOzwa.out hb)
  clear hb HBwa HOxwa HOywa HOzwa
  go_wp2
  go_ret
  exact ⟨rfl, HBwb.out⟩

end Go.Proofs.YtdbldompjhienaaDoor
