/-
  from the first byte on is the whole body; so is a tail as long as the body, or longer.
-/
import Derived.Test.YtdbldompjhienaaDoorRhK
import Derived.Test.YtdbldompjhienaaDoorLawRangesExact
import Derived.Test.YtdbldompjhienaaDoorRgD
namespace Go.Proofs.YtdbldompjhienaaDoor
open Go.RowKit

namespace Rg
theorem ask_0 {n : Int} (n0 : 0 < n) : err [98, 121, 116, 101, 115, 61, 48, 45] n = 0 ∧ res [98, 121, 116, 101, 115, 61, 48, 45] n = [⟨0, n - 1⟩] := by
  have := ask_a (a := 0) (n := n) (by omega) (by omega) (by omega)
  rw [if_pos n0, if_pos n0, show Lib.itoa 0 = [48] by decide +kernel] at this
  exact this
end Rg

set_option maxHeartbeats 8000000 in
set_option maxRecDepth 20000 in
theorem rangesWhole_any (n k : Int) (w : World) (n0 : -9223372036854775808 ≤ n) (n1 : n ≤ 9223372036854775807) (k0 : -9223372036854775808 ≤ k) (k9 : k ≤ 9223372036854775807) (hT : TB16 w) :
    Calls Tryd.prog 8 #[.int .i64 n, .int .i64 k] w fun e w' => e = .returned (.bool true) ∧ Below w.heap.size w w' := by
  have HT := hid' hT
  have HAW := hid' (fun W (h : TB16 W) => awake16 W h)
  clear hT
  by_cases t1 : n < 1
  · go_enter Tryd.func8, Tryd.ntmps8
    go_wp2_with fail
    refine (HAW.out _ HT.out).mono ?_
    rintro e w1 ⟨rfl, hb1⟩
    go_wp2
    go_ret
    exact ⟨rfl, hb1⟩
  by_cases t2 : k < 0
  · go_enter Tryd.func8, Tryd.ntmps8
    go_wp2_with fail
    refine (HAW.out _ HT.out).mono ?_
    rintro e w1 ⟨rfl, hb1⟩
    go_wp2
    go_ret
    exact ⟨rfl, hb1⟩
  by_cases t3 : 1099511627776 < n
  · go_enter Tryd.func8, Tryd.ntmps8
    go_wp2_with fail
    refine (HAW.out _ HT.out).mono ?_
    rintro e w1 ⟨rfl, hb1⟩
    go_wp2
    go_ret
    exact ⟨rfl, hb1⟩
  by_cases t4 : 1099511627776 < k
  · go_enter Tryd.func8, Tryd.ntmps8
    go_wp2_with fail
    refine (HAW.out _ HT.out).mono ?_
    rintro e w1 ⟨rfl, hb1⟩
    go_wp2
    go_ret
    exact ⟨rfl, hb1⟩
  obtain ⟨D, hD⟩ : ∃ D, Lib.itoa (n + k) = D := ⟨_, rfl⟩
  have lD : D.length ≤ 21 := by rw [← hD]; exact Rg.itoa_19 (by omega) (by omega)
  have HDD := hid' (fun W => rDecimal_any (n + k) (by omega) (by omega) W)
  rw [hD] at HDD
  have hX := Rg.ask_0 (n := n) (by omega)
  have hY := Rg.ask_t (b := n + k) (n := n) (by omega) (by omega) (by omega)
  have hZ := Rg.ask_a (a := n + k) (n := n) (by omega) (by omega) (by omega)
  rw [if_neg (show ¬ n + k < n by omega), if_neg (show ¬ n + k < n by omega)] at hZ
  rw [show max (n - (n + k)) 0 = 0 by omega] at hY
  rw [hD] at hY hZ
  have HPX := hid' (fun W (h : TB16 W) => cparse16 ⟨#[98, 121, 116, 101, 115, 61, 48, 45]⟩ [98, 121, 116, 101, 115, 61, 48, 45] rfl n n1 W (by decide) h)
  have HPY := hid' (fun W (h : TB16 W) => cparse16 ⟨(Rg.head6 ++ (45 :: D)).toArray⟩ (Rg.head6 ++ (45 :: D)) rfl n n1 W (by rw [size_l16]; simp [Rg.head6]; omega) h)
  have HPZ := hid' (fun W (h : TB16 W) => cparse16 ⟨(Rg.head6 ++ (D ++ [45])).toArray⟩ (Rg.head6 ++ (D ++ [45])) rfl n n1 W (by rw [size_l16]; simp [Rg.head6]; omega) h)
  rw [hX.1, hX.2] at HPX
  rw [hY.1, hY.2, ← cat_t16] at HPY
  rw [hZ.1, hZ.2, ← cat_a16] at HPZ
  have k1 : ¬ 9223372036854775807 < 6 + D.length := by omega
  have k2 : ¬ 9223372036854775807 < 6 + D.length + 1 := by omega
  have k4 : ¬ 9223372036854775807 < 7 + D.length := by omega
  have wn1 : IntKind.i64.wrap (n - 1) = n - 1 := wrp16 _ (by omega) (by omega)
  have wnk : IntKind.i64.wrap (n + k) = n + k := wrp16 _ (by omega) (by omega)
  have HBa := hid' (bl_alloc w (.cells #[.int .i64 0, .int .i64 (n - 1)] 23))
  have HLa : Hid (RW16 (w.alloc (.cells #[.int .i64 0, .int .i64 (n - 1)] 23)) (some ⟨w.heap.size, 0, none⟩) [⟨0, n - 1⟩]) := hid' (RW16.lit (heap_alloc_last w _))
  clear hD hX hY hZ
  go_enter Tryd.func8, Tryd.ntmps8
  go_upto_region 4 with fail
  obtain ⟨gb, hgb⟩ : ∃ gb, w.heap.size = gb := ⟨_, rfl⟩
  have HBW : Hid (∀ W, Below (w.alloc (.cells #[.int .i64 0, .int .i64 (n - 1)] 23)).heap.size (w.alloc (.cells #[.int .i64 0, .int .i64 (n - 1)] 23)) W → Below w.heap.size w W) := hid' (fun W h => below_two HBa.out h)
  rw [hgb] at HLa ⊢
  have HTw0 := hid' (HT.out.keep HBa.out)
  generalize w.alloc (.cells #[.int .i64 0, .int .i64 (n - 1)] 23) = w0 at *
  have HBw0 := hid' (Below.refl w0.heap.size w0)
  have HT := HTw0
  have HLL : Hid (∀ W, Below w0.heap.size w0 W → RW16 W (some ⟨gb, 0, none⟩) [⟨0, n - 1⟩]) := hid' (fun W h => HLa.out.below h)
  clear hgb HBa HLa HTw0
  have HTw0 := hid' (HT.out.keep HBw0.out)
  go_wp2_with fail
  refine (HPX.out _ HTw0.out).mono ?_
  rintro e w3 ⟨⟨mx, xo, xc, rfl, hm, hown⟩, hb⟩
  obtain rfl : 1 = mx := hm
  have HOxw3 := hid' hown
  clear hown
  have HBw3 := hid' (below_two HBw0.out hb)
  clear hb HBw0
  go_wp2_with fail
  refine (HDD.out _).mono ?_
  rintro e w4 ⟨rfl, hb⟩
  have HBw4 := hid' (below_two HBw3.out hb)
  have HOxw4 := hid' (own_kp16 HOxw3.out hb)
  clear hb HBw3 HOxw3
  have HTw4 := hid' (HT.out.keep HBw4.out)
  go_wp2_with fail
  refine (HPY.out _ HTw4.out).mono ?_
  rintro e w5 ⟨⟨my, yo, yc, rfl, hm, hown⟩, hb⟩
  obtain rfl : 1 = my := hm
  have HOyw5 := hid' hown
  clear hown
  have HBw5 := hid' (below_two HBw4.out hb)
  have HOxw5 := hid' (own_kp16 HOxw4.out hb)
  clear hb HBw4 HOxw4
  go_wp2_with fail
  refine (HDD.out _).mono ?_
  rintro e w6 ⟨rfl, hb⟩
  have HBw6 := hid' (below_two HBw5.out hb)
  have HOxw6 := hid' (own_kp16 HOxw5.out hb)
  have HOyw6 := hid' (own_kp16 HOyw5.out hb)
  clear hb HBw5 HOxw5 HOyw5
  have HTw6 := hid' (HT.out.keep HBw6.out)
  go_wp2_with fail
  refine (HPZ.out _ HTw6.out).mono ?_
  rintro e w7 ⟨⟨mz, zo, zc, rfl, hm, hown⟩, hb⟩
  obtain rfl : 0 = mz := hm
  have HOzw7 := hid' hown
  clear hown
  have HBw7 := hid' (below_two HBw6.out hb)
  have HOxw7 := hid' (own_kp16 HOxw6.out hb)
  have HOyw7 := hid' (own_kp16 HOyw6.out hb)
  clear hb HBw6 HOxw6 HOyw6
  have HSA := hid' (rsame16 xo (some ⟨gb, 0, none⟩) 1 xc 1 [⟨0, n - 1⟩] rfl (by omega) _ (RW16.own HOxw7.out) (HLL.out _ HBw7.out))
  go_wp2_with fail
  refine HSA.out.mono ?_
  rintro e w8 ⟨rfl, hb⟩
  clear HSA
  have HBw8 := hid' (below_two HBw7.out hb)
  have HOxw8 := hid' (own_kp16 HOxw7.out hb)
  have HOyw8 := hid' (own_kp16 HOyw7.out hb)
  clear hb HBw7 HOxw7 HOyw7
  have HSA := hid' (rsame16 yo (some ⟨gb, 0, none⟩) 1 yc 1 [⟨0, n - 1⟩] rfl (by omega) _ (RW16.own HOyw8.out) (HLL.out _ HBw8.out))
  go_wp2_with fail
  refine HSA.out.mono ?_
  rintro e w9 ⟨rfl, hb⟩
  clear HSA
  have HBw9 := hid' (below_two HBw8.out hb)
  have HOxw9 := hid' (own_kp16 HOxw8.out hb)
  have HOyw9 := hid' (own_kp16 HOyw8.out hb)
  clear hb HBw8 HOxw8 HOyw8
  have HTw9 := hid' (HT.out.keep HBw9.out)
  go_wp2_with fail
  refine (HAW.out _ HTw9.out).mono ?_
  rintro e wb ⟨rfl, hb⟩
  have HBwb := hid' (below_two HBw9.out hb)
  have HOxwb := hid' (own_kp16 HOxw9.out hb)
  have HOywb := hid' (own_kp16 HOyw9.out hb)
  clear hb HBw9 HOxw9 HOyw9
  have HBF := hid' (HBW.out _ HBwb.out)
  go_wp2
  go_ret
  exact ⟨rfl, HBF.out⟩

end Go.Proofs.YtdbldompjhienaaDoor
