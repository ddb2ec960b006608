/-
  The code's read: by its contract.
-/
import Derived.Test.YtdbldompjhienaaDoorRhE
namespace Go.Proofs.YtdbldompjhienaaDoor
open Go.RowKit

namespace Rg
/-- What the code reads of a piece. -/
def rd (l : T8) (n : Int) : Rn × Bool := if (pc l n).2.2 then ((pc l n).1, true) else (⟨0, 0⟩, false)
theorem rd_no {l : T8} {n : Int} (h : hasD l = false) : rd l n = (⟨0, 0⟩, false) := by unfold rd pc; rw [h]; rfl
theorem rd_yes {l : T8} {n : Int} (h : hasD l = true) : rd l n =
    if (l.take (ahead l)).isEmpty then (if digB (l.drop (ahead l + 1)) then (⟨max (n - digN (l.drop (ahead l + 1))) 0, n - 1⟩, true) else (⟨0, 0⟩, false))
    else if (l.drop (ahead l + 1)).isEmpty then (if digB (l.take (ahead l)) then (⟨digN (l.take (ahead l)), n - 1⟩, true) else (⟨0, 0⟩, false))
    else if digB (l.take (ahead l)) && digB (l.drop (ahead l + 1)) && decide (digN (l.take (ahead l)) ≤ digN (l.drop (ahead l + 1))) then (⟨digN (l.take (ahead l)), min (digN (l.drop (ahead l + 1))) (n - 1)⟩, true) else (⟨0, 0⟩, false) := by
  have hal := ahead_lt h
  have e1 : (l.take (ahead l)).isEmpty = decide (ahead l = 0) := by
    rw [Bool.eq_iff_iff, List.isEmpty_iff_length_eq_zero, decide_eq_true_iff, List.length_take]; omega
  have e2 : (l.drop (ahead l + 1)).isEmpty = decide (ahead l + 1 = l.length) := by
    rw [Bool.eq_iff_iff, List.isEmpty_iff_length_eq_zero, decide_eq_true_iff, List.length_drop]; omega
  unfold rd pc
  rw [if_pos h, e1, e2]
  simp only
  by_cases h0 : ahead l = 0
  · simp only [h0, if_true, decide_true]
  · by_cases h1 : ahead l + 1 = l.length
    · simp only [h0, h1, if_true, if_false, decide_true, decide_false, Bool.false_eq_true]
    · simp only [h0, h1, if_false, decide_false, Bool.false_eq_true]
theorem digB_empty {l : T8} (h : digB l = true) : l.isEmpty = false := by
  cases l with
  | nil => exact absurd h (by decide)
  | cons a b => rfl
end Rg
def rdV16 (q : Rg.Rn × Bool) : Value := .tuple #[.agg #[.int .i64 q.1.a, .int .i64 q.1.b], .bool q.2]

set_option maxHeartbeats 4000000 in
set_option maxRecDepth 20000 in
theorem cread16 (s : ByteArray) (l : List UInt8) (hl : s.data.toList = l) (n : Int) (n0 : 0 ≤ n) (n1 : n ≤ 9223372036854775807) (w : World) (hs : s.size ≤ 1048576) (hT : TB16 w) :
    Calls Tryd.prog 25 #[.string s, .int .i64 n] w fun e w' => e = .returned (rdV16 (Rg.rd l n)) ∧ Below w.heap.size w w' := by
  have HSL : Hid (l.length ≤ 1048576) := hid' (by rw [← hl, ← Lib.size_eq]; exact hs)
  have HC := hid' (fun W (h : TB16 W) => scut16 s ⟨#[45]⟩ W hs h)
  have HT := hid' hT
  rw [hl, show (⟨#[45]⟩ : ByteArray).data.toList = [45] from rfl, Rg.cut_dash] at HC
  clear hT hl
  cases hd : Rg.hasD l
  · rw [hd] at HC
    simp only [Bool.false_eq_true, if_false] at HC
    have HR := hid' (Rg.rd_no (n := n) hd)
    obtain ⟨z1, _, hc1⟩ := cnum16 ⟨l.toArray⟩ l rfl (by rw [size_l16]; exact HSL.out)
    obtain ⟨z2, _, hc2⟩ := cnum16 ⟨([] : List UInt8).toArray⟩ [] rfl (by simp [ByteArray.size])
    have HC1 := hid' hc1
    have HC2 := hid' hc2
    obtain ⟨x, hx⟩ : ∃ x : ByteArray, (⟨l.toArray⟩ : ByteArray) = x := ⟨_, rfl⟩
    obtain ⟨y, hy⟩ : ∃ x : ByteArray, (⟨([] : List UInt8).toArray⟩ : ByteArray) = x := ⟨_, rfl⟩
    rw [hx] at HC1 HC
    rw [hy] at HC2 HC
    generalize Rg.digB l = f1 at HC1
    generalize Rg.digB [] = f2 at HC2
    clear hd hc1 hc2 hx hy
    go_enter Tryd.func25, Tryd.ntmps25
    go_wp2_with (refine wpl_alloc 23 rfl rfl #[.int .i64 0, .int .i64 0] zeroRg16 ?_)
    intro b0 w0 hb0 ha0 hbe0
    have HX := hid' ha0
    have HB0 := hid' hbe0
    have HG0 := hid' hb0
    have HT0 := hid' (HT.out.keep hbe0)
    clear hb0 ha0 hbe0
    go_wp2_with fail
    refine (HC.out _ HT0.out).mono ?_
    rintro e w1 ⟨rfl, hb1⟩
    have HBq := hid' (below_two HB0.out hb1)
    have HXq := hid' (HX.out.keep hb1)
    clear hb1
    go_wp2_with fail
    refine (HC1.out _).mono ?_
    rintro e w2 ⟨rfl, hw⟩
    subst w2
    go_wp2_with fail
    refine (HC2.out _).mono ?_
    rintro e w2 ⟨rfl, hw⟩
    subst w2
    go_wp2_with (refine wpl_store 23 _ _ rfl rfl b0 #[.int .i64 0, .int .i64 0] (by rfl) (by rfl) _ _ HXq.out sizeRg16 rfl (by simp [Value.oneCell']) ?_)
    intro w9 ha9 hu9
    have hld := ldRg16 ha9
    have HB9 := hid' (HBq.out.trans (hu9.below HG0.out))
    clear ha9 hu9
    go_wp2
    exact bodyPost_ret (v := .tuple #[.agg #[.int .i64 0, .int .i64 0], .bool false]) (by simp [results, Tryd.results25, asAddr, hld]) rfl ⟨by rw [HR.out]; rfl, HB9.out⟩
  rw [hd] at HC
  simp only [if_true] at HC
  have HRD := hid' (Rg.rd_yes (n := n) hd)
  have hXL : (l.take (Rg.ahead l)).length ≤ 1048576 := Nat.le_trans (List.length_take_le' _ _) HSL.out
  have hYL : (l.drop (Rg.ahead l + 1)).length ≤ 1048576 := by rw [List.length_drop]; have := HSL.out; omega
  generalize l.take (Rg.ahead l) = X at HC HRD hXL
  generalize l.drop (Rg.ahead l + 1) = Y at HC HRD hYL
  obtain ⟨z1, hz1, hc1⟩ := cnum16 ⟨X.toArray⟩ X rfl (by rw [size_l16]; exact hXL)
  obtain ⟨z2, hz2, hc2⟩ := cnum16 ⟨Y.toArray⟩ Y rfl (by rw [size_l16]; exact hYL)
  have HZ1 : Hid (Rg.digB X = true → Rg.digN X = z1) := hid' (fun h => (hz1 h).symm)
  have HZ2 : Hid (Rg.digB Y = true → Rg.digN Y = z2) := hid' (fun h => (hz2 h).symm)
  have xb := Rg.digN_bd X
  have yb := Rg.digN_bd Y
  have HC1 := hid' hc1
  have HC2 := hid' hc2
  have HXE : Hid (Rg.digB X = true → X.isEmpty = false) := hid' Rg.digB_empty
  have HYE : Hid (Rg.digB Y = true → Y.isEmpty = false) := hid' Rg.digB_empty
  obtain ⟨x, hx⟩ : ∃ x : ByteArray, (⟨X.toArray⟩ : ByteArray) = x := ⟨_, rfl⟩
  obtain ⟨y, hy⟩ : ∃ x : ByteArray, (⟨Y.toArray⟩ : ByteArray) = x := ⟨_, rfl⟩
  have hxe : x.toList.isEmpty = X.isEmpty := by rw [← hx, Lib.toList_data]
  have hye : y.toList.isEmpty = Y.isEmpty := by rw [← hy, Lib.toList_data]
  rw [hx] at HC1 HC
  rw [hy] at HC2 HC
  generalize Rg.digB X = f1 at HC1 HRD HXE HZ1
  generalize Rg.digB Y = f2 at HC2 HRD HYE HZ2
  generalize Rg.digN X = xa at HRD HZ1 xb
  generalize Rg.digN Y = ya at HRD HZ2 yb
  generalize X.isEmpty = xe at HRD HXE hxe
  generalize Y.isEmpty = ye at HRD HYE hye
  clear hd hc1 hc2 hx hy hz1 hz2 hXL hYL
  have wn1 : IntKind.i64.wrap (n - 1) = n - 1 := wrp16 _ (by omega) (by omega)
  go_enter Tryd.func25, Tryd.ntmps25
  go_wp2_with (refine wpl_alloc 23 rfl rfl #[.int .i64 0, .int .i64 0] zeroRg16 ?_)
  intro b0 w0 hb0 ha0 hbe0
  have HX := hid' ha0
  have HB0 := hid' hbe0
  have HG0 := hid' hb0
  have HT0 := hid' (HT.out.keep hbe0)
  clear hb0 ha0 hbe0
  go_wp2_with fail
  refine (HC.out _ HT0.out).mono ?_
  rintro e w1 ⟨rfl, hb1⟩
  have HBq := hid' (below_two HB0.out hb1)
  have HXq := hid' (HX.out.keep hb1)
  clear hb1
  go_wp2_with fail
  refine (HC1.out _).mono ?_
  rintro e w2 ⟨rfl, hw⟩
  subst w2
  go_wp2_with fail
  refine (HC2.out _).mono ?_
  rintro e w2 ⟨rfl, hw⟩
  subst w2
  cases f1
  · cases xe
    · have HR : Hid (Rg.rd l n = (⟨0, 0⟩, false)) := hid' (by rw [HRD.out]; cases ye <;> rfl)
      go_wp2_with (refine wpl_store 23 _ _ rfl rfl b0 #[.int .i64 0, .int .i64 0] (by rfl) (by rfl) _ _ HXq.out sizeRg16 rfl (by simp [Value.oneCell']) ?_)
      intro w9 ha9 hu9
      have hld := ldRg16 ha9
      have HB9 := hid' (HBq.out.trans (hu9.below HG0.out))
      clear ha9 hu9
      go_wp2
      exact bodyPost_ret (v := .tuple #[.agg #[.int .i64 0, .int .i64 0], .bool false]) (by simp [results, Tryd.results25, asAddr, hld]) rfl ⟨by rw [HR.out]; rfl, HB9.out⟩
    · cases f2
      · have HR : Hid (Rg.rd l n = (⟨0, 0⟩, false)) := hid' (by rw [HRD.out]; rfl)
        go_wp2_with (refine wpl_store 23 _ _ rfl rfl b0 #[.int .i64 0, .int .i64 0] (by rfl) (by rfl) _ _ HXq.out sizeRg16 rfl (by simp [Value.oneCell']) ?_)
        intro w9 ha9 hu9
        have hld := ldRg16 ha9
        have HB9 := hid' (HBq.out.trans (hu9.below HG0.out))
        clear ha9 hu9
        go_wp2
        exact bodyPost_ret (v := .tuple #[.agg #[.int .i64 0, .int .i64 0], .bool false]) (by simp [results, Tryd.results25, asAddr, hld]) rfl ⟨by rw [HR.out]; rfl, HB9.out⟩
      · have hz2 := HZ2.out rfl
        subst hz2
        have wnb : IntKind.i64.wrap (n - ya) = n - ya := wrp16 _ (by omega) (by omega)
        have HR : Hid (Rg.rd l n = (⟨max (n - ya) 0, n - 1⟩, true)) := hid' (by rw [HRD.out]; rfl)
        go_wp2_with (refine wpl_store 23 _ _ rfl rfl b0 #[.int .i64 (max (n - ya) 0), .int .i64 (n - 1)] (by rfl) (by rfl) _ _ HXq.out sizeRg16 rfl (by simp [Value.oneCell']) ?_)
        intro w9 ha9 hu9
        have hld := ldRg16 ha9
        have HB9 := hid' (HBq.out.trans (hu9.below HG0.out))
        clear ha9 hu9
        go_wp2
        exact bodyPost_ret (v := .tuple #[.agg #[.int .i64 (max (n - ya) 0), .int .i64 (n - 1)], .bool true]) (by simp [results, Tryd.results25, asAddr, hld]) rfl ⟨by rw [HR.out]; rfl, HB9.out⟩
  · have hxe := HXE.out rfl
    subst hxe
    have hz1 := HZ1.out rfl
    subst hz1
    cases f2
    · cases ye
      · have HR : Hid (Rg.rd l n = (⟨0, 0⟩, false)) := hid' (by rw [HRD.out]; rfl)
        go_wp2_with (refine wpl_store 23 _ _ rfl rfl b0 #[.int .i64 0, .int .i64 0] (by rfl) (by rfl) _ _ HXq.out sizeRg16 rfl (by simp [Value.oneCell']) ?_)
        intro w9 ha9 hu9
        have hld := ldRg16 ha9
        have HB9 := hid' (HBq.out.trans (hu9.below HG0.out))
        clear ha9 hu9
        go_wp2
        exact bodyPost_ret (v := .tuple #[.agg #[.int .i64 0, .int .i64 0], .bool false]) (by simp [results, Tryd.results25, asAddr, hld]) rfl ⟨by rw [HR.out]; rfl, HB9.out⟩
      · have HR : Hid (Rg.rd l n = (⟨xa, n - 1⟩, true)) := hid' (by rw [HRD.out]; rfl)
        go_wp2_with (refine wpl_store 23 _ _ rfl rfl b0 #[.int .i64 xa, .int .i64 (n - 1)] (by rfl) (by rfl) _ _ HXq.out sizeRg16 rfl (by simp [Value.oneCell']) ?_)
        intro w9 ha9 hu9
        have hld := ldRg16 ha9
        have HB9 := hid' (HBq.out.trans (hu9.below HG0.out))
        clear ha9 hu9
        go_wp2
        exact bodyPost_ret (v := .tuple #[.agg #[.int .i64 xa, .int .i64 (n - 1)], .bool true]) (by simp [results, Tryd.results25, asAddr, hld]) rfl ⟨by rw [HR.out]; rfl, HB9.out⟩
    · have hye := HYE.out rfl
      subst hye
      have hz2 := HZ2.out rfl
      subst hz2
      by_cases hle : xa ≤ ya
      · have HR : Hid (Rg.rd l n = (⟨xa, min ya (n - 1)⟩, true)) := hid' (by rw [HRD.out, decide_eq_true hle]; rfl)
        go_wp2_with (refine wpl_store 23 _ _ rfl rfl b0 #[.int .i64 xa, .int .i64 (min ya (n - 1))] (by rfl) (by rfl) _ _ HXq.out sizeRg16 rfl (by simp [Value.oneCell']) ?_)
        intro w9 ha9 hu9
        have hld := ldRg16 ha9
        have HB9 := hid' (HBq.out.trans (hu9.below HG0.out))
        clear ha9 hu9
        go_wp2
        exact bodyPost_ret (v := .tuple #[.agg #[.int .i64 xa, .int .i64 (min ya (n - 1))], .bool true]) (by simp [results, Tryd.results25, asAddr, hld]) rfl ⟨by rw [HR.out]; rfl, HB9.out⟩
      · have HR : Hid (Rg.rd l n = (⟨0, 0⟩, false)) := hid' (by rw [HRD.out, decide_eq_false hle]; rfl)
        go_wp2_with (refine wpl_store 23 _ _ rfl rfl b0 #[.int .i64 0, .int .i64 0] (by rfl) (by rfl) _ _ HXq.out sizeRg16 rfl (by simp [Value.oneCell']) ?_)
        intro w9 ha9 hu9
        have hld := ldRg16 ha9
        have HB9 := hid' (HBq.out.trans (hu9.below HG0.out))
        clear ha9 hu9
        go_wp2
        exact bodyPost_ret (v := .tuple #[.agg #[.int .i64 0, .int .i64 0], .bool false]) (by simp [results, Tryd.results25, asAddr, hld]) rfl ⟨by rw [HR.out]; rfl, HB9.out⟩

end Go.Proofs.YtdbldompjhienaaDoor
