/-
  The code's number and within: by their contracts.
  The code's read: by its contract.
  The code's Parse: by its contract.
-/
import Derived.Test.YtdbldompjhienaaDoorRhAC
import Derived.Test.YtdbldompjhienaaDoorRgPl
import Derived.Test.YtdbldompjhienaaDoorNums
import Derived.Test.YtdbldompjhienaaDoorRgC
import Derived.Test.YtdbldompjhienaaDoorList
import Derived.Test.YtdbldompjhienaaDoorPureMem
namespace Go.Proofs.YtdbldompjhienaaDoor
open Go.RowKit

set_option maxHeartbeats 1000000 in
theorem cnum16 (s : ByteArray) (l : List UInt8) (hl : s.data.toList = l) (hs : s.size ≤ 1048576) : ∃ z : Int, (Rg.digB l = true → z = Rg.digN l) ∧ ∀ (w : World),
    Calls Tryd.prog 37 #[.string s] w fun e w' => e = .returned (.tuple #[.int .i64 z, .bool (Rg.digB l)]) ∧ w' = w := by
  have HSZ : Hid (s.size = l.length) := hid' (by rw [Lib.size_eq, hl])
  by_cases h2 : (15 : Int) < (s.size : Int)
  · have HN : Hid (Rg.digB l = false) := hid' (by unfold Rg.digB; rw [decide_eq_false (show ¬ l.length ≤ 15 by have := HSZ.out; omega), Bool.and_false]; rfl)
    refine ⟨0, (fun h => by rw [HN.out] at h; cases h), fun w => ?_⟩
    rw [HN.out]
    go_enter Tryd.func37, Tryd.ntmps37
    go_wp2
    go_ret2
    exact ⟨rfl, rfl⟩
  · have HN : Hid (Rg.digB l = ((Tx.num 10 l).2 == 0)) := hid' (by rw [← Rg.cB_eq]; unfold Rg.cB; rw [decide_eq_true (show l.length ≤ 15 by have := HSZ.out; omega), Bool.true_and])
    have HNM := hid' (fun w => number_any s w (by unfold maxLen; omega))
    rw [hl] at HNM
    have HOK : Hid (Rg.digB l = true → (Tx.num 10 l).1 = Rg.digN l) := hid' (fun h => (Rg.digN_ok h).symm)
    obtain ⟨a, ha⟩ : ∃ a, (Tx.num 10 l).1 = a := ⟨_, rfl⟩
    obtain ⟨b, hb⟩ : ∃ b, (Tx.num 10 l).2 = b := ⟨_, rfl⟩
    rw [ha] at HOK HNM
    rw [hb] at HN HNM
    clear ha hb
    refine ⟨a, HOK.out, fun w => ?_⟩
    rw [HN.out]
    go_enter Tryd.func37, Tryd.ntmps37
    go_wp2_with fail
    refine (HNM.out _).mono ?_
    rintro e w1 ⟨rfl, hw⟩
    subst w1
    go_wp2
    go_ret2
    exact ⟨rfl, rfl⟩

set_option maxHeartbeats 1000000 in
theorem cwth16 (r : Rg.Rn) (n : Int) (w : World) :
    Calls Tryd.prog 26 #[.agg #[.int .i64 r.a, .int .i64 r.b], .int .i64 n] w fun e w' => e = .returned (.bool (Rg.wth r n)) ∧ Below w.heap.size w w' := by
  obtain ⟨a, b⟩ := r
  have HX : Hid (Ar (w.alloc (.cells #[.int .i64 a, .int .i64 b] 23)) w.heap.size 23 #[.int .i64 a, .int .i64 b]) := hid' (heap_alloc_last w _)
  have HB1 := hid' (bl_alloc w (.cells #[.int .i64 a, .int .i64 b] 23))
  by_cases h1 : (0 : Int) ≤ a
  · by_cases h2 : a ≤ b
    · have HW : Hid (Rg.wth ⟨a, b⟩ n = decide (b < n)) := hid' (by unfold Rg.wth; simp only; rw [decide_eq_true h1, decide_eq_true h2, Bool.true_and, Bool.true_and])
      go_enter Tryd.func26, Tryd.ntmps26
      go_wp2
      go_ret
      exact ⟨by rw [HW.out]; rfl, HB1.out⟩
    · have HW : Hid (Rg.wth ⟨a, b⟩ n = false) := hid' (by unfold Rg.wth; simp only; rw [decide_eq_false h2, Bool.false_and, Bool.and_false])
      go_enter Tryd.func26, Tryd.ntmps26
      go_wp2
      go_ret
      exact ⟨by rw [HW.out]; rfl, HB1.out⟩
  · have HW : Hid (Rg.wth ⟨a, b⟩ n = false) := hid' (by unfold Rg.wth; simp only; rw [decide_eq_false h1, Bool.false_and])
    go_enter Tryd.func26, Tryd.ntmps26
    go_wp2
    go_ret
    exact ⟨by rw [HW.out]; rfl, HB1.out⟩

end Go.Proofs.YtdbldompjhienaaDoor

namespace Go.Proofs.YtdbldompjhienaaDoor
open Go.RowKit

namespace Rg
/-- What the code reads of a piece. -/
def rd (l : T8) (n : Int) : Rn × Bool := if (pc l n).2.2 then ((pc l n).1, true) else (⟨0, 0⟩, false)
theorem rd_no {l : T8} {n : Int} (h : hasD l = false) : rd l n = (⟨0, 0⟩, false) := by unfold rd pc; rw [h]; rfl
theorem rd_yes {l : T8} {n : Int} (h : hasD l = true) : rd l n =
    if (l.take (ahead l)).isEmpty then (if digB (l.drop (ahead l + 1)) then (⟨max (n - digN (l.drop (ahead l + 1))) 0, n - 1⟩, true) else (⟨0, 0⟩, false))
    else if (l.drop (ahead l + 1)).isEmpty then (if digB (l.take (ahead l)) then (⟨digN (l.take (ahead l)), n - 1⟩, true) else (⟨0, 0⟩, false))
    else if digB (l.take (ahead l)) && digB (l.drop (ahead l + 1)) && decide (digN (l.take (ahead l)) ≤ digN (l.drop (ahead l + 1))) then (⟨digN (l.take (ahead l)), min (digN (l.drop (ahead l + 1))) (n - 1)⟩, true) else (⟨0, 0⟩, false) := by
  have hal := ahead_lt h
  have e1 : (l.take (ahead l)).isEmpty = decide (ahead l = 0) := by
    rw [Bool.eq_iff_iff, List.isEmpty_iff_length_eq_zero, decide_eq_true_iff, List.length_take]; omega
  have e2 : (l.drop (ahead l + 1)).isEmpty = decide (ahead l + 1 = l.length) := by
    rw [Bool.eq_iff_iff, List.isEmpty_iff_length_eq_zero, decide_eq_true_iff, List.length_drop]; omega
  unfold rd pc
  rw [if_pos h, e1, e2]
  simp only
  by_cases h0 : ahead l = 0
  · simp only [h0, if_true, decide_true]
  · by_cases h1 : ahead l + 1 = l.length
    · simp only [h0, h1, if_true, if_false, decide_true, decide_false, Bool.false_eq_true]
    · simp only [h0, h1, if_false, decide_false, Bool.false_eq_true]
theorem digB_empty {l : T8} (h : digB l = true) : l.isEmpty = false := by
  cases l with
  | nil => exact absurd h (by decide)
  | cons a b => rfl
end Rg
def rdV16 (q : Rg.Rn × Bool) : Value := .tuple #[.agg #[.int .i64 q.1.a, .int .i64 q.1.b], .bool q.2]

set_option maxHeartbeats 4000000 in
set_option maxRecDepth 20000 in
theorem cread16 (s : ByteArray) (l : List UInt8) (hl : s.data.toList = l) (n : Int) (n0 : 0 ≤ n) (n1 : n ≤ 9223372036854775807) (w : World) (hs : s.size ≤ 1048576) (hT : TB16 w) :
    Calls Tryd.prog 25 #[.string s, .int .i64 n] w fun e w' => e = .returned (rdV16 (Rg.rd l n)) ∧ Below w.heap.size w w' := by
  have HSL : Hid (l.length ≤ 1048576) := hid' (by rw [← hl, ← Lib.size_eq]; exact hs)
  have HC := hid' (fun W (h : TB16 W) => scut16 s ⟨#[45]⟩ W hs h)
  have HT := hid' hT
  rw [hl, show (⟨#[45]⟩ : ByteArray).data.toList = [45] from rfl, Rg.cut_dash] at HC
  clear hT hl
  cases hd : Rg.hasD l
  · rw [hd] at HC
    simp only [Bool.false_eq_true, if_false] at HC
    have HR := hid' (Rg.rd_no (n := n) hd)
    obtain ⟨z1, _, hc1⟩ := cnum16 ⟨l.toArray⟩ l rfl (by rw [size_l16]; exact HSL.out)
    obtain ⟨z2, _, hc2⟩ := cnum16 ⟨([] : List UInt8).toArray⟩ [] rfl (by simp [ByteArray.size])
    have HC1 := hid' hc1
    have HC2 := hid' hc2
    obtain ⟨x, hx⟩ : ∃ x : ByteArray, (⟨l.toArray⟩ : ByteArray) = x := ⟨_, rfl⟩
    obtain ⟨y, hy⟩ : ∃ x : ByteArray, (⟨([] : List UInt8).toArray⟩ : ByteArray) = x := ⟨_, rfl⟩
    rw [hx] at HC1 HC
    rw [hy] at HC2 HC
    generalize Rg.digB l = f1 at HC1
    generalize Rg.digB [] = f2 at HC2
    clear hd hc1 hc2 hx hy
    go_enter Tryd.func25, Tryd.ntmps25
    go_wp2_with (refine wpl_alloc 23 rfl rfl #[.int .i64 0, .int .i64 0] zeroRg16 ?_)
    intro b0 w0 hb0 ha0 hbe0
    have HX := hid' ha0
    have HB0 := hid' hbe0
    have HG0 := hid' hb0
    have HT0 := hid' (HT.out.keep hbe0)
    clear hb0 ha0 hbe0
    go_wp2_with fail
    refine (HC.out _ HT0.out).mono ?_
    rintro e w1 ⟨rfl, hb1⟩
    have HBq := hid' (below_two HB0.out hb1)
    have HXq := hid' (HX.out.keep hb1)
    clear hb1
    go_wp2_with fail
    refine (HC1.out _).mono ?_
    rintro e w2 ⟨rfl, hw⟩
    subst w2
    go_wp2_with fail
    refine (HC2.out _).mono ?_
    rintro e w2 ⟨rfl, hw⟩
    subst w2
    go_wp2_with (refine wpl_store 23 _ _ rfl rfl b0 #[.int .i64 0, .int .i64 0] (by rfl) (by rfl) _ _ HXq.out sizeRg16 rfl (by simp [Value.oneCell']) ?_)
    intro w9 ha9 hu9
    have hld := ldRg16 ha9
    have HB9 := hid' (HBq.out.trans (hu9.below HG0.out))
    clear ha9 hu9
    go_wp2
    exact bodyPost_ret (v := .tuple #[.agg #[.int .i64 0, .int .i64 0], .bool false]) (by simp [results, Tryd.results25, asAddr, hld]) rfl ⟨by rw [HR.out]; rfl, HB9.out⟩
  rw [hd] at HC
  simp only [if_true] at HC
  have HRD := hid' (Rg.rd_yes (n := n) hd)
  have hXL : (l.take (Rg.ahead l)).length ≤ 1048576 := Nat.le_trans (List.length_take_le' _ _) HSL.out
  have hYL : (l.drop (Rg.ahead l + 1)).length ≤ 1048576 := by rw [List.length_drop]; have := HSL.out; omega
  generalize l.take (Rg.ahead l) = X at HC HRD hXL
  generalize l.drop (Rg.ahead l + 1) = Y at HC HRD hYL
  obtain ⟨z1, hz1, hc1⟩ := cnum16 ⟨X.toArray⟩ X rfl (by rw [size_l16]; exact hXL)
  obtain ⟨z2, hz2, hc2⟩ := cnum16 ⟨Y.toArray⟩ Y rfl (by rw [size_l16]; exact hYL)
  have HZ1 : Hid (Rg.digB X = true → Rg.digN X = z1) := hid' (fun h => (hz1 h).symm)
  have HZ2 : Hid (Rg.digB Y = true → Rg.digN Y = z2) := hid' (fun h => (hz2 h).symm)
  have xb := Rg.digN_bd X
  have yb := Rg.digN_bd Y
  have HC1 := hid' hc1
  have HC2 := hid' hc2
  have HXE : Hid (Rg.digB X = true → X.isEmpty = false) := hid' Rg.digB_empty
  have HYE : Hid (Rg.digB Y = true → Y.isEmpty = false) := hid' Rg.digB_empty
  obtain ⟨x, hx⟩ : ∃ x : ByteArray, (⟨X.toArray⟩ : ByteArray) = x := ⟨_, rfl⟩
  obtain ⟨y, hy⟩ : ∃ x : ByteArray, (⟨Y.toArray⟩ : ByteArray) = x := ⟨_, rfl⟩
  have hxe : x.toList.isEmpty = X.isEmpty := by rw [← hx, Lib.toList_data]
  have hye : y.toList.isEmpty = Y.isEmpty := by rw [← hy, Lib.toList_data]
  rw [hx] at HC1 HC
  rw [hy] at HC2 HC
  generalize Rg.digB X = f1 at HC1 HRD HXE HZ1
  generalize Rg.digB Y = f2 at HC2 HRD HYE HZ2
  generalize Rg.digN X = xa at HRD HZ1 xb
  generalize Rg.digN Y = ya at HRD HZ2 yb
  generalize X.isEmpty = xe at HRD HXE hxe
  generalize Y.isEmpty = ye at HRD HYE hye
  clear hd hc1 hc2 hx hy hz1 hz2 hXL hYL
  have wn1 : IntKind.i64.wrap (n - 1) = n - 1 := wrp16 _ (by omega) (by omega)
  go_enter Tryd.func25, Tryd.ntmps25
  go_wp2_with (refine wpl_alloc 23 rfl rfl #[.int .i64 0, .int .i64 0] zeroRg16 ?_)
  intro b0 w0 hb0 ha0 hbe0
  have HX := hid' ha0
  have HB0 := hid' hbe0
  have HG0 := hid' hb0
  have HT0 := hid' (HT.out.keep hbe0)
  clear hb0 ha0 hbe0
  go_wp2_with fail
  refine (HC.out _ HT0.out).mono ?_
  rintro e w1 ⟨rfl, hb1⟩
  have HBq := hid' (below_two HB0.out hb1)
  have HXq := hid' (HX.out.keep hb1)
  clear hb1
  go_wp2_with fail
  refine (HC1.out _).mono ?_
  rintro e w2 ⟨rfl, hw⟩
  subst w2
  go_wp2_with fail
  refine (HC2.out _).mono ?_
  rintro e w2 ⟨rfl, hw⟩
  subst w2
  cases f1
  · cases xe
    · have HR : Hid (Rg.rd l n = (⟨0, 0⟩, false)) := hid' (by rw [HRD.out]; cases ye <;> rfl)
      go_wp2_with (refine wpl_store 23 _ _ rfl rfl b0 #[.int .i64 0, .int .i64 0] (by rfl) (by rfl) _ _ HXq.out sizeRg16 rfl (by simp [Value.oneCell']) ?_)
      intro w9 ha9 hu9
      have hld := ldRg16 ha9
      have HB9 := hid' (HBq.out.trans (hu9.below HG0.out))
      clear ha9 hu9
      go_wp2
      exact bodyPost_ret (v := .tuple #[.agg #[.int .i64 0, .int .i64 0], .bool false]) (by simp [results, Tryd.results25, asAddr, hld]) rfl ⟨by rw [HR.out]; rfl, HB9.out⟩
    · cases f2
      · have HR : Hid (Rg.rd l n = (⟨0, 0⟩, false)) := hid' (by rw [HRD.out]; rfl)
        go_wp2_with (refine wpl_store 23 _ _ rfl rfl b0 #[.int .i64 0, .int .i64 0] (by rfl) (by rfl) _ _ HXq.out sizeRg16 rfl (by simp [Value.oneCell']) ?_)
        intro w9 ha9 hu9
        have hld := ldRg16 ha9
        have HB9 := hid' (HBq.out.trans (hu9.below HG0.out))
        clear ha9 hu9
        go_wp2
        exact bodyPost_ret (v := .tuple #[.agg #[.int .i64 0, .int .i64 0], .bool false]) (by simp [results, Tryd.results25, asAddr, hld]) rfl ⟨by rw [HR.out]; rfl, HB9.out⟩
      · have hz2 := HZ2.out rfl
        subst hz2
        have wnb : IntKind.i64.wrap (n - ya) = n - ya := wrp16 _ (by omega) (by omega)
        have HR : Hid (Rg.rd l n = (⟨max (n - ya) 0, n - 1⟩, true)) := hid' (by rw [HRD.out]; rfl)
        go_wp2_with (refine wpl_store 23 _ _ rfl rfl b0 #[.int .i64 (max (n - ya) 0), .int .i64 (n - 1)] (by rfl) (by rfl) _ _ HXq.out sizeRg16 rfl (by simp [Value.oneCell']) ?_)
        intro w9 ha9 hu9
        have hld := ldRg16 ha9
        have HB9 := hid' (HBq.out.trans (hu9.below HG0.out))
        clear ha9 hu9
        go_wp2
        exact bodyPost_ret (v := .tuple #[.agg #[.int .i64 (max (n - ya) 0), .int .i64 (n - 1)], .bool true]) (by simp [results, Tryd.results25, asAddr, hld]) rfl ⟨by rw [HR.out]; rfl, HB9.out⟩
  · have hxe := HXE.out rfl
    subst hxe
    have hz1 := HZ1.out rfl
    subst hz1
    cases f2
    · cases ye
      · have HR : Hid (Rg.rd l n = (⟨0, 0⟩, false)) := hid' (by rw [HRD.out]; rfl)
        go_wp2_with (refine wpl_store 23 _ _ rfl rfl b0 #[.int .i64 0, .int .i64 0] (by rfl) (by rfl) _ _ HXq.out sizeRg16 rfl (by simp [Value.oneCell']) ?_)
        intro w9 ha9 hu9
        have hld := ldRg16 ha9
        have HB9 := hid' (HBq.out.trans (hu9.below HG0.out))
        clear ha9 hu9
        go_wp2
        exact bodyPost_ret (v := .tuple #[.agg #[.int .i64 0, .int .i64 0], .bool false]) (by simp [results, Tryd.results25, asAddr, hld]) rfl ⟨by rw [HR.out]; rfl, HB9.out⟩
      · have HR : Hid (Rg.rd l n = (⟨xa, n - 1⟩, true)) := hid' (by rw [HRD.out]; rfl)
        go_wp2_with (refine wpl_store 23 _ _ rfl rfl b0 #[.int .i64 xa, .int .i64 (n - 1)] (by rfl) (by rfl) _ _ HXq.out sizeRg16 rfl (by simp [Value.oneCell']) ?_)
        intro w9 ha9 hu9
        have hld := ldRg16 ha9
        have HB9 := hid' (HBq.out.trans (hu9.below HG0.out))
        clear ha9 hu9
        go_wp2
        exact bodyPost_ret (v := .tuple #[.agg #[.int .i64 xa, .int .i64 (n - 1)], .bool true]) (by simp [results, Tryd.results25, asAddr, hld]) rfl ⟨by rw [HR.out]; rfl, HB9.out⟩
    · have hye := HYE.out rfl
      subst hye
      have hz2 := HZ2.out rfl
      subst hz2
      by_cases hle : xa ≤ ya
      · have HR : Hid (Rg.rd l n = (⟨xa, min ya (n - 1)⟩, true)) := hid' (by rw [HRD.out, decide_eq_true hle]; rfl)
        go_wp2_with (refine wpl_store 23 _ _ rfl rfl b0 #[.int .i64 xa, .int .i64 (min ya (n - 1))] (by rfl) (by rfl) _ _ HXq.out sizeRg16 rfl (by simp [Value.oneCell']) ?_)
        intro w9 ha9 hu9
        have hld := ldRg16 ha9
        have HB9 := hid' (HBq.out.trans (hu9.below HG0.out))
        clear ha9 hu9
        go_wp2
        exact bodyPost_ret (v := .tuple #[.agg #[.int .i64 xa, .int .i64 (min ya (n - 1))], .bool true]) (by simp [results, Tryd.results25, asAddr, hld]) rfl ⟨by rw [HR.out]; rfl, HB9.out⟩
      · have HR : Hid (Rg.rd l n = (⟨0, 0⟩, false)) := hid' (by rw [HRD.out, decide_eq_false hle]; rfl)
        go_wp2_with (refine wpl_store 23 _ _ rfl rfl b0 #[.int .i64 0, .int .i64 0] (by rfl) (by rfl) _ _ HXq.out sizeRg16 rfl (by simp [Value.oneCell']) ?_)
        intro w9 ha9 hu9
        have hld := ldRg16 ha9
        have HB9 := hid' (HBq.out.trans (hu9.below HG0.out))
        clear ha9 hu9
        go_wp2
        exact bodyPost_ret (v := .tuple #[.agg #[.int .i64 0, .int .i64 0], .bool false]) (by simp [results, Tryd.results25, asAddr, hld]) rfl ⟨by rw [HR.out]; rfl, HB9.out⟩

end Go.Proofs.YtdbldompjhienaaDoor

namespace Go.Proofs.YtdbldompjhienaaDoor
open Go.RowKit

namespace Rg
theorem mems_len (r : List UInt8) : ∀ (cur : List UInt8) (q e : Bool), (Tx.mems cur q e r).length ≤ r.length + 1 := by
  induction r with
  | nil =>
    intro cur q e
    simp only [Tx.mems, Tx.addm]
    split <;> simp
  | cons c r ih =>
    intro cur q e
    simp only [Tx.mems]
    split
    · have := ih (cur ++ [c]) q false; simp only [List.length_cons]; omega
    · split
      · have := ih (cur ++ [c]) (!q) false; simp only [List.length_cons]; omega
      · split
        · have := ih (cur ++ [c]) q true; simp only [List.length_cons]; omega
        · split
          · have := ih [] q false
            have h2 : (Tx.addm cur).length ≤ 1 := by unfold Tx.addm; split <;> simp
            simp only [List.length_cons, List.length_append]; omega
          · have := ih (cur ++ [c]) q false; simp only [List.length_cons]; omega
theorem list_len (l : List UInt8) : (Tx.list l).length ≤ l.length + 1 := mems_len l [] false false
theorem mem_flat {ms : List (List UInt8)} {m : List UInt8} (h : m ∈ ms) : m.length ≤ ms.flatten.length := by
  induction ms with
  | nil => cases h
  | cons x r ih =>
    simp only [List.flatten_cons, List.length_append]
    rcases List.mem_cons.1 h with rfl | h
    · omega
    · have := ih h; omega
theorem list_mem {l m : List UInt8} (h : m ∈ Tx.list l) : m.length ≤ l.length := Nat.le_trans (mem_flat h) (Tx.flat_list l)
theorem pre_eq (l : T8) : Lib.hasPrefix l head6 = (l.take 6 == head6) := by
  unfold Lib.hasPrefix
  rw [Bool.eq_iff_iff, List.isPrefixOf_iff_prefix, beq_iff_eq, List.prefix_iff_eq_take]
  exact ⟨fun h => h.symm, fun h => h.symm⟩
theorem rd_bad {p : T8} {n : Int} {r : Rn} (h : rd p n = (r, false)) : (pc p n).2.2 = false := by
  unfold rd at h
  split at h
  · injection h with _ h; cases h
  · rename_i hq; exact Bool.eq_false_iff.2 hq
theorem rd_good {p : T8} {n : Int} {r : Rn} (n0 : 0 ≤ n) (h : rd p n = (r, true)) : (pc p n).2.2 = true ∧ (pc p n).1 = r ∧ (pc p n).2.1 = wth r n := by
  unfold rd at h
  split at h
  · rename_i hq
    injection h with h _
    exact ⟨hq, h, by rw [← h]; exact (pc_wth n0 hq).symm⟩
  · injection h with _ h; cases h
end Rg

set_option maxHeartbeats 4000000 in
set_option maxRecDepth 20000 in
theorem cparse16 (s : ByteArray) (l : List UInt8) (hl : s.data.toList = l) (n : Int) (n1 : n ≤ 9223372036854775807) (w : World) (hs : s.size ≤ 1048576) (hT : TB16 w) :
    Calls Tryd.prog 9 #[.string s, .int .i64 n] w fun e w' => (∃ m ro rc, e = .returned (.tuple #[.slice ro m rc, .int .i64 (Rg.err l n)]) ∧ (Rg.res l n).length = m ∧ w'.ownsRow w.heap.size 23 2 (.slice ro m rc) m (rgC (Rg.res l n))) ∧ Below w.heap.size w w' := by
  obtain ⟨i0, hi0, hz0, hz1, hz2⟩ := minfo16 infoRg16
  have HI := hid' hi0
  have HZ0 := hid' hz0
  have HZ1 := hid' hz1
  have HZ2 := hid' hz2
  clear hi0 hz0 hz1 hz2
  have hno : ∀ c : Int, Rg.err l n = c → (c == 0) = false → Rg.res l n = [] := fun c h1 h2 => by unfold Rg.res; rw [h1, h2]; rfl
  have HNO := hid' hno
  have HSZ : Hid (s.size = l.length) := hid' (by rw [Lib.size_eq, hl])
  have HT := hid' hT
  clear hno hT
  by_cases n0 : n < 0
  · have HE : Hid (Rg.err l n = 1) := hid' (by unfold Rg.err; rw [if_pos n0])
    have HR := hid' (HNO.out 1 HE.out (by decide))
    go_enter Tryd.func9, Tryd.ntmps9
    go_wp2
    go_ret2
    exact ⟨⟨0, none, 0, by rw [HE.out]; rfl, by rw [HR.out]; rfl, by rw [HR.out]; exact World.ownsRow_nil _ _ _ _⟩, Below.refl _ _⟩
  have HCP := hid' (Tryd.strings_CutPrefix s ⟨#[98, 121, 116, 101, 115, 61]⟩ w)
  rw [hl, show (⟨#[98, 121, 116, 101, 115, 61]⟩ : ByteArray).data.toList = Rg.head6 from rfl, Rg.pre_eq] at HCP
  obtain ⟨y, hy⟩ : ∃ y : ByteArray, (⟨(Lib.trimPrefix l Rg.head6).toArray⟩ : ByteArray) = y := ⟨_, rfl⟩
  have HYL : Hid (y.data.toList = Lib.trimPrefix l Rg.head6) := hid' (by rw [← hy])
  have HTL : Hid ((Lib.trimPrefix l Rg.head6).length ≤ l.length) := hid' (by unfold Lib.trimPrefix; split <;> simp)
  have hys : y.size ≤ 1048576 := by rw [Lib.size_eq, HYL.out]; have := HTL.out; have := HSZ.out; omega
  rw [hy] at HCP
  have HLI := hid' (fun W => list_any y W (by omega))
  obtain ⟨ps, hps⟩ : ∃ ps, Tx.list y.data.toList = ps := ⟨_, rfl⟩
  rw [hps] at HLI
  have HPZ : Hid (∀ p ∈ ps, p.length ≤ 1048576) := hid' (fun p hp => by
    rw [← hps] at hp
    have h1 := Rg.list_mem hp
    rw [← Lib.size_eq] at h1
    omega)
  have hmb2 : ps.length ≤ 1048577 := by
    rw [← hps]; have := Rg.list_len y.data.toList; rw [← Lib.size_eq] at this; omega
  have HPSE := hid' hps
  clear hl hy hps
  cases hh : (l.take 6 == Rg.head6)
  · have HE : Hid (Rg.err l n = 160) := hid' (by unfold Rg.err; rw [if_neg n0, hh]; rfl)
    have HR := hid' (HNO.out 160 HE.out (by decide))
    rw [hh] at HCP
    clear hh
    go_enter Tryd.func9, Tryd.ntmps9
    go_wp2_with fail
    refine HCP.out.mono ?_
    rintro e w0 ⟨rfl, hw⟩
    subst w0
    go_wp2_with fail
    refine (HLI.out _).mono ?_
    rintro e w1 ⟨pv, rfl, hown, hb1⟩
    obtain ⟨po, pc, hpv⟩ := own_shape16 hown
    subst hpv
    have HB1 := hid' hb1
    clear hb1 hown
    go_wp2
    go_ret2
    exact ⟨⟨0, none, 0, by rw [HE.out]; rfl, by rw [HR.out]; rfl, by rw [HR.out]; exact World.ownsRow_nil _ _ _ _⟩, HB1.out⟩
  rw [hh] at HCP
  have HYD : Hid (y.data.toList = l.drop 6) := hid' (by rw [HYL.out]; unfold Lib.trimPrefix; rw [Rg.pre_eq, hh]; rfl)
  have hel := Rg.err_list n0 hh
  rw [← HYD.out, HPSE.out] at hel
  have HER := hid' hel.1
  have HRS := hid' hel.2
  have hn0 : 0 ≤ n := by omega
  obtain ⟨m, hm⟩ : ∃ m, ps.length = m := ⟨_, rfl⟩
  rw [hm] at hmb2 HLI
  have HM := hid' hm
  clear hh hel hm
  go_enter Tryd.func9, Tryd.ntmps9
  go_wp2_with fail
  refine HCP.out.mono ?_
  rintro e w0 ⟨rfl, hw⟩
  subst w0
  go_wp2_with fail
  refine (HLI.out _).mono ?_
  rintro e w1 ⟨pv, rfl, hown, hb1⟩
  obtain ⟨po, pc, hpv⟩ := own_shape16 hown
  subst hpv
  have HP : Hid (w1.ownsRow w.heap.size 9 1 (.slice po m pc) m (sC16 ps)) := hid' hown
  have HB1 := hid' hb1
  clear hown hb1
  by_cases hm0 : m = 0
  · have hmB : ((m : Int) == 0) = true := by rw [beq_iff_eq]; omega
    have HE : Hid (Rg.err l n = 160) := hid' (by
      have : ps = [] := List.eq_nil_of_length_eq_zero (HM.out.trans hm0)
      rw [HER.out, this]; rfl)
    have HR := hid' (HNO.out 160 HE.out (by decide))
    clear hm0
    go_wp2
    go_ret2
    exact ⟨⟨0, none, 0, by rw [HE.out]; rfl, by rw [HR.out]; rfl, by rw [HR.out]; exact World.ownsRow_nil _ _ _ _⟩, HB1.out⟩
  have hmB : ((m : Int) == 0) = false := by rw [beq_eq_false_iff_ne]; omega
  have HNE : Hid (ps.isEmpty = false) := hid' (by
    cases hq : ps with
    | nil => exact absurd (HM.out.symm.trans (by rw [hq]; rfl)) hm0
    | cons a b => rfl)
  clear hm0
  go_wp2
  go_loopw [9, 32] (fun s9 s32 wr => ∃ (k c : Nat) (ro : Option Addr) (rc : Nat), s32 = .int .i64 (k : Int) ∧ s9 = .slice ro c rc ∧ k ≤ m ∧ c ≤ k ∧ Hid ((ps.take k).all (fun p => (Rg.pc p n).2.2) = true) ∧ Hid ((Rg.outs (ps.take k) n).length = c) ∧ Hid (wr.ownsRow w.heap.size 23 2 (.slice ro c rc) c (rgC (Rg.outs (ps.take k) n))) ∧ Hid (wr.ownsRow w.heap.size 9 1 (.slice po m pc) m (sC16 ps)) ∧ Hid (Below w.heap.size w wr)) (fun _ s32 _ => m - (intOf s32).toNat)
  case atStart => exact ⟨0, 0, none, 0, rfl, rfl, Nat.zero_le _, Nat.le_refl _, hid' rfl, hid' rfl, hid' (World.ownsRow_nil _ _ _ _), HP, HB1⟩
  case round =>
    obtain ⟨k, c, ro, rc, rfl, rfl, hk, hck, HGD, HCL, HO, HPr, HB⟩ := hrel
    by_cases hlt : k < m
    · have hlt2 : (k : Int) < (m : Int) := by omega
      obtain ⟨p, hp⟩ : ∃ p, ps[k]? = some p := ⟨_, List.getElem?_eq_getElem (by rw [HM.out]; exact hlt)⟩
      obtain ⟨g, rfl, y0⟩ := own_str16 HPr.out k p hp
      have HOT := hid' (Rg.outs_take n hp)
      have HAT := hid' (Rg.all_take (fun p => (Rg.pc p n).2.2) hp)
      have HPL := hid' (HPZ.out p (List.mem_of_getElem? hp))
      have HMEM := hid' (List.mem_of_getElem? hp)
      have HPI := hid' (fun W (h : TB16 W) => cread16 ⟨p.toArray⟩ p rfl n hn0 n1 W (by rw [size_l16]; exact HPL.out) h)
      unfold rdV16 at HPI
      obtain ⟨q, hq⟩ : ∃ q, Rg.rd p n = q := ⟨_, rfl⟩
      obtain ⟨⟨qa, qb⟩, qg⟩ := q
      rw [hq] at HPI
      simp only at HPI
      have HTr := hid' (HT.out.keep HB.out)
      have HQ := hid' hq
      clear hp hq
      go_wp2_with fail
      refine (HPI.out _ HTr.out).mono ?_
      rintro e wq ⟨rfl, hbq⟩
      have HBq := hid' (below_two HB.out hbq)
      have HOq := hid' (own_kp16 HO.out hbq)
      have HPq := hid' (own_kp16 HPr.out hbq)
      have HBa := hid' (below_two HBq.out (bl_alloc wq (.cells #[.int .i64 qa, .int .i64 qb] 23)))
      have HOa := hid' (HOq.out.alloc (.cells #[.int .i64 qa, .int .i64 qb] 23))
      have HPa := hid' (HPq.out.alloc (.cells #[.int .i64 qa, .int .i64 qb] 23))
      have HLa : Hid (Ar (wq.alloc (.cells #[.int .i64 qa, .int .i64 qb] 23)) wq.heap.size 23 #[.int .i64 qa, .int .i64 qb]) := hid' (heap_alloc_last wq _)
      clear hbq y0 HOq HPq
      cases qg
      · have HE : Hid (Rg.err l n = 160) := hid' (by
          rw [HER.out]
          have : ps.all (fun p => (Rg.pc p n).2.2) = false := by
            rw [Bool.eq_false_iff]; intro ht
            have := List.all_eq_true.1 ht p HMEM.out
            rw [Rg.rd_bad HQ.out] at this; cases this
          rw [this, Bool.not_false, Bool.or_true]; rfl)
        have HR := hid' (HNO.out 160 HE.out (by decide))
        go_wp2
        go_ret2
        exact ⟨⟨0, none, 0, by rw [HE.out]; rfl, by rw [HR.out]; rfl, by rw [HR.out]; exact World.ownsRow_nil _ _ _ _⟩, HBa.out⟩
      have HQG := hid' (Rg.rd_good hn0 HQ.out)
      have HG2 : Hid ((ps.take (k + 1)).all (fun p => (Rg.pc p n).2.2) = true) := hid' (by rw [HAT.out, HGD.out, HQG.out.1]; rfl)
      rw [HQG.out.2.1, HQG.out.2.2] at HOT
      have HWT := hid' (fun W => cwth16 ⟨qa, qb⟩ n W)
      generalize Rg.wth ⟨qa, qb⟩ n = qi at HWT HOT
      go_upto_region 14 with fail
      obtain ⟨fb, hfb⟩ : ∃ fb, wq.heap.size = fb := ⟨_, rfl⟩
      rw [hfb] at HLa ⊢
      generalize wq.alloc (.cells #[.int .i64 qa, .int .i64 qb] 23) = w2 at *
      have p0 := HLa.out.cell 0 _ rfl
      have p1 := HLa.out.cell 1 _ rfl
      clear hfb
      go_wp2_with fail
      refine (HWT.out _).mono ?_
      rintro e w3 ⟨rfl, hb3⟩
      have HB3 := hid' (below_two HBa.out hb3)
      have HO3 := hid' (own_kp16 HOa.out hb3)
      have HP3 := hid' (own_kp16 HPa.out hb3)
      have HL3 := hid' (HLa.out.keep hb3)
      clear hb3 p0 p1 HOa HPa HLa
      cases qi
      · have hot := HOT.out
        rw [if_neg (by decide), List.append_nil] at hot
        have s1 : Hid ((Rg.outs (ps.take (k + 1)) n).length = c) := hid' (by rw [hot]; exact HCL.out)
        have s2 : Hid (w3.ownsRow w.heap.size 23 2 (.slice ro c rc) c (rgC (Rg.outs (ps.take (k + 1)) n))) := hid' (by rw [hot]; exact HO3.out)
        clear hot
        go_wp2
        go_roundw
        case rel => exact ⟨k + 1, c, ro, rc, by go_num, rfl, by omega, by omega, HG2, s1, s2, HP3, HB3⟩
        case measure => simp [intOf]; omega
      · have HKF : Hid (Rg.outs (ps.take (k + 1)) n = Rg.outs (ps.take k) n ++ [⟨qa, qb⟩]) := hid' (by have hh := HOT.out; rwa [if_pos rfl] at hh)
        have p0 := HL3.out.cell 0 _ rfl
        have p1 := HL3.out.cell 1 _ rfl
        have HA : Hid ((w3.alloc (.cells #[.int .i64 qa, .int .i64 qb] 23)).ownsRow w.heap.size 23 2 (.slice ro c rc) c (rgC (Rg.outs (ps.take k) n))) := hid' (HO3.out.alloc _)
        have HPb : Hid ((w3.alloc (.cells #[.int .i64 qa, .int .i64 qb] 23)).ownsRow w.heap.size 9 1 (.slice (some ⟨g, 0, none⟩) m pc) m (sC16 ps)) := hid' (HP3.out.alloc _)
        go_wp2_with (at_builtin; refine wpList_append_own_at _ rfl _ _ 24 rfl w.heap.size 23 i0 (.agg #[.int .i64 0, .int .i64 0]) 2 16 Tryd.underlying24 HI.out HZ0.out HZ1.out HZ2.out rfl (by decide) (.slice ro c rc) c (rgC (Rg.outs (ps.take k) n)) rfl HA.out ⟨w3.heap.size, 0, none⟩ 1 1 [.int .i64 qa, .int .i64 qb] rfl rfl (two_new16 _ _ _ _) (by simp [Value.oneCell']) (by unfold maxLen; omega) (by have := hmb2; omega) (by simp; have := HB3.out.size; omega) ?_; intro v4 w4 hown4 hgrow4 _ _; refine Hid.out ?_)
        refine hid' ?_
        have e : rgC (Rg.outs (ps.take k) n) ++ [Value.int .i64 qa, .int .i64 qb] = rgC (Rg.outs (ps.take (k + 1)) n) := by rw [HKF.out, rgC_app]; simp [rgC, rgV]
        rw [e] at hown4
        obtain ⟨v4o, v4c, hv4⟩ := own_shape16 hown4
        subst hv4
        have HO4 := hid' hown4
        have HP4 := hid' (own_grown HPb.out hgrow4 (fun j hj e => own_diff16 HPb.out HA.out (by decide) j hj e.symm))
        have HB4 : Hid (Below w.heap.size w w4) := hid' ((HB3.out.alloc HB3.out.size _).grown hgrow4 (by simp; have := HB3.out.size; omega) (fun k hk => (HA.out.lt k hk).1))
        clear hown4 hgrow4 e p0 p1
        go_wp2
        go_roundw
        case rel => exact ⟨k + 1, c + 1, v4o, v4c, by go_num, rfl, by omega, by omega, HG2, hid' (by rw [HKF.out, List.length_append, HCL.out]; rfl), HO4, HP4, HB4⟩
        case measure => simp [intOf]; omega
    · have hkm : m = k := by omega
      subst hkm
      have hlt2 : ¬ (m : Int) < (m : Int) := by omega
      have HTk : Hid (ps.take m = ps) := hid' (List.take_of_length_le (by rw [HM.out]; exact Nat.le_refl _))
      rw [HTk.out] at HGD HCL HO
      have HE0 : Hid (Rg.err l n = if 8 < m then 4 else if (Rg.outs ps n).isEmpty then 161 else 0) := hid' (by rw [HER.out, HNE.out, HGD.out, HM.out]; rfl)
      clear hlt
      by_cases h8 : 8 < m
      · have h8I : (8 : Int) < (m : Int) := by omega
        have HE : Hid (Rg.err l n = 4) := hid' (by rw [HE0.out, if_pos h8])
        have HR := hid' (HNO.out 4 HE.out (by decide))
        go_wp2
        go_ret2
        exact ⟨⟨0, none, 0, by rw [HE.out]; rfl, by rw [HR.out]; rfl, by rw [HR.out]; exact World.ownsRow_nil _ _ _ _⟩, HB.out⟩
      have h8I : ¬ (8 : Int) < (m : Int) := by omega
      by_cases hc0 : c = 0
      · have hcB : ((c : Int) == 0) = true := by rw [beq_iff_eq]; omega
        have HE : Hid (Rg.err l n = 161) := hid' (by
          have : Rg.outs ps n = [] := List.eq_nil_of_length_eq_zero (HCL.out.trans hc0)
          rw [HE0.out, if_neg h8, this]; rfl)
        have HR := hid' (HNO.out 161 HE.out (by decide))
        clear hc0
        go_wp2
        go_ret2
        exact ⟨⟨0, none, 0, by rw [HE.out]; rfl, by rw [HR.out]; rfl, by rw [HR.out]; exact World.ownsRow_nil _ _ _ _⟩, HB.out⟩
      · have hcB : ((c : Int) == 0) = false := by rw [beq_eq_false_iff_ne]; omega
        have HE : Hid (Rg.err l n = 0) := hid' (by
          rw [HE0.out, if_neg h8]
          cases hq : Rg.outs ps n with
          | nil => rw [hq] at HCL; exact absurd HCL.out.symm hc0
          | cons a b => rfl)
        have HR := hid' (HRS.out HE.out)
        clear hc0
        go_wp2
        go_ret2
        exact ⟨⟨c, ro, rc, by rw [HE.out]; rfl, by rw [HR.out]; exact HCL.out, by rw [HR.out]; exact HO.out⟩, HB.out⟩

end Go.Proofs.YtdbldompjhienaaDoor
