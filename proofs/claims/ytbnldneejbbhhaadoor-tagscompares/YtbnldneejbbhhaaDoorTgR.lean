/-
  The document's etagc and one: by their contracts.
-/
import Derived.Test.YtbnldneejbbhhaaDoorTgM
namespace Go.Proofs.YtbnldneejbbhhaaDoor
open Go.RowKit

namespace Tg
/-- What one answers. -/
def rV (l : List UInt8) : Value := if isOne l then .tuple #[.agg (tV (tagOf l)).toArray, .int .i64 (nOf l : Int)] else .tuple #[.agg #[.bool false, .string ⟨#[]⟩], .int .i64 0]
theorem rV_no {l : List UInt8} (h : isOne l = false) : rV l = .tuple #[.agg #[.bool false, .string ⟨#[]⟩], .int .i64 0] := by unfold rV; rw [h]; rfl
theorem rV_yes {l : List UInt8} (h : isOne l = true) : rV l = .tuple #[.agg #[.bool (tagOf l).w, .string ⟨(tagOf l).v.toArray⟩], .int .i64 (nOf l : Int)] := by unfold rV; rw [h]; rfl
theorem q_at (s : ByteArray) (k : Nat) (h : k < s.size) : ((s.data.toList.drop k).head? == some 34) = ((s[k].toNat : Int) == 34) := by
  have h1 : (s.data.toList.drop k).head? = some s[k] := by
    rw [List.head?_drop, Tx.get_byte s k h]
  rw [h1, Bool.eq_iff_iff, beq_iff_eq, beq_iff_eq]
  constructor
  · intro e; injection e with e; rw [e]; rfl
  · intro e; congr 1; apply UInt8.toNat_inj.1; simp; omega
theorem in_at (s : ByteArray) (a k : Nat) (h : a + k < s.size) (hk : k < inn (s.data.toList.drop a)) : etC (s[a + k].toNat : Int) = true := by
  obtain ⟨c, h1, h2⟩ := inn_at hk
  rw [List.getElem?_drop, Tx.get_byte s _ h] at h1
  injection h1 with h1
  subst h1
  exact h2
theorem in_stop (s : ByteArray) (a k : Nat) (h : a + k < s.size) (hk : inn (s.data.toList.drop a) = k) : etC (s[a + k].toNat : Int) = false := by
  have h1 : (s.data.toList.drop a)[inn (s.data.toList.drop a)]? = some s[a + k] := by
    rw [hk, List.getElem?_drop, Tx.get_byte s _ h]
  exact inn_stop h1
theorem ext_td (s : ByteArray) (a b : Nat) : s.extract a b = ⟨((s.data.toList.drop a).take (b - a)).toArray⟩ := by
  apply ByteArray.ext
  rw [ByteArray.data_extract]
  apply Array.toList_inj.1
  simp [Array.toList_extract, List.extract_eq_take_drop]
theorem wk_at (s : ByteArray) : ((s.extract 0 2).toList == [87, 47]) = wk s.data.toList := by
  unfold wk
  rw [ext_td s 0 2, Lib.toList_data]
  rfl
theorem wk_no (s : ByteArray) (h : ¬ 2 ≤ s.size) : wk s.data.toList = false := by
  unfold wk
  rw [Bool.eq_false_iff]
  intro e
  have := congrArg List.length (eq_of_beq e)
  rw [List.length_take, ← Lib.size_eq] at this
  simp at this
  omega
end Tg

set_option maxHeartbeats 1000000 in
theorem retagc15 (c : Int) (b : Bool) (hb : Tg.etC c = b) (w : World) : Calls Tryd.prog 39 #[.int .u8 c] w fun e w' => e = .returned (.bool b) ∧ w' = w := by
  subst hb
  unfold Tg.etC
  cases h1 : (c == 33) <;> cases h2 : decide (35 ≤ c) <;> cases h3 : decide (c ≤ 126) <;> cases h4 : decide (128 ≤ c)
  all_goals
    go_enter Tryd.func39, Tryd.ntmps39
    go_wp2
    go_ret
    exact ⟨rfl, rfl⟩

set_option maxHeartbeats 4000000 in
set_option maxRecDepth 20000 in
theorem rone15 (s : ByteArray) (l : List UInt8) (hl : s.data.toList = l) (w : World) (hs : s.size ≤ 140737488355328) :
    Calls Tryd.prog 24 #[.string s] w fun e w' => e = .returned (Tg.rV l) ∧ Below w.heap.size w w' := by
  cases hwk : Tg.wk l
  · have HWK := hid' hwk
    have HO : Hid (Tg.opq l = s.data.toList.drop 0) := hid' (by unfold Tg.opq Tg.wn; rw [hwk, hl]; rfl)
    by_cases h2 : 2 ≤ s.size
    · have h22 : ((s.extract 0 2).toList == [87, 47]) = false := by rw [Tg.wk_at s, hl]; exact hwk
      have h2I : (2 : Int) ≤ (s.size : Int) := by omega
      clear hwk
      cases hq : ((Tg.opq l).head? == some 34)
      · have H1 : Hid (Tg.isOne l = false) := hid' (by unfold Tg.isOne; rw [hq]; rfl)
        by_cases hlt : 0 < s.size
        · have hltI : ¬ ((s.size : Int) ≤ 0) := by omega
          have hltJ : ¬ s = ByteArray.empty := fun e => by rw [e] at hlt; simp at hlt
          have ht0 : ((s[0].toNat : Int) == 34) = false := by rw [← Tg.q_at s 0 hlt, ← HO.out]; exact hq
          have ht : ((s[0].toNat : Int) != 34) = true := by rw [bne, ht0]; rfl
          clear ht0
          clear hq
          go_enter Tryd.func24, Tryd.ntmps24
          go_wp2_with (refine wpl_alloc 36 rfl rfl #[.bool false, .string ⟨#[]⟩] zeroR15 ?_)
          intro b0 w0 hb0 ha0 hbe0
          have HX := hid' ha0
          have HB0 := hid' hbe0
          have HG0 := hid' hb0
          clear hb0 ha0 hbe0
          go_wp2_with (refine wpl_store 36 _ _ rfl rfl b0 #[.bool false, .string ⟨#[]⟩] (by kernel_rfl) (by kernel_rfl) _ _ HX.out sizeR15 rfl (by simp [Value.oneCell']) ?_)
          intro w2 ha2 hu2
          have hld := ldR15 ha2
          have HB2 := hid' (HB0.out.trans (hu2.below HG0.out))
          clear ha2 hu2
          go_wp2
          exact bodyPost_ret (v := .tuple #[.agg #[.bool false, .string ⟨#[]⟩], .int .i64 0]) (by simp [results, Tryd.results24, asAddr, hld]) rfl ⟨by rw [Tg.rV_no H1.out], HB2.out⟩
        · have hltI : ((s.size : Int) ≤ 0) := by omega
          have hltJ : s = ByteArray.empty := ByteArray.ext (Array.eq_empty_of_size_eq_zero (show s.size = 0 by omega))
          clear hq
          go_enter Tryd.func24, Tryd.ntmps24
          go_wp2_with (refine wpl_alloc 36 rfl rfl #[.bool false, .string ⟨#[]⟩] zeroR15 ?_)
          intro b0 w0 hb0 ha0 hbe0
          have HX := hid' ha0
          have HB0 := hid' hbe0
          have HG0 := hid' hb0
          clear hb0 ha0 hbe0
          go_wp2_with (refine wpl_store 36 _ _ rfl rfl b0 #[.bool false, .string ⟨#[]⟩] (by kernel_rfl) (by kernel_rfl) _ _ HX.out sizeR15 rfl (by simp [Value.oneCell']) ?_)
          intro w2 ha2 hu2
          have hld := ldR15 ha2
          have HB2 := hid' (HB0.out.trans (hu2.below HG0.out))
          clear ha2 hu2
          go_wp2
          exact bodyPost_ret (v := .tuple #[.agg #[.bool false, .string ⟨#[]⟩], .int .i64 0]) (by simp [results, Tryd.results24, asAddr, hld]) rfl ⟨by rw [Tg.rV_no H1.out], HB2.out⟩
      · have hlt : 0 < s.size := by
          rw [HO.out] at hq
          rw [Lib.size_eq]
          rcases Nat.lt_or_ge 0 s.data.toList.length with h | h
          · exact h
          · simp [List.drop_eq_nil_of_le h] at hq
        have ht0 : ((s[0].toNat : Int) == 34) = true := by rw [← Tg.q_at s 0 hlt, ← HO.out]; exact hq
        have ht : ((s[0].toNat : Int) != 34) = false := by rw [bne, ht0]; rfl
        have hltI : ¬ ((s.size : Int) ≤ 0) := by omega
        have hltJ : ¬ s = ByteArray.empty := fun e => by rw [e] at hlt; simp at hlt
        clear ht0
        have HQ := hid' hq
        clear hq
        obtain ⟨z, hz⟩ : ∃ z, Tg.sz l = z := ⟨_, rfl⟩
        have HZ : Hid (Tg.inn (s.data.toList.drop 1) = z) := hid' (by rw [← hz]; unfold Tg.sz; rw [HO.out, List.drop_drop])
        have HZ2 := hid' hz
        have hzb : 1 + z ≤ s.size := by
          have := Tg.inn_le (s.data.toList.drop 1)
          rw [HZ.out, List.length_drop, ← Lib.size_eq] at this
          omega
        clear hz
        go_enter Tryd.func24, Tryd.ntmps24
        go_wp2_with (refine wpl_alloc 36 rfl rfl #[.bool false, .string ⟨#[]⟩] zeroR15 ?_)
        intro b0 w0 hb0 ha0 hbe0
        have HX := hid' ha0
        have HB0 := hid' hbe0
        have HG0 := hid' hb0
        clear hb0 ha0 hbe0
        go_wp2
        go_loopw [6] (fun s6 wr => ∃ k : Nat, s6 = .int .i64 ((1 + k : Nat) : Int) ∧ k ≤ z ∧ Hid (wr = w0)) (fun s6 _ => 1 + z - (intOf s6).toNat)
        case atStart => exact ⟨0, rfl, Nat.zero_le _, hid' rfl⟩
        case round =>
          obtain ⟨k, rfl, hk, HW⟩ := hrel
          obtain rfl := HW.out
          by_cases hkz : k < z
          · skip
            have hks : 1 + k < s.size := by omega
            have hks2 : (((1 + k : Nat) : Int)) < (s.size : Int) := by omega
            have he : Tg.etC (s[1 + k].toNat : Int) = true := Tg.in_at s 1 k hks (by rw [HZ.out]; exact hkz)
            go_wp2_with fail
            refine (retagc15 _ _ he _).mono ?_
            rintro e wq ⟨rfl, hwq⟩
            subst hwq
            go_wp2
            go_roundw
            case rel => exact ⟨k + 1, by go_num, by omega, HW⟩
            case measure => simp [intOf]; omega
          · obtain rfl : k = z := by omega
            by_cases hks : 1 + k < s.size
            · skip
              have hks2 : (((1 + k : Nat) : Int)) < (s.size : Int) := by omega
              have he : Tg.etC (s[1 + k].toNat : Int) = false := Tg.in_stop s 1 k hks HZ.out
              cases hd : ((s[1 + k].toNat : Int) == 34)
              · have H1 : Hid (Tg.isOne l = false) := hid' (by
                  unfold Tg.isOne
                  rw [HQ.out, HZ2.out, HO.out, List.drop_drop, show 0 + (1 + k) = 1 + k by omega, Tg.q_at s _ hks, hd]; rfl)
                have hd2 : ((s[1 + k].toNat : Int) != 34) = true := by rw [bne, hd]; rfl
                clear hd
                go_wp2_with fail
                refine (retagc15 _ _ he _).mono ?_
                rintro e wq ⟨rfl, hwq⟩
                subst hwq
                clear he
                go_wp2_with (refine wpl_store 36 _ _ rfl rfl b0 #[.bool false, .string ⟨#[]⟩] (by kernel_rfl) (by kernel_rfl) _ _ HX.out sizeR15 rfl (by simp [Value.oneCell']) ?_)
                intro w2 ha2 hu2
                have hld := ldR15 ha2
                have HB2 := hid' (HB0.out.trans (hu2.below HG0.out))
                clear ha2 hu2
                go_wp2
                exact bodyPost_ret (v := .tuple #[.agg #[.bool false, .string ⟨#[]⟩], .int .i64 0]) (by simp [results, Tryd.results24, asAddr, hld]) rfl ⟨by rw [Tg.rV_no H1.out], HB2.out⟩
              · have H1 : Hid (Tg.isOne l = true) := hid' (by
                  unfold Tg.isOne
                  rw [HQ.out, HZ2.out, HO.out, List.drop_drop, show 0 + (1 + k) = 1 + k by omega, Tg.q_at s _ hks, hd]; rfl)
                have hx1 : 1 + k + 1 ≤ s.size := by omega
                have hx2 : (((1 + k : Nat) : Int)) + 1 ≤ (s.size : Int) := by omega
                have HV : Hid (Tg.rV l = .tuple #[.agg #[.bool false, .string (s.extract 0 (1 + k + 1))], .int .i64 ((1 + k + 1 : Nat) : Int)]) := hid' (by
                  rw [Tg.rV_yes H1.out]
                  unfold Tg.tagOf Tg.nOf Tg.wn
                  rw [HWK.out, HZ2.out, HO.out, Tg.ext_td s 0 (1 + k + 1), show 1 + k + 1 - 0 = k + 2 by omega]
                  simp only [Bool.false_eq_true, if_false]
                  rw [show 0 + (k + 2) = 1 + k + 1 by omega])
                have hd2 : ((s[1 + k].toNat : Int) != 34) = false := by rw [bne, hd]; rfl
                clear hd
                go_wp2_with fail
                refine (retagc15 _ _ he _).mono ?_
                rintro e wq ⟨rfl, hwq⟩
                subst hwq
                clear he
                go_wp2_with (refine wpl_store 36 _ _ rfl rfl b0 #[.bool false, .string (s.extract 0 (1 + k + 1))] (by rfl) (by rfl) _ _ HX.out sizeR15 rfl (by simp [Value.oneCell']) ?_)
                intro w2 ha2 hu2
                have hld := ldR15 ha2
                have HB2 := hid' (HB0.out.trans (hu2.below HG0.out))
                clear ha2 hu2
                go_wp2
                exact bodyPost_ret (v := .tuple #[.agg #[.bool false, .string (s.extract 0 (1 + k + 1))], .int .i64 ((1 + k + 1 : Nat) : Int)]) (by simp [results, Tryd.results24, asAddr, hld]) rfl ⟨by rw [HV.out], HB2.out⟩
            · have H1 : Hid (Tg.isOne l = false) := hid' (by
                unfold Tg.isOne
                rw [HQ.out, HZ2.out, HO.out, List.drop_drop, show 0 + (1 + k) = 1 + k by omega, List.drop_eq_nil_of_le (by rw [← Lib.size_eq]; omega)]; rfl)
              have hks2 : ¬ (((1 + k : Nat) : Int)) < (s.size : Int) := by omega
              clear hkz hks
              go_wp2_with (refine wpl_store 36 _ _ rfl rfl b0 #[.bool false, .string ⟨#[]⟩] (by kernel_rfl) (by kernel_rfl) _ _ HX.out sizeR15 rfl (by simp [Value.oneCell']) ?_)
              intro w2 ha2 hu2
              have hld := ldR15 ha2
              have HB2 := hid' (HB0.out.trans (hu2.below HG0.out))
              clear ha2 hu2
              go_wp2
              exact bodyPost_ret (v := .tuple #[.agg #[.bool false, .string ⟨#[]⟩], .int .i64 0]) (by simp [results, Tryd.results24, asAddr, hld]) rfl ⟨by rw [Tg.rV_no H1.out], HB2.out⟩
    · have h2I : ¬ (2 : Int) ≤ (s.size : Int) := by omega
      clear hwk
      cases hq : ((Tg.opq l).head? == some 34)
      · have H1 : Hid (Tg.isOne l = false) := hid' (by unfold Tg.isOne; rw [hq]; rfl)
        by_cases hlt : 0 < s.size
        · have hltI : ¬ ((s.size : Int) ≤ 0) := by omega
          have hltJ : ¬ s = ByteArray.empty := fun e => by rw [e] at hlt; simp at hlt
          have ht0 : ((s[0].toNat : Int) == 34) = false := by rw [← Tg.q_at s 0 hlt, ← HO.out]; exact hq
          have ht : ((s[0].toNat : Int) != 34) = true := by rw [bne, ht0]; rfl
          clear ht0
          clear hq
          go_enter Tryd.func24, Tryd.ntmps24
          go_wp2_with (refine wpl_alloc 36 rfl rfl #[.bool false, .string ⟨#[]⟩] zeroR15 ?_)
          intro b0 w0 hb0 ha0 hbe0
          have HX := hid' ha0
          have HB0 := hid' hbe0
          have HG0 := hid' hb0
          clear hb0 ha0 hbe0
          go_wp2_with (refine wpl_store 36 _ _ rfl rfl b0 #[.bool false, .string ⟨#[]⟩] (by kernel_rfl) (by kernel_rfl) _ _ HX.out sizeR15 rfl (by simp [Value.oneCell']) ?_)
          intro w2 ha2 hu2
          have hld := ldR15 ha2
          have HB2 := hid' (HB0.out.trans (hu2.below HG0.out))
          clear ha2 hu2
          go_wp2
          exact bodyPost_ret (v := .tuple #[.agg #[.bool false, .string ⟨#[]⟩], .int .i64 0]) (by simp [results, Tryd.results24, asAddr, hld]) rfl ⟨by rw [Tg.rV_no H1.out], HB2.out⟩
        · have hltI : ((s.size : Int) ≤ 0) := by omega
          have hltJ : s = ByteArray.empty := ByteArray.ext (Array.eq_empty_of_size_eq_zero (show s.size = 0 by omega))
          clear hq
          go_enter Tryd.func24, Tryd.ntmps24
          go_wp2_with (refine wpl_alloc 36 rfl rfl #[.bool false, .string ⟨#[]⟩] zeroR15 ?_)
          intro b0 w0 hb0 ha0 hbe0
          have HX := hid' ha0
          have HB0 := hid' hbe0
          have HG0 := hid' hb0
          clear hb0 ha0 hbe0
          go_wp2_with (refine wpl_store 36 _ _ rfl rfl b0 #[.bool false, .string ⟨#[]⟩] (by kernel_rfl) (by kernel_rfl) _ _ HX.out sizeR15 rfl (by simp [Value.oneCell']) ?_)
          intro w2 ha2 hu2
          have hld := ldR15 ha2
          have HB2 := hid' (HB0.out.trans (hu2.below HG0.out))
          clear ha2 hu2
          go_wp2
          exact bodyPost_ret (v := .tuple #[.agg #[.bool false, .string ⟨#[]⟩], .int .i64 0]) (by simp [results, Tryd.results24, asAddr, hld]) rfl ⟨by rw [Tg.rV_no H1.out], HB2.out⟩
      · have hlt : 0 < s.size := by
          rw [HO.out] at hq
          rw [Lib.size_eq]
          rcases Nat.lt_or_ge 0 s.data.toList.length with h | h
          · exact h
          · simp [List.drop_eq_nil_of_le h] at hq
        have ht0 : ((s[0].toNat : Int) == 34) = true := by rw [← Tg.q_at s 0 hlt, ← HO.out]; exact hq
        have ht : ((s[0].toNat : Int) != 34) = false := by rw [bne, ht0]; rfl
        have hltI : ¬ ((s.size : Int) ≤ 0) := by omega
        have hltJ : ¬ s = ByteArray.empty := fun e => by rw [e] at hlt; simp at hlt
        clear ht0
        have HQ := hid' hq
        clear hq
        obtain ⟨z, hz⟩ : ∃ z, Tg.sz l = z := ⟨_, rfl⟩
        have HZ : Hid (Tg.inn (s.data.toList.drop 1) = z) := hid' (by rw [← hz]; unfold Tg.sz; rw [HO.out, List.drop_drop])
        have HZ2 := hid' hz
        have hzb : 1 + z ≤ s.size := by
          have := Tg.inn_le (s.data.toList.drop 1)
          rw [HZ.out, List.length_drop, ← Lib.size_eq] at this
          omega
        clear hz
        go_enter Tryd.func24, Tryd.ntmps24
        go_wp2_with (refine wpl_alloc 36 rfl rfl #[.bool false, .string ⟨#[]⟩] zeroR15 ?_)
        intro b0 w0 hb0 ha0 hbe0
        have HX := hid' ha0
        have HB0 := hid' hbe0
        have HG0 := hid' hb0
        clear hb0 ha0 hbe0
        go_wp2
        go_loopw [6] (fun s6 wr => ∃ k : Nat, s6 = .int .i64 ((1 + k : Nat) : Int) ∧ k ≤ z ∧ Hid (wr = w0)) (fun s6 _ => 1 + z - (intOf s6).toNat)
        case atStart => exact ⟨0, rfl, Nat.zero_le _, hid' rfl⟩
        case round =>
          obtain ⟨k, rfl, hk, HW⟩ := hrel
          obtain rfl := HW.out
          by_cases hkz : k < z
          · exfalso; omega
          · obtain rfl : k = z := by omega
            by_cases hks : 1 + k < s.size
            · exfalso; omega
            · have H1 : Hid (Tg.isOne l = false) := hid' (by
                unfold Tg.isOne
                rw [HQ.out, HZ2.out, HO.out, List.drop_drop, show 0 + (1 + k) = 1 + k by omega, List.drop_eq_nil_of_le (by rw [← Lib.size_eq]; omega)]; rfl)
              have hks2 : ¬ (((1 + k : Nat) : Int)) < (s.size : Int) := by omega
              clear hkz hks
              go_wp2_with (refine wpl_store 36 _ _ rfl rfl b0 #[.bool false, .string ⟨#[]⟩] (by kernel_rfl) (by kernel_rfl) _ _ HX.out sizeR15 rfl (by simp [Value.oneCell']) ?_)
              intro w2 ha2 hu2
              have hld := ldR15 ha2
              have HB2 := hid' (HB0.out.trans (hu2.below HG0.out))
              clear ha2 hu2
              go_wp2
              exact bodyPost_ret (v := .tuple #[.agg #[.bool false, .string ⟨#[]⟩], .int .i64 0]) (by simp [results, Tryd.results24, asAddr, hld]) rfl ⟨by rw [Tg.rV_no H1.out], HB2.out⟩
  · have HWK := hid' hwk
    have h2 : 2 ≤ s.size := by
      rcases Nat.lt_or_ge s.size 2 with h | h
      · rw [← hl, Tg.wk_no s (by omega)] at hwk; cases hwk
      · exact h
    have HO : Hid (Tg.opq l = s.data.toList.drop 2) := hid' (by unfold Tg.opq Tg.wn; rw [hwk, hl]; rfl)
    have h22 : ((s.extract 0 2).toList == [87, 47]) = true := by rw [Tg.wk_at s, hl]; exact hwk
    have h2I : (2 : Int) ≤ (s.size : Int) := by omega
    clear hwk
    cases hq : ((Tg.opq l).head? == some 34)
    · have H1 : Hid (Tg.isOne l = false) := hid' (by unfold Tg.isOne; rw [hq]; rfl)
      by_cases hlt : 2 < s.size
      · have hltI : ¬ ((s.size : Int) ≤ 2) := by omega
        have hltJ : ¬ s = ByteArray.empty := fun e => by rw [e] at hlt; simp at hlt
        have ht0 : ((s[2].toNat : Int) == 34) = false := by rw [← Tg.q_at s 2 hlt, ← HO.out]; exact hq
        have ht : ((s[2].toNat : Int) != 34) = true := by rw [bne, ht0]; rfl
        clear ht0
        clear hq
        go_enter Tryd.func24, Tryd.ntmps24
        go_wp2_with (refine wpl_alloc 36 rfl rfl #[.bool false, .string ⟨#[]⟩] zeroR15 ?_)
        intro b0 w0 hb0 ha0 hbe0
        have HX := hid' ha0
        have HB0 := hid' hbe0
        have HG0 := hid' hb0
        clear hb0 ha0 hbe0
        go_wp2_with (refine wpl_store 36 _ _ rfl rfl b0 #[.bool false, .string ⟨#[]⟩] (by kernel_rfl) (by kernel_rfl) _ _ HX.out sizeR15 rfl (by simp [Value.oneCell']) ?_)
        intro w2 ha2 hu2
        have hld := ldR15 ha2
        have HB2 := hid' (HB0.out.trans (hu2.below HG0.out))
        clear ha2 hu2
        go_wp2
        exact bodyPost_ret (v := .tuple #[.agg #[.bool false, .string ⟨#[]⟩], .int .i64 0]) (by simp [results, Tryd.results24, asAddr, hld]) rfl ⟨by rw [Tg.rV_no H1.out], HB2.out⟩
      · have hltI : ((s.size : Int) ≤ 2) := by omega
        skip
        clear hq
        go_enter Tryd.func24, Tryd.ntmps24
        go_wp2_with (refine wpl_alloc 36 rfl rfl #[.bool false, .string ⟨#[]⟩] zeroR15 ?_)
        intro b0 w0 hb0 ha0 hbe0
        have HX := hid' ha0
        have HB0 := hid' hbe0
        have HG0 := hid' hb0
        clear hb0 ha0 hbe0
        go_wp2_with (refine wpl_store 36 _ _ rfl rfl b0 #[.bool false, .string ⟨#[]⟩] (by kernel_rfl) (by kernel_rfl) _ _ HX.out sizeR15 rfl (by simp [Value.oneCell']) ?_)
        intro w2 ha2 hu2
        have hld := ldR15 ha2
        have HB2 := hid' (HB0.out.trans (hu2.below HG0.out))
        clear ha2 hu2
        go_wp2
        exact bodyPost_ret (v := .tuple #[.agg #[.bool false, .string ⟨#[]⟩], .int .i64 0]) (by simp [results, Tryd.results24, asAddr, hld]) rfl ⟨by rw [Tg.rV_no H1.out], HB2.out⟩
    · have hlt : 2 < s.size := by
        rw [HO.out] at hq
        rw [Lib.size_eq]
        rcases Nat.lt_or_ge 2 s.data.toList.length with h | h
        · exact h
        · simp [List.drop_eq_nil_of_le h] at hq
      have ht0 : ((s[2].toNat : Int) == 34) = true := by rw [← Tg.q_at s 2 hlt, ← HO.out]; exact hq
      have ht : ((s[2].toNat : Int) != 34) = false := by rw [bne, ht0]; rfl
      have hltI : ¬ ((s.size : Int) ≤ 2) := by omega
      have hltJ : ¬ s = ByteArray.empty := fun e => by rw [e] at hlt; simp at hlt
      clear ht0
      have HQ := hid' hq
      clear hq
      obtain ⟨z, hz⟩ : ∃ z, Tg.sz l = z := ⟨_, rfl⟩
      have HZ : Hid (Tg.inn (s.data.toList.drop 3) = z) := hid' (by rw [← hz]; unfold Tg.sz; rw [HO.out, List.drop_drop])
      have HZ2 := hid' hz
      have hzb : 3 + z ≤ s.size := by
        have := Tg.inn_le (s.data.toList.drop 3)
        rw [HZ.out, List.length_drop, ← Lib.size_eq] at this
        omega
      clear hz
      go_enter Tryd.func24, Tryd.ntmps24
      go_wp2_with (refine wpl_alloc 36 rfl rfl #[.bool false, .string ⟨#[]⟩] zeroR15 ?_)
      intro b0 w0 hb0 ha0 hbe0
      have HX := hid' ha0
      have HB0 := hid' hbe0
      have HG0 := hid' hb0
      clear hb0 ha0 hbe0
      go_wp2
      go_loopw [6] (fun s6 wr => ∃ k : Nat, s6 = .int .i64 ((3 + k : Nat) : Int) ∧ k ≤ z ∧ Hid (wr = w0)) (fun s6 _ => 3 + z - (intOf s6).toNat)
      case atStart => exact ⟨0, rfl, Nat.zero_le _, hid' rfl⟩
      case round =>
        obtain ⟨k, rfl, hk, HW⟩ := hrel
        obtain rfl := HW.out
        by_cases hkz : k < z
        · skip
          have hks : 3 + k < s.size := by omega
          have hks2 : (((3 + k : Nat) : Int)) < (s.size : Int) := by omega
          have he : Tg.etC (s[3 + k].toNat : Int) = true := Tg.in_at s 3 k hks (by rw [HZ.out]; exact hkz)
          go_wp2_with fail
          refine (retagc15 _ _ he _).mono ?_
          rintro e wq ⟨rfl, hwq⟩
          subst hwq
          go_wp2
          go_roundw
          case rel => exact ⟨k + 1, by go_num, by omega, HW⟩
          case measure => simp [intOf]; omega
        · obtain rfl : k = z := by omega
          by_cases hks : 3 + k < s.size
          · skip
            have hks2 : (((3 + k : Nat) : Int)) < (s.size : Int) := by omega
            have he : Tg.etC (s[3 + k].toNat : Int) = false := Tg.in_stop s 3 k hks HZ.out
            cases hd : ((s[3 + k].toNat : Int) == 34)
            · have H1 : Hid (Tg.isOne l = false) := hid' (by
                unfold Tg.isOne
                rw [HQ.out, HZ2.out, HO.out, List.drop_drop, show 2 + (1 + k) = 3 + k by omega, Tg.q_at s _ hks, hd]; rfl)
              have hd2 : ((s[3 + k].toNat : Int) != 34) = true := by rw [bne, hd]; rfl
              clear hd
              go_wp2_with fail
              refine (retagc15 _ _ he _).mono ?_
              rintro e wq ⟨rfl, hwq⟩
              subst hwq
              clear he
              go_wp2_with (refine wpl_store 36 _ _ rfl rfl b0 #[.bool false, .string ⟨#[]⟩] (by kernel_rfl) (by kernel_rfl) _ _ HX.out sizeR15 rfl (by simp [Value.oneCell']) ?_)
              intro w2 ha2 hu2
              have hld := ldR15 ha2
              have HB2 := hid' (HB0.out.trans (hu2.below HG0.out))
              clear ha2 hu2
              go_wp2
              exact bodyPost_ret (v := .tuple #[.agg #[.bool false, .string ⟨#[]⟩], .int .i64 0]) (by simp [results, Tryd.results24, asAddr, hld]) rfl ⟨by rw [Tg.rV_no H1.out], HB2.out⟩
            · have H1 : Hid (Tg.isOne l = true) := hid' (by
                unfold Tg.isOne
                rw [HQ.out, HZ2.out, HO.out, List.drop_drop, show 2 + (1 + k) = 3 + k by omega, Tg.q_at s _ hks, hd]; rfl)
              have hx1 : 3 + k + 1 ≤ s.size := by omega
              have hx2 : (((3 + k : Nat) : Int)) + 1 ≤ (s.size : Int) := by omega
              have HV : Hid (Tg.rV l = .tuple #[.agg #[.bool true, .string (s.extract 2 (3 + k + 1))], .int .i64 ((3 + k + 1 : Nat) : Int)]) := hid' (by
                rw [Tg.rV_yes H1.out]
                unfold Tg.tagOf Tg.nOf Tg.wn
                rw [HWK.out, HZ2.out, HO.out, Tg.ext_td s 2 (3 + k + 1), show 3 + k + 1 - 2 = k + 2 by omega]
                simp only [if_true]
                rw [show 2 + (k + 2) = 3 + k + 1 by omega])
              have hd2 : ((s[3 + k].toNat : Int) != 34) = false := by rw [bne, hd]; rfl
              clear hd
              go_wp2_with fail
              refine (retagc15 _ _ he _).mono ?_
              rintro e wq ⟨rfl, hwq⟩
              subst hwq
              clear he
              go_wp2_with (refine wpl_store 36 _ _ rfl rfl b0 #[.bool true, .string (s.extract 2 (3 + k + 1))] (by rfl) (by rfl) _ _ HX.out sizeR15 rfl (by simp [Value.oneCell']) ?_)
              intro w2 ha2 hu2
              have hld := ldR15 ha2
              have HB2 := hid' (HB0.out.trans (hu2.below HG0.out))
              clear ha2 hu2
              go_wp2
              exact bodyPost_ret (v := .tuple #[.agg #[.bool true, .string (s.extract 2 (3 + k + 1))], .int .i64 ((3 + k + 1 : Nat) : Int)]) (by simp [results, Tryd.results24, asAddr, hld]) rfl ⟨by rw [HV.out], HB2.out⟩
          · have H1 : Hid (Tg.isOne l = false) := hid' (by
              unfold Tg.isOne
              rw [HQ.out, HZ2.out, HO.out, List.drop_drop, show 2 + (1 + k) = 3 + k by omega, List.drop_eq_nil_of_le (by rw [← Lib.size_eq]; omega)]; rfl)
            have hks2 : ¬ (((3 + k : Nat) : Int)) < (s.size : Int) := by omega
            clear hkz hks
            go_wp2_with (refine wpl_store 36 _ _ rfl rfl b0 #[.bool false, .string ⟨#[]⟩] (by kernel_rfl) (by kernel_rfl) _ _ HX.out sizeR15 rfl (by simp [Value.oneCell']) ?_)
            intro w2 ha2 hu2
            have hld := ldR15 ha2
            have HB2 := hid' (HB0.out.trans (hu2.below HG0.out))
            clear ha2 hu2
            go_wp2
            exact bodyPost_ret (v := .tuple #[.agg #[.bool false, .string ⟨#[]⟩], .int .i64 0]) (by simp [results, Tryd.results24, asAddr, hld]) rfl ⟨by rw [Tg.rV_no H1.out], HB2.out⟩

end Go.Proofs.YtbnldneejbbhhaaDoor
