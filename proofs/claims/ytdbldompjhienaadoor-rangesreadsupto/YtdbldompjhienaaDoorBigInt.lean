/-
  The document's int of a whole number that is not below 0, by its contract.
-/
import Derived.Test.YtdbldompjhienaaDoorBigCmp
import Derived.Test.YtdbldompjhienaaDoorBigPlus
namespace Go.Proofs.YtdbldompjhienaaDoor
open Go.RowKit

namespace Big
theorem drop_val (l : List Int) (k : Nat) (h : k < l.length) : val (l.drop k) = l[k] + bas * val (l.drop (k + 1)) := by
  rw [List.drop_eq_getElem_cons h]; rfl
theorem drop_bd (l : List Int) (h : Digs l) (k : Nat) : 0 ≤ val (l.drop k) ∧ val (l.drop k) ≤ val l := by
  have hd : Digs (l.drop k) := fun x hx => h x (List.mem_of_mem_drop hx)
  have h1 := (val_bd _ hd).1
  have h2 := (val_bd _ (h.take k)).1
  have e : val l = val (l.take k) + pw (l.take k).length * val (l.drop k) := by
    conv => lhs; rw [← List.take_append_drop k l, val_append]
  have hp := pw_pos (l.take k).length
  have : 1 * val (l.drop k) ≤ pw (l.take k).length * val (l.drop k) := Int.mul_le_mul_of_nonneg_right hp h1
  omega
end Big

theorem bcmp_q (va vb : Value) (la lb : List Int) (x y q : Int) (w : World) (hq : Big.cmp x y = q) (ha : Wh w va la x) (hb : Wh w vb lb y) :
    Calls Tryd.prog 98 #[.agg #[.bool false, va], .agg #[.bool false, vb]] w fun e w' => e = .returned (.int .i64 q) ∧ Below w.heap.size w w' := by
  subst hq; exact bcmp_any va vb la lb x y w ha hb

set_option maxRecDepth 20000 in
set_option maxHeartbeats 2000000 in
theorem bint_no (va : Value) (la : List Int) (x : Int) (w : World) (ha : Wh w va la x) (hx : 9223372036854775807 < x) :
    Calls Tryd.prog 80 #[.agg #[.bool false, va]] w fun e w' => e = .returned (.tuple #[.int .i64 0, .bool false]) ∧ Below w.heap.size w w' := by
  obtain ⟨aa, ca, rfl⟩ := ha.shape
  have HBW : Hid (Below w.heap.size w ((w.alloc (.cells #[.bool false, .slice aa la.length ca] 99)).drew)) := hid ((Below.refl _ _).alloc (Nat.le_refl _) _).drew
  have HA := hid (ha.below HBW.out)
  have HQ := hid (Big.cmp_gt hx)
  have HC0 : Hid (Cell2 ((w.alloc (.cells #[.bool false, .slice aa la.length ca] 99)).drew) w.heap.size (.bool false) (.slice aa la.length ca)) := hid (by have := Cell2.new w (.bool false) (.slice aa la.length ca) 99; exact ⟨this.c0, this.c1, this.f0, this.f1⟩)
  clear ha hx
  go_enter Tryd.func80, Tryd.ntmps80
  go_wp2
  go_region_with (first
    | (go_at_call 77; with_reducible refine (bof_min _).mono ?_; rintro e w1 ⟨v1, rfl, ⟨a1, n1, c1, rfl⟩, hb1⟩; have HB1 := hid hb1; have HC1 := hid (HC0.out.below hb1 (by simp)); have k1a := HC1.out.c0; have k1b := HC1.out.c1; clear hb1)
    | (go_at_call 77; with_reducible refine (bof_any _ _ (by decide) (by decide)).mono ?_; rintro e w3 ⟨v3, rfl, hfr3, ⟨l3, hw3, hl3⟩, hb3⟩; obtain ⟨a3, c3, rfl⟩ := hw3.shape; have HB3 := hid hb3; have HW3 := hid hw3; have HC3 := hid (HC2.out.below hb3 (World.block_lt_of_cell? _ _ HC2.out.c0)); have k3a := HC3.out.c0; have k3b := HC3.out.c1; clear hb3 hw3 hfr3)
    | (go_at_call 98; with_reducible refine (bcmp_min _ _ _ _ _ _ _).mono ?_; rintro e w2 ⟨rfl, hb2⟩; have HB2 := hid hb2; have HC2 := hid (HC1.out.below hb2 (World.block_lt_of_cell? _ _ HC1.out.c0)); have k2a := HC2.out.c0; have k2b := HC2.out.c1; clear hb2)
    | (go_at_call 98; refine (bcmp_q _ _ la l3 x _ 1 _ HQ.out (HA.out.below (below_two (below_two HB1.out HB2.out) HB3.out)) HW3.out).mono ?_; rintro e w4 ⟨rfl, hb4⟩; have HB4 := hid hb4; have HC4 := hid (HC3.out.below hb4 (World.block_lt_of_cell? _ _ HC3.out.c0)); have k4a := HC4.out.c0; have k4b := HC4.out.c1; clear hb4))
  all_goals go_wp2
  all_goals go_ret2
  all_goals exact ⟨rfl, below_two (below_two (below_two (below_two HBW.out HB1.out) HB2.out) HB3.out) HB4.out⟩

set_option maxRecDepth 20000 in
set_option maxHeartbeats 2000000 in
theorem bint_yes (va : Value) (la : List Int) (x : Int) (w : World) (ha : Wh w va la x) (hx : x ≤ 9223372036854775807) :
    Calls Tryd.prog 80 #[.agg #[.bool false, va]] w fun e w' => e = .returned (.tuple #[.int .i64 x, .bool true]) ∧ Below w.heap.size w w' := by
  obtain ⟨aa, ca, rfl⟩ := ha.shape
  have HBW : Hid (Below w.heap.size w ((w.alloc (.cells #[.bool false, .slice aa la.length ca] 99)).drew)) := hid ((Below.refl _ _).alloc (Nat.le_refl _) _).drew
  have HA := hid (ha.below HBW.out)
  obtain ⟨q, hq, hq0⟩ : ∃ q, Big.cmp x 9223372036854775807 = q ∧ decide (0 < q) = false := by
    rcases Int.lt_or_le x 9223372036854775807 with h | h
    · exact ⟨_, Big.cmp_lt h, rfl⟩
    · exact ⟨_, Big.cmp_eq (by omega), rfl⟩
  have HQ := hid hq
  have HXX := hid hx
  have HLEN := hid ha.len
  have hlen := ha.len
  have HDG := hid ha.digs
  have HV := hid ha.val
  have HCA := hid ha.ints
  clear hq
  have HC0 : Hid (Cell2 ((w.alloc (.cells #[.bool false, .slice aa la.length ca] 99)).drew) w.heap.size (.bool false) (.slice aa la.length ca)) := hid (by have := Cell2.new w (.bool false) (.slice aa la.length ca) 99; exact ⟨this.c0, this.c1, this.f0, this.f1⟩)
  clear ha hx
  go_enter Tryd.func80, Tryd.ntmps80
  go_wp2
  go_region_with (first
    | (go_at_call 77; with_reducible refine (bof_min _).mono ?_; rintro e w1 ⟨v1, rfl, ⟨a1, n1, c1, rfl⟩, hb1⟩; have HB1 := hid hb1; have HC1 := hid (HC0.out.below hb1 (by simp)); have k1a := HC1.out.c0; have k1b := HC1.out.c1; clear hb1)
    | (go_at_call 77; with_reducible refine (bof_any _ _ (by decide) (by decide)).mono ?_; rintro e w3 ⟨v3, rfl, hfr3, ⟨l3, hw3, hl3⟩, hb3⟩; obtain ⟨a3, c3, rfl⟩ := hw3.shape; have HB3 := hid hb3; have HW3 := hid hw3; have HC3 := hid (HC2.out.below hb3 (World.block_lt_of_cell? _ _ HC2.out.c0)); have k3a := HC3.out.c0; have k3b := HC3.out.c1; clear hb3 hw3 hfr3)
    | (go_at_call 98; with_reducible refine (bcmp_min _ _ _ _ _ _ _).mono ?_; rintro e w2 ⟨rfl, hb2⟩; have HB2 := hid hb2; have HC2 := hid (HC1.out.below hb2 (World.block_lt_of_cell? _ _ HC1.out.c0)); have k2a := HC2.out.c0; have k2b := HC2.out.c1; clear hb2)
    | (go_at_call 98; refine (bcmp_q _ _ la l3 x _ q _ HQ.out (HA.out.below (below_two (below_two HB1.out HB2.out) HB3.out)) HW3.out).mono ?_; rintro e w4 ⟨rfl, hb4⟩; have HB4 := hid hb4; have HC4 := hid (HC3.out.below hb4 (World.block_lt_of_cell? _ _ HC3.out.c0)); have k4a := HC4.out.c0; have k4b := HC4.out.c1; clear hb4))
  all_goals clear k1a k1b k2a k2b k3a k3b
  all_goals go_wp2
  all_goals
    have HBX := hid (below_two (below_two (below_two (below_two HBW.out HB1.out) HB2.out) HB3.out) HB4.out)
    have HC := hid (HCA.out.below HBX.out)
    go_loop [4, 5] (fun nv iv => (iv = .int .i64 (-1) ∧ nv = .int .i64 x) ∨ (∃ k : Nat, k < la.length ∧ iv = .int .i64 k ∧ nv = .int .i64 (Big.val (la.drop (k + 1))))) (fun _ iv => (intOf iv + 1).toNat)
    case atStart =>
      by_cases hpos : 0 < la.length
      · refine .inr ⟨la.length - 1, by omega, by go_num, ?_⟩
        rw [List.drop_eq_nil_of_le (by omega)]; rfl
      · refine .inl ⟨by go_num, ?_⟩
        rw [← HV.out, List.eq_nil_of_length_eq_zero (l := la) (by omega)]; rfl
    case round =>
      rcases hrel with ⟨rfl, rfl⟩ | ⟨k, hk, rfl, rfl⟩
      · go_wp2
        go_ret2
        exact ⟨rfl, HBX.out⟩
      · obtain ⟨b, o, cap, hsh, _, hc⟩ := HC.out.head (by omega)
        simp only [Value.slice.injEq] at hsh
        obtain ⟨rfl, _, rfl⟩ := hsh
        have hcell := hc k hk
        obtain ⟨dk, hdk⟩ : ∃ dk, dk = la[k] := ⟨_, rfl⟩
        obtain ⟨d0, d1⟩ := HDG.out la[k] (List.getElem_mem _)
        rw [← hdk] at hcell d0 d1
        rw [Big.bas_eq] at d1
        obtain ⟨nv, hnv⟩ : ∃ nv, nv = Big.val (la.drop (k + 1)) := ⟨_, rfl⟩
        have hn0 : 0 ≤ nv := by rw [hnv]; exact (Big.drop_bd la HDG.out (k + 1)).1
        have hval : Big.val (la.drop k) = nv * 1073741824 + dk := by rw [Big.drop_val la k hk, ← hdk, ← hnv, Big.bas_eq]; omega
        have hno : nv * 1073741824 + dk ≤ 9223372036854775807 := by
          rw [← hval]; have h1 := (Big.drop_bd la HDG.out k).2; rw [HV.out] at h1; exact Int.le_trans h1 HXX.out
        have HVK := hid hval
        rw [← hnv]
        clear hc hdk hnv hval
        go_wp2
        go_round
        case rel =>
          by_cases hk0 : k = 0
          · subst hk0
            refine .inl ⟨by go_num, ?_⟩
            have := HVK.out
            rw [List.drop_zero, HV.out] at this
            rw [this]
          · refine .inr ⟨k - 1, by omega, by go_num, ?_⟩
            rw [show k - 1 + 1 = k by omega, HVK.out]
        case measure => simp [intOf]

end Go.Proofs.YtdbldompjhienaaDoor
