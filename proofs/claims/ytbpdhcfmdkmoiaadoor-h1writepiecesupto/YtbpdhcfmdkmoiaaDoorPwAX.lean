/-
  The document's comparisons of whole numbers, each by its contract.
  The document's int of a whole number that is not below 0, by its contract.
-/
import Derived.Test.YtbpdhcfmdkmoiaaDoorPwAU
import Derived.Test.YtbpdhcfmdkmoiaaDoorPwAV
namespace Go.Proofs.YtbpdhcfmdkmoiaaDoor
open Go.RowKit

namespace Big
def cmp (x y : Int) : Int := if x < y then -1 else if y < x then 1 else 0
theorem len_lt (la lb : List Int) (ha : Digs la) (hb : Digs lb) (hn : Norm lb) (h : la.length < lb.length) : val la < val lb := by
  have h1 := (val_bd la ha).2
  have h2 := norm_lo lb hb hn (by omega)
  have h3 := pw_mono la.length (lb.length - 1) (by omega)
  omega
theorem top_lt (la lb : List Int) (ha : Digs la) (hb : Digs lb) (k : Nat) (h1 : k < la.length) (h2 : k < lb.length) (hd : la.drop (k + 1) = lb.drop (k + 1)) (h : la[k] < lb[k]) : val la < val lb := by
  have e : ∀ l : List Int, ∀ h : k < l.length, val l = val (l.take k) + pw k * l[k] + pw (k + 1) * val (l.drop (k + 1)) := by
    intro l h
    conv => lhs; rw [← List.take_append_drop (k + 1) l, val_append, val_take l k h, List.length_take, Nat.min_eq_left (by omega)]
  rw [e la h1, e lb h2, hd]
  have b1 := (val_bd _ (ha.take k)).2
  have b2 := (val_bd _ (hb.take k)).1
  rw [List.length_take, Nat.min_eq_left (by omega)] at b1
  have b3 : pw k * (la[k] + 1) ≤ pw k * lb[k] := Int.mul_le_mul_of_nonneg_left (by omega) (by have := pw_pos k; omega)
  rw [Int.mul_add, Int.mul_one] at b3
  omega
theorem cmp_lt {x y : Int} (h : x < y) : cmp x y = -1 := if_pos h
theorem cmp_gt {x y : Int} (h : y < x) : cmp x y = 1 := by unfold cmp; rw [if_neg (by omega), if_pos h]
theorem cmp_eq {x y : Int} (h : x = y) : cmp x y = 0 := by unfold cmp; rw [if_neg (by omega), if_neg (by omega)]
end Big

set_option maxRecDepth 20000 in
set_option maxHeartbeats 2000000 in
theorem bsize_any (va vb : Value) (la lb : List Int) (x y : Int) (w : World) (ha : Wh w va la x) (hb : Wh w vb lb y) :
    Calls Tryd.prog 73 #[va, vb] w fun e w' => e = .returned (.int .i64 (Big.cmp x y)) ∧ ∃ n, w' = w.drewN n := by
  obtain ⟨aa, ca, rfl, _, hca⟩ := ha.ints
  obtain ⟨ab, cb, rfl, _, hcb⟩ := hb.ints
  have hla := ha.len
  have hlb := hb.len
  have HCA := hid hca
  have HCB := hid hcb
  have HA := hid ha
  have HB := hid hb
  clear ha hb hca hcb
  by_cases hlen : la.length = lb.length
  · have hne : (((la.length : Nat) : Int) != ((lb.length : Nat) : Int)) = false := by rw [bne_eq_false_iff_eq]; omega
    have HLEN := hid hlen
    obtain ⟨N, hN⟩ : ∃ N, N = lb.length := ⟨_, rfl⟩
    have HN := hid hN
    rw [hlen, ← hN] at hne hla ⊢
    rw [← hN] at hlb
    clear hlen hN
    have HEQ : Hid (la = lb → Big.cmp x y = 0) := hid (fun e => Big.cmp_eq (by rw [← HA.out.val, ← HB.out.val, e]))
    by_cases hpos : 0 < N
    · go_enter Tryd.func73, Tryd.ntmps73
      go_wp2
      go_loopw [5] (fun iv wr => ((iv = .int .i64 (-1) ∧ la = lb) ∨ (∃ k : Nat, k < N ∧ iv = .int .i64 k ∧ la.drop (k + 1) = lb.drop (k + 1))) ∧ ∃ nq, wr = w.drewN nq) (fun iv _ => (intOf iv + 1).toNat)
      case atStart =>
        refine ⟨.inr ⟨N - 1, by omega, by go_num, ?_⟩, 0, rfl⟩
        have h1 := HLEN.out
        have h2 := HN.out
        rw [List.drop_eq_nil_of_le (by omega), List.drop_eq_nil_of_le (by omega)]
      case round =>
        obtain ⟨hd, nq, rfl⟩ := hrel
        rcases hd with ⟨rfl, he⟩ | ⟨k, hk, rfl, hdr⟩
        · have HF := hid (HEQ.out he)
          clear he
          go_wp2
          go_ret
          exact ⟨ret_int HF.out.symm, _, rfl⟩
        · have hka : k < la.length := by have := HLEN.out; have := HN.out; omega
          have hkb : k < lb.length := by have := HN.out; omega
          obtain ⟨ba, oa, rfl, hcella⟩ := HCA.out k hka
          obtain ⟨bb, ob, rfl, hcellb⟩ := HCB.out k hkb
          obtain ⟨da, hda⟩ : ∃ d, d = la[k] := ⟨_, rfl⟩
          obtain ⟨db, hdb⟩ : ∃ d, d = lb[k] := ⟨_, rfl⟩
          rw [← hda] at hcella
          rw [← hdb] at hcellb
          have HDA := hid hda
          have HDB := hid hdb
          have HDR := hid hdr
          clear hda hdb hdr
          by_cases h1 : da < db
          · have HF : Hid (Big.cmp x y = -1) := hid (Big.cmp_lt (by
              rw [← HA.out.val, ← HB.out.val]
              exact Big.top_lt la lb HA.out.digs HB.out.digs k hka hkb HDR.out (by rw [← HDA.out, ← HDB.out]; exact h1)))
            go_wp2
            go_quiet (fail)
            go_wp2
            go_ret
            exact ⟨ret_int HF.out.symm, _, by first | rfl | rw [World.drewN_drewN]⟩
          · have h1d : decide (da < db) = false := decide_eq_false h1
            by_cases h2 : db < da
            · have HF : Hid (Big.cmp x y = 1) := hid (Big.cmp_gt (by
                rw [← HA.out.val, ← HB.out.val]
                exact Big.top_lt lb la HB.out.digs HA.out.digs k hkb hka HDR.out.symm (by rw [← HDA.out, ← HDB.out]; exact h2)))
              go_wp2
              go_quiet (fail)
              go_wp2
              go_quiet (fail)
              go_wp2
              go_ret
              exact ⟨ret_int HF.out.symm, _, by first | rfl | rw [World.drewN_drewN, World.drewN_drewN] | rw [World.drewN_drewN]⟩
            · have h2d : decide (db < da) = false := decide_eq_false h2
              have HK : Hid (la.drop k = lb.drop k) := hid (by
                rw [List.drop_eq_getElem_cons hka, List.drop_eq_getElem_cons hkb, HDR.out, ← HDA.out, ← HDB.out, show da = db by omega])
              go_wp2
              go_quiet (fail)
              go_wp2
              go_quiet (fail)
              go_wp2
              go_roundw
              case rel =>
                refine ⟨?_, _, rfl⟩
                by_cases hk0 : k = 0
                · subst hk0
                  exact .inl ⟨by go_num, by simpa using HK.out⟩
                · refine .inr ⟨k - 1, by omega, by go_num, ?_⟩
                  rw [show k - 1 + 1 = k by omega]; exact HK.out
              case measure => simp [intOf]
    · obtain rfl : N = 0 := by omega
      have HF := hid (HEQ.out (by
        have h1 := HLEN.out
        have h2 := HN.out
        rw [List.eq_nil_of_length_eq_zero (l := la) (by omega), List.eq_nil_of_length_eq_zero (l := lb) (by omega)]))
      go_enter Tryd.func73, Tryd.ntmps73
      go_wp2
      go_loopw [5] (fun iv wr => iv = .int .i64 (-1) ∧ wr = w) (fun _ _ => 0)
      case atStart => exact ⟨rfl, rfl⟩
      case round =>
        obtain ⟨rfl, rfl⟩ := hrel
        go_wp2
        go_ret
        exact ⟨ret_int HF.out.symm, 0, rfl⟩
  · have hne : (((la.length : Nat) : Int) != ((lb.length : Nat) : Int)) = true := by rw [bne_iff_ne]; omega
    by_cases hlt : la.length < lb.length
    · have HF : Hid (Big.cmp x y = -1) := hid (Big.cmp_lt (by rw [← HA.out.val, ← HB.out.val]; exact Big.len_lt la lb HA.out.digs HB.out.digs HB.out.norm hlt))
      go_enter Tryd.func73, Tryd.ntmps73
      go_wp2
      go_ret
      exact ⟨ret_int HF.out.symm, 0, rfl⟩
    · have HF : Hid (Big.cmp x y = 1) := hid (Big.cmp_gt (by rw [← HA.out.val, ← HB.out.val]; exact Big.len_lt lb la HB.out.digs HA.out.digs HA.out.norm (by omega)))
      go_enter Tryd.func73, Tryd.ntmps73
      go_wp2
      go_ret
      exact ⟨ret_int HF.out.symm, 0, rfl⟩

set_option maxRecDepth 20000 in
set_option maxHeartbeats 1000000 in
theorem bcmp_any (va vb : Value) (la lb : List Int) (x y : Int) (w : World) (ha : Wh w va la x) (hb : Wh w vb lb y) :
    Calls Tryd.prog 76 #[.agg #[.bool false, va], .agg #[.bool false, vb]] w fun e w' => e = .returned (.int .i64 (Big.cmp x y)) ∧ Below w.heap.size w w' := by
  have HBW : Hid (Below w.heap.size w ((w.alloc (.cells #[.bool false, va] 68)).alloc (.cells #[.bool false, vb] 68))) := hid (((Below.refl _ _).alloc (Nat.le_refl _) _).alloc (by simp) _)
  have HA := hid (ha.below HBW.out)
  have HB := hid (hb.below HBW.out)
  obtain ⟨aa, ca, rfl, _, _⟩ := ha.ints
  obtain ⟨ab, cb, rfl, _, _⟩ := hb.ints
  clear ha hb
  go_enter Tryd.func76, Tryd.ntmps76
  go_wp2_with (go_at_call 73; refine (bsize_any _ _ la lb x y _ HA.out HB.out).mono ?_; rintro e w' ⟨rfl, n, rfl⟩)
  go_ret
  exact ⟨rfl, below_two HBW.out (below_drewN _ _)⟩

set_option maxRecDepth 20000 in
set_option maxHeartbeats 1000000 in
theorem bcmp_min (aa ab : Option Addr) (na ca nb cb : Nat) (w : World) :
    Calls Tryd.prog 76 #[.agg #[.bool false, .slice aa na ca], .agg #[.bool true, .slice ab nb cb]] w fun e w' => e = .returned (.int .i64 1) ∧ Below w.heap.size w w' := by
  go_enter Tryd.func76, Tryd.ntmps76
  go_wp2
  go_ret
  exact ⟨rfl, ((Below.refl _ _).alloc (Nat.le_refl _) _).alloc (by simp) _⟩

end Go.Proofs.YtbpdhcfmdkmoiaaDoor

namespace Go.Proofs.YtbpdhcfmdkmoiaaDoor
open Go.RowKit

namespace Big
theorem drop_val (l : List Int) (k : Nat) (h : k < l.length) : val (l.drop k) = l[k] + bas * val (l.drop (k + 1)) := by
  rw [List.drop_eq_getElem_cons h]; rfl
theorem drop_bd (l : List Int) (h : Digs l) (k : Nat) : 0 ≤ val (l.drop k) ∧ val (l.drop k) ≤ val l := by
  have hd : Digs (l.drop k) := fun x hx => h x (List.mem_of_mem_drop hx)
  have h1 := (val_bd _ hd).1
  have h2 := (val_bd _ (h.take k)).1
  have e : val l = val (l.take k) + pw (l.take k).length * val (l.drop k) := by
    conv => lhs; rw [← List.take_append_drop k l, val_append]
  have hp := pw_pos (l.take k).length
  have : 1 * val (l.drop k) ≤ pw (l.take k).length * val (l.drop k) := Int.mul_le_mul_of_nonneg_right hp h1
  omega
end Big

theorem bcmp_q (va vb : Value) (la lb : List Int) (x y q : Int) (w : World) (hq : Big.cmp x y = q) (ha : Wh w va la x) (hb : Wh w vb lb y) :
    Calls Tryd.prog 76 #[.agg #[.bool false, va], .agg #[.bool false, vb]] w fun e w' => e = .returned (.int .i64 q) ∧ Below w.heap.size w w' := by
  subst hq; exact bcmp_any va vb la lb x y w ha hb

set_option maxRecDepth 20000 in
set_option maxHeartbeats 2000000 in
theorem bint_no (va : Value) (la : List Int) (x : Int) (w : World) (ha : Wh w va la x) (hx : 9223372036854775807 < x) :
    Calls Tryd.prog 58 #[.agg #[.bool false, va]] w fun e w' => e = .returned (.tuple #[.int .i64 0, .bool false]) ∧ Below w.heap.size w w' := by
  obtain ⟨aa, ca, rfl⟩ := ha.shape
  have HBW : Hid (Below w.heap.size w ((w.alloc (.cells #[.bool false, .slice aa la.length ca] 68)).drew)) := hid ((Below.refl _ _).alloc (Nat.le_refl _) _).drew
  have HA := hid (ha.below HBW.out)
  have HQ := hid (Big.cmp_gt hx)
  have HC0 : Hid (Cell2 ((w.alloc (.cells #[.bool false, .slice aa la.length ca] 68)).drew) w.heap.size (.bool false) (.slice aa la.length ca)) := hid (by have := Cell2.new w (.bool false) (.slice aa la.length ca) 68; exact ⟨this.c0, this.c1, this.f0, this.f1⟩)
  clear ha hx
  go_enter Tryd.func58, Tryd.ntmps58
  go_wp2
  go_region_with (first
    | (go_at_call 55; with_reducible refine (bof_min _).mono ?_; rintro e w1 ⟨v1, rfl, ⟨a1, n1, c1, rfl⟩, hb1⟩; have HB1 := hid hb1; have HC1 := hid (HC0.out.below hb1 (by simp)); have k1a := HC1.out.c0; have k1b := HC1.out.c1; clear hb1)
    | (go_at_call 55; with_reducible refine (bof_any _ _ (by decide) (by decide)).mono ?_; rintro e w3 ⟨v3, rfl, hfr3, ⟨l3, hw3, hl3⟩, hb3⟩; obtain ⟨a3, c3, rfl⟩ := hw3.shape; have HB3 := hid hb3; have HW3 := hid hw3; have HC3 := hid (HC2.out.below hb3 (World.block_lt_of_cell? _ _ HC2.out.c0)); have k3a := HC3.out.c0; have k3b := HC3.out.c1; clear hb3 hw3 hfr3)
    | (go_at_call 76; with_reducible refine (bcmp_min _ _ _ _ _ _ _).mono ?_; rintro e w2 ⟨rfl, hb2⟩; have HB2 := hid hb2; have HC2 := hid (HC1.out.below hb2 (World.block_lt_of_cell? _ _ HC1.out.c0)); have k2a := HC2.out.c0; have k2b := HC2.out.c1; clear hb2)
    | (go_at_call 76; refine (bcmp_q _ _ la l3 x _ 1 _ HQ.out (HA.out.below (below_two (below_two HB1.out HB2.out) HB3.out)) HW3.out).mono ?_; rintro e w4 ⟨rfl, hb4⟩; have HB4 := hid hb4; have HC4 := hid (HC3.out.below hb4 (World.block_lt_of_cell? _ _ HC3.out.c0)); have k4a := HC4.out.c0; have k4b := HC4.out.c1; clear hb4))
  all_goals go_wp2
  all_goals go_ret2
  all_goals exact ⟨rfl, below_two (below_two (below_two (below_two HBW.out HB1.out) HB2.out) HB3.out) HB4.out⟩

set_option maxRecDepth 20000 in
set_option maxHeartbeats 2000000 in
theorem bint_yes (va : Value) (la : List Int) (x : Int) (w : World) (ha : Wh w va la x) (hx : x ≤ 9223372036854775807) :
    Calls Tryd.prog 58 #[.agg #[.bool false, va]] w fun e w' => e = .returned (.tuple #[.int .i64 x, .bool true]) ∧ Below w.heap.size w w' := by
  obtain ⟨aa, ca, rfl⟩ := ha.shape
  have HBW : Hid (Below w.heap.size w ((w.alloc (.cells #[.bool false, .slice aa la.length ca] 68)).drew)) := hid ((Below.refl _ _).alloc (Nat.le_refl _) _).drew
  have HA := hid (ha.below HBW.out)
  obtain ⟨q, hq, hq0⟩ : ∃ q, Big.cmp x 9223372036854775807 = q ∧ decide (0 < q) = false := by
    rcases Int.lt_or_le x 9223372036854775807 with h | h
    · exact ⟨_, Big.cmp_lt h, rfl⟩
    · exact ⟨_, Big.cmp_eq (by omega), rfl⟩
  have HQ := hid hq
  have HXX := hid hx
  have HLEN := hid ha.len
  have hlen := ha.len
  have HDG := hid ha.digs
  have HV := hid ha.val
  have HCA := hid ha.ints
  clear hq
  have HC0 : Hid (Cell2 ((w.alloc (.cells #[.bool false, .slice aa la.length ca] 68)).drew) w.heap.size (.bool false) (.slice aa la.length ca)) := hid (by have := Cell2.new w (.bool false) (.slice aa la.length ca) 68; exact ⟨this.c0, this.c1, this.f0, this.f1⟩)
  clear ha hx
  go_enter Tryd.func58, Tryd.ntmps58
  go_wp2
  go_region_with (first
    | (go_at_call 55; with_reducible refine (bof_min _).mono ?_; rintro e w1 ⟨v1, rfl, ⟨a1, n1, c1, rfl⟩, hb1⟩; have HB1 := hid hb1; have HC1 := hid (HC0.out.below hb1 (by simp)); have k1a := HC1.out.c0; have k1b := HC1.out.c1; clear hb1)
    | (go_at_call 55; with_reducible refine (bof_any _ _ (by decide) (by decide)).mono ?_; rintro e w3 ⟨v3, rfl, hfr3, ⟨l3, hw3, hl3⟩, hb3⟩; obtain ⟨a3, c3, rfl⟩ := hw3.shape; have HB3 := hid hb3; have HW3 := hid hw3; have HC3 := hid (HC2.out.below hb3 (World.block_lt_of_cell? _ _ HC2.out.c0)); have k3a := HC3.out.c0; have k3b := HC3.out.c1; clear hb3 hw3 hfr3)
    | (go_at_call 76; with_reducible refine (bcmp_min _ _ _ _ _ _ _).mono ?_; rintro e w2 ⟨rfl, hb2⟩; have HB2 := hid hb2; have HC2 := hid (HC1.out.below hb2 (World.block_lt_of_cell? _ _ HC1.out.c0)); have k2a := HC2.out.c0; have k2b := HC2.out.c1; clear hb2)
    | (go_at_call 76; refine (bcmp_q _ _ la l3 x _ q _ HQ.out (HA.out.below (below_two (below_two HB1.out HB2.out) HB3.out)) HW3.out).mono ?_; rintro e w4 ⟨rfl, hb4⟩; have HB4 := hid hb4; have HC4 := hid (HC3.out.below hb4 (World.block_lt_of_cell? _ _ HC3.out.c0)); have k4a := HC4.out.c0; have k4b := HC4.out.c1; clear hb4))
  all_goals clear k1a k1b k2a k2b k3a k3b
  all_goals go_wp2
  all_goals
    have HBX := hid (below_two (below_two (below_two (below_two HBW.out HB1.out) HB2.out) HB3.out) HB4.out)
    have HC := hid (HCA.out.below HBX.out)
    go_loop [4, 5] (fun nv iv => (iv = .int .i64 (-1) ∧ nv = .int .i64 x) ∨ (∃ k : Nat, k < la.length ∧ iv = .int .i64 k ∧ nv = .int .i64 (Big.val (la.drop (k + 1))))) (fun _ iv => (intOf iv + 1).toNat)
    case atStart =>
      by_cases hpos : 0 < la.length
      · refine .inr ⟨la.length - 1, by omega, by go_num, ?_⟩
        rw [List.drop_eq_nil_of_le (by omega)]; rfl
      · refine .inl ⟨by go_num, ?_⟩
        rw [← HV.out, List.eq_nil_of_length_eq_zero (l := la) (by omega)]; rfl
    case round =>
      rcases hrel with ⟨rfl, rfl⟩ | ⟨k, hk, rfl, rfl⟩
      · go_wp2
        go_ret2
        exact ⟨rfl, HBX.out⟩
      · obtain ⟨b, o, cap, hsh, _, hc⟩ := HC.out.head (by omega)
        simp only [Value.slice.injEq] at hsh
        obtain ⟨rfl, _, rfl⟩ := hsh
        have hcell := hc k hk
        obtain ⟨dk, hdk⟩ : ∃ dk, dk = la[k] := ⟨_, rfl⟩
        obtain ⟨d0, d1⟩ := HDG.out la[k] (List.getElem_mem _)
        rw [← hdk] at hcell d0 d1
        rw [Big.bas_eq] at d1
        obtain ⟨nv, hnv⟩ : ∃ nv, nv = Big.val (la.drop (k + 1)) := ⟨_, rfl⟩
        have hn0 : 0 ≤ nv := by rw [hnv]; exact (Big.drop_bd la HDG.out (k + 1)).1
        have hval : Big.val (la.drop k) = nv * 1073741824 + dk := by rw [Big.drop_val la k hk, ← hdk, ← hnv, Big.bas_eq]; omega
        have hno : nv * 1073741824 + dk ≤ 9223372036854775807 := by
          rw [← hval]; have h1 := (Big.drop_bd la HDG.out k).2; rw [HV.out] at h1; exact Int.le_trans h1 HXX.out
        have HVK := hid hval
        rw [← hnv]
        clear hc hdk hnv hval
        go_wp2
        go_round
        case rel =>
          by_cases hk0 : k = 0
          · subst hk0
            refine .inl ⟨by go_num, ?_⟩
            have := HVK.out
            rw [List.drop_zero, HV.out] at this
            rw [this]
          · refine .inr ⟨k - 1, by omega, by go_num, ?_⟩
            rw [show k - 1 + 1 = k by omega, HVK.out]
        case measure => simp [intOf]

end Go.Proofs.YtbpdhcfmdkmoiaaDoor
