/-
  The document's comparisons of whole numbers, each by its contract.
-/
import Derived.Test.YtdbldompjhienaaDoorBigOf
namespace Go.Proofs.YtdbldompjhienaaDoor
open Go.RowKit

namespace Big
def cmp (x y : Int) : Int := if x < y then -1 else if y < x then 1 else 0
theorem len_lt (la lb : List Int) (ha : Digs la) (hb : Digs lb) (hn : Norm lb) (h : la.length < lb.length) : val la < val lb := by
  have h1 := (val_bd la ha).2
  have h2 := norm_lo lb hb hn (by omega)
  have h3 := pw_mono la.length (lb.length - 1) (by omega)
  omega
theorem top_lt (la lb : List Int) (ha : Digs la) (hb : Digs lb) (k : Nat) (h1 : k < la.length) (h2 : k < lb.length) (hd : la.drop (k + 1) = lb.drop (k + 1)) (h : la[k] < lb[k]) : val la < val lb := by
  have e : ∀ l : List Int, ∀ h : k < l.length, val l = val (l.take k) + pw k * l[k] + pw (k + 1) * val (l.drop (k + 1)) := by
    intro l h
    conv => lhs; rw [← List.take_append_drop (k + 1) l, val_append, val_take l k h, List.length_take, Nat.min_eq_left (by omega)]
  rw [e la h1, e lb h2, hd]
  have b1 := (val_bd _ (ha.take k)).2
  have b2 := (val_bd _ (hb.take k)).1
  rw [List.length_take, Nat.min_eq_left (by omega)] at b1
  have b3 : pw k * (la[k] + 1) ≤ pw k * lb[k] := Int.mul_le_mul_of_nonneg_left (by omega) (by have := pw_pos k; omega)
  rw [Int.mul_add, Int.mul_one] at b3
  omega
theorem cmp_lt {x y : Int} (h : x < y) : cmp x y = -1 := if_pos h
theorem cmp_gt {x y : Int} (h : y < x) : cmp x y = 1 := by unfold cmp; rw [if_neg (by omega), if_pos h]
theorem cmp_eq {x y : Int} (h : x = y) : cmp x y = 0 := by unfold cmp; rw [if_neg (by omega), if_neg (by omega)]
end Big

set_option maxRecDepth 20000 in
set_option maxHeartbeats 2000000 in
theorem bsize_any (va vb : Value) (la lb : List Int) (x y : Int) (w : World) (ha : Wh w va la x) (hb : Wh w vb lb y) :
    Calls Tryd.prog 95 #[va, vb] w fun e w' => e = .returned (.int .i64 (Big.cmp x y)) ∧ ∃ n, w' = w.drewN n := by
  obtain ⟨aa, ca, rfl, _, hca⟩ := ha.ints
  obtain ⟨ab, cb, rfl, _, hcb⟩ := hb.ints
  have hla := ha.len
  have hlb := hb.len
  have HCA := hid hca
  have HCB := hid hcb
  have HA := hid ha
  have HB := hid hb
  clear ha hb hca hcb
  by_cases hlen : la.length = lb.length
  · have hne : (((la.length : Nat) : Int) != ((lb.length : Nat) : Int)) = false := by rw [bne_eq_false_iff_eq]; omega
    have HLEN := hid hlen
    obtain ⟨N, hN⟩ : ∃ N, N = lb.length := ⟨_, rfl⟩
    have HN := hid hN
    rw [hlen, ← hN] at hne hla ⊢
    rw [← hN] at hlb
    clear hlen hN
    have HEQ : Hid (la = lb → Big.cmp x y = 0) := hid (fun e => Big.cmp_eq (by rw [← HA.out.val, ← HB.out.val, e]))
    by_cases hpos : 0 < N
    · go_enter Tryd.func95, Tryd.ntmps95
      go_wp2
      go_loopw [5] (fun iv wr => ((iv = .int .i64 (-1) ∧ la = lb) ∨ (∃ k : Nat, k < N ∧ iv = .int .i64 k ∧ la.drop (k + 1) = lb.drop (k + 1))) ∧ ∃ nq, wr = w.drewN nq) (fun iv _ => (intOf iv + 1).toNat)
      case atStart =>
        refine ⟨.inr ⟨N - 1, by omega, by go_num, ?_⟩, 0, rfl⟩
        have h1 := HLEN.out
        have h2 := HN.out
        rw [List.drop_eq_nil_of_le (by omega), List.drop_eq_nil_of_le (by omega)]
      case round =>
        obtain ⟨hd, nq, rfl⟩ := hrel
        rcases hd with ⟨rfl, he⟩ | ⟨k, hk, rfl, hdr⟩
        · have HF := hid (HEQ.out he)
          clear he
          go_wp2
          go_ret
          exact ⟨ret_int HF.out.symm, _, rfl⟩
        · have hka : k < la.length := by have := HLEN.out; have := HN.out; omega
          have hkb : k < lb.length := by have := HN.out; omega
          obtain ⟨ba, oa, rfl, hcella⟩ := HCA.out k hka
          obtain ⟨bb, ob, rfl, hcellb⟩ := HCB.out k hkb
          obtain ⟨da, hda⟩ : ∃ d, d = la[k] := ⟨_, rfl⟩
          obtain ⟨db, hdb⟩ : ∃ d, d = lb[k] := ⟨_, rfl⟩
          rw [← hda] at hcella
          rw [← hdb] at hcellb
          have HDA := hid hda
          have HDB := hid hdb
          have HDR := hid hdr
          clear hda hdb hdr
          by_cases h1 : da < db
          · have HF : Hid (Big.cmp x y = -1) := hid (Big.cmp_lt (by
              rw [← HA.out.val, ← HB.out.val]
              exact Big.top_lt la lb HA.out.digs HB.out.digs k hka hkb HDR.out (by rw [← HDA.out, ← HDB.out]; exact h1)))
            go_wp2
            go_quiet (fail)
            go_wp2
            go_ret
            exact ⟨ret_int HF.out.symm, _, by first | rfl | rw [World.drewN_drewN]⟩
          · have h1d : decide (da < db) = false := decide_eq_false h1
            by_cases h2 : db < da
            · have HF : Hid (Big.cmp x y = 1) := hid (Big.cmp_gt (by
                rw [← HA.out.val, ← HB.out.val]
                exact Big.top_lt lb la HB.out.digs HA.out.digs k hkb hka HDR.out.symm (by rw [← HDA.out, ← HDB.out]; exact h2)))
              go_wp2
              go_quiet (fail)
              go_wp2
              go_quiet (fail)
              go_wp2
              go_ret
              exact ⟨ret_int HF.out.symm, _, by first | rfl | rw [World.drewN_drewN, World.drewN_drewN] | rw [World.drewN_drewN]⟩
            · have h2d : decide (db < da) = false := decide_eq_false h2
              have HK : Hid (la.drop k = lb.drop k) := hid (by
                rw [List.drop_eq_getElem_cons hka, List.drop_eq_getElem_cons hkb, HDR.out, ← HDA.out, ← HDB.out, show da = db by omega])
              go_wp2
              go_quiet (fail)
              go_wp2
              go_quiet (fail)
              go_wp2
              go_roundw
              case rel =>
                refine ⟨?_, _, rfl⟩
                by_cases hk0 : k = 0
                · subst hk0
                  exact .inl ⟨by go_num, by simpa using HK.out⟩
                · refine .inr ⟨k - 1, by omega, by go_num, ?_⟩
                  rw [show k - 1 + 1 = k by omega]; exact HK.out
              case measure => simp [intOf]
    · obtain rfl : N = 0 := by omega
      have HF := hid (HEQ.out (by
        have h1 := HLEN.out
        have h2 := HN.out
        rw [List.eq_nil_of_length_eq_zero (l := la) (by omega), List.eq_nil_of_length_eq_zero (l := lb) (by omega)]))
      go_enter Tryd.func95, Tryd.ntmps95
      go_wp2
      go_loopw [5] (fun iv wr => iv = .int .i64 (-1) ∧ wr = w) (fun _ _ => 0)
      case atStart => exact ⟨rfl, rfl⟩
      case round =>
        obtain ⟨rfl, rfl⟩ := hrel
        go_wp2
        go_ret
        exact ⟨ret_int HF.out.symm, 0, rfl⟩
  · have hne : (((la.length : Nat) : Int) != ((lb.length : Nat) : Int)) = true := by rw [bne_iff_ne]; omega
    by_cases hlt : la.length < lb.length
    · have HF : Hid (Big.cmp x y = -1) := hid (Big.cmp_lt (by rw [← HA.out.val, ← HB.out.val]; exact Big.len_lt la lb HA.out.digs HB.out.digs HB.out.norm hlt))
      go_enter Tryd.func95, Tryd.ntmps95
      go_wp2
      go_ret
      exact ⟨ret_int HF.out.symm, 0, rfl⟩
    · have HF : Hid (Big.cmp x y = 1) := hid (Big.cmp_gt (by rw [← HA.out.val, ← HB.out.val]; exact Big.len_lt lb la HB.out.digs HA.out.digs HA.out.norm (by omega)))
      go_enter Tryd.func95, Tryd.ntmps95
      go_wp2
      go_ret
      exact ⟨ret_int HF.out.symm, 0, rfl⟩

set_option maxRecDepth 20000 in
set_option maxHeartbeats 1000000 in
theorem bcmp_any (va vb : Value) (la lb : List Int) (x y : Int) (w : World) (ha : Wh w va la x) (hb : Wh w vb lb y) :
    Calls Tryd.prog 98 #[.agg #[.bool false, va], .agg #[.bool false, vb]] w fun e w' => e = .returned (.int .i64 (Big.cmp x y)) ∧ Below w.heap.size w w' := by
  have HBW : Hid (Below w.heap.size w ((w.alloc (.cells #[.bool false, va] 99)).alloc (.cells #[.bool false, vb] 99))) := hid (((Below.refl _ _).alloc (Nat.le_refl _) _).alloc (by simp) _)
  have HA := hid (ha.below HBW.out)
  have HB := hid (hb.below HBW.out)
  obtain ⟨aa, ca, rfl, _, _⟩ := ha.ints
  obtain ⟨ab, cb, rfl, _, _⟩ := hb.ints
  clear ha hb
  go_enter Tryd.func98, Tryd.ntmps98
  go_wp2_with (go_at_call 95; refine (bsize_any _ _ la lb x y _ HA.out HB.out).mono ?_; rintro e w' ⟨rfl, n, rfl⟩)
  go_ret
  exact ⟨rfl, below_two HBW.out (below_drewN _ _)⟩

set_option maxRecDepth 20000 in
set_option maxHeartbeats 1000000 in
theorem bcmp_min (aa ab : Option Addr) (na ca nb cb : Nat) (w : World) :
    Calls Tryd.prog 98 #[.agg #[.bool false, .slice aa na ca], .agg #[.bool true, .slice ab nb cb]] w fun e w' => e = .returned (.int .i64 1) ∧ Below w.heap.size w w' := by
  go_enter Tryd.func98, Tryd.ntmps98
  go_wp2
  go_ret
  exact ⟨rfl, ((Below.refl _ _).alloc (Nat.le_refl _) _).alloc (by simp) _⟩

end Go.Proofs.YtdbldompjhienaaDoor
