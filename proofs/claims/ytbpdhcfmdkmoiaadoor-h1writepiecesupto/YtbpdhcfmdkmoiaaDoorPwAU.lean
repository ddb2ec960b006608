/-
  The document's whole number of an int, by its contract.
-/
import Derived.Laws.ResultCell
import Derived.Test.YtbpdhcfmdkmoiaaDoorPwAT
namespace Go.Proofs.YtbpdhcfmdkmoiaaDoor
open Go.RowKit

namespace Big
theorem pw_three : pw 3 = 1237940039285380274899124224 := by decide
theorem pw_small (k : Nat) (h : pw k ≤ 9223372036854775807) : k ≤ 2 := by
  rcases Nat.lt_or_ge k 3 with h' | h'
  · omega
  · have := pw_mono 3 k h'
    rw [pw_three] at this
    omega
end Big

namespace Big
structure OfRel (n : Int) (l : List Int) (m : Int) : Prop where
  m0 : 0 ≤ m
  dig : Digs l
  eq : val l + pw l.length * m = n
  norm : m = 0 → Norm l
theorem OfRel.start (n : Int) (h : 0 ≤ n) : OfRel n [] n := ⟨h, fun d hd => by simp at hd, by show 0 + 1 * n = n; omega, fun _ d hd => by simp at hd⟩
theorem OfRel.step {n m : Int} {l : List Int} (h : OfRel n l m) (hm : 0 < m) : OfRel n (l ++ [m % 1073741824]) (m / 1073741824) := by
  refine ⟨by omega, h.dig.snoc (by omega) (by rw [bas_eq]; omega), ?_, ?_⟩
  · have e := h.eq
    rw [val_snoc, List.length_append]
    have e1 : pw (l.length + [m % 1073741824].length) * (m / 1073741824) = pw l.length * (1073741824 * (m / 1073741824)) := by
      show bas * pw l.length * _ = _; rw [bas_eq, Int.mul_comm 1073741824 (pw l.length), Int.mul_assoc]
    have e2 : pw l.length * (m % 1073741824) + pw l.length * (1073741824 * (m / 1073741824)) = pw l.length * m := by rw [← Int.mul_add, Int.emod_add_mul_ediv]
    rw [e1]; omega
  · intro hz d hd
    rw [List.getLast?_append] at hd
    simp at hd
    omega
theorem OfRel.le {n m : Int} {l : List Int} (h : OfRel n l m) (hm : 0 < m) : m ≤ n := by
  have h0 := (val_bd l h.dig).1
  have e := h.eq
  have hp := pw_pos l.length
  have : 1 * m ≤ pw l.length * m := Int.mul_le_mul_of_nonneg_right hp (by omega)
  omega
theorem OfRel.bd {n m : Int} {l : List Int} (h : OfRel n l m) (hm : 0 < m) (hn : n ≤ 9223372036854775807) : pw l.length ≤ 9223372036854775807 := by
  have h0 := (val_bd l h.dig).1
  have e := h.eq
  have hp := pw_pos l.length
  have : pw l.length * 1 ≤ pw l.length * m := Int.mul_le_mul_of_nonneg_left (by omega) (by omega)
  omega
end Big
/-- A block of two cells that may be written. -/
structure Cell2 (w : World) (b : Nat) (x y : Value) : Prop where
  c0 : w.cell? ⟨b, 0, none⟩ = some x
  c1 : w.cell? ⟨b, 1, none⟩ = some y
  f0 : w.frozen? ⟨b, 0, none⟩ = false
  f1 : w.frozen? ⟨b, 1, none⟩ = false
theorem Cell2.new (w : World) (x y : Value) (t : TypeId) : Cell2 (w.alloc (.cells #[x, y] t)) w.heap.size x y :=
  ⟨by rw [World.cell?_alloc_mark]; rfl, by rw [World.cell?_alloc_mark]; rfl, by rw [World.frozen?_alloc_mark]; rfl, by rw [World.frozen?_alloc_mark]; rfl⟩
theorem Cell2.new' (w : World) (o : Obj) (x y : Value) (t : TypeId) : Cell2 ((w.alloc o).alloc (.cells #[x, y] t)) (w.heap.size + 1) x y := by
  have := Cell2.new (w.alloc o) x y t
  simpa using this
theorem Cell2.below {w w' : World} {b B : Nat} {x y : Value} (h : Cell2 w b x y) (hb : Below B w w') (hlt : b < B) : Cell2 w' b x y :=
  ⟨(hb.cell (p := ⟨b, 0, none⟩) hlt).trans h.c0, (hb.cell (p := ⟨b, 1, none⟩) hlt).trans h.c1, (hb.frozen (p := ⟨b, 0, none⟩) hlt).trans h.f0, (hb.frozen (p := ⟨b, 1, none⟩) hlt).trans h.f1⟩
theorem Cell2.alloc {w : World} {b : Nat} {x y : Value} (h : Cell2 w b x y) (o : Obj) : Cell2 (w.alloc o) b x y :=
  h.below ((Below.refl w.heap.size w).alloc (Nat.le_refl _) o) (World.block_lt_of_cell? w _ h.c0)
theorem Cell2.set1 {w : World} {b : Nat} {x y z : Value} (h : Cell2 w b x y) : Cell2 (w.setCell ⟨b, 1, none⟩ z) b x z :=
  ⟨by rw [World.cell?_setCell_other w _ _ _ (by intro e; cases e)]; exact h.c0, World.cell?_setCell_same w _ _ h.c1, by rw [World.frozen?_setCell]; exact h.f0, by rw [World.frozen?_setCell]; exact h.f1⟩
theorem Cell2.set0 {w : World} {b : Nat} {x y z : Value} (h : Cell2 w b x y) : Cell2 (w.setCell ⟨b, 0, none⟩ z) b z y :=
  ⟨World.cell?_setCell_same w _ _ h.c0, by rw [World.cell?_setCell_other w _ _ _ (by intro e; cases e)]; exact h.c1, by rw [World.frozen?_setCell]; exact h.f0, by rw [World.frozen?_setCell]; exact h.f1⟩
theorem Cell2.set_far {w : World} {b b' o : Nat} {x y z : Value} (h : Cell2 w b x y) (hne : b' ≠ b) : Cell2 (w.setCell ⟨b', o, none⟩ z) b x y :=
  ⟨by rw [World.cell?_setCell_other w _ _ _ (by intro e; cases e; exact hne rfl)]; exact h.c0, by rw [World.cell?_setCell_other w _ _ _ (by intro e; cases e; exact hne rfl)]; exact h.c1, by rw [World.frozen?_setCell]; exact h.f0, by rw [World.frozen?_setCell]; exact h.f1⟩
theorem own_form' {w : World} {B e n : Nat} {v : Value} {xs : List Value} (h : w.ownsRow B e 1 v n xs) : ∃ a cap, v = .slice a n cap := by
  rcases h.2 with ⟨rfl, rfl⟩ | ⟨g, cap, cur, rfl, _⟩
  · exact ⟨_, _, rfl⟩
  · exact ⟨_, _, rfl⟩

set_option maxRecDepth 20000 in
set_option maxHeartbeats 1000000 in
theorem bof_any (n : Int) (w : World) (h0 : 0 ≤ n) (h1 : n ≤ 9223372036854775807) :
    Calls Tryd.prog 55 #[.int .i64 n] w fun e w' => ∃ v', e = .returned (.agg #[.bool false, v']) ∧ Fresh w.heap.size v' ∧ (∃ l', Wh w' v' l' n ∧ l'.length ≤ 3) ∧ Below w.heap.size w w' := by
  have H1 := hid h1
  have hd : decide (n < 0) = false := decide_eq_false (by omega)
  clear h1
  obtain ⟨i0, hi, hz0, hz1, hz2⟩ := info_parts Tryd.info3
  go_enter Tryd.func55, Tryd.ntmps55
  go_wp2
  go_loopw [0] (fun iv wr => ∃ (m : Int) (l : List Int) (v : Value), iv = .int .i64 m ∧ Cell2 wr w.heap.size (.bool false) (.slice none 0 0) ∧ Cell2 wr (w.heap.size + 1) (.bool false) v ∧ wr.ownsRow (w.heap.size + 2) 3 1 v l.length (intCells l) ∧ Below w.heap.size w wr ∧ w.heap.size + 2 ≤ wr.heap.size ∧ Big.OfRel n l m) (fun iv _ => (intOf iv).toNat)
  case atStart => exact ⟨n, [], .slice none 0 0, rfl, (Cell2.new w _ _ _).alloc _, Cell2.new' w _ _ _ _, World.ownsRow_nil _ _ _ _, ((Below.refl _ _).alloc (Nat.le_refl _) _).alloc (by simp) _, by simp, Big.OfRel.start n h0⟩
  case round =>
    obtain ⟨m, l, v, rfl, hs0, hs1, hown, hbel, hsz, hr⟩ := hrel
    obtain ⟨s0a, s0b, s0c, s0d⟩ := hs0
    obtain ⟨s1a, s1b, s1c, s1d⟩ := hs1
    have hm0 := hr.m0
    have HR := hid hr
    have HBEL := hid hbel
    clear hr hbel
    by_cases hm : m = 0
    · subst hm
      have hne : ((0 : Int) != 0) = false := rfl
      obtain ⟨av, cv, rfl⟩ := own_form' hown
      have HI := hid (ints_own (ownsRow_setCell_below (ownsRow_setCell_below hown (a := ⟨w.heap.size, 0, none⟩) (by simp) (.bool false)) (a := ⟨w.heap.size, 1, none⟩) (by simp) (.slice av l.length cv)))
      have HFR := hid ((fresh_own hown).mono (by omega : w.heap.size ≤ w.heap.size + 2))
      have HL3 : Hid (l.length ≤ 3) := hid (by
        rcases Nat.lt_or_ge 3 l.length with h | h
        · have h1 := Big.norm_lo l HR.out.dig (HR.out.norm rfl) (by omega)
          have h2 := Big.pw_mono 3 (l.length - 1) (by omega)
          have h3 := HR.out.eq
          have h4 := H1.out
          rw [Big.pw_three] at h2
          rw [Int.mul_zero] at h3
          omega
        · exact h)
      have HR2 := hid (((Cell2.mk s0a s0b s0c s0d).set0 (z := .bool false)).set1 (z := .slice av l.length cv))
      clear hown
      go_wp2
      obtain ⟨r0, r1, _, _⟩ := HR2.out
      refine bodyPost_ret (v := .agg #[.bool false, .slice av l.length cv]) (by simp [results, Tryd.results55, go_sem, r0, r1]) rfl ⟨_, rfl, HFR.out, ⟨l, ⟨HI.out, HR.out.dig, HR.out.norm rfl, ?_, ?_⟩, HL3.out⟩, ?_⟩
      · have := HR.out.eq; rw [Int.mul_zero] at this; omega
      · have := HL3.out; omega
      · exact (HBEL.out.setCell (Nat.le_refl _) _).setCell (Nat.le_refl _) _
    · have hmb : (m != 0) = true := by rw [bne_iff_ne]; exact hm
      have hlen : l.length ≤ 2 := Big.pw_small _ (HR.out.bd (by omega) H1.out)
      have hdn : decide (m % 1073741824 < 0) = false := decide_eq_false (by omega)
      have HN : Hid (Big.OfRel n (l ++ [m % 1073741824]) (m / 1073741824)) := hid (HR.out.step (by omega))
      have hmhi : m ≤ 9223372036854775807 := Int.le_trans (HR.out.le (by omega)) H1.out
      have hmpos : 0 < m := by omega
      clear hm
      go_wp2_with (at_builtin; refine wpList_append_own _ rfl _ _ 66 rfl (w.heap.size + 2) 3 i0 (.int .i64 0) 1 8 Tryd.underlying66 hi hz0 hz1 hz2 rfl (by decide) _ _ _ rfl (hown.alloc _) ⟨_, 0, none⟩ 1 1 [.int .i64 (m % 1073741824)] rfl rfl (new_int _ _ _) (one_int _) (by unfold maxLen; omega) (by omega) (by simp; omega) ?_; intro v' w3 hown' hgrow _; refine Hid.out ?_)
      refine hid ?_
      have hb3 := ((Below.refl (w.heap.size + 2) wr).alloc hsz _).grown hgrow (by simp; omega) (fun k hk => (hown.lt k hk).1)
      obtain ⟨av', cv', rfl⟩ := own_form' hown'
      have t0 := (Cell2.mk s0a s0b s0c s0d).below hb3 (by omega)
      have t1 := (Cell2.mk s1a s1b s1c s1d).below hb3 (by omega)
      obtain ⟨t1a, t1b, t1c, t1d⟩ := t1
      have hz3 := hb3.size
      have HB3 := hid hb3
      have HO := hid hown'
      have HT0 := hid t0
      have HT1 := hid (Cell2.mk t1a t1b t1c t1d)
      clear hgrow hown hown' hb3 t0 s0a s0b s0c s0d s1a s1b s1c s1d
      go_wp2
      go_roundw
      case rel =>
        refine ⟨m / 1073741824, l ++ [m % 1073741824], .slice av' (l.length + 1) cv', rfl, HT0.out.set_far (by omega), HT1.out.set1, ?_, (HBEL.out.trans (HB3.out.mono (by omega))).setCell (by simp) _, by simp; omega, HN.out⟩
        rw [List.length_append, intCells_snoc]
        exact ownsRow_setCell_below HO.out (by simp) _
      case measure => simp [intOf]; omega

def mins : Nat → Int
  | 0 => -9223372036854775808
  | 1 => -8589934592
  | 2 => -8
  | _ => 0

set_option maxRecDepth 20000 in
set_option maxHeartbeats 2000000 in
theorem bof_min (w : World) :
    Calls Tryd.prog 55 #[.int .i64 (-9223372036854775808)] w fun e w' => ∃ v', e = .returned (.agg #[.bool true, v']) ∧ (∃ a n c, v' = .slice a n c) ∧ Below w.heap.size w w' := by
  obtain ⟨i0, hi, hz0, hz1, hz2⟩ := info_parts Tryd.info3
  go_enter Tryd.func55, Tryd.ntmps55
  go_wp2
  go_loopw [0] (fun iv wr => ∃ (k : Nat) (l : List Int) (v : Value), k ≤ 3 ∧ l.length = k ∧ iv = .int .i64 (mins k) ∧ Cell2 wr w.heap.size (.bool false) (.slice none 0 0) ∧ Cell2 wr (w.heap.size + 1) (.bool true) v ∧ wr.ownsRow (w.heap.size + 2) 3 1 v k (intCells l) ∧ Below w.heap.size w wr ∧ w.heap.size + 2 ≤ wr.heap.size) (fun iv _ => (-(intOf iv)).toNat)
  case atStart => exact ⟨0, [], .slice none 0 0, by omega, rfl, rfl, (Cell2.new w _ _ _).alloc _, Cell2.new' w _ _ _ _, World.ownsRow_nil _ _ _ _, ((Below.refl _ _).alloc (Nat.le_refl _) _).alloc (by simp) _, by simp⟩
  case round =>
    obtain ⟨k, l, v, hk, hl, rfl, hs0, hs1, hown, hbel, hsz⟩ := hrel
    obtain ⟨s0a, s0b, s0c, s0d⟩ := hs0
    obtain ⟨s1a, s1b, s1c, s1d⟩ := hs1
    have HBEL := hid hbel
    clear hbel
    by_cases hk3 : k = 3
    · subst hk3
      obtain ⟨av, cv, rfl⟩ := own_form' hown
      have HR2 := hid (((Cell2.mk s0a s0b s0c s0d).set0 (z := .bool true)).set1 (z := .slice av 3 cv))
      clear hown hl
      show Code.wp _ _ _ { tmps := _, defers := _ } _
      simp only [mins]
      go_wp2
      obtain ⟨r0, r1, _, _⟩ := HR2.out
      exact bodyPost_ret (v := .agg #[.bool true, .slice av 3 cv]) (by simp [results, Tryd.results55, go_sem, r0, r1]) rfl ⟨_, rfl, ⟨_, _, _, rfl⟩, (HBEL.out.setCell (Nat.le_refl _) _).setCell (Nat.le_refl _) _⟩
    · rcases (show k = 0 ∨ k = 1 ∨ k = 2 by omega) with rfl | rfl | rfl
      · simp only [mins]
        go_wp2_with (at_builtin; refine wpList_append_own _ rfl _ _ 66 rfl (w.heap.size + 2) 3 i0 (.int .i64 0) 1 8 Tryd.underlying66 hi hz0 hz1 hz2 rfl (by decide) _ _ _ rfl (hown.alloc _) ⟨_, 0, none⟩ 1 1 [.int .i64 0] rfl rfl (new_int _ _ _) (one_int _) (by unfold maxLen; omega) (by omega) (by simp; omega) ?_; intro v' w3 hown' hgrow _; refine Hid.out ?_)
        refine hid ?_
        have hb3 := ((Below.refl (w.heap.size + 2) wr).alloc hsz _).grown hgrow (by simp; omega) (fun k hk => (hown.lt k hk).1)
        obtain ⟨av', cv', rfl⟩ := own_form' hown'
        have t0 := (Cell2.mk s0a s0b s0c s0d).below hb3 (by omega)
        have t1 := (Cell2.mk s1a s1b s1c s1d).below hb3 (by omega)
        obtain ⟨t1a, t1b, t1c, t1d⟩ := t1
        have hz3 := hb3.size
        have HB3 := hid hb3
        have HO := hid hown'
        have HT0 := hid t0
        have HT1 := hid (Cell2.mk t1a t1b t1c t1d)
        clear hgrow hown hown' hb3 t0 s0a s0b s0c s0d s1a s1b s1c s1d
        go_wp2
        go_roundw
        case rel =>
          refine ⟨1, l ++ [0], .slice av' 1 cv', by omega, by rw [List.length_append, hl]; rfl, rfl, HT0.out.set_far (by omega), HT1.out.set1, ?_, (HBEL.out.trans (HB3.out.mono (by omega))).setCell (by simp) _, by simp; omega⟩
          rw [intCells_snoc]
          exact ownsRow_setCell_below HO.out (by simp) _
        case measure => decide
      · simp only [mins]
        go_wp2_with (at_builtin; refine wpList_append_own _ rfl _ _ 66 rfl (w.heap.size + 2) 3 i0 (.int .i64 0) 1 8 Tryd.underlying66 hi hz0 hz1 hz2 rfl (by decide) _ _ _ rfl (hown.alloc _) ⟨_, 0, none⟩ 1 1 [.int .i64 0] rfl rfl (new_int _ _ _) (one_int _) (by unfold maxLen; omega) (by omega) (by simp; omega) ?_; intro v' w3 hown' hgrow _; refine Hid.out ?_)
        refine hid ?_
        have hb3 := ((Below.refl (w.heap.size + 2) wr).alloc hsz _).grown hgrow (by simp; omega) (fun k hk => (hown.lt k hk).1)
        obtain ⟨av', cv', rfl⟩ := own_form' hown'
        have t0 := (Cell2.mk s0a s0b s0c s0d).below hb3 (by omega)
        have t1 := (Cell2.mk s1a s1b s1c s1d).below hb3 (by omega)
        obtain ⟨t1a, t1b, t1c, t1d⟩ := t1
        have hz3 := hb3.size
        have HB3 := hid hb3
        have HO := hid hown'
        have HT0 := hid t0
        have HT1 := hid (Cell2.mk t1a t1b t1c t1d)
        clear hgrow hown hown' hb3 t0 s0a s0b s0c s0d s1a s1b s1c s1d
        go_wp2
        go_roundw
        case rel =>
          refine ⟨2, l ++ [0], .slice av' 2 cv', by omega, by rw [List.length_append, hl]; rfl, rfl, HT0.out.set_far (by omega), HT1.out.set1, ?_, (HBEL.out.trans (HB3.out.mono (by omega))).setCell (by simp) _, by simp; omega⟩
          rw [intCells_snoc]
          exact ownsRow_setCell_below HO.out (by simp) _
        case measure => decide
      · simp only [mins]
        go_wp2_with (at_builtin; refine wpList_append_own _ rfl _ _ 66 rfl (w.heap.size + 2) 3 i0 (.int .i64 0) 1 8 Tryd.underlying66 hi hz0 hz1 hz2 rfl (by decide) _ _ _ rfl (hown.alloc _) ⟨_, 0, none⟩ 1 1 [.int .i64 8] rfl rfl (new_int _ _ _) (one_int _) (by unfold maxLen; omega) (by omega) (by simp; omega) ?_; intro v' w3 hown' hgrow _; refine Hid.out ?_)
        refine hid ?_
        have hb3 := ((Below.refl (w.heap.size + 2) wr).alloc hsz _).grown hgrow (by simp; omega) (fun k hk => (hown.lt k hk).1)
        obtain ⟨av', cv', rfl⟩ := own_form' hown'
        have t0 := (Cell2.mk s0a s0b s0c s0d).below hb3 (by omega)
        have t1 := (Cell2.mk s1a s1b s1c s1d).below hb3 (by omega)
        obtain ⟨t1a, t1b, t1c, t1d⟩ := t1
        have hz3 := hb3.size
        have HB3 := hid hb3
        have HO := hid hown'
        have HT0 := hid t0
        have HT1 := hid (Cell2.mk t1a t1b t1c t1d)
        clear hgrow hown hown' hb3 t0 s0a s0b s0c s0d s1a s1b s1c s1d
        go_wp2
        go_roundw
        case rel =>
          refine ⟨3, l ++ [8], .slice av' 3 cv', by omega, by rw [List.length_append, hl]; rfl, rfl, HT0.out.set_far (by omega), HT1.out.set1, ?_, (HBEL.out.trans (HB3.out.mono (by omega))).setCell (by simp) _, by simp; omega⟩
          rw [intCells_snoc]
          exact ownsRow_setCell_below HO.out (by simp) _
        case measure => decide

end Go.Proofs.YtbpdhcfmdkmoiaaDoor
