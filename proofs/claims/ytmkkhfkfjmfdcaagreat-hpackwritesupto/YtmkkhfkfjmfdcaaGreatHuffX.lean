/-
  The document's answer: the tables in their order, and ostlerref03.lengths, by its contract.
-/
import Derived.Test.YtmkkhfkfjmfdcaaGreatHuffW
import Derived.Great.BuildSlice
import Derived.Laws.OwnMore
namespace Go.Proofs.YtmkkhfkfjmfdcaaGreat
namespace Hf
/-- The lengths and the codes, in the symbols' order. -/
def oLen : List Int := ordsL.map fun s => lens.getD s.toNat 0
def oCod : List Int := ordsL.map fun s => codsL.getD s.toNat 0
theorem ordsL_length : ordsL.length = 257 := by decide +kernel
theorem oLen_length : oLen.length = 257 := by rw [oLen, List.length_map, ordsL_length]
theorem oCod_length : oCod.length = 257 := by rw [oCod, List.length_map, ordsL_length]
def oL (m : Nat) : Nat := (oLen.getD m 0).toNat
def oC (m : Nat) : Nat := (oCod.getD m 0).toNat
/-- How many symbols lie ahead of symbol k at length n. -/
def mm (n k : Nat) : Nat := (stasL.getD n 0).toNat + (lens.take k).count (n : Int)
theorem mm_ok : (List.range 257).all (fun k => decide (ordsL[mm (lenN k) k]? = some (k : Int))) = true := by decide +kernel
theorem mm_at (n k : Nat) (hk : k < 257) (h : lens[k]? = some (n : Int)) : ordsL[mm n k]? = some (k : Int) ∧ mm n k < 257 := by
  have h1 := List.all_eq_true.1 mm_ok k (List.mem_range.2 hk)
  have h2 : lenN k = n := by have := (len_at k hk).1; rw [h] at this; have := Option.some.inj this; omega
  rw [h2] at h1
  have h3 := of_decide_eq_true h1
  exact ⟨h3, by have := (List.getElem?_eq_some_iff.1 h3).1; rw [ordsL_length] at this; exact this⟩
theorem mm_step (n k : Nat) (v : Int) (h : lens[k]? = some v) : mm n (k + 1) = mm n k + if v = n then 1 else 0 := by
  unfold mm
  rw [List.take_add_one, h, List.count_append]
  by_cases hv : v = n
  · simp [hv]; omega
  · simp [hv]
theorem mm_rows : (List.range 30).all (fun n => decide (mm n 257 = mm (n + 1) 0)) = true := by decide +kernel
theorem mm_next (n : Nat) (h : n < 30) : mm n 257 = mm (n + 1) 0 := of_decide_eq_true (List.all_eq_true.1 mm_rows n (List.mem_range.2 h))
theorem mm_last : mm 30 257 = 257 := by decide +kernel
theorem mm_first : mm 1 0 = 0 := by decide +kernel
theorem o_ok : (List.range 256).all (fun m => decide (oL m ≤ oL (m + 1)) && decide (oC (m + 1) = (oC m + 1) * 2 ^ (oL (m + 1) - oL m))) = true := by decide +kernel
theorem o_next (m : Nat) (h : m < 256) : oL m ≤ oL (m + 1) ∧ oC (m + 1) = (oC m + 1) * 2 ^ (oL (m + 1) - oL m) := by
  have := List.all_eq_true.1 o_ok m (List.mem_range.2 h)
  simpa only [Bool.and_eq_true, decide_eq_true_eq] using this
theorem o_bd : (List.range 257).all (fun m => decide (oL m ≤ 30) && decide (oC m < 1073741824) && decide (oLen[m]? = some (oL m : Int)) && decide (oCod[m]? = some (oC m : Int))) = true := by decide +kernel
theorem o_at (m : Nat) (h : m < 257) : oL m ≤ 30 ∧ oC m < 1073741824 ∧ oLen[m]? = some (oL m : Int) ∧ oCod[m]? = some (oC m : Int) := by
  have := List.all_eq_true.1 o_bd m (List.mem_range.2 h)
  simp only [Bool.and_eq_true, decide_eq_true_eq] at this
  exact ⟨this.1.1.1, this.1.1.2, this.1.2, this.2⟩
theorem oC_zero : oC 0 = 0 := by decide +kernel
theorem oL_mm (n k : Nat) (hk : k < 257) (h : lens[k]? = some (n : Int)) : oL (mm n k) = n := by
  obtain ⟨h1, h2⟩ := mm_at n k hk h
  have h3 : oLen[mm n k]? = some (n : Int) := by
    rw [oLen, List.getElem?_map, h1]
    show some (lens.getD (k : Int).toNat 0) = _
    rw [Int.toNat_natCast, List.getD_eq_getElem?_getD, h]; rfl
  have := (o_at _ h2).2.2.1
  rw [h3] at this
  have := Option.some.inj this
  omega
/-- The state of the loop behind m symbols. -/
def St (m cd ws : Nat) : Prop := (m = 0 ∧ cd = 0 ∧ ws = 0) ∨ ∃ p, m = p + 1 ∧ cd = oC p ∧ ws = oL p
end Hf
open Go.RowKit

/-- A slice of numbers that the call owns: nil as long as it is empty. -/
def Own (w : World) (B : Nat) (v : Value) (l : List Int) : Prop := w.ownsRow B 3 1 v l.length (l.map (Value.int .i64)) ∧ (l = [] → v.ownBlock = none)
theorem Own.shape {w : World} {B : Nat} {v : Value} {l : List Int} (h : Own w B v l) : ∃ ao cap, v = .slice ao l.length cap := by
  rcases h.1.2 with ⟨hv, h0⟩ | ⟨g, cap, cur, hv, _⟩
  · exact ⟨none, 0, by rw [hv, h0]⟩
  · exact ⟨_, _, hv⟩
theorem Own.kept {w w' : World} {B : Nat} {v : Value} {l : List Int} {row : Option Nat} (h : Own w B v l) (hg : w.grownBy w' row) (hne : v.ownBlock = none ∨ v.ownBlock ≠ row) : Own w' B v l := ⟨World.ownsRow.kept h.1 hg hne, h.2⟩
theorem Own.upd {w w' : World} {B b : Nat} {v : Value} {l : List Int} (h : Own w B v l) (hu : Upd b w w') (hb : b < B) : Own w' B v l := by
  refine Own.kept h (row := some b) ⟨hu.os, hu.tape, hu.output, by rw [hu.size]; exact Nat.le_refl _, fun k hk hne => hu.block k (fun e => hne (by rw [e]))⟩ ?_
  cases hv : v.ownBlock with
  | none => exact .inl rfl
  | some k => right; have := (World.ownsRow.lt h.1 k hv).1; simp; omega
theorem Own.below {w w' : World} {B : Nat} {v : Value} {l : List Int} (h : Own w B v l) (hb : Below w.heap.size w w') : Own w' B v l :=
  Own.kept h (row := none) ⟨hb.os, hb.tape, hb.output, hb.size, fun k hk _ => hb.block k hk⟩ (by cases hv : v.ownBlock <;> simp)
/-- Two owned slices that begin otherwise lie apart. -/
theorem Own.apart {w : World} {B : Nat} {v v' : Value} {l l' : List Int} {x y : Int} (h : Own w B v l) (h' : Own w B v' l') (hx : l ≠ [] → l[0]? = some x) (hy : l' ≠ [] → l'[0]? = some y) (hxy : x ≠ y) : v.ownBlock = none ∨ v.ownBlock ≠ v'.ownBlock := by
  by_cases hl : l = []
  · left; exact h.2 hl
  · by_cases hl' : l' = []
    · rw [h'.2 hl']
      cases hv : v.ownBlock <;> simp
    · cases hv : v.ownBlock with
      | none => left; rfl
      | some g =>
        right
        intro e
        have c1 := World.ownsRow.cells h.1 hv 0 (.int .i64 x) (by rw [List.getElem?_map, hx hl]; rfl)
        have c2 := World.ownsRow.cells h'.1 e.symm 0 (.int .i64 y) (by rw [List.getElem?_map, hy hl']; rfl)
        rw [c1] at c2
        simp at c2
        exact hxy c2
theorem own_new (w : World) (B : Nat) : Own w B (.slice none 0 0) [] := ⟨World.ownsRow_nil _ _ _ _, fun _ => rfl⟩
theorem own_more {w : World} {B n : Nat} {v : Value} {l : List Int} {x : Int} (h : w.ownsRow B 3 1 v n (l.map (Value.int .i64) ++ [.int .i64 x])) (hn : n = l.length + 1) : Own w B v (l ++ [x]) :=
  ⟨by subst hn; simpa using h, fun e => by simp at e⟩
theorem Own.val {w : World} {B g n cap : Nat} {l : List Int} (h : Own w B (.slice (some ⟨g, 0, none⟩) n cap) l) (j : Nat) (x : Int) (hx : l[j]? = some x) : w.cell? ⟨g, j, none⟩ = some (.int .i64 x) := by
  have := World.ownsRow.cells h.1 (g := g) rfl j (.int .i64 x) (by rw [List.getElem?_map, hx]; rfl)
  have hadd : (⟨g, 0, none⟩ : Addr).add j = ⟨g, j, none⟩ := by unfold Addr.add; split <;> simp_all
  rw [hadd] at this; exact this
theorem Own.at {w : World} {B : Nat} {v : Value} {l : List Int} (h : Own w B v l) (hl : l ≠ []) : ∃ g cap, v = .slice (some ⟨g, 0, none⟩) l.length cap := by
  rcases h.1.2 with ⟨rfl, h0⟩ | ⟨g, cap, cur, hv, _⟩
  · exact absurd (List.eq_nil_of_length_eq_zero h0) hl
  · exact ⟨g, cap, hv⟩

theorem infoInt : (Tryz.prog.info? 3).map (fun i => (i.zero, i.size, i.bytes)) = some (some (.int .i64 0), 1, 8) := by kernel_rfl

set_option maxHeartbeats 1000000 in
set_option maxRecDepth 100000 in
theorem rlengths_any (w : World) : Calls Tryz.prog 97 #[] w fun e w' => ∃ b, e = .returned (.slice (some ⟨b, 0, none⟩) 257 257) ∧ w.heap.size ≤ b ∧ Ar w' b 3 (nums .i64 Hf.lens) ∧ Below w.heap.size w w' := by
  obtain ⟨i0, hi, hz0, hz1, hz2⟩ := info_parts infoInt
  go_enter Tryz.func97, Tryz.ntmps97
  go_wp2_with (refine wpList_buildSlice rfl 136 3 257 _ rfl (nums .i64 Hf.lens) i0 (.int .i64 0) Tryz.underlying136 hi hz0 (by rw [hz1]; decide) (by rw [hz1]; decide) (by rw [hz1]; kernel_rfl) ?_; refine Hid.out ?_)
  refine hid ?_
  have ha : Ar (w.alloc (.cells (nums .i64 Hf.lens) 3)) w.heap.size 3 (nums .i64 Hf.lens) := heap_alloc_last w _
  have hb : Below w.heap.size w (w.alloc (.cells (nums .i64 Hf.lens) 3)) := (Below.refl _ w).alloc (Nat.le_refl _) _
  generalize w.alloc (.cells (nums .i64 Hf.lens) 3) = w1 at ha hb ⊢
  obtain ⟨b, hbb⟩ : ∃ b, w.heap.size = b := ⟨_, rfl⟩
  have HA := hid' ha
  have HB := hid' hb
  clear ha hb
  go_wp2
  go_ret
  exact ⟨_, rfl, Nat.le_refl _, HA.out, HB.out⟩

end Go.Proofs.YtmkkhfkfjmfdcaaGreat
