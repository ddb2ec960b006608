/-
  The code's table: static, by its contract.
-/
import Derived.Test.YtmkkhfkfjmfdcaaTabT
import Derived.Test.YtmkkhfkfjmfdcaaRingM
namespace Go.Proofs.Ytmkkhfkfjmfdcaa
open Go.RowKit

theorem stat_cut (j : Nat) (f : (List UInt8 × List UInt8)) (hf : Tb.stat[j]? = some f) : statCells.extract (j * 2) (j * 2 + 2) = #[.string ⟨f.1.toArray⟩, .string ⟨f.2.toArray⟩] := by
  obtain ⟨e0, e1⟩ := Tb.cells_at _ _ _ hf
  apply Array.ext_getElem?
  intro i
  unfold statCells
  rw [Array.getElem?_extract]
  have hl : (Tb.cells Tb.stat).length = 122 := by rw [Tb.cells_length, Tb.stat_length]
  have hj : j < 61 := by have := (List.getElem?_eq_some_iff.1 hf).1; rw [Tb.stat_length] at this; exact this
  rw [List.size_toArray, hl]
  match i with
  | 0 => rw [if_pos (by omega)]; simpa using e0
  | 1 => rw [if_pos (by omega)]; simpa using e1
  | i + 2 => rw [if_neg (by omega)]; simp

theorem index_stat (j : Nat) (f : (List UInt8 × List UInt8)) (hf : Tb.stat[j]? = some f) (c : Array Value) (hc : c = statCells) (w : World) : (Instr.index 132 (.agg c) (.int .i64 (j : Int))).run Try.prog w = .ok (.agg #[.string ⟨f.1.toArray⟩, .string ⟨f.2.toArray⟩]) w := by
  have hj : j < 61 := by have := (List.getElem?_eq_some_iff.1 hf).1; rw [Tb.stat_length] at this; exact this
  subst hc
  simp [Instr.index, asIntOf, run_underlying Try.underlying132, hj, part, stat_cut j f hf]

set_option maxHeartbeats 4000000 in
set_option maxRecDepth 100000 in
theorem cstatic_any (j : Nat) (f : (List UInt8 × List UInt8)) (hf : Tb.stat[j]? = some f) (w : World) :
    Calls Try.prog 75 #[.int .i64 ((j : Int) + 1)] w fun e w' => e = .returned (.agg #[.string ⟨f.1.toArray⟩, .string ⟨f.2.toArray⟩]) ∧ Below w.heap.size w w' := by
  have HF := hid' hf
  have hj : j < 61 := by have := (List.getElem?_eq_some_iff.1 hf).1; rw [Tb.stat_length] at this; exact this
  obtain ⟨n, val⟩ := f
  clear hf
  go_enter Try.func75, Try.ntmps75
  go_wp2_with (refine wpl_build 132 _ rfl rfl statCells (by kernel_rfl) ?_; intro c hc)
  go_wp2
  rw [index_stat j (n, val) HF.out c hc]
  go_wp2
  have hA : Ar (w.alloc (.cells #[.string ⟨n.toArray⟩, .string ⟨val.toArray⟩] 55)) w.heap.size 55 #[.string ⟨n.toArray⟩, .string ⟨val.toArray⟩] := heap_alloc_last w _
  have e0 := hA.cell 0 _ rfl
  have e1 := hA.cell 1 _ rfl
  exact bodyPost_ret (v := .agg #[.string ⟨n.toArray⟩, .string ⟨val.toArray⟩]) (by simp [results, Try.results75, go_sem, e0, e1]) rfl ⟨rfl, (Below.refl _ _).alloc (Nat.le_refl _) _⟩

end Go.Proofs.Ytmkkhfkfjmfdcaa
