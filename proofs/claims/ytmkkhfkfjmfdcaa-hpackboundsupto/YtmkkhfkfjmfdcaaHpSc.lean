/-
  A script of texts that came in.
-/
import Derived.Test.YtmkkhfkfjmfdcaaProg
import Derived.Test.YtmkkhfkfjmfdcaaRows
import Derived.ChangeSlices
import Derived.SliceStrings
import Derived.RowKit
import Derived.ProofKit
import Derived.OpenShut
namespace Go.Proofs.Ytmkkhfkfjmfdcaa
open Go.RowKit Go.ChangeShapes Go.WideShapes Go.ChangeAt

/-- Texts in memory. -/
def ScrS (w : World) (v : Value) (ss : List ByteArray) : Prop :=
  (v = .slice none 0 0 ∧ ss = []) ∨ ∃ a cap, v = .slice (some a) ss.length cap ∧ ∀ i s, ss[i]? = some s → (a.add i).block < w.heap.size ∧ w.cell? (a.add i) = some (.string s)
set_option maxRecDepth 100000 in
theorem strs_bulk {H : Type} (l : List ByteArray) : l.length ≤ Rows.uptoBulkAll (strs l : List (DataW H)) ∧ ∀ s ∈ l, s.size ≤ Rows.uptoBulkAll (strs l : List (DataW H)) := by
  induction l with
  | nil => simp [strs, Rows.uptoBulkAll]
  | cons x r ih =>
    have e : Rows.uptoBulkAll (strs (x :: r) : List (DataW H)) = Rows.uptoBulk (.lit (.string x.data.toList) : DataW H) + Rows.uptoBulkAll (strs r : List (DataW H)) := by simp [strs, Rows.uptoBulkAll]
    have b : x.size + 1 ≤ Rows.uptoBulk (.lit (.string x.data.toList) : DataW H) := by simp only [Rows.uptoBulk]; exact Nat.le_refl _
    rw [e]
    refine ⟨by have := ih.1; rw [List.length_cons]; omega, fun s hs => ?_⟩
    rcases List.mem_cons.1 hs with rfl | h
    · omega
    · have := ih.2 s h; omega

set_option maxRecDepth 100000 in
theorem open_texts {H : Type} {enc : TypeId × Value → H} {W : World} {base : Nat} {v : Value} {d : DataW H} {p : List MemPlace} (hval : Value.okWide Try.prog W .any base 42 v) (h : DataW.Trod enc Try.prog W 0 (fun _ => true) true 42 v d p) :
    ∃ ss : List ByteArray, ScrS W v ss ∧ (∀ s ∈ ss, s.size ≤ Rows.uptoBulk d) ∧ ss.length ≤ Rows.uptoBulk d := by
  obtain ⟨a, len, cap, rfl⟩ := okWide_slice Try.underlying42 hval
  obtain ⟨fuel, hf⟩ := h
  rcases open_strings Try.underlying42 Try.underlying9 (by kernel_rfl) hf with ⟨h1, h2⟩ | ⟨a', len', cap', zs, h1, _, hlc, hcm, hz, hx, hc, hw⟩
  · simp [Value.cells] at h1
    obtain ⟨rfl, rfl, rfl⟩ := h1
    exact ⟨[], .inl ⟨rfl, rfl⟩, by simp, by simp⟩
  · simp [Value.cells] at h1
    obtain ⟨rfl, rfl, rfl⟩ := h1
    simp only [if_true] at hz
    have hd := (Prod.mk.inj hx).1
    have hb := strs_bulk (H := H) (zs.take len)
    have hdb : Rows.uptoBulkAll (strs (zs.take len) : List (DataW H)) ≤ Rows.uptoBulk d := by rw [hd]; simp only [Rows.uptoBulk]; omega
    refine ⟨zs.take len, .inr ⟨a', cap, by rw [List.length_take, hz, Nat.min_eq_left hlc], ?_⟩, fun s hs => Nat.le_trans (hb.2 s hs) hdb, Nat.le_trans hb.1 hdb⟩
    intro i x hi
    have hil : i < (zs.take len).length := (List.getElem?_eq_some_iff.1 hi).1
    rw [List.length_take] at hil
    have hiz : i < zs.length := by omega
    have e : zs.getD i ByteArray.empty = x := by
      rw [List.getElem?_take, if_pos (by omega)] at hi
      rw [List.getD_eq_getElem?_getD, hi]; rfl
    have hcell := hc i hiz
    rw [e] at hcell
    exact ⟨World.block_lt_of_cell? W _ hcell, hcell⟩

end Go.Proofs.Ytmkkhfkfjmfdcaa
