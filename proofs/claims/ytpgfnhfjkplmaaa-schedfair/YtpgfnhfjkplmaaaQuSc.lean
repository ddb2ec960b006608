/-
  Texts that came in, and numbers: how many they can be.
-/
import Derived.Test.YtpgfnhfjkplmaaaProg
import Derived.Deep.Slices
import Derived.Deep.Strs
import Derived.SizedLaws
import Derived.ChangeSlices
import Derived.SliceStrings
import Derived.RowKit
import Derived.ProofKit
import Derived.OpenShut
namespace Go.Proofs.Ytpgfnhfjkplmaaa
open Go.RowKit Go.ChangeShapes Go.WideShapes Go.ChangeAt Go.Deep

/-- Texts in memory. -/
def ScrT (w : World) (v : Value) (ss : List ByteArray) : Prop :=
  (v = .slice none 0 0 ∧ ss = []) ∨ ∃ a cap, v = .slice (some a) ss.length cap ∧ ∀ i s, ss[i]? = some s → (a.add i).block < w.heap.size ∧ w.cell? (a.add i) = some (.string s)
theorem ScrT.shape {w : World} {v : Value} {ss : List ByteArray} (h : ScrT w v ss) : ∃ ao cap, v = .slice ao ss.length cap := by
  rcases h with ⟨h, rfl⟩ | ⟨a, cap, h, _⟩
  · exact ⟨none, 0, h⟩
  · exact ⟨some a, cap, h⟩
theorem ScrT.at {w w' : World} {ao : Option Addr} {n cap : Nat} {ss : List ByteArray} (h : ScrT w (.slice ao n cap) ss) (hb : Below w.heap.size w w') (i : Nat) (x : ByteArray) (hx : ss[i]? = some x) : ∃ a, ao = some a ∧ w'.cell? (a.add i) = some (.string x) := by
  rcases h with ⟨_, rfl⟩ | ⟨a, cap', hv, hcs⟩
  · simp at hx
  · injection hv with h1 _ _
    obtain ⟨hl, c0⟩ := hcs i x hx
    exact ⟨a, h1, (hb.cell hl).trans c0⟩

/-- Numbers in memory. -/
def ScrN (w : World) (v : Value) (xs : List Int) : Prop :=
  (v = .slice none 0 0 ∧ xs = []) ∨ ∃ a cap, v = .slice (some a) xs.length cap ∧ xs.length ≤ cap ∧ cap ≤ maxLen ∧ ∀ i x, xs[i]? = some x → (a.add i).block < w.heap.size ∧ w.cell? (a.add i) = some (.int .i64 x)

set_option maxRecDepth 20000 in
theorem open_nums11 {H : Type} {enc : TypeId × Value → H} {W : World} {base : Nat} {v : Value} {d : DataW H} {p : List MemPlace} (hval : Value.okWide Try.prog W .any base 36 v) (h : DataW.Trod enc Try.prog W 0 (fun _ => true) true 36 v d p) :
    ∃ xs : List Int, ScrN W v xs := by
  obtain ⟨a, len, cap, rfl⟩ := okWide_slice Try.underlying36 hval
  obtain ⟨fuel, hf⟩ := h
  rcases open_ints Try.underlying36 Try.underlying3 (by kernel_rfl) hf with ⟨h1, h2⟩ | ⟨a', len', cap', zs, h1, _, hlc, hcm, hz, hx, hc, hw⟩
  · simp [Value.cells] at h1
    obtain ⟨rfl, rfl, rfl⟩ := h1
    exact ⟨[], .inl ⟨rfl, rfl⟩⟩
  · simp [Value.cells] at h1
    obtain ⟨rfl, rfl, rfl⟩ := h1
    simp only [if_true] at hz
    have hl : (zs.take len).length = len := by rw [List.length_take, hz, Nat.min_eq_left hlc]
    refine ⟨zs.take len, .inr ⟨a', cap, by rw [hl], by rw [hl]; exact hlc, hcm, ?_⟩⟩
    intro i x hi
    have hil : i < (zs.take len).length := (List.getElem?_eq_some_iff.1 hi).1
    rw [List.length_take] at hil
    have hiz : i < zs.length := by omega
    have e : zs.getD i 0 = x := by
      rw [List.getElem?_take, if_pos (by omega)] at hi
      rw [List.getD_eq_getElem?_getD, hi]; rfl
    have hcell := hc i hiz
    rw [e] at hcell
    exact ⟨World.block_lt_of_cell? W _ hcell, hcell⟩

end Go.Proofs.Ytpgfnhfjkplmaaa
