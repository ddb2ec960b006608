/-
  Numbers that came in.
-/
import Derived.Test.YthbidfcfkjamdaaProg
import Derived.Deep.Slices
import Derived.Deep.Strs
import Derived.SizedLaws
import Derived.RowKit
import Derived.ProofKit
import Derived.OpenShut
namespace Go.Proofs.Ythbidfcfkjamdaa
open Go.RowKit Go.ChangeShapes Go.WideShapes Go.ChangeAt Go.Deep

/-- Numbers in memory. -/
def ScrI (w : World) (v : Value) (xs : List Int) : Prop :=
  (v = .slice none 0 0 ∧ xs = []) ∨ ∃ a cap, v = .slice (some a) xs.length cap ∧ ∀ i x, xs[i]? = some x → (a.add i).block < w.heap.size ∧ w.cell? (a.add i) = some (.int .i64 x)
theorem ScrI.shape {w : World} {v : Value} {xs : List Int} (h : ScrI w v xs) : ∃ ao cap, v = .slice ao xs.length cap := by
  rcases h with ⟨h, rfl⟩ | ⟨a, cap, h, _⟩
  · exact ⟨none, 0, h⟩
  · exact ⟨some a, cap, h⟩
theorem ScrI.at {w w' : World} {ao : Option Addr} {n cap : Nat} {xs : List Int} (h : ScrI w (.slice ao n cap) xs) (hb : Below w.heap.size w w') (i : Nat) (x : Int) (hx : xs[i]? = some x) : ∃ a, ao = some a ∧ w'.cell? (a.add i) = some (.int .i64 x) := by
  rcases h with ⟨_, rfl⟩ | ⟨a, cap', hv, hcs⟩
  · simp at hx
  · injection hv with h1 _ _
    obtain ⟨hl, c0⟩ := hcs i x hx
    exact ⟨a, h1, (hb.cell hl).trans c0⟩

set_option maxRecDepth 20000 in
theorem open_nums {H : Type} {enc : TypeId × Value → H} {W : World} {base : Nat} {v : Value} {d : DataW H} {p : List MemPlace} (hval : Value.okWide Try.prog W .any base 52 v) (h : DataW.Trod enc Try.prog W 0 (fun _ => true) true 52 v d p) :
    ∃ xs : List Int, ScrI W v xs := by
  obtain ⟨a, len, cap, rfl⟩ := okWide_slice Try.underlying52 hval
  obtain ⟨fuel, hf⟩ := h
  rcases open_ints Try.underlying52 Try.underlying3 (by kernel_rfl) hf with ⟨h1, h2⟩ | ⟨a', len', cap', zs, h1, _, hlc, hcm, hz, hx, hc, hw⟩
  · simp [Value.cells] at h1
    obtain ⟨rfl, rfl, rfl⟩ := h1
    exact ⟨[], .inl ⟨rfl, rfl⟩⟩
  · simp [Value.cells] at h1
    obtain ⟨rfl, rfl, rfl⟩ := h1
    simp only [if_true] at hz
    refine ⟨zs.take len, .inr ⟨a', cap, by rw [List.length_take, hz, Nat.min_eq_left hlc], ?_⟩⟩
    intro i x hi
    have hil : i < (zs.take len).length := (List.getElem?_eq_some_iff.1 hi).1
    rw [List.length_take] at hil
    have hiz : i < zs.length := by omega
    have e : zs.getD i 0 = x := by
      rw [List.getElem?_take, if_pos (by omega)] at hi
      rw [List.getD_eq_getElem?_getD, hi]; rfl
    have hcell := hc i hiz
    rw [e] at hcell
    exact ⟨World.block_lt_of_cell? W _ hcell, hcell⟩

end Go.Proofs.Ythbidfcfkjamdaa
