/-
  Fields in memory; the document's Size, in, pseudo: by their contracts.
-/
import Derived.Test.YtbpdhcfmdkmoiabDoorMsP
import Derived.Test.YtbpdhcfmdkmoiabDoorProg
import Derived.WalkKit
import Derived.Test.YtbpdhcfmdkmoiabDoorLf
import Derived.Laws.Cover1
import Derived.Laws.OwnMore
import Derived.Great.BuildSlice
import Derived.Deep.QuietTactic
namespace Go.Proofs.YtbpdhcfmdkmoiabDoor
open Go.RowKit

theorem wrp (x : Int) (h0 : 0 ≤ x) (h1 : x ≤ 9223372036854775807) : IntKind.i64.wrap x = x := by rw [IntKind.wrap_i64]; omega
def fV (f : Fd) : List Value := [.string f.n, .string f.v]
def fC (l : List Fd) : List Value := l.flatMap fV
theorem fC_append (l m : List Fd) : fC (l ++ m) = fC l ++ fC m := by simp [fC]
theorem fC_length (l : List Fd) : (fC l).length = l.length * 2 := by
  induction l with
  | nil => rfl
  | cons a r ih => simp only [fC, List.flatMap_cons, List.length_append, List.length_cons] at *; simp [fV] at *; omega
theorem f_at (l : List Fd) (i : Nat) (p : Fd) (h : l[i]? = some p) : ∀ j, j < 2 → (fC l)[i * 2 + j]? = (fV p)[j]? := by
  induction l generalizing i with
  | nil => simp at h
  | cons a r ih =>
    intro j hj
    rw [show fC (a :: r) = fV a ++ fC r from rfl]
    cases i with
    | zero => simp at h; subst h; rw [List.getElem?_append_left (by simp [fV]; omega)]; congr 1; omega
    | succ i =>
      rw [List.getElem?_append_right (by simp [fV]; omega), show (i + 1) * 2 + j - (fV a).length = i * 2 + j by simp [fV]; omega]
      exact ih i (by simpa using h) j hj
/-- Fields that can be read, wherever they lie. -/
def FW (w : World) (v : Value) (l : List Fd) : Prop :=
  (v = .slice none 0 0 ∧ l = []) ∨ ∃ a cap, v = .slice (some a) l.length cap ∧ l.length ≤ cap ∧ ∀ j u, (fC l)[j]? = some u → (a.add j).block < w.heap.size ∧ w.cell? (a.add j) = some u
theorem FW.keep {w w' : World} {v : Value} {l : List Fd} (h : FW w v l) (hb : Below w.heap.size w w') : FW w' v l := by
  rcases h with h | ⟨a, cap, hv, hcp, hc⟩
  · exact .inl h
  · exact .inr ⟨a, cap, hv, hcp, fun j u hj => ⟨Nat.lt_of_lt_of_le (hc j u hj).1 hb.size, (hb.cell (hc j u hj).1).trans (hc j u hj).2⟩⟩
theorem FW.below {B : Nat} {w w' : World} {v : Value} {l : List Fd} (h : FW w v l) (hb : Below B w w') (hB : w.heap.size ≤ B) : FW w' v l := h.keep (hb.mono hB)
theorem FW.shape {w : World} {v : Value} {l : List Fd} (h : FW w v l) : ∃ ao cap, v = .slice ao l.length cap := by
  rcases h with ⟨h, rfl⟩ | ⟨a, cap, h, _⟩
  · exact ⟨none, 0, h⟩
  · exact ⟨some a, cap, h⟩
theorem FW.two {w : World} {ao : Option Addr} {n cap : Nat} {l : List Fd} (h : FW w (.slice ao n cap) l) (i : Nat) (p : Fd) (hp : l[i]? = some p) : ∃ a, ao = some a ∧ w.cell? (a.add (i * 2)) = some (.string p.n) ∧ w.cell? ⟨(a.add (i * 2)).block, (a.add (i * 2)).off + 1, none⟩ = some (.string p.v) := by
  rcases h with ⟨_, rfl⟩ | ⟨a, cap', hv, hcp, hc⟩
  · simp at hp
  · injection hv with h1 _ _
    have key : ∀ j u, j < 2 → (fV p)[j]? = some u → w.cell? (a.add (i * 2 + j)) = some u := fun j u hj hu => (hc _ _ ((f_at l i p hp j hj).trans hu)).2
    have k0 := key 0 _ (by omega) rfl
    have k1 := key 1 _ (by omega) rfl
    rw [← Addr.add_add] at k0 k1
    refine ⟨a, h1, ?_, ?_⟩
    · simpa [Addr.add] using k0
    · simpa [Addr.add] using k1
theorem FW.cap {w : World} {a : Addr} {n cap : Nat} {l : List Fd} (h : FW w (.slice (some a) n cap) l) : l.length ≤ cap := by
  rcases h with ⟨h, _⟩ | ⟨a', cap', hv, hcp, _⟩
  · cases h
  · injection hv with _ _ h3
    rw [h3]; exact hcp
theorem fC_take (l : List Fd) (i : Nat) : fC (l.take i) = (fC l).take (i * 2) := by
  induction l generalizing i with
  | nil => simp [fC]
  | cons a r ih =>
    cases i with
    | zero => simp [fC]
    | succ i =>
      have : (i + 1) * 2 = (fV a).length + i * 2 := by simp [fV]; omega
      rw [List.take_succ_cons, show fC (a :: r.take i) = fV a ++ fC (r.take i) from rfl, show fC (a :: r) = fV a ++ fC r from rfl, ih, this, List.take_append, List.take_of_length_le (l := fV a) (by omega), Nat.add_sub_cancel_left]
theorem FW.take {w : World} {a : Addr} {n cap : Nat} {l : List Fd} (h : FW w (.slice (some a) n cap) l) {k : Nat} (hk : k ≤ l.length) : FW w (.slice (some a) k cap) (l.take k) := by
  rcases h with ⟨h, _⟩ | ⟨a', cap', hv, hcp, hc⟩
  · cases h
  · injection hv with h1 _ h3
    injection h1 with h1
    subst h1 h3
    refine .inr ⟨a, cap, by rw [List.length_take, Nat.min_eq_left hk], by rw [List.length_take]; omega, fun j u hj => hc j u ?_⟩
    rw [fC_take, List.getElem?_take] at hj
    split at hj
    · exact hj
    · cases hj
theorem FW.of_own {w : World} {B : Nat} {e : TypeId} {v : Value} {l : List Fd} (h : w.ownsRow B e 2 v l.length (fC l)) : FW w v l := by
  rcases h.2 with ⟨hv, hn⟩ | ⟨g, cap, cur, hv, _, h3, h4, _⟩
  · exact .inl ⟨hv, List.eq_nil_of_length_eq_zero hn⟩
  · refine .inr ⟨⟨g, 0, none⟩, cap, hv, h4, fun j u hj => ⟨?_, ?_⟩⟩
    · have := (Array.getElem?_eq_some_iff.1 h3).1
      unfold Addr.add
      split <;> exact this
    · exact h.cells (g := g) (by rw [hv]; rfl) j u hj

end Go.Proofs.YtbpdhcfmdkmoiabDoor
