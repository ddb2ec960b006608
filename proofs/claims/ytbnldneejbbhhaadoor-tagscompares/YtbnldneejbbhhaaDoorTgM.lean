/-
  Tags in memory; bytes of a text: what is of no function.
-/
import Derived.Test.YtbnldneejbbhhaaDoorTgP
import Derived.Test.YtbnldneejbbhhaaDoorProg
import Derived.Test.YtbnldneejbbhhaaDoorLf
import Derived.Test.YtbnldneejbbhhaaDoorTrims
import Derived.WalkKit
import Derived.Laws.Cover1
import Derived.Laws.OwnMore
import Derived.Great.BuildSlice
import Derived.Deep.QuietTactic
import Derived.BigQuiet
import Derived.Maps.AppendAt
import Derived.Deep.CutRange
namespace Go.Proofs.YtbnldneejbbhhaaDoor
open Go.RowKit

theorem bl_alloc (w : World) (x : Obj) : Below w.heap.size w (w.alloc x) := (Below.refl _ _).alloc (Nat.le_refl _) _
theorem minfo_parts {P : Program} {t : TypeId} {z : Option Value} {s b : Nat} (h : (P.info? t).map (fun i => (i.zero, i.size, i.bytes)) = some (z, s, b)) : ∃ i, P.info? t = some i ∧ i.zero = z ∧ i.size = s ∧ i.bytes = b := by
  cases hq : P.info? t with
  | none => simp [hq] at h
  | some i => simp [hq] at h; exact ⟨i, rfl, h.1, h.2.1, h.2.2⟩
theorem own_shape {w : World} {B : Nat} {e : TypeId} {s : Nat} {v : Value} {n : Nat} {xs : List Value} (h : w.ownsRow B e s v n xs) : ∃ ao cap, v = .slice ao n cap := by
  rcases h.2 with ⟨h1, rfl⟩ | ⟨g, cap, cur, h1, _⟩
  · exact ⟨none, 0, h1⟩
  · exact ⟨_, cap, h1⟩
theorem two_new (w : World) (T : TypeId) (x0 x1 : Value) : ∀ j v, [x0, x1][j]? = some v → (w.alloc (.cells #[x0, x1] T)).cell? ((⟨w.heap.size, 0, none⟩ : Addr).add j) = some v := by
  intro j v h
  rw [Addr.add_mid, Nat.zero_add]
  have hA : Ar (w.alloc (.cells #[x0, x1] T)) w.heap.size T #[x0, x1] := heap_alloc_last w _
  exact hA.cell j v (by simpa using h)
theorem own_lit (w : World) (e : TypeId) (xs : List Value) (n s : Nat) (hl : xs.length = n * s) (hn : n ≤ maxLen) (B : Nat) (hB : B ≤ w.heap.size) : (w.alloc (.cells xs.toArray e)).ownsRow B e s (.slice (some ⟨w.heap.size, 0, none⟩) n n) n xs :=
  ⟨hl, .inr ⟨w.heap.size, n, xs.toArray, rfl, hB, heap_alloc_last w _, Nat.le_refl _, hn, by simpa using hl, by rw [← hl]; simp⟩⟩
theorem own_keep15 {w w' : World} {B : Nat} {e : TypeId} {s : Nat} {v : Value} {n : Nat} {xs : List Value} (h : w.ownsRow B e s v n xs) (hb : Below w.heap.size w w') : w'.ownsRow B e s v n xs := own_same h (fun j hj => hb.block j (own_lt h j hj))

def tV (t : Tg.Tag) : List Value := [.bool t.w, .string ⟨t.v.toArray⟩]
def tC (l : List Tg.Tag) : List Value := l.flatMap tV
theorem tC_append (l m : List Tg.Tag) : tC (l ++ m) = tC l ++ tC m := by simp [tC]
theorem tC_length (l : List Tg.Tag) : (tC l).length = l.length * 2 := by
  induction l with
  | nil => rfl
  | cons a r ih => simp only [tC, List.flatMap_cons, List.length_append, List.length_cons] at *; simp [tV] at *; omega
theorem t_at (l : List Tg.Tag) (i : Nat) (p : Tg.Tag) (h : l[i]? = some p) : ∀ j, j < 2 → (tC l)[i * 2 + j]? = (tV p)[j]? := by
  induction l generalizing i with
  | nil => simp at h
  | cons a r ih =>
    intro j hj
    rw [show tC (a :: r) = tV a ++ tC r from rfl]
    cases i with
    | zero => simp at h; subst h; rw [List.getElem?_append_left (by simp [tV]; omega)]; congr 1; omega
    | succ i =>
      rw [List.getElem?_append_right (by simp [tV]; omega), show (i + 1) * 2 + j - (tV a).length = i * 2 + j by simp [tV]; omega]
      exact ih i (by simpa using h) j hj
/-- Tags of a row of one's own. -/
theorem own_two {w : World} {B : Nat} {e : TypeId} {ao : Option Addr} {n m cap : Nat} {l : List Tg.Tag} (h : w.ownsRow B e 2 (.slice ao n cap) m (tC l)) (i : Nat) (p : Tg.Tag) (hp : l[i]? = some p) : ∃ g, ao = some ⟨g, 0, none⟩ ∧ w.cell? ⟨g, i * 2, none⟩ = some (.bool p.w) ∧ w.cell? ⟨g, i * 2 + 1, none⟩ = some (.string ⟨p.v.toArray⟩) := by
  have hlt : i * 2 < (tC l).length := by rw [tC_length]; have := (List.getElem?_eq_some_iff.1 hp).1; omega
  rcases h.2 with ⟨_, h0⟩ | ⟨g, cap', cur, h1, h2⟩
  · rw [h.1, h0] at hlt; omega
  · injection h1 with h1 h3 h4
    subst h1
    have key : ∀ j u, j < 2 → (tV p)[j]? = some u → w.cell? ⟨g, i * 2 + j, none⟩ = some u := fun j u hj hu => by
      have := h.cells (g := g) rfl _ u ((t_at l i p hp j hj).trans hu)
      rwa [Addr.add_mid, Nat.zero_add] at this
    exact ⟨g, rfl, key 0 _ (by omega) rfl, key 1 _ (by omega) rfl⟩

theorem zeroC15 : (Tryd.prog.info? 31).map (fun i => i.zero) = some (some (.agg #[.bool false, .string ⟨#[]⟩])) := by kernel_rfl
theorem sizeC15 : (Tryd.prog.info? 31).map (·.size) = some 2 := by kernel_rfl
theorem infoC15 : (Tryd.prog.info? 31).map (fun i => (i.zero, i.size, i.bytes)) = some (some (.agg #[.bool false, .string ⟨#[]⟩]), 2, 24) := by kernel_rfl
theorem ldC15 {w : World} {b : Nat} {x0 x1 : Value} (h : Ar w b 31 #[x0, x1]) : (loadVar 31 ⟨b, 0, none⟩).run Tryd.prog w = .ok (.agg #[x0, x1]) w :=
  run_loadVar_row (P := Tryd.prog) w b 31 31 _ (0, 0) _ h Tryd.underlying31 rfl sizeC15

theorem zeroR15 : (Tryd.prog.info? 36).map (fun i => i.zero) = some (some (.agg #[.bool false, .string ⟨#[]⟩])) := by kernel_rfl
theorem sizeR15 : (Tryd.prog.info? 36).map (·.size) = some 2 := by kernel_rfl
theorem infoR15 : (Tryd.prog.info? 36).map (fun i => (i.zero, i.size, i.bytes)) = some (some (.agg #[.bool false, .string ⟨#[]⟩]), 2, 24) := by kernel_rfl
theorem ldR15 {w : World} {b : Nat} {x0 x1 : Value} (h : Ar w b 36 #[x0, x1]) : (loadVar 36 ⟨b, 0, none⟩).run Tryd.prog w = .ok (.agg #[x0, x1]) w :=
  run_loadVar_row (P := Tryd.prog) w b 36 36 _ (0, 0) _ h Tryd.underlying36 rfl sizeR15

namespace Tg
theorem inn_at {m : List UInt8} {k : Nat} (h : k < inn m) : ∃ c, m[k]? = some c ∧ etB c = true := by
  unfold inn at h
  induction m generalizing k with
  | nil => simp at h
  | cons x r ih =>
    rw [List.takeWhile_cons] at h
    cases hx : etB x
    · rw [hx] at h; simp at h
    · rw [hx] at h
      cases k with
      | zero => exact ⟨x, rfl, hx⟩
      | succ k => simpa using ih (by simpa using h)
theorem inn_stop {m : List UInt8} {c : UInt8} (h : m[inn m]? = some c) : etB c = false := by
  unfold inn at h
  induction m with
  | nil => simp at h
  | cons x r ih =>
    rw [List.takeWhile_cons] at h
    cases hx : etB x
    · rw [hx] at h; simp at h; subst h; exact hx
    · rw [hx] at h; simp at h; exact ih h
end Tg

end Go.Proofs.YtbnldneejbbhhaaDoor
