/-
  slices.Delete of one element of a row, in place: by its contracts.
-/
import Derived.Test.YthgdokcdpmoeeaaStE
import Derived.Laws.IdiomCopy
namespace Go.Proofs.Ythgdokcdpmoeeaa
open Go.RowKit

/-- Cells laid into an array. -/
def layc : Array Value → Nat → List Value → Array Value
  | c, _, [] => c
  | c, o, v :: r => layc (c.setIfInBounds o v) (o + 1) r
theorem layc_size (vs : List Value) : ∀ (c : Array Value) (o : Nat), (layc c o vs).size = c.size := by
  induction vs with
  | nil => intro c o; rfl
  | cons v r ih => intro c o; rw [layc, ih]; simp
theorem take_mid (A D : List Value) (v : Value) : (A ++ v :: D).take (A.length + 1) = A ++ [v] := by
  rw [List.take_append, List.take_of_length_le (by omega), show A.length + 1 - A.length = 1 by omega]; rfl
theorem drop_mid (A D : List Value) (v : Value) (n : Nat) : (A ++ v :: D).drop (A.length + 1 + n) = D.drop n := by
  rw [List.drop_append, List.drop_of_length_le (by omega), show A.length + 1 + n - A.length = n + 1 by omega]; rfl
theorem layc_list (vs : List Value) : ∀ (c : Array Value) (o : Nat), o + vs.length ≤ c.size → (layc c o vs).toList = c.toList.take o ++ vs ++ c.toList.drop (o + vs.length) := by
  induction vs with
  | nil => intro c o _; simp [layc]
  | cons v r ih =>
    intro c o h
    simp at h
    rw [layc, ih _ _ (by simp; omega)]
    have e : (c.setIfInBounds o v).toList = c.toList.set o v := by simp
    rw [e, List.set_eq_take_append_cons_drop, if_pos (by simp; omega)]
    have hl : (c.toList.take o).length = o := by simp; omega
    have e1 := take_mid (c.toList.take o) (c.toList.drop (o + 1)) v
    have e2 := drop_mid (c.toList.take o) (c.toList.drop (o + 1)) v r.length
    rw [hl] at e1 e2
    rw [e1, e2, List.drop_drop, List.length_cons, show o + 1 + r.length = o + (r.length + 1) by omega]
    simp
theorem Ar.cells {b : Nat} {t : TypeId} (vs : List Value) : ∀ {w : World} {c : Array Value} (o : Nat), Ar w b t c → Ar (w.setCells b o vs) b t (layc c o vs) := by
  induction vs with
  | nil => intro w c o h; exact h
  | cons v r ih => intro w c o h; exact ih (o + 1) (h.set o v)
theorem Upd.trans' {b : Nat} {w w1 w2 : World} (h1 : Upd b w w1) (h2 : Upd b w1 w2) : Upd b w w2 :=
  ⟨h2.os.trans h1.os, h2.tape.trans h1.tape, h2.output.trans h1.output, h2.size.trans h1.size, fun k hk => (h2.block k hk).trans (h1.block k hk)⟩
theorem upd_setCells (b : Nat) (vs : List Value) : ∀ (o : Nat) (w : World), Upd b w (w.setCells b o vs) := by
  induction vs with
  | nil => intro o w; exact ⟨rfl, rfl, rfl, rfl, fun _ _ => rfl⟩
  | cons v r ih => intro o w; exact (upd_setCell w b o v).trans' (ih (o + 1) _)
/-- clear of one element. -/
theorem run_clear_one (w : World) (t e ty : TypeId) (z : Value) (ht : Try.prog.underlying t = some (.slice e)) (hv : ∀ w, (zeroValue e).run Try.prog w = .ok z w) (h1 : ∀ u ∈ z.cells.toList, u.oneCell' = true) (b o c : Nat)
    (hc : ∀ j, j < z.cells.size → (w.cell? ⟨b, o + j, none⟩).isSome = true) (hf : ∀ j, j < z.cells.size → w.frozen? ⟨b, o + j, none⟩ = false) :
    (Builtin.clear_ #[t] ty #[.slice (some ⟨b, o, none⟩) 1 c]).run Try.prog w = .ok (.tuple #[]) (w.setCells b o z.cells.toList) := by
  have hzc : (Builtin.zeroCells z.cells 1).toList = z.cells.toList := by
    apply List.ext_getElem
    · simp [Builtin.zeroCells]
    · intro i h1 h2
      simp at h2
      simp [Builtin.zeroCells, Nat.mod_eq_of_lt h2]
      rw [getElem!_pos z.cells i h2]
  have hst := run_storeCells_cells (P := Try.prog) b o z.cells.toList 0 w (by simpa using hc) (by simpa using hf) h1
  simp only [Nat.add_zero] at hst
  simp [Builtin.clear_, run_underlying ht, hv, hzc, hst]

end Go.Proofs.Ythgdokcdpmoeeaa
