/-
  Arrays in blocks of their own: what is of no program: a block known whole, the operations on it, a frame.
-/
import Derived.WalkKit
import Derived.WalkSpells
import Derived.Laws.Tables
import Derived.Laws.Rows
import Derived.Deep.MidRow
import Derived.Deep.WholeRow
import Derived.Lib.Builder
namespace Go.Proofs.YtbpdhcfmdkmoiabDoor
open Go.RowKit

theorem hid {p : Prop} (h : p) : Hid p := h
theorem hid' {p : Prop} (h : p) : Hid p := h
theorem below_two {w w1 w2 : World} (h1 : Below w.heap.size w w1) (h2 : Below w1.heap.size w1 w2) : Below w.heap.size w w2 := h1.trans (h2.mono h1.size)
theorem below_from {B : Nat} {w w1 w2 : World} (h1 : Below B w w1) (h2 : Below w1.heap.size w1 w2) (hB : B ≤ w1.heap.size) : Below B w w2 := h1.trans (h2.mono hB)

/-- The block is one of these cells. -/
def Ar (w : World) (b : Nat) (t : TypeId) (c : Array Value) : Prop := w.heap[b]? = some (.cells c t (0, 0))
theorem Ar.lt {w : World} {b : Nat} {t : TypeId} {c : Array Value} (h : Ar w b t c) : b < w.heap.size := (Array.getElem?_eq_some_iff.1 h).1
theorem Ar.cell {w : World} {b : Nat} {t : TypeId} {c : Array Value} (h : Ar w b t c) (i : Nat) (v : Value) (hv : c[i]? = some v) : w.cell? ⟨b, i, none⟩ = some v := by rw [Lib.cell_of_heap h]; exact hv
theorem Ar.free {w : World} {b : Nat} {t : TypeId} {c : Array Value} (h : Ar w b t c) (i : Nat) : w.frozen? ⟨b, i, none⟩ = false := Lib.frozen_of_heap h i
theorem Ar.below {B : Nat} {w w' : World} {b : Nat} {t : TypeId} {c : Array Value} (h : Ar w b t c) (hb : Below B w w') (hl : b < B) : Ar w' b t c := by
  unfold Ar at *; rw [hb.block b hl]; exact h
theorem Ar.keep {w w' : World} {b : Nat} {t : TypeId} {c : Array Value} (h : Ar w b t c) (hb : Below w.heap.size w w') : Ar w' b t c := h.below hb h.lt
theorem Ar.drew {w : World} {b : Nat} {t : TypeId} {c : Array Value} (h : Ar w b t c) : Ar w.drew b t c := h
theorem Ar.set {w : World} {b : Nat} {t : TypeId} {c : Array Value} (h : Ar w b t c) (i : Nat) (v : Value) : Ar (w.setCell ⟨b, i, none⟩ v) b t (c.setIfInBounds i v) := by
  unfold Ar at *
  simp [World.setCell, Array.getElem?_modify, h]
theorem Ar.other {w : World} {b b' : Nat} {t : TypeId} {c : Array Value} (h : Ar w b t c) (hne : b' ≠ b) (i : Nat) (v : Value) : Ar (w.setCell ⟨b', i, none⟩ v) b t c := by
  unfold Ar at *
  simp [World.setCell, Array.getElem?_modify, h, hne]

/-- A world that has turned in one block alone. -/
structure Upd (b : Nat) (w w' : World) : Prop where
  os : w'.os = w.os
  tape : w'.tape = w.tape
  output : w'.output = w.output
  size : w'.heap.size = w.heap.size
  block : ∀ k, k ≠ b → w'.heap[k]? = w.heap[k]?
theorem Upd.below {B b : Nat} {w w' : World} (h : Upd b w w') (hB : B ≤ b) : Below B w w' := ⟨h.os, h.tape, h.output, by rw [h.size]; exact Nat.le_refl _, fun k hk => h.block k (by omega)⟩
theorem Upd.keep {b b' : Nat} {w w' : World} {t : TypeId} {c : Array Value} (h : Upd b w w') (ha : Ar w b' t c) (hne : b' ≠ b) : Ar w' b' t c := by
  unfold Ar at *; rw [h.block b' hne]; exact ha
theorem upd_setCell (w : World) (b i : Nat) (v : Value) : Upd b w (w.setCell ⟨b, i, none⟩ v) :=
  ⟨rfl, rfl, rfl, by simp [World.setCell], fun k hk => Below.heap_setCell _ _ _ _ (fun e => hk e)⟩

section
variable {P : Program} {ops : Array Oper} {rest : List Oper} {o : Oper} {a : Act} {w : World} {Q : Exit → Act → World → Prop}

theorem upd_setRow (w : World) (b : Nat) (c : Array Value) : Upd b w (w.setRow b c) :=
  ⟨rfl, rfl, rfl, by simp [World.setRow], fun k hk => by simp only [World.setRow, Array.getElem?_modify]; rw [if_neg (fun e => hk e.symm)]⟩

theorem wpl_alloc (t : TypeId) (ho : o.op = .alloc t) (hgd : o.guard = none) (z : Array Value) (hz : (P.info? t).map (fun i => i.zero) = some (some (.agg z)))
    (h : ∀ b w', w.heap.size ≤ b → Ar w' b t z → Below w.heap.size w w' → wpList P ops Q rest (a.put o.dst (.pointer (some ⟨b, 0, none⟩))) w') : wpList P ops Q (o :: rest) a w := by
  refine wpList_plain hgd fun _ hK => ?_
  unfold Oper.wp execOp
  cases hq : P.info? t with
  | none => simp [hq] at hz
  | some i =>
    simp [hq] at hz
    have hzz : (zeroValue t).run P w = .ok (.agg z) w := by simp [zeroValue, typeInfo, hq, hz]
    simp only [ho, Instr.alloc, newVar, newRow, Sem.run_bind, Sem.run_pure, hzz, Result.andThen_ok, Value.cells]
    exact hK _ _ (h _ _ (Nat.le_refl _) (heap_alloc_last w _) ((Below.refl _ w).alloc (Nat.le_refl _) _))

theorem wpl_box (t : TypeId) (x : Operand) (ho : o.op = .box t x) (hgd : o.guard = none) (c : Array Value) (hx : a.eval x = .agg c)
    (h : ∀ b w', w.heap.size ≤ b → Ar w' b t c → Below w.heap.size w w' → wpList P ops Q rest (a.put o.dst (.pointer (some ⟨b, 0, none⟩))) w') : wpList P ops Q (o :: rest) a w := by
  refine wpList_plain hgd fun _ hK => ?_
  unfold Oper.wp execOp
  simp only [ho, hx, Instr.box, newVar, newRow, Sem.run_bind, Sem.run_pure, Value.cells]
  exact hK _ _ (h _ _ (Nat.le_refl _) (heap_alloc_last w _) ((Below.refl _ w).alloc (Nat.le_refl _) _))

theorem wpl_load (ty : TypeId) (x : Operand) (ho : o.op = .load ty x) (hgd : o.guard = none) (b : Nat) (hx : a.eval x = .pointer (some ⟨b, 0, none⟩)) (t : TypeId) (c : Array Value) (hc : Ar w b t c)
    (d : TypeDesc) (hu : P.underlying ty = some d) (hd : d.isRow = true) (hi : (P.info? ty).map (·.size) = some c.size)
    (h : wpList P ops Q rest (a.put o.dst (.agg c)) w) : wpList P ops Q (o :: rest) a w := by
  refine wpList_load_mid hgd ty x ho b 0 hx c.toList d ?_ hu hd (by simpa using hi) (by simpa using h)
  intro j v hv
  rw [Nat.zero_add, Lib.cell_of_heap hc]; simpa using hv

theorem wpl_store (ty : TypeId) (x y : Operand) (ho : o.op = .store ty x y) (hgd : o.guard = none) (b : Nat) (c : Array Value) (hx : a.eval x = .pointer (some ⟨b, 0, none⟩)) (hy : a.eval y = .agg c)
    (t : TypeId) (old : Array Value) (hg : Ar w b t old) (hi : (P.info? ty).map (·.size) = some c.size)
    (hold : old.size = c.size) (h1 : c.all (·.oneCell') = true)
    (h : ∀ w', Ar w' b t c → Upd b w w' → wpList P ops Q rest (a.put o.dst undef) w') : wpList P ops Q (o :: rest) a w :=
  wpList_store_row hgd ty x y ho b c hx hy t old hg hi hold h1 (h _ (setRow_heap w b old c t (0, 0) hg) (upd_setRow w b c))
theorem wpl_build (t : TypeId) (parts : Array (Nat × Operand)) (ho : o.op = .build t parts) (hgd : o.guard = none) (c : Array Value) (hb : P.built t (parts.map fun (i, x) => (i, a.eval x)).toList = some c)
    (h : ∀ c', Hid (c' = c) → wpList P ops Q rest (a.put o.dst (.agg c')) w) : wpList P ops Q (o :: rest) a w :=
  wpList_build hgd t parts ho (by rw [hb]; rfl) (by rw [hb]; exact h _ rfl)
end

/-- Numbers as cells. -/
def nums (k : IntKind) (l : List Int) : Array Value := (l.map (Value.int k)).toArray
theorem nums_at {k : IntKind} {l : List Int} {i : Nat} {v : Int} (h : l[i]? = some v) : (nums k l)[i]? = some (.int k v) := by simp [nums, h]
theorem nums_set (k : IntKind) (l : List Int) (i : Nat) (v : Int) : (nums k l).setIfInBounds i (.int k v) = nums k (l.set i v) := by
  simp [nums, List.map_set]
theorem Ar.num {w : World} {b : Nat} {t : TypeId} {k : IntKind} {l : List Int} (h : Ar w b t (nums k l)) (i : Nat) (hi : i < l.length) : w.cell? ⟨b, i, none⟩ = some (.int k (l.getD i 0)) :=
  h.cell i _ (nums_at (by rw [List.getD_eq_getElem?_getD, List.getElem?_eq_getElem hi]; rfl))
theorem Ar.val {w : World} {b : Nat} {t : TypeId} {k : IntKind} {l : List Int} (h : Ar w b t (nums k l)) (i : Nat) (v : Int) (hi : l[i]? = some v) : w.cell? ⟨b, i, none⟩ = some (.int k v) :=
  h.cell i _ (nums_at hi)
theorem Ar.put {w : World} {b : Nat} {t : TypeId} {k : IntKind} {l : List Int} (h : Ar w b t (nums k l)) (i : Nat) (v : Int) : Ar (w.setCell ⟨b, i, none⟩ (.int k v)) b t (nums k (l.set i v)) := by
  rw [← nums_set]; exact h.set i _
theorem nums_size (k : IntKind) (l : List Int) : (nums k l).size = l.length := by simp [nums]
theorem nums_one (k : IntKind) (l : List Int) : (nums k l).all (·.oneCell') = true := by
  simp [nums, Value.oneCell']

end Go.Proofs.YtbpdhcfmdkmoiabDoor
