/-
  Arrays in blocks of their own: what is of no program: a block known whole, the operations on it, a frame.
  The builder's methods that the code calls, at this program (its copyCheck's last arm is refused by the loader, so the shelf's laying falls): walked here.
  Plain functions on bytes, lists and numbers, and plain lemmas about them: what the document says of package text, with no program in sight.
-/
import Derived.WalkKit
import Derived.WalkSpells
import Derived.Laws.Tables
import Derived.Laws.Rows
import Derived.Deep.MidRow
import Derived.Deep.WholeRow
import Derived.Lib.Builder
import Derived.Test.YtbpdhcfmdkmoiaaDoorShelfW
import Derived.Lib.Walk
import Derived.Lib.AppendStr
import Derived.Lib.UnsafeStr
import Derived.Laws.Externs
namespace Go.Proofs.YtbpdhcfmdkmoiaaDoor
open Go.RowKit

theorem hid {p : Prop} (h : p) : Hid p := h
theorem hid' {p : Prop} (h : p) : Hid p := h
theorem below_two {w w1 w2 : World} (h1 : Below w.heap.size w w1) (h2 : Below w1.heap.size w1 w2) : Below w.heap.size w w2 := h1.trans (h2.mono h1.size)

/-- The block is one of these cells. -/
def Ar (w : World) (b : Nat) (t : TypeId) (c : Array Value) : Prop := w.heap[b]? = some (.cells c t (0, 0))
theorem Ar.lt {w : World} {b : Nat} {t : TypeId} {c : Array Value} (h : Ar w b t c) : b < w.heap.size := (Array.getElem?_eq_some_iff.1 h).1
theorem Ar.cell {w : World} {b : Nat} {t : TypeId} {c : Array Value} (h : Ar w b t c) (i : Nat) (v : Value) (hv : c[i]? = some v) : w.cell? ⟨b, i, none⟩ = some v := by rw [Lib.cell_of_heap h]; exact hv
theorem Ar.free {w : World} {b : Nat} {t : TypeId} {c : Array Value} (h : Ar w b t c) (i : Nat) : w.frozen? ⟨b, i, none⟩ = false := Lib.frozen_of_heap h i
theorem Ar.below {B : Nat} {w w' : World} {b : Nat} {t : TypeId} {c : Array Value} (h : Ar w b t c) (hb : Below B w w') (hl : b < B) : Ar w' b t c := by
  unfold Ar at *; rw [hb.block b hl]; exact h
theorem Ar.keep {w w' : World} {b : Nat} {t : TypeId} {c : Array Value} (h : Ar w b t c) (hb : Below w.heap.size w w') : Ar w' b t c := h.below hb h.lt
theorem Ar.drew {w : World} {b : Nat} {t : TypeId} {c : Array Value} (h : Ar w b t c) : Ar w.drew b t c := h
theorem Ar.set {w : World} {b : Nat} {t : TypeId} {c : Array Value} (h : Ar w b t c) (i : Nat) (v : Value) : Ar (w.setCell ⟨b, i, none⟩ v) b t (c.setIfInBounds i v) := by
  unfold Ar at *
  simp [World.setCell, Array.getElem?_modify, h]
theorem Ar.other {w : World} {b b' : Nat} {t : TypeId} {c : Array Value} (h : Ar w b t c) (hne : b' ≠ b) (i : Nat) (v : Value) : Ar (w.setCell ⟨b', i, none⟩ v) b t c := by
  unfold Ar at *
  simp [World.setCell, Array.getElem?_modify, h, hne]

/-- A world that has turned in one block alone. -/
structure Upd (b : Nat) (w w' : World) : Prop where
  os : w'.os = w.os
  tape : w'.tape = w.tape
  output : w'.output = w.output
  size : w'.heap.size = w.heap.size
  block : ∀ k, k ≠ b → w'.heap[k]? = w.heap[k]?
theorem Upd.below {B b : Nat} {w w' : World} (h : Upd b w w') (hB : B ≤ b) : Below B w w' := ⟨h.os, h.tape, h.output, by rw [h.size]; exact Nat.le_refl _, fun k hk => h.block k (by omega)⟩
theorem Upd.keep {b b' : Nat} {w w' : World} {t : TypeId} {c : Array Value} (h : Upd b w w') (ha : Ar w b' t c) (hne : b' ≠ b) : Ar w' b' t c := by
  unfold Ar at *; rw [h.block b' hne]; exact ha
theorem upd_setCell (w : World) (b i : Nat) (v : Value) : Upd b w (w.setCell ⟨b, i, none⟩ v) :=
  ⟨rfl, rfl, rfl, by simp [World.setCell], fun k hk => Below.heap_setCell _ _ _ _ (fun e => hk e)⟩

section
variable {P : Program} {ops : Array Oper} {rest : List Oper} {o : Oper} {a : Act} {w : World} {Q : Exit → Act → World → Prop}

theorem upd_setRow (w : World) (b : Nat) (c : Array Value) : Upd b w (w.setRow b c) :=
  ⟨rfl, rfl, rfl, by simp [World.setRow], fun k hk => by simp only [World.setRow, Array.getElem?_modify]; rw [if_neg (fun e => hk e.symm)]⟩

theorem wpl_alloc (t : TypeId) (ho : o.op = .alloc t) (hgd : o.guard = none) (z : Array Value) (hz : (P.info? t).map (fun i => i.zero) = some (some (.agg z)))
    (h : ∀ b w', w.heap.size ≤ b → Ar w' b t z → Below w.heap.size w w' → wpList P ops Q rest (a.put o.dst (.pointer (some ⟨b, 0, none⟩))) w') : wpList P ops Q (o :: rest) a w := by
  refine wpList_plain hgd fun _ hK => ?_
  unfold Oper.wp execOp
  cases hq : P.info? t with
  | none => simp [hq] at hz
  | some i =>
    simp [hq] at hz
    have hzz : (zeroValue t).run P w = .ok (.agg z) w := by simp [zeroValue, typeInfo, hq, hz]
    simp only [ho, Instr.alloc, newVar, newRow, Sem.run_bind, Sem.run_pure, hzz, Result.andThen_ok, Value.cells]
    exact hK _ _ (h _ _ (Nat.le_refl _) (heap_alloc_last w _) ((Below.refl _ w).alloc (Nat.le_refl _) _))

theorem wpl_store (ty : TypeId) (x y : Operand) (ho : o.op = .store ty x y) (hgd : o.guard = none) (b : Nat) (c : Array Value) (hx : a.eval x = .pointer (some ⟨b, 0, none⟩)) (hy : a.eval y = .agg c)
    (t : TypeId) (old : Array Value) (hg : Ar w b t old) (hi : (P.info? ty).map (·.size) = some c.size)
    (hold : old.size = c.size) (h1 : c.all (·.oneCell') = true)
    (h : ∀ w', Ar w' b t c → Upd b w w' → wpList P ops Q rest (a.put o.dst undef) w') : wpList P ops Q (o :: rest) a w :=
  wpList_store_row hgd ty x y ho b c hx hy t old hg hi hold h1 (h _ (setRow_heap w b old c t (0, 0) hg) (upd_setRow w b c))
end

/-- Numbers as cells. -/
def nums (k : IntKind) (l : List Int) : Array Value := (l.map (Value.int k)).toArray
theorem nums_at {k : IntKind} {l : List Int} {i : Nat} {v : Int} (h : l[i]? = some v) : (nums k l)[i]? = some (.int k v) := by simp [nums, h]
theorem nums_set (k : IntKind) (l : List Int) (i : Nat) (v : Int) : (nums k l).setIfInBounds i (.int k v) = nums k (l.set i v) := by
  simp [nums, List.map_set]
theorem Ar.num {w : World} {b : Nat} {t : TypeId} {k : IntKind} {l : List Int} (h : Ar w b t (nums k l)) (i : Nat) (hi : i < l.length) : w.cell? ⟨b, i, none⟩ = some (.int k (l.getD i 0)) :=
  h.cell i _ (nums_at (by rw [List.getD_eq_getElem?_getD, List.getElem?_eq_getElem hi]; rfl))
theorem Ar.val {w : World} {b : Nat} {t : TypeId} {k : IntKind} {l : List Int} (h : Ar w b t (nums k l)) (i : Nat) (v : Int) (hi : l[i]? = some v) : w.cell? ⟨b, i, none⟩ = some (.int k v) :=
  h.cell i _ (nums_at hi)
theorem Ar.put {w : World} {b : Nat} {t : TypeId} {k : IntKind} {l : List Int} (h : Ar w b t (nums k l)) (i : Nat) (v : Int) : Ar (w.setCell ⟨b, i, none⟩ (.int k v)) b t (nums k (l.set i v)) := by
  rw [← nums_set]; exact h.set i _

end Go.Proofs.YtbpdhcfmdkmoiaaDoor

namespace Go.Proofs.YtbpdhcfmdkmoiaaDoor
open Go.RowKit

theorem infoByte : (Tryd.prog.info? 5).map (fun i => (i.zero, i.size, i.bytes)) = some (some (.int .u8 0), 1, 1) := by kernel_rfl
theorem sizeBuilder : (Tryd.prog.info? 76).map (·.size) = some 2 := by kernel_rfl
theorem liesBuilder : liesAt Tryd.prog Tryd.prog.depth 76 (2 / Tryd.prog.cellsOf 76) 0 76 1 = true := by kernel_rfl
/-- The builder in block b holds these bytes. -/
def Bld (w : World) (B b : Nat) (l : List UInt8) : Prop := Lib.IsBuilder 76 5 B b (Lib.byteCells l) w

set_option maxHeartbeats 1000000 in
set_option maxRecDepth 100000 in
theorem copyCheck_used (b : Nat) (w : World) (h0 : w.cell? ⟨b, 0, none⟩ = some (.pointer (some ⟨b, 0, none⟩))) :
    Calls Tryd.prog 84 #[.pointer (some ⟨b, 0, none⟩)] w fun e w' => e = .returned (.tuple #[]) ∧ w' = w := by
  obtain ⟨j, hj, _⟩ := Option.map_eq_some_iff.1 sizeBuilder
  go_enter Tryd.func84, Tryd.ntmps84
  go_wp2
  rw [Lib.run_neq_ptr_same w _ Tryd.underlying74 hj]
  go_wp2
  go_end0
  exact ⟨rfl, rfl⟩

set_option maxHeartbeats 1000000 in
set_option maxRecDepth 100000 in
theorem copyCheck_fresh (b : Nat) (w : World) (h0 : w.cell? ⟨b, 0, none⟩ = some (.pointer none)) (hsh : w.shape? b = some (76, 2)) (hfz : w.frozen? ⟨b, 0, none⟩ = false) :
    Calls Tryd.prog 84 #[.pointer (some ⟨b, 0, none⟩)] w fun e w' => e = .returned (.tuple #[]) ∧ w' = w.setCell ⟨b, 0, none⟩ (.pointer (some ⟨b, 0, none⟩)) := by
  obtain ⟨j, hj, hjs⟩ := Option.map_eq_some_iff.1 sizeBuilder
  go_enter Tryd.func84, Tryd.ntmps84
  go_wp2
  rw [Lib.run_to_unsafe w ⟨b, 0, none⟩ Tryd.underlying74 Tryd.underlying94 hj (by rw [hjs]; decide) hsh (Nat.zero_lt_succ 1)]
  simp only [Result.andThen]
  rw [Oper.upon_value]
  go_wp2
  rw [run_callFunc_extern Tryd.func94 (by kernel_rfl) (by kernel_rfl) (by kernel_rfl) (e := Extern.AbiNoEscape.same) (by kernel_rfl)]
  rw [Lib.run_noEscape]
  simp only [Result.andThen]
  rw [Oper.upon_value]
  go_wp2
  rw [Lib.run_from_unsafe w ⟨b, 0, none⟩ Tryd.underlying94 Tryd.underlying74 hj hsh liesBuilder]
  simp only [Result.andThen]
  rw [Oper.upon_value]
  go_wp2
  go_end0
  exact ⟨rfl, rfl⟩

theorem bld_keep {w w' : World} {B b : Nat} {l : List UInt8} (h : Bld w B b l) (hb : Below w.heap.size w w') : Bld w' B b l := by
  have key : ∀ p, Lib.BuilderAt 76 5 B b p (Lib.byteCells l) w → Lib.BuilderAt 76 5 B b p (Lib.byteCells l) w' := by
    intro p h
    have hlt := h.lt
    obtain ⟨hB, v, hbk, hown, hne⟩ := h
    exact ⟨hB, v, by rw [hb.block b hlt]; exact hbk, hown.kept (row := none) ⟨hb.os, hb.tape, hb.output, hb.size, fun k hk _ => hb.block k hk⟩ (by cases hv : v.ownBlock <;> simp), hne⟩
  rcases h with h | h
  · exact .inl (key _ h)
  · exact .inr (key _ h)
theorem bld_new (w : World) (b : Nat) (w' : World) (hb : w.heap.size ≤ b) (h : Ar w' b 76 #[.pointer none, .slice none 0 0]) : Bld w' w.heap.size b [] :=
  .inl ⟨hb, .slice none 0 0, h, World.ownsRow_nil _ _ _ _, by simp [Value.ownBlock]⟩

end Go.Proofs.YtbpdhcfmdkmoiaaDoor

namespace Go.Proofs.YtbpdhcfmdkmoiaaDoor
namespace Tx

/-! ### bytes -/
def letC (c : Int) : Bool := (decide (65 ≤ c) && decide (c ≤ 90)) || (decide (97 ≤ c) && decide (c ≤ 122))
def digC (c : Int) : Bool := decide (48 ≤ c) && decide (c ≤ 57)
def markC (c : Int) : Bool := c == 33 || c == 35 || c == 36 || c == 37 || c == 38 || c == 39 || c == 42 || c == 43 || c == 45 || c == 46 || c == 94 || c == 95 || c == 96 || c == 124 || c == 126
def tokC (c : Int) : Bool := letC c || digC c || markC c
def blkC (c : Int) : Bool := (c == 32) || (c == 9)
def valC (c : Int) : Bool := (c == 9) || (decide (32 ≤ c) && decide (c ≤ 126)) || decide (128 ≤ c)
/-- A digit's value, 16 for a byte that is none. -/
def dgt (c : Int) : Int := if digC c then c - 48 else if decide (97 ≤ c) && decide (c ≤ 102) then c - 87 else if decide (65 ≤ c) && decide (c ≤ 70) then c - 55 else 16
/-- The same, -1 for a byte that is none. -/
def dgr (c : Int) : Int := if digC c then c - 48 else if decide (97 ≤ c) && decide (c ≤ 102) then c - 87 else if decide (65 ≤ c) && decide (c ≤ 70) then c - 55 else -1

theorem dgt_bd (c : Int) : 0 ≤ dgt c ∧ dgt c ≤ 16 := by
  unfold dgt digC; simp only [Bool.and_eq_true, decide_eq_true_eq]; repeat' split
  all_goals omega
theorem dgr_dgt (c : Int) (b : Int) (hb : b ≤ 16) (h0 : 0 ≤ b) : (dgr c < 0 ∨ b ≤ dgr c ↔ b ≤ dgt c) ∧ (dgt c < b → dgr c = dgt c) := by
  unfold dgr dgt digC; simp only [Bool.and_eq_true, decide_eq_true_eq]; repeat' split
  all_goals omega

end Tx
end Go.Proofs.YtbpdhcfmdkmoiaaDoor
