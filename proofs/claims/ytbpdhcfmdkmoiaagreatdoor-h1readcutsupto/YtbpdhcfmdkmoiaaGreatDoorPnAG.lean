/-
  Arrays in blocks of their own: what is of no program: a block known whole, the operations on it, a frame.
  A frame by a predicate of blocks, and rows of one's own: what is of no program.
  Fields in memory; the document's Size, in, pseudo: by their contracts.
  The functions on one byte, each by its contract.
-/
import Derived.WalkKit
import Derived.WalkSpells
import Derived.Laws.Tables
import Derived.Laws.Rows
import Derived.Deep.MidRow
import Derived.Deep.WholeRow
import Derived.Lib.Builder
import Derived.Maps.AppendAt
import Derived.Test.YtbpdhcfmdkmoiaaGreatDoorProg
import Derived.Laws.Cover1
import Derived.Laws.OwnMore
import Derived.Great.BuildSlice
import Derived.Deep.QuietTactic
import Derived.Test.YtbpdhcfmdkmoiaaGreatDoorPnAA
namespace Go.Proofs.YtbpdhcfmdkmoiaaGreatDoor
open Go.RowKit

theorem hid {p : Prop} (h : p) : Hid p := h
theorem hid' {p : Prop} (h : p) : Hid p := h
theorem below_two {w w1 w2 : World} (h1 : Below w.heap.size w w1) (h2 : Below w1.heap.size w1 w2) : Below w.heap.size w w2 := h1.trans (h2.mono h1.size)

/-- The block is one of these cells. -/
def Ar (w : World) (b : Nat) (t : TypeId) (c : Array Value) : Prop := w.heap[b]? = some (.cells c t (0, 0))
theorem Ar.lt {w : World} {b : Nat} {t : TypeId} {c : Array Value} (h : Ar w b t c) : b < w.heap.size := (Array.getElem?_eq_some_iff.1 h).1
theorem Ar.cell {w : World} {b : Nat} {t : TypeId} {c : Array Value} (h : Ar w b t c) (i : Nat) (v : Value) (hv : c[i]? = some v) : w.cell? ⟨b, i, none⟩ = some v := by rw [Lib.cell_of_heap h]; exact hv
theorem Ar.free {w : World} {b : Nat} {t : TypeId} {c : Array Value} (h : Ar w b t c) (i : Nat) : w.frozen? ⟨b, i, none⟩ = false := Lib.frozen_of_heap h i
theorem Ar.below {B : Nat} {w w' : World} {b : Nat} {t : TypeId} {c : Array Value} (h : Ar w b t c) (hb : Below B w w') (hl : b < B) : Ar w' b t c := by
  unfold Ar at *; rw [hb.block b hl]; exact h
theorem Ar.keep {w w' : World} {b : Nat} {t : TypeId} {c : Array Value} (h : Ar w b t c) (hb : Below w.heap.size w w') : Ar w' b t c := h.below hb h.lt
theorem Ar.drew {w : World} {b : Nat} {t : TypeId} {c : Array Value} (h : Ar w b t c) : Ar w.drew b t c := h
theorem Ar.set {w : World} {b : Nat} {t : TypeId} {c : Array Value} (h : Ar w b t c) (i : Nat) (v : Value) : Ar (w.setCell ⟨b, i, none⟩ v) b t (c.setIfInBounds i v) := by
  unfold Ar at *
  simp [World.setCell, Array.getElem?_modify, h]
theorem Ar.other {w : World} {b b' : Nat} {t : TypeId} {c : Array Value} (h : Ar w b t c) (hne : b' ≠ b) (i : Nat) (v : Value) : Ar (w.setCell ⟨b', i, none⟩ v) b t c := by
  unfold Ar at *
  simp [World.setCell, Array.getElem?_modify, h, hne]

/-- A world that has turned in one block alone. -/
structure Upd (b : Nat) (w w' : World) : Prop where
  os : w'.os = w.os
  tape : w'.tape = w.tape
  output : w'.output = w.output
  size : w'.heap.size = w.heap.size
  block : ∀ k, k ≠ b → w'.heap[k]? = w.heap[k]?
theorem Upd.below {B b : Nat} {w w' : World} (h : Upd b w w') (hB : B ≤ b) : Below B w w' := ⟨h.os, h.tape, h.output, by rw [h.size]; exact Nat.le_refl _, fun k hk => h.block k (by omega)⟩
theorem Upd.keep {b b' : Nat} {w w' : World} {t : TypeId} {c : Array Value} (h : Upd b w w') (ha : Ar w b' t c) (hne : b' ≠ b) : Ar w' b' t c := by
  unfold Ar at *; rw [h.block b' hne]; exact ha
theorem upd_setCell (w : World) (b i : Nat) (v : Value) : Upd b w (w.setCell ⟨b, i, none⟩ v) :=
  ⟨rfl, rfl, rfl, by simp [World.setCell], fun k hk => Below.heap_setCell _ _ _ _ (fun e => hk e)⟩

section
variable {P : Program} {ops : Array Oper} {rest : List Oper} {o : Oper} {a : Act} {w : World} {Q : Exit → Act → World → Prop}

theorem upd_setRow (w : World) (b : Nat) (c : Array Value) : Upd b w (w.setRow b c) :=
  ⟨rfl, rfl, rfl, by simp [World.setRow], fun k hk => by simp only [World.setRow, Array.getElem?_modify]; rw [if_neg (fun e => hk e.symm)]⟩

theorem wpl_alloc (t : TypeId) (ho : o.op = .alloc t) (hgd : o.guard = none) (z : Array Value) (hz : (P.info? t).map (fun i => i.zero) = some (some (.agg z)))
    (h : ∀ b w', w.heap.size ≤ b → Ar w' b t z → Below w.heap.size w w' → wpList P ops Q rest (a.put o.dst (.pointer (some ⟨b, 0, none⟩))) w') : wpList P ops Q (o :: rest) a w := by
  refine wpList_plain hgd fun _ hK => ?_
  unfold Oper.wp execOp
  cases hq : P.info? t with
  | none => simp [hq] at hz
  | some i =>
    simp [hq] at hz
    have hzz : (zeroValue t).run P w = .ok (.agg z) w := by simp [zeroValue, typeInfo, hq, hz]
    simp only [ho, Instr.alloc, newVar, newRow, Sem.run_bind, Sem.run_pure, hzz, Result.andThen_ok, Value.cells]
    exact hK _ _ (h _ _ (Nat.le_refl _) (heap_alloc_last w _) ((Below.refl _ w).alloc (Nat.le_refl _) _))

theorem wpl_box (t : TypeId) (x : Operand) (ho : o.op = .box t x) (hgd : o.guard = none) (c : Array Value) (hx : a.eval x = .agg c)
    (h : ∀ b w', w.heap.size ≤ b → Ar w' b t c → Below w.heap.size w w' → wpList P ops Q rest (a.put o.dst (.pointer (some ⟨b, 0, none⟩))) w') : wpList P ops Q (o :: rest) a w := by
  refine wpList_plain hgd fun _ hK => ?_
  unfold Oper.wp execOp
  simp only [ho, hx, Instr.box, newVar, newRow, Sem.run_bind, Sem.run_pure, Value.cells]
  exact hK _ _ (h _ _ (Nat.le_refl _) (heap_alloc_last w _) ((Below.refl _ w).alloc (Nat.le_refl _) _))

theorem wpl_store (ty : TypeId) (x y : Operand) (ho : o.op = .store ty x y) (hgd : o.guard = none) (b : Nat) (c : Array Value) (hx : a.eval x = .pointer (some ⟨b, 0, none⟩)) (hy : a.eval y = .agg c)
    (t : TypeId) (old : Array Value) (hg : Ar w b t old) (hi : (P.info? ty).map (·.size) = some c.size)
    (hold : old.size = c.size) (h1 : c.all (·.oneCell') = true)
    (h : ∀ w', Ar w' b t c → Upd b w w' → wpList P ops Q rest (a.put o.dst undef) w') : wpList P ops Q (o :: rest) a w :=
  wpList_store_row hgd ty x y ho b c hx hy t old hg hi hold h1 (h _ (setRow_heap w b old c t (0, 0) hg) (upd_setRow w b c))
end

/-- Numbers as cells. -/
def nums (k : IntKind) (l : List Int) : Array Value := (l.map (Value.int k)).toArray
theorem nums_at {k : IntKind} {l : List Int} {i : Nat} {v : Int} (h : l[i]? = some v) : (nums k l)[i]? = some (.int k v) := by simp [nums, h]
theorem nums_set (k : IntKind) (l : List Int) (i : Nat) (v : Int) : (nums k l).setIfInBounds i (.int k v) = nums k (l.set i v) := by
  simp [nums, List.map_set]
theorem Ar.num {w : World} {b : Nat} {t : TypeId} {k : IntKind} {l : List Int} (h : Ar w b t (nums k l)) (i : Nat) (hi : i < l.length) : w.cell? ⟨b, i, none⟩ = some (.int k (l.getD i 0)) :=
  h.cell i _ (nums_at (by rw [List.getD_eq_getElem?_getD, List.getElem?_eq_getElem hi]; rfl))
theorem Ar.val {w : World} {b : Nat} {t : TypeId} {k : IntKind} {l : List Int} (h : Ar w b t (nums k l)) (i : Nat) (v : Int) (hi : l[i]? = some v) : w.cell? ⟨b, i, none⟩ = some (.int k v) :=
  h.cell i _ (nums_at hi)
theorem Ar.put {w : World} {b : Nat} {t : TypeId} {k : IntKind} {l : List Int} (h : Ar w b t (nums k l)) (i : Nat) (v : Int) : Ar (w.setCell ⟨b, i, none⟩ (.int k v)) b t (nums k (l.set i v)) := by
  rw [← nums_set]; exact h.set i _

end Go.Proofs.YtbpdhcfmdkmoiaaGreatDoor

namespace Go.Proofs.YtbpdhcfmdkmoiaaGreatDoor
open Go.RowKit

/-- All but some blocks is as it was. -/
structure LF (S : Nat → Prop) (w w' : World) : Prop where
  os : w'.os = w.os
  tape : w'.tape = w.tape
  output : w'.output = w.output
  size : w.heap.size ≤ w'.heap.size
  block : ∀ k, k < w.heap.size → ¬ S k → w'.heap[k]? = w.heap[k]?
theorem LF.refl (S : Nat → Prop) (w : World) : LF S w w := ⟨rfl, rfl, rfl, Nat.le_refl _, fun _ _ _ => rfl⟩
theorem LF.of_below {S : Nat → Prop} {w w' : World} (h : Below w.heap.size w w') : LF S w w' := ⟨h.os, h.tape, h.output, h.size, fun k hk _ => h.block k hk⟩
theorem LF.of_upd {S : Nat → Prop} {b : Nat} {w w' : World} (h : Upd b w w') (hb : S b) : LF S w w' := ⟨h.os, h.tape, h.output, by rw [h.size]; exact Nat.le_refl _, fun k _ hs => h.block k (fun e => hs (e ▸ hb))⟩
theorem LF.of_grown {S : Nat → Prop} {row : Option Nat} {w w' : World} (h : w.grownBy w' row) (hr : ∀ k, row = some k → S k) : LF S w w' := ⟨h.os, h.tape, h.output, h.size, fun k hk hs => h.block k hk (fun e => hs (hr k e.symm))⟩
theorem LF.trans {S S' : Nat → Prop} {w w1 w2 : World} (h1 : LF S w w1) (h2 : LF S' w1 w2) (hs : ∀ k, k < w.heap.size → S' k → S k) : LF S w w2 :=
  ⟨h2.os.trans h1.os, h2.tape.trans h1.tape, h2.output.trans h1.output, Nat.le_trans h1.size h2.size, fun k hk hn => (h2.block k (Nat.lt_of_lt_of_le hk h1.size) (fun h => hn (hs k hk h))).trans (h1.block k hk hn)⟩
theorem LF.below {S : Nat → Prop} {w w' : World} {B : Nat} (h : LF S w w') (hB : B ≤ w.heap.size) (hs : ∀ k, S k → B ≤ k) : Below B w w' :=
  ⟨h.os, h.tape, h.output, h.size, fun k hk => h.block k (by omega) (fun hS => by have := hs k hS; omega)⟩
theorem LF.ar {S : Nat → Prop} {w w' : World} {k : Nat} {T : TypeId} {c : Array Value} (h : LF S w w') (ha : Ar w k T c) (hs : ¬ S k) : Ar w' k T c := by
  unfold Ar at *; rw [h.block k (Array.getElem?_eq_some_iff.1 ha).1 hs]; exact ha

theorem own_ty {w : World} {B : Nat} {e : TypeId} {s : Nat} {v : Value} {n : Nat} {xs : List Value} (h : w.ownsRow B e s v n xs) : ∀ k, v.ownBlock = some k → B ≤ k ∧ ∃ cs, w.heap[k]? = some (.cells cs e (0, 0)) := by
  intro k hk
  rcases h.2 with ⟨rfl, _⟩ | ⟨g, cap, cur, rfl, h1, h3, _⟩
  · simp [Value.ownBlock] at hk
  · simp [Value.ownBlock] at hk
    subst hk
    exact ⟨h1, _, h3⟩
theorem own_apart {w : World} {B : Nat} {e T : TypeId} {s : Nat} {v : Value} {n : Nat} {xs : List Value} {b : Nat} {c : Array Value} (h : w.ownsRow B e s v n xs) (ha : Ar w b T c) (hne : T ≠ e) : ∀ k, v.ownBlock = some k → k ≠ b := by
  intro k hk e'
  subst e'
  obtain ⟨_, cs, h3⟩ := own_ty h k hk
  unfold Ar at ha
  rw [ha] at h3
  injection h3 with h3
  injection h3 with _ h4 _
  exact hne h4
theorem own_own {w : World} {B B' : Nat} {e e' : TypeId} {s s' : Nat} {v v' : Value} {n n' : Nat} {xs xs' : List Value} (h : w.ownsRow B e s v n xs) (h' : w.ownsRow B' e' s' v' n' xs') (hne : e ≠ e') : ∀ k, v.ownBlock = some k → some k ≠ v'.ownBlock := by
  intro k hk hk'
  obtain ⟨_, cs, h1⟩ := own_ty h k hk
  obtain ⟨_, cs', h2⟩ := own_ty h' k hk'.symm
  rw [h1] at h2
  injection h2 with h2
  injection h2 with _ h3 _
  exact hne h3
theorem own_same {w w' : World} {B : Nat} {e : TypeId} {s : Nat} {v : Value} {n : Nat} {xs : List Value} (h : w.ownsRow B e s v n xs) (hb : ∀ k, v.ownBlock = some k → w'.heap[k]? = w.heap[k]?) : w'.ownsRow B e s v n xs := by
  refine ⟨h.1, ?_⟩
  rcases h.2 with h2 | ⟨g, cap, cur, h1, h2, h3, h4⟩
  · exact .inl h2
  · exact .inr ⟨g, cap, cur, h1, h2, (hb g (by rw [h1]; rfl)).trans h3, h4⟩
theorem ar_grown {w w' : World} {b : Nat} {T : TypeId} {c : Array Value} {row : Option Nat} (h : Ar w b T c) (hg : w.grownBy w' row) (hn : ∀ k, row = some k → k ≠ b) : Ar w' b T c := by
  unfold Ar at *
  rw [hg.block b (Array.getElem?_eq_some_iff.1 h).1 (fun e => hn b e.symm rfl)]
  exact h
theorem own_grown {w w' : World} {B : Nat} {e : TypeId} {s : Nat} {v : Value} {n : Nat} {xs : List Value} {row : Option Nat} (h : w.ownsRow B e s v n xs) (hg : w.grownBy w' row) (hn : ∀ k, v.ownBlock = some k → some k ≠ row) : w'.ownsRow B e s v n xs :=
  own_same h (fun k hk => hg.block k (by obtain ⟨_, _, h1⟩ := own_ty h k hk; exact (Array.getElem?_eq_some_iff.1 h1).1) (hn k hk))
theorem own_lt {w : World} {B : Nat} {e : TypeId} {s : Nat} {v : Value} {n : Nat} {xs : List Value} (h : w.ownsRow B e s v n xs) : ∀ k, v.ownBlock = some k → k < w.heap.size := fun k hk => by
  obtain ⟨_, _, h1⟩ := own_ty h k hk
  exact (Array.getElem?_eq_some_iff.1 h1).1

end Go.Proofs.YtbpdhcfmdkmoiaaGreatDoor

namespace Go.Proofs.YtbpdhcfmdkmoiaaGreatDoor
open Go.RowKit

def fV (f : Fd) : List Value := [.string f.n, .string f.v]
def fC (l : List Fd) : List Value := l.flatMap fV
theorem fC_append (l m : List Fd) : fC (l ++ m) = fC l ++ fC m := by simp [fC]
theorem f_at (l : List Fd) (i : Nat) (p : Fd) (h : l[i]? = some p) : ∀ j, j < 2 → (fC l)[i * 2 + j]? = (fV p)[j]? := by
  induction l generalizing i with
  | nil => simp at h
  | cons a r ih =>
    intro j hj
    rw [show fC (a :: r) = fV a ++ fC r from rfl]
    cases i with
    | zero => simp at h; subst h; rw [List.getElem?_append_left (by simp [fV]; omega)]; congr 1; omega
    | succ i =>
      rw [List.getElem?_append_right (by simp [fV]; omega), show (i + 1) * 2 + j - (fV a).length = i * 2 + j by simp [fV]; omega]
      exact ih i (by simpa using h) j hj
/-- Fields that can be read, wherever they lie. -/
def FW (w : World) (v : Value) (l : List Fd) : Prop :=
  (v = .slice none 0 0 ∧ l = []) ∨ ∃ a cap, v = .slice (some a) l.length cap ∧ l.length ≤ cap ∧ ∀ j u, (fC l)[j]? = some u → (a.add j).block < w.heap.size ∧ w.cell? (a.add j) = some u
theorem FW.keep {w w' : World} {v : Value} {l : List Fd} (h : FW w v l) (hb : Below w.heap.size w w') : FW w' v l := by
  rcases h with h | ⟨a, cap, hv, hcp, hc⟩
  · exact .inl h
  · exact .inr ⟨a, cap, hv, hcp, fun j u hj => ⟨Nat.lt_of_lt_of_le (hc j u hj).1 hb.size, (hb.cell (hc j u hj).1).trans (hc j u hj).2⟩⟩
theorem FW.below {B : Nat} {w w' : World} {v : Value} {l : List Fd} (h : FW w v l) (hb : Below B w w') (hB : w.heap.size ≤ B) : FW w' v l := h.keep (hb.mono hB)
theorem FW.shape {w : World} {v : Value} {l : List Fd} (h : FW w v l) : ∃ ao cap, v = .slice ao l.length cap := by
  rcases h with ⟨h, rfl⟩ | ⟨a, cap, h, _⟩
  · exact ⟨none, 0, h⟩
  · exact ⟨some a, cap, h⟩
theorem FW.two {w : World} {ao : Option Addr} {n cap : Nat} {l : List Fd} (h : FW w (.slice ao n cap) l) (i : Nat) (p : Fd) (hp : l[i]? = some p) : ∃ a, ao = some a ∧ w.cell? (a.add (i * 2)) = some (.string p.n) ∧ w.cell? ⟨(a.add (i * 2)).block, (a.add (i * 2)).off + 1, none⟩ = some (.string p.v) := by
  rcases h with ⟨_, rfl⟩ | ⟨a, cap', hv, hcp, hc⟩
  · simp at hp
  · injection hv with h1 _ _
    have key : ∀ j u, j < 2 → (fV p)[j]? = some u → w.cell? (a.add (i * 2 + j)) = some u := fun j u hj hu => (hc _ _ ((f_at l i p hp j hj).trans hu)).2
    have k0 := key 0 _ (by omega) rfl
    have k1 := key 1 _ (by omega) rfl
    rw [← Addr.add_add] at k0 k1
    refine ⟨a, h1, ?_, ?_⟩
    · simpa [Addr.add] using k0
    · simpa [Addr.add] using k1
theorem FW.cap {w : World} {a : Addr} {n cap : Nat} {l : List Fd} (h : FW w (.slice (some a) n cap) l) : l.length ≤ cap := by
  rcases h with ⟨h, _⟩ | ⟨a', cap', hv, hcp, _⟩
  · cases h
  · injection hv with _ _ h3
    rw [h3]; exact hcp
theorem fC_take (l : List Fd) (i : Nat) : fC (l.take i) = (fC l).take (i * 2) := by
  induction l generalizing i with
  | nil => simp [fC]
  | cons a r ih =>
    cases i with
    | zero => simp [fC]
    | succ i =>
      have : (i + 1) * 2 = (fV a).length + i * 2 := by simp [fV]; omega
      rw [List.take_succ_cons, show fC (a :: r.take i) = fV a ++ fC (r.take i) from rfl, show fC (a :: r) = fV a ++ fC r from rfl, ih, this, List.take_append, List.take_of_length_le (l := fV a) (by omega), Nat.add_sub_cancel_left]
theorem FW.take {w : World} {a : Addr} {n cap : Nat} {l : List Fd} (h : FW w (.slice (some a) n cap) l) {k : Nat} (hk : k ≤ l.length) : FW w (.slice (some a) k cap) (l.take k) := by
  rcases h with ⟨h, _⟩ | ⟨a', cap', hv, hcp, hc⟩
  · cases h
  · injection hv with h1 _ h3
    injection h1 with h1
    subst h1 h3
    refine .inr ⟨a, cap, by rw [List.length_take, Nat.min_eq_left hk], by rw [List.length_take]; omega, fun j u hj => hc j u ?_⟩
    rw [fC_take, List.getElem?_take] at hj
    split at hj
    · exact hj
    · cases hj
theorem FW.of_own {w : World} {B : Nat} {e : TypeId} {v : Value} {l : List Fd} (h : w.ownsRow B e 2 v l.length (fC l)) : FW w v l := by
  rcases h.2 with ⟨hv, hn⟩ | ⟨g, cap, cur, hv, _, h3, h4, _⟩
  · exact .inl ⟨hv, List.eq_nil_of_length_eq_zero hn⟩
  · refine .inr ⟨⟨g, 0, none⟩, cap, hv, h4, fun j u hj => ⟨?_, ?_⟩⟩
    · have := (Array.getElem?_eq_some_iff.1 h3).1
      unfold Addr.add
      split <;> exact this
    · exact h.cells (g := g) (by rw [hv]; rfl) j u hj

end Go.Proofs.YtbpdhcfmdkmoiaaGreatDoor

namespace Go.Proofs.YtbpdhcfmdkmoiaaGreatDoor
open Go.RowKit

theorem ret_bool {a b : Bool} (h : a = b) : Ending.returned (.bool a) = .returned (.bool b) := by rw [h]
theorem ret_int {k : IntKind} {a b : Int} (h : a = b) : Ending.returned (.int k a) = .returned (.int k b) := by rw [h]

set_option maxHeartbeats 400000 in
theorem isLetter_any (c : Int) (w : World) : Calls Tryz.prog 49 #[.int .u8 c] w fun e w' => e = .returned (.bool (Tx.letC c)) ∧ w' = w := by
  go_enter Tryz.func49, Tryz.ntmps49
  go_wp2
  all_goals go_ret
  all_goals exact ⟨ret_bool (by rw [Bool.eq_iff_iff]; simp [Tx.letC]; omega), rfl⟩

set_option maxHeartbeats 400000 in
theorem isDigit_any (c : Int) (w : World) : Calls Tryz.prog 50 #[.int .u8 c] w fun e w' => e = .returned (.bool (Tx.digC c)) ∧ w' = w := by
  go_enter Tryz.func50, Tryz.ntmps50
  go_wp2
  all_goals go_ret
  all_goals exact ⟨ret_bool (by rw [Bool.eq_iff_iff]; simp [Tx.digC]; omega), rfl⟩

set_option maxHeartbeats 400000 in
theorem isBlank_any (c : Int) (w : World) : Calls Tryz.prog 105 #[.int .u8 c] w fun e w' => e = .returned (.bool (Tx.blkC c)) ∧ w' = w := by
  go_enter Tryz.func105, Tryz.ntmps105
  go_wp2
  all_goals go_ret
  all_goals exact ⟨ret_bool (by rw [Bool.eq_iff_iff]; simp [Tx.blkC]; try omega), rfl⟩

set_option maxHeartbeats 400000 in
theorem isValueByte_any (c : Int) (w : World) : Calls Tryz.prog 106 #[.int .u8 c] w fun e w' => e = .returned (.bool (Tx.valC c)) ∧ w' = w := by
  go_enter Tryz.func106, Tryz.ntmps106
  go_wp2
  all_goals go_ret
  all_goals exact ⟨ret_bool (by rw [Bool.eq_iff_iff]; simp [Tx.valC]; omega), rfl⟩

set_option maxHeartbeats 1000000 in
theorem digit_any (c : Int) (h0 : 0 ≤ c) (h1 : c ≤ 255) (w : World) : Calls Tryz.prog 126 #[.int .u8 c] w fun e w' => e = .returned (.int .i64 (Tx.dgt c)) ∧ w' = w := by
  go_enter Tryz.func126, Tryz.ntmps126
  go_wp2
  all_goals go_ret
  all_goals exact ⟨ret_int (by simp [Tx.dgt, Tx.digC]; repeat' split; all_goals omega), rfl⟩

end Go.Proofs.YtbpdhcfmdkmoiaaGreatDoor
