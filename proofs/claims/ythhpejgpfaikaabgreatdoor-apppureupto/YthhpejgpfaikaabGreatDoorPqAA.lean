/-
  What the row stands on.
-/
import Derived.WalkKit
import Derived.Lib.Strings
import Derived.WalkSpells
import Derived.Laws.Tables
import Derived.Laws.Rows
import Derived.Deep.MidRow
import Derived.Deep.WholeRow
import Derived.Lib.Builder
import Derived.Maps.AppendAt
import Derived.Test.YthhpejgpfaikaabGreatDoorProg
import Derived.Laws.Cover1
import Derived.Laws.OwnMore
import Derived.Great.BuildSlice
import Derived.Deep.QuietTactic
import Derived.Test.YthhpejgpfaikaabGreatDoorShelfP
namespace Go.Proofs.YthhpejgpfaikaabGreatDoor
set_option maxHeartbeats 64000000
namespace Tx

def letC (c : Int) : Bool := (decide (65 ≤ c) && decide (c ≤ 90)) || (decide (97 ≤ c) && decide (c ≤ 122))
def digC (c : Int) : Bool := decide (48 ≤ c) && decide (c ≤ 57)
def markC (c : Int) : Bool := c == 33 || c == 35 || c == 36 || c == 37 || c == 38 || c == 39 || c == 42 || c == 43 || c == 45 || c == 46 || c == 94 || c == 95 || c == 96 || c == 124 || c == 126
def tokC (c : Int) : Bool := letC c || digC c || markC c
def blkC (c : Int) : Bool := (c == 32) || (c == 9)
def valC (c : Int) : Bool := (c == 9) || (decide (32 ≤ c) && decide (c ≤ 126)) || decide (128 ≤ c)
def dgt (c : Int) : Int := if digC c then c - 48 else if decide (97 ≤ c) && decide (c ≤ 102) then c - 87 else if decide (65 ≤ c) && decide (c ≤ 70) then c - 55 else 16
def dgr (c : Int) : Int := if digC c then c - 48 else if decide (97 ≤ c) && decide (c ≤ 102) then c - 87 else if decide (65 ≤ c) && decide (c ≤ 70) then c - 55 else -1

theorem dgt_bd (c : Int) : 0 ≤ dgt c ∧ dgt c ≤ 16 := by
 unfold dgt digC; simp only [Bool.and_eq_true, decide_eq_true_eq]; repeat' split
 all_goals omega

end Tx

namespace Tx

def allC (f : Int → Bool) (l : List UInt8) : Bool := l.all fun c => f (c.toNat : Int)
theorem take_snoc (s : ByteArray) (k : Nat) (h : k < s.size) : s.data.toList.take (k + 1) = s.data.toList.take k ++ [s[k]] := by
 rw [List.take_succ_eq_append_getElem (by simpa using h)]; rfl
theorem allC_snoc (f : Int → Bool) (s : ByteArray) (k : Nat) (h : k < s.size) : allC f (s.data.toList.take (k + 1)) = (allC f (s.data.toList.take k) && f (s[k].toNat : Int)) := by
 rw [take_snoc s k h]; simp [allC]
theorem allC_no (f : Int → Bool) (s : ByteArray) (k : Nat) (h : k < s.size) (hf : f (s[k].toNat : Int) = false) : allC f s.data.toList = false := by
  unfold allC
  rw [List.all_eq_false]
  exact ⟨s[k], by have : s[k] = s.data.toList[k]'(by simpa using h) := rfl
                  rw [this]; exact List.getElem_mem _, by simp [hf]⟩
theorem allC_all (f : Int → Bool) (s : ByteArray) (k : Nat) (h : s.size ≤ k) (ha : allC f (s.data.toList.take k) = true) : allC f s.data.toList = true := by
 rwa [List.take_of_length_le (by simpa using h)] at ha

def isTok (l : List UInt8) : Bool := allC tokC l && !l.isEmpty
theorem isTok_no (s : ByteArray) (k : Nat) (h : k < s.size) (hf : tokC (s[k].toNat : Int) = false) : isTok s.data.toList = false := by
 unfold isTok; rw [allC_no tokC s k h hf]; rfl
theorem isTok_all (s : ByteArray) (k : Nat) (h : s.size ≤ k) (ha : allC tokC (s.data.toList.take k) = true) : isTok s.data.toList = !s.data.toList.isEmpty := by
 unfold isTok; rw [allC_all tokC s k h ha]; rfl

def blkB (c : UInt8) : Bool := blkC (c.toNat : Int)
def trimL (l : List UInt8) : List UInt8 := l.dropWhile blkB
def trimR (l : List UInt8) : List UInt8 := (l.reverse.dropWhile blkB).reverse
def trim (l : List UInt8) : List UInt8 := trimR (trimL l)

theorem dw_skip (a b : List UInt8) (h : ∀ x ∈ a, blkB x = true) : (a ++ b).dropWhile blkB = b.dropWhile blkB := by
 induction a with
 | nil => rfl
 | cons x a ih =>
  rw [List.cons_append, List.dropWhile_cons, h x (List.mem_cons_self ..)];exact ih fun y hy => h y (List.mem_cons_of_mem _ hy)
theorem trimL_skip (a b : List UInt8) (h : ∀ x ∈ a, blkB x = true) : trimL (a ++ b) = trimL b := dw_skip a b h
theorem trimR_skip (a b : List UInt8) (h : ∀ x ∈ b, blkB x = true) : trimR (a ++ b) = trimR a := by
 unfold trimR;rw [List.reverse_append, dw_skip _ _ fun x hx => h x (List.mem_reverse.1 hx)]
theorem dw_stop (l : List UInt8) (h : ∀ x, l.head? = some x → blkB x = false) : l.dropWhile blkB = l := by
 cases l with
 | nil => rfl
 | cons x l => rw [List.dropWhile_cons, h x rfl]; rfl
theorem trimL_stop (l : List UInt8) (h : ∀ x, l.head? = some x → blkB x = false) : trimL l = l := dw_stop l h
theorem trimR_stop (l : List UInt8) (h : ∀ x, l.getLast? = some x → blkB x = false) : trimR l = l := by
 unfold trimR;rw [dw_stop _ fun x hx => h x (by rwa [List.head?_reverse] at hx), List.reverse_reverse]
theorem dw_head (l : List UInt8) : ∀ x, (l.dropWhile blkB).head? = some x → blkB x = false := by
 induction l with
 | nil => intro x h; simp at h
 | cons y l ih =>
  intro x h;rw [List.dropWhile_cons] at h;by_cases hy : blkB y = true
  ·rw [if_pos hy] at h; exact ih x h
  ·rw [if_neg hy] at h; simp only [List.head?_cons, Option.some.injEq] at h; subst h; simpa using hy
theorem dw_suffix (l : List UInt8) : ∃ a, l = a ++ l.dropWhile blkB ∧ ∀ x ∈ a, blkB x = true := by
  induction l with
  | nil => exact ⟨[], rfl, fun x h => by simp at h⟩
  | cons y l ih =>
    rw [List.dropWhile_cons]
    split
    · obtain ⟨a, ha, hb⟩ := ih
      exact ⟨y :: a, by rw [List.cons_append, ← ha], fun x hx => by rcases List.mem_cons.1 hx with rfl | hx; · assumption
                                                                    · exact hb x hx⟩
    · exact ⟨[], rfl, fun x h => by simp at h⟩
theorem trim_parts (l : List UInt8) : ∃ a b, l = a ++ trim l ++ b ∧ (∀ x ∈ a, blkB x = true) ∧ (∀ x ∈ b, blkB x = true) := by
 obtain ⟨a, ha, hb⟩ := dw_suffix l;obtain ⟨c, hc, hd⟩ := dw_suffix (l.dropWhile blkB).reverse;refine ⟨a, c.reverse, ?_, hb, fun x hx => hd x (List.mem_reverse.1 hx)⟩;have e : l.dropWhile blkB = trim l ++ c.reverse := by
  have := congrArg List.reverse hc;rw [List.reverse_reverse, List.reverse_append] at this;exact this
 rw [List.append_assoc, ← e]; exact ha
theorem trim_last (l : List UInt8) : ∀ x, (trim l).getLast? = some x → blkB x = false := by
 intro x h;unfold trim trimR at h;rw [List.getLast?_reverse] at h;exact dw_head _ x h
theorem trim_head (l : List UInt8) : ∀ x, (trim l).head? = some x → blkB x = false := by
 intro x h;obtain ⟨c, hc, _⟩ := dw_suffix (l.dropWhile blkB).reverse;have e : l.dropWhile blkB = trim l ++ c.reverse := by
  have := congrArg List.reverse hc;rw [List.reverse_reverse, List.reverse_append] at this;exact this
 refine dw_head l x ?_;rw [e];cases ht : trim l with
 | nil => rw [ht] at h; simp at h
 | cons y t => rw [ht] at h; simpa using h
theorem trim_trim (l : List UInt8) : trim (trim l) = trim l := by
 show trimR (trimL (trim l)) = trim l;rw [trimL_stop _ (trim_head l), trimR_stop _ (trim_last l)]
theorem trim_le (l : List UInt8) : (trim l).length ≤ l.length := by
 obtain ⟨a, b, h, _, _⟩ := trim_parts l;have := congrArg List.length h;simp only [List.length_append] at this; omega
theorem trim_of (l : List UInt8) (k m : Nat) (km : k ≤ m) (hml : m ≤ l.length) (hk : ∀ x ∈ l.take k, blkB x = true) (hm : ∀ x ∈ l.drop m, blkB x = true)
  (h1 : ∀ x, k < m → l[k]? = some x → blkB x = false) (h2 : ∀ x, k < m → l[m - 1]? = some x → blkB x = false) : (l.drop k).take (m - k) = trim l := by
 have e1 : trimL l = trimL (l.drop k) := by
  conv => lhs; rw [← List.take_append_drop k l]
  exact trimL_skip _ _ hk
 have e2 : l.drop k = (l.drop k).take (m - k) ++ l.drop m := by
  conv => lhs; rw [← List.take_append_drop (m - k) (l.drop k)]
  rw [List.drop_drop, show k + (m - k) = m by omega]
 unfold trim;rw [e1];by_cases hkm : k = m
 ·subst hkm;rw [show trimL (l.drop k) = [] from by have := trimL_skip (l.drop k) [] hm; rw [List.append_nil] at this; rw [this]; rfl];simp [trimR]
 ·have e3 : trimL (l.drop k) = l.drop k := trimL_stop _ fun x hx => h1 x (by omega) (by rwa [List.head?_drop] at hx);rw [e3]
  conv => rhs; rw [e2, trimR_skip _ _ hm]
  refine (trimR_stop _ fun x hx => h2 x (by omega) ?_).symm;rw [List.getLast?_eq_getElem?, List.length_take, List.length_drop, List.getElem?_take, List.getElem?_drop] at hx;rw [show min (m - k) (l.length - k) - 1 = m - k - 1 by omega] at hx;rw [if_pos (by omega), show k + (m - k - 1) = m - 1 by omega] at hx;exact hx

theorem get_byte (s : ByteArray) (k : Nat) (h : k < s.size) : s.data.toList[k]? = some s[k] := by
 rw [List.getElem?_eq_getElem (by simpa using h)]; rfl
theorem blk_snoc (s : ByteArray) (k : Nat) (h : k < s.size) (ha : ∀ x ∈ s.data.toList.take k, blkB x = true) (hb : blkC (s[k].toNat : Int) = true) : ∀ x ∈ s.data.toList.take (k + 1), blkB x = true := by
 rw [take_snoc s k h];intro x hx;rcases List.mem_append.1 hx with hx | hx
 ·exact ha x hx
 ·simp only [List.mem_singleton] at hx; subst hx; exact hb
theorem blk_pre (s : ByteArray) (k : Nat) (h : k < s.size) (ha : ∀ x ∈ s.data.toList.drop (k + 1), blkB x = true) (hb : blkC (s[k].toNat : Int) = true) : ∀ x ∈ s.data.toList.drop k, blkB x = true := by
 rw [List.drop_eq_getElem_cons (by simpa using h)];intro x hx;rcases List.mem_cons.1 hx with hx | hx
 ·subst hx; exact hb
 ·exact ha x hx
theorem drop_all (s : ByteArray) : ∀ x ∈ s.data.toList.drop s.size, blkB x = true := by
 intro x hx; rw [List.drop_eq_nil_of_le (by rw [← Lib.size_eq]; exact Nat.le_refl _)] at hx; cases hx
def strLen : Value → Nat
 | .string t => t.size
 | _ => 0
theorem trim_cut (s : ByteArray) (k m : Nat) (km : k ≤ m) (hml : m ≤ s.size) (hk : ∀ x ∈ s.data.toList.take k, blkB x = true) (hm : ∀ x ∈ s.data.toList.drop m, blkB x = true)
  (h1 : ∀ x, s.data.toList[k]? = some x → blkB x = false) (h2 : ∀ x, k < m → s.data.toList[m - 1]? = some x → blkB x = false) : s.extract k m = ⟨(trim s.data.toList).toArray⟩ := by
 rw [Lib.extract_eq, trim_of s.data.toList k m km (by rw [← Lib.size_eq]; exact hml) hk hm (fun x _ => h1 x) h2]

def isVal (l : List UInt8) : Bool := allC valC l && decide ((trim l).length = l.length)

def lowC (c : UInt8) : UInt8 := if 65 ≤ c.toNat ∧ c.toNat ≤ 90 then UInt8.ofNat (c.toNat + 32) else c
def lower (l : List UInt8) : List UInt8 := l.map lowC

end Tx

structure Fd where
 n : ByteArray
 v : ByteArray
namespace Ms
abbrev T8 := List UInt8
def conns : List T8 := [[99, 111, 110, 110, 101, 99, 116, 105, 111, 110], [107, 101, 101, 112, 45, 97, 108, 105, 118, 101], [112, 114, 111, 120, 121, 45, 99, 111, 110, 110, 101, 99, 116, 105, 111, 110], [116, 114, 97, 110, 115, 102, 101, 114, 45, 101, 110, 99, 111, 100, 105, 110, 103], [117, 112, 103, 114, 97, 100, 101]]
def sOptions : T8 := [79, 80, 84, 73, 79, 78, 83]
def tx (b : ByteArray) : T8 := b.data.toList
def lo (b : ByteArray) : T8 := Tx.lower b.data.toList
def bnd (b : ByteArray) : Bool := conns.contains (lo b)
def wt (f : Fd) : Nat := 32 + f.n.size + f.v.size
def size (l : List Fd) : Nat := (l.map wt).sum
def plain (f : Fd) : Bool := Tx.isTok (tx f.n) && (lo f.n == tx f.n) && Tx.isVal (tx f.v) && !bnd f.n
def okc (c : UInt8) : Bool := decide (33 ≤ c.toNat) && decide (c.toNat ≤ 126) && !(c == 35)
def goes (m p : ByteArray) : Bool := if tx p == [42] then tx m == sOptions else (tx p).head? == some 47 && (tx p).all okc
def dec (b : ByteArray) : Bool := !(tx b == []) && decide (b.size ≤ 15) && !(((tx b).head? == some 48) && decide (1 < b.size)) && (tx b).all fun c => decide (48 ≤ c.toNat) && decide (c.toNat ≤ 57)
end Ms

open Go.RowKit

theorem hid {p : Prop} (h : p) : Hid p := h
theorem hid' {p : Prop} (h : p) : Hid p := h
theorem below_two {w w1 w2 : World} (h1 : Below w.heap.size w w1) (h2 : Below w1.heap.size w1 w2) : Below w.heap.size w w2 := h1.trans (h2.mono h1.size)
theorem below_from {B : Nat} {w w1 w2 : World} (h1 : Below B w w1) (h2 : Below w1.heap.size w1 w2) (hB : B ≤ w1.heap.size) : Below B w w2 := h1.trans (h2.mono hB)

def Ar (w : World) (b : Nat) (t : TypeId) (c : Array Value) : Prop := w.heap[b]? = some (.cells c t (0, 0))
theorem Ar.lt {w : World} {b : Nat} {t : TypeId} {c : Array Value} (h : Ar w b t c) : b < w.heap.size := (Array.getElem?_eq_some_iff.1 h).1
theorem Ar.cell {w : World} {b : Nat} {t : TypeId} {c : Array Value} (h : Ar w b t c) (i : Nat) (v : Value) (hv : c[i]? = some v) : w.cell? ⟨b, i, none⟩ = some v := by rw [Lib.cell_of_heap h]; exact hv
theorem Ar.free {w : World} {b : Nat} {t : TypeId} {c : Array Value} (h : Ar w b t c) (i : Nat) : w.frozen? ⟨b, i, none⟩ = false := Lib.frozen_of_heap h i
theorem Ar.below {B : Nat} {w w' : World} {b : Nat} {t : TypeId} {c : Array Value} (h : Ar w b t c) (hb : Below B w w') (hl : b < B) : Ar w' b t c := by
 unfold Ar at *; rw [hb.block b hl]; exact h
theorem Ar.keep {w w' : World} {b : Nat} {t : TypeId} {c : Array Value} (h : Ar w b t c) (hb : Below w.heap.size w w') : Ar w' b t c := h.below hb h.lt
theorem Ar.drew {w : World} {b : Nat} {t : TypeId} {c : Array Value} (h : Ar w b t c) : Ar w.drew b t c := h
theorem Ar.set {w : World} {b : Nat} {t : TypeId} {c : Array Value} (h : Ar w b t c) (i : Nat) (v : Value) : Ar (w.setCell ⟨b, i, none⟩ v) b t (c.setIfInBounds i v) := by
 unfold Ar at *;simp [World.setCell, Array.getElem?_modify, h]
theorem Ar.other {w : World} {b b' : Nat} {t : TypeId} {c : Array Value} (h : Ar w b t c) (hne : b' ≠ b) (i : Nat) (v : Value) : Ar (w.setCell ⟨b', i, none⟩ v) b t c := by
 unfold Ar at *;simp [World.setCell, Array.getElem?_modify, h, hne]

structure Upd (b : Nat) (w w' : World) : Prop where
 os : w'.os = w.os
 tape : w'.tape = w.tape
 output : w'.output = w.output
 size : w'.heap.size = w.heap.size
 block : ∀ k, k ≠ b → w'.heap[k]? = w.heap[k]?
theorem Upd.below {B b : Nat} {w w' : World} (h : Upd b w w') (hB : B ≤ b) : Below B w w' := ⟨h.os, h.tape, h.output, by rw [h.size]; exact Nat.le_refl _, fun k hk => h.block k (by omega)⟩
theorem Upd.keep {b b' : Nat} {w w' : World} {t : TypeId} {c : Array Value} (h : Upd b w w') (ha : Ar w b' t c) (hne : b' ≠ b) : Ar w' b' t c := by
 unfold Ar at *; rw [h.block b' hne]; exact ha
theorem upd_setCell (w : World) (b i : Nat) (v : Value) : Upd b w (w.setCell ⟨b, i, none⟩ v) :=
 ⟨rfl, rfl, rfl, by simp [World.setCell], fun k hk => Below.heap_setCell _ _ _ _ (fun e => hk e)⟩

section
variable {P : Program} {ops : Array Oper} {rest : List Oper} {o : Oper} {a : Act} {w : World} {Q : Exit → Act → World → Prop}

theorem upd_setRow (w : World) (b : Nat) (c : Array Value) : Upd b w (w.setRow b c) :=
 ⟨rfl, rfl, rfl, by simp [World.setRow], fun k hk => by simp only [World.setRow, Array.getElem?_modify]; rw [if_neg (fun e => hk e.symm)]⟩

theorem wpl_alloc (t : TypeId) (ho : o.op = .alloc t) (hgd : o.guard = none) (z : Array Value) (hz : (P.info? t).map (fun i => i.zero) = some (some (.agg z)))
  (h : ∀ b w', w.heap.size ≤ b → Ar w' b t z → Below w.heap.size w w' → wpList P ops Q rest (a.put o.dst (.pointer (some ⟨b, 0, none⟩))) w') : wpList P ops Q (o :: rest) a w := by
 refine wpList_plain hgd fun _ hK => ?_;unfold Oper.wp execOp;cases hq : P.info? t with
 | none => simp [hq] at hz
 | some i =>
  simp [hq] at hz;have hzz : (zeroValue t).run P w = .ok (.agg z) w := by simp [zeroValue, typeInfo, hq, hz]
  simp only [ho, Instr.alloc, newVar, newRow, Sem.run_bind, Sem.run_pure, hzz, Result.andThen_ok, Value.cells];exact hK _ _ (h _ _ (Nat.le_refl _) (heap_alloc_last w _) ((Below.refl _ w).alloc (Nat.le_refl _) _))

theorem wpl_box (t : TypeId) (x : Operand) (ho : o.op = .box t x) (hgd : o.guard = none) (c : Array Value) (hx : a.eval x = .agg c)
  (h : ∀ b w', w.heap.size ≤ b → Ar w' b t c → Below w.heap.size w w' → wpList P ops Q rest (a.put o.dst (.pointer (some ⟨b, 0, none⟩))) w') : wpList P ops Q (o :: rest) a w := by
 refine wpList_plain hgd fun _ hK => ?_;unfold Oper.wp execOp;simp only [ho, hx, Instr.box, newVar, newRow, Sem.run_bind, Sem.run_pure, Value.cells];exact hK _ _ (h _ _ (Nat.le_refl _) (heap_alloc_last w _) ((Below.refl _ w).alloc (Nat.le_refl _) _))

theorem wpl_load (ty : TypeId) (x : Operand) (ho : o.op = .load ty x) (hgd : o.guard = none) (b : Nat) (hx : a.eval x = .pointer (some ⟨b, 0, none⟩)) (t : TypeId) (c : Array Value) (hc : Ar w b t c)
  (d : TypeDesc) (hu : P.underlying ty = some d) (hd : d.isRow = true) (hi : (P.info? ty).map (·.size) = some c.size)
  (h : wpList P ops Q rest (a.put o.dst (.agg c)) w) : wpList P ops Q (o :: rest) a w := by
 refine wpList_load_mid hgd ty x ho b 0 hx c.toList d ?_ hu hd (by simpa using hi) (by simpa using h);intro j v hv;rw [Nat.zero_add, Lib.cell_of_heap hc]; simpa using hv

theorem wpl_store (ty : TypeId) (x y : Operand) (ho : o.op = .store ty x y) (hgd : o.guard = none) (b : Nat) (c : Array Value) (hx : a.eval x = .pointer (some ⟨b, 0, none⟩)) (hy : a.eval y = .agg c)
  (t : TypeId) (old : Array Value) (hg : Ar w b t old) (hi : (P.info? ty).map (·.size) = some c.size)
  (hold : old.size = c.size) (h1 : c.all (·.oneCell') = true)
  (h : ∀ w', Ar w' b t c → Upd b w w' → wpList P ops Q rest (a.put o.dst undef) w') : wpList P ops Q (o :: rest) a w :=
 wpList_store_row hgd ty x y ho b c hx hy t old hg hi hold h1 (h _ (setRow_heap w b old c t (0, 0) hg) (upd_setRow w b c))
end

def nums (k : IntKind) (l : List Int) : Array Value := (l.map (Value.int k)).toArray
theorem nums_at {k : IntKind} {l : List Int} {i : Nat} {v : Int} (h : l[i]? = some v) : (nums k l)[i]? = some (.int k v) := by simp [nums, h]
theorem nums_set (k : IntKind) (l : List Int) (i : Nat) (v : Int) : (nums k l).setIfInBounds i (.int k v) = nums k (l.set i v) := by
 simp [nums, List.map_set]
theorem Ar.num {w : World} {b : Nat} {t : TypeId} {k : IntKind} {l : List Int} (h : Ar w b t (nums k l)) (i : Nat) (hi : i < l.length) : w.cell? ⟨b, i, none⟩ = some (.int k (l.getD i 0)) :=
 h.cell i _ (nums_at (by rw [List.getD_eq_getElem?_getD, List.getElem?_eq_getElem hi]; rfl))
theorem Ar.val {w : World} {b : Nat} {t : TypeId} {k : IntKind} {l : List Int} (h : Ar w b t (nums k l)) (i : Nat) (v : Int) (hi : l[i]? = some v) : w.cell? ⟨b, i, none⟩ = some (.int k v) :=
 h.cell i _ (nums_at hi)
theorem Ar.put {w : World} {b : Nat} {t : TypeId} {k : IntKind} {l : List Int} (h : Ar w b t (nums k l)) (i : Nat) (v : Int) : Ar (w.setCell ⟨b, i, none⟩ (.int k v)) b t (nums k (l.set i v)) := by
 rw [← nums_set]; exact h.set i _


structure LF (S : Nat → Prop) (w w' : World) : Prop where
 os : w'.os = w.os
 tape : w'.tape = w.tape
 output : w'.output = w.output
 size : w.heap.size ≤ w'.heap.size
 block : ∀ k, k < w.heap.size → ¬ S k → w'.heap[k]? = w.heap[k]?
theorem LF.refl (S : Nat → Prop) (w : World) : LF S w w := ⟨rfl, rfl, rfl, Nat.le_refl _, fun _ _ _ => rfl⟩
theorem LF.of_below {S : Nat → Prop} {w w' : World} (h : Below w.heap.size w w') : LF S w w' := ⟨h.os, h.tape, h.output, h.size, fun k hk _ => h.block k hk⟩
theorem LF.of_upd {S : Nat → Prop} {b : Nat} {w w' : World} (h : Upd b w w') (hb : S b) : LF S w w' := ⟨h.os, h.tape, h.output, by rw [h.size]; exact Nat.le_refl _, fun k _ hs => h.block k (fun e => hs (e ▸ hb))⟩
theorem LF.trans {S S' : Nat → Prop} {w w1 w2 : World} (h1 : LF S w w1) (h2 : LF S' w1 w2) (hs : ∀ k, k < w.heap.size → S' k → S k) : LF S w w2 :=
 ⟨h2.os.trans h1.os, h2.tape.trans h1.tape, h2.output.trans h1.output, Nat.le_trans h1.size h2.size, fun k hk hn => (h2.block k (Nat.lt_of_lt_of_le hk h1.size) (fun h => hn (hs k hk h))).trans (h1.block k hk hn)⟩
theorem LF.below {S : Nat → Prop} {w w' : World} {B : Nat} (h : LF S w w') (hB : B ≤ w.heap.size) (hs : ∀ k, S k → B ≤ k) : Below B w w' :=
 ⟨h.os, h.tape, h.output, h.size, fun k hk => h.block k (by omega) (fun hS => by have := hs k hS; omega)⟩
theorem LF.ar {S : Nat → Prop} {w w' : World} {k : Nat} {T : TypeId} {c : Array Value} (h : LF S w w') (ha : Ar w k T c) (hs : ¬ S k) : Ar w' k T c := by
 unfold Ar at *; rw [h.block k (Array.getElem?_eq_some_iff.1 ha).1 hs]; exact ha

theorem own_ty {w : World} {B : Nat} {e : TypeId} {s : Nat} {v : Value} {n : Nat} {xs : List Value} (h : w.ownsRow B e s v n xs) : ∀ k, v.ownBlock = some k → B ≤ k ∧ ∃ cs, w.heap[k]? = some (.cells cs e (0, 0)) := by
 intro k hk;rcases h.2 with ⟨rfl, _⟩ | ⟨g, cap, cur, rfl, h1, h3, _⟩
 ·simp [Value.ownBlock] at hk
 ·simp [Value.ownBlock] at hk;subst hk;exact ⟨h1, _, h3⟩
theorem own_apart {w : World} {B : Nat} {e T : TypeId} {s : Nat} {v : Value} {n : Nat} {xs : List Value} {b : Nat} {c : Array Value} (h : w.ownsRow B e s v n xs) (ha : Ar w b T c) (hne : T ≠ e) : ∀ k, v.ownBlock = some k → k ≠ b := by
 intro k hk e';subst e';obtain ⟨_, cs, h3⟩ := own_ty h k hk;unfold Ar at ha;rw [ha] at h3;injection h3 with h3;injection h3 with _ h4 _;exact hne h4
theorem own_same {w w' : World} {B : Nat} {e : TypeId} {s : Nat} {v : Value} {n : Nat} {xs : List Value} (h : w.ownsRow B e s v n xs) (hb : ∀ k, v.ownBlock = some k → w'.heap[k]? = w.heap[k]?) : w'.ownsRow B e s v n xs := by
 refine ⟨h.1, ?_⟩;rcases h.2 with h2 | ⟨g, cap, cur, h1, h2, h3, h4⟩
 ·exact .inl h2
 ·exact .inr ⟨g, cap, cur, h1, h2, (hb g (by rw [h1]; rfl)).trans h3, h4⟩
theorem ar_grown {w w' : World} {b : Nat} {T : TypeId} {c : Array Value} {row : Option Nat} (h : Ar w b T c) (hg : w.grownBy w' row) (hn : ∀ k, row = some k → k ≠ b) : Ar w' b T c := by
 unfold Ar at *;rw [hg.block b (Array.getElem?_eq_some_iff.1 h).1 (fun e => hn b e.symm rfl)];exact h
theorem own_grown {w w' : World} {B : Nat} {e : TypeId} {s : Nat} {v : Value} {n : Nat} {xs : List Value} {row : Option Nat} (h : w.ownsRow B e s v n xs) (hg : w.grownBy w' row) (hn : ∀ k, v.ownBlock = some k → some k ≠ row) : w'.ownsRow B e s v n xs :=
 own_same h (fun k hk => hg.block k (by obtain ⟨_, _, h1⟩ := own_ty h k hk; exact (Array.getElem?_eq_some_iff.1 h1).1) (hn k hk))
theorem Ar.apart' {w : World} {a b : Nat} {T T' : TypeId} {cs cs' : Array Value} (h : Ar w a T cs) (h' : Ar w b T' cs') (hne : T ≠ T') : a ≠ b := by
 rintro rfl;unfold Ar at h h';rw [h] at h';injection h' with h';injection h' with _ h2 _;exact hne h2
theorem own_lt {w : World} {B : Nat} {e : TypeId} {s : Nat} {v : Value} {n : Nat} {xs : List Value} (h : w.ownsRow B e s v n xs) : ∀ k, v.ownBlock = some k → k < w.heap.size := fun k hk => by
 obtain ⟨_, _, h1⟩ := own_ty h k hk;exact (Array.getElem?_eq_some_iff.1 h1).1


theorem wrp (x : Int) (h0 : 0 ≤ x) (h1 : x ≤ 9223372036854775807) : IntKind.i64.wrap x = x := by rw [IntKind.wrap_i64]; omega
def fV (f : Fd) : List Value := [.string f.n, .string f.v]
def fC (l : List Fd) : List Value := l.flatMap fV
theorem fC_append (l m : List Fd) : fC (l ++ m) = fC l ++ fC m := by simp [fC]
theorem fC_length (l : List Fd) : (fC l).length = l.length * 2 := by
 induction l with
 | nil => rfl
 | cons a r ih => simp only [fC, List.flatMap_cons, List.length_append, List.length_cons] at *; simp [fV] at *; omega
theorem f_at (l : List Fd) (i : Nat) (p : Fd) (h : l[i]? = some p) : ∀ j, j < 2 → (fC l)[i * 2 + j]? = (fV p)[j]? := by
 induction l generalizing i with
 | nil => simp at h
 | cons a r ih =>
  intro j hj;rw [show fC (a :: r) = fV a ++ fC r from rfl];cases i with
  | zero => simp at h; subst h; rw [List.getElem?_append_left (by simp [fV]; omega)]; congr 1; omega
  | succ i =>
   rw [List.getElem?_append_right (by simp [fV]; omega), show (i + 1) * 2 + j - (fV a).length = i * 2 + j by simp [fV]; omega];exact ih i (by simpa using h) j hj
def FW (w : World) (v : Value) (l : List Fd) : Prop :=
 (v = .slice none 0 0 ∧ l = []) ∨ ∃ a cap, v = .slice (some a) l.length cap ∧ l.length ≤ cap ∧ ∀ j u, (fC l)[j]? = some u → (a.add j).block < w.heap.size ∧ w.cell? (a.add j) = some u
theorem FW.keep {w w' : World} {v : Value} {l : List Fd} (h : FW w v l) (hb : Below w.heap.size w w') : FW w' v l := by
 rcases h with h | ⟨a, cap, hv, hcp, hc⟩
 ·exact .inl h
 ·exact .inr ⟨a, cap, hv, hcp, fun j u hj => ⟨Nat.lt_of_lt_of_le (hc j u hj).1 hb.size, (hb.cell (hc j u hj).1).trans (hc j u hj).2⟩⟩
theorem FW.below {B : Nat} {w w' : World} {v : Value} {l : List Fd} (h : FW w v l) (hb : Below B w w') (hB : w.heap.size ≤ B) : FW w' v l := h.keep (hb.mono hB)
theorem FW.shape {w : World} {v : Value} {l : List Fd} (h : FW w v l) : ∃ ao cap, v = .slice ao l.length cap := by
 rcases h with ⟨h, rfl⟩ | ⟨a, cap, h, _⟩
 ·exact ⟨none, 0, h⟩
 ·exact ⟨some a, cap, h⟩
theorem FW.two {w : World} {ao : Option Addr} {n cap : Nat} {l : List Fd} (h : FW w (.slice ao n cap) l) (i : Nat) (p : Fd) (hp : l[i]? = some p) : ∃ a, ao = some a ∧ w.cell? (a.add (i * 2)) = some (.string p.n) ∧ w.cell? ⟨(a.add (i * 2)).block, (a.add (i * 2)).off + 1, none⟩ = some (.string p.v) := by
 rcases h with ⟨_, rfl⟩ | ⟨a, cap', hv, hcp, hc⟩
 ·simp at hp
 ·injection hv with h1 _ _;have key : ∀ j u, j < 2 → (fV p)[j]? = some u → w.cell? (a.add (i * 2 + j)) = some u := fun j u hj hu => (hc _ _ ((f_at l i p hp j hj).trans hu)).2;have k0 := key 0 _ (by omega) rfl;have k1 := key 1 _ (by omega) rfl;rw [← Addr.add_add] at k0 k1;refine ⟨a, h1, ?_, ?_⟩
  ·simpa [Addr.add] using k0
  ·simpa [Addr.add] using k1
theorem FW.cap {w : World} {a : Addr} {n cap : Nat} {l : List Fd} (h : FW w (.slice (some a) n cap) l) : l.length ≤ cap := by
 rcases h with ⟨h, _⟩ | ⟨a', cap', hv, hcp, _⟩
 ·cases h
 ·injection hv with _ _ h3;rw [h3]; exact hcp
theorem fC_take (l : List Fd) (i : Nat) : fC (l.take i) = (fC l).take (i * 2) := by
 induction l generalizing i with
 | nil => simp [fC]
 | cons a r ih =>
  cases i with
  | zero => simp [fC]
  | succ i =>
   have : (i + 1) * 2 = (fV a).length + i * 2 := by simp [fV]; omega
   rw [List.take_succ_cons, show fC (a :: r.take i) = fV a ++ fC (r.take i) from rfl, show fC (a :: r) = fV a ++ fC r from rfl, ih, this, List.take_append, List.take_of_length_le (l := fV a) (by omega), Nat.add_sub_cancel_left]
theorem FW.take {w : World} {a : Addr} {n cap : Nat} {l : List Fd} (h : FW w (.slice (some a) n cap) l) {k : Nat} (hk : k ≤ l.length) : FW w (.slice (some a) k cap) (l.take k) := by
 rcases h with ⟨h, _⟩ | ⟨a', cap', hv, hcp, hc⟩
 ·cases h
 ·injection hv with h1 _ h3;injection h1 with h1;subst h1 h3;refine .inr ⟨a, cap, by rw [List.length_take, Nat.min_eq_left hk], by rw [List.length_take]; omega, fun j u hj => hc j u ?_⟩;rw [fC_take, List.getElem?_take] at hj;split at hj
  ·exact hj
  ·cases hj
theorem FW.of_own {w : World} {B : Nat} {e : TypeId} {v : Value} {l : List Fd} (h : w.ownsRow B e 2 v l.length (fC l)) : FW w v l := by
 rcases h.2 with ⟨hv, hn⟩ | ⟨g, cap, cur, hv, _, h3, h4, _⟩
 ·exact .inl ⟨hv, List.eq_nil_of_length_eq_zero hn⟩
 ·refine .inr ⟨⟨g, 0, none⟩, cap, hv, h4, fun j u hj => ⟨?_, ?_⟩⟩
  ·have := (Array.getElem?_eq_some_iff.1 h3).1;unfold Addr.add;split <;> exact this
  ·exact h.cells (g := g) (by rw [hv]; rfl) j u hj


theorem ret_bool {a b : Bool} (h : a = b) : Ending.returned (.bool a) = .returned (.bool b) := by rw [h]
theorem ret_int {k : IntKind} {a b : Int} (h : a = b) : Ending.returned (.int k a) = .returned (.int k b) := by rw [h]

theorem isLetter_any (c : Int) (w : World) : Calls Tryz.prog 98 #[.int .u8 c] w fun e w' => e = .returned (.bool (Tx.letC c)) ∧ w' = w := by
 go_enter Tryz.func98, Tryz.ntmps98;go_wp2
 all_goals go_ret
 all_goals exact ⟨ret_bool (by rw [Bool.eq_iff_iff]; simp [Tx.letC]; omega), rfl⟩

theorem isDigit_any (c : Int) (w : World) : Calls Tryz.prog 99 #[.int .u8 c] w fun e w' => e = .returned (.bool (Tx.digC c)) ∧ w' = w := by
 go_enter Tryz.func99, Tryz.ntmps99;go_wp2
 all_goals go_ret
 all_goals exact ⟨ret_bool (by rw [Bool.eq_iff_iff]; simp [Tx.digC]; omega), rfl⟩

theorem isBlank_any (c : Int) (w : World) : Calls Tryz.prog 225 #[.int .u8 c] w fun e w' => e = .returned (.bool (Tx.blkC c)) ∧ w' = w := by
 go_enter Tryz.func225, Tryz.ntmps225;go_wp2
 all_goals go_ret
 all_goals exact ⟨ret_bool (by rw [Bool.eq_iff_iff]; simp [Tx.blkC]; try omega), rfl⟩

theorem digit_any (c : Int) (h0 : 0 ≤ c) (h1 : c ≤ 255) (w : World) : Calls Tryz.prog 248 #[.int .u8 c] w fun e w' => e = .returned (.int .i64 (Tx.dgt c)) ∧ w' = w := by
 go_enter Tryz.func248, Tryz.ntmps248;go_wp2
 all_goals go_ret
 all_goals exact ⟨ret_int (by simp [Tx.dgt, Tx.digC]; repeat' split; all_goals omega), rfl⟩


def ixC (c : Int) : Int := Lib.indexByte [33, 35, 36, 37, 38, 39, 42, 43, 45, 46, 94, 95, 96, 124, 126] c.toNat.toUInt8
theorem ix_fin : ∀ n : Fin 256, decide (0 ≤ ixC (n.val : Int)) = Tx.markC (n.val : Int) := by decide +kernel
theorem ix_mark (c : Int) (h0 : 0 ≤ c) (h1 : c ≤ 255) : decide (0 ≤ ixC c) = Tx.markC c := by
 obtain ⟨n, rfl⟩ := Int.eq_ofNat_of_zero_le h0;exact ix_fin ⟨n, by omega⟩
theorem indexByte_c (c : Int) (w : World) : Calls Tryz.prog 100 #[.string ⟨#[33, 35, 36, 37, 38, 39, 42, 43, 45, 46, 94, 95, 96, 124, 126]⟩, .int .u8 c] w fun e w' => e = .returned (.int .i64 (ixC c)) ∧ w' = w :=
 Tryz.strings_IndexByte _ c w

theorem isTokenByte_any (c : Int) (h0 : 0 ≤ c) (h1 : c ≤ 255) (w : World) : Calls Tryz.prog 71 #[.int .u8 c] w fun e w' => e = .returned (.bool (Tx.tokC c)) ∧ w' = w := by
 have hm := ix_mark c h0 h1;by_cases hl : Tx.letC c = true
 ·go_enter Tryz.func71, Tryz.ntmps71;go_wp2_with (first | (go_at_call 98; refine (isLetter_any _ _).mono ?_; rintro e w' ⟨rfl, rfl⟩));go_ret;exact ⟨ret_bool (by simp [Tx.tokC, hl]), rfl⟩
 replace hl : Tx.letC c = false := by simpa using hl
 by_cases hd : Tx.digC c = true
 ·go_enter Tryz.func71, Tryz.ntmps71;go_wp2_with (first | (go_at_call 98; refine (isLetter_any _ _).mono ?_; rintro e w' ⟨rfl, rfl⟩) | (go_at_call 99; refine (isDigit_any _ _).mono ?_; rintro e w' ⟨rfl, rfl⟩));go_ret;exact ⟨ret_bool (by simp [Tx.tokC, hd]), rfl⟩
 replace hd : Tx.digC c = false := by simpa using hd
 have hfin : Tx.tokC c = decide (0 ≤ ixC c) := by rw [hm]; simp [Tx.tokC, hl, hd]
 have HF : Hid (Tx.tokC c = decide (0 ≤ ixC c)) := hfin;clear hfin hm;go_enter Tryz.func71, Tryz.ntmps71;go_wp2_with (first | (go_at_call 98; refine (isLetter_any _ _).mono ?_; rintro e w' ⟨rfl, rfl⟩) | (go_at_call 99; refine (isDigit_any _ _).mono ?_; rintro e w' ⟨rfl, rfl⟩) | (go_at_call 100; refine (indexByte_c _ _).mono ?_; rintro e w' ⟨rfl, rfl⟩))
 all_goals go_ret
 all_goals exact ⟨ret_bool (by rw [HF.out]), rfl⟩

theorem token_any (s : ByteArray) (w : World) (hs : s.size ≤ maxLen) :
  Calls Tryz.prog 45 #[.string s] w fun e w' => e = .returned (.bool (Tx.isTok s.data.toList)) ∧ w' = w := by
 unfold maxLen at hs;go_enter Tryz.func45, Tryz.ntmps45;go_wp2;go_loop [3] (fun i => ∃ k : Nat, k ≤ s.size ∧ i = .int .i64 k ∧ Tx.allC Tx.tokC (s.data.toList.take k) = true) (fun i => s.size - (intOf i).toNat)
 case atStart => exact ⟨0, Nat.zero_le _, rfl, rfl⟩
 case round =>
  obtain ⟨k, hk, rfl, hall⟩ := hrel;by_cases hlt : k < s.size
  ·have hb : s[k].toNat ≤ 255 := by have := s[k].toNat_lt; omega
   have HS : Hid (Tx.allC Tx.tokC (s.data.toList.take (k + 1)) = (Tx.allC Tx.tokC (s.data.toList.take k) && Tx.tokC (s[k].toNat : Int))) := Tx.allC_snoc Tx.tokC s k hlt;have HA : Hid (Tx.allC Tx.tokC (s.data.toList.take k) = true) := hall;clear hall;by_cases ht : Tx.tokC (s[k].toNat : Int) = true
   ·go_wp2_with (go_at_call 71; refine (isTokenByte_any _ (by omega) (by omega) _).mono ?_; rintro e w' ⟨rfl, rfl⟩);go_round
    case rel => exact ⟨k + 1, by omega, by go_num, by rw [HS.out, HA.out, ht]; rfl⟩
    case measure => simp [intOf]; omega
   ·replace ht : Tx.tokC (s[k].toNat : Int) = false := by simpa using ht
    have HF : Hid (Tx.isTok s.data.toList = false) := Tx.isTok_no s k hlt ht;go_wp2_with (go_at_call 71; refine (isTokenByte_any _ (by omega) (by omega) _).mono ?_; rintro e w' ⟨rfl, rfl⟩);go_ret;exact ⟨ret_bool (by rw [HF.out]), rfl⟩
  ·have HF : Hid (Tx.isTok s.data.toList = !s.data.toList.isEmpty) := Tx.isTok_all s k (by omega) hall;clear hall;go_wp2
   all_goals go_ret
   all_goals exact ⟨ret_bool (by rw [HF.out, Lib.toList_data]), rfl⟩


theorem ret_str {a b : ByteArray} (h : a = b) : Ending.returned (.string a) = .returned (.string b) := by rw [h]

theorem trim_any (s : ByteArray) (w : World) (hs : s.size ≤ maxLen) :
  Calls Tryz.prog 198 #[.string s] w fun e w' => e = .returned (.string ⟨(Tx.trim s.data.toList).toArray⟩) ∧ w' = w := by
 unfold maxLen at hs;go_enter Tryz.func198, Tryz.ntmps198;go_wp2;go_loop [3] (fun i => ∃ k : Nat, k ≤ s.size ∧ i = .int .i64 k ∧ ∀ x ∈ s.data.toList.take k, Tx.blkB x = true) (fun i => s.size - (intOf i).toNat)
 case atStart => exact ⟨0, Nat.zero_le _, rfl, fun x hx => by simp at hx⟩
 case round =>
  obtain ⟨k, hk, rfl, hall⟩ := hrel;have HA : Hid (∀ x ∈ s.data.toList.take k, Tx.blkB x = true) := hall;clear hall;by_cases hlt : ∃ h : k < s.size, Tx.blkC (s[k].toNat : Int) = true
  ·obtain ⟨hlt, ht⟩ := hlt;have HS : Hid (∀ x ∈ s.data.toList.take (k + 1), Tx.blkB x = true) := Tx.blk_snoc s k hlt HA.out ht;go_wp2_with (go_at_call 225; refine (isBlank_any _ _).mono ?_; rintro e w' ⟨rfl, rfl⟩);go_round
   case rel => exact ⟨k + 1, by omega, by go_num, HS.out⟩
   case measure => simp [intOf]; omega
  ·have H1 : Hid (∀ x, s.data.toList[k]? = some x → Tx.blkB x = false) := by
    intro x hx;by_cases h : k < s.size
    ·rw [Tx.get_byte s k h, Option.some.injEq] at hx; subst hx;have : ¬ Tx.blkC (s[k].toNat : Int) = true := fun hb => hlt ⟨h, hb⟩;simpa [Tx.blkB] using this
    ·rw [List.getElem?_eq_none (by rw [← Lib.size_eq]; omega)] at hx; cases hx
   have H0 : ∀ h : k < s.size, Tx.blkC (s[k].toNat : Int) = false := fun h => by
    have := H1.out s[k] (Tx.get_byte s k h); exact this
   clear hlt;by_cases hlt : k < s.size
   ·have ht := H0 hlt;clear H0;go_wp2_with (go_at_call 225; refine (isBlank_any _ _).mono ?_; rintro e w' ⟨rfl, rfl⟩);go_loop [4] (fun j => ∃ m : Nat, k ≤ m ∧ m ≤ s.size ∧ j = .int .i64 m ∧ ∀ x ∈ s.data.toList.drop m, Tx.blkB x = true) (fun j => (intOf j).toNat)
    case atStart => exact ⟨s.size, hk, Nat.le_refl _, rfl, Tx.drop_all s⟩
    case round =>
     obtain ⟨m, hkm, hms, rfl, hall⟩ := hrel;have HM : Hid (∀ x ∈ s.data.toList.drop m, Tx.blkB x = true) := hall;clear hall;by_cases hlt2 : k < m
     ·obtain ⟨m, rfl⟩ : ∃ m', m = m' + 1 := ⟨m - 1, by omega⟩;have hm1 : m < s.size := by omega
      by_cases ht2 : Tx.blkC (s[m].toNat : Int) = true
      ·have HS : Hid (∀ x ∈ s.data.toList.drop m, Tx.blkB x = true) := Tx.blk_pre s m hm1 HM.out ht2;go_wp2_with (go_at_call 225; refine (isBlank_any _ _).mono ?_; rintro e w' ⟨rfl, rfl⟩);go_round
       case rel => exact ⟨m, by omega, by omega, by go_num, HS.out⟩
       case measure => simp [intOf]
      ·replace ht2 : Tx.blkC (s[m].toNat : Int) = false := by simpa using ht2
       have HF : Hid (s.extract k (m + 1) = ⟨(Tx.trim s.data.toList).toArray⟩) := Tx.trim_cut s k (m + 1) (by omega) hms HA.out HM.out H1.out (fun x _ hx => by
        rw [Nat.add_sub_cancel, Tx.get_byte s m hm1, Option.some.injEq] at hx; subst hx; exact ht2)
       go_wp2_with (go_at_call 225; refine (isBlank_any _ _).mono ?_; rintro e w' ⟨rfl, rfl⟩);go_ret;exact ⟨ret_str (by exact HF.out), rfl⟩
     ·have HF : Hid (s.extract k m = ⟨(Tx.trim s.data.toList).toArray⟩) := Tx.trim_cut s k m (by omega) hms HA.out HM.out H1.out (fun x h _ => absurd h hlt2);go_wp2;go_ret;exact ⟨ret_str (by exact HF.out), rfl⟩
   ·clear H0;obtain rfl : k = s.size := by omega
    go_wp2;go_loop [4] (fun j => j = .int .i64 s.size) (fun _ => 0)
    case atStart => rfl
    case round =>
     obtain rfl := hrel;have HF : Hid (ByteArray.empty = ⟨(Tx.trim s.data.toList).toArray⟩) := (show ByteArray.empty = s.extract s.size s.size by simp).trans <| Tx.trim_cut s s.size s.size (Nat.le_refl _) (Nat.le_refl _) HA.out (Tx.drop_all s) H1.out (fun x h _ => absurd h (Nat.lt_irrefl _));go_wp2;go_ret;exact ⟨ret_str (by exact HF.out), rfl⟩

end Go.Proofs.YthhpejgpfaikaabGreatDoor
