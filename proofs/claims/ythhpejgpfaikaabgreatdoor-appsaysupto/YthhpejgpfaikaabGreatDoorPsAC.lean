/-
  What the row stands on.
-/
import Derived.Laws.AppendOwnNone
import Derived.Lib.ItoaLen
import Derived.Test.YthhpejgpfaikaabGreatDoorPsAB
import Derived.Test.YthhpejgpfaikaabGreatDoorPsAA
import Derived.Test.YthhpejgpfaikaabGreatDoorProg
import Derived.WalkKit
import Derived.Laws.Cover1
import Derived.Laws.OwnMore
import Derived.Great.BuildSlice
import Derived.Deep.QuietTactic
import Derived.BigQuiet
import Derived.Maps.AppendAt
import Derived.Deep.CutRange
import Derived.Test.YthhpejgpfaikaabGreatDoorShelfR
import Derived.Shelf.Strings.SlTrimAscii
namespace Go.Proofs.YthhpejgpfaikaabGreatDoor
set_option maxHeartbeats 64000000
open Go.RowKit

theorem own_lit19 (w : World) (e : TypeId) (xs : List Value) (n s : Nat) (hl : xs.length = n * s) (hn : n ≤ maxLen) (B : Nat) (hB : B ≤ w.heap.size) : (w.alloc (.cells xs.toArray e)).ownsRow B e s (.slice (some ⟨w.heap.size, 0, none⟩) n n) n xs :=
 ⟨hl, .inr ⟨w.heap.size, n, xs.toArray, rfl, hB, heap_alloc_last w _, Nat.le_refl _, hn, by simpa using hl, by rw [← hl]; simp⟩⟩
theorem fw_lit19 (w : World) (l : List Fd) (n : Nat) (hn : l.length = n) (h : n ≤ maxLen) : FW (w.alloc (.cells (fC l).toArray 44)) (.slice (some ⟨w.heap.size, 0, none⟩) n n) l :=
 FW.of_own (B := w.heap.size) (e := 44) (by rw [hn]; exact own_lit19 w 44 (fC l) n 2 (by rw [fC_length, hn]) h w.heap.size (Nat.le_refl _))
theorem fC_one19 (l : List Fd) : ∀ u ∈ fC l, u.oneCell' = true := by
 intro u hu;unfold fC at hu;obtain ⟨f, _, hf⟩ := List.mem_flatMap.1 hu;simp [fV] at hf;rcases hf with rfl | rfl <;> rfl
theorem wpl_appL19 {w : World} {ops : Array Oper} {rest : List Oper} {o : Oper} {a : Act} {Q : Exit → Act → World → Prop} (hgd : o.guard = none) (s x : Operand)
  (ho : o.op = .call { callee := .builtin .append, args := #[s, x], argTypes := #[23, 23] })
  (B : Nat) (v : Value) (n : Nat) (xs : List Value) (hs : a.eval s = v) (hown : w.ownsRow B 44 2 v n xs) (y : Value) (l : List Fd) (hx : a.eval x = y) (hy : FW w y l)
  (h63 : n + l.length ≤ 4398046511103) (hB : B ≤ w.heap.size)
  (h : ∀ v' w', w'.ownsRow B 44 2 v' (n + l.length) (xs ++ fC l) → w.grownBy w' v.ownBlock → wpList Tryz.prog ops Q rest (a.put o.dst v') w') :
  wpList Tryz.prog ops Q (o :: rest) a w := by
 obtain ⟨i0, hi0, hz0, hz1, hz2⟩ := minfo_parts infoF14;rcases hy with ⟨rfl, rfl⟩ | ⟨ad, cap, rfl, hc, hcells⟩
 ·refine wpList_append_own_none hgd s x 23 ho B 44 i0 2 Tryz.underlying23 hi0 v n xs hs hown hx ?_;refine h v w ?_ ⟨rfl, rfl, rfl, Nat.le_refl _, fun _ _ _ => rfl⟩;simpa [fC] using hown
 ·refine wpList_append_own_at w hgd s x 23 ho B 44 i0 (.agg #[.string ⟨#[]⟩, .string ⟨#[]⟩]) 2 32 Tryz.underlying23 hi0 hz0 hz1 hz2 rfl (by decide) v n xs hs hown ad l.length cap (fC l) hx (fC_length l) (fun j u hj => (hcells j u hj).2) (fC_one19 l) (by unfold maxLen; omega) (by omega) hB ?_;intro v' w' h1 h2 _ h4;exact h v' w' h1 h2
theorem below_grown19 {B : Nat} {w0 w w' : World} {v : Value} {n : Nat} {xs : List Value} (hb : Below B w0 w) (hB : B ≤ w.heap.size) (ho : w.ownsRow B 44 2 v n xs) (hg : w.grownBy w' v.ownBlock) : Below B w0 w' :=
 hb.grown hg hB (fun k hk => (own_ty ho k hk).1)

theorem bl_alloc19 (w : World) (x : Obj) : Below w.heap.size w (w.alloc x) := (Below.refl _ _).alloc (Nat.le_refl _) _
theorem own_ge19 {w : World} {B : Nat} {e : TypeId} {s : Nat} {v : Value} {n : Nat} {xs : List Value} (h : w.ownsRow B e s v n xs) (j : Nat) (hj : v.ownBlock = some j) : B ≤ j := (own_ty h j hj).1
theorem own_base19 {w : World} {B B' : Nat} {e : TypeId} {s : Nat} {v : Value} {n : Nat} {xs : List Value} (h : w.ownsRow B e s v n xs) (hB : B' ≤ B) : w.ownsRow B' e s v n xs := by
 obtain ⟨h0, h1 | ⟨g, cap, cur, h1, h2, h3⟩⟩ := h
 ·exact ⟨h0, .inl h1⟩
 ·exact ⟨h0, .inr ⟨g, cap, cur, h1, Nat.le_trans hB h2, h3⟩⟩
theorem sizeRp19 : (Tryz.prog.info? 38).map (·.size) = some 4 := by kernel_rfl
theorem zeroRp19 : (Tryz.prog.info? 38).map (fun i => i.zero) = some (some (.agg #[.int .i64 0, .slice none 0 0, .string ⟨#[]⟩, .slice none 0 0])) := by kernel_rfl
theorem ldRp19 {w : World} {b : Nat} {x0 x1 x2 x3 : Value} (h : Ar w b 38 #[x0, x1, x2, x3]) : (loadVar 38 ⟨b, 0, none⟩).run Tryz.prog w = .ok (.agg #[x0, x1, x2, x3]) w :=
 run_loadVar_row (P := Tryz.prog) w b 38 38 _ (0, 0) _ h Tryz.underlying38 rfl sizeRp19

namespace Fs
def fT : Fd := ⟨⟨#[99, 111, 110, 116, 101, 110, 116, 45, 116, 121, 112, 101]⟩, ⟨#[116, 101, 120, 116, 47, 112, 108, 97, 105, 110]⟩⟩
def bd (s : Int) : List UInt8 := Lib.itoa s ++ [10]
end Fs

namespace Tg

structure Tag where
 w : Bool
 v : List UInt8
def etC (c : Int) : Bool := (c == 33) || (decide (35 ≤ c) && decide (c ≤ 126)) || decide (128 ≤ c)
def etB (c : UInt8) : Bool := etC (c.toNat : Int)
def wk (l : List UInt8) : Bool := l.take 2 == [87, 47]
def wn (l : List UInt8) : Nat := if wk l then 2 else 0
def inn (l : List UInt8) : Nat := (l.takeWhile etB).length
def opq (l : List UInt8) : List UInt8 := l.drop (wn l)
def sz (l : List UInt8) : Nat := inn ((opq l).drop 1)
def isOne (l : List UInt8) : Bool := (opq l).head? == some 34 && ((opq l).drop (1 + sz l)).head? == some 34
def tagOf (l : List UInt8) : Tag := ⟨wk l, (opq l).take (sz l + 2)⟩
def nOf (l : List UInt8) : Nat := wn l + (sz l + 2)
def go (op : Bool) : List UInt8 → Option (List Tag)
  | [] => some []
  | c :: r => if Tx.blkB c then go op r else if c == 44 then go true r else
      if isOne (c :: r) && op then (go false (r.drop (nOf (c :: r) - 1))).map (tagOf (c :: r) :: ·) else none
 termination_by l => l.length
 decreasing_by all_goals simp; try omega

def sepB (c : UInt8) : Bool := Tx.blkB c || c == 44
def pieces (l : List UInt8) : List UInt8 := l.dropWhile sepB
def ends (l : List UInt8) : Bool := (l.dropWhile Tx.blkB == []) || ((l.dropWhile Tx.blkB).head? == some 44)

theorem go_nil (op : Bool) : go op [] = some [] := by rw [go]
theorem go_blank (op : Bool) (c : UInt8) (r : List UInt8) (h : Tx.blkB c = true) : go op (c :: r) = go op r := by rw [go, if_pos h]
theorem go_comma (op : Bool) (r : List UInt8) : go op (44 :: r) = go true r := by
 rw [go, if_neg (by decide), if_pos (by decide)]
theorem go_other (op : Bool) (c : UInt8) (r : List UInt8) (h : Tx.blkB c = false) (h2 : (c == 44) = false) : go op (c :: r) = if isOne (c :: r) && op then (go false ((c :: r).drop (nOf (c :: r)))).map (tagOf (c :: r) :: ·) else none := by
 rw [go, if_neg (by rw [h]; decide), if_neg (by rw [h2]; decide)];have : (c :: r).drop (nOf (c :: r)) = r.drop (nOf (c :: r) - 1) := by
  rw [show nOf (c :: r) = (nOf (c :: r) - 1) + 1 by unfold nOf; omega, List.drop_succ_cons];rfl
 rw [this]
theorem go_dw (op : Bool) (l : List UInt8) : go op (l.dropWhile Tx.blkB) = go op l := by
 induction l with
 | nil => rfl
 | cons c r ih =>
  cases h : Tx.blkB c
  ·rw [List.dropWhile_cons, h]; rfl
  ·rw [List.dropWhile_cons, h, go_blank op c r h, ← ih]; rfl
theorem go_pieces (l : List UInt8) : go true (pieces l) = go true l := by
 unfold pieces
 induction l with
 | nil => rfl
 | cons c r ih =>
  cases h : Tx.blkB c
  ·cases h2 : c == 44
   ·rw [List.dropWhile_cons, sepB, h, h2]; rfl
   ·obtain rfl := eq_of_beq h2;rw [List.dropWhile_cons, show sepB 44 = true by decide, go_comma, ← ih]; rfl
  ·rw [List.dropWhile_cons, sepB, h, go_blank true c r h, ← ih]; rfl
theorem pieces_head {l : List UInt8} {c : UInt8} {r : List UInt8} (h : pieces l = c :: r) : Tx.blkB c = false ∧ (c == 44) = false := by
 have h1 : sepB c = false := by
  have := List.head?_dropWhile_not sepB l;unfold pieces at h;rw [h] at this;simpa using this
 unfold sepB at h1;rw [Bool.or_eq_false_iff] at h1;exact h1
theorem go_behind (l : List UInt8) : go false l = if ends l then go true (pieces l) else none := by
 unfold ends;have hp : pieces l = pieces (l.dropWhile Tx.blkB) := by
  unfold pieces
  induction l with
  | nil => rfl
  | cons c r ih =>
   cases h : Tx.blkB c
   ·rw [List.dropWhile_cons (p := Tx.blkB), h]; rfl
   ·rw [List.dropWhile_cons, List.dropWhile_cons (p := Tx.blkB), h, sepB, h];exact ih
 rw [← go_dw false l, hp, go_pieces];cases hq : l.dropWhile Tx.blkB with
 | nil => simp [go_nil]
 | cons c r =>
  have hb : Tx.blkB c = false := by
   have := List.head?_dropWhile_not Tx.blkB l;rw [hq] at this;simpa using this
  cases h2 : c == 44
  ·rw [go_other false c r hb h2];have : (some c == some (44 : UInt8)) = false := by simpa using h2
   simp [this]
  ·obtain rfl := eq_of_beq h2;rw [go_comma, go_comma];simp
theorem go_step {l : List UInt8} {c : UInt8} {r : List UInt8} (hl : l = c :: r) (hb : Tx.blkB c = false) (h2 : (c == 44) = false) :
  go true l = if isOne l && ends (l.drop (nOf l)) then (go true (pieces (l.drop (nOf l)))).map (tagOf l :: ·) else none := by
 subst hl;rw [go_other true c r hb h2, go_behind];cases isOne (c :: r)
 ·simp
 ·cases ends ((c :: r).drop (nOf (c :: r))) <;> simp

-- blanks behind
theorem blk_not {x : UInt8} (h : Tx.blkB x = true) : x ≠ 34 ∧ x ≠ 47 ∧ x ≠ 87 ∧ etB x = false := by
 unfold Tx.blkB Tx.blkC at h;rw [Bool.or_eq_true] at h;have hx : x = 32 ∨ x = 9 := by
  rcases h with h | h
  ·left; apply UInt8.toNat_inj.1; have := eq_of_beq h; simp; omega
  ·right; apply UInt8.toNat_inj.1; have := eq_of_beq h; simp; omega
 rcases hx with rfl | rfl <;> decide
theorem head_app {o b : List UInt8} (hb : ∀ x ∈ b, Tx.blkB x = true) : ((o ++ b).head? == some 34) = (o.head? == some 34) := by
 cases o with
 | cons c r => rfl
 | nil =>
  cases b with
  | nil => rfl
  | cons x y =>
   have := (blk_not (hb x (by simp))).1;simp [this]
theorem inn_app {o b : List UInt8} (hb : ∀ x ∈ b, Tx.blkB x = true) : inn (o ++ b) = inn o := by
 unfold inn
 induction o with
 | nil =>
  cases b with
  | nil => rfl
  | cons x y => simp [(blk_not (hb x (by simp))).2.2.2]
 | cons c r ih =>
  rw [List.cons_append, List.takeWhile_cons, List.takeWhile_cons];cases etB c
  ·rfl
  ·simp [ih]
theorem inn_le (l : List UInt8) : inn l ≤ l.length := (List.takeWhile_sublist etB).length_le
theorem wk_app {l b : List UInt8} (hl : l ≠ []) (hb : ∀ x ∈ b, Tx.blkB x = true) : wk (l ++ b) = wk l := by
 unfold wk
 match l, hl with
 | [c], _ =>
  cases b with
  | nil => rfl
  | cons x y =>
   have := (blk_not (hb x (by simp))).2.1;simp [this]
 | c :: d :: r, _ => simp
theorem wn_le (l : List UInt8) : wn l ≤ l.length := by
 unfold wn;cases h : wk l
 ·simp
 ·unfold wk at h;have := congrArg List.length (eq_of_beq h);simp at this;simp; omega
theorem opq_app {l b : List UInt8} (hl : l ≠ []) (hb : ∀ x ∈ b, Tx.blkB x = true) : opq (l ++ b) = opq l ++ b := by
 have e : wn (l ++ b) = wn l := by unfold wn; rw [wk_app hl hb]
 unfold opq;rw [e, List.drop_append_of_le_length (wn_le l)]
theorem drop_app1 (o b : List UInt8) (hb : ∀ x ∈ b, Tx.blkB x = true) : inn ((o ++ b).drop 1) = inn (o.drop 1) := by
 cases o with
 | nil =>
  have : inn (b.drop 1) = inn ([] ++ b.drop 1) := rfl;rw [List.nil_append, this, inn_app (fun x hx => hb x (List.mem_of_mem_drop hx))];rfl
 | cons c r => simpa using inn_app (o := r) hb
theorem one_app {l b : List UInt8} (hl : l ≠ []) (hb : ∀ x ∈ b, Tx.blkB x = true) : isOne (l ++ b) = isOne l ∧ (isOne l = true → tagOf (l ++ b) = tagOf l ∧ nOf (l ++ b) = nOf l ∧ nOf l ≤ l.length) := by
 have e1 := opq_app hl hb;have e2 : sz (l ++ b) = sz l := by unfold sz; rw [e1, drop_app1 _ _ hb]
 have e3 : wn (l ++ b) = wn l := by unfold wn; rw [wk_app hl hb]
 have hi := inn_le ((opq l).drop 1);have hol : (opq l).length = l.length - wn l := by unfold opq; simp
 have hwl := wn_le l;have h1 : isOne (l ++ b) = isOne l := by
  unfold isOne;rw [e1, e2, head_app hb];cases hh : (opq l).head? == some 34
  ·rfl
  ·have hne : 1 ≤ (opq l).length := by
    cases ho : opq l with
    | nil => rw [ho] at hh; simp at hh
    | cons c r => simp
   have : 1 + sz l ≤ (opq l).length := by
    unfold sz;rw [List.length_drop] at hi; omega
   rw [List.drop_append_of_le_length this, head_app hb]
 refine ⟨h1, fun ho => ?_⟩;unfold isOne at ho;rw [Bool.and_eq_true] at ho;have hlt : 1 + sz l < (opq l).length := by
  cases hd : (opq l).drop (1 + sz l) with
  | nil => rw [hd] at ho; simp at ho
  | cons c r =>
   have := congrArg List.length hd;simp at this; omega
 refine ⟨?_, ?_, ?_⟩
 ·unfold tagOf;rw [wk_app hl hb, e1, e2, List.take_append_of_le_length (by omega)]
 ·unfold nOf; rw [e3, e2]
 ·unfold nOf; omega
def star (l : List UInt8) : Bool := Tx.trim l == [42]
def tags (l : List UInt8) : List Tag := if star l then [] else (go true l).getD []
def err (l : List UInt8) : Int := if star l then 0 else if (tags l).isEmpty then 150 else 0
end Tg


theorem bl_alloc (w : World) (x : Obj) : Below w.heap.size w (w.alloc x) := (Below.refl _ _).alloc (Nat.le_refl _) _
theorem own_keep15 {w w' : World} {B : Nat} {e : TypeId} {s : Nat} {v : Value} {n : Nat} {xs : List Value} (h : w.ownsRow B e s v n xs) (hb : Below w.heap.size w w') : w'.ownsRow B e s v n xs := own_same h (fun j hj => hb.block j (own_lt h j hj))

def tV (t : Tg.Tag) : List Value := [.bool t.w, .string ⟨t.v.toArray⟩]
def tC (l : List Tg.Tag) : List Value := l.flatMap tV
theorem tC_append (l m : List Tg.Tag) : tC (l ++ m) = tC l ++ tC m := by simp [tC]
theorem tC_length (l : List Tg.Tag) : (tC l).length = l.length * 2 := by
 induction l with
 | nil => rfl
 | cons a r ih => simp only [tC, List.flatMap_cons, List.length_append, List.length_cons] at *; simp [tV] at *; omega
theorem t_at (l : List Tg.Tag) (i : Nat) (p : Tg.Tag) (h : l[i]? = some p) : ∀ j, j < 2 → (tC l)[i * 2 + j]? = (tV p)[j]? := by
 induction l generalizing i with
 | nil => simp at h
 | cons a r ih =>
  intro j hj;rw [show tC (a :: r) = tV a ++ tC r from rfl];cases i with
  | zero => simp at h; subst h; rw [List.getElem?_append_left (by simp [tV]; omega)]; congr 1; omega
  | succ i =>
   rw [List.getElem?_append_right (by simp [tV]; omega), show (i + 1) * 2 + j - (tV a).length = i * 2 + j by simp [tV]; omega];exact ih i (by simpa using h) j hj
theorem own_two {w : World} {B : Nat} {e : TypeId} {ao : Option Addr} {n m cap : Nat} {l : List Tg.Tag} (h : w.ownsRow B e 2 (.slice ao n cap) m (tC l)) (i : Nat) (p : Tg.Tag) (hp : l[i]? = some p) : ∃ g, ao = some ⟨g, 0, none⟩ ∧ w.cell? ⟨g, i * 2, none⟩ = some (.bool p.w) ∧ w.cell? ⟨g, i * 2 + 1, none⟩ = some (.string ⟨p.v.toArray⟩) := by
 have hlt : i * 2 < (tC l).length := by rw [tC_length]; have := (List.getElem?_eq_some_iff.1 hp).1; omega
 rcases h.2 with ⟨_, h0⟩ | ⟨g, cap', cur, h1, h2⟩
 ·rw [h.1, h0] at hlt; omega
 ·injection h1 with h1 h3 h4;subst h1;have key : ∀ j u, j < 2 → (tV p)[j]? = some u → w.cell? ⟨g, i * 2 + j, none⟩ = some u := fun j u hj hu => by
   have := h.cells (g := g) rfl _ u ((t_at l i p hp j hj).trans hu)
   rwa [Addr.add_mid, Nat.zero_add] at this
  exact ⟨g, rfl, key 0 _ (by omega) rfl, key 1 _ (by omega) rfl⟩

theorem zeroC15 : (Tryz.prog.info? 250).map (fun i => i.zero) = some (some (.agg #[.bool false, .string ⟨#[]⟩])) := by kernel_rfl
theorem sizeC15 : (Tryz.prog.info? 250).map (·.size) = some 2 := by kernel_rfl
theorem infoC15 : (Tryz.prog.info? 250).map (fun i => (i.zero, i.size, i.bytes)) = some (some (.agg #[.bool false, .string ⟨#[]⟩]), 2, 24) := by kernel_rfl
theorem ldC15 {w : World} {b : Nat} {x0 x1 : Value} (h : Ar w b 250 #[x0, x1]) : (loadVar 250 ⟨b, 0, none⟩).run Tryz.prog w = .ok (.agg #[x0, x1]) w :=
 run_loadVar_row (P := Tryz.prog) w b 250 250 _ (0, 0) _ h Tryz.underlying250 rfl sizeC15

namespace Tg
theorem inn_at {m : List UInt8} {k : Nat} (h : k < inn m) : ∃ c, m[k]? = some c ∧ etB c = true := by
 unfold inn at h
 induction m generalizing k with
 | nil => simp at h
 | cons x r ih =>
  rw [List.takeWhile_cons] at h;cases hx : etB x
  ·rw [hx] at h; simp at h
  ·rw [hx] at h;cases k with
   | zero => exact ⟨x, rfl, hx⟩
   | succ k => simpa using ih (by simpa using h)
theorem inn_stop {m : List UInt8} {c : UInt8} (h : m[inn m]? = some c) : etB c = false := by
 unfold inn at h
 induction m with
 | nil => simp at h
 | cons x r ih =>
  rw [List.takeWhile_cons] at h;cases hx : etB x
  ·rw [hx] at h; simp at h; subst h; exact hx
  ·rw [hx] at h; simp at h; exact ih h
end Tg


namespace Tg
theorem in_at (s : ByteArray) (a k : Nat) (h : a + k < s.size) (hk : k < inn (s.data.toList.drop a)) : etC (s[a + k].toNat : Int) = true := by
 obtain ⟨c, h1, h2⟩ := inn_at hk;rw [List.getElem?_drop, Tx.get_byte s _ h] at h1;injection h1 with h1;subst h1;exact h2
theorem in_stop (s : ByteArray) (a k : Nat) (h : a + k < s.size) (hk : inn (s.data.toList.drop a) = k) : etC (s[a + k].toNat : Int) = false := by
 have h1 : (s.data.toList.drop a)[inn (s.data.toList.drop a)]? = some s[a + k] := by
  rw [hk, List.getElem?_drop, Tx.get_byte s _ h]
 exact inn_stop h1
theorem ext_td (s : ByteArray) (a b : Nat) : s.extract a b = ⟨((s.data.toList.drop a).take (b - a)).toArray⟩ := by
 apply ByteArray.ext;rw [ByteArray.data_extract];apply Array.toList_inj.1;simp [Array.toList_extract, List.extract_eq_take_drop]
end Tg


namespace Tg
theorem done_none {l : List UInt8} (hs : star l = false) (h : go true l = none) : tags l = [] ∧ err l = 150 := by
 have h1 : tags l = [] := by unfold tags; rw [hs, h]; rfl
 refine ⟨h1, ?_⟩;unfold err; rw [hs, h1]; rfl
theorem done_some {l : List UInt8} {os : List Tag} (hs : star l = false) (h : go true l = some os) : tags l = os ∧ err l = if os.isEmpty then 150 else 0 := by
 have h1 : tags l = os := by unfold tags; rw [hs, h]; rfl
 refine ⟨h1, ?_⟩;unfold err; rw [hs, h1]; rfl
theorem done_star {l : List UInt8} (hs : star l = true) : tags l = [] ∧ err l = 0 := by
 unfold err tags; rw [hs]; exact ⟨rfl, rfl⟩
theorem nOf_le {l : List UInt8} (h : isOne l = true) : nOf l ≤ l.length := by
 have hne : l ≠ [] := by rintro rfl; revert h; decide
 exact ((one_app (b := []) hne (fun x hx => by cases hx)).2 h).2.2
theorem nOf_pos (l : List UInt8) : 2 ≤ nOf l := by unfold nOf; omega
theorem drop_c {l : List UInt8} {k : Nat} {c : UInt8} (hc : l[k]? = some c) : l.drop k = c :: l.drop (k + 1) := by
 obtain ⟨h1, h2⟩ := List.getElem?_eq_some_iff.1 hc;rw [List.drop_eq_getElem_cons h1, h2]
theorem map_app {o : Option (List Tag)} {os : List Tag} {t : Tag} : (o.map (t :: ·)).map (os ++ ·) = o.map ((os ++ [t]) ++ ·) := by
 cases o <;> simp
theorem star_at (s : ByteArray) (l : List UInt8) (h : s.data.toList = Tx.trim l) : (s.toList == [42]) = star l := by
 unfold star;rw [Lib.toList_data, h]
theorem size_of_l (l : List UInt8) : (⟨l.toArray⟩ : ByteArray).size = l.length := by simp [ByteArray.size]
end Tg


namespace Tg
theorem u8_is {c : UInt8} {n : Nat} (hn : n < 256) : (c == UInt8.ofNat n) = ((c.toNat : Int) == (n : Int)) := by
 rw [Bool.eq_iff_iff, beq_iff_eq, beq_iff_eq];constructor
 ·rintro rfl; rw [UInt8.toNat_ofNat', Nat.mod_eq_of_lt hn]
 ·intro h;apply UInt8.toNat_inj.1;rw [UInt8.toNat_ofNat', Nat.mod_eq_of_lt hn]; omega
theorem blk_in (c : UInt8) : ([32, 9] : List UInt8).contains c = Tx.blkB c := by
 unfold Tx.blkB Tx.blkC;rw [List.contains_cons, List.contains_cons, List.contains_nil, Bool.or_false];rw [show (c == 32) = ((c.toNat : Int) == ((32 : Nat) : Int)) from u8_is (by decide), show (c == 9) = ((c.toNat : Int) == ((9 : Nat) : Int)) from u8_is (by decide)];rfl
theorem sep_in (c : UInt8) : ([32, 9, 44] : List UInt8).contains c = sepB c := by
 unfold sepB;rw [← blk_in];simp only [List.contains_cons, List.contains_nil, Bool.or_false, Bool.or_assoc]
theorem trim_sep (l : List UInt8) : Lib.trimLeftS l [32, 9, 44] = pieces l := by
 unfold Lib.trimLeftS pieces;congr 1
 funext c
 exact sep_in c
theorem trim_blk (l : List UInt8) : Lib.trimLeftS l [32, 9] = l.dropWhile Tx.blkB := by
 unfold Lib.trimLeftS;congr 1
 funext c
 exact blk_in c
theorem pre_one (l : List UInt8) (c : UInt8) : Lib.hasPrefix l [c] = (l.head? == some c) := by
 unfold Lib.hasPrefix;cases l with
 | nil => rfl
 | cons a r => simp [List.isPrefixOf]; exact Bool.beq_comm
theorem pre_wk (l : List UInt8) : Lib.hasPrefix l [87, 47] = wk l := by
 unfold Lib.hasPrefix wk
 match l with
 | [] => rfl
 | [a] => simp [List.isPrefixOf]
 | a :: b :: r => simp [List.isPrefixOf]; rw [Bool.beq_comm (a := a), Bool.beq_comm (a := b)]
theorem cut_wk (l : List UInt8) : Lib.trimPrefix l [87, 47] = opq l := by
 unfold Lib.trimPrefix opq wn;rw [pre_wk];cases wk l <;> rfl
theorem cut_q (l : List UInt8) : Lib.trimPrefix l [34] = if l.head? == some 34 then l.drop 1 else l := by
 unfold Lib.trimPrefix;rw [pre_one];rfl
def fV (l : List UInt8) : Value := if isOne l then .tuple #[.agg (tV (tagOf l)).toArray, .string ⟨(l.drop (nOf l)).toArray⟩, .bool true] else .tuple #[.agg #[.bool false, .string ⟨#[]⟩], .string ⟨#[]⟩, .bool false]
theorem fV_no {l : List UInt8} (h : isOne l = false) : fV l = .tuple #[.agg #[.bool false, .string ⟨#[]⟩], .string ⟨#[]⟩, .bool false] := by unfold fV; rw [h]; rfl
theorem fV_yes {l : List UInt8} (h : isOne l = true) : fV l = .tuple #[.agg #[.bool (tagOf l).w, .string ⟨(tagOf l).v.toArray⟩], .string ⟨(l.drop (nOf l)).toArray⟩, .bool true] := by unfold fV; rw [h]; rfl
end Tg

theorem cinner15 (c : Int) (b : Bool) (hb : Tg.etC c = b) (w : World) : Calls Tryz.prog 227 #[.int .u8 c] w fun e w' => e = .returned (.bool b) ∧ w' = w := by
 subst hb;unfold Tg.etC;cases h1 : (c == 33) <;> cases h2 : decide (35 ≤ c) <;> cases h3 : decide (c ≤ 126) <;> cases h4 : decide (128 ≤ c)
 all_goals
  go_enter Tryz.func227, Tryz.ntmps227;go_wp2;go_ret;exact ⟨rfl, rfl⟩

theorem cpieces15 (s : ByteArray) (l : List UInt8) (hl : s.data.toList = l) (r : ByteArray) (hr : (⟨(Tg.pieces l).toArray⟩ : ByteArray) = r) (w : World) :
  Calls Tryz.prog 199 #[.string s] w fun e w' => e = .returned (.string r) ∧ Below w.heap.size w w' := by
 have hcon := Any.strings_TrimLeft_laid Tryz.lays161 (by kernel_rfl) s ⟨#[32, 9, 44]⟩ w (by decide) (ascii_of_all (by decide));change Calls Tryz.prog 226 _ _ (fun e w' => e = .returned (.string ⟨(Lib.trimLeftS s.data.toList [32, 9, 44]).toArray⟩) ∧ Below w.heap.size w w') at hcon;rw [Tg.trim_sep, hl, hr] at hcon;clear hr;go_enter Tryz.func199, Tryz.ntmps199;go_wp2_with (go_at_call 226; refine hcon.mono ?_; rintro e w' ⟨rfl, hB⟩);go_ret;exact ⟨rfl, hB⟩

theorem cends15 (s : ByteArray) (l : List UInt8) (hl : s.data.toList = l) (b : Bool) (hb : Tg.ends l = b) (w : World) :
  Calls Tryz.prog 201 #[.string s] w fun e w' => e = .returned (.bool b) ∧ Below w.heap.size w w' := by
 have hcon := Any.strings_TrimLeft_laid Tryz.lays161 (by kernel_rfl) s ⟨#[32, 9]⟩ w (by decide) (ascii_of_all (by decide));change Calls Tryz.prog 226 _ _ (fun e w' => e = .returned (.string ⟨(Lib.trimLeftS s.data.toList [32, 9]).toArray⟩) ∧ Below w.heap.size w w') at hcon;rw [Tg.trim_blk, hl] at hcon;unfold Tg.ends at hb;obtain ⟨u, hu⟩ : ∃ u, l.dropWhile Tx.blkB = u := ⟨_, rfl⟩;rw [hu] at hcon hb;obtain ⟨x, hx⟩ : ∃ x : ByteArray, (⟨u.toArray⟩ : ByteArray) = x := ⟨_, rfl⟩;have hxl : x.data.toList = u := by rw [← hx]
 rw [hx] at hcon;have HP : Hid (∀ W, Calls Tryz.prog 51 #[.string x, .string ⟨#[44]⟩] W fun e w' => e = .returned (.bool (u.head? == some 44)) ∧ w' = W) := hid' (fun W => by have := Tryz.strings_HasPrefix x ⟨#[44]⟩ W; rw [← Tg.pre_one, ← hxl]; exact this);have HC := hid' hcon;have e1 : (x.toList == []) = (u == []) := by rw [Lib.toList_data, hxl]
 clear hcon hu hx hxl;rw [← e1] at hb;cases h1 : (x.toList == [])
 ·rw [h1, Bool.false_or] at hb;rw [hb] at HP;clear e1;go_enter Tryz.func201, Tryz.ntmps201;go_wp2_with fail;refine HC.out.mono ?_;rintro e w1 ⟨rfl, hb1⟩;go_wp2_with fail;refine (HP.out _).mono ?_;rintro e w2 ⟨rfl, hw2⟩;subst w2;go_wp2;go_ret;exact ⟨rfl, hb1⟩
 ·rw [h1, Bool.true_or] at hb;subst hb;clear e1;go_enter Tryz.func201, Tryz.ntmps201;go_wp2_with fail;refine HC.out.mono ?_;rintro e w1 ⟨rfl, hb1⟩;go_wp2;go_ret;exact ⟨rfl, hb1⟩

set_option maxRecDepth 20000 in
theorem cfirst15 (s : ByteArray) (l : List UInt8) (hl : s.data.toList = l) (w : World) (hs : s.size ≤ 140737488355328) :
  Calls Tryz.prog 200 #[.string s] w fun e w' => e = .returned (Tg.fV l) ∧ Below w.heap.size w w' := by
 have HC1 : Hid (∀ W, Calls Tryz.prog 41 #[.string s, .string ⟨#[87, 47]⟩] W fun e w' => e = .returned (.tuple #[.string ⟨(Tg.opq l).toArray⟩, .bool (Tg.wk l)]) ∧ w' = W) := hid' (fun W => by
  have := Tryz.strings_CutPrefix s ⟨#[87, 47]⟩ W;rw [hl] at this;rw [← Tg.pre_wk, ← Tg.cut_wk]; exact this)
 obtain ⟨o, ho⟩ : ∃ o : ByteArray, (⟨(Tg.opq l).toArray⟩ : ByteArray) = o := ⟨_, rfl⟩;have HO : Hid (o.data.toList = Tg.opq l) := hid' (by rw [← ho]);have hos : o.size ≤ 140737488355328 := by
  rw [← ho, Tg.size_of_l]; unfold Tg.opq;rw [List.length_drop, ← hl, ← Lib.size_eq]; omega
 obtain ⟨wkb, hwk⟩ : ∃ b, Tg.wk l = b := ⟨_, rfl⟩;rw [ho, hwk] at HC1;have HWK := hid' hwk;have HC2 : Hid (∀ W, Calls Tryz.prog 41 #[.string o, .string ⟨#[34]⟩] W fun e w' => e = .returned (.tuple #[.string ⟨(if (Tg.opq l).head? == some 34 then (Tg.opq l).drop 1 else Tg.opq l).toArray⟩, .bool ((Tg.opq l).head? == some 34)]) ∧ w' = W) := hid' (fun W => by
  have := Tryz.strings_CutPrefix o ⟨#[34]⟩ W;rw [HO.out] at this;rw [← Tg.cut_q, ← Tg.pre_one]; exact this)
 obtain ⟨x, hx⟩ : ∃ x : ByteArray, (⟨(if (Tg.opq l).head? == some 34 then (Tg.opq l).drop 1 else Tg.opq l).toArray⟩ : ByteArray) = x := ⟨_, rfl⟩;obtain ⟨is, his⟩ : ∃ b, ((Tg.opq l).head? == some 34) = b := ⟨_, rfl⟩;have HXL : Hid (x.data.toList = if is then (Tg.opq l).drop 1 else Tg.opq l) := hid' (by rw [← hx, his]);rw [hx, his] at HC2;have HIS := hid' his;have hxs : x.size ≤ 140737488355328 := by
  rw [Lib.size_eq, HXL.out, ← HO.out];rw [Lib.size_eq] at hos;cases is <;> simp only [Bool.false_eq_true, if_false, if_true, List.length_drop] <;> omega
 obtain ⟨z, hz⟩ : ∃ z, Tg.inn x.data.toList = z := ⟨_, rfl⟩;have HZ := hid' hz;have hzb : z ≤ x.size := by rw [← hz, Lib.size_eq]; exact Tg.inn_le _
 have HP : Hid (∀ W, Calls Tryz.prog 51 #[.string (x.extract z x.size), .string ⟨#[34]⟩] W fun e w' => e = .returned (.bool ((x.data.toList.drop z).head? == some 34)) ∧ w' = W) := hid' (fun W => by
  have := Tryz.strings_HasPrefix (x.extract z x.size) ⟨#[34]⟩ W;rw [Tg.ext_td, List.take_of_length_le (by rw [List.length_drop, ← Lib.size_eq]; exact Nat.le_refl _)] at this ⊢;rw [← Tg.pre_one]; exact this)
 obtain ⟨hp, hhp⟩ : ∃ b, ((x.data.toList.drop z).head? == some 34) = b := ⟨_, rfl⟩;rw [hhp] at HP;have HHP := hid' hhp;have hxe : x = ByteArray.empty → x.size = 0 := fun e => by rw [e]; rfl
 clear ho hwk hx his hz hhp hl hs;go_enter Tryz.func200, Tryz.ntmps200
 go_wp2_with (refine wpl_alloc 250 rfl rfl #[.bool false, .string ⟨#[]⟩] zeroC15 ?_);intro b0 w0 hb0 ha0 hbe0;have HX := hid' ha0;have HB0 := hid' hbe0;have HG0 := hid' hb0;clear hb0 ha0 hbe0;go_wp2_with fail;refine (HC1.out _).mono ?_;rintro e w1 ⟨rfl, hw1⟩;subst w1;go_wp2_with fail;refine (HC2.out _).mono ?_;rintro e w1 ⟨rfl, hw1⟩;subst w1;go_wp2;go_loopw [9] (fun s9 wr => ∃ k : Nat, s9 = .int .i64 (k : Int) ∧ k ≤ z ∧ Hid (wr = w0)) (fun s9 _ => z - (intOf s9).toNat)
 case atStart => exact ⟨0, rfl, Nat.zero_le _, hid' rfl⟩
 case round =>
  obtain ⟨k, rfl, hk, HW⟩ := hrel;obtain rfl := HW.out;by_cases hkz : k < z
  ·have hks : k < x.size := by omega
   have hks2 : (k : Int) < (x.size : Int) := by omega
   have he : Tg.etC (x[k].toNat : Int) = true := by
    have := Tg.in_at x 0 k (by omega) (by rw [List.drop_zero, HZ.out]; exact hkz);simpa using this
   go_wp2_with fail;refine (cinner15 _ _ he _).mono ?_;rintro e wq ⟨rfl, hwq⟩;subst hwq;go_wp2;go_roundw
   case rel => exact ⟨k + 1, by go_num, by omega, HW⟩
   case measure => simp [intOf]; omega
  ·obtain rfl : k = z := by omega
   have hkx : (k : Int) ≤ (x.size : Int) := by omega
   by_cases hks : k < x.size
   ·have hks2 : (k : Int) < (x.size : Int) := by omega
    have he : Tg.etC (x[k].toNat : Int) = false := by
     have := Tg.in_stop x 0 k (by omega) (by rw [List.drop_zero, HZ.out]);simpa using this
    cases is
    ·have HV : Hid (Tg.fV l = .tuple #[.agg #[.bool false, .string ⟨#[]⟩], .string ⟨#[]⟩, .bool false]) := hid' (Tg.fV_no (by unfold Tg.isOne; rw [HIS.out]; rfl));go_wp2_with fail;refine (cinner15 _ _ he _).mono ?_;rintro e wq ⟨rfl, hwq⟩;subst hwq;clear he;go_wp2_with (refine wpl_store 250 _ _ rfl rfl b0 #[.bool false, .string ⟨#[]⟩] (by kernel_rfl) (by kernel_rfl) _ _ HX.out sizeC15 rfl (by simp [Value.oneCell']) ?_);intro w2 ha2 hu2;have hld := ldC15 ha2;have HB2 := hid' (HB0.out.trans (hu2.below HG0.out));clear ha2 hu2;go_wp2;exact bodyPost_ret (v := .tuple #[.agg #[.bool false, .string ⟨#[]⟩], .string ⟨#[]⟩, .bool false]) (by simp [results, Tryz.results200, asAddr, hld]) rfl ⟨by rw [HV.out], HB2.out⟩
    ·have HSZ : Hid (Tg.sz l = k) := hid' (by rw [← HZ.out, HXL.out]; rfl);have HPQ : Hid ((((Tg.opq l).drop (1 + k)).head? == some 34) = hp) := hid' (by
      have := HHP.out;rw [HXL.out, if_pos rfl, List.drop_drop] at this;exact this)
     cases hp
     ·have HV : Hid (Tg.fV l = .tuple #[.agg #[.bool false, .string ⟨#[]⟩], .string ⟨#[]⟩, .bool false]) := hid' (Tg.fV_no (by unfold Tg.isOne; rw [HIS.out, HSZ.out, HPQ.out]; rfl));go_wp2_with fail;refine (cinner15 _ _ he _).mono ?_;rintro e wq ⟨rfl, hwq⟩;subst hwq;clear he;go_wp2_with fail;refine (HP.out _).mono ?_;rintro e w1 ⟨rfl, hw1⟩;subst w1;go_wp2_with (refine wpl_store 250 _ _ rfl rfl b0 #[.bool false, .string ⟨#[]⟩] (by kernel_rfl) (by kernel_rfl) _ _ HX.out sizeC15 rfl (by simp [Value.oneCell']) ?_);intro w2 ha2 hu2;have hld := ldC15 ha2;have HB2 := hid' (HB0.out.trans (hu2.below HG0.out));clear ha2 hu2;go_wp2;exact bodyPost_ret (v := .tuple #[.agg #[.bool false, .string ⟨#[]⟩], .string ⟨#[]⟩, .bool false]) (by simp [results, Tryz.results200, asAddr, hld]) rfl ⟨by rw [HV.out], HB2.out⟩
     ·have H1 : Hid (Tg.isOne l = true) := hid' (by unfold Tg.isOne; rw [HIS.out, HSZ.out, HPQ.out]; rfl);have hko : k + 2 ≤ o.size := by
       rw [Lib.size_eq, HO.out];rcases Nat.lt_or_ge (1 + k) (Tg.opq l).length with h | h
       ·omega
       ·have := HPQ.out;rw [List.drop_eq_nil_of_le h] at this;cases this
      have hko2 : (k : Int) + 2 ≤ (o.size : Int) := by omega
      have hko3 : 1 + k + 1 ≤ o.size := by omega
      have HV : Hid (Tg.fV l = .tuple #[.agg #[.bool wkb, .string (o.extract 0 (k + 2))], .string (o.extract (k + 2) o.size), .bool true]) := hid' (by
       rw [Tg.fV_yes H1.out];unfold Tg.tagOf Tg.nOf;rw [HWK.out, HSZ.out, Tg.ext_td, Tg.ext_td, HO.out, List.drop_zero, Nat.sub_zero, List.take_of_length_le (l := (Tg.opq l).drop (k + 2)) (by rw [List.length_drop, ← HO.out, ← Lib.size_eq]; exact Nat.le_refl _)];unfold Tg.opq;rw [List.drop_drop])
      go_wp2_with fail;refine (cinner15 _ _ he _).mono ?_;rintro e wq ⟨rfl, hwq⟩;subst hwq;clear he;go_wp2_with fail;refine (HP.out _).mono ?_;rintro e w1 ⟨rfl, hw1⟩;subst w1;go_wp2;have p0 := HX.out.cell 0 _ rfl;have p1 := HX.out.cell 1 _ rfl;have pf := HX.out.free 0;have pg := HX.out.free 1;go_region;have HA2 : Hid (Ar (((wq.setCell ⟨b0, 0, none⟩ (.bool wkb)).setCell ⟨b0, 1, none⟩ (.string (o.extract 0 (1 + k + 1)))).drew) b0 250 #[.bool wkb, .string (o.extract 0 (1 + k + 1))]) := hid' (((HX.out.set 0 (.bool wkb)).set 1 (.string (o.extract 0 (1 + k + 1)))).drew);have HB2 : Hid (Below w.heap.size w (((wq.setCell ⟨b0, 0, none⟩ (.bool wkb)).setCell ⟨b0, 1, none⟩ (.string (o.extract 0 (1 + k + 1)))).drew)) := hid' (Below.drew (HB0.out.trans (((upd_setCell wq b0 0 (.bool wkb)).below HG0.out).trans ((upd_setCell _ b0 1 (.string (o.extract 0 (1 + k + 1)))).below HG0.out))));have hld := ldC15 HA2.out;clear p0 p1 pf pg;go_wp2;exact bodyPost_ret (v := .tuple #[.agg #[.bool wkb, .string (o.extract 0 (1 + k + 1))], .string (o.extract (1 + k + 1) o.size), .bool true]) (by simp [results, Tryz.results200, asAddr, hld]) rfl ⟨by rw [HV.out, show 1 + k + 1 = k + 2 by omega], HB2.out⟩
   ·have hks2 : ¬ (k : Int) < (x.size : Int) := by omega
    cases is
    ·have HV : Hid (Tg.fV l = .tuple #[.agg #[.bool false, .string ⟨#[]⟩], .string ⟨#[]⟩, .bool false]) := hid' (Tg.fV_no (by unfold Tg.isOne; rw [HIS.out]; rfl))
     skip
     go_wp2_with (refine wpl_store 250 _ _ rfl rfl b0 #[.bool false, .string ⟨#[]⟩] (by kernel_rfl) (by kernel_rfl) _ _ HX.out sizeC15 rfl (by simp [Value.oneCell']) ?_);intro w2 ha2 hu2;have hld := ldC15 ha2;have HB2 := hid' (HB0.out.trans (hu2.below HG0.out));clear ha2 hu2;go_wp2;exact bodyPost_ret (v := .tuple #[.agg #[.bool false, .string ⟨#[]⟩], .string ⟨#[]⟩, .bool false]) (by simp [results, Tryz.results200, asAddr, hld]) rfl ⟨by rw [HV.out], HB2.out⟩
    ·have HSZ : Hid (Tg.sz l = k) := hid' (by rw [← HZ.out, HXL.out]; rfl);have HPQ : Hid ((((Tg.opq l).drop (1 + k)).head? == some 34) = hp) := hid' (by
      have := HHP.out;rw [HXL.out, if_pos rfl, List.drop_drop] at this;exact this)
     cases hp
     ·have HV : Hid (Tg.fV l = .tuple #[.agg #[.bool false, .string ⟨#[]⟩], .string ⟨#[]⟩, .bool false]) := hid' (Tg.fV_no (by unfold Tg.isOne; rw [HIS.out, HSZ.out, HPQ.out]; rfl))
      skip
      go_wp2_with fail;refine (HP.out _).mono ?_;rintro e w1 ⟨rfl, hw1⟩;subst w1;go_wp2_with (refine wpl_store 250 _ _ rfl rfl b0 #[.bool false, .string ⟨#[]⟩] (by kernel_rfl) (by kernel_rfl) _ _ HX.out sizeC15 rfl (by simp [Value.oneCell']) ?_);intro w2 ha2 hu2;have hld := ldC15 ha2;have HB2 := hid' (HB0.out.trans (hu2.below HG0.out));clear ha2 hu2;go_wp2;exact bodyPost_ret (v := .tuple #[.agg #[.bool false, .string ⟨#[]⟩], .string ⟨#[]⟩, .bool false]) (by simp [results, Tryz.results200, asAddr, hld]) rfl ⟨by rw [HV.out], HB2.out⟩
     ·have H1 : Hid (Tg.isOne l = true) := hid' (by unfold Tg.isOne; rw [HIS.out, HSZ.out, HPQ.out]; rfl);have hko : k + 2 ≤ o.size := by
       rw [Lib.size_eq, HO.out];rcases Nat.lt_or_ge (1 + k) (Tg.opq l).length with h | h
       ·omega
       ·have := HPQ.out;rw [List.drop_eq_nil_of_le h] at this;cases this
      have hko2 : (k : Int) + 2 ≤ (o.size : Int) := by omega
      have hko3 : 1 + k + 1 ≤ o.size := by omega
      have HV : Hid (Tg.fV l = .tuple #[.agg #[.bool wkb, .string (o.extract 0 (k + 2))], .string (o.extract (k + 2) o.size), .bool true]) := hid' (by
       rw [Tg.fV_yes H1.out];unfold Tg.tagOf Tg.nOf;rw [HWK.out, HSZ.out, Tg.ext_td, Tg.ext_td, HO.out, List.drop_zero, Nat.sub_zero, List.take_of_length_le (l := (Tg.opq l).drop (k + 2)) (by rw [List.length_drop, ← HO.out, ← Lib.size_eq]; exact Nat.le_refl _)];unfold Tg.opq;rw [List.drop_drop])
      skip
      go_wp2_with fail;refine (HP.out _).mono ?_;rintro e w1 ⟨rfl, hw1⟩;subst w1;go_wp2;have p0 := HX.out.cell 0 _ rfl;have p1 := HX.out.cell 1 _ rfl;have pf := HX.out.free 0;have pg := HX.out.free 1;go_region;have HA2 : Hid (Ar (((wr.setCell ⟨b0, 0, none⟩ (.bool wkb)).setCell ⟨b0, 1, none⟩ (.string (o.extract 0 (1 + k + 1)))).drew) b0 250 #[.bool wkb, .string (o.extract 0 (1 + k + 1))]) := hid' (((HX.out.set 0 (.bool wkb)).set 1 (.string (o.extract 0 (1 + k + 1)))).drew);have HB2 : Hid (Below w.heap.size w (((wr.setCell ⟨b0, 0, none⟩ (.bool wkb)).setCell ⟨b0, 1, none⟩ (.string (o.extract 0 (1 + k + 1)))).drew)) := hid' (Below.drew (HB0.out.trans (((upd_setCell wr b0 0 (.bool wkb)).below HG0.out).trans ((upd_setCell _ b0 1 (.string (o.extract 0 (1 + k + 1)))).below HG0.out))));have hld := ldC15 HA2.out;clear p0 p1 pf pg;go_wp2;exact bodyPost_ret (v := .tuple #[.agg #[.bool wkb, .string (o.extract 0 (1 + k + 1))], .string (o.extract (1 + k + 1) o.size), .bool true]) (by simp [results, Tryz.results200, asAddr, hld]) rfl ⟨by rw [HV.out, show 1 + k + 1 = k + 2 by omega], HB2.out⟩

end Go.Proofs.YthhpejgpfaikaabGreatDoor
