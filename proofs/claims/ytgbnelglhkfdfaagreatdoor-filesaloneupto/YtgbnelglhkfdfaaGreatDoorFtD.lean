/-
  Tags on lists of bytes: what a list of tags is.
  Tags in memory; bytes of a text: what is of no function.
  The document's etagc and one: by their contracts.
  The document's Parse: by its contract.
  The code's isInner, pieces, endsPiece, first: by their contracts.
  The code's Parse: by its contract.
  Make, the code's and the document's: by their contracts.
  Strong and Weak, the code's and the document's; the code's own, names$1, names: by their contracts.
  The code's names$1 and names: by their contracts.
  The code's valuesOf, valueOf, dateOf of one field or of none: by their contracts.
  The code's conditions of one field or of none: by their contracts.
-/
import Derived.Test.YtgbnelglhkfdfaaGreatDoorFtB
import Derived.Test.YtgbnelglhkfdfaaGreatDoorFtA
import Derived.Test.YtgbnelglhkfdfaaGreatDoorProg
import Derived.WalkKit
import Derived.Laws.Cover1
import Derived.Laws.OwnMore
import Derived.Great.BuildSlice
import Derived.Deep.QuietTactic
import Derived.BigQuiet
import Derived.Maps.AppendAt
import Derived.Deep.CutRange
import Derived.Test.YtgbnelglhkfdfaaGreatDoorShelf
import Derived.Shelf.Strings.SlTrimAscii
import Derived.Test.YtgbnelglhkfdfaaGreatDoorFtC
import Derived.Deep.RegionHeld3
import Derived.Test.YtgbnelglhkfdfaaGreatDoorShCont
import Derived.Shelf.SlicesQ.IndexFunc
import Derived.Laws.StructEq
namespace Go.Proofs.YtgbnelglhkfdfaaGreatDoor
namespace Tg

structure Tag where
  w : Bool
  v : List UInt8
def etC (c : Int) : Bool := (c == 33) || (decide (35 ≤ c) && decide (c ≤ 126)) || decide (128 ≤ c)
def etB (c : UInt8) : Bool := etC (c.toNat : Int)
def wk (l : List UInt8) : Bool := l.take 2 == [87, 47]
def wn (l : List UInt8) : Nat := if wk l then 2 else 0
def inn (l : List UInt8) : Nat := (l.takeWhile etB).length
/-- A tag's quoted part begins here. -/
def opq (l : List UInt8) : List UInt8 := l.drop (wn l)
def sz (l : List UInt8) : Nat := inn ((opq l).drop 1)
def isOne (l : List UInt8) : Bool := (opq l).head? == some 34 && ((opq l).drop (1 + sz l)).head? == some 34
def tagOf (l : List UInt8) : Tag := ⟨wk l, (opq l).take (sz l + 2)⟩
def nOf (l : List UInt8) : Nat := wn l + (sz l + 2)
/-- The tags of a list; none: it is no list. -/
def go (op : Bool) : List UInt8 → Option (List Tag)
  | [] => some []
  | c :: r => if Tx.blkB c then go op r else if c == 44 then go true r else
      if isOne (c :: r) && op then (go false (r.drop (nOf (c :: r) - 1))).map (tagOf (c :: r) :: ·) else none
 termination_by l => l.length
 decreasing_by all_goals simp; try omega

def sepB (c : UInt8) : Bool := Tx.blkB c || c == 44
def pieces (l : List UInt8) : List UInt8 := l.dropWhile sepB
def ends (l : List UInt8) : Bool := (l.dropWhile Tx.blkB == []) || ((l.dropWhile Tx.blkB).head? == some 44)

theorem go_nil (op : Bool) : go op [] = some [] := by rw [go]
theorem go_blank (op : Bool) (c : UInt8) (r : List UInt8) (h : Tx.blkB c = true) : go op (c :: r) = go op r := by rw [go, if_pos h]
theorem go_comma (op : Bool) (r : List UInt8) : go op (44 :: r) = go true r := by
  rw [go, if_neg (by decide), if_pos (by decide)]
theorem go_other (op : Bool) (c : UInt8) (r : List UInt8) (h : Tx.blkB c = false) (h2 : (c == 44) = false) : go op (c :: r) = if isOne (c :: r) && op then (go false ((c :: r).drop (nOf (c :: r)))).map (tagOf (c :: r) :: ·) else none := by
  rw [go, if_neg (by rw [h]; decide), if_neg (by rw [h2]; decide)]
  have : (c :: r).drop (nOf (c :: r)) = r.drop (nOf (c :: r) - 1) := by
    rw [show nOf (c :: r) = (nOf (c :: r) - 1) + 1 by unfold nOf; omega, List.drop_succ_cons]
    rfl
  rw [this]
theorem go_dw (op : Bool) (l : List UInt8) : go op (l.dropWhile Tx.blkB) = go op l := by
  induction l with
  | nil => rfl
  | cons c r ih =>
    cases h : Tx.blkB c
    · rw [List.dropWhile_cons, h]; rfl
    · rw [List.dropWhile_cons, h, go_blank op c r h, ← ih]; rfl
theorem go_pieces (l : List UInt8) : go true (pieces l) = go true l := by
  unfold pieces
  induction l with
  | nil => rfl
  | cons c r ih =>
    cases h : Tx.blkB c
    · cases h2 : c == 44
      · rw [List.dropWhile_cons, sepB, h, h2]; rfl
      · obtain rfl := eq_of_beq h2
        rw [List.dropWhile_cons, show sepB 44 = true by decide, go_comma, ← ih]; rfl
    · rw [List.dropWhile_cons, sepB, h, go_blank true c r h, ← ih]; rfl
theorem pieces_head {l : List UInt8} {c : UInt8} {r : List UInt8} (h : pieces l = c :: r) : Tx.blkB c = false ∧ (c == 44) = false := by
  have h1 : sepB c = false := by
    have := List.head?_dropWhile_not sepB l
    unfold pieces at h
    rw [h] at this
    simpa using this
  unfold sepB at h1
  rw [Bool.or_eq_false_iff] at h1
  exact h1
/-- Behind a tag. -/
theorem go_behind (l : List UInt8) : go false l = if ends l then go true (pieces l) else none := by
  unfold ends
  have hp : pieces l = pieces (l.dropWhile Tx.blkB) := by
    unfold pieces
    induction l with
    | nil => rfl
    | cons c r ih =>
      cases h : Tx.blkB c
      · rw [List.dropWhile_cons (p := Tx.blkB), h]; rfl
      · rw [List.dropWhile_cons, List.dropWhile_cons (p := Tx.blkB), h, sepB, h]
        exact ih
  rw [← go_dw false l, hp, go_pieces]
  cases hq : l.dropWhile Tx.blkB with
  | nil => simp [go_nil]
  | cons c r =>
    have hb : Tx.blkB c = false := by
      have := List.head?_dropWhile_not Tx.blkB l
      rw [hq] at this
      simpa using this
    cases h2 : c == 44
    · rw [go_other false c r hb h2]
      have : (some c == some (44 : UInt8)) = false := by simpa using h2
      simp [this]
    · obtain rfl := eq_of_beq h2
      rw [go_comma, go_comma]
      simp
theorem go_step {l : List UInt8} {c : UInt8} {r : List UInt8} (hl : l = c :: r) (hb : Tx.blkB c = false) (h2 : (c == 44) = false) :
    go true l = if isOne l && ends (l.drop (nOf l)) then (go true (pieces (l.drop (nOf l)))).map (tagOf l :: ·) else none := by
  subst hl
  rw [go_other true c r hb h2, go_behind]
  cases isOne (c :: r)
  · simp
  · cases ends ((c :: r).drop (nOf (c :: r))) <;> simp

-- blanks behind
theorem blk_not {x : UInt8} (h : Tx.blkB x = true) : x ≠ 34 ∧ x ≠ 47 ∧ x ≠ 87 ∧ etB x = false := by
  unfold Tx.blkB Tx.blkC at h
  rw [Bool.or_eq_true] at h
  have hx : x = 32 ∨ x = 9 := by
    rcases h with h | h
    · left; apply UInt8.toNat_inj.1; have := eq_of_beq h; simp; omega
    · right; apply UInt8.toNat_inj.1; have := eq_of_beq h; simp; omega
  rcases hx with rfl | rfl <;> decide
theorem head_app {o b : List UInt8} (hb : ∀ x ∈ b, Tx.blkB x = true) : ((o ++ b).head? == some 34) = (o.head? == some 34) := by
  cases o with
  | cons c r => rfl
  | nil =>
    cases b with
    | nil => rfl
    | cons x y =>
      have := (blk_not (hb x (by simp))).1
      simp [this]
theorem inn_app {o b : List UInt8} (hb : ∀ x ∈ b, Tx.blkB x = true) : inn (o ++ b) = inn o := by
  unfold inn
  induction o with
  | nil =>
    cases b with
    | nil => rfl
    | cons x y => simp [(blk_not (hb x (by simp))).2.2.2]
  | cons c r ih =>
    rw [List.cons_append, List.takeWhile_cons, List.takeWhile_cons]
    cases etB c
    · rfl
    · simp [ih]
theorem inn_le (l : List UInt8) : inn l ≤ l.length := (List.takeWhile_sublist etB).length_le
theorem wk_app {l b : List UInt8} (hl : l ≠ []) (hb : ∀ x ∈ b, Tx.blkB x = true) : wk (l ++ b) = wk l := by
  unfold wk
  match l, hl with
  | [c], _ =>
    cases b with
    | nil => rfl
    | cons x y =>
      have := (blk_not (hb x (by simp))).2.1
      simp [this]
  | c :: d :: r, _ => simp
theorem wn_le (l : List UInt8) : wn l ≤ l.length := by
  unfold wn
  cases h : wk l
  · simp
  · unfold wk at h
    have := congrArg List.length (eq_of_beq h)
    simp at this
    simp; omega
theorem opq_app {l b : List UInt8} (hl : l ≠ []) (hb : ∀ x ∈ b, Tx.blkB x = true) : opq (l ++ b) = opq l ++ b := by
  have e : wn (l ++ b) = wn l := by unfold wn; rw [wk_app hl hb]
  unfold opq
  rw [e, List.drop_append_of_le_length (wn_le l)]
theorem drop_app1 (o b : List UInt8) (hb : ∀ x ∈ b, Tx.blkB x = true) : inn ((o ++ b).drop 1) = inn (o.drop 1) := by
  cases o with
  | nil =>
    have : inn (b.drop 1) = inn ([] ++ b.drop 1) := rfl
    rw [List.nil_append, this, inn_app (fun x hx => hb x (List.mem_of_mem_drop hx))]
    rfl
  | cons c r => simpa using inn_app (o := r) hb
theorem one_app {l b : List UInt8} (hl : l ≠ []) (hb : ∀ x ∈ b, Tx.blkB x = true) : isOne (l ++ b) = isOne l ∧ (isOne l = true → tagOf (l ++ b) = tagOf l ∧ nOf (l ++ b) = nOf l ∧ nOf l ≤ l.length) := by
  have e1 := opq_app hl hb
  have e2 : sz (l ++ b) = sz l := by unfold sz; rw [e1, drop_app1 _ _ hb]
  have e3 : wn (l ++ b) = wn l := by unfold wn; rw [wk_app hl hb]
  have hi := inn_le ((opq l).drop 1)
  have hol : (opq l).length = l.length - wn l := by unfold opq; simp
  have hwl := wn_le l
  have h1 : isOne (l ++ b) = isOne l := by
    unfold isOne
    rw [e1, e2, head_app hb]
    cases hh : (opq l).head? == some 34
    · rfl
    · have hne : 1 ≤ (opq l).length := by
        cases ho : opq l with
        | nil => rw [ho] at hh; simp at hh
        | cons c r => simp
      have : 1 + sz l ≤ (opq l).length := by
        unfold sz
        rw [List.length_drop] at hi; omega
      rw [List.drop_append_of_le_length this, head_app hb]
  refine ⟨h1, fun ho => ?_⟩
  unfold isOne at ho
  rw [Bool.and_eq_true] at ho
  have hlt : 1 + sz l < (opq l).length := by
    cases hd : (opq l).drop (1 + sz l) with
    | nil => rw [hd] at ho; simp at ho
    | cons c r =>
      have := congrArg List.length hd
      simp at this; omega
  refine ⟨?_, ?_, ?_⟩
  · unfold tagOf
    rw [wk_app hl hb, e1, e2, List.take_append_of_le_length (by omega)]
  · unfold nOf; rw [e3, e2]
  · unfold nOf; omega
theorem dw_all {b : List UInt8} (hb : ∀ x ∈ b, Tx.blkB x = true) : b.dropWhile Tx.blkB = [] := by
  have := Tx.dw_skip b [] hb
  simpa using this
theorem go_app : ∀ (n : Nat) (op : Bool) (l b : List UInt8), l.length ≤ n → (∀ x ∈ b, Tx.blkB x = true) → go op (l ++ b) = go op l := by
  intro n
  induction n with
  | zero =>
    intro op l b hl hb
    obtain rfl : l = [] := List.eq_nil_of_length_eq_zero (by omega)
    rw [List.nil_append, ← go_dw, dw_all hb]
  | succ n ih =>
    intro op l b hl hb
    cases l with
    | nil => rw [List.nil_append, ← go_dw, dw_all hb]
    | cons c r =>
      have hr : r.length ≤ n := by simpa using hl
      cases h : Tx.blkB c
      · cases h2 : c == 44
        · obtain ⟨o1, o2⟩ := one_app (l := c :: r) (by simp) hb
          rw [List.cons_append, go_other op c _ h h2, go_other op c _ h h2, ← List.cons_append, o1]
          cases ho : isOne (c :: r)
          · rfl
          · obtain ⟨q1, q2, q3⟩ := o2 ho
            rw [q1, q2, List.drop_append_of_le_length q3, ih false _ b (by rw [List.length_drop]; simp only [List.length_cons]; unfold nOf; omega) hb]
        · obtain rfl := eq_of_beq h2
          rw [List.cons_append, go_comma, go_comma, ih true r b hr hb]
      · rw [List.cons_append, go_blank op c _ h, go_blank op c _ h, ih op r b hr hb]
theorem go_trim (l : List UInt8) : go true (Tx.trim l) = go true l := by
  obtain ⟨a, b, hl, ha, hb⟩ := Tx.trim_parts l
  have h1 : go true l = go true (a ++ Tx.trim l) := by
    conv => lhs; rw [hl]
    exact go_app _ true _ b (Nat.le_refl _) hb
  rw [h1]
  clear h1 hl
  induction a with
  | nil => rfl
  | cons c r ih =>
    rw [List.cons_append, go_blank true c _ (ha c (by simp))]
    exact ih (fun x hx => ha x (by simp [hx]))
/-- What Parse answers: a star; the tags; 150. -/
def star (l : List UInt8) : Bool := Tx.trim l == [42]
def tags (l : List UInt8) : List Tag := if star l then [] else (go true l).getD []
def err (l : List UInt8) : Int := if star l then 0 else if (tags l).isEmpty then 150 else 0
end Tg
end Go.Proofs.YtgbnelglhkfdfaaGreatDoor

namespace Go.Proofs.YtgbnelglhkfdfaaGreatDoor
open Go.RowKit

theorem bl_alloc (w : World) (x : Obj) : Below w.heap.size w (w.alloc x) := (Below.refl _ _).alloc (Nat.le_refl _) _
theorem own_lit (w : World) (e : TypeId) (xs : List Value) (n s : Nat) (hl : xs.length = n * s) (hn : n ≤ maxLen) (B : Nat) (hB : B ≤ w.heap.size) : (w.alloc (.cells xs.toArray e)).ownsRow B e s (.slice (some ⟨w.heap.size, 0, none⟩) n n) n xs :=
  ⟨hl, .inr ⟨w.heap.size, n, xs.toArray, rfl, hB, heap_alloc_last w _, Nat.le_refl _, hn, by simpa using hl, by rw [← hl]; simp⟩⟩
theorem own_keep15 {w w' : World} {B : Nat} {e : TypeId} {s : Nat} {v : Value} {n : Nat} {xs : List Value} (h : w.ownsRow B e s v n xs) (hb : Below w.heap.size w w') : w'.ownsRow B e s v n xs := own_same h (fun j hj => hb.block j (own_lt h j hj))

def tV (t : Tg.Tag) : List Value := [.bool t.w, .string ⟨t.v.toArray⟩]
def tC (l : List Tg.Tag) : List Value := l.flatMap tV
theorem tC_append (l m : List Tg.Tag) : tC (l ++ m) = tC l ++ tC m := by simp [tC]
theorem tC_length (l : List Tg.Tag) : (tC l).length = l.length * 2 := by
  induction l with
  | nil => rfl
  | cons a r ih => simp only [tC, List.flatMap_cons, List.length_append, List.length_cons] at *; simp [tV] at *; omega
theorem t_at (l : List Tg.Tag) (i : Nat) (p : Tg.Tag) (h : l[i]? = some p) : ∀ j, j < 2 → (tC l)[i * 2 + j]? = (tV p)[j]? := by
  induction l generalizing i with
  | nil => simp at h
  | cons a r ih =>
    intro j hj
    rw [show tC (a :: r) = tV a ++ tC r from rfl]
    cases i with
    | zero => simp at h; subst h; rw [List.getElem?_append_left (by simp [tV]; omega)]; congr 1; omega
    | succ i =>
      rw [List.getElem?_append_right (by simp [tV]; omega), show (i + 1) * 2 + j - (tV a).length = i * 2 + j by simp [tV]; omega]
      exact ih i (by simpa using h) j hj
/-- Tags of a row of one's own. -/
theorem own_two {w : World} {B : Nat} {e : TypeId} {ao : Option Addr} {n m cap : Nat} {l : List Tg.Tag} (h : w.ownsRow B e 2 (.slice ao n cap) m (tC l)) (i : Nat) (p : Tg.Tag) (hp : l[i]? = some p) : ∃ g, ao = some ⟨g, 0, none⟩ ∧ w.cell? ⟨g, i * 2, none⟩ = some (.bool p.w) ∧ w.cell? ⟨g, i * 2 + 1, none⟩ = some (.string ⟨p.v.toArray⟩) := by
  have hlt : i * 2 < (tC l).length := by rw [tC_length]; have := (List.getElem?_eq_some_iff.1 hp).1; omega
  rcases h.2 with ⟨_, h0⟩ | ⟨g, cap', cur, h1, h2⟩
  · rw [h.1, h0] at hlt; omega
  · injection h1 with h1 h3 h4
    subst h1
    have key : ∀ j u, j < 2 → (tV p)[j]? = some u → w.cell? ⟨g, i * 2 + j, none⟩ = some u := fun j u hj hu => by
      have := h.cells (g := g) rfl _ u ((t_at l i p hp j hj).trans hu)
      rwa [Addr.add_mid, Nat.zero_add] at this
    exact ⟨g, rfl, key 0 _ (by omega) rfl, key 1 _ (by omega) rfl⟩

theorem zeroC15 : (Tryz.prog.info? 119).map (fun i => i.zero) = some (some (.agg #[.bool false, .string ⟨#[]⟩])) := by kernel_rfl
theorem sizeC15 : (Tryz.prog.info? 119).map (·.size) = some 2 := by kernel_rfl
theorem infoC15 : (Tryz.prog.info? 119).map (fun i => (i.zero, i.size, i.bytes)) = some (some (.agg #[.bool false, .string ⟨#[]⟩]), 2, 24) := by kernel_rfl
theorem ldC15 {w : World} {b : Nat} {x0 x1 : Value} (h : Ar w b 119 #[x0, x1]) : (loadVar 119 ⟨b, 0, none⟩).run Tryz.prog w = .ok (.agg #[x0, x1]) w :=
  run_loadVar_row (P := Tryz.prog) w b 119 119 _ (0, 0) _ h Tryz.underlying119 rfl sizeC15

namespace Tg
theorem inn_at {m : List UInt8} {k : Nat} (h : k < inn m) : ∃ c, m[k]? = some c ∧ etB c = true := by
  unfold inn at h
  induction m generalizing k with
  | nil => simp at h
  | cons x r ih =>
    rw [List.takeWhile_cons] at h
    cases hx : etB x
    · rw [hx] at h; simp at h
    · rw [hx] at h
      cases k with
      | zero => exact ⟨x, rfl, hx⟩
      | succ k => simpa using ih (by simpa using h)
theorem inn_stop {m : List UInt8} {c : UInt8} (h : m[inn m]? = some c) : etB c = false := by
  unfold inn at h
  induction m with
  | nil => simp at h
  | cons x r ih =>
    rw [List.takeWhile_cons] at h
    cases hx : etB x
    · rw [hx] at h; simp at h; subst h; exact hx
    · rw [hx] at h; simp at h; exact ih h
end Tg

end Go.Proofs.YtgbnelglhkfdfaaGreatDoor

namespace Go.Proofs.YtgbnelglhkfdfaaGreatDoor
open Go.RowKit

namespace Tg
/-- What one answers. -/
def rV (l : List UInt8) : Value := if isOne l then .tuple #[.agg (tV (tagOf l)).toArray, .int .i64 (nOf l : Int)] else .tuple #[.agg #[.bool false, .string ⟨#[]⟩], .int .i64 0]
theorem rV_no {l : List UInt8} (h : isOne l = false) : rV l = .tuple #[.agg #[.bool false, .string ⟨#[]⟩], .int .i64 0] := by unfold rV; rw [h]; rfl
theorem rV_yes {l : List UInt8} (h : isOne l = true) : rV l = .tuple #[.agg #[.bool (tagOf l).w, .string ⟨(tagOf l).v.toArray⟩], .int .i64 (nOf l : Int)] := by unfold rV; rw [h]; rfl
theorem q_at (s : ByteArray) (k : Nat) (h : k < s.size) : ((s.data.toList.drop k).head? == some 34) = ((s[k].toNat : Int) == 34) := by
  have h1 : (s.data.toList.drop k).head? = some s[k] := by
    rw [List.head?_drop, Tx.get_byte s k h]
  rw [h1, Bool.eq_iff_iff, beq_iff_eq, beq_iff_eq]
  constructor
  · intro e; injection e with e; rw [e]; rfl
  · intro e; congr 1; apply UInt8.toNat_inj.1; simp; omega
theorem in_at (s : ByteArray) (a k : Nat) (h : a + k < s.size) (hk : k < inn (s.data.toList.drop a)) : etC (s[a + k].toNat : Int) = true := by
  obtain ⟨c, h1, h2⟩ := inn_at hk
  rw [List.getElem?_drop, Tx.get_byte s _ h] at h1
  injection h1 with h1
  subst h1
  exact h2
theorem in_stop (s : ByteArray) (a k : Nat) (h : a + k < s.size) (hk : inn (s.data.toList.drop a) = k) : etC (s[a + k].toNat : Int) = false := by
  have h1 : (s.data.toList.drop a)[inn (s.data.toList.drop a)]? = some s[a + k] := by
    rw [hk, List.getElem?_drop, Tx.get_byte s _ h]
  exact inn_stop h1
theorem ext_td (s : ByteArray) (a b : Nat) : s.extract a b = ⟨((s.data.toList.drop a).take (b - a)).toArray⟩ := by
  apply ByteArray.ext
  rw [ByteArray.data_extract]
  apply Array.toList_inj.1
  simp [Array.toList_extract, List.extract_eq_take_drop]
theorem wk_at (s : ByteArray) : ((s.extract 0 2).toList == [87, 47]) = wk s.data.toList := by
  unfold wk
  rw [ext_td s 0 2, Lib.toList_data]
  rfl
theorem wk_no (s : ByteArray) (h : ¬ 2 ≤ s.size) : wk s.data.toList = false := by
  unfold wk
  rw [Bool.eq_false_iff]
  intro e
  have := congrArg List.length (eq_of_beq e)
  rw [List.length_take, ← Lib.size_eq] at this
  simp at this
  omega
end Tg

end Go.Proofs.YtgbnelglhkfdfaaGreatDoor

namespace Go.Proofs.YtgbnelglhkfdfaaGreatDoor
open Go.RowKit

namespace Tg
theorem done_none {l : List UInt8} (hs : star l = false) (h : go true l = none) : tags l = [] ∧ err l = 150 := by
  have h1 : tags l = [] := by unfold tags; rw [hs, h]; rfl
  refine ⟨h1, ?_⟩
  unfold err; rw [hs, h1]; rfl
theorem done_some {l : List UInt8} {os : List Tag} (hs : star l = false) (h : go true l = some os) : tags l = os ∧ err l = if os.isEmpty then 150 else 0 := by
  have h1 : tags l = os := by unfold tags; rw [hs, h]; rfl
  refine ⟨h1, ?_⟩
  unfold err; rw [hs, h1]; rfl
theorem done_star {l : List UInt8} (hs : star l = true) : tags l = [] ∧ err l = 0 := by
  unfold err tags; rw [hs]; exact ⟨rfl, rfl⟩
theorem nOf_le {l : List UInt8} (h : isOne l = true) : nOf l ≤ l.length := by
  have hne : l ≠ [] := by rintro rfl; revert h; decide
  exact ((one_app (b := []) hne (fun x hx => by cases hx)).2 h).2.2
theorem nOf_pos (l : List UInt8) : 2 ≤ nOf l := by unfold nOf; omega
theorem drop_c {l : List UInt8} {k : Nat} {c : UInt8} (hc : l[k]? = some c) : l.drop k = c :: l.drop (k + 1) := by
  obtain ⟨h1, h2⟩ := List.getElem?_eq_some_iff.1 hc
  rw [List.drop_eq_getElem_cons h1, h2]
theorem map_app {o : Option (List Tag)} {os : List Tag} {t : Tag} : (o.map (t :: ·)).map (os ++ ·) = o.map ((os ++ [t]) ++ ·) := by
  cases o <;> simp
theorem star_at (s : ByteArray) (l : List UInt8) (h : s.data.toList = Tx.trim l) : (s.toList == [42]) = star l := by
  unfold star
  rw [Lib.toList_data, h]
theorem size_of_l (l : List UInt8) : (⟨l.toArray⟩ : ByteArray).size = l.length := by simp [ByteArray.size]
theorem comma_at (s : ByteArray) (k : Nat) (h : k < s.size) : (s[k] == 44) = ((s[k].toNat : Int) == 44) := by
  rw [Bool.eq_iff_iff, beq_iff_eq, beq_iff_eq]
  constructor
  · intro e; rw [e]; rfl
  · intro e; apply UInt8.toNat_inj.1; simp; omega
end Tg

end Go.Proofs.YtgbnelglhkfdfaaGreatDoor

namespace Go.Proofs.YtgbnelglhkfdfaaGreatDoor
open Go.RowKit

namespace Tg
theorem u8_is {c : UInt8} {n : Nat} (hn : n < 256) : (c == UInt8.ofNat n) = ((c.toNat : Int) == (n : Int)) := by
  rw [Bool.eq_iff_iff, beq_iff_eq, beq_iff_eq]
  constructor
  · rintro rfl; rw [UInt8.toNat_ofNat', Nat.mod_eq_of_lt hn]
  · intro h
    apply UInt8.toNat_inj.1
    rw [UInt8.toNat_ofNat', Nat.mod_eq_of_lt hn]; omega
theorem blk_in (c : UInt8) : ([32, 9] : List UInt8).contains c = Tx.blkB c := by
  unfold Tx.blkB Tx.blkC
  rw [List.contains_cons, List.contains_cons, List.contains_nil, Bool.or_false]
  rw [show (c == 32) = ((c.toNat : Int) == ((32 : Nat) : Int)) from u8_is (by decide), show (c == 9) = ((c.toNat : Int) == ((9 : Nat) : Int)) from u8_is (by decide)]
  rfl
theorem sep_in (c : UInt8) : ([32, 9, 44] : List UInt8).contains c = sepB c := by
  unfold sepB
  rw [← blk_in]
  simp only [List.contains_cons, List.contains_nil, Bool.or_false, Bool.or_assoc]
theorem trim_sep (l : List UInt8) : Lib.trimLeftS l [32, 9, 44] = pieces l := by
  unfold Lib.trimLeftS pieces
  congr 1
  funext c
  exact sep_in c
theorem trim_blk (l : List UInt8) : Lib.trimLeftS l [32, 9] = l.dropWhile Tx.blkB := by
  unfold Lib.trimLeftS
  congr 1
  funext c
  exact blk_in c
theorem pre_one (l : List UInt8) (c : UInt8) : Lib.hasPrefix l [c] = (l.head? == some c) := by
  unfold Lib.hasPrefix
  cases l with
  | nil => rfl
  | cons a r => simp [List.isPrefixOf]; exact Bool.beq_comm
theorem pre_wk (l : List UInt8) : Lib.hasPrefix l [87, 47] = wk l := by
  unfold Lib.hasPrefix wk
  match l with
  | [] => rfl
  | [a] => simp [List.isPrefixOf]
  | a :: b :: r => simp [List.isPrefixOf]; rw [Bool.beq_comm (a := a), Bool.beq_comm (a := b)]
theorem cut_wk (l : List UInt8) : Lib.trimPrefix l [87, 47] = opq l := by
  unfold Lib.trimPrefix opq wn
  rw [pre_wk]
  cases wk l <;> rfl
theorem cut_q (l : List UInt8) : Lib.trimPrefix l [34] = if l.head? == some 34 then l.drop 1 else l := by
  unfold Lib.trimPrefix
  rw [pre_one]
  rfl
/-- What first answers. -/
def fV (l : List UInt8) : Value := if isOne l then .tuple #[.agg (tV (tagOf l)).toArray, .string ⟨(l.drop (nOf l)).toArray⟩, .bool true] else .tuple #[.agg #[.bool false, .string ⟨#[]⟩], .string ⟨#[]⟩, .bool false]
theorem fV_no {l : List UInt8} (h : isOne l = false) : fV l = .tuple #[.agg #[.bool false, .string ⟨#[]⟩], .string ⟨#[]⟩, .bool false] := by unfold fV; rw [h]; rfl
theorem fV_yes {l : List UInt8} (h : isOne l = true) : fV l = .tuple #[.agg #[.bool (tagOf l).w, .string ⟨(tagOf l).v.toArray⟩], .string ⟨(l.drop (nOf l)).toArray⟩, .bool true] := by unfold fV; rw [h]; rfl
end Tg

set_option maxHeartbeats 1000000 in
theorem cinner15 (c : Int) (b : Bool) (hb : Tg.etC c = b) (w : World) : Calls Tryz.prog 140 #[.int .u8 c] w fun e w' => e = .returned (.bool b) ∧ w' = w := by
  subst hb
  unfold Tg.etC
  cases h1 : (c == 33) <;> cases h2 : decide (35 ≤ c) <;> cases h3 : decide (c ≤ 126) <;> cases h4 : decide (128 ≤ c)
  all_goals
    go_enter Tryz.func140, Tryz.ntmps140
    go_wp2
    go_ret
    exact ⟨rfl, rfl⟩

set_option maxHeartbeats 1000000 in
theorem cpieces15 (s : ByteArray) (l : List UInt8) (hl : s.data.toList = l) (r : ByteArray) (hr : (⟨(Tg.pieces l).toArray⟩ : ByteArray) = r) (w : World) :
    Calls Tryz.prog 99 #[.string s] w fun e w' => e = .returned (.string r) ∧ Below w.heap.size w w' := by
  have hcon := Any.strings_TrimLeft_laid Tryz.lays161 (by kernel_rfl) s ⟨#[32, 9, 44]⟩ w (by decide) (ascii_of_all (by decide))
  change Calls Tryz.prog 139 _ _ (fun e w' => e = .returned (.string ⟨(Lib.trimLeftS s.data.toList [32, 9, 44]).toArray⟩) ∧ Below w.heap.size w w') at hcon
  rw [Tg.trim_sep, hl, hr] at hcon
  clear hr
  go_enter Tryz.func99, Tryz.ntmps99
  go_wp2_with (go_at_call 139; refine hcon.mono ?_; rintro e w' ⟨rfl, hB⟩)
  go_ret
  exact ⟨rfl, hB⟩

set_option maxHeartbeats 1000000 in
theorem cends15 (s : ByteArray) (l : List UInt8) (hl : s.data.toList = l) (b : Bool) (hb : Tg.ends l = b) (w : World) :
    Calls Tryz.prog 101 #[.string s] w fun e w' => e = .returned (.bool b) ∧ Below w.heap.size w w' := by
  have hcon := Any.strings_TrimLeft_laid Tryz.lays161 (by kernel_rfl) s ⟨#[32, 9]⟩ w (by decide) (ascii_of_all (by decide))
  change Calls Tryz.prog 139 _ _ (fun e w' => e = .returned (.string ⟨(Lib.trimLeftS s.data.toList [32, 9]).toArray⟩) ∧ Below w.heap.size w w') at hcon
  rw [Tg.trim_blk, hl] at hcon
  unfold Tg.ends at hb
  obtain ⟨u, hu⟩ : ∃ u, l.dropWhile Tx.blkB = u := ⟨_, rfl⟩
  rw [hu] at hcon hb
  obtain ⟨x, hx⟩ : ∃ x : ByteArray, (⟨u.toArray⟩ : ByteArray) = x := ⟨_, rfl⟩
  have hxl : x.data.toList = u := by rw [← hx]
  rw [hx] at hcon
  have HP : Hid (∀ W, Calls Tryz.prog 64 #[.string x, .string ⟨#[44]⟩] W fun e w' => e = .returned (.bool (u.head? == some 44)) ∧ w' = W) := hid' (fun W => by have := Tryz.strings_HasPrefix x ⟨#[44]⟩ W; rw [← Tg.pre_one, ← hxl]; exact this)
  have HC := hid' hcon
  have e1 : (x.toList == []) = (u == []) := by rw [Lib.toList_data, hxl]
  clear hcon hu hx hxl
  rw [← e1] at hb
  cases h1 : (x.toList == [])
  · rw [h1, Bool.false_or] at hb
    rw [hb] at HP
    clear e1
    go_enter Tryz.func101, Tryz.ntmps101
    go_wp2_with fail
    refine HC.out.mono ?_
    rintro e w1 ⟨rfl, hb1⟩
    go_wp2_with fail
    refine (HP.out _).mono ?_
    rintro e w2 ⟨rfl, hw2⟩
    subst w2
    go_wp2
    go_ret
    exact ⟨rfl, hb1⟩
  · rw [h1, Bool.true_or] at hb
    subst hb
    clear e1
    go_enter Tryz.func101, Tryz.ntmps101
    go_wp2_with fail
    refine HC.out.mono ?_
    rintro e w1 ⟨rfl, hb1⟩
    go_wp2
    go_ret
    exact ⟨rfl, hb1⟩

set_option maxHeartbeats 4000000 in
set_option maxRecDepth 20000 in
theorem cfirst15 (s : ByteArray) (l : List UInt8) (hl : s.data.toList = l) (w : World) (hs : s.size ≤ 140737488355328) :
    Calls Tryz.prog 100 #[.string s] w fun e w' => e = .returned (Tg.fV l) ∧ Below w.heap.size w w' := by
  have HC1 : Hid (∀ W, Calls Tryz.prog 36 #[.string s, .string ⟨#[87, 47]⟩] W fun e w' => e = .returned (.tuple #[.string ⟨(Tg.opq l).toArray⟩, .bool (Tg.wk l)]) ∧ w' = W) := hid' (fun W => by
    have := Tryz.strings_CutPrefix s ⟨#[87, 47]⟩ W
    rw [hl] at this
    rw [← Tg.pre_wk, ← Tg.cut_wk]; exact this)
  obtain ⟨o, ho⟩ : ∃ o : ByteArray, (⟨(Tg.opq l).toArray⟩ : ByteArray) = o := ⟨_, rfl⟩
  have HO : Hid (o.data.toList = Tg.opq l) := hid' (by rw [← ho])
  have hos : o.size ≤ 140737488355328 := by
    rw [← ho, Tg.size_of_l]; unfold Tg.opq
    rw [List.length_drop, ← hl, ← Lib.size_eq]; omega
  obtain ⟨wkb, hwk⟩ : ∃ b, Tg.wk l = b := ⟨_, rfl⟩
  rw [ho, hwk] at HC1
  have HWK := hid' hwk
  have HC2 : Hid (∀ W, Calls Tryz.prog 36 #[.string o, .string ⟨#[34]⟩] W fun e w' => e = .returned (.tuple #[.string ⟨(if (Tg.opq l).head? == some 34 then (Tg.opq l).drop 1 else Tg.opq l).toArray⟩, .bool ((Tg.opq l).head? == some 34)]) ∧ w' = W) := hid' (fun W => by
    have := Tryz.strings_CutPrefix o ⟨#[34]⟩ W
    rw [HO.out] at this
    rw [← Tg.cut_q, ← Tg.pre_one]; exact this)
  obtain ⟨x, hx⟩ : ∃ x : ByteArray, (⟨(if (Tg.opq l).head? == some 34 then (Tg.opq l).drop 1 else Tg.opq l).toArray⟩ : ByteArray) = x := ⟨_, rfl⟩
  obtain ⟨is, his⟩ : ∃ b, ((Tg.opq l).head? == some 34) = b := ⟨_, rfl⟩
  have HXL : Hid (x.data.toList = if is then (Tg.opq l).drop 1 else Tg.opq l) := hid' (by rw [← hx, his])
  rw [hx, his] at HC2
  have HIS := hid' his
  have hxs : x.size ≤ 140737488355328 := by
    rw [Lib.size_eq, HXL.out, ← HO.out]
    rw [Lib.size_eq] at hos
    cases is <;> simp only [Bool.false_eq_true, if_false, if_true, List.length_drop] <;> omega
  obtain ⟨z, hz⟩ : ∃ z, Tg.inn x.data.toList = z := ⟨_, rfl⟩
  have HZ := hid' hz
  have hzb : z ≤ x.size := by rw [← hz, Lib.size_eq]; exact Tg.inn_le _
  have HP : Hid (∀ W, Calls Tryz.prog 64 #[.string (x.extract z x.size), .string ⟨#[34]⟩] W fun e w' => e = .returned (.bool ((x.data.toList.drop z).head? == some 34)) ∧ w' = W) := hid' (fun W => by
    have := Tryz.strings_HasPrefix (x.extract z x.size) ⟨#[34]⟩ W
    rw [Tg.ext_td, List.take_of_length_le (by rw [List.length_drop, ← Lib.size_eq]; exact Nat.le_refl _)] at this ⊢
    rw [← Tg.pre_one]; exact this)
  obtain ⟨hp, hhp⟩ : ∃ b, ((x.data.toList.drop z).head? == some 34) = b := ⟨_, rfl⟩
  rw [hhp] at HP
  have HHP := hid' hhp
  have hxe : x = ByteArray.empty → x.size = 0 := fun e => by rw [e]; rfl
  clear ho hwk hx his hz hhp hl hs
  go_enter Tryz.func100, Tryz.ntmps100
  go_wp2_with (refine wpl_alloc 119 rfl rfl #[.bool false, .string ⟨#[]⟩] zeroC15 ?_)
  intro b0 w0 hb0 ha0 hbe0
  have HX := hid' ha0
  have HB0 := hid' hbe0
  have HG0 := hid' hb0
  clear hb0 ha0 hbe0
  go_wp2_with fail
  refine (HC1.out _).mono ?_
  rintro e w1 ⟨rfl, hw1⟩
  subst w1
  go_wp2_with fail
  refine (HC2.out _).mono ?_
  rintro e w1 ⟨rfl, hw1⟩
  subst w1
  go_wp2
  go_loopw [9] (fun s9 wr => ∃ k : Nat, s9 = .int .i64 (k : Int) ∧ k ≤ z ∧ Hid (wr = w0)) (fun s9 _ => z - (intOf s9).toNat)
  case atStart => exact ⟨0, rfl, Nat.zero_le _, hid' rfl⟩
  case round =>
    obtain ⟨k, rfl, hk, HW⟩ := hrel
    obtain rfl := HW.out
    by_cases hkz : k < z
    · have hks : k < x.size := by omega
      have hks2 : (k : Int) < (x.size : Int) := by omega
      have he : Tg.etC (x[k].toNat : Int) = true := by
        have := Tg.in_at x 0 k (by omega) (by rw [List.drop_zero, HZ.out]; exact hkz)
        simpa using this
      go_wp2_with fail
      refine (cinner15 _ _ he _).mono ?_
      rintro e wq ⟨rfl, hwq⟩
      subst hwq
      go_wp2
      go_roundw
      case rel => exact ⟨k + 1, by go_num, by omega, HW⟩
      case measure => simp [intOf]; omega
    · obtain rfl : k = z := by omega
      have hkx : (k : Int) ≤ (x.size : Int) := by omega
      by_cases hks : k < x.size
      · have hks2 : (k : Int) < (x.size : Int) := by omega
        have he : Tg.etC (x[k].toNat : Int) = false := by
          have := Tg.in_stop x 0 k (by omega) (by rw [List.drop_zero, HZ.out])
          simpa using this
        cases is
        · have HV : Hid (Tg.fV l = .tuple #[.agg #[.bool false, .string ⟨#[]⟩], .string ⟨#[]⟩, .bool false]) := hid' (Tg.fV_no (by unfold Tg.isOne; rw [HIS.out]; rfl))
          go_wp2_with fail
          refine (cinner15 _ _ he _).mono ?_
          rintro e wq ⟨rfl, hwq⟩
          subst hwq
          clear he
          go_wp2_with (refine wpl_store 119 _ _ rfl rfl b0 #[.bool false, .string ⟨#[]⟩] (by kernel_rfl) (by kernel_rfl) _ _ HX.out sizeC15 rfl (by simp [Value.oneCell']) ?_)
          intro w2 ha2 hu2
          have hld := ldC15 ha2
          have HB2 := hid' (HB0.out.trans (hu2.below HG0.out))
          clear ha2 hu2
          go_wp2
          exact bodyPost_ret (v := .tuple #[.agg #[.bool false, .string ⟨#[]⟩], .string ⟨#[]⟩, .bool false]) (by simp [results, Tryz.results100, asAddr, hld]) rfl ⟨by rw [HV.out], HB2.out⟩
        · have HSZ : Hid (Tg.sz l = k) := hid' (by rw [← HZ.out, HXL.out]; rfl)
          have HPQ : Hid ((((Tg.opq l).drop (1 + k)).head? == some 34) = hp) := hid' (by
            have := HHP.out
            rw [HXL.out, if_pos rfl, List.drop_drop] at this
            exact this)
          cases hp
          · have HV : Hid (Tg.fV l = .tuple #[.agg #[.bool false, .string ⟨#[]⟩], .string ⟨#[]⟩, .bool false]) := hid' (Tg.fV_no (by unfold Tg.isOne; rw [HIS.out, HSZ.out, HPQ.out]; rfl))
            go_wp2_with fail
            refine (cinner15 _ _ he _).mono ?_
            rintro e wq ⟨rfl, hwq⟩
            subst hwq
            clear he
            go_wp2_with fail
            refine (HP.out _).mono ?_
            rintro e w1 ⟨rfl, hw1⟩
            subst w1
            go_wp2_with (refine wpl_store 119 _ _ rfl rfl b0 #[.bool false, .string ⟨#[]⟩] (by kernel_rfl) (by kernel_rfl) _ _ HX.out sizeC15 rfl (by simp [Value.oneCell']) ?_)
            intro w2 ha2 hu2
            have hld := ldC15 ha2
            have HB2 := hid' (HB0.out.trans (hu2.below HG0.out))
            clear ha2 hu2
            go_wp2
            exact bodyPost_ret (v := .tuple #[.agg #[.bool false, .string ⟨#[]⟩], .string ⟨#[]⟩, .bool false]) (by simp [results, Tryz.results100, asAddr, hld]) rfl ⟨by rw [HV.out], HB2.out⟩
          · have H1 : Hid (Tg.isOne l = true) := hid' (by unfold Tg.isOne; rw [HIS.out, HSZ.out, HPQ.out]; rfl)
            have hko : k + 2 ≤ o.size := by
              rw [Lib.size_eq, HO.out]
              rcases Nat.lt_or_ge (1 + k) (Tg.opq l).length with h | h
              · omega
              · have := HPQ.out
                rw [List.drop_eq_nil_of_le h] at this
                cases this
            have hko2 : (k : Int) + 2 ≤ (o.size : Int) := by omega
            have hko3 : 1 + k + 1 ≤ o.size := by omega
            have HV : Hid (Tg.fV l = .tuple #[.agg #[.bool wkb, .string (o.extract 0 (k + 2))], .string (o.extract (k + 2) o.size), .bool true]) := hid' (by
              rw [Tg.fV_yes H1.out]
              unfold Tg.tagOf Tg.nOf
              rw [HWK.out, HSZ.out, Tg.ext_td, Tg.ext_td, HO.out, List.drop_zero, Nat.sub_zero, List.take_of_length_le (l := (Tg.opq l).drop (k + 2)) (by rw [List.length_drop, ← HO.out, ← Lib.size_eq]; exact Nat.le_refl _)]
              unfold Tg.opq
              rw [List.drop_drop])
            go_wp2_with fail
            refine (cinner15 _ _ he _).mono ?_
            rintro e wq ⟨rfl, hwq⟩
            subst hwq
            clear he
            go_wp2_with fail
            refine (HP.out _).mono ?_
            rintro e w1 ⟨rfl, hw1⟩
            subst w1
            go_wp2
            have p0 := HX.out.cell 0 _ rfl
            have p1 := HX.out.cell 1 _ rfl
            have pf := HX.out.free 0
            have pg := HX.out.free 1
            go_region
            have HA2 : Hid (Ar (((wq.setCell ⟨b0, 0, none⟩ (.bool wkb)).setCell ⟨b0, 1, none⟩ (.string (o.extract 0 (1 + k + 1)))).drew) b0 119 #[.bool wkb, .string (o.extract 0 (1 + k + 1))]) := hid' (((HX.out.set 0 (.bool wkb)).set 1 (.string (o.extract 0 (1 + k + 1)))).drew)
            have HB2 : Hid (Below w.heap.size w (((wq.setCell ⟨b0, 0, none⟩ (.bool wkb)).setCell ⟨b0, 1, none⟩ (.string (o.extract 0 (1 + k + 1)))).drew)) := hid' (Below.drew (HB0.out.trans (((upd_setCell wq b0 0 (.bool wkb)).below HG0.out).trans ((upd_setCell _ b0 1 (.string (o.extract 0 (1 + k + 1)))).below HG0.out))))
            have hld := ldC15 HA2.out
            clear p0 p1 pf pg
            go_wp2
            exact bodyPost_ret (v := .tuple #[.agg #[.bool wkb, .string (o.extract 0 (1 + k + 1))], .string (o.extract (1 + k + 1) o.size), .bool true]) (by simp [results, Tryz.results100, asAddr, hld]) rfl ⟨by rw [HV.out, show 1 + k + 1 = k + 2 by omega], HB2.out⟩
      · have hks2 : ¬ (k : Int) < (x.size : Int) := by omega
        cases is
        · have HV : Hid (Tg.fV l = .tuple #[.agg #[.bool false, .string ⟨#[]⟩], .string ⟨#[]⟩, .bool false]) := hid' (Tg.fV_no (by unfold Tg.isOne; rw [HIS.out]; rfl))
          skip
          go_wp2_with (refine wpl_store 119 _ _ rfl rfl b0 #[.bool false, .string ⟨#[]⟩] (by kernel_rfl) (by kernel_rfl) _ _ HX.out sizeC15 rfl (by simp [Value.oneCell']) ?_)
          intro w2 ha2 hu2
          have hld := ldC15 ha2
          have HB2 := hid' (HB0.out.trans (hu2.below HG0.out))
          clear ha2 hu2
          go_wp2
          exact bodyPost_ret (v := .tuple #[.agg #[.bool false, .string ⟨#[]⟩], .string ⟨#[]⟩, .bool false]) (by simp [results, Tryz.results100, asAddr, hld]) rfl ⟨by rw [HV.out], HB2.out⟩
        · have HSZ : Hid (Tg.sz l = k) := hid' (by rw [← HZ.out, HXL.out]; rfl)
          have HPQ : Hid ((((Tg.opq l).drop (1 + k)).head? == some 34) = hp) := hid' (by
            have := HHP.out
            rw [HXL.out, if_pos rfl, List.drop_drop] at this
            exact this)
          cases hp
          · have HV : Hid (Tg.fV l = .tuple #[.agg #[.bool false, .string ⟨#[]⟩], .string ⟨#[]⟩, .bool false]) := hid' (Tg.fV_no (by unfold Tg.isOne; rw [HIS.out, HSZ.out, HPQ.out]; rfl))
            skip
            go_wp2_with fail
            refine (HP.out _).mono ?_
            rintro e w1 ⟨rfl, hw1⟩
            subst w1
            go_wp2_with (refine wpl_store 119 _ _ rfl rfl b0 #[.bool false, .string ⟨#[]⟩] (by kernel_rfl) (by kernel_rfl) _ _ HX.out sizeC15 rfl (by simp [Value.oneCell']) ?_)
            intro w2 ha2 hu2
            have hld := ldC15 ha2
            have HB2 := hid' (HB0.out.trans (hu2.below HG0.out))
            clear ha2 hu2
            go_wp2
            exact bodyPost_ret (v := .tuple #[.agg #[.bool false, .string ⟨#[]⟩], .string ⟨#[]⟩, .bool false]) (by simp [results, Tryz.results100, asAddr, hld]) rfl ⟨by rw [HV.out], HB2.out⟩
          · have H1 : Hid (Tg.isOne l = true) := hid' (by unfold Tg.isOne; rw [HIS.out, HSZ.out, HPQ.out]; rfl)
            have hko : k + 2 ≤ o.size := by
              rw [Lib.size_eq, HO.out]
              rcases Nat.lt_or_ge (1 + k) (Tg.opq l).length with h | h
              · omega
              · have := HPQ.out
                rw [List.drop_eq_nil_of_le h] at this
                cases this
            have hko2 : (k : Int) + 2 ≤ (o.size : Int) := by omega
            have hko3 : 1 + k + 1 ≤ o.size := by omega
            have HV : Hid (Tg.fV l = .tuple #[.agg #[.bool wkb, .string (o.extract 0 (k + 2))], .string (o.extract (k + 2) o.size), .bool true]) := hid' (by
              rw [Tg.fV_yes H1.out]
              unfold Tg.tagOf Tg.nOf
              rw [HWK.out, HSZ.out, Tg.ext_td, Tg.ext_td, HO.out, List.drop_zero, Nat.sub_zero, List.take_of_length_le (l := (Tg.opq l).drop (k + 2)) (by rw [List.length_drop, ← HO.out, ← Lib.size_eq]; exact Nat.le_refl _)]
              unfold Tg.opq
              rw [List.drop_drop])
            skip
            go_wp2_with fail
            refine (HP.out _).mono ?_
            rintro e w1 ⟨rfl, hw1⟩
            subst w1
            go_wp2
            have p0 := HX.out.cell 0 _ rfl
            have p1 := HX.out.cell 1 _ rfl
            have pf := HX.out.free 0
            have pg := HX.out.free 1
            go_region
            have HA2 : Hid (Ar (((wr.setCell ⟨b0, 0, none⟩ (.bool wkb)).setCell ⟨b0, 1, none⟩ (.string (o.extract 0 (1 + k + 1)))).drew) b0 119 #[.bool wkb, .string (o.extract 0 (1 + k + 1))]) := hid' (((HX.out.set 0 (.bool wkb)).set 1 (.string (o.extract 0 (1 + k + 1)))).drew)
            have HB2 : Hid (Below w.heap.size w (((wr.setCell ⟨b0, 0, none⟩ (.bool wkb)).setCell ⟨b0, 1, none⟩ (.string (o.extract 0 (1 + k + 1)))).drew)) := hid' (Below.drew (HB0.out.trans (((upd_setCell wr b0 0 (.bool wkb)).below HG0.out).trans ((upd_setCell _ b0 1 (.string (o.extract 0 (1 + k + 1)))).below HG0.out))))
            have hld := ldC15 HA2.out
            clear p0 p1 pf pg
            go_wp2
            exact bodyPost_ret (v := .tuple #[.agg #[.bool wkb, .string (o.extract 0 (1 + k + 1))], .string (o.extract (1 + k + 1) o.size), .bool true]) (by simp [results, Tryz.results100, asAddr, hld]) rfl ⟨by rw [HV.out, show 1 + k + 1 = k + 2 by omega], HB2.out⟩

end Go.Proofs.YtgbnelglhkfdfaaGreatDoor

namespace Go.Proofs.YtgbnelglhkfdfaaGreatDoor
open Go.RowKit

namespace Tg
theorem pieces_le (l : List UInt8) : (pieces l).length ≤ l.length := (List.dropWhile_sublist sepB).length_le
theorem step_no {u : List UInt8} {c : UInt8} {r : List UInt8} (hu : u = c :: r) (hb : Tx.blkB c = false ∧ (c == 44) = false) (h : isOne u = false) : go true u = none := by
  rw [go_step hu hb.1 hb.2, h]; rfl
theorem step_bad {u : List UInt8} {c : UInt8} {r : List UInt8} (hu : u = c :: r) (hb : Tx.blkB c = false ∧ (c == 44) = false) (h : ends (u.drop (nOf u)) = false) : go true u = none := by
  rw [go_step hu hb.1 hb.2, h, Bool.and_false]; rfl
theorem step_yes {u : List UInt8} {c : UInt8} {r : List UInt8} (hu : u = c :: r) (hb : Tx.blkB c = false ∧ (c == 44) = false) (h1 : isOne u = true) (h2 : ends (u.drop (nOf u)) = true) : go true u = (go true (pieces (u.drop (nOf u)))).map (tagOf u :: ·) := by
  rw [go_step hu hb.1 hb.2, h1, h2]; rfl
end Tg

set_option maxHeartbeats 8000000 in
set_option maxRecDepth 20000 in
theorem cparse15 (s : ByteArray) (l : List UInt8) (hl : s.data.toList = l) (w : World) (hs : s.size ≤ 1048576) :
    Calls Tryz.prog 73 #[.string s] w fun e w' => (∃ m ro rc, e = .returned (.tuple #[.slice ro m rc, .bool (Tg.star l), .int .i64 (Tg.err l)]) ∧ (Tg.tags l).length = m ∧ w'.ownsRow w.heap.size 119 2 (.slice ro m rc) m (tC (Tg.tags l))) ∧ Below w.heap.size w w' := by
  obtain ⟨i0, hi0, hz0, hz1, hz2⟩ := minfo_parts infoC15
  have HI := hid' hi0
  have HZ0 := hid' hz0
  have HZ1 := hid' hz1
  have HZ2 := hid' hz2
  clear hi0 hz0 hz1 hz2
  have q22 : ∀ (w : World) (a : Option Addr) (n c : Nat), (binOp .eql 115 (.slice a n c) (.slice none 0 0)).run Tryz.prog w = .ok (.bool a.isNone) w := fun w a n c => Lib.run_eql_slice_nil w _ _ a n c 0 0 Tryz.underlying115
  have hR := trim_any s w (by unfold maxLen; omega)
  rw [hl] at hR
  obtain ⟨t, ht⟩ : ∃ t : ByteArray, (⟨(Tx.trim l).toArray⟩ : ByteArray) = t := ⟨_, rfl⟩
  have HT : Hid (t.data.toList = Tx.trim l) := hid' (by rw [← ht])
  rw [ht] at hR
  have HR := hid' hR
  clear hR ht
  obtain ⟨r0, hr0⟩ : ∃ r0 : ByteArray, (⟨(Tg.pieces l).toArray⟩ : ByteArray) = r0 := ⟨_, rfl⟩
  have HR0 : Hid (r0.data.toList = Tg.pieces l) := hid' (by rw [← hr0])
  have hrs : r0.size ≤ s.size := by
    rw [Lib.size_eq, HR0.out, Lib.size_eq s, hl]; exact Tg.pieces_le l
  have HP0 := hid' (cpieces15 s l hl r0 hr0 w)
  clear hr0
  cases hst : Tg.star l
  · have HST := hid' hst
    have hs2 : (t.toList == [42]) = false := by rw [Tg.star_at t l HT.out]; exact hst
    clear hst
    go_enter Tryz.func73, Tryz.ntmps73
    go_wp2_with fail
    refine HR.out.mono ?_
    rintro e wq ⟨rfl, hwq⟩
    subst wq
    go_wp2_with fail
    refine HP0.out.mono ?_
    rintro e wq ⟨rfl, hbq⟩
    have HBQ := hid' hbq
    clear hbq hs2
    go_wp2
    go_loopw [5, 6] (fun s5 s6 wr => ∃ (m : Nat) (r : ByteArray) (p : List UInt8) (os : List Tg.Tag) (ro : Option Addr) (rc : Nat), s6 = .string r ∧ s5 = .slice ro m rc ∧ m + r.size ≤ s.size ∧ (m = 0 → ro = none) ∧ Hid (r.data.toList = Tg.pieces p) ∧ Hid (os.length = m) ∧ Hid (Tg.go true l = (Tg.go true r.data.toList).map (os ++ ·)) ∧ Hid (wr.ownsRow w.heap.size 119 2 (.slice ro m rc) m (tC os)) ∧ Hid (Below w.heap.size w wr)) (fun _ s6 _ => Tx.strLen s6)
    case atStart => exact ⟨0, r0, l, [], none, 0, rfl, rfl, by omega, fun _ => rfl, HR0, hid' rfl, hid' (by rw [HR0.out, Tg.go_pieces]; simp), hid' (World.ownsRow_nil _ _ _ _), HBQ⟩
    case round =>
      obtain ⟨m, r, p, os, ro, rc, rfl, rfl, hms, hmn, HRP, HML, HG, HO, HB⟩ := hrel
      obtain ⟨u, hu⟩ : ∃ u, r.data.toList = u := ⟨_, rfl⟩
      have HU := hid' hu
      rw [hu] at HG HRP
      have hsz : r.size = u.length := by rw [Lib.size_eq, hu]
      have hne : r.toList.isEmpty = u.isEmpty := by rw [Lib.toList_data, hu]
      clear hu
      cases hc : u with
      | nil =>
        rw [hc] at hne HG hsz
        have hne2 : r.toList.isEmpty = true := by rw [hne]; rfl
        have HE : Hid (Tg.tags l = os ∧ Tg.err l = if os.isEmpty then 150 else 0) := hid' (Tg.done_some HST.out (by rw [HG.out, Tg.go_nil]; simp))
        clear hne
        by_cases hm0 : m = 0
        · obtain rfl := hmn hm0
          subst hm0
          have hos : os = [] := List.eq_nil_of_length_eq_zero HML.out
          have HE2 : Hid (Tg.tags l = [] ∧ Tg.err l = 150) := hid' (by rw [HE.out.1, HE.out.2, hos]; exact ⟨rfl, rfl⟩)
          clear hos
          go_wp2
          go_ret3
          exact ⟨⟨0, none, 0, by rw [HE2.out.2]; rfl, by rw [HE2.out.1]; rfl, by rw [HE2.out.1]; exact World.ownsRow_nil _ _ _ _⟩, HB.out⟩
        · have hsome : ∃ g, ro = some ⟨g, 0, none⟩ := by
            rcases HO.out.2 with ⟨_, h0⟩ | ⟨g, cap, cur, h1, _⟩
            · exact absurd h0 hm0
            · injection h1 with h1 _ _; exact ⟨g, h1⟩
          obtain ⟨g, rfl⟩ := hsome
          have HE2 : Hid (Tg.err l = 0) := hid' (by
            rw [HE.out.2]
            cases os with
            | nil => exact absurd HML.out.symm hm0
            | cons a b => rfl)
          go_wp2
          go_ret3
          exact ⟨⟨m, some ⟨g, 0, none⟩, rc, by rw [HE2.out]; rfl, by rw [HE.out.1]; exact HML.out, by rw [HE.out.1]; exact HO.out⟩, HB.out⟩
      | cons c q =>
        have HC := hid' hc
        have HCB := hid' (Tg.pieces_head (by rw [← HRP.out]; exact hc))
        have hne2 : r.toList.isEmpty = false := by rw [hne, hc]; rfl
        clear hne hc
        cases h1 : Tg.isOne u
        · have HE : Hid (Tg.tags l = [] ∧ Tg.err l = 150) := hid' (Tg.done_none HST.out (by rw [HG.out, Tg.step_no HC.out HCB.out h1]; rfl))
          have HFV := hid' (Tg.fV_no h1)
          clear h1
          go_wp2_with fail
          refine (cfirst15 r u HU.out _ (by omega)).mono ?_
          rw [HFV.out]
          rintro e wq ⟨rfl, hbq⟩
          have HBq := hid' (below_two HB.out hbq)
          clear hbq
          go_wp2
          go_ret3
          exact ⟨⟨0, none, 0, by rw [HE.out.2]; rfl, by rw [HE.out.1]; rfl, by rw [HE.out.1]; exact World.ownsRow_nil _ _ _ _⟩, below_two HBq.out (bl_alloc _ _)⟩
        · have HFV := hid' (Tg.fV_yes h1)
          obtain ⟨n, hn⟩ : ∃ n, Tg.nOf u = n := ⟨_, rfl⟩
          obtain ⟨g, hg⟩ : ∃ g, Tg.tagOf u = g := ⟨_, rfl⟩
          obtain ⟨y, hy⟩ : ∃ y : ByteArray, (⟨(u.drop n).toArray⟩ : ByteArray) = y := ⟨_, rfl⟩
          have HY : Hid (y.data.toList = u.drop n) := hid' (by rw [← hy])
          have hn1 : 2 ≤ n := by rw [← hn]; exact Tg.nOf_pos u
          have hn2 : n ≤ u.length := by rw [← hn]; exact Tg.nOf_le h1
          have hys : y.size + n = r.size := by rw [Lib.size_eq, HY.out, List.length_drop, hsz]; omega
          rw [hn, hg, hy] at HFV
          cases h2 : Tg.ends (u.drop n)
          · have HE : Hid (Tg.tags l = [] ∧ Tg.err l = 150) := hid' (Tg.done_none HST.out (by rw [HG.out, Tg.step_bad HC.out HCB.out (by rw [hn]; exact h2)]; rfl))
            have HEN := hid' h2
            clear h1 h2 hn hg hy
            go_wp2_with fail
            refine (cfirst15 r u HU.out _ (by omega)).mono ?_
            rw [HFV.out]
            rintro e wq ⟨rfl, hbq⟩
            have HBq := hid' (below_two HB.out hbq)
            have HBa := hid' (below_two HBq.out (bl_alloc wq (.cells #[.bool g.w, .string ⟨g.v.toArray⟩] 119)))
            clear hbq
            go_wp2_with fail
            generalize wq.alloc (.cells #[.bool g.w, .string ⟨g.v.toArray⟩] 119) = w1 at *
            refine (cends15 y _ HY.out false HEN.out _).mono ?_
            rintro e w2 ⟨rfl, hb2⟩
            have HB2 := hid' (below_two HBa.out hb2)
            clear hb2
            go_wp2
            go_ret3
            exact ⟨⟨0, none, 0, by rw [HE.out.2]; rfl, by rw [HE.out.1]; rfl, by rw [HE.out.1]; exact World.ownsRow_nil _ _ _ _⟩, HB2.out⟩
          · obtain ⟨r2, hr2⟩ : ∃ r2 : ByteArray, (⟨(Tg.pieces (u.drop n)).toArray⟩ : ByteArray) = r2 := ⟨_, rfl⟩
            have HR2 : Hid (r2.data.toList = Tg.pieces (u.drop n)) := hid' (by rw [← hr2])
            have hr2s : r2.size ≤ y.size := by rw [Lib.size_eq, HR2.out, Lib.size_eq, HY.out]; exact Tg.pieces_le _
            have HP2 := hid' (fun W => cpieces15 y _ HY.out r2 hr2 W)
            have HG2 : Hid (Tg.go true l = (Tg.go true r2.data.toList).map ((os ++ [g]) ++ ·)) := hid' (by
              rw [HG.out, Tg.step_yes HC.out HCB.out h1 (by rw [hn]; exact h2), hn, hg, HR2.out]
              exact Tg.map_app)
            have HEN := hid' h2
            clear h1 h2 hn hg hy hr2
            go_wp2_with fail
            refine (cfirst15 r u HU.out _ (by omega)).mono ?_
            rw [HFV.out]
            rintro e wq ⟨rfl, hbq⟩
            have HBq := hid' (below_two HB.out hbq)
            have HOq := hid' (own_keep15 HO.out hbq)
            have HBa := hid' (below_two HBq.out (bl_alloc wq (.cells #[.bool g.w, .string ⟨g.v.toArray⟩] 119)))
            have HOa := hid' (HOq.out.alloc (.cells #[.bool g.w, .string ⟨g.v.toArray⟩] 119))
            have HL : Hid (Ar (wq.alloc (.cells #[.bool g.w, .string ⟨g.v.toArray⟩] 119)) wq.heap.size 119 #[.bool g.w, .string ⟨g.v.toArray⟩]) := hid' (heap_alloc_last wq _)
            clear hbq
            go_wp2_with fail
            obtain ⟨fb, hfb⟩ : ∃ fb, wq.heap.size = fb := ⟨_, rfl⟩
            rw [hfb] at HL ⊢
            generalize wq.alloc (.cells #[.bool g.w, .string ⟨g.v.toArray⟩] 119) = w1 at *
            clear hfb
            refine (cends15 y _ HY.out true HEN.out _).mono ?_
            rintro e w2 ⟨rfl, hb2⟩
            have HB2 := hid' (below_two HBa.out hb2)
            have HO2 := hid' (own_keep15 HOa.out hb2)
            have HL2 := hid' (HL.out.keep hb2)
            have p0 := HL2.out.cell 0 _ rfl
            have p1 := HL2.out.cell 1 _ rfl
            have HA : Hid ((w2.alloc (.cells #[.bool g.w, .string ⟨g.v.toArray⟩] 119)).ownsRow w.heap.size 119 2 (.slice ro m rc) m (tC os)) := hid' (HO2.out.alloc _)
            clear hb2 HL HBa HOa
            go_wp2_with (at_builtin; refine wpList_append_own_at _ rfl _ _ 115 rfl w.heap.size 119 i0 (.agg #[.bool false, .string ⟨#[]⟩]) 2 24 Tryz.underlying115 HI.out HZ0.out HZ1.out HZ2.out rfl (by decide) (.slice ro m rc) m (tC os) rfl HA.out ⟨w2.heap.size, 0, none⟩ 1 1 [.bool g.w, .string ⟨g.v.toArray⟩] rfl rfl (two_new _ _ _ _) (by simp [Value.oneCell']) (by unfold maxLen; omega) (by omega) (by simp; have := HB2.out.size; omega) ?_; intro v3 w3 hown3 hgrow3 _ _; refine Hid.out ?_)
            refine hid' ?_
            have e : tC os ++ [Value.bool g.w, .string ⟨g.v.toArray⟩] = tC (os ++ [g]) := by rw [tC_append]; simp [tV, tC]
            rw [e] at hown3
            obtain ⟨v3o, v3c, hv3⟩ := own_shape hown3
            subst hv3
            have HO3 := hid' hown3
            have HB3 : Hid (Below w.heap.size w w3) := hid' ((HB2.out.alloc HB2.out.size _).grown hgrow3 (by simp; have := HB2.out.size; omega) (fun k hk => (HA.out.lt k hk).1))
            clear hown3 hgrow3 e p0 p1
            go_wp2_with fail
            refine (HP2.out _).mono ?_
            rintro e w4 ⟨rfl, hb4⟩
            have HB4 := hid' (below_two HB3.out hb4)
            have HO4 := hid' (own_keep15 HO3.out hb4)
            clear hb4
            go_wp2
            go_roundw
            case rel => exact ⟨m + 1, r2, u.drop n, os ++ [g], v3o, v3c, rfl, rfl, by omega, fun h => by omega, HR2, hid' (by rw [List.length_append, HML.out]; rfl), HG2, HO4, HB4⟩
            case measure => simp [Tx.strLen]; omega
  · have HST := hid' hst
    have HE := hid' (Tg.done_star hst)
    have hs2 : (t.toList == [42]) = true := by rw [Tg.star_at t l HT.out]; exact hst
    clear hst
    go_enter Tryz.func73, Tryz.ntmps73
    go_wp2_with fail
    refine HR.out.mono ?_
    rintro e wq ⟨rfl, hwq⟩
    subst wq
    go_wp2
    go_ret3
    exact ⟨⟨0, none, 0, by rw [HE.out.2]; rfl, by rw [HE.out.1]; rfl, by rw [HE.out.1]; exact World.ownsRow_nil _ _ _ _⟩, Below.refl _ _⟩

end Go.Proofs.YtgbnelglhkfdfaaGreatDoor

namespace Go.Proofs.YtgbnelglhkfdfaaGreatDoor
open Go.RowKit

namespace Tg
/-- A file's tag. -/
def mk (q : Int) (n : Nat) : List UInt8 := 34 :: (Lib.itoa (max q 0) ++ 45 :: (Lib.itoa (n : Int) ++ [34]))
def mkB (q : Int) (n : Nat) : ByteArray := ⟨(mk q n).toArray⟩
theorem mk_cat (a b : List UInt8) : ((((⟨#[34]⟩ : ByteArray) ++ ⟨a.toArray⟩) ++ ⟨#[45]⟩) ++ ⟨b.toArray⟩) ++ ⟨#[34]⟩ = ⟨(34 :: (a ++ 45 :: (b ++ [34]))).toArray⟩ := by
  apply ByteArray.ext; simp
end Tg
def flC (y : ByteArray) (t q : Int) : Array Value := #[.string y, .int .i64 t, .int .i64 q]

set_option maxHeartbeats 4000000 in
set_option maxRecDepth 20000 in
theorem cmake15 (y : ByteArray) (t q : Int) (w : World) (hy : y.size ≤ 9223372036854775807) (q0 : -9223372036854775808 ≤ q) (q1 : q ≤ 9223372036854775807) (hT : Lib.TabIs Tryz.prog w "internal/strconv.uint64pow10" .u64 Lib.pow10Tab) :
    Calls Tryz.prog 49 #[.agg (flC y t q)] w fun e w' => e = .returned (.string (Tg.mkB q y.size)) ∧ Below w.heap.size w w' := by
  have HT := hid' hT
  unfold flC
  have HX : Hid (Ar (w.alloc (.cells #[.string y, .int .i64 t, .int .i64 q] 31)) w.heap.size 31 #[.string y, .int .i64 t, .int .i64 q]) := hid' (heap_alloc_last w _)
  have HB1 := hid' (bl_alloc w (.cells #[.string y, .int .i64 t, .int .i64 q] 31))
  clear hT
  obtain ⟨a, ha⟩ : ∃ a, Lib.itoa (max q 0) = a := ⟨_, rfl⟩
  obtain ⟨b, hb⟩ : ∃ b, Lib.itoa (y.size : Int) = b := ⟨_, rfl⟩
  have la : a.length ≤ 21 := by rw [← ha]; exact Tx.itoa_le _ 19 (by omega)
  have lb : b.length ≤ 21 := by rw [← hb]; exact Tx.itoa_le _ 19 (by omega)
  have HAB : Hid (Tg.mkB q y.size = ⟨(34 :: (a ++ 45 :: (b ++ [34]))).toArray⟩) := hid' (by unfold Tg.mkB Tg.mk; rw [ha, hb])
  have HA := hid' ha
  have HBB := hid' hb
  have k1 : ¬ 9223372036854775807 < 1 + a.length := by omega
  have k2 : ¬ 9223372036854775807 < 1 + a.length + 1 := by omega
  have k3 : ¬ 9223372036854775807 < 1 + a.length + 1 + b.length := by omega
  have k4 : ¬ 9223372036854775807 < 1 + a.length + 1 + b.length + 1 := by omega
  clear ha hb
  go_enter Tryz.func49, Tryz.ntmps49
  go_upto_region 1 with fail
  obtain ⟨xb, hxb⟩ : ∃ xb, w.heap.size = xb := ⟨_, rfl⟩
  rw [hxb] at HX ⊢
  generalize w.alloc (.cells #[.string y, .int .i64 t, .int .i64 q] 31) = w1 at *
  have hS : w1.cell? ⟨xb, 0, none⟩ = some (.string y) ∧ w1.cell? ⟨xb, 2, none⟩ = some (.int .i64 q) := ⟨HX.out.cell 0 _ rfl, HX.out.cell 2 _ rfl⟩
  clear hxb
  go_region_held3 (fun W => W.cell? ⟨xb, 0, none⟩ = some (.string y) ∧ W.cell? ⟨xb, 2, none⟩ = some (.int .i64 q)) (first | assumption) (first
    | (go_at_call 20; refine (decimal_any (max q 0) (by omega) (by omega) _ (tab_below HT.out HB1.out.drew)).mono ?_; rw [HA.out]; rintro e wa ⟨rfl, hba⟩; have hba2 : Below w1.heap.size w1 wa := ⟨hba.os, hba.tape, hba.output, hba.size, hba.block⟩; have HBa := hid' hba2; have hxa := HX.out.keep hba2; have hSa := And.intro (hxa.cell 0 _ rfl) (hxa.cell 2 _ rfl); have HXa := hid' hxa; clear hba hba2 hxa)
    | (go_at_call 20; refine (decimal_any (y.size : Int) (by omega) (by omega) _ (tab_below HT.out (below_two HB1.out HBa.out))).mono ?_; rw [HBB.out]; rintro e wb ⟨rfl, hbb⟩; have hxb := HXa.out.keep hbb; have hSb := And.intro (hxb.cell 0 _ rfl) (hxb.cell 2 _ rfl); have HBb := hid' (below_two HBa.out hbb); clear hbb hxb))
  go_wp2
  go_ret
  refine ⟨?_, below_two HB1.out HBb.out⟩
  rw [HAB.out, ← Tg.mk_cat]
  rfl

end Go.Proofs.YtgbnelglhkfdfaaGreatDoor

namespace Go.Proofs.YtgbnelglhkfdfaaGreatDoor
open Go.RowKit

namespace Tg
def strong (a b : Tag) : Bool := !a.w && !b.w && (a.v == b.v)
def weak (a b : Tag) : Bool := a.v == b.v
end Tg
def tA (t : Tg.Tag) : Value := .agg #[.bool t.w, .string ⟨t.v.toArray⟩]
theorem noStand15 : Tryz.prog.stoodInHeld 119 = false := by kernel_rfl
theorem fieldsOf15 : Tryz.prog.underlying 119 = some (.struct (Tryz.prog.fieldsOf 119)) := by kernel_rfl
set_option maxRecDepth 20000 in
theorem eqC15 (a b : Tg.Tag) (w : World) : (binOp .eql 119 (.agg #[.bool a.w, .string ⟨a.v.toArray⟩]) (.agg #[.bool b.w, .string ⟨b.v.toArray⟩])).run Tryz.prog w = .ok (.bool (a.w == b.w && a.v == b.v)) w := by
  rw [run_eql_struct, show (10000 : Nat) = 9999 + 1 by rfl, run_equalIn_agg w 9999 119 _ _ fieldsOf15 noStand15]
  simp only [Program.fieldsOf, Tryz.underlying119]
  go_simp
  by_cases h1 : a.w = b.w <;> by_cases h2 : a.v = b.v <;> simp [h1, h2]

theorem bl_two15 (w : World) (x y : Obj) : Below w.heap.size w ((w.alloc x).alloc y) := (bl_alloc w x).trans ((bl_alloc _ y).mono (by simp))

set_option maxHeartbeats 1000000 in
theorem cstrong15 (a b : Tg.Tag) (r : Bool) (hr : Tg.strong a b = r) (w : World) : Calls Tryz.prog 70 #[tA a, tA b] w fun e w' => e = .returned (.bool r) ∧ Below w.heap.size w w' := by
  unfold tA
  have hq := eqC15 a b
  unfold Tg.strong at hr
  cases ha : a.w <;> cases hb : b.w <;> cases hv : (a.v == b.v)
  all_goals
    rw [ha, hb, hv] at hq hr
    subst hr
    go_enter Tryz.func70, Tryz.ntmps70
    go_wp2
    go_ret
    exact ⟨rfl, bl_two15 _ _ _⟩

set_option maxHeartbeats 1000000 in
theorem cweak15 (a b : Tg.Tag) (r : Bool) (hr : Tg.weak a b = r) (w : World) : Calls Tryz.prog 46 #[tA a, tA b] w fun e w' => e = .returned (.bool r) ∧ Below w.heap.size w w' := by
  unfold tA
  unfold Tg.weak at hr
  go_enter Tryz.func46, Tryz.ntmps46
  go_wp2
  go_ret
  exact ⟨by rw [← hr]; rfl, bl_two15 _ _ _⟩

set_option maxHeartbeats 1000000 in
theorem cown15 (y : ByteArray) (t q : Int) (m : List UInt8) (hm : Tg.mk q y.size = m) (w : World) (hy : y.size ≤ 9223372036854775807) (q0 : -9223372036854775808 ≤ q) (q1 : q ≤ 9223372036854775807) (hT : Lib.TabIs Tryz.prog w "internal/strconv.uint64pow10" .u64 Lib.pow10Tab) :
    Calls Tryz.prog 74 #[.agg (flC y t q)] w fun e w' => e = .returned (tA ⟨false, m⟩) ∧ Below w.heap.size w w' := by
  have HM : Hid (Tg.mkB q y.size = ⟨m.toArray⟩) := hid' (by unfold Tg.mkB; rw [hm])
  have HT := hid' hT
  unfold tA flC
  clear hT hm
  go_enter Tryz.func74, Tryz.ntmps74
  go_upto_region 1 with fail
  have HB1 := hid' (bl_two15 w (.cells #[.string y, .int .i64 t, .int .i64 q] 31) (.cells #[.bool false, .string ⟨#[]⟩] 119))
  have HX : Hid (Ar ((w.alloc (.cells #[.string y, .int .i64 t, .int .i64 q] 31)).alloc (.cells #[.bool false, .string ⟨#[]⟩] 119)) (w.alloc (.cells #[.string y, .int .i64 t, .int .i64 q] 31)).heap.size 119 #[.bool false, .string ⟨#[]⟩]) := hid' (heap_alloc_last _ _)
  have HF : Hid (Ar ((w.alloc (.cells #[.string y, .int .i64 t, .int .i64 q] 31)).alloc (.cells #[.bool false, .string ⟨#[]⟩] 119)) w.heap.size 31 #[.string y, .int .i64 t, .int .i64 q]) := hid' (Ar.keep (heap_alloc_last w _) (bl_alloc _ _))
  have hsz : (w.alloc (.cells #[.string y, .int .i64 t, .int .i64 q] 31)).heap.size = w.heap.size + 1 := by simp
  rw [hsz] at HX
  obtain ⟨xb, hxb⟩ : ∃ xb, w.heap.size = xb := ⟨_, rfl⟩
  have HG : Hid (w.heap.size ≤ xb + 1) := hid' (by omega)
  rw [hxb] at HX HF ⊢
  generalize (w.alloc (.cells #[.string y, .int .i64 t, .int .i64 q] 31)).alloc (.cells #[.bool false, .string ⟨#[]⟩] 119) = w1 at *
  have p0 := HF.out.cell 0 _ rfl
  have p1 := HF.out.cell 1 _ rfl
  have p2 := HF.out.cell 2 _ rfl
  clear hsz hxb
  go_wp2_with fail
  refine (cmake15 y t q _ hy q0 q1 (tab_below HT.out HB1.out)).mono ?_
  rintro e w2 ⟨rfl, hb2⟩
  have HB2 := hid' (below_two HB1.out hb2)
  have HX2 := hid' (HX.out.keep hb2)
  rw [HM.out]
  clear hb2 p0 p1 p2
  go_wp2_with (refine wpl_store 119 _ _ rfl rfl (xb + 1) #[.bool false, .string ⟨m.toArray⟩] (by rfl) (by rfl) _ _ HX2.out sizeC15 rfl (by simp [Value.oneCell']) ?_)
  intro w3 ha3 hu3
  have hld := ldC15 ha3
  have HB3 := hid' (HB2.out.trans (hu3.below HG.out))
  clear ha3 hu3
  go_wp2
  exact bodyPost_ret (v := .agg #[.bool false, .string ⟨m.toArray⟩]) (by simp [results, Tryz.results74, asAddr, hld]) rfl ⟨rfl, HB3.out⟩

end Go.Proofs.YtgbnelglhkfdfaaGreatDoor

namespace Go.Proofs.YtgbnelglhkfdfaaGreatDoor
open Go.RowKit

set_option maxHeartbeats 2000000 in
set_option maxRecDepth 20000 in
theorem cinS15 (x : Tg.Tag) (m : List UInt8) (b7 b12 : Nat) (W : World) (h7 : W.cell? ⟨b7, 0, none⟩ = some (.func (.func 70) #[] #[])) (h0 : W.cell? ⟨b12, 0, none⟩ = some (.bool false)) (h1 : W.cell? ⟨b12, 1, none⟩ = some (.string ⟨m.toArray⟩)) (l7 : b7 < W.heap.size) (l12 : b12 < W.heap.size) :
    Calls Tryz.prog 76 #[.agg (tV x).toArray, .pointer (some ⟨b7, 0, none⟩), .pointer (some ⟨b12, 0, none⟩)] W fun e w' => e = .returned (.bool (Tg.strong x ⟨false, m⟩)) ∧ Below W.heap.size W w' := by
  obtain ⟨r, hr⟩ : ∃ r, Tg.strong x ⟨false, m⟩ = r := ⟨_, rfl⟩
  have HC := hid' (fun W => cstrong15 x ⟨false, m⟩ r hr W)
  rw [hr]
  clear hr
  unfold tA at HC
  have HB1 := hid' (bl_alloc W (.cells #[.bool x.w, .string ⟨x.v.toArray⟩] 119))
  have HX : Hid (Ar (W.alloc (.cells #[.bool x.w, .string ⟨x.v.toArray⟩] 119)) W.heap.size 119 #[.bool x.w, .string ⟨x.v.toArray⟩]) := hid' (heap_alloc_last _ _)
  have k7 := (HB1.out.cell (p := ⟨b7, 0, none⟩) l7).trans h7
  have k0 := (HB1.out.cell (p := ⟨b12, 0, none⟩) l12).trans h0
  have k1 := (HB1.out.cell (p := ⟨b12, 1, none⟩) l12).trans h1
  clear h7 h0 h1 l7 l12
  unfold tV
  go_enter Tryz.func76, Tryz.ntmps76
  go_upto_region 1 with fail
  obtain ⟨xb, hxb⟩ : ∃ xb, W.heap.size = xb := ⟨_, rfl⟩
  rw [hxb] at HX ⊢
  generalize W.alloc (.cells #[.bool x.w, .string ⟨x.v.toArray⟩] 119) = w1 at *
  have p0 := HX.out.cell 0 _ rfl
  have p1 := HX.out.cell 1 _ rfl
  clear hxb
  go_wp2_with fail
  refine (HC.out _).mono ?_
  rintro e w2 ⟨rfl, hb2⟩
  have HB2 := hid' (below_two HB1.out hb2)
  clear hb2
  go_wp2
  go_ret
  exact ⟨rfl, HB2.out⟩

set_option maxHeartbeats 2000000 in
set_option maxRecDepth 20000 in
theorem cnmS15 (s : ByteArray) (l : List UInt8) (hl : s.data.toList = l) (ts : List Tg.Tag) (hts : Tg.tags l = ts) (hst : Tg.star l = false) (hne : 0 < ts.length) (y : ByteArray) (t q : Int) (m : List UInt8) (hm : Tg.mk q y.size = m) (r : Bool) (hr : ts.any (fun x => Tg.strong x ⟨false, m⟩) = r) (w : World) (hs : s.size ≤ 1048576) (hy : y.size ≤ 9223372036854775807) (q0 : -9223372036854775808 ≤ q) (q1 : q ≤ 9223372036854775807) (hT : Lib.TabIs Tryz.prog w "internal/strconv.uint64pow10" .u64 Lib.pow10Tab) :
    Calls Tryz.prog 45 #[.string s, .agg (flC y t q), .bool true, .func (.func 70) #[] #[]] w fun e w' => e = .returned (.bool r) ∧ Below w.heap.size w w' := by
  have HT := hid' hT
  have HP := hid' (fun W => cparse15 s l hl W hs)
  rw [hst, hts] at HP
  have HNE := hid' hne
  unfold flC
  have HO := hid' (fun W (h : Lib.TabIs Tryz.prog W "internal/strconv.uint64pow10" .u64 Lib.pow10Tab) => cown15 y t q m hm W hy q0 q1 h)
  unfold flC tA at HO
  have HR := hid' hr
  clear hT hts hst hm hr hne
  go_enter Tryz.func45, Tryz.ntmps45
  go_upto_region 3 with fail
  have HB1 := hid' (bl_two15 w (.cells #[.string y, .int .i64 t, .int .i64 q] 31) (.cells #[.func (.func 70) #[] #[]] 83))
  have H7 : Hid (Ar ((w.alloc (.cells #[.string y, .int .i64 t, .int .i64 q] 31)).alloc (.cells #[.func (.func 70) #[] #[]] 83)) (w.alloc (.cells #[.string y, .int .i64 t, .int .i64 q] 31)).heap.size 83 #[.func (.func 70) #[] #[]]) := hid' (heap_alloc_last _ _)
  have HF : Hid (Ar ((w.alloc (.cells #[.string y, .int .i64 t, .int .i64 q] 31)).alloc (.cells #[.func (.func 70) #[] #[]] 83)) w.heap.size 31 #[.string y, .int .i64 t, .int .i64 q]) := hid' (Ar.keep (heap_alloc_last w _) (bl_alloc _ _))
  have hsz : (w.alloc (.cells #[.string y, .int .i64 t, .int .i64 q] 31)).heap.size = w.heap.size + 1 := by simp
  rw [hsz] at H7
  obtain ⟨xb, hxb⟩ : ∃ xb, w.heap.size = xb := ⟨_, rfl⟩
  rw [hxb] at H7 HF ⊢
  obtain ⟨b7, hb7⟩ : ∃ b7, xb + 1 = b7 := ⟨_, rfl⟩
  rw [hb7] at H7 ⊢
  generalize (w.alloc (.cells #[.string y, .int .i64 t, .int .i64 q] 31)).alloc (.cells #[.func (.func 70) #[] #[]] 83) = w1 at *
  clear hsz hxb hb7
  go_wp2_with fail
  refine (HP.out _).mono ?_
  rintro e w2 ⟨⟨n, ro, rc, rfl, hn, hown⟩, hb2⟩
  have HB2 := hid' (below_two HB1.out hb2)
  have H72 := hid' (H7.out.keep hb2)
  have HF2 := hid' (HF.out.keep hb2)
  have HW2 := hid' hown
  have HN := hid' hn
  have hsome : ∃ g, ro = some ⟨g, 0, none⟩ := by
    rcases hown.2 with ⟨_, h0⟩ | ⟨g, cap, cur, h1, _⟩
    · have := HNE.out; omega
    · injection h1 with h1 _ _; exact ⟨g, h1⟩
  obtain ⟨g, rfl⟩ := hsome
  clear hb2 hown hn
  have p0 := HF2.out.cell 0 _ rfl
  have p1 := HF2.out.cell 1 _ rfl
  have p2 := HF2.out.cell 2 _ rfl
  go_wp2_with fail
  refine (HO.out _ (tab_below HT.out HB2.out)).mono ?_
  rintro e w3 ⟨rfl, hb3⟩
  have HB3 := hid' (below_two HB2.out hb3)
  have H73 := hid' (H72.out.keep hb3)
  have HW3 := hid' (own_keep15 HW2.out hb3)
  clear hb3 p0 p1 p2 HW2 H72 HF2
  have HB4 := hid' (below_two HB3.out (bl_alloc w3 (.cells #[.bool false, .string ⟨m.toArray⟩] 119)))
  have H12 : Hid (Ar (w3.alloc (.cells #[.bool false, .string ⟨m.toArray⟩] 119)) w3.heap.size 119 #[.bool false, .string ⟨m.toArray⟩]) := hid' (heap_alloc_last _ _)
  have H74 := hid' (H73.out.keep (bl_alloc w3 (.cells #[.bool false, .string ⟨m.toArray⟩] 119)))
  have HW4 := hid' (HW3.out.alloc (.cells #[.bool false, .string ⟨m.toArray⟩] 119))
  go_upto_region 5 with fail
  obtain ⟨b12, hb12⟩ : ∃ b12, w3.heap.size = b12 := ⟨_, rfl⟩
  rw [hb12] at H12 ⊢
  generalize w3.alloc (.cells #[.bool false, .string ⟨m.toArray⟩] 119) = w4 at *
  clear hb12
  have hPred : ∀ W, Below w4.heap.size w4 W → PredBelow Tryz.prog 76 #[.pointer (some ⟨b7, 0, none⟩), .pointer (some ⟨b12, 0, none⟩)] (fun x : Tg.Tag => .agg (tV x).toArray) (fun x => Tg.strong x ⟨false, m⟩) W := fun W hW V x hV => by
    have a7 := (H74.out.keep hW).keep hV
    have a12 := (H12.out.keep hW).keep hV
    refine (cinS15 x m b7 b12 V (a7.cell 0 _ rfl) (a12.cell 0 _ rfl) (a12.cell 1 _ rfl) a7.lt a12.lt).mono ?_
    rintro e w' ⟨rfl, hb⟩
    exact ⟨rfl, below_two hV hb⟩
  have hgl : g < w4.heap.size := own_lt HW4.out g rfl
  have hn9 : n ≤ 9223372036854775807 := by
    rcases HW4.out.2 with ⟨_, h0⟩ | ⟨_, _, _, _, _, _, h4, h5, _⟩
    · omega
    · unfold maxLen at h5; omega
  haveI : Inhabited Tg.Tag := ⟨⟨false, []⟩⟩
  have hcells : ∀ W, Below w4.heap.size w4 W → ∀ j, j < ts.length → ∀ i v, (tV ts[j]!)[i]? = some v → W.cell? ⟨g, 0 + j * 2 + i, none⟩ = some v := fun W hW j hj i v hv => by
    have hi : i < 2 := (List.getElem?_eq_some_iff.1 hv).1
    have hg2 : ts[j]? = some ts[j]! := by rw [List.getElem?_eq_getElem hj, List.getElem!_eq_getElem?_getD, List.getElem?_eq_getElem hj]; rfl
    have h1 := t_at ts j _ hg2 i hi
    have h2 := HW4.out.cells (g := g) rfl _ v (h1.trans hv)
    rw [Addr.add_mid] at h2
    rw [Nat.zero_add] at h2 ⊢
    exact (hW.cell (p := ⟨g, j * 2 + i, none⟩) hgl).trans h2
  have hcon : ∀ W, Below w4.heap.size w4 W → Calls Tryz.prog 75 #[.slice (some ⟨g, 0, none⟩) n rc, .func (.func 76) #[] #[.pointer (some ⟨b7, 0, none⟩), .pointer (some ⟨b12, 0, none⟩)]] W fun e w' => e = .returned (.bool r) ∧ Below W.heap.size W w' := fun W hW => by
    have := AnyQ.slices_ContainsFunc Tryz.lcont 2 Tryz.isAgg119 Tryz.sizeOf119 tV (fun _ => rfl) (fun x => Tg.strong x ⟨false, m⟩) 76 _ (enters_of Tryz.func76 (by kernel_rfl) rfl) g 0 n rc ts W (hPred W hW) (by rw [HN.out]; exact Nat.le_refl _) hn9 (Nat.lt_of_lt_of_le hgl hW.size) (hcells W hW)
    rw [List.take_of_length_le (by rw [HN.out]; exact Nat.le_refl _), HR.out] at this
    exact this
  have HCON := hid' hcon
  clear hcon hcells hgl hPred hn9
  go_wp2_with fail
  refine (HCON.out _ (Below.refl _ _)).mono ?_
  rintro e w5 ⟨rfl, hb5⟩
  have HB5 := hid' (below_two HB4.out hb5)
  clear hb5
  go_wp2
  go_ret
  exact ⟨rfl, HB5.out⟩

set_option maxHeartbeats 2000000 in
set_option maxRecDepth 20000 in
theorem cinW15 (x : Tg.Tag) (m : List UInt8) (b7 b12 : Nat) (W : World) (h7 : W.cell? ⟨b7, 0, none⟩ = some (.func (.func 46) #[] #[])) (h0 : W.cell? ⟨b12, 0, none⟩ = some (.bool false)) (h1 : W.cell? ⟨b12, 1, none⟩ = some (.string ⟨m.toArray⟩)) (l7 : b7 < W.heap.size) (l12 : b12 < W.heap.size) :
    Calls Tryz.prog 76 #[.agg (tV x).toArray, .pointer (some ⟨b7, 0, none⟩), .pointer (some ⟨b12, 0, none⟩)] W fun e w' => e = .returned (.bool (Tg.weak x ⟨false, m⟩)) ∧ Below W.heap.size W w' := by
  obtain ⟨r, hr⟩ : ∃ r, Tg.weak x ⟨false, m⟩ = r := ⟨_, rfl⟩
  have HC := hid' (fun W => cweak15 x ⟨false, m⟩ r hr W)
  rw [hr]
  clear hr
  unfold tA at HC
  have HB1 := hid' (bl_alloc W (.cells #[.bool x.w, .string ⟨x.v.toArray⟩] 119))
  have HX : Hid (Ar (W.alloc (.cells #[.bool x.w, .string ⟨x.v.toArray⟩] 119)) W.heap.size 119 #[.bool x.w, .string ⟨x.v.toArray⟩]) := hid' (heap_alloc_last _ _)
  have k7 := (HB1.out.cell (p := ⟨b7, 0, none⟩) l7).trans h7
  have k0 := (HB1.out.cell (p := ⟨b12, 0, none⟩) l12).trans h0
  have k1 := (HB1.out.cell (p := ⟨b12, 1, none⟩) l12).trans h1
  clear h7 h0 h1 l7 l12
  unfold tV
  go_enter Tryz.func76, Tryz.ntmps76
  go_upto_region 1 with fail
  obtain ⟨xb, hxb⟩ : ∃ xb, W.heap.size = xb := ⟨_, rfl⟩
  rw [hxb] at HX ⊢
  generalize W.alloc (.cells #[.bool x.w, .string ⟨x.v.toArray⟩] 119) = w1 at *
  have p0 := HX.out.cell 0 _ rfl
  have p1 := HX.out.cell 1 _ rfl
  clear hxb
  go_wp2_with fail
  refine (HC.out _).mono ?_
  rintro e w2 ⟨rfl, hb2⟩
  have HB2 := hid' (below_two HB1.out hb2)
  clear hb2
  go_wp2
  go_ret
  exact ⟨rfl, HB2.out⟩

set_option maxHeartbeats 2000000 in
set_option maxRecDepth 20000 in
theorem cnmW15 (s : ByteArray) (l : List UInt8) (hl : s.data.toList = l) (ts : List Tg.Tag) (hts : Tg.tags l = ts) (hst : Tg.star l = false) (hne : 0 < ts.length) (y : ByteArray) (t q : Int) (m : List UInt8) (hm : Tg.mk q y.size = m) (r : Bool) (hr : ts.any (fun x => Tg.weak x ⟨false, m⟩) = r) (w : World) (hs : s.size ≤ 1048576) (hy : y.size ≤ 9223372036854775807) (q0 : -9223372036854775808 ≤ q) (q1 : q ≤ 9223372036854775807) (hT : Lib.TabIs Tryz.prog w "internal/strconv.uint64pow10" .u64 Lib.pow10Tab) :
    Calls Tryz.prog 45 #[.string s, .agg (flC y t q), .bool true, .func (.func 46) #[] #[]] w fun e w' => e = .returned (.bool r) ∧ Below w.heap.size w w' := by
  have HT := hid' hT
  have HP := hid' (fun W => cparse15 s l hl W hs)
  rw [hst, hts] at HP
  have HNE := hid' hne
  unfold flC
  have HO := hid' (fun W (h : Lib.TabIs Tryz.prog W "internal/strconv.uint64pow10" .u64 Lib.pow10Tab) => cown15 y t q m hm W hy q0 q1 h)
  unfold flC tA at HO
  have HR := hid' hr
  clear hT hts hst hm hr hne
  go_enter Tryz.func45, Tryz.ntmps45
  go_upto_region 3 with fail
  have HB1 := hid' (bl_two15 w (.cells #[.string y, .int .i64 t, .int .i64 q] 31) (.cells #[.func (.func 46) #[] #[]] 83))
  have H7 : Hid (Ar ((w.alloc (.cells #[.string y, .int .i64 t, .int .i64 q] 31)).alloc (.cells #[.func (.func 46) #[] #[]] 83)) (w.alloc (.cells #[.string y, .int .i64 t, .int .i64 q] 31)).heap.size 83 #[.func (.func 46) #[] #[]]) := hid' (heap_alloc_last _ _)
  have HF : Hid (Ar ((w.alloc (.cells #[.string y, .int .i64 t, .int .i64 q] 31)).alloc (.cells #[.func (.func 46) #[] #[]] 83)) w.heap.size 31 #[.string y, .int .i64 t, .int .i64 q]) := hid' (Ar.keep (heap_alloc_last w _) (bl_alloc _ _))
  have hsz : (w.alloc (.cells #[.string y, .int .i64 t, .int .i64 q] 31)).heap.size = w.heap.size + 1 := by simp
  rw [hsz] at H7
  obtain ⟨xb, hxb⟩ : ∃ xb, w.heap.size = xb := ⟨_, rfl⟩
  rw [hxb] at H7 HF ⊢
  obtain ⟨b7, hb7⟩ : ∃ b7, xb + 1 = b7 := ⟨_, rfl⟩
  rw [hb7] at H7 ⊢
  generalize (w.alloc (.cells #[.string y, .int .i64 t, .int .i64 q] 31)).alloc (.cells #[.func (.func 46) #[] #[]] 83) = w1 at *
  clear hsz hxb hb7
  go_wp2_with fail
  refine (HP.out _).mono ?_
  rintro e w2 ⟨⟨n, ro, rc, rfl, hn, hown⟩, hb2⟩
  have HB2 := hid' (below_two HB1.out hb2)
  have H72 := hid' (H7.out.keep hb2)
  have HF2 := hid' (HF.out.keep hb2)
  have HW2 := hid' hown
  have HN := hid' hn
  have hsome : ∃ g, ro = some ⟨g, 0, none⟩ := by
    rcases hown.2 with ⟨_, h0⟩ | ⟨g, cap, cur, h1, _⟩
    · have := HNE.out; omega
    · injection h1 with h1 _ _; exact ⟨g, h1⟩
  obtain ⟨g, rfl⟩ := hsome
  clear hb2 hown hn
  have p0 := HF2.out.cell 0 _ rfl
  have p1 := HF2.out.cell 1 _ rfl
  have p2 := HF2.out.cell 2 _ rfl
  go_wp2_with fail
  refine (HO.out _ (tab_below HT.out HB2.out)).mono ?_
  rintro e w3 ⟨rfl, hb3⟩
  have HB3 := hid' (below_two HB2.out hb3)
  have H73 := hid' (H72.out.keep hb3)
  have HW3 := hid' (own_keep15 HW2.out hb3)
  clear hb3 p0 p1 p2 HW2 H72 HF2
  have HB4 := hid' (below_two HB3.out (bl_alloc w3 (.cells #[.bool false, .string ⟨m.toArray⟩] 119)))
  have H12 : Hid (Ar (w3.alloc (.cells #[.bool false, .string ⟨m.toArray⟩] 119)) w3.heap.size 119 #[.bool false, .string ⟨m.toArray⟩]) := hid' (heap_alloc_last _ _)
  have H74 := hid' (H73.out.keep (bl_alloc w3 (.cells #[.bool false, .string ⟨m.toArray⟩] 119)))
  have HW4 := hid' (HW3.out.alloc (.cells #[.bool false, .string ⟨m.toArray⟩] 119))
  go_upto_region 5 with fail
  obtain ⟨b12, hb12⟩ : ∃ b12, w3.heap.size = b12 := ⟨_, rfl⟩
  rw [hb12] at H12 ⊢
  generalize w3.alloc (.cells #[.bool false, .string ⟨m.toArray⟩] 119) = w4 at *
  clear hb12
  have hPred : ∀ W, Below w4.heap.size w4 W → PredBelow Tryz.prog 76 #[.pointer (some ⟨b7, 0, none⟩), .pointer (some ⟨b12, 0, none⟩)] (fun x : Tg.Tag => .agg (tV x).toArray) (fun x => Tg.weak x ⟨false, m⟩) W := fun W hW V x hV => by
    have a7 := (H74.out.keep hW).keep hV
    have a12 := (H12.out.keep hW).keep hV
    refine (cinW15 x m b7 b12 V (a7.cell 0 _ rfl) (a12.cell 0 _ rfl) (a12.cell 1 _ rfl) a7.lt a12.lt).mono ?_
    rintro e w' ⟨rfl, hb⟩
    exact ⟨rfl, below_two hV hb⟩
  have hgl : g < w4.heap.size := own_lt HW4.out g rfl
  have hn9 : n ≤ 9223372036854775807 := by
    rcases HW4.out.2 with ⟨_, h0⟩ | ⟨_, _, _, _, _, _, h4, h5, _⟩
    · omega
    · unfold maxLen at h5; omega
  haveI : Inhabited Tg.Tag := ⟨⟨false, []⟩⟩
  have hcells : ∀ W, Below w4.heap.size w4 W → ∀ j, j < ts.length → ∀ i v, (tV ts[j]!)[i]? = some v → W.cell? ⟨g, 0 + j * 2 + i, none⟩ = some v := fun W hW j hj i v hv => by
    have hi : i < 2 := (List.getElem?_eq_some_iff.1 hv).1
    have hg2 : ts[j]? = some ts[j]! := by rw [List.getElem?_eq_getElem hj, List.getElem!_eq_getElem?_getD, List.getElem?_eq_getElem hj]; rfl
    have h1 := t_at ts j _ hg2 i hi
    have h2 := HW4.out.cells (g := g) rfl _ v (h1.trans hv)
    rw [Addr.add_mid] at h2
    rw [Nat.zero_add] at h2 ⊢
    exact (hW.cell (p := ⟨g, j * 2 + i, none⟩) hgl).trans h2
  have hcon : ∀ W, Below w4.heap.size w4 W → Calls Tryz.prog 75 #[.slice (some ⟨g, 0, none⟩) n rc, .func (.func 76) #[] #[.pointer (some ⟨b7, 0, none⟩), .pointer (some ⟨b12, 0, none⟩)]] W fun e w' => e = .returned (.bool r) ∧ Below W.heap.size W w' := fun W hW => by
    have := AnyQ.slices_ContainsFunc Tryz.lcont 2 Tryz.isAgg119 Tryz.sizeOf119 tV (fun _ => rfl) (fun x => Tg.weak x ⟨false, m⟩) 76 _ (enters_of Tryz.func76 (by kernel_rfl) rfl) g 0 n rc ts W (hPred W hW) (by rw [HN.out]; exact Nat.le_refl _) hn9 (Nat.lt_of_lt_of_le hgl hW.size) (hcells W hW)
    rw [List.take_of_length_le (by rw [HN.out]; exact Nat.le_refl _), HR.out] at this
    exact this
  have HCON := hid' hcon
  clear hcon hcells hgl hPred hn9
  go_wp2_with fail
  refine (HCON.out _ (Below.refl _ _)).mono ?_
  rintro e w5 ⟨rfl, hb5⟩
  have HB5 := hid' (below_two HB4.out hb5)
  clear hb5
  go_wp2
  go_ret
  exact ⟨rfl, HB5.out⟩

end Go.Proofs.YtgbnelglhkfdfaaGreatDoor

namespace Go.Proofs.YtgbnelglhkfdfaaGreatDoor
open Go.RowKit

theorem infoS15 : (Tryz.prog.info? 9).map (fun i => (i.zero, i.size, i.bytes)) = some (some (.string ⟨#[]⟩), 1, 16) := by kernel_rfl
theorem one_cell15 (w : World) (T : TypeId) (x0 : Value) : ∀ j v, [x0][j]? = some v → (w.alloc (.cells #[x0] T)).cell? ((⟨w.heap.size, 0, none⟩ : Addr).add j) = some v := by
  intro j v h
  rw [Addr.add_mid, Nat.zero_add]
  have hA : Ar (w.alloc (.cells #[x0] T)) w.heap.size T #[x0] := heap_alloc_last w _
  exact hA.cell j v (by simpa using h)

set_option maxHeartbeats 2000000 in
theorem cvals0 (nm : ByteArray) (w : World) : Calls Tryz.prog 71 #[.slice none 0 0, .string nm] w fun e w' => e = .returned (.slice none 0 0) ∧ w' = w := by
  go_enter Tryz.func71, Tryz.ntmps71
  go_wp2
  go_loopw [5, 10] (fun s5 s10 wr => s5 = .slice none 0 0 ∧ s10 = .int .i64 0 ∧ wr = w) (fun _ _ _ => 0)
  case atStart => exact ⟨rfl, rfl, rfl⟩
  case round =>
    obtain ⟨rfl, rfl, hw⟩ := hrel
    subst wr
    go_wp2
    go_ret
    exact ⟨rfl, rfl⟩

set_option maxHeartbeats 2000000 in
set_option maxRecDepth 20000 in
theorem cvalsN (fb : Nat) (a v nm : ByteArray) (hn : (a.toList == nm.toList) = false) (w : World) (hf : Ar w fb 42 #[.string a, .string v]) :
    Calls Tryz.prog 71 #[.slice (some ⟨fb, 0, none⟩) 1 1, .string nm] w fun e w' => e = .returned (.slice none 0 0) ∧ Below w.heap.size w w' := by
  have HF := hid' hf
  clear hf
  go_enter Tryz.func71, Tryz.ntmps71
  go_wp2
  go_loopw [5, 10] (fun s5 s10 wr => s5 = .slice none 0 0 ∧ ∃ k : Nat, s10 = .int .i64 (k : Int) ∧ k ≤ 1 ∧ Hid (Below w.heap.size w wr)) (fun _ s10 _ => 1 - (intOf s10).toNat)
  case atStart => exact ⟨rfl, 0, rfl, Nat.zero_le _, hid' (Below.refl _ _)⟩
  case round =>
    obtain ⟨rfl, k, rfl, hk, HB⟩ := hrel
    by_cases hlt : k < 1
    · obtain rfl : k = 0 := by omega
      have HF2 := hid' (HF.out.keep HB.out)
      have p0 := HF2.out.cell 0 _ rfl
      have p1 := HF2.out.cell 1 _ rfl
      have HB2 := hid' (below_two HB.out (bl_alloc wr (.cells #[.string a, .string v] 42)))
      go_wp2
      go_roundw
      case rel => exact ⟨rfl, 1, by go_num, by omega, HB2⟩
      case measure => simp [intOf]
    · obtain rfl : k = 1 := by omega
      clear hlt
      go_wp2
      go_ret
      exact ⟨rfl, HB.out⟩

set_option maxHeartbeats 2000000 in
set_option maxRecDepth 20000 in
theorem cvalsY (fb : Nat) (a v nm : ByteArray) (hn : (a.toList == nm.toList) = true) (w : World) (hf : Ar w fb 42 #[.string a, .string v]) :
    Calls Tryz.prog 71 #[.slice (some ⟨fb, 0, none⟩) 1 1, .string nm] w fun e w' => (∃ g cap, e = .returned (.slice (some ⟨g, 0, none⟩) 1 cap) ∧ w'.cell? ⟨g, 0, none⟩ = some (.string v) ∧ g < w'.heap.size) ∧ Below w.heap.size w w' := by
  obtain ⟨i0, hi0, hz0, hz1, hz2⟩ := minfo_parts infoS15
  have HI := hid' hi0
  have HZ0 := hid' hz0
  have HZ1 := hid' hz1
  have HZ2 := hid' hz2
  have HF := hid' hf
  clear hf hi0 hz0 hz1 hz2
  go_enter Tryz.func71, Tryz.ntmps71
  go_wp2
  go_loopw [5, 10] (fun s5 s10 wr => ∃ (k : Nat) (ro : Option Addr) (rc : Nat), s10 = .int .i64 (k : Int) ∧ s5 = .slice ro k rc ∧ k ≤ 1 ∧ (k = 0 → ro = none ∧ rc = 0) ∧ Hid (wr.ownsRow w.heap.size 9 1 (.slice ro k rc) k (List.replicate k (.string v))) ∧ Hid (Below w.heap.size w wr)) (fun _ s10 _ => 1 - (intOf s10).toNat)
  case atStart => exact ⟨0, none, 0, rfl, rfl, Nat.zero_le _, fun _ => ⟨rfl, rfl⟩, hid' (World.ownsRow_nil _ _ _ _), hid' (Below.refl _ _)⟩
  case round =>
    obtain ⟨k, ro, rc, rfl, rfl, hk, h0, HO, HB⟩ := hrel
    by_cases hlt : k < 1
    · obtain rfl : k = 0 := by omega
      obtain ⟨rfl, rfl⟩ := h0 rfl
      have HF2 := hid' (HF.out.keep HB.out)
      have p0 := HF2.out.cell 0 _ rfl
      have p1 := HF2.out.cell 1 _ rfl
      have HB2 := hid' (below_two HB.out (bl_alloc wr (.cells #[.string a, .string v] 42)))
      have HL : Hid (Ar (wr.alloc (.cells #[.string a, .string v] 42)) wr.heap.size 42 #[.string a, .string v]) := hid' (heap_alloc_last wr _)
      go_upto_region 6 with fail
      clear p0 p1
      obtain ⟨xb, hxb⟩ : ∃ xb, wr.heap.size = xb := ⟨_, rfl⟩
      rw [hxb] at HL ⊢
      generalize wr.alloc (.cells #[.string a, .string v] 42) = w1 at *
      have p1 := HL.out.cell 1 _ rfl
      have HA : Hid ((w1.alloc (.cells #[.string v] 9)).ownsRow w.heap.size 9 1 (.slice none 0 0) 0 []) := hid' (World.ownsRow_nil _ _ _ _)
      clear hxb
      go_wp2_with (at_builtin; refine wpList_append_own_at _ rfl _ _ 75 rfl w.heap.size 9 i0 (.string ⟨#[]⟩) 1 16 Tryz.underlying75 HI.out HZ0.out HZ1.out HZ2.out rfl (by decide) (.slice none 0 0) 0 [] rfl HA.out ⟨w1.heap.size, 0, none⟩ 1 1 [.string v] rfl rfl (one_cell15 _ _ _) (by simp [Value.oneCell']) (by decide) (by omega) (by simp; have := HB2.out.size; omega) ?_; intro v3 w3 hown3 hgrow3 _ _; refine Hid.out ?_)
      refine hid' ?_
      obtain ⟨v3o, v3c, hv3⟩ := own_shape hown3
      subst hv3
      have HO3 := hid' hown3
      have HB3 : Hid (Below w.heap.size w w3) := hid' ((HB2.out.alloc HB2.out.size _).grown hgrow3 (by simp; have := HB2.out.size; omega) (fun k hk => (HA.out.lt k hk).1))
      clear hown3 hgrow3 p1
      go_wp2
      go_roundw
      case rel => exact ⟨1, v3o, v3c, by go_num, rfl, by omega, fun h => by omega, HO3, HB3⟩
      case measure => simp [intOf]
    · obtain rfl : k = 1 := by omega
      clear hlt h0
      have hg : ∃ g, ro = some ⟨g, 0, none⟩ := by
        rcases HO.out.2 with ⟨_, h9⟩ | ⟨g, cap, cur, h1, _⟩
        · omega
        · injection h1 with h1 _ _; exact ⟨g, h1⟩
      obtain ⟨g, rfl⟩ := hg
      go_wp2
      go_ret
      refine ⟨⟨g, rc, rfl, ?_, own_lt HO.out g rfl⟩, HB.out⟩
      have := HO.out.cells (g := g) rfl 0 (.string v) rfl
      rwa [Addr.add_mid, Nat.zero_add] at this

end Go.Proofs.YtgbnelglhkfdfaaGreatDoor

namespace Go.Proofs.YtgbnelglhkfdfaaGreatDoor
open Go.RowKit

set_option maxHeartbeats 1000000 in
theorem cjoin0 (sep : ByteArray) (w : World) : Calls Tryz.prog 72 #[.slice none 0 0, .string sep] w fun e w' => e = .returned (.string ⟨#[]⟩) ∧ w' = w := by
  go_enter Tryz.func72, Tryz.ntmps72
  go_wp2
  go_ret
  exact ⟨rfl, rfl⟩

set_option maxHeartbeats 1000000 in
theorem cjoin1 (g cap : Nat) (v sep : ByteArray) (w : World) (h : w.cell? ⟨g, 0, none⟩ = some (.string v)) : Calls Tryz.prog 72 #[.slice (some ⟨g, 0, none⟩) 1 cap, .string sep] w fun e w' => e = .returned (.string v) ∧ w' = w := by
  go_enter Tryz.func72, Tryz.ntmps72
  go_wp2
  go_ret
  exact ⟨rfl, rfl⟩

theorem qS15 (w : World) (a : Option Addr) (n c : Nat) : (binOp .neq 75 (.slice a n c) (.slice none 0 0)).run Tryz.prog w = .ok (.bool (!a.isNone)) w := run_neq_slice_nil_any w _ _ a n c 0 0 Tryz.underlying75

set_option maxHeartbeats 1000000 in
theorem cvalue0 (nm : ByteArray) (w : World) :
    Calls Tryz.prog 44 #[.slice none 0 0, .string nm] w fun e w' => e = .returned (.tuple #[.string ⟨#[]⟩, .bool false]) ∧ Below w.heap.size w w' := by
  have q := qS15
  go_enter Tryz.func44, Tryz.ntmps44
  go_wp2_with fail
  refine (cvals0 nm w).mono ?_
  rintro e w1 ⟨rfl, hw1⟩
  subst w1
  have HB := hid' (Below.refl w.heap.size w)
  go_wp2_with fail
  refine (cjoin0 _ _).mono ?_
  rintro e w2 ⟨rfl, hw2⟩
  subst w2
  go_wp2
  go_ret2
  exact ⟨rfl, HB.out⟩

set_option maxHeartbeats 1000000 in
theorem cvalueN (fb : Nat) (a v nm : ByteArray) (hn : (a.toList == nm.toList) = false) (w : World) (hf : Ar w fb 42 #[.string a, .string v]) :
    Calls Tryz.prog 44 #[.slice (some ⟨fb, 0, none⟩) 1 1, .string nm] w fun e w' => e = .returned (.tuple #[.string ⟨#[]⟩, .bool false]) ∧ Below w.heap.size w w' := by
  have q := qS15
  go_enter Tryz.func44, Tryz.ntmps44
  go_wp2_with fail
  refine (cvalsN fb a v nm hn w hf).mono ?_
  rintro e w1 ⟨rfl, hb1⟩
  have HB := hid' hb1
  clear hb1
  go_wp2_with fail
  refine (cjoin0 _ _).mono ?_
  rintro e w2 ⟨rfl, hw2⟩
  subst w2
  go_wp2
  go_ret2
  exact ⟨rfl, HB.out⟩

set_option maxHeartbeats 1000000 in
theorem cvalueY (fb : Nat) (a v nm : ByteArray) (hn : (a.toList == nm.toList) = true) (w : World) (hf : Ar w fb 42 #[.string a, .string v]) :
    Calls Tryz.prog 44 #[.slice (some ⟨fb, 0, none⟩) 1 1, .string nm] w fun e w' => e = .returned (.tuple #[.string v, .bool true]) ∧ Below w.heap.size w w' := by
  have q := qS15
  go_enter Tryz.func44, Tryz.ntmps44
  go_wp2_with fail
  refine (cvalsY fb a v nm hn w hf).mono ?_
  rintro e w1 ⟨⟨g, cap, rfl, hc, hg⟩, hb1⟩
  have HB := hid' hb1
  clear hb1
  go_wp2_with fail
  refine (cjoin1 g cap v _ _ hc).mono ?_
  rintro e w2 ⟨rfl, hw2⟩
  subst w2
  go_wp2
  go_ret2
  exact ⟨rfl, HB.out⟩

set_option maxHeartbeats 1000000 in
theorem cdate0 (nm : ByteArray) (w : World) :
    Calls Tryz.prog 47 #[.slice none 0 0, .string nm] w fun e w' => e = .returned (.tuple #[.int .i64 0, .bool false]) ∧ Below w.heap.size w w' := by
  go_enter Tryz.func47, Tryz.ntmps47
  go_wp2_with fail
  refine (cvals0 nm w).mono ?_
  rintro e w1 ⟨rfl, hw1⟩
  subst w1
  have HB := hid' (Below.refl w.heap.size w)
  go_wp2
  go_ret2
  exact ⟨rfl, HB.out⟩

set_option maxHeartbeats 1000000 in
theorem cdateN (fb : Nat) (a v nm : ByteArray) (hn : (a.toList == nm.toList) = false) (w : World) (hf : Ar w fb 42 #[.string a, .string v]) :
    Calls Tryz.prog 47 #[.slice (some ⟨fb, 0, none⟩) 1 1, .string nm] w fun e w' => e = .returned (.tuple #[.int .i64 0, .bool false]) ∧ Below w.heap.size w w' := by
  go_enter Tryz.func47, Tryz.ntmps47
  go_wp2_with fail
  refine (cvalsN fb a v nm hn w hf).mono ?_
  rintro e w1 ⟨rfl, hb1⟩
  have HB := hid' hb1
  clear hb1
  go_wp2
  go_ret2
  exact ⟨rfl, HB.out⟩

set_option maxHeartbeats 2000000 in
set_option maxRecDepth 20000 in
theorem cmay0 (y : ByteArray) (t q : Int) (w : World) :
    Calls Tryz.prog 43 #[.slice none 0 0, .agg (flC y t q), .bool true] w fun e w' => e = .returned (.bool true) ∧ Below w.heap.size w w' := by
  have HFB := hid' (bl_alloc w (.cells #[.string y, .int .i64 t, .int .i64 q] 31))
  have HX : Hid (Ar (w.alloc (.cells #[.string y, .int .i64 t, .int .i64 q] 31)) w.heap.size 31 #[.string y, .int .i64 t, .int .i64 q]) := hid' (heap_alloc_last w _)
  unfold flC
  go_enter Tryz.func43, Tryz.ntmps43
  go_upto_region 1 with fail
  obtain ⟨xb, hxb⟩ : ∃ xb, w.heap.size = xb := ⟨_, rfl⟩
  rw [hxb] at HX ⊢
  generalize w.alloc (.cells #[.string y, .int .i64 t, .int .i64 q] 31) = w1 at *
  clear hxb
  have HB1 := HFB
  go_wp2_with fail
  refine (cvalue0 ⟨#[105, 102, 45, 109, 97, 116, 99, 104]⟩ _).mono ?_
  rintro e w2 ⟨rfl, hb2⟩
  have HB2 := hid' (below_two HB1.out hb2)
  have HX2 := hid' (HX.out.keep hb2)
  clear hb2
  go_wp2_with fail
  refine (cdate0 ⟨#[105, 102, 45, 117, 110, 109, 111, 100, 105, 102, 105, 101, 100, 45, 115, 105, 110, 99, 101]⟩ _).mono ?_
  rintro e w3 ⟨rfl, hb3⟩
  have HB3 := hid' (below_two HB2.out hb3)
  have HX3 := hid' (HX2.out.keep hb3)
  clear hb3
  go_wp2
  go_ret
  exact ⟨rfl, HB3.out⟩

set_option maxHeartbeats 2000000 in
set_option maxRecDepth 20000 in
theorem cmayN (fb : Nat) (a v : ByteArray) (n1 : (a.toList == (⟨#[105, 102, 45, 109, 97, 116, 99, 104]⟩ : ByteArray).toList) = false) (n2 : (a.toList == (⟨#[105, 102, 45, 117, 110, 109, 111, 100, 105, 102, 105, 101, 100, 45, 115, 105, 110, 99, 101]⟩ : ByteArray).toList) = false) (y : ByteArray) (t q : Int) (w : World) (hf : Ar w fb 42 #[.string a, .string v]) :
    Calls Tryz.prog 43 #[.slice (some ⟨fb, 0, none⟩) 1 1, .agg (flC y t q), .bool true] w fun e w' => e = .returned (.bool true) ∧ Below w.heap.size w w' := by
  have HF := hid' hf
  clear hf
  have HFB := hid' (bl_alloc w (.cells #[.string y, .int .i64 t, .int .i64 q] 31))
  have HX : Hid (Ar (w.alloc (.cells #[.string y, .int .i64 t, .int .i64 q] 31)) w.heap.size 31 #[.string y, .int .i64 t, .int .i64 q]) := hid' (heap_alloc_last w _)
  unfold flC
  go_enter Tryz.func43, Tryz.ntmps43
  go_upto_region 1 with fail
  obtain ⟨xb, hxb⟩ : ∃ xb, w.heap.size = xb := ⟨_, rfl⟩
  rw [hxb] at HX ⊢
  generalize w.alloc (.cells #[.string y, .int .i64 t, .int .i64 q] 31) = w1 at *
  clear hxb
  have HB1 := HFB
  go_wp2_with fail
  refine (cvalueN fb a v ⟨#[105, 102, 45, 109, 97, 116, 99, 104]⟩ n1 _ (HF.out.keep HB1.out)).mono ?_
  rintro e w2 ⟨rfl, hb2⟩
  have HB2 := hid' (below_two HB1.out hb2)
  have HX2 := hid' (HX.out.keep hb2)
  clear hb2
  go_wp2_with fail
  refine (cdateN fb a v ⟨#[105, 102, 45, 117, 110, 109, 111, 100, 105, 102, 105, 101, 100, 45, 115, 105, 110, 99, 101]⟩ n2 _ (HF.out.keep HB2.out)).mono ?_
  rintro e w3 ⟨rfl, hb3⟩
  have HB3 := hid' (below_two HB2.out hb3)
  have HX3 := hid' (HX2.out.keep hb3)
  clear hb3
  go_wp2
  go_ret
  exact ⟨rfl, HB3.out⟩

set_option maxHeartbeats 2000000 in
set_option maxRecDepth 20000 in
theorem cmayY (fb : Nat) (s : ByteArray) (l : List UInt8) (hl : s.data.toList = l) (ts : List Tg.Tag) (hts : Tg.tags l = ts) (hst : Tg.star l = false) (hne : 0 < ts.length) (y : ByteArray) (t q : Int) (m : List UInt8) (hm : Tg.mk q y.size = m) (r : Bool) (hr : ts.any (fun x => Tg.strong x ⟨false, m⟩) = r) (w : World) (hf : Ar w fb 42 #[.string ⟨#[105, 102, 45, 109, 97, 116, 99, 104]⟩, .string s]) (hs : s.size ≤ 1048576) (hy : y.size ≤ 9223372036854775807) (q0 : -9223372036854775808 ≤ q) (q1 : q ≤ 9223372036854775807) (hT : Lib.TabIs Tryz.prog w "internal/strconv.uint64pow10" .u64 Lib.pow10Tab) :
    Calls Tryz.prog 43 #[.slice (some ⟨fb, 0, none⟩) 1 1, .agg (flC y t q), .bool true] w fun e w' => e = .returned (.bool r) ∧ Below w.heap.size w w' := by
  have HF := hid' hf
  have HT := hid' hT
  have HNM := hid' (fun W (h : Lib.TabIs Tryz.prog W "internal/strconv.uint64pow10" .u64 Lib.pow10Tab) => cnmS15 s l hl ts hts hst hne y t q m hm r hr W hs hy q0 q1 h)
  unfold flC at HNM
  clear hf hT hl hts hst hne hm hr
  have HFB := hid' (bl_alloc w (.cells #[.string y, .int .i64 t, .int .i64 q] 31))
  have HX : Hid (Ar (w.alloc (.cells #[.string y, .int .i64 t, .int .i64 q] 31)) w.heap.size 31 #[.string y, .int .i64 t, .int .i64 q]) := hid' (heap_alloc_last w _)
  unfold flC
  go_enter Tryz.func43, Tryz.ntmps43
  go_upto_region 1 with fail
  obtain ⟨xb, hxb⟩ : ∃ xb, w.heap.size = xb := ⟨_, rfl⟩
  rw [hxb] at HX ⊢
  generalize w.alloc (.cells #[.string y, .int .i64 t, .int .i64 q] 31) = w1 at *
  clear hxb
  have HB1 := HFB
  go_wp2_with fail
  refine (cvalueY fb ⟨#[105, 102, 45, 109, 97, 116, 99, 104]⟩ s ⟨#[105, 102, 45, 109, 97, 116, 99, 104]⟩ (by rw [Lib.toList_data]; decide) _ (HF.out.keep HB1.out)).mono ?_
  rintro e w2 ⟨rfl, hb2⟩
  have HB2 := hid' (below_two HB1.out hb2)
  have HX2 := hid' (HX.out.keep hb2)
  clear hb2
  have p0 := HX2.out.cell 0 _ rfl
  have p1 := HX2.out.cell 1 _ rfl
  have p2 := HX2.out.cell 2 _ rfl
  go_wp2_with fail
  refine (HNM.out _ (tab_below HT.out HB2.out)).mono ?_
  rintro e w3 ⟨rfl, hb3⟩
  have HB3 := hid' (below_two HB2.out hb3)
  have HX3 := hid' (HX2.out.keep hb3)
  clear hb3
  go_wp2
  go_ret
  exact ⟨rfl, HB3.out⟩

end Go.Proofs.YtgbnelglhkfdfaaGreatDoor
