/-
  Tags on lists of bytes: what a list of tags is.
-/
import Derived.Test.YtbnldneejbbhhaaDoorLists
namespace Go.Proofs.YtbnldneejbbhhaaDoor
namespace Tg

structure Tag where
  w : Bool
  v : List UInt8
def etC (c : Int) : Bool := (c == 33) || (decide (35 ≤ c) && decide (c ≤ 126)) || decide (128 ≤ c)
def etB (c : UInt8) : Bool := etC (c.toNat : Int)
def wk (l : List UInt8) : Bool := l.take 2 == [87, 47]
def wn (l : List UInt8) : Nat := if wk l then 2 else 0
def inn (l : List UInt8) : Nat := (l.takeWhile etB).length
/-- A tag's quoted part begins here. -/
def opq (l : List UInt8) : List UInt8 := l.drop (wn l)
def sz (l : List UInt8) : Nat := inn ((opq l).drop 1)
def isOne (l : List UInt8) : Bool := (opq l).head? == some 34 && ((opq l).drop (1 + sz l)).head? == some 34
def tagOf (l : List UInt8) : Tag := ⟨wk l, (opq l).take (sz l + 2)⟩
def nOf (l : List UInt8) : Nat := wn l + (sz l + 2)
/-- The tags of a list; none: it is no list. -/
def go (op : Bool) : List UInt8 → Option (List Tag)
  | [] => some []
  | c :: r => if Tx.blkB c then go op r else if c == 44 then go true r else
      if isOne (c :: r) && op then (go false (r.drop (nOf (c :: r) - 1))).map (tagOf (c :: r) :: ·) else none
termination_by l => l.length
decreasing_by all_goals simp; try omega

def sepB (c : UInt8) : Bool := Tx.blkB c || c == 44
def pieces (l : List UInt8) : List UInt8 := l.dropWhile sepB
def ends (l : List UInt8) : Bool := (l.dropWhile Tx.blkB == []) || ((l.dropWhile Tx.blkB).head? == some 44)

theorem go_nil (op : Bool) : go op [] = some [] := by rw [go]
theorem go_blank (op : Bool) (c : UInt8) (r : List UInt8) (h : Tx.blkB c = true) : go op (c :: r) = go op r := by rw [go, if_pos h]
theorem go_comma (op : Bool) (r : List UInt8) : go op (44 :: r) = go true r := by
  rw [go, if_neg (by decide), if_pos (by decide)]
theorem go_other (op : Bool) (c : UInt8) (r : List UInt8) (h : Tx.blkB c = false) (h2 : (c == 44) = false) : go op (c :: r) = if isOne (c :: r) && op then (go false ((c :: r).drop (nOf (c :: r)))).map (tagOf (c :: r) :: ·) else none := by
  rw [go, if_neg (by rw [h]; decide), if_neg (by rw [h2]; decide)]
  have : (c :: r).drop (nOf (c :: r)) = r.drop (nOf (c :: r) - 1) := by
    rw [show nOf (c :: r) = (nOf (c :: r) - 1) + 1 by unfold nOf; omega, List.drop_succ_cons]
    rfl
  rw [this]
theorem go_dw (op : Bool) (l : List UInt8) : go op (l.dropWhile Tx.blkB) = go op l := by
  induction l with
  | nil => rfl
  | cons c r ih =>
    cases h : Tx.blkB c
    · rw [List.dropWhile_cons, h]; rfl
    · rw [List.dropWhile_cons, h, go_blank op c r h, ← ih]; rfl
theorem go_pieces (l : List UInt8) : go true (pieces l) = go true l := by
  unfold pieces
  induction l with
  | nil => rfl
  | cons c r ih =>
    cases h : Tx.blkB c
    · cases h2 : c == 44
      · rw [List.dropWhile_cons, sepB, h, h2]; rfl
      · obtain rfl := eq_of_beq h2
        rw [List.dropWhile_cons, show sepB 44 = true by decide, go_comma, ← ih]; rfl
    · rw [List.dropWhile_cons, sepB, h, go_blank true c r h, ← ih]; rfl
theorem pieces_head {l : List UInt8} {c : UInt8} {r : List UInt8} (h : pieces l = c :: r) : Tx.blkB c = false ∧ (c == 44) = false := by
  have h1 : sepB c = false := by
    have := List.head?_dropWhile_not sepB l
    unfold pieces at h
    rw [h] at this
    simpa using this
  unfold sepB at h1
  rw [Bool.or_eq_false_iff] at h1
  exact h1
/-- Behind a tag. -/
theorem go_behind (l : List UInt8) : go false l = if ends l then go true (pieces l) else none := by
  unfold ends
  have hp : pieces l = pieces (l.dropWhile Tx.blkB) := by
    unfold pieces
    induction l with
    | nil => rfl
    | cons c r ih =>
      cases h : Tx.blkB c
      · rw [List.dropWhile_cons (p := Tx.blkB), h]; rfl
      · rw [List.dropWhile_cons, List.dropWhile_cons (p := Tx.blkB), h, sepB, h]
        exact ih
  rw [← go_dw false l, hp, go_pieces]
  cases hq : l.dropWhile Tx.blkB with
  | nil => simp [go_nil]
  | cons c r =>
    have hb : Tx.blkB c = false := by
      have := List.head?_dropWhile_not Tx.blkB l
      rw [hq] at this
      simpa using this
    cases h2 : c == 44
    · rw [go_other false c r hb h2]
      have : (some c == some (44 : UInt8)) = false := by simpa using h2
      simp [this]
    · obtain rfl := eq_of_beq h2
      rw [go_comma, go_comma]
      simp
theorem go_step {l : List UInt8} {c : UInt8} {r : List UInt8} (hl : l = c :: r) (hb : Tx.blkB c = false) (h2 : (c == 44) = false) :
    go true l = if isOne l && ends (l.drop (nOf l)) then (go true (pieces (l.drop (nOf l)))).map (tagOf l :: ·) else none := by
  subst hl
  rw [go_other true c r hb h2, go_behind]
  cases isOne (c :: r)
  · simp
  · cases ends ((c :: r).drop (nOf (c :: r))) <;> simp

-- blanks behind
theorem blk_not {x : UInt8} (h : Tx.blkB x = true) : x ≠ 34 ∧ x ≠ 47 ∧ x ≠ 87 ∧ etB x = false := by
  unfold Tx.blkB Tx.blkC at h
  rw [Bool.or_eq_true] at h
  have hx : x = 32 ∨ x = 9 := by
    rcases h with h | h
    · left; apply UInt8.toNat_inj.1; have := eq_of_beq h; simp; omega
    · right; apply UInt8.toNat_inj.1; have := eq_of_beq h; simp; omega
  rcases hx with rfl | rfl <;> decide
theorem head_app {o b : List UInt8} (hb : ∀ x ∈ b, Tx.blkB x = true) : ((o ++ b).head? == some 34) = (o.head? == some 34) := by
  cases o with
  | cons c r => rfl
  | nil =>
    cases b with
    | nil => rfl
    | cons x y =>
      have := (blk_not (hb x (by simp))).1
      simp [this]
theorem inn_app {o b : List UInt8} (hb : ∀ x ∈ b, Tx.blkB x = true) : inn (o ++ b) = inn o := by
  unfold inn
  induction o with
  | nil =>
    cases b with
    | nil => rfl
    | cons x y => simp [(blk_not (hb x (by simp))).2.2.2]
  | cons c r ih =>
    rw [List.cons_append, List.takeWhile_cons, List.takeWhile_cons]
    cases etB c
    · rfl
    · simp [ih]
theorem inn_le (l : List UInt8) : inn l ≤ l.length := (List.takeWhile_sublist etB).length_le
theorem wk_app {l b : List UInt8} (hl : l ≠ []) (hb : ∀ x ∈ b, Tx.blkB x = true) : wk (l ++ b) = wk l := by
  unfold wk
  match l, hl with
  | [c], _ =>
    cases b with
    | nil => rfl
    | cons x y =>
      have := (blk_not (hb x (by simp))).2.1
      simp [this]
  | c :: d :: r, _ => simp
theorem wn_le (l : List UInt8) : wn l ≤ l.length := by
  unfold wn
  cases h : wk l
  · simp
  · unfold wk at h
    have := congrArg List.length (eq_of_beq h)
    simp at this
    simp; omega
theorem opq_app {l b : List UInt8} (hl : l ≠ []) (hb : ∀ x ∈ b, Tx.blkB x = true) : opq (l ++ b) = opq l ++ b := by
  have e : wn (l ++ b) = wn l := by unfold wn; rw [wk_app hl hb]
  unfold opq
  rw [e, List.drop_append_of_le_length (wn_le l)]
theorem drop_app1 (o b : List UInt8) (hb : ∀ x ∈ b, Tx.blkB x = true) : inn ((o ++ b).drop 1) = inn (o.drop 1) := by
  cases o with
  | nil =>
    have : inn (b.drop 1) = inn ([] ++ b.drop 1) := rfl
    rw [List.nil_append, this, inn_app (fun x hx => hb x (List.mem_of_mem_drop hx))]
    rfl
  | cons c r => simpa using inn_app (o := r) hb
theorem one_app {l b : List UInt8} (hl : l ≠ []) (hb : ∀ x ∈ b, Tx.blkB x = true) : isOne (l ++ b) = isOne l ∧ (isOne l = true → tagOf (l ++ b) = tagOf l ∧ nOf (l ++ b) = nOf l ∧ nOf l ≤ l.length) := by
  have e1 := opq_app hl hb
  have e2 : sz (l ++ b) = sz l := by unfold sz; rw [e1, drop_app1 _ _ hb]
  have e3 : wn (l ++ b) = wn l := by unfold wn; rw [wk_app hl hb]
  have hi := inn_le ((opq l).drop 1)
  have hol : (opq l).length = l.length - wn l := by unfold opq; simp
  have hwl := wn_le l
  have h1 : isOne (l ++ b) = isOne l := by
    unfold isOne
    rw [e1, e2, head_app hb]
    cases hh : (opq l).head? == some 34
    · rfl
    · have hne : 1 ≤ (opq l).length := by
        cases ho : opq l with
        | nil => rw [ho] at hh; simp at hh
        | cons c r => simp
      have : 1 + sz l ≤ (opq l).length := by
        unfold sz
        rw [List.length_drop] at hi; omega
      rw [List.drop_append_of_le_length this, head_app hb]
  refine ⟨h1, fun ho => ?_⟩
  unfold isOne at ho
  rw [Bool.and_eq_true] at ho
  have hlt : 1 + sz l < (opq l).length := by
    cases hd : (opq l).drop (1 + sz l) with
    | nil => rw [hd] at ho; simp at ho
    | cons c r =>
      have := congrArg List.length hd
      simp at this; omega
  refine ⟨?_, ?_, ?_⟩
  · unfold tagOf
    rw [wk_app hl hb, e1, e2, List.take_append_of_le_length (by omega)]
  · unfold nOf; rw [e3, e2]
  · unfold nOf; omega
theorem dw_all {b : List UInt8} (hb : ∀ x ∈ b, Tx.blkB x = true) : b.dropWhile Tx.blkB = [] := by
  have := Tx.dw_skip b [] hb
  simpa using this
theorem go_app : ∀ (n : Nat) (op : Bool) (l b : List UInt8), l.length ≤ n → (∀ x ∈ b, Tx.blkB x = true) → go op (l ++ b) = go op l := by
  intro n
  induction n with
  | zero =>
    intro op l b hl hb
    obtain rfl : l = [] := List.eq_nil_of_length_eq_zero (by omega)
    rw [List.nil_append, ← go_dw, dw_all hb]
  | succ n ih =>
    intro op l b hl hb
    cases l with
    | nil => rw [List.nil_append, ← go_dw, dw_all hb]
    | cons c r =>
      have hr : r.length ≤ n := by simpa using hl
      cases h : Tx.blkB c
      · cases h2 : c == 44
        · obtain ⟨o1, o2⟩ := one_app (l := c :: r) (by simp) hb
          rw [List.cons_append, go_other op c _ h h2, go_other op c _ h h2, ← List.cons_append, o1]
          cases ho : isOne (c :: r)
          · rfl
          · obtain ⟨q1, q2, q3⟩ := o2 ho
            rw [q1, q2, List.drop_append_of_le_length q3, ih false _ b (by rw [List.length_drop]; simp only [List.length_cons]; unfold nOf; omega) hb]
        · obtain rfl := eq_of_beq h2
          rw [List.cons_append, go_comma, go_comma, ih true r b hr hb]
      · rw [List.cons_append, go_blank op c _ h, go_blank op c _ h, ih op r b hr hb]
theorem go_trim (l : List UInt8) : go true (Tx.trim l) = go true l := by
  obtain ⟨a, b, hl, ha, hb⟩ := Tx.trim_parts l
  have h1 : go true l = go true (a ++ Tx.trim l) := by
    conv => lhs; rw [hl]
    exact go_app _ true _ b (Nat.le_refl _) hb
  rw [h1]
  clear h1 hl
  induction a with
  | nil => rfl
  | cons c r ih =>
    rw [List.cons_append, go_blank true c _ (ha c (by simp))]
    exact ih (fun x hx => ha x (by simp [hx]))
/-- What Parse answers: a star; the tags; 150. -/
def star (l : List UInt8) : Bool := Tx.trim l == [42]
def tags (l : List UInt8) : List Tag := if star l then [] else (go true l).getD []
def err (l : List UInt8) : Int := if star l then 0 else if (tags l).isEmpty then 150 else 0
end Tg
end Go.Proofs.YtbnldneejbbhhaaDoor
