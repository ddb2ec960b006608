/-
  A book of streams on lists: what happens on a stream; no program.
-/
import Derived.WalkKit
namespace Go.Proofs.Ythgdokcdpmoeeaa
namespace Sm

structure Bk where
  most : Nat
  last : Nat
  op : List (Nat × Nat)
  dr : List Nat
  st : Bool
  pa : Nat

/-- To which phase a stream goes, what is wrong, whether the step counts. -/
structure Vd where
  to : Nat
  is : Bool
  conn : Bool
  code : Int
  counts : Bool

def isOpen (p : Nat) : Bool := p == 1 || p == 2 || p == 3
def gotData (p : Nat) (e : Bool) : Vd :=
  match p with
  | 0 => ⟨0, true, true, 1, false⟩
  | 1 => ⟨if e then 2 else 1, false, false, 0, true⟩
  | 2 => ⟨2, true, false, 5, false⟩
  | 3 => ⟨if e then 4 else 3, false, false, 0, true⟩
  | 4 => ⟨4, true, true, 5, false⟩
  | _ => ⟨p, false, false, 0, false⟩
def gotHeaders (p : Nat) (e : Bool) : Vd :=
  if !e && (p == 1 || p == 3) then ⟨p, true, false, 1, false⟩ else gotData p e
def gotReset (p : Nat) : Vd := if p = 0 then ⟨0, true, true, 1, false⟩ else ⟨4, false, false, 0, isOpen p⟩
def gotWindow (p : Nat) : Vd := if p = 0 then ⟨0, true, true, 1, false⟩ else ⟨p, false, false, 0, isOpen p⟩
def gotPriority (p : Nat) : Vd := ⟨p, false, false, 0, isOpen p⟩
def sent (p : Nat) (e : Bool) : Vd :=
  match p with
  | 1 => ⟨if e then 3 else 1, false, false, 0, true⟩
  | 2 => ⟨if e then 4 else 2, false, false, 0, true⟩
  | _ => ⟨p, true, false, 2, false⟩
def sentReset (p : Nat) : Vd :=
  if p = 0 then ⟨0, true, false, 2, false⟩ else if isOpen p then ⟨5, false, false, 0, true⟩ else ⟨p, false, false, 0, false⟩
def judge (s p : Nat) (e : Bool) : Vd :=
  if s = 1 then gotHeaders p e
  else if s = 2 then gotData p e
  else if s = 3 then gotReset p
  else if s = 4 then gotWindow p
  else if s = 5 then gotPriority p
  else if s = 6 then sent p e
  else if s = 7 then sent p e
  else if s = 8 then sentReset p
  else ⟨p, true, false, 2, false⟩
def isGot (s : Nat) : Bool := s == 1 || s == 2 || s == 3 || s == 4 || s == 5
/-- What is wrong with a step on a stream that there cannot be: with the connection? with what code? -/
def noConn (s : Nat) : Bool := !(s == 6 || s == 7 || s == 8)
def noCode (s : Nat) : Int := if noConn s then 1 else 2

theorem judge_to (s p : Nat) (e : Bool) (hp : p ≤ 5) : (judge s p e).to = p ∨ (p = 1 ∧ 2 ≤ (judge s p e).to ∧ (judge s p e).to ≤ 5) ∨ ((p = 2 ∨ p = 3) ∧ ((judge s p e).to = 4 ∨ (judge s p e).to = 5)) ∨ (p = 5 ∧ (judge s p e).to = 4) := by
  unfold judge
  split
  · cases e <;> match p, hp with
    | 0, _ => simp [gotHeaders, gotData]
    | 1, _ => simp [gotHeaders, gotData]
    | 2, _ => simp [gotHeaders, gotData]
    | 3, _ => simp [gotHeaders, gotData]
    | 4, _ => simp [gotHeaders, gotData]
    | 5, _ => simp [gotHeaders, gotData]
  split
  · cases e <;> match p, hp with
    | 0, _ => simp [gotData]
    | 1, _ => simp [gotData]
    | 2, _ => simp [gotData]
    | 3, _ => simp [gotData]
    | 4, _ => simp [gotData]
    | 5, _ => simp [gotData]
  split
  · match p, hp with
    | 0, _ => simp [gotReset]
    | 1, _ => simp [gotReset]
    | 2, _ => simp [gotReset]
    | 3, _ => simp [gotReset]
    | 4, _ => simp [gotReset]
    | 5, _ => simp [gotReset]
  split
  · unfold gotWindow; split <;> simp_all
  split
  · simp [gotPriority]
  have hsent : (sent p e).to = p ∨ (p = 1 ∧ 2 ≤ (sent p e).to ∧ (sent p e).to ≤ 5) ∨ ((p = 2 ∨ p = 3) ∧ ((sent p e).to = 4 ∨ (sent p e).to = 5)) ∨ (p = 5 ∧ (sent p e).to = 4) := by
    cases e <;> match p, hp with
    | 0, _ => simp [sent]
    | 1, _ => simp [sent]
    | 2, _ => simp [sent]
    | 3, _ => simp [sent]
    | 4, _ => simp [sent]
    | 5, _ => simp [sent]
  split
  · exact hsent
  split
  · exact hsent
  split
  · match p, hp with
    | 0, _ => simp [sentReset]
    | 1, _ => simp [sentReset, isOpen]
    | 2, _ => simp [sentReset, isOpen]
    | 3, _ => simp [sentReset, isOpen]
    | 4, _ => simp [sentReset, isOpen]
    | 5, _ => simp [sentReset, isOpen]
  · simp

/-- The phase of an open stream. -/
def look (l : List (Nat × Nat)) (n : Nat) : Option Nat := (l.find? (fun x => x.1 == n)).map (·.2)
def phase (k : Bk) (n : Nat) : Nat :=
  if n % 2 = 1 ∧ n ≤ k.last then
    match look k.op n with
    | some p => p
    | none => if n ∈ k.dr then 5 else 4
  else 0
/-- The phase of a stream of any number. -/
def phaseI (k : Bk) (id : Int) : Nat := if 1 ≤ id then phase k id.toNat else 0

def drop (k : Bk) (n : Nat) : Bk := { k with dr := (if k.dr.length = k.most then k.dr.drop 1 else k.dr) ++ [n] }
/-- Headers of a stream above the last one. -/
def first (k : Bk) (n : Nat) (e : Bool) : Bk × Vd :=
  if k.st then ({ k with pa := max k.pa n }, ⟨0, false, false, 0, false⟩)
  else if k.op.length = k.most then (drop { k with last := n } n, ⟨5, true, false, 7, false⟩)
  else ({ k with last := n, op := k.op ++ [(n, if e then 2 else 1)] }, ⟨1, false, false, 0, true⟩)
def setPh (l : List (Nat × Nat)) (n to : Nat) : List (Nat × Nat) := l.map fun x => if x.1 = n then (n, to) else x
def cutPh (l : List (Nat × Nat)) (n : Nat) : List (Nat × Nat) := l.filter fun x => x.1 != n
def move (k : Bk) (n fr to : Nat) : Bk :=
  if fr = to then k
  else if fr = 5 then { k with dr := k.dr.erase n }
  else if isOpen to then { k with op := setPh k.op n to }
  else if to = 5 then drop { k with op := cutPh k.op n } n
  else { k with op := cutPh k.op n }
/-- What happens on a stream that there can be. -/
def doN (k : Bk) (s n : Nat) (e : Bool) : Bk × Vd :=
  if s = 1 ∧ k.last < n then first k n e
  else if isGot s = true ∧ (k.last < n ∧ n ≤ k.pa) then (k, ⟨0, false, false, 0, false⟩)
  else (move k n (phase k n) (judge s (phase k n) e).to, judge s (phase k n) e)
def can (id : Int) : Bool := decide (1 ≤ id) && decide (id % 2 = 1) && decide (id ≤ 2147483647)
def does (k : Bk) (s : Nat) (id : Int) (e : Bool) : Bk × Vd :=
  if can id then doN k s id.toNat e else (k, ⟨0, true, noConn s, noCode s, false⟩)

structure Ok (k : Bk) : Prop where
  m1 : 1 ≤ k.most
  m2 : k.most ≤ 65536
  srt : k.op.Pairwise (fun x y => x.1 < y.1)
  ops : ∀ x ∈ k.op, x.1 % 2 = 1 ∧ x.1 ≤ k.last ∧ 1 ≤ x.2 ∧ x.2 ≤ 3
  len : k.op.length ≤ k.most
  drs : ∀ n ∈ k.dr, n % 2 = 1 ∧ n ≤ k.last ∧ look k.op n = none
  dnd : k.dr.Nodup
  dln : k.dr.length ≤ k.most
  l1 : k.last ≤ 2147483647
  l2 : k.last = 0 ∨ k.last % 2 = 1
  pas : k.pa ≤ 2147483647

theorem look_some {l : List (Nat × Nat)} {n p : Nat} (h : look l n = some p) : (n, p) ∈ l := by
  unfold look at h
  cases hf : l.find? (fun x => x.1 == n) with
  | none => simp [hf] at h
  | some x =>
    simp [hf] at h
    have h1 := List.find?_some hf
    have h2 := List.mem_of_find?_eq_some hf
    simp at h1
    obtain ⟨a, b⟩ := x
    simp at h h1
    subst h h1
    exact h2
theorem look_none {l : List (Nat × Nat)} {n : Nat} : look l n = none ↔ ∀ x ∈ l, x.1 ≠ n := by
  unfold look
  simp [List.find?_eq_none]
theorem look_cons (x : Nat × Nat) (l : List (Nat × Nat)) (n : Nat) : look (x :: l) n = if x.1 = n then some x.2 else look l n := by
  unfold look
  by_cases h : x.1 = n <;> simp [h]
theorem look_append (l r : List (Nat × Nat)) (n : Nat) : look (l ++ r) n = match look l n with | some p => some p | none => look r n := by
  induction l with
  | nil => rfl
  | cons x l ih => rw [List.cons_append, look_cons, look_cons]; split <;> simp_all
theorem look_set (l : List (Nat × Nat)) (n to m : Nat) : look (setPh l n to) m = if m = n then (look l n).map (fun _ => to) else look l m := by
  unfold setPh
  induction l with
  | nil => simp [look]
  | cons x l ih =>
    rw [List.map_cons, look_cons, look_cons, look_cons, ih]
    by_cases h : x.1 = n
    · by_cases h2 : m = n
      · simp [h, h2]
      · rw [if_pos h, if_neg (fun e => h2 (by simpa using e.symm)), if_neg h2, if_neg h2, if_neg (fun e => h2 (by rw [← e, h]))]
    · by_cases h2 : m = n
      · simp [h, h2]
      · simp [h, h2]
theorem look_cut (l : List (Nat × Nat)) (n m : Nat) : look (cutPh l n) m = if m = n then none else look l m := by
  unfold cutPh
  induction l with
  | nil => simp [look]
  | cons x l ih =>
    rw [List.filter_cons]
    by_cases h : x.1 = n
    · rw [if_neg (by simp [h]), ih, look_cons]
      by_cases h2 : m = n
      · simp [h2]
      · rw [if_neg h2, if_neg h2, if_neg (fun e => h2 (by rw [← e, h]))]
    · rw [if_pos (by simp [h]), look_cons, look_cons, ih]
      by_cases h2 : m = n
      · simp [h2, h]
      · simp [h2]
theorem phase_le {k : Bk} (h : Ok k) (n : Nat) : phase k n ≤ 5 := by
  unfold phase
  split
  · split
    · have := (h.ops _ (look_some (by assumption))).2.2.2; simp at this; omega
    · split <;> omega
  · omega
theorem mem_drop {k : Bk} {n m : Nat} (h : m ∈ (drop k n).dr) : m = n ∨ m ∈ k.dr := by
  unfold drop at h
  simp only [List.mem_append, List.mem_singleton] at h
  rcases h with h | h
  · split at h
    · exact .inr (List.mem_of_mem_drop h)
    · exact .inr h
  · exact .inl h

end Sm
end Go.Proofs.Ythgdokcdpmoeeaa
