/-
  Ranges on lists of bytes: what is of no program.
-/
import Derived.Test.YtdbldompjhienaaDoorPureDec
namespace Go.Proofs.YtdbldompjhienaaDoor
namespace Rg
abbrev T8 := List UInt8

/-- A number of 1 to 15 digits, and whether it is one. -/
def digN (l : T8) : Int := if 1 ≤ l.length ∧ l.length ≤ 15 then (Tx.num 10 l).1 else 0
def digB (l : T8) : Bool := decide (1 ≤ l.length) && decide (l.length ≤ 15) && ((Tx.num 10 l).2 == 0)
/-- How many bytes stand ahead of the first '-'. -/
def ahead (l : T8) : Nat := (l.takeWhile (fun c => !(c == 45))).length
def hasD (l : T8) : Bool := l.contains 45
/-- A range: from, to. -/
structure Rn where
  a : Int
  b : Int
/-- What a piece is of a body: the range, whether it is within, whether it is a piece. -/
def pc (l : T8) (n : Int) : Rn × Bool × Bool :=
  if hasD l then
    let d := ahead l
    let x := l.take d
    let y := l.drop (d + 1)
    if d = 0 then (⟨max (n - digN y) 0, n - 1⟩, decide (0 < digN y) && decide (0 < n), digB y)
    else if d + 1 = l.length then (⟨digN x, n - 1⟩, decide (digN x < n), digB x)
    else (⟨digN x, min (digN y) (n - 1)⟩, decide (digN x < n), digB x && digB y && decide (digN x ≤ digN y))
  else (⟨0, 0⟩, false, false)
/-- A text cut at its commas, what stands ahead of the next one in hand. -/
def cutA : T8 → T8 → List T8
  | cur, [] => [cur]
  | cur, c :: r => if c = 44 then cur :: cutA [] r else cutA (cur ++ [c]) r
def pcs (l : T8) : List T8 := ((cutA [] l).map Tx.trim).filter (fun p => !(p == []))
def head6 : T8 := [98, 121, 116, 101, 115, 61]
/-- What Parse answers. -/
def outs (ps : List T8) (n : Int) : List Rn := (ps.filter (fun p => (pc p n).2.1)).map (fun p => (pc p n).1)
def err (l : T8) (n : Int) : Int :=
  if n < 0 then 1 else if l.take 6 == head6 then
    (if (pcs (l.drop 6)).isEmpty || !(pcs (l.drop 6)).all (fun p => (pc p n).2.2) then 160
     else if 8 < (pcs (l.drop 6)).length then 4 else if (outs (pcs (l.drop 6)) n).isEmpty then 161 else 0)
  else 160
def res (l : T8) (n : Int) : List Rn := if err l n == 0 then outs (pcs (l.drop 6)) n else []
def sBytes : T8 := [98, 121, 116, 101, 115, 32]
def told (r : Rn) (n : Int) : T8 := sBytes ++ (Lib.itoa r.a ++ 45 :: (Lib.itoa r.b ++ 47 :: Lib.itoa n))
def unmet (n : Int) : T8 := [98, 121, 116, 101, 115, 32, 42, 47] ++ Lib.itoa n
/-- Whether a text stands in another one. -/
def stands (s b : T8) : Bool := (List.range (b.length + 1 - s.length)).any fun i => (b.drop i).take s.length == s
def sPart : T8 := [112, 97, 114, 116]
def line (n : Nat) : T8 := sPart ++ Lib.itoa (n : Int)
theorem ahead_at {l : T8} {k : Nat} (h : k < ahead l) : ∃ c, l[k]? = some c ∧ (c == 45) = false := by
  unfold ahead at h
  induction l generalizing k with
  | nil => simp at h
  | cons x r ih =>
    rw [List.takeWhile_cons] at h
    cases hx : (x == 45)
    · rw [hx] at h
      cases k with
      | zero => exact ⟨x, rfl, hx⟩
      | succ k => simpa using ih (by simpa using h)
    · rw [hx] at h; simp at h
theorem ahead_stop {l : T8} (h : hasD l = true) : l[ahead l]? = some 45 := by
  unfold ahead hasD at *
  induction l with
  | nil => simp at h
  | cons x r ih =>
    rw [List.takeWhile_cons]
    cases hx : (x == 45)
    · rw [List.contains_cons, Bool.or_eq_true] at h
      rcases h with h | h
      · rw [Bool.beq_comm] at h; rw [h] at hx; cases hx
      · simpa using ih h
    · simp; exact eq_of_beq hx
theorem ahead_lt {l : T8} (h : hasD l = true) : ahead l < l.length := by
  have := ahead_stop h
  rcases Nat.lt_or_ge (ahead l) l.length with h1 | h1
  · exact h1
  · rw [List.getElem?_eq_none h1] at this; cases this
theorem ahead_all {l : T8} (h : hasD l = false) : ∀ (k : Nat) (c : UInt8), l[k]? = some c → (c == 45) = false := by
  intro k c hc
  have := List.mem_of_getElem? hc
  unfold hasD at h
  cases hq : (c == 45)
  · rfl
  · rw [eq_of_beq hq] at this
    have := List.contains_iff_mem.2 this
    rw [h] at this; cases this
theorem num_bd (l : T8) : 0 ≤ (Tx.num 10 l).1 ∧ (Tx.num 10 l).1 ≤ 9223372036854775807 := by
  unfold Tx.num
  split
  · exact ⟨by decide, by decide⟩
  · split
    · exact ⟨by decide, by decide⟩
    · rename_i h
      have := Tx.numv_nonneg 10 (by decide) l
      rw [Tx.top_eq] at h
      exact ⟨this, by simp only; omega⟩
theorem digN_bd (l : T8) : 0 ≤ digN l ∧ digN l ≤ 9223372036854775807 := by
  unfold digN
  split
  · exact num_bd l
  · exact ⟨by decide, by decide⟩
end Rg
end Go.Proofs.YtdbldompjhienaaDoor
