/-
  Plain functions on bytes, lists and numbers, and plain lemmas about them: what the document says of package text, with no program in sight.
-/
import Derived.WalkKit
namespace Go.Proofs.YtbpdhcfmdkmoiabDoor
namespace Tx

/-! ### bytes -/
def letC (c : Int) : Bool := (decide (65 ≤ c) && decide (c ≤ 90)) || (decide (97 ≤ c) && decide (c ≤ 122))
def digC (c : Int) : Bool := decide (48 ≤ c) && decide (c ≤ 57)
def markC (c : Int) : Bool := c == 33 || c == 35 || c == 36 || c == 37 || c == 38 || c == 39 || c == 42 || c == 43 || c == 45 || c == 46 || c == 94 || c == 95 || c == 96 || c == 124 || c == 126
def tokC (c : Int) : Bool := letC c || digC c || markC c
def blkC (c : Int) : Bool := (c == 32) || (c == 9)
def valC (c : Int) : Bool := (c == 9) || (decide (32 ≤ c) && decide (c ≤ 126)) || decide (128 ≤ c)
/-- A digit's value, 16 for a byte that is none. -/
def dgt (c : Int) : Int := if digC c then c - 48 else if decide (97 ≤ c) && decide (c ≤ 102) then c - 87 else if decide (65 ≤ c) && decide (c ≤ 70) then c - 55 else 16
/-- The same, -1 for a byte that is none. -/
def dgr (c : Int) : Int := if digC c then c - 48 else if decide (97 ≤ c) && decide (c ≤ 102) then c - 87 else if decide (65 ≤ c) && decide (c ≤ 70) then c - 55 else -1

theorem dgt_bd (c : Int) : 0 ≤ dgt c ∧ dgt c ≤ 16 := by
  unfold dgt digC; simp only [Bool.and_eq_true, decide_eq_true_eq]; repeat' split
  all_goals omega
theorem dgr_bd (c : Int) : -1 ≤ dgr c ∧ dgr c ≤ 15 := by
  unfold dgr digC; simp only [Bool.and_eq_true, decide_eq_true_eq]; repeat' split
  all_goals omega
theorem dgr_dgt (c : Int) (b : Int) (hb : b ≤ 16) (h0 : 0 ≤ b) : (dgr c < 0 ∨ b ≤ dgr c ↔ b ≤ dgt c) ∧ (dgt c < b → dgr c = dgt c) := by
  unfold dgr dgt digC; simp only [Bool.and_eq_true, decide_eq_true_eq]; repeat' split
  all_goals omega

end Tx
end Go.Proofs.YtbpdhcfmdkmoiabDoor
