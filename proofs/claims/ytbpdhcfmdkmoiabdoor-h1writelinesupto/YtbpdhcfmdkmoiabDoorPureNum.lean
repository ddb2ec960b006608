/-
  Numbers that texts write: plain functions and lemmas, with no program in sight.
-/
import Derived.Test.YtbpdhcfmdkmoiabDoorLists
namespace Go.Proofs.YtbpdhcfmdkmoiabDoor
namespace Tx

/-- The greatest number. -/
def top : Int := 9223372036854775807
theorem top_eq : top = 9223372036854775807 := rfl
/-- The number that digits of base b write. -/
def numv (b : Int) (l : List UInt8) : Int := l.foldl (fun n c => n * b + dgt (c.toNat : Int)) 0
def digs (b : Int) (l : List UInt8) : Bool := allC (fun c => decide (dgt c < b)) l
theorem numv_snoc (b : Int) (l : List UInt8) (c : UInt8) : numv b (l ++ [c]) = numv b l * b + dgt (c.toNat : Int) := by
  unfold numv; rw [List.foldl_append]; rfl
theorem numv_nonneg (b : Int) (hb : 0 ≤ b) (l : List UInt8) : 0 ≤ numv b l := by
  unfold numv
  suffices h : ∀ n : Int, 0 ≤ n → 0 ≤ l.foldl (fun n c => n * b + dgt (c.toNat : Int)) n from h 0 (Int.le_refl _)
  induction l with
  | nil => intro n hn; exact hn
  | cons c l ih => intro n hn; exact ih _ (Int.add_nonneg (Int.mul_nonneg hn hb) (dgt_bd _).1)

/-- P1.5: the number and the error's number. -/
def num (b : Int) (l : List UInt8) : Int × Int := if l.isEmpty || !digs b l then (0, 10) else if top < numv b l then (0, 5) else (numv b l, 0)

/-- What the loop of read keeps. -/
structure NumRel (b : Int) (l : List UInt8) (n : Int) (o : Bool) : Prop where
  digs : digs b l = true
  lo : 0 ≤ n
  hi : n ≤ top
  no : o = false → n = numv b l
  yes : o = true → top < numv b l
theorem NumRel.start (b : Int) : NumRel b [] 0 false := ⟨rfl, Int.le_refl _, by decide, fun _ => rfl, fun h => (by cases h)⟩
theorem digs_snoc (b : Int) (l : List UInt8) (c : UInt8) (h : digs b l = true) (hc : dgt (c.toNat : Int) < b) : digs b (l ++ [c]) = true := by
  unfold digs allC at *; rw [List.all_append, h]; simp [hc]
theorem NumRel.over {b : Int} {l : List UInt8} {n : Int} (h : NumRel b l n true) (hb : 1 ≤ b) (c : UInt8) (hc : dgt (c.toNat : Int) < b) : NumRel b (l ++ [c]) n true :=
  have hy : top < numv b (l ++ [c]) := by
    rw [numv_snoc]
    have h1 := h.yes rfl
    have h2 := (dgt_bd (c.toNat : Int)).1
    have h3 := numv_nonneg b (by omega) l
    have h4 : numv b l * 1 ≤ numv b l * b := Int.mul_le_mul_of_nonneg_left hb h3
    omega
  ⟨digs_snoc b l c h.digs hc, h.lo, h.hi, fun e => (by cases e), fun _ => hy⟩
theorem NumRel.goes {b : Int} {l : List UInt8} {n : Int} (h : NumRel b l n false) (c : UInt8) (hc : dgt (c.toNat : Int) < b) (hn : top < n * b + dgt (c.toNat : Int)) : NumRel b (l ++ [c]) n true :=
  ⟨digs_snoc b l c h.digs hc, h.lo, h.hi, fun e => (by cases e), fun _ => by rw [numv_snoc, ← h.no rfl]; exact hn⟩
theorem NumRel.step {b : Int} {l : List UInt8} {n : Int} (h : NumRel b l n false) (hb : 0 ≤ b) (c : UInt8) (hc : dgt (c.toNat : Int) < b) (hn : n * b + dgt (c.toNat : Int) ≤ top) : NumRel b (l ++ [c]) (n * b + dgt (c.toNat : Int)) false :=
  ⟨digs_snoc b l c h.digs hc, Int.add_nonneg (Int.mul_nonneg h.lo hb) (dgt_bd _).1, hn, fun _ => by rw [numv_snoc, ← h.no rfl], fun e => (by cases e)⟩
theorem num_bad (b : Int) (s : ByteArray) (k : Nat) (h : k < s.size) (hc : ¬ dgt (s[k].toNat : Int) < b) : num b s.data.toList = (0, 10) := by
  unfold num digs
  rw [allC_no _ s k h (by simpa using hc)]; simp
theorem num_empty (b : Int) (l : List UInt8) (h : l.isEmpty = true) : num b l = (0, 10) := by unfold num; rw [h]; simp
theorem num_over (b : Int) (s : ByteArray) (k : Nat) (h : s.size ≤ k) (he : s.data.toList.isEmpty = false) (n : Int) (hr : NumRel b (s.data.toList.take k) n true) : num b s.data.toList = (0, 5) := by
  rw [List.take_of_length_le (by rw [← Lib.size_eq]; exact h)] at hr
  unfold num
  rw [he, hr.digs, if_neg (by decide), if_pos (hr.yes rfl)]
theorem num_ok (b : Int) (s : ByteArray) (k : Nat) (h : s.size ≤ k) (he : s.data.toList.isEmpty = false) (n : Int) (hr : NumRel b (s.data.toList.take k) n false) : num b s.data.toList = (n, 0) := by
  rw [List.take_of_length_le (by rw [← Lib.size_eq]; exact h)] at hr
  have e := hr.no rfl
  have hi := hr.hi
  subst e
  unfold num
  rw [he, hr.digs, if_neg (by decide), if_neg (by omega)]

end Tx
end Go.Proofs.YtbpdhcfmdkmoiabDoor
