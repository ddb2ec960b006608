/-
  A body of several ranges, on lists of bytes. What is of no program.
-/
import Derived.Test.YtdbldompjhienaaDoorRgI
namespace Go.Proofs.YtdbldompjhienaaDoor
namespace Rg
def crlf : T8 := [13, 10]
def dd : T8 := [45, 45]
def sType : T8 := [67, 111, 110, 116, 101, 110, 116, 45, 84, 121, 112, 101, 58, 32]
def sRange : T8 := [67, 111, 110, 116, 101, 110, 116, 45, 82, 97, 110, 103, 101, 58, 32]
theorem fl1 (a : T8) : [a].flatten.length = a.length := by simp
theorem fl2 (a b : T8) : [a, b].flatten.length = a.length + b.length := by simp
theorem fl3 (a b c : T8) : [a, b, c].flatten.length = a.length + b.length + c.length := by simp; omega
/-- The bytes of a range. -/
def cutR (b : T8) (r : Rn) : T8 := (b.drop r.a.toNat).take ((r.b + 1).toNat - r.a.toNat)
/-- What stands ahead of a range's bytes. -/
def hd (k ln : T8) (r : Rn) (n : Int) : T8 := dd ++ (ln ++ (crlf ++ (sType ++ (k ++ (crlf ++ (sRange ++ (told r n ++ (crlf ++ crlf))))))))
def part (b k ln : T8) (r : Rn) : T8 := hd k ln r b.length ++ (cutR b r ++ crlf)
def fin (ln : T8) : T8 := dd ++ (ln ++ (dd ++ crlf))
def parts (b k ln : T8) (rs : List Rn) : T8 := rs.flatMap (part b k ln) ++ fin ln
/-- Whether there are ranges, all within the body. -/
def okP (b : T8) (rs : List Rn) : Bool := !rs.isEmpty && rs.all (fun r => wth r b.length)
def partsS (b k ln : T8) (rs : List Rn) : T8 := if okP b rs then parts b k ln rs else []
def partsE (b : T8) (rs : List Rn) : Int := if okP b rs then 0 else 1
theorem wth_nat {r : Rn} {n : Nat} (h : wth r n = true) : ∃ A C : Nat, r = ⟨(A : Int), (C : Int)⟩ ∧ A ≤ C ∧ C < n := by
  obtain ⟨a, b⟩ := r
  unfold wth at h
  simp only [Bool.and_eq_true, decide_eq_true_iff] at h
  exact ⟨a.toNat, b.toNat, by congr 1 <;> omega, by omega, by omega⟩
theorem itoa_19 {n : Int} (h0 : -9223372036854775808 ≤ n) (h1 : n ≤ 9223372036854775807) : (Lib.itoa n).length ≤ 21 := Tx.itoa_le _ 19 (by omega)
theorem told_len {r : Rn} {n : Nat} (h : wth r n = true) (hn : n ≤ 1048576) : (told r n).length ≤ 71 := by
  obtain ⟨A, C, rfl, h1, h2⟩ := wth_nat h
  unfold told
  have a1 := itoa_19 (n := (A : Int)) (by omega) (by omega)
  have a2 := itoa_19 (n := (C : Int)) (by omega) (by omega)
  have a3 := itoa_19 (n := (n : Int)) (by omega) (by omega)
  simp only [sBytes, List.length_append, List.length_cons, List.length_nil]
  omega
theorem cutR_len (b : T8) (r : Rn) : (cutR b r).length ≤ b.length := by
  unfold cutR
  rw [List.length_take, List.length_drop]; omega
theorem part_len {b k ln : T8} {r : Rn} (h : wth r b.length = true) (hb : b.length ≤ 1048576) : (part b k ln r).length ≤ b.length + k.length + ln.length + 200 := by
  have h1 := told_len h hb
  have h2 := cutR_len b r
  unfold part hd
  simp only [List.length_append, crlf, dd, sType, sRange, List.length_cons, List.length_nil]
  omega
theorem flat_len {b k ln : T8} {rs : List Rn} (h : rs.all (fun r => wth r b.length) = true) (hb : b.length ≤ 1048576) : (rs.flatMap (part b k ln)).length ≤ rs.length * (b.length + k.length + ln.length + 200) := by
  induction rs with
  | nil => simp
  | cons r rs ih =>
    rw [List.all_cons, Bool.and_eq_true] at h
    have h1 := part_len (k := k) (ln := ln) h.1 hb
    have h2 := ih h.2
    rw [List.flatMap_cons, List.length_append, List.length_cons, Nat.succ_mul]
    omega
theorem flat_take {b k ln : T8} {rs : List Rn} {i : Nat} {r : Rn} (h : rs[i]? = some r) : (rs.take (i + 1)).flatMap (part b k ln) = (rs.take i).flatMap (part b k ln) ++ part b k ln r := by
  rw [List.take_add_one, h]; simp
theorem all_take2 {rs : List Rn} {i : Nat} {r : Rn} (g : Rn → Bool) (h : rs[i]? = some r) : (rs.take (i + 1)).all g = ((rs.take i).all g && g r) := by
  rw [List.take_add_one, h]; simp
theorem okP_bad {b : T8} {rs : List Rn} {r : Rn} (hr : r ∈ rs) (h : wth r b.length = false) : okP b rs = false := by
  unfold okP
  have : rs.all (fun r => wth r b.length) = false := by
    rw [Bool.eq_false_iff]; intro ht
    have := List.all_eq_true.1 ht r hr
    rw [h] at this; cases this
  rw [this, Bool.and_false]
end Rg
end Go.Proofs.YtdbldompjhienaaDoor
