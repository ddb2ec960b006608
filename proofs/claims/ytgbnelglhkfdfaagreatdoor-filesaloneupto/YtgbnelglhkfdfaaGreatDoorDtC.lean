/-
  A second's date, reckoned: plain.
-/
import Derived.Test.YtgbnelglhkfdfaaGreatDoorFtE
namespace Go.Proofs.YtgbnelglhkfdfaaGreatDoor

namespace Dt
def onB (n y m d : Int) : Bool :=
  decide (0 ≤ n) && (decide (n ≤ 253402300799) && (decide (1970 ≤ y) && (decide (y ≤ 9999) && (decide (dY y ≤ n / 86400) && (decide (n / 86400 < dY (y + 1)) && (decide (0 ≤ m) && (decide (m ≤ 11) && (decide (dM m y ≤ n / 86400 - dY y) && (decide (n / 86400 - dY y < dM (m + 1) y) && decide (d = n / 86400 - dY y - dM m y + 1))))))))))
theorem onB_is {n y m d : Int} (h : onB n y m d = true) : On n y m d := by
  unfold onB at h
  simp only [Bool.and_eq_true, decide_eq_true_eq] at h
  obtain ⟨a, b, c, d', e, f, g, i, j, k, l⟩ := h
  exact ⟨a, b, c, d', e, f, g, i, j, k, l⟩
theorem onB_of {n y m d : Int} (h : On n y m d) : onB n y m d = true := by
  unfold onB
  simp only [Bool.and_eq_true, decide_eq_true_eq]
  exact ⟨h.n0, h.n1, h.y0, h.y1, h.ylo, h.yhi, h.m0, h.m1, h.mlo, h.mhi, h.deq⟩
/-- The date of the second n in the year y. -/
def inY (n : Int) (y : Nat) : Option (List UInt8) := (List.range 12).findSome? fun (m : Nat) => if onB n y m (n / 86400 - dY y - dM m y + 1) then some (line n y m (n / 86400 - dY y - dM m y + 1)) else none
def fmtC (n : Int) : List UInt8 := ((List.range (10000 + n.toNat)).findSome? (inY n)).getD []
theorem inY_some {n : Int} {y : Nat} {l : List UInt8} (h : inY n y = some l) : Dated n l := by
  unfold inY at h
  obtain ⟨m, _, hm⟩ := List.exists_of_findSome?_eq_some h
  split at hm
  · rename_i hb
    exact ⟨_, _, _, onB_is hb, (Option.some.inj hm).symm⟩
  · cases hm
theorem fmtC_dated {n : Int} (h : fmtC n ≠ []) : Dated n (fmtC n) := by
  unfold fmtC at h ⊢
  cases hq : (List.range (10000 + n.toNat)).findSome? (inY n) with
  | none => rw [hq] at h; exact absurd rfl h
  | some l =>
    obtain ⟨y, _, hy⟩ := List.exists_of_findSome?_eq_some hq
    exact inY_some hy
theorem fmtC_of {n : Int} {l : List UInt8} (h : Dated n l) : fmtC n = l := by
  have hd := h
  obtain ⟨y, m, d, ho, _⟩ := hd
  have hne : fmtC n ≠ [] := by
    unfold fmtC
    cases hq : (List.range (10000 + n.toNat)).findSome? (inY n) with
    | none =>
      exfalso
      have h1 := List.findSome?_eq_none_iff.1 hq y.toNat (List.mem_range.2 (by have := ho.y1; omega))
      unfold inY at h1
      have h2 := List.findSome?_eq_none_iff.1 h1 m.toNat (List.mem_range.2 (by have := ho.m1; omega))
      have ey : ((y.toNat : Nat) : Int) = y := by have := ho.y0; omega
      have em : ((m.toNat : Nat) : Int) = m := by have := ho.m0; omega
      rw [ey, em, ← ho.deq, if_pos (onB_of ho)] at h2
      cases h2
    | some k =>
      obtain ⟨y', _, hy⟩ := List.exists_of_findSome?_eq_some hq
      have hk := (inY_some hy).len
      intro e
      rw [Option.getD_some] at e
      rw [e] at hk
      cases hk
  exact (fmtC_dated hne).uniq h
/-- What second a text says, and whether it says one. -/
def dprC (l : List UInt8) : Int × Int := if fmtC (rsec l) == l && !l.isEmpty then (rsec l, 0) else (0, 20)
theorem dprC_of {n : Int} {l : List UInt8} (h : Dated n l) : dprC l = (n, 0) := by
  unfold dprC
  rw [h.rsec, fmtC_of h, if_pos (by rw [beq_self_eq_true, Bool.true_and]; have := h.len; cases l with | nil => cases this | cons a r => rfl)]
theorem dprC_no {l : List UInt8} (h : ∀ n, ¬ Dated n l) : dprC l = (0, 20) := by
  unfold dprC
  rw [if_neg]
  intro hc
  rw [Bool.and_eq_true, beq_iff_eq] at hc
  obtain ⟨h1, h2⟩ := hc
  have hne : fmtC (rsec l) ≠ [] := by rw [h1]; intro e; rw [e] at h2; cases h2
  have := fmtC_dated hne
  rw [h1] at this
  exact h _ this
end Dt
end Go.Proofs.YtgbnelglhkfdfaaGreatDoor
