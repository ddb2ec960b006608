/-
  What priority a value says: plain.
-/
import Derived.Test.YtekpjbhhbklboaaDoorPureList
import Derived.Test.YtekpjbhhbklboaaDoorPrP
import Derived.Lib.IndexLaws
namespace Go.Proofs.YtekpjbhhbklboaaDoor
namespace Pr

/-- What stands ahead of the first ';'. -/
def cutW (l : List UInt8) : List UInt8 := l.takeWhile (· != 59)
def word (m : List UInt8) : List UInt8 := Tx.trim (cutW m)
def chgP (p : Bool) (t : List UInt8) : Bool := if (t == [105]) = true then true else if (t == [105, 61, 63, 49]) = true then true else if (t == [105, 61, 63, 48]) = true then false else p
def chgU (u : Nat) (t : List UInt8) : Nat := match t with
  | [117, 61, d] => if 48 ≤ d.toNat ∧ d.toNat ≤ 55 then d.toNat - 48 else u
  | _ => u
def chg (x : Nat × Bool) (t : List UInt8) : Nat × Bool := (chgU x.1 t, chgP x.2 t)
def parse (l : List UInt8) : Nat × Bool := (Tx.list l).foldl (fun x m => chg x (word m)) (3, false)

theorem cutW_le (l : List UInt8) : (cutW l).length ≤ l.length := List.Sublist.length_le (List.takeWhile_sublist _)
theorem word_le (l : List UInt8) : (word l).length ≤ l.length := Nat.le_trans (Tx.trim_le _) (cutW_le l)
theorem cutW_all {l : List UInt8} (h1 : ∀ x ∈ l, (x != 59) = true) : cutW l = l := by
  unfold cutW
  have := List.takeWhile_append_of_pos (l₂ := []) h1
  simpa using this
theorem cutW_none {l : List UInt8} (h : Lib.indexByte l 59 = -1) : cutW l = l := by
  refine cutW_all (fun x hx => ?_)
  obtain ⟨k, hk⟩ := List.getElem?_of_mem hx
  have := Lib.indexByte_none h k
  rw [hk] at this
  simp
  rintro rfl
  exact this rfl
theorem cutW_some {l : List UInt8} {o : Nat} (h : Lib.indexByte l 59 = (o : Int)) : cutW l = l.take o ∧ o < l.length := by
  obtain ⟨h1, h2⟩ := Lib.indexByte_some h
  obtain ⟨hl, h3⟩ := List.getElem?_eq_some_iff.1 h1
  refine ⟨?_, hl⟩
  unfold cutW
  have e : l = l.take o ++ 59 :: l.drop (o + 1) := by
    conv => lhs; rw [← List.take_append_drop o l, List.drop_eq_getElem_cons hl, h3]
  have h4 : ∀ x ∈ l.take o, (x != 59) = true := by
    intro x hx
    obtain ⟨k, hk⟩ := List.getElem?_of_mem hx
    have hko : k < o := by have := (List.getElem?_eq_some_iff.1 hk).1; rw [List.length_take] at this; omega
    rw [List.getElem?_take, if_pos hko] at hk
    have := h2 k hko
    rw [hk] at this
    simp
    rintro rfl
    exact this rfl
  conv => lhs; rw [e]
  rw [List.takeWhile_append_of_pos h4, List.takeWhile_cons]
  simp
theorem cutW_at {l : List UInt8} {k : Nat} (h : k < l.length) (h1 : ∀ x ∈ l.take k, (x != 59) = true) (h2 : l[k] = 59) : cutW l = l.take k := by
  unfold cutW
  have e : l = l.take k ++ 59 :: l.drop (k + 1) := by
    conv => lhs; rw [← List.take_append_drop k l, List.drop_eq_getElem_cons h, h2]
  conv => lhs; rw [e]
  rw [List.takeWhile_append_of_pos h1, List.takeWhile_cons]
  simp
theorem parse_at {ms : List (List UInt8)} {i : Nat} {m : List UInt8} (h : ms[i]? = some m) (x : Nat × Bool) : (ms.drop i).foldl (fun x m => chg x (word m)) x = (ms.drop (i + 1)).foldl (fun x m => chg x (word m)) (chg x (word m)) := by
  obtain ⟨h1, h2⟩ := List.getElem?_eq_some_iff.1 h
  rw [List.drop_eq_getElem_cons h1, h2, List.foldl_cons]
theorem chgU_no {u : Nat} {t : List UInt8} (h : Lib.hasPrefix t [117, 61] = false) : chgU u t = u := by
  unfold chgU
  split
  · simp [Lib.hasPrefix, List.isPrefixOf] at h
  · rfl
theorem pre_yes {t : List UInt8} (h : Lib.hasPrefix t [117, 61] = true) : t = 117 :: 61 :: Lib.trimPrefix t [117, 61] := by
  unfold Lib.trimPrefix
  rw [if_pos h]
  unfold Lib.hasPrefix at h
  obtain ⟨r, hr⟩ := List.isPrefixOf_iff_prefix.1 h
  rw [← hr]
  rfl
theorem chgU_long {u : Nat} {d : List UInt8} (h : d.length ≠ 1) : chgU u (117 :: 61 :: d) = u := by
  unfold chgU
  split
  · rename_i h1
    injection h1 with _ h1
    injection h1 with _ h1
    subst h1
    simp at h
  · rfl
theorem chgU_yes {u : Nat} {c : UInt8} (h : 48 ≤ c.toNat ∧ c.toNat ≤ 55) : chgU u [117, 61, c] = c.toNat - 48 := by
  unfold chgU
  simp [h]
theorem chgU_out {u : Nat} {c : UInt8} (h : ¬ (48 ≤ c.toNat ∧ c.toNat ≤ 55)) : chgU u [117, 61, c] = u := by
  unfold chgU
  simp [h]
theorem chgP_pre {p : Bool} {d : List UInt8} : chgP p (117 :: 61 :: d) = p := by
  unfold chgP
  simp
theorem chgU_le {u : Nat} (t : List UInt8) (h : u ≤ 7) : chgU u t ≤ 7 := by
  unfold chgU
  split
  · split <;> omega
  · exact h
end Pr
end Go.Proofs.YtekpjbhhbklboaaDoor
