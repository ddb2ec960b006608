/-
  As many picks as tasks can run: what is of no program.
-/
import Derived.Test.YtpgfnhfjkplmaaaSdP
namespace Go.Proofs.Ytpgfnhfjkplmaaa.Sd

theorem turn_at (f : Int) (n t i : Nat) (ht : t < n) (hi : i < n) : (f + t) % (n : Int) = (i : Int) ↔ ((i : Int) - f) % (n : Int) = (t : Int) := by
  have hn : (0 : Int) < (n : Int) := by omega
  constructor
  · intro h
    have e := Int.mul_ediv_add_emod (f + t) n
    rw [h] at e
    have e2 : (i : Int) - f = (t : Int) - (n : Int) * ((f + t) / n) := by omega
    rw [e2, Int.sub_mul_emod_self_left, Int.emod_eq_of_lt (by omega) (by omega)]
  · intro h
    have e := Int.mul_ediv_add_emod ((i : Int) - f) n
    rw [h] at e
    have e2 : f + (t : Int) = (i : Int) - (n : Int) * (((i : Int) - f) / n) := by omega
    rw [e2, Int.sub_mul_emod_self_left, Int.emod_eq_of_lt (by omega) (by omega)]
/-- The place of the pick number t. -/
def plc (f : Int) (n t : Nat) : Nat := ((f + t) % (n : Int)).toNat
theorem plc_is (f : Int) (n t : Nat) (hn : 0 < n) : (f + t) % (n : Int) = (plc f n t : Int) := by
  have := Int.emod_nonneg (f + t) (show (n : Int) ≠ 0 by omega)
  unfold plc; omega
theorem plc_lt (f : Int) (n t : Nat) (hn : 0 < n) : plc f n t < n := by
  have h1 := plc_is f n t hn
  have := Int.emod_lt_of_pos (f + t) (show (0 : Int) < n by omega)
  omega
/-- What the first k picks are. -/
def seen (f : Int) (l : List Int) (k : Nat) : List Int := (List.range k).map fun t => l.getD (plc f l.length t) 0
theorem seen_len (f : Int) (l : List Int) (k : Nat) : (seen f l k).length = k := by simp [seen]
theorem seen_succ (f : Int) (l : List Int) (k : Nat) (y : Int) (hy : l[plc f l.length k]? = some y) : seen f l (k + 1) = seen f l k ++ [y] := by
  unfold seen
  rw [List.range_succ, List.map_append]
  simp [List.getD_eq_getElem?_getD, hy]
theorem seen_at (f : Int) (l : List Int) (m k : Nat) (hk : k < m) (y : Int) (hy : l[plc f l.length k]? = some y) : (seen f l m)[k]? = some y := by
  unfold seen
  rw [List.getElem?_map, List.getElem?_range hk]
  simp [List.getD_eq_getElem?_getD, hy]
theorem rise_inj (l : List Int) (h : Rise l) (a b : Nat) (y : Int) (ha : l[a]? = some y) (hb : l[b]? = some y) : a = b := by
  obtain ⟨ha1, ha2⟩ := List.getElem?_eq_some_iff.1 ha
  obtain ⟨hb1, hb2⟩ := List.getElem?_eq_some_iff.1 hb
  rcases Nat.lt_trichotomy a b with hlt | he | hgt
  · have := List.pairwise_iff_getElem.1 h a b ha1 hb1 hlt; omega
  · exact he
  · have := List.pairwise_iff_getElem.1 h b a hb1 ha1 hgt; omega
/-- The number of the pick that is the one in place i. -/
def turn (f : Int) (n i : Nat) : Nat := (((i : Int) - f) % (n : Int)).toNat
theorem turn_is (f : Int) (n i : Nat) (hn : 0 < n) : ((i : Int) - f) % (n : Int) = (turn f n i : Int) ∧ turn f n i < n := by
  have h1 := Int.emod_nonneg ((i : Int) - f) (show (n : Int) ≠ 0 by omega)
  have h2 := Int.emod_lt_of_pos ((i : Int) - f) (show (0 : Int) < n by omega)
  unfold turn; omega
theorem turn_iff (f : Int) (l : List Int) (n k i : Nat) (h : Rise l) (hn : l.length = n) (hk : k < n) (hi : i < n) (x y : Int) (hx : l[plc f n k]? = some x) (hy : l[i]? = some y) : x = y ↔ k = turn f n i := by
  have h0 : 0 < n := by omega
  have h1 := plc_is f n k h0
  have h2 := turn_is f n i h0
  have h3 := turn_at f n k i hk hi
  constructor
  · rintro rfl
    have := rise_inj l h _ _ _ hx hy
    rw [this] at h1
    have := h3.1 h1
    omega
  · rintro rfl
    have := h3.2 h2.1
    have e : plc f n (turn f n i) = i := by omega
    rw [e, hy] at hx
    injection hx with hx
    exact hx.symm
/-- How often the one in place i is among the first k. -/
def times (f : Int) (n i k : Nat) : Nat := if turn f n i < k then 1 else 0

end Go.Proofs.Ytpgfnhfjkplmaaa.Sd
namespace Go.Proofs.Ytpgfnhfjkplmaaa
end Go.Proofs.Ytpgfnhfjkplmaaa
