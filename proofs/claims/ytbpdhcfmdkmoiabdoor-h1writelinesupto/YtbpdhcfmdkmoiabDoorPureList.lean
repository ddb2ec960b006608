/-
  The members of a list (P1.7): plain functions and lemmas, with no program in sight.
-/
import Derived.Test.YtbpdhcfmdkmoiabDoorLists
namespace Go.Proofs.YtbpdhcfmdkmoiabDoor
namespace Tx

/-- A piece's member, if there is one. -/
def addm (p : List UInt8) : List (List UInt8) := if (trim p).isEmpty then [] else [trim p]
/-- The members: cur: the piece that stands open; q: within quotes; e: behind a byte 5C within quotes. -/
def mems (cur : List UInt8) (q e : Bool) : List UInt8 → List (List UInt8)
  | [] => addm cur
  | c :: r => if e then mems (cur ++ [c]) q false r
    else if c == 34 then mems (cur ++ [c]) (!q) false r
    else if q && c == 92 then mems (cur ++ [c]) q true r
    else if !q && c == 44 then addm cur ++ mems [] q false r
    else mems (cur ++ [c]) q false r
def list (l : List UInt8) : List (List UInt8) := mems [] false false l

/-- What the loop of List keeps. -/
structure ListRel (l : List UInt8) (ms : List (List UInt8)) (st k : Nat) (q : Bool) : Prop where
  le : st ≤ l.length
  stk : st ≤ k
  many : ms.length ≤ k
  eq : list l = ms ++ mems ((l.drop st).take (k - st)) q false (l.drop k)
theorem ListRel.start (l : List UInt8) : ListRel l [] 0 0 false := ⟨Nat.zero_le _, Nat.le_refl _, Nat.le_refl _, by simp [list]⟩
theorem cur_snoc (l : List UInt8) (st k : Nat) (h : k < l.length) (hs : st ≤ k) : (l.drop st).take (k + 1 - st) = (l.drop st).take (k - st) ++ [l[k]] := by
  rw [show k + 1 - st = (k - st) + 1 by omega, List.take_succ_eq_append_getElem (by rw [List.length_drop]; omega), List.getElem_drop]
  congr 3; omega
theorem ListRel.quote {l : List UInt8} {ms : List (List UInt8)} {st k : Nat} {q : Bool} (h : ListRel l ms st k q) (hk : k < l.length) (hc : l[k] = 34) : ListRel l ms st (k + 1) (!q) :=
  ⟨h.le, by have := h.stk; omega, by have := h.many; omega, by
    rw [h.eq, List.drop_eq_getElem_cons hk, cur_snoc l st k hk h.stk, mems, hc]; simp⟩
theorem ListRel.plain {l : List UInt8} {ms : List (List UInt8)} {st k : Nat} {q : Bool} (h : ListRel l ms st k q) (hk : k < l.length) (hc : l[k] ≠ 34) (h1 : (q && l[k] == 92) = false) (h2 : (!q && l[k] == 44) = false) : ListRel l ms st (k + 1) q :=
  ⟨h.le, by have := h.stk; omega, by have := h.many; omega, by
    rw [h.eq, List.drop_eq_getElem_cons hk, cur_snoc l st k hk h.stk, mems, if_neg (by simp), if_neg (by simpa using hc), if_neg (by simp [h1]), if_neg (by simp [h2])]⟩
theorem ListRel.comma {l : List UInt8} {ms : List (List UInt8)} {st k : Nat} (h : ListRel l ms st k false) (hk : k < l.length) (hc : l[k] = 44) : ListRel l (ms ++ addm ((l.drop st).take (k - st))) (k + 1) (k + 1) false :=
  ⟨by omega, Nat.le_refl _, by
    have := h.many
    rw [List.length_append]
    have : (addm ((l.drop st).take (k - st))).length ≤ 1 := by unfold addm; split <;> simp
    omega, by
    rw [h.eq, List.drop_eq_getElem_cons hk, mems, hc]; simp⟩
theorem ListRel.slash {l : List UInt8} {ms : List (List UInt8)} {st k : Nat} (h : ListRel l ms st k true) (hk : k < l.length) (hc : l[k] = 92) : ListRel l ms st (k + 2) true := by
  refine ⟨h.le, by have := h.stk; omega, by have := h.many; omega, ?_⟩
  have hs := h.stk
  rw [h.eq, List.drop_eq_getElem_cons hk, mems, if_neg (by simp), if_neg (by rw [hc]; decide), if_pos (by rw [hc]; decide)]
  by_cases h2 : k + 1 < l.length
  · rw [List.drop_eq_getElem_cons h2, mems, if_pos rfl, show k + 2 = (k + 1) + 1 from rfl, cur_snoc l st (k + 1) h2 (by omega), cur_snoc l st k hk hs]
  · have e1 : l.drop (k + 1) = [] := List.drop_eq_nil_of_le (by omega)
    have e2 : l.drop (k + 2) = [] := List.drop_eq_nil_of_le (by omega)
    have e3 : (l.drop st).take (k + 2 - st) = l.drop st := List.take_of_length_le (by rw [List.length_drop]; omega)
    have e4 : (l.drop st).take (k + 1 - st) = l.drop st := List.take_of_length_le (by rw [List.length_drop]; omega)
    rw [e1, e2, e3, ← cur_snoc l st k hk hs, e4]; rfl
theorem ListRel.slashLast {l : List UInt8} {ms : List (List UInt8)} {st k : Nat} (h : ListRel l ms st k true) (hk : k < l.length) (hl : l.length ≤ k + 1) (hc : l[k] = 92) : ListRel l ms st (k + 1) true := by
  refine ⟨h.le, by have := h.stk; omega, by have := h.many; omega, ?_⟩
  have hs := h.stk
  rw [h.eq, List.drop_eq_getElem_cons hk, mems, if_neg (by simp), if_neg (by rw [hc]; decide), if_pos (by rw [hc]; decide), cur_snoc l st k hk hs]
  have e1 : l.drop (k + 1) = [] := List.drop_eq_nil_of_le (by omega)
  rw [e1]; rfl
theorem ListRel.stop {l : List UInt8} {ms : List (List UInt8)} {st k : Nat} {q : Bool} (h : ListRel l ms st k q) (hk : l.length ≤ k) : list l = ms ++ addm (l.drop st) := by
  have hs := h.stk
  have := h.le
  rw [h.eq, List.drop_eq_nil_of_le hk, mems, List.take_of_length_le (by rw [List.length_drop]; omega)]

end Tx
end Go.Proofs.YtbpdhcfmdkmoiabDoor
