/-
  (*Book).move: by its contract.
-/
import Derived.Test.YthgdokcdpmoeeaaStL
namespace Go.Proofs.Ythgdokcdpmoeeaa
open Go.RowKit

theorem erase_at (l : List Nat) (n i : Nat) (h : l.findIdx? (· == n) = some i) : l.erase n = l.take i ++ l.drop (i + 1) := by
  induction l generalizing i with
  | nil => simp at h
  | cons x r ih =>
    rw [List.findIdx?_cons] at h
    rw [List.erase_cons]
    by_cases hx : (x == n) = true
    · rw [if_pos hx] at h ⊢
      injection h with h
      subst h
      simp
    · rw [if_neg hx] at h ⊢
      cases hf : r.findIdx? (· == n) with
      | none => rw [hf] at h; simp at h
      | some j =>
        rw [hf] at h
        simp at h
        subst h
        rw [ih j hf]
        simp
theorem find_mem {l : List Nat} {n : Nat} (h : n ∈ l) : ∃ i, l.findIdx? (· == n) = some i ∧ i < l.length := by
  cases hf : l.findIdx? (· == n) with
  | none =>
    rw [List.findIdx?_eq_none_iff] at hf
    have := hf n h
    simp at this
  | some i =>
    rw [List.findIdx?_eq_some_iff_getElem] at hf
    exact ⟨i, rfl, hf.1⟩
theorem cut_at {l : List (Nat × Nat)} {i n p : Nat} (hs : l.Pairwise (fun x y => x.1 < y.1)) (h : l[i]? = some (n, p)) : Sm.cutPh l n = l.take i ++ l.drop (i + 1) := by
  have hno : ∀ (r : List (Nat × Nat)), (∀ x ∈ r, x.1 ≠ n) → Sm.cutPh r n = r := fun r hr => by
    unfold Sm.cutPh
    rw [List.filter_eq_self]
    intro x hx
    simp [hr x hx]
  induction l generalizing i with
  | nil => simp at h
  | cons x r ih =>
    obtain ⟨h1, h2⟩ := List.pairwise_cons.1 hs
    cases i with
    | zero =>
      simp at h
      subst h
      have e := hno r (fun y hy => by have := h1 y hy; simp only at this; omega)
      unfold Sm.cutPh at e ⊢
      rw [List.filter_cons, if_neg (by simp), e]
      simp
    | succ i =>
      simp at h
      have h3 := h1 (n, p) (List.mem_of_getElem? h)
      have e := ih h2 h
      unfold Sm.cutPh at e ⊢
      rw [List.filter_cons, if_pos (by simp; simp only at h3; omega), e]
      simp
theorem set_at {l : List (Nat × Nat)} {i n p to : Nat} (hs : l.Pairwise (fun x y => x.1 < y.1)) (h : l[i]? = some (n, p)) : Sm.setPh l n to = l.set i (n, to) := by
  have hno : ∀ (r : List (Nat × Nat)), (∀ x ∈ r, x.1 ≠ n) → Sm.setPh r n to = r := fun r hr => by
    unfold Sm.setPh
    conv => rhs; rw [← List.map_id r]
    apply List.map_congr_left
    intro x hx
    rw [if_neg (hr x hx)]
    rfl
  induction l generalizing i with
  | nil => simp at h
  | cons x r ih =>
    obtain ⟨h1, h2⟩ := List.pairwise_cons.1 hs
    cases i with
    | zero =>
      simp at h
      subst h
      have e := hno r (fun y hy => by have := h1 y hy; simp only at this; omega)
      unfold Sm.setPh at e ⊢
      rw [List.map_cons, e]
      simp
    | succ i =>
      simp at h
      have h3 := h1 (n, p) (List.mem_of_getElem? h)
      have e := ih h2 h
      unfold Sm.setPh at e ⊢
      rw [List.map_cons, e, if_neg (by simp only at h3; omega)]
      simp
theorem enCells_take (l : List (Nat × Nat)) (n : Nat) : (enCells l).take (n * 2) = enCells (l.take n) := by
  induction l generalizing n with
  | nil => simp [enCells]
  | cons x r ih =>
    cases n with
    | zero => simp [enCells]
    | succ n =>
      have e : enCells (x :: r) = .int .i64 (x.1 : Int) :: .int .u8 (x.2 : Int) :: enCells r := rfl
      rw [e, show (n + 1) * 2 = n * 2 + 1 + 1 by omega, List.take_succ_cons, List.take_succ_cons, ih, List.take_succ_cons]
      rfl
theorem enCells_drop (l : List (Nat × Nat)) (n : Nat) : (enCells l).drop (n * 2) = enCells (l.drop n) := by
  induction l generalizing n with
  | nil => simp [enCells]
  | cons x r ih =>
    cases n with
    | zero => simp
    | succ n =>
      have e : enCells (x :: r) = .int .i64 (x.1 : Int) :: .int .u8 (x.2 : Int) :: enCells r := rfl
      rw [e, show (n + 1) * 2 = n * 2 + 1 + 1 by omega, List.drop_succ_cons, List.drop_succ_cons, ih, List.drop_succ_cons]
theorem enCells_set (l : List (Nat × Nat)) (i n p to : Nat) (h : l[i]? = some (n, p)) : enCells (l.set i (n, to)) = (enCells l).set (i * 2 + 1) (.int .u8 (to : Int)) := by
  induction l generalizing i with
  | nil => simp at h
  | cons x r ih =>
    have e : enCells (x :: r) = .int .i64 (x.1 : Int) :: .int .u8 (x.2 : Int) :: enCells r := rfl
    cases i with
    | zero =>
      simp at h
      subst h
      rfl
    | succ i =>
      simp at h
      rw [List.set_cons_succ, e, show (i + 1) * 2 + 1 = i * 2 + 1 + 1 + 1 by omega, List.set_cons_succ, List.set_cons_succ, ← ih i h]
      rfl
theorem own_set {w : World} {B : Nat} {e : TypeId} {s g n cap : Nat} {xs : List Value} (h : w.ownsRow B e s (.slice (some ⟨g, 0, none⟩) n cap) n xs) (j : Nat) (x : Value) : (w.setCell ⟨g, j, none⟩ x).ownsRow B e s (.slice (some ⟨g, 0, none⟩) n cap) n (xs.set j x) := by
  obtain ⟨h1, h2⟩ := h
  rcases h2 with ⟨hv, _⟩ | ⟨g', cap', cur, hv, hB, hc, hn, hm, hs, ht⟩
  · cases hv
  · injection hv with hv1 _ hv3
    injection hv1 with hv1
    injection hv1 with hv1 _ _
    subst hv1 hv3
    have ha : Ar w g e cur := hc
    refine ⟨by rw [List.length_set]; exact h1, .inr ⟨g, cap, _, rfl, hB, ha.set j x, hn, hm, by rw [Array.size_setIfInBounds]; exact hs, ?_⟩⟩
    rw [← ht, Array.toList_setIfInBounds, List.take_set]
/-- A phase is written. -/
theorem BK.setOp {w : World} {B b : Nat} {k : Sm.Bk} {u : Value} {g cap i n p to : Nat} (h : BK w B b k (.slice (some ⟨g, 0, none⟩) k.op.length cap) u) (hi : k.op[i]? = some (n, p)) (hok : Sm.Ok { k with op := Sm.setPh k.op n to }) :
    BK (w.setCell ⟨g, i * 2 + 1, none⟩ (.int .u8 (to : Int))) B b { k with op := Sm.setPh k.op n to } (.slice (some ⟨g, 0, none⟩) k.op.length cap) u ∧ KF B w (w.setCell ⟨g, i * 2 + 1, none⟩ (.int .u8 (to : Int))) := by
  have hu := upd_setCell w g (i * 2 + 1) (.int .u8 (to : Int))
  have hgb : g ≠ b := own_apart h.op h.hd (by decide) g rfl
  have hge := own_ty h.op g rfl
  obtain ⟨hBg, cs, hcs⟩ := hge
  have hag : Ar w g 81 cs := hcs
  refine ⟨⟨h.lo, hu.keep h.hd (Ne.symm hgb), ?_, own_same h.dr (fun j hj => hu.block j (own_apart h.dr hag (by decide) j hj)), hok⟩, ⟨hu.below hBg, fun j cs T hj _ h2 _ => hu.block j (fun e => ?_)⟩⟩
  · simp only
    rw [Sm.setPh_length, set_at h.ok.srt hi, enCells_set _ _ _ _ _ hi]
    exact own_set h.op _ _
  · subst e
    unfold Ar at hag
    rw [hag] at hj
    injection hj with hj
    injection hj with _ hT _
    exact h2 hT.symm

end Go.Proofs.Ythgdokcdpmoeeaa
