/-
  The pieces of a list of ranges as the code cuts and reads them: the same as the document's. What is of no program.
-/
import Derived.Test.YtdbldompjhienaaDoorRgH
import Derived.Test.YtdbldompjhienaaDoorPureList
namespace Go.Proofs.YtdbldompjhienaaDoor
namespace Rg
theorem addm_eq (p : T8) : Tx.addm p = ([Tx.trim p]).filter (fun q => !(q == [])) := by
  unfold Tx.addm
  cases h : Tx.trim p <;> rfl
theorem mems_plain : ∀ (l cur : T8), 34 ∉ l → Tx.mems cur false false l = ((cutA cur l).map Tx.trim).filter (fun q => !(q == [])) := by
  intro l
  induction l with
  | nil => intro cur _; rw [Tx.mems, cutA, addm_eq]; rfl
  | cons c r ih =>
    intro cur h
    have hc : (c == 34) = false := beq_false_of_ne (fun e => h (by rw [e]; simp))
    have hr : 34 ∉ r := fun e => h (List.mem_cons_of_mem _ e)
    rw [Tx.mems, cutA, hc]
    by_cases h44 : c = 44
    · subst h44
      rw [if_pos rfl, if_neg (by decide), if_neg (by decide), if_neg (by decide), if_pos (by decide), ih [] hr, addm_eq, List.map_cons, ← List.filter_append]
      rfl
    · rw [if_neg h44, if_neg (by decide), if_neg (by decide), if_neg (by simp), if_neg (by simpa using h44), ih _ hr]
theorem list_plain {l : T8} (h : 34 ∉ l) : Tx.list l = pcs l := mems_plain l [] h
theorem mem_dw {c : UInt8} (hc : Tx.blkB c = false) : ∀ {l : T8}, c ∈ l → c ∈ l.dropWhile Tx.blkB := by
  intro l
  induction l with
  | nil => intro h; exact h
  | cons x r ih =>
    intro h
    rw [List.dropWhile_cons]
    cases hx : Tx.blkB x
    · exact h
    · rcases List.mem_cons.1 h with rfl | h
      · rw [hc] at hx; cases hx
      · exact ih h
theorem mem_trim {c : UInt8} (hc : Tx.blkB c = false) {l : T8} (h : c ∈ l) : c ∈ Tx.trim l := by
  unfold Tx.trim Tx.trimR Tx.trimL
  rw [List.mem_reverse]
  refine mem_dw hc ?_
  rw [List.mem_reverse]
  exact mem_dw hc h
theorem blk34 : Tx.blkB 34 = false := by decide
theorem addm_quote {p : T8} (h : 34 ∈ p) : ∃ q ∈ Tx.addm p, 34 ∈ q := by
  have h1 := mem_trim blk34 h
  unfold Tx.addm
  cases ht : Tx.trim p with
  | nil => rw [ht] at h1; simp at h1
  | cons a b => exact ⟨a :: b, by simp, by rw [← ht]; exact h1⟩
theorem mems_quote : ∀ (l cur : T8) (q e : Bool), (34 ∈ cur ∨ 34 ∈ l) → ∃ p ∈ Tx.mems cur q e l, 34 ∈ p := by
  intro l
  induction l with
  | nil =>
    intro cur q e h
    rw [Tx.mems]
    exact addm_quote (h.resolve_right (by simp))
  | cons c r ih =>
    intro cur q e h
    have h2 : 34 ∈ cur ++ [c] ∨ 34 ∈ r := by
      rcases h with h | h
      · exact .inl (List.mem_append_left _ h)
      · rcases List.mem_cons.1 h with h | h
        · exact .inl (by rw [← h]; simp)
        · exact .inr h
    rw [Tx.mems]
    split
    · exact ih _ _ _ h2
    · split
      · exact ih _ _ _ h2
      · split
        · exact ih _ _ _ h2
        · split
          · rename_i hc
            have hc44 : c = 44 := by
              rw [Bool.and_eq_true] at hc
              exact eq_of_beq hc.2
            rcases h with h | h
            · obtain ⟨p, hp, h3⟩ := addm_quote h
              exact ⟨p, List.mem_append_left _ hp, h3⟩
            · rcases List.mem_cons.1 h with h | h
              · rw [hc44] at h; exact absurd h (by decide)
              · obtain ⟨p, hp, h3⟩ := ih [] q false (.inr h)
                exact ⟨p, List.mem_append_right _ hp, h3⟩
          · exact ih _ _ _ h2
theorem cutA_quote : ∀ (l cur : T8), (34 ∈ cur ∨ 34 ∈ l) → ∃ p ∈ cutA cur l, 34 ∈ p := by
  intro l
  induction l with
  | nil => intro cur h; exact ⟨cur, by simp [cutA], h.resolve_right (by simp)⟩
  | cons c r ih =>
    intro cur h
    rw [cutA]
    split
    · rename_i hc
      rcases h with h | h
      · exact ⟨cur, by simp, h⟩
      · rcases List.mem_cons.1 h with h | h
        · rw [hc] at h; exact absurd h (by decide)
        · obtain ⟨p, hp, h3⟩ := ih [] (.inr h)
          exact ⟨p, List.mem_cons_of_mem _ hp, h3⟩
    · refine ih _ ?_
      rcases h with h | h
      · exact .inl (List.mem_append_left _ h)
      · rcases List.mem_cons.1 h with h | h
        · exact .inl (by rw [← h]; simp)
        · exact .inr h
theorem pcs_quote {l : T8} (h : 34 ∈ l) : ∃ p ∈ pcs l, 34 ∈ p := by
  obtain ⟨p, hp, h3⟩ := cutA_quote l [] (.inr h)
  have h4 := mem_trim blk34 h3
  refine ⟨Tx.trim p, ?_, h4⟩
  unfold pcs
  refine List.mem_filter.2 ⟨List.mem_map_of_mem hp, ?_⟩
  cases ht : Tx.trim p with
  | nil => rw [ht] at h4; simp at h4
  | cons a b => rfl
theorem digB_no {l : T8} (h : digB l = true) : 34 ∉ l := by
  intro hm
  unfold digB at h
  rw [Bool.and_eq_true, Bool.and_eq_true] at h
  have h1 := eq_of_beq h.2
  unfold Tx.num at h1
  split at h1
  · revert h1; decide
  · rename_i h2
    simp only [Bool.or_eq_true, not_or] at h2
    have h3 := h2.2
    simp only [Bool.not_eq_true', Bool.not_eq_false] at h3
    unfold Tx.digs Tx.allC at h3
    have := List.all_eq_true.1 h3 34 hm
    revert this; decide
theorem split_at {l : T8} (h : hasD l = true) : l = l.take (ahead l) ++ 45 :: l.drop (ahead l + 1) := by
  have h1 := ahead_stop h
  obtain ⟨h2, h3⟩ := List.getElem?_eq_some_iff.1 h1
  have h4 : l.drop (ahead l) = 45 :: l.drop (ahead l + 1) := by rw [List.drop_eq_getElem_cons h2, h3]
  rw [← h4, List.take_append_drop]
theorem pc_no {l : T8} {n : Int} (h : (pc l n).2.2 = true) : 34 ∉ l := by
  intro hm
  unfold pc at h
  split at h
  · rename_i hd
    rw [split_at hd, List.mem_append, List.mem_cons] at hm
    simp only at h
    split at h
    · rename_i h0
      rcases hm with hm | hm | hm
      · rw [h0] at hm; simp at hm
      · exact absurd hm (by decide)
      · exact digB_no h (by rw [h0] at hm ⊢; exact hm)
    · split at h
      · rename_i h1
        rcases hm with hm | hm | hm
        · exact digB_no h hm
        · exact absurd hm (by decide)
        · rw [h1, List.drop_length] at hm; simp at hm
      · simp only [Bool.and_eq_true] at h
        rcases hm with hm | hm | hm
        · exact digB_no h.1.1 hm
        · exact absurd hm (by decide)
        · exact digB_no h.1.2 hm
  · cases h
/-- The code's pieces are good where the document's are, and then they are the same. -/
theorem list_good (l : T8) (n : Int) : (34 ∉ l ∧ Tx.list l = pcs l) ∨ ((Tx.list l).all (fun p => (pc p n).2.2) = false ∧ (pcs l).all (fun p => (pc p n).2.2) = false) := by
  by_cases h : 34 ∈ l
  · right
    refine ⟨?_, ?_⟩
    · obtain ⟨p, hp, h1⟩ := mems_quote l [] false false (.inr h)
      rw [Bool.eq_false_iff]; intro ht
      exact pc_no (List.all_eq_true.1 ht p hp) h1
    · obtain ⟨p, hp, h1⟩ := pcs_quote h
      rw [Bool.eq_false_iff]; intro ht
      exact pc_no (List.all_eq_true.1 ht p hp) h1
  · exact .inl ⟨h, list_plain h⟩
/-- What Parse answers, of the code's pieces. -/
theorem err_list {l : T8} {n : Int} (n0 : ¬ n < 0) (hh : (l.take 6 == head6) = true) :
    (err l n = if (Tx.list (l.drop 6)).isEmpty || !(Tx.list (l.drop 6)).all (fun p => (pc p n).2.2) then 160 else if 8 < (Tx.list (l.drop 6)).length then 4 else if (outs (Tx.list (l.drop 6)) n).isEmpty then 161 else 0) ∧ (err l n = 0 → res l n = outs (Tx.list (l.drop 6)) n) := by
  have h0 : err l n = if (pcs (l.drop 6)).isEmpty || !(pcs (l.drop 6)).all (fun p => (pc p n).2.2) then 160 else if 8 < (pcs (l.drop 6)).length then 4 else if (outs (pcs (l.drop 6)) n).isEmpty then 161 else 0 := by unfold err; rw [if_neg n0, if_pos hh]
  rcases list_good (l.drop 6) n with ⟨_, h⟩ | ⟨h1, h2⟩
  · rw [h]
    exact ⟨h0, fun e => by unfold res; rw [e]; rfl⟩
  · rw [h2, Bool.not_false, Bool.or_true, if_pos rfl] at h0
    rw [h1, Bool.not_false, Bool.or_true, if_pos rfl]
    exact ⟨h0, fun e => by rw [h0] at e; exact absurd e (by decide)⟩
/-- A range within a body of n bytes. -/
def wth (r : Rn) (n : Int) : Bool := decide (0 ≤ r.a) && (decide (r.a ≤ r.b) && decide (r.b < n))
theorem pc_wth {l : T8} {n : Int} (n0 : 0 ≤ n) (h : (pc l n).2.2 = true) : wth (pc l n).1 n = (pc l n).2.1 := by
  have key : ∀ (a b : Int) (q : Prop) [Decidable q], ((0 ≤ a ∧ a ≤ b ∧ b < n) ↔ q) → wth ⟨a, b⟩ n = decide q := by
    intro a b q _ hq
    unfold wth
    rw [Bool.eq_iff_iff]
    simp only [Bool.and_eq_true, decide_eq_true_iff]
    exact hq
  unfold pc at h ⊢
  split at h
  · rename_i hd
    rw [if_pos hd]
    simp only at h ⊢
    have hx := digN_bd (l.take (ahead l))
    have hy := digN_bd (l.drop (ahead l + 1))
    split at h
    · rename_i h0
      rw [if_pos h0]
      simp only
      rw [key _ _ (0 < digN (l.drop (ahead l + 1)) ∧ 0 < n) (by omega), Bool.decide_and]
    · rename_i h0
      rw [if_neg h0]
      split at h
      · rename_i h1
        rw [if_pos h1]
        exact key _ _ _ (by omega)
      · rename_i h1
        rw [if_neg h1]
        simp only [Bool.and_eq_true, decide_eq_true_iff] at h
        exact key _ _ _ (by have := h.2; omega)
  · cases h
/-- What the code reads of a text's digits. -/
def cB (l : T8) : Bool := decide (l.length ≤ 15) && ((Tx.num 10 l).2 == 0)
theorem cB_eq (l : T8) : cB l = digB l := by
  unfold cB digB
  cases l with
  | nil => rfl
  | cons a b => simp
theorem digN_ok {l : T8} (h : digB l = true) : digN l = (Tx.num 10 l).1 := by
  unfold digB at h
  unfold digN
  simp only [Bool.and_eq_true, decide_eq_true_iff] at h
  rw [if_pos h.1]
theorem occ45 (l : T8) (j : Nat) : Lib.occAt l [45] j = (l[j]? == some 45) := by
  unfold Lib.occAt
  rw [← List.head?_drop]
  cases l.drop j with
  | nil => rfl
  | cons c r => rw [List.head?_cons]; simp only [List.isPrefixOf, Bool.and_true]; rw [Option.some_beq_some, Bool.beq_comm]
theorem cut_dash (l : T8) : Lib.cut l [45] = if hasD l then (l.take (ahead l), l.drop (ahead l + 1), true) else (l, [], false) := by
  cases h : hasD l
  · have : Lib.index l [45] = -1 := Lib.index_none (fun j _ => by
      rw [occ45]
      cases hq : l[j]? with
      | none => rfl
      | some c => rw [Option.some_beq_some]; exact ahead_all h j c hq)
    unfold Lib.cut
    rw [this]; rfl
  · have : Lib.index l [45] = (ahead l : Int) := Lib.index_first (Nat.le_of_lt (ahead_lt h)) (by rw [occ45, ahead_stop h]; rfl) (fun j hj => by
      obtain ⟨c, h1, h2⟩ := ahead_at hj
      rw [occ45, h1, Option.some_beq_some]; exact h2)
    unfold Lib.cut
    rw [this, if_pos (by omega)]
    rfl
end Rg
end Go.Proofs.YtdbldompjhienaaDoor
