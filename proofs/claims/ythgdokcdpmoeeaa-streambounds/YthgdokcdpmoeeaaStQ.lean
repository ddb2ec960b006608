/-
  A book of streams on lists: it stays in order, and a stream only goes on; no program.
-/
import Derived.Test.YthgdokcdpmoeeaaStP
namespace Go.Proofs.Ythgdokcdpmoeeaa
namespace Sm

theorem phase_open {k : Bk} (n : Nat) (h1 : 1 ≤ phase k n) (h3 : phase k n ≤ 3) : look k.op n = some (phase k n) ∧ n % 2 = 1 ∧ n ≤ k.last := by
  unfold phase at *
  split at h1
  · rename_i hc
    rw [if_pos hc] at h3 ⊢
    cases hl : look k.op n with
    | some p => exact ⟨by simp, hc.1, hc.2⟩
    | none =>
      rw [hl] at h3
      simp only at h3
      split at h3 <;> omega
  · omega
theorem phase_dropped {k : Bk} (hk : Ok k) (n : Nat) (h5 : phase k n = 5) : n ∈ k.dr := by
  unfold phase at h5
  split at h5
  · cases hl : look k.op n with
    | some p =>
      rw [hl] at h5
      have := (hk.ops _ (look_some hl)).2.2.2
      simp only at h5 this
      omega
    | none =>
      rw [hl] at h5
      simp only at h5
      split at h5
      · assumption
      · omega
  · omega

theorem ok_new {m : Nat} (h1 : 1 ≤ m) (h2 : m ≤ 65536) : Ok ⟨m, 0, [], [], false, 0⟩ :=
  ⟨h1, h2, by simp, by simp, by simp, by simp, by simp, by simp, by simp, .inl rfl, by simp⟩
theorem ok_last {k : Bk} (h : Ok k) {n : Nat} (hl : k.last < n) (ho : n % 2 = 1) (hn : n ≤ 2147483647) : Ok { k with last := n } :=
  ⟨h.m1, h.m2, h.srt, fun x hx => by have := h.ops x hx; refine ⟨this.1, ?_, this.2.2⟩; simp only; omega, h.len, fun m hm => by have := h.drs m hm; refine ⟨this.1, ?_, this.2.2⟩; simp only; omega, h.dnd, h.dln, hn, .inr ho, h.pas⟩
theorem ok_drop {k : Bk} (h : Ok k) {n : Nat} (ho : n % 2 = 1) (hl : n ≤ k.last) (hlk : look k.op n = none) (hd : n ∉ k.dr) : Ok (drop k n) := by
  have hsub : ∀ m, m ∈ (if k.dr.length = k.most then k.dr.drop 1 else k.dr) → m ∈ k.dr := fun m hm => by
    split at hm
    · exact List.mem_of_mem_drop hm
    · exact hm
  refine ⟨h.m1, h.m2, h.srt, h.ops, h.len, ?_, ?_, ?_, h.l1, h.l2, h.pas⟩
  · intro m hm
    rcases mem_drop hm with rfl | hm
    · exact ⟨ho, hl, hlk⟩
    · exact h.drs m hm
  · unfold drop
    simp only
    rw [List.nodup_append]
    refine ⟨?_, by simp, ?_⟩
    · split
      · exact h.dnd.sublist (List.drop_sublist _ _)
      · exact h.dnd
    · intro a ha b hb e
      simp at hb
      subst hb e
      exact hd (hsub _ ha)
  · unfold drop
    simp only [List.length_append, List.length_singleton]
    have := h.dln
    have := h.m1
    split
    · rw [List.length_drop]; omega
    · omega
theorem setPh_fst (l : List (Nat × Nat)) (n to : Nat) : (setPh l n to).map (·.1) = l.map (·.1) := by
  unfold setPh
  rw [List.map_map]
  apply List.map_congr_left
  intro x _
  simp only [Function.comp]
  split <;> simp_all
theorem setPh_length (l : List (Nat × Nat)) (n to : Nat) : (setPh l n to).length = l.length := by simp [setPh]
theorem pair_fst (l : List (Nat × Nat)) : l.Pairwise (fun x y => x.1 < y.1) ↔ (l.map (·.1)).Pairwise (· < ·) := by rw [List.pairwise_map]
theorem ok_set {k : Bk} (h : Ok k) {n to : Nat} (h1 : 1 ≤ to) (h3 : to ≤ 3) : Ok { k with op := setPh k.op n to } := by
  refine ⟨h.m1, h.m2, ?_, ?_, ?_, ?_, h.dnd, h.dln, h.l1, h.l2, h.pas⟩
  · simp only
    rw [pair_fst, setPh_fst, ← pair_fst]
    exact h.srt
  · intro x hx
    simp only [setPh, List.mem_map] at hx
    obtain ⟨y, hy, rfl⟩ := hx
    have := h.ops y hy
    split
    · rename_i e
      subst e
      exact ⟨this.1, this.2.1, h1, h3⟩
    · exact this
  · simp only [setPh_length]
    exact h.len
  · intro m hm
    have := h.drs m hm
    refine ⟨this.1, this.2.1, ?_⟩
    simp only
    rw [look_set]
    split
    · rename_i e
      subst e
      rw [this.2.2]; rfl
    · exact this.2.2
theorem ok_cut {k : Bk} (h : Ok k) (n : Nat) : Ok { k with op := cutPh k.op n } := by
  refine ⟨h.m1, h.m2, h.srt.sublist List.filter_sublist, fun x hx => h.ops x (List.mem_filter.1 hx).1, Nat.le_trans (List.length_filter_le _ _) h.len, ?_, h.dnd, h.dln, h.l1, h.l2, h.pas⟩
  intro m hm
  have := h.drs m hm
  refine ⟨this.1, this.2.1, ?_⟩
  simp only
  rw [look_cut]
  split
  · rfl
  · exact this.2.2
theorem ok_erase {k : Bk} (h : Ok k) (n : Nat) : Ok { k with dr := k.dr.erase n } :=
  ⟨h.m1, h.m2, h.srt, h.ops, h.len, fun m hm => h.drs m (List.mem_of_mem_erase hm), h.dnd.erase _, Nat.le_trans (List.length_erase_le) h.dln, h.l1, h.l2, h.pas⟩
theorem above {k : Bk} (h : Ok k) {n : Nat} (hl : k.last < n) : look k.op n = none ∧ n ∉ k.dr := by
  refine ⟨look_none.2 fun x hx e => ?_, fun hm => ?_⟩
  · have := (h.ops x hx).2.1; omega
  · have := (h.drs n hm).2.1; omega
theorem ok_add {k : Bk} (h : Ok k) {n p : Nat} (hl : k.last < n) (ho : n % 2 = 1) (hn : n ≤ 2147483647) (hlen : k.op.length ≠ k.most) (h1 : 1 ≤ p) (h3 : p ≤ 3) : Ok { k with last := n, op := k.op ++ [(n, p)] } := by
  have h0 := ok_last h hl ho hn
  have := h.len
  refine ⟨h0.m1, h0.m2, ?_, ?_, ?_, ?_, h0.dnd, h0.dln, h0.l1, h0.l2, h0.pas⟩
  · simp only
    rw [List.pairwise_append]
    refine ⟨h.srt, by simp, fun a ha b hb => ?_⟩
    simp at hb
    subst hb
    have := (h.ops a ha).2.1
    simp only
    omega
  · intro x hx
    simp only [List.mem_append, List.mem_singleton] at hx
    rcases hx with hx | rfl
    · exact h0.ops x hx
    · exact ⟨ho, Nat.le_refl _, h1, h3⟩
  · simp only [List.length_append, List.length_singleton]
    omega
  · intro m hm
    have h4 := h0.drs m hm
    refine ⟨h4.1, h4.2.1, ?_⟩
    simp only
    rw [look_append, h4.2.2]
    simp only
    rw [look_cons, if_neg (fun e => (above h hl).2 (by simp at e; rw [e]; exact hm))]
    rfl
theorem ok_move {k : Bk} (h : Ok k) (s n : Nat) (e : Bool) : Ok (move k n (phase k n) (judge s (phase k n) e).to) := by
  have hj := judge_to s (phase k n) e (phase_le h n)
  unfold move
  split
  · exact h
  rename_i hne
  split
  · exact ok_erase h n
  rename_i h5
  have hop : 1 ≤ phase k n ∧ phase k n ≤ 3 := by omega
  obtain ⟨hl, ho, hla⟩ := phase_open n hop.1 hop.2
  split
  · rename_i hio
    have : 1 ≤ (judge s (phase k n) e).to ∧ (judge s (phase k n) e).to ≤ 3 := by
      simp only [isOpen, Bool.or_eq_true, beq_iff_eq] at hio
      omega
    exact ok_set h this.1 this.2
  split
  · refine ok_drop (ok_cut h n) ho hla (by simp only; rw [look_cut, if_pos rfl]) (fun hm => ?_)
    rw [(h.drs n hm).2.2] at hl
    cases hl
  · exact ok_cut h n
theorem ok_doN {k : Bk} (h : Ok k) (s n : Nat) (e : Bool) (ho : n % 2 = 1) (hn : n ≤ 2147483647) : Ok (doN k s n e).1 := by
  unfold doN
  split
  · rename_i hc
    unfold first
    split
    · exact ⟨h.m1, h.m2, h.srt, h.ops, h.len, h.drs, h.dnd, h.dln, h.l1, h.l2, by have := h.pas; simp only; omega⟩
    split
    · exact ok_drop (ok_last h hc.2 ho hn) ho (Nat.le_refl _) (above h hc.2).1 (above h hc.2).2
    · refine ok_add h hc.2 ho hn (by assumption) ?_ ?_ <;> (split <;> omega)
  split
  · exact h
  · exact ok_move h s n e
theorem can_iff (id : Int) : can id = true ↔ 1 ≤ id ∧ id % 2 = 1 ∧ id ≤ 2147483647 := by
  unfold can
  simp [and_assoc]
theorem ok_does {k : Bk} (h : Ok k) (s : Nat) (id : Int) (e : Bool) : Ok (does k s id e).1 := by
  unfold does
  split
  · rename_i hc
    have := (can_iff id).1 hc
    exact ok_doN h s _ e (by omega) (by omega)
  · exact h
theorem move_fix (k : Bk) (n f t : Nat) : (move k n f t).most = k.most ∧ (move k n f t).st = k.st ∧ (move k n f t).last = k.last := by
  unfold move
  split
  · exact ⟨rfl, rfl, rfl⟩
  split
  · exact ⟨rfl, rfl, rfl⟩
  split
  · exact ⟨rfl, rfl, rfl⟩
  split <;> exact ⟨rfl, rfl, rfl⟩
theorem does_fix (k : Bk) (s : Nat) (id : Int) (e : Bool) : (does k s id e).1.most = k.most ∧ (does k s id e).1.st = k.st := by
  unfold does
  split
  · unfold doN
    split
    · unfold first
      split
      · exact ⟨rfl, rfl⟩
      · split <;> exact ⟨rfl, rfl⟩
    split
    · exact ⟨rfl, rfl⟩
    · exact ⟨(move_fix _ _ _ _).1, (move_fix _ _ _ _).2.1⟩
  · exact ⟨rfl, rfl⟩
theorem does_last (k : Bk) (s : Nat) (id : Int) (e : Bool) : (does k s id e).1.last = k.last ∨ (s = 1 ∧ ((does k s id e).1.last : Int) = id ∧ k.last < (does k s id e).1.last ∧ k.st = false) := by
  unfold does
  split
  · rename_i hc
    have hc := (can_iff id).1 hc
    unfold doN
    split
    · rename_i h1
      unfold first
      split
      · exact .inl rfl
      · rename_i hst
        refine .inr ⟨h1.1, ?_, ?_, by simpa using hst⟩
        · split
          · simp only [drop]; omega
          · simp only; omega
        · split
          · simp only [drop]; omega
          · simp only; omega
    split
    · exact .inl rfl
    · exact .inl (move_fix _ _ _ _).2.2
  · exact .inl rfl

/-- How far a stream is. -/
def rank (p : Nat) : Nat := if p = 0 then 0 else if p = 1 then 1 else if p = 2 ∨ p = 3 then 2 else if p = 5 then 3 else 4
theorem rank_le (p : Nat) : rank p ≤ 4 := by unfold rank; repeat' split
                                             all_goals omega
def Goes (p q : Nat) : Prop := rank p ≤ rank q ∧ (rank q = 2 → rank p = 2 → q = p)
theorem goes_refl (p : Nat) : Goes p p := ⟨Nat.le_refl _, fun _ _ => rfl⟩
theorem goes_zero (q : Nat) : Goes 0 q := ⟨by simp [rank], fun _ h => by simp [rank] at h⟩
theorem goes_four (p : Nat) : Goes p 4 := ⟨by have := rank_le p; simp [rank] at *; omega, fun h => by simp [rank] at h⟩

/-- A stream whose open phase is as it was, in a book whose dropped ones are of those that were. -/
theorem goes_same {k k' : Bk} {m : Nat} (hl : k.last ≤ k'.last) (hlk : m ≤ k.last → look k'.op m = look k.op m) (hd : m ≤ k.last → m ∈ k'.dr → m ∈ k.dr) : Goes (phase k m) (phase k' m) := by
  unfold phase
  by_cases hc : m % 2 = 1 ∧ m ≤ k.last
  · have hc' : m % 2 = 1 ∧ m ≤ k'.last := ⟨hc.1, by omega⟩
    simp only [if_pos hc, if_pos hc', hlk hc.2]
    cases look k.op m with
    | some p => exact goes_refl _
    | none =>
      simp only
      by_cases h' : m ∈ k'.dr
      · rw [if_pos h', if_pos (hd hc.2 h')]; exact goes_refl _
      · rw [if_neg h']; exact goes_four _
  · rw [if_neg hc]; exact goes_zero _
theorem goes_move {k : Bk} (h : Ok k) (s n : Nat) (e : Bool) (m : Nat) : Goes (phase k m) (phase (move k n (phase k n) (judge s (phase k n) e).to) m) := by
  have hj := judge_to s (phase k n) e (phase_le h n)
  unfold move
  split
  · exact goes_refl _
  rename_i hne
  split
  · rename_i h5
    exact goes_same (Nat.le_refl _) (fun _ => rfl) (fun _ hm => List.mem_of_mem_erase hm)
  rename_i h5
  have hop : 1 ≤ phase k n ∧ phase k n ≤ 3 := by omega
  obtain ⟨hl, ho, hla⟩ := phase_open n hop.1 hop.2
  split
  · rename_i hio
    by_cases hmn : m = n
    · subst hmn
      have ht : phase { k with op := setPh k.op m (judge s (phase k m) e).to } m = (judge s (phase k m) e).to := by
        rw [phase, if_pos ⟨ho, hla⟩]
        simp only
        rw [look_set, if_pos rfl, hl]
        rfl
      rw [ht]
      simp only [isOpen, Bool.or_eq_true, beq_iff_eq] at hio
      have hp : phase k m = 1 := by omega
      rw [hp] at hne hio hj ⊢
      have ht2 : (judge s 1 e).to = 2 ∨ (judge s 1 e).to = 3 := by omega
      rcases ht2 with h2 | h2
      · rw [h2]; exact ⟨by simp [rank], fun _ h => by simp [rank] at h⟩
      · rw [h2]; exact ⟨by simp [rank], fun _ h => by simp [rank] at h⟩
    · exact goes_same (Nat.le_refl _) (fun _ => by simp only; rw [look_set, if_neg hmn]) (fun _ hm => hm)
  rename_i hio
  have hcutn : look (cutPh k.op n) n = none := by rw [look_cut, if_pos rfl]
  split
  · by_cases hmn : m = n
    · subst hmn
      have ht : phase (drop { k with op := cutPh k.op m } m) m = 5 := by
        rw [phase, if_pos ⟨ho, hla⟩]
        simp only [drop]
        rw [hcutn]
        simp
      rw [ht]
      have : rank (phase k m) ≤ 2 := by unfold rank; repeat' split
                                        all_goals omega
      exact ⟨by simp [rank] at *; omega, fun h => by simp [rank] at h⟩
    · refine goes_same (Nat.le_refl _) (fun _ => by simp only [drop]; rw [look_cut, if_neg hmn]) (fun _ hm => ?_)
      rcases mem_drop hm with rfl | hm
      · exact absurd rfl hmn
      · exact hm
  · by_cases hmn : m = n
    · subst hmn
      have hnd : m ∉ k.dr := fun hm => by rw [(h.drs m hm).2.2] at hl; cases hl
      have ht : phase { k with op := cutPh k.op m } m = 4 := by
        rw [phase, if_pos ⟨ho, hla⟩]
        simp only
        rw [hcutn]
        simp [hnd]
      rw [ht]
      exact goes_four _
    · exact goes_same (Nat.le_refl _) (fun _ => by simp only; rw [look_cut, if_neg hmn]) (fun _ hm => hm)
theorem goes_does {k : Bk} (h : Ok k) (s : Nat) (id : Int) (e : Bool) (m : Nat) : Goes (phase k m) (phase (does k s id e).1 m) := by
  unfold does
  split
  · rename_i hc
    have hc := (can_iff id).1 hc
    obtain ⟨n, rfl⟩ : ∃ n : Nat, id = n := ⟨id.toNat, by omega⟩
    rw [Int.toNat_natCast]
    unfold doN
    split
    · rename_i h1
      unfold first
      split
      · exact goes_same (Nat.le_refl _) (fun _ => rfl) (fun _ hm => hm)
      split
      · refine goes_same (by simp only [drop]; omega) (fun _ => rfl) (fun hml hm => ?_)
        rcases mem_drop hm with rfl | hm
        · omega
        · exact hm
      · refine goes_same (by simp only; omega) (fun hml => ?_) (fun _ hm => hm)
        simp only
        rw [look_append]
        cases look k.op m with
        | some p => rfl
        | none =>
          simp only
          rw [look_cons, if_neg (by simp only; omega)]
          rfl
    split
    · exact goes_refl _
    · exact goes_move h s n e m
  · exact goes_refl _
theorem goes_doesI {k : Bk} (h : Ok k) (s : Nat) (id : Int) (e : Bool) (m : Int) : Goes (phaseI k m) (phaseI (does k s id e).1 m) := by
  unfold phaseI
  split
  · exact goes_does h s id e _
  · exact goes_refl _

end Sm
end Go.Proofs.Ythgdokcdpmoeeaa
