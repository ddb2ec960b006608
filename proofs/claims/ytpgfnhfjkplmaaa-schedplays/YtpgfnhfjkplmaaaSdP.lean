/-
  Tasks on lists: where a number stands in a row that rises, rows of those that can run and of those that sleep: what is of no program.
-/
import Derived.Test.YtpgfnhfjkplmaaaProg
namespace Go.Proofs.Ytpgfnhfjkplmaaa.Sd

/-- Where a number stands in a row, or would stand. -/
def pl (x : Int) : List Int → Nat
  | [] => 0
  | y :: r => if y < x then pl x r + 1 else 0
theorem pl_le (x : Int) (l : List Int) : pl x l ≤ l.length := by
  induction l with
  | nil => simp [pl]
  | cons y r ih => unfold pl; split <;> simp <;> omega
theorem pl_app (x : Int) (A R : List Int) (h1 : ∀ a ∈ A, a < x) (h2 : ∀ a ∈ R, ¬ a < x) : pl x (A ++ R) = A.length := by
  induction A with
  | nil =>
    cases R with
    | nil => rfl
    | cons y r => simp [pl]; have := h2 y (by simp); omega
  | cons y r ih =>
    have := ih (fun a ha => h1 a (by simp [ha]))
    have hy := h1 y (by simp)
    simp only [List.cons_append, pl, if_pos hy, this, List.length_cons]
theorem pl_below (x : Int) (l : List Int) : ∀ t y, t < pl x l → l[t]? = some y → y < x := by
  induction l with
  | nil => intro t y h; simp [pl] at h
  | cons z r ih =>
    intro t y h hy
    unfold pl at h
    split at h
    · cases t with
      | zero => simp at hy; subst hy; assumption
      | succ t => exact ih t y (by omega) (by simpa using hy)
    · omega
/-- Where the numbers part, it stands. -/
theorem pl_of (x : Int) (l : List Int) (i : Nat) (hi : i ≤ l.length) (h1 : ∀ t y, t < i → l[t]? = some y → y < x) (h2 : ∀ t y, i ≤ t → l[t]? = some y → x ≤ y) : pl x l = i := by
  have e : l = l.take i ++ l.drop i := (List.take_append_drop i l).symm
  rw [e, pl_app]
  · simp; omega
  · intro a ha
    obtain ⟨j, hj, rfl⟩ := List.getElem_of_mem ha
    rw [List.length_take] at hj
    rw [List.getElem_take]
    exact h1 j _ (by omega) (List.getElem?_eq_getElem (by omega))
  · intro a ha
    obtain ⟨j, hj, rfl⟩ := List.getElem_of_mem ha
    rw [List.length_drop] at hj
    rw [List.getElem_drop]
    have := h2 (i + j) _ (by omega) (List.getElem?_eq_getElem (by omega))
    omega
theorem pl_ge (x : Int) (l : List Int) (i : Nat) (hi : i ≤ l.length) (h1 : ∀ t y, t < i → l[t]? = some y → y < x) : i ≤ pl x l := by
  induction l generalizing i with
  | nil => simp at hi; omega
  | cons z r ih =>
    cases i with
    | zero => omega
    | succ i =>
      have h0 := h1 0 z (by omega) rfl
      have := ih i (by simpa using hi) (fun t y ht hy => h1 (t + 1) y (by omega) (by simpa using hy))
      simp only [pl, if_pos h0]; omega
def Rise (l : List Int) : Prop := l.Pairwise (· < ·)
theorem mem_iff (x : Int) (l : List Int) (h : Rise l) : x ∈ l ↔ l[pl x l]? = some x := by
  constructor
  · intro hm
    induction l with
    | nil => simp at hm
    | cons y r ih =>
      have hp := List.pairwise_cons.1 h
      by_cases e : x = y
      · subst e; simp [pl]
      · have hm' : x ∈ r := by simpa [e] using hm
        have := hp.1 x hm'
        simp only [pl, if_pos this, List.getElem?_cons_succ]
        exact ih hp.2 hm'
  · intro h; exact List.mem_of_getElem? h
/-- One more, in its place; one less. -/
def ins (x : Int) (l : List Int) : List Int := l.take (pl x l) ++ x :: l.drop (pl x l)
def rmv (x : Int) (l : List Int) : List Int := l.take (pl x l) ++ l.drop (pl x l + 1)
theorem ins_app (x : Int) (A R : List Int) (h1 : ∀ a ∈ A, a < x) (h2 : ∀ a ∈ R, ¬ a < x) : ins x (A ++ R) = A ++ x :: R := by
  unfold ins; rw [pl_app x A R h1 h2]; simp
theorem rmv_app (x : Int) (A R : List Int) (h1 : ∀ a ∈ A, a < x) (h2 : ∀ a ∈ R, ¬ a < x) : rmv x (A ++ x :: R) = A ++ R := by
  unfold rmv; rw [pl_app x A (x :: R) h1 (by intro a ha; rcases List.mem_cons.1 ha with rfl | ha; omega; exact h2 a ha)]; simp
theorem ins_len (x : Int) (l : List Int) : (ins x l).length = l.length + 1 := by
  unfold ins; have := pl_le x l; simp; omega
theorem rmv_len (x : Int) (l : List Int) (h : Rise l) (hm : x ∈ l) : (rmv x l).length = l.length - 1 := by
  have h1 := (List.getElem?_eq_some_iff.1 ((mem_iff x l h).1 hm)).1
  unfold rmv; simp; omega

/-- Tasks: each with whether it can run. -/
def ids (ts : List (Int × Bool)) : List Int := ts.map (·.1)
def row (c : Bool) (ts : List (Int × Bool)) : List Int := (ts.filter (fun p => p.2 == c)).map (·.1)
def Ok (ts : List (Int × Bool)) : Prop := Rise (ids ts)
def tadd (x : Int) (ts : List (Int × Bool)) : List (Int × Bool) := ts.take (pl x (ids ts)) ++ (x, false) :: ts.drop (pl x (ids ts))
def tdrop (x : Int) (ts : List (Int × Bool)) : List (Int × Bool) := ts.take (pl x (ids ts)) ++ ts.drop (pl x (ids ts) + 1)
def tset (x : Int) (c : Bool) (ts : List (Int × Bool)) : List (Int × Bool) := ts.set (pl x (ids ts)) (x, c)
theorem row_app (c : Bool) (a b : List (Int × Bool)) : row c (a ++ b) = row c a ++ row c b := by simp [row]
theorem row_cons (c : Bool) (x : Int) (d : Bool) (b : List (Int × Bool)) : row c ((x, d) :: b) = if d == c then x :: row c b else row c b := by
  unfold row; rw [List.filter_cons]; split <;> simp_all
theorem row_mem (c : Bool) (ts : List (Int × Bool)) (x : Int) : x ∈ row c ts ↔ (x, c) ∈ ts := by
  unfold row
  simp only [List.mem_map, List.mem_filter, beq_iff_eq, Prod.exists]
  constructor
  · rintro ⟨a, b, ⟨h, rfl⟩, rfl⟩; exact h
  · intro h; exact ⟨x, c, ⟨h, rfl⟩, rfl⟩
theorem row_len (ts : List (Int × Bool)) : (row false ts).length + (row true ts).length = ts.length := by
  induction ts with
  | nil => rfl
  | cons p r ih =>
    obtain ⟨x, d⟩ := p
    rw [row_cons, row_cons]
    cases d <;> simp <;> omega
theorem row_rise (c : Bool) (ts : List (Int × Bool)) (h : Ok ts) : Rise (row c ts) := by
  induction ts with
  | nil => exact List.Pairwise.nil
  | cons p r ih =>
    obtain ⟨x, d⟩ := p
    have hp := List.pairwise_cons.1 (show ((x, d).1 :: ids r).Pairwise (· < ·) from h)
    rw [row_cons]
    split
    · refine List.pairwise_cons.2 ⟨fun y hy => hp.1 y ?_, ih hp.2⟩
      rw [row_mem] at hy
      exact List.mem_map.2 ⟨_, hy, rfl⟩
    · exact ih hp.2
theorem row_lt (c : Bool) (ts : List (Int × Bool)) (x : Int) (h : ∀ p ∈ ts, p.1 < x) : ∀ a ∈ row c ts, a < x := fun a ha => h _ ((row_mem c ts a).1 ha)
theorem row_gt (c : Bool) (ts : List (Int × Bool)) (x : Int) (h : ∀ p ∈ ts, x < p.1) : ∀ a ∈ row c ts, ¬ a < x := fun a ha => by have := h _ ((row_mem c ts a).1 ha); simp only at this; omega
theorem ids_mem (ts : List (Int × Bool)) (x : Int) : x ∈ ids ts ↔ x ∈ row false ts ∨ x ∈ row true ts := by
  rw [row_mem, row_mem]
  unfold ids
  simp only [List.mem_map, Prod.exists]
  constructor
  · rintro ⟨a, b, h, rfl⟩; cases b; exact .inl h; exact .inr h
  · rintro (h | h); exact ⟨x, _, h, rfl⟩; exact ⟨x, _, h, rfl⟩
/-- A row of tasks, parted at a number. -/
theorem split_no (ts : List (Int × Bool)) (x : Int) (h : Ok ts) (hn : x ∉ ids ts) : ∃ A R, ts = A ++ R ∧ (∀ p ∈ A, p.1 < x) ∧ ∀ p ∈ R, x < p.1 := by
  induction ts with
  | nil => exact ⟨[], [], rfl, by simp, by simp⟩
  | cons p r ih =>
    have hp := List.pairwise_cons.1 (show (p.1 :: ids r).Pairwise (· < ·) from h)
    have hn2 : x ≠ p.1 ∧ x ∉ ids r := by
      refine ⟨fun e => hn ?_, fun e => hn ?_⟩
      · rw [e]; simp [ids]
      · simp only [ids, List.map_cons, List.mem_cons]; exact .inr e
    by_cases hx : p.1 < x
    · obtain ⟨A, R, rfl, h1, h2⟩ := ih hp.2 hn2.2
      exact ⟨p :: A, R, rfl, by simpa [hx] using h1, h2⟩
    · refine ⟨[], p :: r, rfl, by simp, ?_⟩
      have h0 : x < p.1 := by have := hn2.1; omega
      intro q hq
      rcases List.mem_cons.1 hq with rfl | hq
      · exact h0
      · have := hp.1 q.1 (List.mem_map.2 ⟨q, hq, rfl⟩); omega
theorem split_yes (ts : List (Int × Bool)) (x : Int) (c : Bool) (h : Ok ts) (hm : (x, c) ∈ ts) : ∃ A R, ts = A ++ (x, c) :: R ∧ (∀ p ∈ A, p.1 < x) ∧ ∀ p ∈ R, x < p.1 := by
  obtain ⟨A, R, rfl⟩ := List.append_of_mem hm
  refine ⟨A, R, rfl, ?_, ?_⟩
  · intro p hp
    unfold Ok Rise ids at h
    rw [List.map_append, List.pairwise_append] at h
    exact h.2.2 p.1 (List.mem_map.2 ⟨p, hp, rfl⟩) x (by simp)
  · intro p hp
    unfold Ok Rise ids at h
    rw [List.map_append, List.pairwise_append] at h
    exact (List.pairwise_cons.1 h.2.1).1 p.1 (List.mem_map.2 ⟨p, hp, rfl⟩)
theorem ok_join (A R : List (Int × Bool)) (x : Int) (c : Bool) (h : Ok (A ++ R)) (h1 : ∀ p ∈ A, p.1 < x) (h2 : ∀ p ∈ R, x < p.1) : Ok (A ++ (x, c) :: R) := by
  unfold Ok Rise ids at *
  rw [List.map_append, List.pairwise_append] at *
  refine ⟨h.1, ?_, ?_⟩
  · refine List.pairwise_cons.2 ⟨fun y hy => ?_, h.2.1⟩
    obtain ⟨p, hp, rfl⟩ := List.mem_map.1 hy
    exact h2 p hp
  · intro a ha b hb
    obtain ⟨p, hp, rfl⟩ := List.mem_map.1 ha
    rcases List.mem_cons.1 (show b ∈ x :: R.map (·.1) from hb) with rfl | hb
    · exact h1 p hp
    · exact h.2.2 _ ha _ hb
theorem ok_cut (A R : List (Int × Bool)) (x : Int) (c : Bool) (h : Ok (A ++ (x, c) :: R)) : Ok (A ++ R) := by
  unfold Ok Rise ids at *
  refine h.sublist ?_
  rw [List.map_append, List.map_append]
  exact List.Sublist.append_left (List.sublist_cons_self _ _) _
theorem ids_pl (A R : List (Int × Bool)) (x : Int) (h1 : ∀ p ∈ A, p.1 < x) (h2 : ∀ p ∈ R, ¬ p.1 < x) : pl x (ids (A ++ R)) = A.length := by
  unfold ids
  rw [List.map_append, pl_app]
  · simp
  · intro a ha; obtain ⟨p, hp, rfl⟩ := List.mem_map.1 ha; exact h1 p hp
  · intro a ha; obtain ⟨p, hp, rfl⟩ := List.mem_map.1 ha; exact h2 p hp
theorem not_lt_cons (R : List (Int × Bool)) (x : Int) (c : Bool) (h2 : ∀ p ∈ R, x < p.1) : ∀ p ∈ (x, c) :: R, ¬ p.1 < x := by
  intro p hp
  rcases List.mem_cons.1 hp with rfl | hp
  · simp
  · have := h2 p hp; omega
theorem add_spec (ts : List (Int × Bool)) (x : Int) (h : Ok ts) (hn : x ∉ ids ts) : Ok (tadd x ts) ∧ row false (tadd x ts) = ins x (row false ts) ∧ row true (tadd x ts) = row true ts ∧ (tadd x ts).length = ts.length + 1 := by
  obtain ⟨A, R, rfl, h1, h2⟩ := split_no ts x h hn
  have e : tadd x (A ++ R) = A ++ (x, false) :: R := by
    unfold tadd
    rw [ids_pl A R x h1 (fun p hp => by have := h2 p hp; omega)]
    simp
  rw [e]
  refine ⟨ok_join A R x false h h1 h2, ?_, ?_, by simp; omega⟩
  · rw [row_app, row_app, row_cons, ins_app _ _ _ (row_lt _ _ _ h1) (row_gt _ _ _ h2)]; simp
  · rw [row_app, row_app, row_cons]; simp
theorem drop_spec (ts : List (Int × Bool)) (x : Int) (c : Bool) (h : Ok ts) (hm : (x, c) ∈ ts) : Ok (tdrop x ts) ∧ row c (tdrop x ts) = rmv x (row c ts) ∧ row (!c) (tdrop x ts) = row (!c) ts ∧ (tdrop x ts).length + 1 = ts.length := by
  obtain ⟨A, R, rfl, h1, h2⟩ := split_yes ts x c h hm
  have e : tdrop x (A ++ (x, c) :: R) = A ++ R := by
    unfold tdrop
    rw [ids_pl A ((x, c) :: R) x h1 (not_lt_cons R x c h2)]
    simp
  rw [e]
  refine ⟨ok_cut A R x c h, ?_, ?_, by simp; omega⟩
  · rw [row_app, row_app, row_cons]
    simp only [beq_self_eq_true, if_true]
    rw [rmv_app _ _ _ (row_lt _ _ _ h1) (row_gt _ _ _ h2)]
  · rw [row_app, row_app, row_cons]; cases c <;> simp
theorem set_spec (ts : List (Int × Bool)) (x : Int) (c : Bool) (h : Ok ts) (hm : (x, c) ∈ ts) : Ok (tset x (!c) ts) ∧ row c (tset x (!c) ts) = rmv x (row c ts) ∧ row (!c) (tset x (!c) ts) = ins x (row (!c) ts) ∧ (tset x (!c) ts).length = ts.length := by
  obtain ⟨A, R, rfl, h1, h2⟩ := split_yes ts x c h hm
  have e : tset x (!c) (A ++ (x, c) :: R) = A ++ (x, !c) :: R := by
    unfold tset
    rw [ids_pl A ((x, c) :: R) x h1 (not_lt_cons R x c h2)]
    simp
  rw [e]
  refine ⟨ok_join A R x (!c) (ok_cut A R x c h) h1 h2, ?_, ?_, by simp⟩
  · rw [row_app, row_app, row_cons, row_cons]
    simp only [beq_self_eq_true, if_true]
    rw [rmv_app _ _ _ (row_lt _ _ _ h1) (row_gt _ _ _ h2)]
    cases c <;> simp
  · rw [row_app, row_app, row_cons, row_cons]
    have e1 : (c == !c) = false := by cases c <;> rfl
    simp only [beq_self_eq_true, if_true, e1]
    rw [if_neg (by simp), ins_app _ _ _ (row_lt _ _ _ h1) (row_gt _ _ _ h2)]
theorem ids_len (ts : List (Int × Bool)) : (ids ts).length = ts.length := by simp [ids]
/-- A task stands once: it can run or it sleeps. -/
theorem row_two (ts : List (Int × Bool)) (x : Int) (c : Bool) (h : Ok ts) (hm : x ∈ row c ts) : x ∉ row (!c) ts := by
  intro hm2
  rw [row_mem] at hm hm2
  obtain ⟨A, R, rfl, h1, h2⟩ := split_yes ts x c h hm
  rcases List.mem_append.1 hm2 with hh | hh
  · have := h1 _ hh; simp at this
  · rcases List.mem_cons.1 hh with hh | hh
    · simp at hh
    · have := h2 _ hh; simp at this
theorem at_pl (ts : List (Int × Bool)) (x : Int) (c : Bool) (h : Ok ts) (hm : (x, c) ∈ ts) : ts[pl x (ids ts)]? = some (x, c) := by
  obtain ⟨A, R, rfl, h1, h2⟩ := split_yes ts x c h hm
  rw [ids_pl A ((x, c) :: R) x h1 (not_lt_cons R x c h2)]
  simp

end Go.Proofs.Ytpgfnhfjkplmaaa.Sd
namespace Go.Proofs.Ytpgfnhfjkplmaaa
end Go.Proofs.Ytpgfnhfjkplmaaa
