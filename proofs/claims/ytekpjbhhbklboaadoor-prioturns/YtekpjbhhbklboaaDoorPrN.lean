/-
  Whose turn it is, by an order: plain.
-/
import Derived.Test.YtekpjbhhbklboaaDoorPrR
namespace Go.Proofs.YtekpjbhhbklboaaDoor
namespace Pr

/-- Has the round yet to come to one? -/
def bef (l : Ln) (u : Nat) (id : Int) : Bool := l.was.getD u false && decide (l.last.getD u 0 < id)
/-- How far one stands behind. -/
def rkP (l : Ln) (x : Nat × Bool) (id : Int) : Nat := x.1 * 4 + (if x.2 = true then (if bef l x.1 id = true then 2 else 3) else 0)
def rk (l : Ln) (id : Int) : Nat := rkP l ((wt l id).getD (0, false)) id
/-- One goes ahead of another. -/
def ahd (l : Ln) (a b : Int) : Bool := decide (rk l a < rk l b ∨ (rk l a = rk l b ∧ a < b))
theorem rk_some {l : Ln} {id : Int} {x : Nat × Bool} (h : wt l id = some x) : rk l id = rkP l x id := by unfold rk; rw [h]; rfl
theorem rkP_bd (l : Ln) (x : Nat × Bool) (id : Int) : x.1 * 4 ≤ rkP l x id ∧ rkP l x id ≤ x.1 * 4 + 3 := by
  unfold rkP
  cases x.2 <;> cases bef l x.1 id <;> simp
theorem ahd_urg {l : Ln} {a b : Int} {u v : Nat} {p q : Bool} (ha : wt l a = some (u, p)) (hb : wt l b = some (v, q)) (h : u ≠ v) : ahd l a b = decide (u < v) := by
  unfold ahd
  rw [rk_some ha, rk_some hb]
  apply decide_eq_decide.2
  have e1 := rkP_bd l (u, p) a
  have e2 := rkP_bd l (v, q) b
  simp only at e1 e2
  omega
theorem ahd_parts {l : Ln} {a b : Int} {u : Nat} {p q : Bool} (ha : wt l a = some (u, p)) (hb : wt l b = some (u, q)) (h : p ≠ q) : ahd l a b = !p := by
  unfold ahd
  rw [rk_some ha, rk_some hb]
  unfold rkP
  cases p <;> cases q <;> simp at h ⊢
  · split <;> omega
  · split <;> omega
theorem ahd_bef {l : Ln} {a b : Int} {u : Nat} (ha : wt l a = some (u, true)) (hb : wt l b = some (u, true)) (h : bef l u a ≠ bef l u b) : ahd l a b = bef l u a := by
  unfold ahd
  rw [rk_some ha, rk_some hb]
  unfold rkP
  cases h1 : bef l u a <;> cases h2 : bef l u b <;> simp [h1, h2] at h ⊢
theorem ahd_same {l : Ln} {a b : Int} {u : Nat} (ha : wt l a = some (u, true)) (hb : wt l b = some (u, true)) (h : bef l u a = bef l u b) : ahd l a b = decide (a < b) := by
  unfold ahd
  rw [rk_some ha, rk_some hb]
  unfold rkP
  simp only [h]
  simp
theorem ahd_whole {l : Ln} {a b : Int} {u : Nat} (ha : wt l a = some (u, false)) (hb : wt l b = some (u, false)) : ahd l a b = decide (a < b) := by
  unfold ahd
  rw [rk_some ha, rk_some hb]
  unfold rkP
  simp

/-- Who goes on, of those that were looked at. -/
def stp (l : Ln) (o : Option Int) (id : Int) : Option Int := match wt l id with
  | none => o
  | some _ => match o with
    | none => some id
    | some b => if ahd l id b = true then some id else some b
theorem stp_none {l : Ln} {o : Option Int} {id : Int} (h : wt l id = none) : stp l o id = o := by unfold stp; rw [h]
theorem stp_first {l : Ln} {id : Int} {x : Nat × Bool} (h : wt l id = some x) : stp l none id = some id := by unfold stp; rw [h]
theorem stp_yes {l : Ln} {id b : Int} {x : Nat × Bool} (h : wt l id = some x) (ha : ahd l id b = true) : stp l (some b) id = some id := by unfold stp; rw [h]; simp only [ha, if_true]
theorem stp_no {l : Ln} {id b : Int} {x : Nat × Bool} (h : wt l id = some x) (ha : ahd l id b = false) : stp l (some b) id = some b := by unfold stp; rw [h]; simp [ha]
theorem stp_at {l : Ln} {can : List Int} {i : Nat} {c : Int} (h : can[i]? = some c) (o : Option Int) : (can.drop i).foldl (stp l) o = (can.drop (i + 1)).foldl (stp l) (stp l o c) := by
  rw [drop_at h, List.foldl_cons]
/-- z goes ahead of all others that wait. -/
structure Fst (l : Ln) (can : List Int) (z : Int) : Prop where
  mem : z ∈ can
  wts : ∃ x, wt l z = some x
  le : ∀ id ∈ can, ∀ x, wt l id = some x → rk l z < rk l id ∨ (rk l z = rk l id ∧ z ≤ id)
def FstO (l : Ln) (can : List Int) (o : Option Int) : Prop := match o with
  | none => ∀ id ∈ can, wt l id = none
  | some z => Fst l can z
theorem stp_fst {l : Ln} {can : List Int} {o : Option Int} {c : Int} (h : FstO l can o) : FstO l (can ++ [c]) (stp l o c) := by
  cases hc : wt l c with
  | none =>
    rw [stp_none hc]
    cases o with
    | none =>
      intro id hm
      rcases List.mem_append.1 hm with hm | hm
      · exact h id hm
      · obtain rfl : id = c := by simpa using hm
        exact hc
    | some z =>
      refine ⟨List.mem_append_left _ h.mem, h.wts, fun id hm x hx => ?_⟩
      rcases List.mem_append.1 hm with hm | hm
      · exact h.le id hm x hx
      · obtain rfl : id = c := by simpa using hm
        rw [hc] at hx; cases hx
  | some y =>
    cases o with
    | none =>
      rw [stp_first hc]
      refine ⟨by simp, ⟨y, hc⟩, fun id hm x hx => ?_⟩
      rcases List.mem_append.1 hm with hm | hm
      · have := h id hm; rw [this] at hx; cases hx
      · obtain rfl : id = c := by simpa using hm
        exact .inr ⟨rfl, Int.le_refl _⟩
    | some z =>
      have h : Fst l can z := h
      cases ha : ahd l c z with
      | true =>
        rw [stp_yes hc ha]
        have h1 := of_decide_eq_true ha
        refine ⟨by simp, ⟨y, hc⟩, fun id hm x hx => ?_⟩
        rcases List.mem_append.1 hm with hm | hm
        · have := h.le id hm x hx; omega
        · obtain rfl : id = c := by simpa using hm
          exact .inr ⟨rfl, Int.le_refl _⟩
      | false =>
        rw [stp_no hc ha]
        have h1 := of_decide_eq_false ha
        refine ⟨List.mem_append_left _ h.mem, h.wts, fun id hm x hx => ?_⟩
        rcases List.mem_append.1 hm with hm | hm
        · exact h.le id hm x hx
        · obtain rfl : id = c := by simpa using hm
          omega
theorem fold_fst {l : Ln} (rest : List Int) : ∀ {can : List Int} {o : Option Int}, FstO l can o → FstO l (can ++ rest) (rest.foldl (stp l) o) := by
  induction rest with
  | nil => intro can o h; simpa using h
  | cons c r ih =>
    intro can o h
    have := ih (stp_fst (c := c) h)
    simpa using this
theorem fold_all (l : Ln) (can : List Int) : FstO l can (can.foldl (stp l) none) := by
  have := fold_fst (l := l) can (can := []) (o := none) (fun id hm => by cases hm)
  simpa using this

/-- The least of those that are such. -/
def mn (P : Int → Bool) (can : List Int) (o : Option Int) : Option Int := can.foldl (fun o id => if P id = true then low o id else o) o
theorem mn_cons (P : Int → Bool) (c : Int) (r : List Int) (o : Option Int) : mn P (c :: r) o = mn P r (if P c = true then low o c else o) := rfl
theorem mn_some {P : Int → Bool} : ∀ {can : List Int} {z : Int}, ∃ a, mn P can (some z) = some a ∧ a ≤ z ∧ (a = z ∨ (a ∈ can ∧ P a = true)) ∧ ∀ b ∈ can, P b = true → a ≤ b := by
  intro can
  induction can with
  | nil => intro z; exact ⟨z, rfl, Int.le_refl _, .inl rfl, fun b hb => by cases hb⟩
  | cons c r ih =>
    intro z
    rw [mn_cons]
    by_cases hp : P c = true
    · rw [if_pos hp]
      simp only [low]
      by_cases hcz : c < z
      · rw [if_pos hcz]
        obtain ⟨a, h1, h2, h3, h4⟩ := ih (z := c)
        refine ⟨a, h1, by omega, .inr ?_, ?_⟩
        · rcases h3 with rfl | ⟨h3, h5⟩
          · exact ⟨List.mem_cons_self .., hp⟩
          · exact ⟨List.mem_cons_of_mem _ h3, h5⟩
        · intro b hb hpb
          rcases List.mem_cons.1 hb with rfl | hb
          · exact h2
          · exact h4 b hb hpb
      · rw [if_neg hcz]
        obtain ⟨a, h1, h2, h3, h4⟩ := ih (z := z)
        refine ⟨a, h1, h2, ?_, ?_⟩
        · rcases h3 with rfl | ⟨h3, h5⟩
          · exact .inl rfl
          · exact .inr ⟨List.mem_cons_of_mem _ h3, h5⟩
        · intro b hb hpb
          rcases List.mem_cons.1 hb with rfl | hb
          · omega
          · exact h4 b hb hpb
    · rw [if_neg hp]
      obtain ⟨a, h1, h2, h3, h4⟩ := ih (z := z)
      refine ⟨a, h1, h2, ?_, ?_⟩
      · rcases h3 with rfl | ⟨h3, h5⟩
        · exact .inl rfl
        · exact .inr ⟨List.mem_cons_of_mem _ h3, h5⟩
      · intro b hb hpb
        rcases List.mem_cons.1 hb with rfl | hb
        · exact absurd hpb hp
        · exact h4 b hb hpb
theorem mn_no {P : Int → Bool} {can : List Int} (h : ∀ b ∈ can, P b = false) : mn P can none = none := by
  induction can with
  | nil => rfl
  | cons c r ih =>
    rw [mn_cons, if_neg (by rw [h c (List.mem_cons_self ..)]; simp)]
    exact ih (fun b hb => h b (List.mem_cons_of_mem _ hb))
theorem mn_yes {P : Int → Bool} {can : List Int} {z : Int} (hz : z ∈ can) (hp : P z = true) : ∃ a, mn P can none = some a ∧ a ∈ can ∧ P a = true ∧ ∀ b ∈ can, P b = true → a ≤ b := by
  induction can with
  | nil => cases hz
  | cons c r ih =>
    rw [mn_cons]
    by_cases hpc : P c = true
    · rw [if_pos hpc]
      simp only [low]
      obtain ⟨a, h1, h2, h3, h4⟩ := mn_some (P := P) (can := r) (z := c)
      refine ⟨a, h1, ?_, ?_, ?_⟩
      · rcases h3 with rfl | ⟨h3, _⟩
        · exact List.mem_cons_self ..
        · exact List.mem_cons_of_mem _ h3
      · rcases h3 with rfl | ⟨_, h5⟩
        · exact hpc
        · exact h5
      · intro b hb hpb
        rcases List.mem_cons.1 hb with rfl | hb
        · exact h2
        · exact h4 b hb hpb
    · rw [if_neg hpc]
      rcases List.mem_cons.1 hz with rfl | hz
      · exact absurd hp hpc
      · obtain ⟨a, h1, h2, h3, h4⟩ := ih hz
        refine ⟨a, h1, List.mem_cons_of_mem _ h2, h3, ?_⟩
        intro b hb hpb
        rcases List.mem_cons.1 hb with rfl | hb
        · exact absurd hpb hpc
        · exact h4 b hb hpb
def isW (l : Ln) (u : Nat) (id : Int) : Bool := wt l id == some (u, false)
def isT (l : Ln) (u : Nat) (id : Int) : Bool := wt l id == some (u, true)
def isB (l : Ln) (u : Nat) (was : Bool) (last id : Int) : Bool := isT l u id && (was && decide (last < id))
theorem look_mn (l : Ln) (u : Nat) (was : Bool) (last : Int) (can : List Int) : ∀ ow ot ob, can.foldl (look l u was last) ⟨ow, ot, ob⟩ = ⟨mn (isW l u) can ow, mn (isT l u) can ot, mn (isB l u was last) can ob⟩ := by
  induction can with
  | nil => intro ow ot ob; rfl
  | cons c r ih =>
    intro ow ot ob
    rw [List.foldl_cons, mn_cons, mn_cons, mn_cons]
    cases hc : wt l c with
    | none =>
      rw [look_none hc, ih]
      simp [isW, isT, isB, hc]
    | some x =>
      obtain ⟨y, p⟩ := x
      by_cases hy : y = u
      · subst hy
        cases p with
        | false =>
          rw [look_whole hc, ih]
          simp [isW, isT, isB, hc]
        | true =>
          rw [look_parts hc, ih]
          simp [isW, isT, isB, hc]
      · rw [look_other hc hy, ih]
        simp [isW, isT, isB, hc, hy]
theorem urg_le_mem (l : Ln) {id : Int} {x : Nat × Bool} (h : wt l id = some x) : ∀ (can : List Int) (u : Nat), id ∈ can → urg l can u ≤ x.1 := by
  intro can
  induction can with
  | nil => intro u hm; cases hm
  | cons c r ih =>
    intro u hm
    rw [urg_cons]
    rcases List.mem_cons.1 hm with rfl | hm
    · rw [h]
      simp only
      exact Nat.le_trans (urg_le l r _) (Nat.min_le_right _ _)
    · exact ih _ hm
/-- The one that goes ahead of all others is the document's. -/
theorem next_of {l : Ln} (ok : Ok l) {can : List Int} {z : Int} {u : Nat} {p : Bool} (h : Fst l can z) (hw : wt l z = some (u, p)) :
    next l can = (z, if p = true then { l with was := l.was.set u true, last := l.last.set u z } else l) := by
  have hu7 : u ≤ 7 := by
    cases hp : pl l.ids z with
    | none => rw [wt_none hp] at hw; cases hw
    | some i =>
      obtain ⟨u', p', h1, _, h3⟩ := wt_at ok hp
      rw [hw] at h1
      injection h1 with h1
      injection h1 with h1 _
      omega
  have hrk := rk_some hw
  have hurg : urg l can 8 = u := by
    have h1 := urg_le_mem l hw can 8 h.mem
    simp only at h1
    rcases urg_or l can 8 with h2 | ⟨id, hm, q, h2⟩
    · omega
    · have h3 := h.le id hm _ h2
      rw [hrk, rk_some h2] at h3
      have e1 := rkP_bd l (u, p) z
      have e2 := rkP_bd l (urg l can 8, q) id
      simp only at e1 e2
      omega
  have h8 : ¬ u = 8 := by omega
  obtain ⟨wa, hwa⟩ : ∃ wa, l.was[u]? = some wa := ⟨_, List.getElem?_eq_getElem (by rw [ok.w8]; omega)⟩
  obtain ⟨la, hla⟩ : ∃ la, l.last[u]? = some la := ⟨_, List.getElem?_eq_getElem (by rw [ok.l8]; omega)⟩
  have hfold := look_mn l u wa la can none none none
  have hbef : ∀ id, bef l u id = (wa && decide (la < id)) := fun id => by
    unfold bef
    simp [List.getD_eq_getElem?_getD, hwa, hla]
  cases p with
  | false =>
    have hpz : isW l u z = true := by simp [isW, hw]
    obtain ⟨a, h1, h2, h3, h4⟩ := mn_yes (P := isW l u) h.mem hpz
    have haz : a = z := by
      have e1 : wt l a = some (u, false) := by simpa [isW] using h3
      have e2 := h.le a h2 _ e1
      have e3 := h4 z h.mem hpz
      rw [hrk, rk_some e1] at e2
      unfold rkP at e2
      simp at e2
      omega
    subst haz
    rw [h1] at hfold
    rw [next_whole hurg h8 hwa hla hfold]
    simp
  | true =>
    have hnw : mn (isW l u) can none = none := mn_no (fun b hb => by
      cases hq : isW l u b with
      | false => rfl
      | true =>
        have e1 : wt l b = some (u, false) := by simpa [isW] using hq
        have e2 := h.le b hb _ e1
        rw [hrk, rk_some e1] at e2
        unfold rkP at e2
        simp at e2
        revert e2
        split <;> omega)
    rw [hnw] at hfold
    have hpz : isT l u z = true := by simp [isT, hw]
    rw [if_pos rfl]
    cases hbz : (wa && decide (la < z)) with
    | true =>
      have hpb : isB l u wa la z = true := by simp only [isB, hpz, hbz, Bool.and_self]
      obtain ⟨a, h1, h2, h3, h4⟩ := mn_yes (P := isB l u wa la) h.mem hpb
      have haz : a = z := by
        have e0 : isT l u a = true ∧ (wa && decide (la < a)) = true := by
          have := h3
          simp only [isB, Bool.and_eq_true] at this
          exact ⟨this.1, by simp only [Bool.and_eq_true]; exact this.2⟩
        have e1 : wt l a = some (u, true) := by simpa [isT] using e0.1
        have e2 := h.le a h2 _ e1
        have e3 := h4 z h.mem hpb
        rw [hrk, rk_some e1] at e2
        unfold rkP at e2
        simp only [hbef, hbz, e0.2, if_true] at e2
        omega
      subst haz
      exact next_parts hurg h8 hwa hla hfold (.inl h1)
    | false =>
      have hnb : mn (isB l u wa la) can none = none := mn_no (fun b hb => by
        cases hq : isB l u wa la b with
        | false => rfl
        | true =>
          have e0 : isT l u b = true ∧ (wa && decide (la < b)) = true := by
            have := hq
            simp only [isB, Bool.and_eq_true] at this
            exact ⟨this.1, by simp only [Bool.and_eq_true]; exact this.2⟩
          have e1 : wt l b = some (u, true) := by simpa [isT] using e0.1
          have e2 := h.le b hb _ e1
          rw [hrk, rk_some e1] at e2
          unfold rkP at e2
          simp only [hbef, hbz, e0.2, if_true] at e2
          revert e2
          simp)
      obtain ⟨a, h1, h2, h3, h4⟩ := mn_yes (P := isT l u) h.mem hpz
      have haz : a = z := by
        have e1 : wt l a = some (u, true) := by simpa [isT] using h3
        have e2 := h.le a h2 _ e1
        have e3 := h4 z h.mem hpz
        rw [hrk, rk_some e1] at e2
        unfold rkP at e2
        simp only [hbef, hbz, if_true] at e2
        cases hba : (wa && decide (la < a)) <;> simp only [hba] at e2 <;> simp at e2 <;> omega
      subst haz
      exact next_parts hurg h8 hwa hla hfold (.inr ⟨hnb, h1⟩)
theorem next_nobody {l : Ln} {can : List Int} (h : ∀ id ∈ can, wt l id = none) : next l can = (-1, l) := by
  have : urg l can 8 = 8 := by
    rcases urg_or l can 8 with h1 | ⟨id, hm, p, h1⟩
    · exact h1
    · rw [h id hm] at h1; cases h1
  unfold next
  rw [if_pos this]
/-- What the code answers is what the document answers. -/
theorem next_none {l : Ln} {can : List Int} (h : can.foldl (stp l) none = none) : next l can = (-1, l) := by
  have := fold_all l can
  rw [h] at this
  exact next_nobody this
theorem next_some {l : Ln} (ok : Ok l) {can : List Int} {z : Int} {u : Nat} {p : Bool} (h : can.foldl (stp l) none = some z) (hw : wt l z = some (u, p)) :
    next l can = (z, if p = true then { l with was := l.was.set u true, last := l.last.set u z } else l) := by
  have := fold_all l can
  rw [h] at this
  exact next_of ok this hw
end Pr
end Go.Proofs.YtekpjbhhbklboaaDoor
