/-
  Each gets its turn: plain.
-/
import Derived.Test.YtekpjbhhbklboaaDoorPrUr
namespace Go.Proofs.YtekpjbhhbklboaaDoor
namespace Pr

/-- All of own wait alike, and nobody else does. -/
structure All (l : Ln) (own : List Int) (u : Nat) : Prop where
  ok : Ok l
  nd : own.Nodup
  wt : ∀ x, wt l x = if x ∈ own then some (u, true) else none
  len : l.ids.length = own.length
  u7 : u ≤ 7
theorem all_nil (u : Nat) (hu : u ≤ 7) {l : Ln} (ok : Ok l) (h : ∀ x, Pr.wt l x = none) (hl : l.ids.length = 0) : All l [] u := ⟨ok, by simp, fun x => by rw [h x]; simp, by simpa using hl, hu⟩
theorem all_old {l : Ln} {own : List Int} {u : Nat} (h : All l own u) {x : Int} (hx : x ∈ own) : All (set l x (u, true)) own u := by
  refine ⟨set_ok h.ok x _ h.u7, h.nd, fun y => ?_, ?_, h.u7⟩
  · rw [wt_set h.ok, h.wt y]
    by_cases e : y = x
    · subst e; rw [if_pos rfl, if_pos hx]
    · rw [if_neg e]
  · rw [set_len h.ok, h.wt x, if_pos hx]
    simp [h.len]
theorem all_new {l : Ln} {own : List Int} {u : Nat} (h : All l own u) {x : Int} (hx : x ∉ own) : All (set l x (u, true)) (own ++ [x]) u := by
  refine ⟨set_ok h.ok x _ h.u7, ?_, fun y => ?_, ?_, h.u7⟩
  · refine List.nodup_append.2 ⟨h.nd, by simp, fun a ha b hb e => ?_⟩
    obtain rfl : b = x := by simpa using hb
    exact hx (e ▸ ha)
  · rw [wt_set h.ok, h.wt y]
    by_cases e : y = x
    · subst e; rw [if_pos rfl, if_pos (by simp)]
    · rw [if_neg e]
      by_cases hy : y ∈ own
      · rw [if_pos hy, if_pos (by simp [hy])]
      · rw [if_neg hy, if_neg (by simp [hy, e])]
  · rw [set_len h.ok, h.wt x, if_neg hx]
    simp [h.len]
/-- How far a round has come: i have had their turn. -/
def RI (l : Ln) (own : List Int) (u i : Nat) : Prop :=
  (i = 0 ∧ ∀ x ∈ own, bef l u x = false) ∨ (0 < i ∧ l.was.getD u false = true ∧ own.countP (fun x => decide (x ≤ l.last.getD u 0)) = i)
/-- Has one had its turn in this round? -/
def sn (l : Ln) (u i : Nat) (x : Int) : Int := if i = 0 then 0 else if x ≤ l.last.getD u 0 then 1 else 0
theorem ri_0 {l : Ln} {own : List Int} {u : Nat} (h : l.was.getD u false = false) : RI l own u 0 := .inl ⟨rfl, fun x _ => by unfold bef; rw [h]; rfl⟩
theorem sn_0 (l : Ln) (u : Nat) (x : Int) : sn l u 0 x = 0 := by unfold sn; rw [if_pos rfl]
theorem countP_lt {p : Int → Bool} {l : List Int} (h : l.countP p < l.length) : ∃ x ∈ l, p x = false := by
  induction l with
  | nil => simp at h
  | cons a r ih =>
    by_cases hp : p a = true
    · rw [List.countP_cons_of_pos hp] at h
      obtain ⟨x, hx, hpx⟩ := ih (by simp at h; omega)
      exact ⟨x, List.mem_cons_of_mem _ hx, hpx⟩
    · exact ⟨a, List.mem_cons_self .., by simpa using hp⟩
theorem countP_all {p : Int → Bool} {l : List Int} (h : l.countP p = l.length) : ∀ x ∈ l, p x = true := List.countP_eq_length.1 h
theorem countP_one {p q : Int → Bool} {z : Int} : ∀ {l : List Int}, l.Nodup → z ∈ l → p z = false → (∀ x ∈ l, q x = (p x || decide (x = z))) → l.countP q = l.countP p + 1 := by
  intro l
  induction l with
  | nil => intro _ hz; cases hz
  | cons a r ih =>
    intro hn hz hp hq
    have hn2 := List.nodup_cons.1 hn
    have hqa := hq a (List.mem_cons_self ..)
    rcases List.mem_cons.1 hz with rfl | hz
    · have hrest : r.countP q = r.countP p := by
        apply List.countP_congr
        intro x hx
        rw [hq x (List.mem_cons_of_mem _ hx)]
        have : x ≠ z := fun e => hn2.1 (e ▸ hx)
        simp [this]
      rw [List.countP_cons_of_pos (by rw [hqa]; simp), List.countP_cons_of_neg (by rw [hp]; simp), hrest]
    · have hne : a ≠ z := fun e => hn2.1 (e ▸ hz)
      have hqa2 : q a = p a := by rw [hqa]; simp [hne]
      have h2 := ih hn2.2 hz hp (fun x hx => hq x (List.mem_cons_of_mem _ hx))
      by_cases hpa : p a = true
      · rw [List.countP_cons_of_pos (by rw [hqa2]; exact hpa), List.countP_cons_of_pos hpa, h2]
      · rw [List.countP_cons_of_neg (by rw [hqa2]; exact hpa), List.countP_cons_of_neg hpa, h2]
theorem next_all {l : Ln} {own : List Int} {u : Nat} (h : All l own u) (hne : own ≠ []) : ∃ z, next l own = (z, { l with was := l.was.set u true, last := l.last.set u z }) ∧ z ∈ own ∧ (bef l u z = true ∧ (∀ x ∈ own, bef l u x = true → z ≤ x) ∨ (∀ x ∈ own, bef l u x = false) ∧ ∀ x ∈ own, z ≤ x) := by
  cases hf : own.foldl (stp l) none with
  | none =>
    exfalso
    have := fold_all l own
    rw [hf] at this
    obtain ⟨x, hx⟩ := List.exists_mem_of_ne_nil own hne
    have h1 := this x hx
    rw [h.wt x, if_pos hx] at h1
    cases h1
  | some z =>
    have hF := fold_all l own
    rw [hf] at hF
    have hF : Fst l own z := hF
    have hw : Pr.wt l z = some (u, true) := by rw [h.wt z, if_pos hF.mem]
    have hn := next_some h.ok hf hw
    rw [if_pos rfl] at hn
    refine ⟨z, hn, hF.mem, ?_⟩
    have hr : ∀ x ∈ own, rk l x = u * 4 + (if bef l u x = true then 2 else 3) := fun x hx => by
      rw [rk_some (by rw [h.wt x, if_pos hx])]
      unfold rkP
      simp
    have hrz := hr z hF.mem
    cases hb : bef l u z with
    | true =>
      refine .inl ⟨rfl, fun x hx hbx => ?_⟩
      have h1 := hF.le x hx _ (by rw [h.wt x, if_pos hx])
      rw [hr x hx, hrz, hb, hbx] at h1
      simp at h1
      exact h1
    | false =>
      refine .inr ⟨fun x hx => ?_, fun x hx => ?_⟩
      · have h1 := hF.le x hx _ (by rw [h.wt x, if_pos hx])
        rw [hr x hx, hrz, hb] at h1
        cases hbx : bef l u x with
        | false => rfl
        | true => rw [hbx] at h1; simp at h1
      · have h1 := hF.le x hx _ (by rw [h.wt x, if_pos hx])
        rw [hr x hx, hrz, hb] at h1
        cases hbx : bef l u x with
        | false => rw [hbx] at h1; simp at h1; exact h1
        | true => rw [hbx] at h1; simp at h1
theorem getD_set {α : Type} (l : List α) (u : Nat) (x d : α) (h : u < l.length) : (l.set u x).getD u d = x := by
  rw [List.getD_eq_getElem?_getD, List.getElem?_set_self h]; rfl
/-- One more has its turn. -/
theorem ri_step {l : Ln} {own : List Int} {u i : Nat} (h : All l own u) (hi : i < own.length) (hr : RI l own u i) :
    ∃ z l', next l own = (z, l') ∧ All l' own u ∧ RI l' own u (i + 1) ∧ ∀ x ∈ own, sn l' u (i + 1) x = sn l u i x + (if x = z then 1 else 0) := by
  have hne : own ≠ [] := by rintro rfl; simp at hi
  obtain ⟨z, hn, hz, hzz⟩ := next_all h hne
  have hu8 : u < l.last.length := by rw [h.ok.l8]; have := h.u7; omega
  have hu9 : u < l.was.length := by rw [h.ok.w8]; have := h.u7; omega
  have hA : All { l with was := l.was.set u true, last := l.last.set u z } own u := ⟨⟨h.ok.hl, h.ok.nd, h.ok.u7, by simp [h.ok.w8], by simp [h.ok.l8]⟩, h.nd, h.wt, h.len, h.u7⟩
  refine ⟨z, _, hn, hA, ?_, ?_⟩
  · refine .inr ⟨Nat.succ_pos _, getD_set _ _ _ _ hu9, ?_⟩
    simp only [getD_set _ _ _ _ hu8]
    rcases hr with ⟨rfl, hb⟩ | ⟨h0, hw, hc⟩
    · have hmin : ∀ x ∈ own, z ≤ x := by
        rcases hzz with ⟨h1, _⟩ | ⟨_, h2⟩
        · rw [hb z hz] at h1; cases h1
        · exact h2
      have := countP_one (p := fun _ => false) (q := fun x => decide (x ≤ z)) h.nd hz rfl (fun x hx => by
        have := hmin x hx
        simp
        omega)
      rw [this]
      simp
    · obtain ⟨y, hy, hyf⟩ := countP_lt (p := fun x => decide (x ≤ l.last.getD u 0)) (l := own) (by rw [hc]; exact hi)
      have hby : bef l u y = true := by
        unfold bef
        rw [hw]
        simp at hyf ⊢
        exact hyf
      have hzb : bef l u z = true ∧ ∀ x ∈ own, bef l u x = true → z ≤ x := by
        rcases hzz with h1 | ⟨h1, _⟩
        · exact h1
        · rw [h1 y hy] at hby; cases hby
      have hzl : ¬ z ≤ l.last.getD u 0 := by
        have := hzb.1
        unfold bef at this
        rw [hw] at this
        simp at this ⊢
        exact this
      have := countP_one (p := fun x => decide (x ≤ l.last.getD u 0)) (q := fun x => decide (x ≤ z)) h.nd hz (decide_eq_false hzl) (fun x hx => by
        by_cases hxl : x ≤ l.last.getD u 0
        · have e : x ≤ z := by omega
          simp only [hxl, e, decide_true, Bool.true_or]
        · have hbx : bef l u x = true := by
            unfold bef
            rw [hw]
            simp only [Bool.true_and, decide_eq_true_eq]
            omega
          have e := hzb.2 x hx hbx
          simp only [hxl, decide_false, Bool.false_or]
          apply decide_eq_decide.2
          omega)
      rw [this, hc]
  · intro x hx
    unfold sn
    rw [if_neg (show ¬ i + 1 = 0 by omega)]
    simp only [getD_set _ _ _ _ hu8]
    rcases hr with ⟨rfl, hb⟩ | ⟨h0, hw, hc⟩
    · rw [if_pos rfl]
      have hmin : ∀ x ∈ own, z ≤ x := by
        rcases hzz with ⟨h1, _⟩ | ⟨_, h2⟩
        · rw [hb z hz] at h1; cases h1
        · exact h2
      have := hmin x hx
      by_cases e : x = z
      · rw [if_pos (show x ≤ z by omega), if_pos e]; rfl
      · rw [if_neg (show ¬ x ≤ z by omega), if_neg e]; rfl
    · rw [if_neg (show ¬ i = 0 by omega)]
      obtain ⟨y, hy, hyf⟩ := countP_lt (p := fun x => decide (x ≤ l.last.getD u 0)) (l := own) (by rw [hc]; exact hi)
      have hby : bef l u y = true := by
        unfold bef
        rw [hw]
        simp at hyf ⊢
        exact hyf
      have hzb : bef l u z = true ∧ ∀ x ∈ own, bef l u x = true → z ≤ x := by
        rcases hzz with h1 | ⟨h1, _⟩
        · exact h1
        · rw [h1 y hy] at hby; cases hby
      have hzl : ¬ z ≤ l.last.getD u 0 := by
        have := hzb.1
        unfold bef at this
        rw [hw] at this
        simp at this ⊢
        exact this
      by_cases hxl : x ≤ l.last.getD u 0
      · rw [if_pos (show x ≤ z by omega), if_pos hxl, if_neg (show ¬ x = z by omega)]; rfl
      · have hbx : bef l u x = true := by
          unfold bef
          rw [hw]
          simp only [Bool.true_and, decide_eq_true_eq]
          omega
        have e := hzb.2 x hx hbx
        by_cases hxz : x = z
        · rw [if_pos (show x ≤ z by omega), if_neg hxl, if_pos hxz]; rfl
        · rw [if_neg (show ¬ x ≤ z by omega), if_neg hxl, if_neg hxz]; rfl
/-- When all have had their turn. -/
theorem ri_end {l : Ln} {own : List Int} {u i : Nat} (hi : i = own.length) (hr : RI l own u i) : (∀ x ∈ own, sn l u i x = 1) ∧ RI l own u 0 := by
  rcases hr with ⟨rfl, hb⟩ | ⟨h0, hw, hc⟩
  · have : own = [] := List.eq_nil_of_length_eq_zero hi.symm
    subst this
    exact ⟨fun x hx => absurd hx (by simp), .inl ⟨rfl, hb⟩⟩
  · have hall := countP_all (by rw [hc]; exact hi)
    refine ⟨fun x hx => ?_, .inl ⟨rfl, fun x hx => ?_⟩⟩
    · unfold sn
      rw [if_neg (show ¬ i = 0 by omega), if_pos (by simpa using hall x hx)]
    · unfold bef
      have := hall x hx
      simp at this ⊢
      intro _
      omega
end Pr
end Go.Proofs.YtekpjbhhbklboaaDoor
