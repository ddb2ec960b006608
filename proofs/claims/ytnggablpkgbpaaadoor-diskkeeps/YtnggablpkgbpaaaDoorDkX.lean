/-
  Files on lists, as a map has them: what is of no program.
-/
import Derived.Test.YtnggablpkgbpaaaDoorDkP
namespace Go.Proofs.YtnggablpkgbpaaaDoor.Dk

theorem has_mid (A R : List En) (e : En) (x : Tx8) (hx : key e = x) : has x (A ++ e :: R) = true := by
  unfold has ks
  simp [hx]
theorem get_mid (A R : List En) (e : En) (x : Tx8) (hx : key e = x) (h1 : ∀ p ∈ A, key p < x) (h2 : ∀ p ∈ R, x < key p) : get x (A ++ e :: R) = some e := by
  unfold get
  rw [has_mid A R e x hx, if_pos rfl, at_pl A (e :: R) x h1 (by rw [← hx] at h2 ⊢; exact not_lt_cons' R e h2)]
  simp
/-- What stands at a path. -/
theorem get_some {es : List En} (h : Ok es) {x : Tx8} {e : En} : get x es = some e ↔ e ∈ es ∧ key e = x := by
  constructor
  · intro hg
    unfold get at hg
    split at hg
    · rename_i hh
      obtain ⟨e', he, hk⟩ := has_lt x es h hh
      rw [he] at hg
      injection hg with hg
      subst hg
      exact ⟨List.mem_of_getElem? he, hk⟩
    · cases hg
  · rintro ⟨hm, rfl⟩
    have hh : has (key e) es = true := decide_eq_true (List.mem_map.2 ⟨e, hm, rfl⟩)
    obtain ⟨A, f, R, rfl, hk, h1, h2⟩ := split_yes es (key e) h hh
    obtain rfl : e = f := by
      rcases List.mem_append.1 hm with hm | hm
      · exact absurd (h1 e hm) (lt_irrefl _)
      · rcases List.mem_cons.1 hm with hm | hm
        · exact hm
        · exact absurd (h2 e hm) (lt_irrefl _)
    exact get_mid A R e _ rfl h1 h2
theorem get_none {es : List En} {x : Tx8} (hn : has x es = false) : get x es = none := by unfold get; rw [hn]; rfl
theorem get_has {es : List En} (h : Ok es) {x : Tx8} : has x es = (get x es).isSome := by
  cases hh : has x es
  · rw [get_none hh]; rfl
  · obtain ⟨e, he, hk⟩ := has_lt x es h hh
    rw [(get_some h).2 ⟨List.mem_of_getElem? he, hk⟩]; rfl
theorem nodup {es : List En} (h : Ok es) : es.Nodup := by
  refine List.Pairwise.imp ?_ (List.pairwise_map.1 (show (es.map key).Pairwise (· < ·) from h))
  intro a b hab e
  subst e
  exact lt_irrefl _ hab
theorem mem_put {es : List En} (h : Ok es) (e p : En) : p ∈ put e es ↔ p = e ∨ (p ∈ es ∧ key p ≠ key e) := by
  cases hh : has (key e) es
  · obtain ⟨A, R, rfl, h3, _, _, h1, h2⟩ := put_no es e h hh
    rw [h3]
    simp only [List.mem_append, List.mem_cons]
    constructor
    · rintro (hp | rfl | hp)
      · exact .inr ⟨.inl hp, fun e => lt_irrefl _ (e ▸ h1 p hp)⟩
      · exact .inl rfl
      · exact .inr ⟨.inr hp, fun e => lt_irrefl _ (e ▸ h2 p hp)⟩
    · rintro (rfl | ⟨hp | hp, _⟩)
      · exact .inr (.inl rfl)
      · exact .inl hp
      · exact .inr (.inr hp)
  · obtain ⟨A, f, R, rfl, hk, h3, _, _, h1, h2⟩ := put_yes es e h hh
    rw [h3]
    simp only [List.mem_append, List.mem_cons]
    constructor
    · rintro (hp | rfl | hp)
      · exact .inr ⟨.inl hp, fun e => lt_irrefl _ (e ▸ h1 p hp)⟩
      · exact .inl rfl
      · exact .inr ⟨.inr (.inr hp), fun e => lt_irrefl _ (e ▸ h2 p hp)⟩
    · rintro (rfl | ⟨hp | rfl | hp, hne⟩)
      · exact .inr (.inl rfl)
      · exact .inl hp
      · exact absurd hk hne
      · exact .inr (.inr hp)
theorem mem_rem {es : List En} (h : Ok es) {x : Tx8} (hh : has x es = true) (p : En) : p ∈ rem x es ↔ p ∈ es ∧ key p ≠ x := by
  obtain ⟨A, f, R, rfl, hk, h3, _, _, h1, h2⟩ := rem_yes es x h hh
  rw [h3]
  simp only [List.mem_append, List.mem_cons]
  constructor
  · rintro (hp | hp)
    · exact ⟨.inl hp, fun e => lt_irrefl _ (e ▸ h1 p hp)⟩
    · exact ⟨.inr (.inr hp), fun e => lt_irrefl _ (e ▸ h2 p hp)⟩
  · rintro ⟨hp | rfl | hp, hne⟩
    · exact .inl hp
    · exact absurd hk hne
    · exact .inr hp
theorem opt_ext {α : Type} {a b : Option α} (h : ∀ x, a = some x ↔ b = some x) : a = b := by
  cases a with
  | none =>
    cases b with
    | none => rfl
    | some y => exact (h y).2 rfl
  | some x => exact ((h x).1 rfl).symm
theorem get_put' {es : List En} (h : Ok es) (e : En) (x : Tx8) : get x (put e es) = if x = key e then some e else get x es := by
  apply opt_ext
  intro p
  rw [get_some (put_ok es e h), mem_put h]
  split
  · rename_i hx
    subst hx
    constructor
    · rintro ⟨rfl | ⟨_, hne⟩, hk⟩
      · rfl
      · exact absurd hk hne
    · intro hp
      injection hp with hp
      subst hp
      exact ⟨.inl rfl, rfl⟩
  · rename_i hx
    rw [get_some h]
    constructor
    · rintro ⟨rfl | ⟨hp, _⟩, hk⟩
      · exact absurd hk.symm hx
      · exact ⟨hp, hk⟩
    · rintro ⟨hp, rfl⟩
      exact ⟨.inr ⟨hp, hx⟩, rfl⟩
theorem rem_ok {es : List En} (h : Ok es) {x : Tx8} (hh : has x es = true) : Ok (rem x es) := by
  obtain ⟨_, _, _, _, _, _, h1, _⟩ := rem_yes es x h hh; exact h1
theorem get_rem' {es : List En} (h : Ok es) {y : Tx8} (hh : has y es = true) (x : Tx8) : get x (rem y es) = if x = y then none else get x es := by
  apply opt_ext
  intro p
  rw [get_some (rem_ok h hh), mem_rem h hh]
  split
  · rename_i hx
    subst hx
    constructor
    · rintro ⟨⟨_, hne⟩, hk⟩
      exact absurd hk hne
    · intro hp; cases hp
  · rename_i hx
    rw [get_some h]
    constructor
    · rintro ⟨⟨hp, _⟩, hk⟩; exact ⟨hp, hk⟩
    · rintro ⟨hp, rfl⟩; exact ⟨⟨hp, hx⟩, rfl⟩
/-- Two rows of the same files, both rising, are one. -/
theorem ok_unique : ∀ {a b : List En}, Ok a → Ok b → (∀ p, p ∈ a ↔ p ∈ b) → a = b
  | [], [], _, _, _ => rfl
  | [], q :: b, _, _, h => by have := (h q).2 (by simp); simp at this
  | p :: a, [], _, _, h => by have := (h p).1 (by simp); simp at this
  | p :: a, q :: b, h1, h2, h => by
    have hp := List.pairwise_cons.1 (show (key p :: ks a).Pairwise (· < ·) from h1)
    have hq := List.pairwise_cons.1 (show (key q :: ks b).Pairwise (· < ·) from h2)
    have ha : ∀ r ∈ a, key p < key r := fun r hr => hp.1 _ (List.mem_map.2 ⟨r, hr, rfl⟩)
    have hb : ∀ r ∈ b, key q < key r := fun r hr => hq.1 _ (List.mem_map.2 ⟨r, hr, rfl⟩)
    obtain rfl : p = q := by
      rcases List.mem_cons.1 ((h p).1 (by simp)) with e | e
      · exact e
      · rcases List.mem_cons.1 ((h q).2 (by simp)) with e' | e'
        · exact e'.symm
        · exact absurd (lt_trans (ha q e') (hb p e)) (lt_irrefl _)
    congr 1
    refine ok_unique hp.2 hq.2 (fun r => ?_)
    constructor
    · intro hr
      rcases List.mem_cons.1 ((h r).1 (by simp [hr])) with e | e
      · subst e; exact absurd (ha r hr) (lt_irrefl _)
      · exact e
    · intro hr
      rcases List.mem_cons.1 ((h r).2 (by simp [hr])) with e | e
      · subst e; exact absurd (hb r hr) (lt_irrefl _)
      · exact e
theorem lst_ok {es : List En} (h : Ok es) (pre : Tx8) : Ok (lst pre es) := by
  unfold Ok Rise ks lst at *
  exact h.sublist ((List.filter_sublist).map _)

end Go.Proofs.YtnggablpkgbpaaaDoor.Dk
namespace Go.Proofs.YtnggablpkgbpaaaDoor
end Go.Proofs.YtnggablpkgbpaaaDoor
