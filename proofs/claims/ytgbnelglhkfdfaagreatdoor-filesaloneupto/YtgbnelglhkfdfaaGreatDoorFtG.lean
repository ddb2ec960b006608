/-
  Files on lists: which texts may be paths, files by their paths, rising: what is of no program.
  Files on lists, as a map has them: what is of no program.
  The builder's methods that the code calls, at this program (its copyCheck's last arm is refused by the loader, so the shelf's laying falls): walked here.
  Ranges on lists of bytes: what is of no program.
  The document's digits and piece: by their contracts.
  The document's cut: by its contract.
  The numbers whose lines stand in a body, as the code gathers them, and the least that is free. What is of no program.
  The code's appendNumbers: by its contract.
  The code's taken: by its contract.
  strings.Builder.WriteString and String at this program, a frame by types, and the code's writeLine: by their contracts.
-/
import Derived.Test.YtgbnelglhkfdfaaGreatDoorFtD
import Derived.Test.YtgbnelglhkfdfaaGreatDoorProg
import Derived.Sort.Walk0
import Derived.Test.YtgbnelglhkfdfaaGreatDoorShelf
import Derived.Test.YtgbnelglhkfdfaaGreatDoorFtA
import Derived.Lib.Walk
import Derived.Lib.AppendStr
import Derived.Lib.UnsafeStr
import Derived.Laws.Externs
import Derived.Test.YtgbnelglhkfdfaaGreatDoorFtC
import Derived.WalkKit
import Derived.Deep.CutRange
import Derived.Test.YtgbnelglhkfdfaaGreatDoorFtB
import Derived.Laws.Cover1
import Derived.Laws.OwnMore
import Derived.Great.BuildSlice
import Derived.Deep.QuietTactic
import Derived.BigQuiet
import Derived.Maps.AppendAt
import Derived.Lib.IndexMore
import Derived.Test.YtgbnelglhkfdfaaGreatDoorShCut
namespace Go.Proofs.YtgbnelglhkfdfaaGreatDoor.Dk

abbrev Tx8 := List UInt8
/-- A part of a path. -/
def good (p : Tx8) : Bool := !(p == []) && !(p == [46]) && !(p == [46, 46])
def pOk : Tx8 → Tx8 → Bool
  | cur, [] => good cur
  | cur, c :: r => if c = 47 then good cur && pOk [] r else (decide (32 ≤ c.toNat) && decide (c.toNat ≤ 126)) && pOk (cur ++ [c]) r
/-- Whether a text may be a file's path. -/
def path : Tx8 → Bool
  | [] => false
  | c :: r => decide (r.length + 1 ≤ 255) && (c == 47 && pOk [] r)

theorem lt_irrefl (a : Tx8) : ¬ a < a := List.lt_irrefl a
theorem lt_trans {a b c : Tx8} (h1 : a < b) (h2 : b < c) : a < c := List.lt_trans h1 h2
theorem lt_tri (a b : Tx8) : a < b ∨ a = b ∨ b < a := by
  by_cases h1 : a < b
  · exact .inl h1
  · by_cases h2 : b < a
    · exact .inr (.inr h2)
    · exact .inr (.inl (List.le_antisymm (List.not_lt.1 h2) (List.not_lt.1 h1)))
theorem lt_asymm {a b : Tx8} (h1 : a < b) : ¬ b < a := fun h2 => lt_irrefl a (lt_trans h1 h2)
theorem not_lt_lt {a b c : Tx8} (h1 : ¬ b < a) (h2 : b < c) : a < c := by
  rcases lt_tri a b with h | h | h
  · exact lt_trans h h2
  · rw [h]; exact h2
  · exact absurd h h1

/-- Where a key stands in a row, or would stand. -/
def pl (x : Tx8) : List Tx8 → Nat
  | [] => 0
  | y :: r => if y < x then pl x r + 1 else 0
theorem pl_le (x : Tx8) (l : List Tx8) : pl x l ≤ l.length := by
  induction l with
  | nil => simp [pl]
  | cons y r ih => unfold pl; split <;> simp <;> omega
theorem pl_app (x : Tx8) (A R : List Tx8) (h1 : ∀ a ∈ A, a < x) (h2 : ∀ a ∈ R, ¬ a < x) : pl x (A ++ R) = A.length := by
  induction A with
  | nil =>
    cases R with
    | nil => rfl
    | cons y r => simp only [List.nil_append, pl, if_neg (h2 y (by simp)), List.length_nil]
  | cons y r ih =>
    have := ih (fun a ha => h1 a (by simp [ha]))
    simp only [List.cons_append, pl, if_pos (h1 y (by simp)), this, List.length_cons]
theorem pl_below (x : Tx8) (l : List Tx8) : ∀ t y, t < pl x l → l[t]? = some y → y < x := by
  induction l with
  | nil => intro t y h; simp [pl] at h
  | cons z r ih =>
    intro t y h hy
    unfold pl at h
    split at h
    · cases t with
      | zero => simp at hy; subst hy; assumption
      | succ t => exact ih t y (by omega) (by simpa using hy)
    · omega
theorem pl_at (x : Tx8) (l : List Tx8) : ∀ y, l[pl x l]? = some y → ¬ y < x := by
  induction l with
  | nil => intro y h; simp at h
  | cons z r ih =>
    intro y h
    unfold pl at h
    split at h
    · exact ih y (by simpa using h)
    · simp at h; subst h; assumption
def Rise (l : List Tx8) : Prop := l.Pairwise (· < ·)
theorem mem_iff (x : Tx8) (l : List Tx8) (h : Rise l) : x ∈ l ↔ l[pl x l]? = some x := by
  constructor
  · intro hm
    induction l with
    | nil => simp at hm
    | cons y r ih =>
      have hp := List.pairwise_cons.1 h
      by_cases e : x = y
      · subst e; simp [pl, lt_irrefl]
      · have hm' : x ∈ r := by simpa [e] using hm
        have := hp.1 x hm'
        simp only [pl, if_pos this, List.getElem?_cons_succ]
        exact ih hp.2 hm'
  · intro h; exact List.mem_of_getElem? h

/-- A file and its path. -/
structure En where
  path : ByteArray
  body : ByteArray
  time : Int
  seq : Int
def key (e : En) : Tx8 := e.path.data.toList
def ks (es : List En) : List Tx8 := es.map key
def Ok (es : List En) : Prop := Rise (ks es)
def at' (x : Tx8) (es : List En) : Nat := pl x (ks es)
def has (x : Tx8) (es : List En) : Bool := decide (x ∈ ks es)
def put (e : En) (es : List En) : List En := es.take (at' (key e) es) ++ e :: es.drop (if has (key e) es then at' (key e) es + 1 else at' (key e) es)
def rem (x : Tx8) (es : List En) : List En := es.take (at' x es) ++ es.drop (at' x es + 1)
def get (x : Tx8) (es : List En) : Option En := if has x es then es[at' x es]? else none
def lst (pre : Tx8) (es : List En) : List En := es.filter fun e => pre.isPrefixOf (key e)
theorem ks_len (es : List En) : (ks es).length = es.length := by simp [ks]
theorem at_le (x : Tx8) (es : List En) : at' x es ≤ es.length := by unfold at'; rw [← ks_len]; exact pl_le _ _
theorem has_lt (x : Tx8) (es : List En) (h : Ok es) (hh : has x es = true) : ∃ e, es[at' x es]? = some e ∧ key e = x := by
  have := (mem_iff x _ h).1 (of_decide_eq_true hh)
  unfold ks at this
  rw [List.getElem?_map] at this
  cases he : es[at' x es]? with
  | none => unfold at' ks at he; rw [he] at this; simp at this
  | some e => unfold at' ks at he; rw [he] at this; simp at this; exact ⟨e, rfl, this⟩
theorem not_lt_cons' (R : List En) (e : En) (h2 : ∀ p ∈ R, key e < key p) : ∀ p ∈ e :: R, ¬ key p < key e := by
  intro p hp
  rcases List.mem_cons.1 hp with rfl | hp
  · exact lt_irrefl _
  · exact lt_asymm (h2 p hp)
theorem at_pl (A R : List En) (x : Tx8) (h1 : ∀ p ∈ A, key p < x) (h2 : ∀ p ∈ R, ¬ key p < x) : at' x (A ++ R) = A.length := by
  unfold at' ks
  rw [List.map_append, pl_app]
  · simp
  · intro a ha; obtain ⟨p, hp, rfl⟩ := List.mem_map.1 ha; exact h1 p hp
  · intro a ha; obtain ⟨p, hp, rfl⟩ := List.mem_map.1 ha; exact h2 p hp
theorem split_no (es : List En) (x : Tx8) (h : Ok es) (hn : has x es = false) : ∃ A R, es = A ++ R ∧ (∀ p ∈ A, key p < x) ∧ ∀ p ∈ R, x < key p := by
  have hn2 : x ∉ ks es := of_decide_eq_false hn
  clear hn
  induction es with
  | nil => exact ⟨[], [], rfl, by simp, by simp⟩
  | cons p r ih =>
    have hp := List.pairwise_cons.1 (show (key p :: ks r).Pairwise (· < ·) from h)
    have hn3 : x ≠ key p ∧ x ∉ ks r := by
      refine ⟨fun e => hn2 ?_, fun e => hn2 ?_⟩
      · rw [e]; simp [ks]
      · simp only [ks, List.map_cons, List.mem_cons]; exact .inr e
    by_cases hx : key p < x
    · obtain ⟨A, R, rfl, h1, h2⟩ := ih hp.2 hn3.2
      exact ⟨p :: A, R, rfl, fun q hq => by rcases List.mem_cons.1 hq with rfl | hq; exact hx; exact h1 q hq, h2⟩
    · refine ⟨[], p :: r, rfl, by simp, ?_⟩
      have h0 : x < key p := by
        rcases lt_tri x (key p) with h | h | h
        · exact h
        · exact absurd h hn3.1
        · exact absurd h hx
      intro q hq
      rcases List.mem_cons.1 hq with rfl | hq
      · exact h0
      · exact lt_trans h0 (hp.1 (key q) (List.mem_map.2 ⟨q, hq, rfl⟩))
theorem split_yes (es : List En) (x : Tx8) (h : Ok es) (hm : has x es = true) : ∃ A e R, es = A ++ e :: R ∧ key e = x ∧ (∀ p ∈ A, key p < x) ∧ ∀ p ∈ R, x < key p := by
  obtain ⟨e, he, rfl⟩ := List.mem_map.1 (of_decide_eq_true hm)
  obtain ⟨A, R, rfl⟩ := List.append_of_mem he
  refine ⟨A, e, R, rfl, rfl, ?_, ?_⟩
  · intro p hp
    unfold Ok Rise ks at h
    rw [List.map_append, List.pairwise_append] at h
    exact h.2.2 (key p) (List.mem_map.2 ⟨p, hp, rfl⟩) (key e) (by simp)
  · intro p hp
    unfold Ok Rise ks at h
    rw [List.map_append, List.pairwise_append] at h
    exact (List.pairwise_cons.1 h.2.1).1 (key p) (List.mem_map.2 ⟨p, hp, rfl⟩)
theorem ok_join (A R : List En) (e : En) (h : Ok (A ++ R)) (h1 : ∀ p ∈ A, key p < key e) (h2 : ∀ p ∈ R, key e < key p) : Ok (A ++ e :: R) := by
  unfold Ok Rise ks at *
  rw [List.map_append, List.pairwise_append] at *
  refine ⟨h.1, ?_, ?_⟩
  · refine List.pairwise_cons.2 ⟨fun y hy => ?_, h.2.1⟩
    obtain ⟨p, hp, rfl⟩ := List.mem_map.1 hy
    exact h2 p hp
  · intro a ha b hb
    obtain ⟨p, hp, rfl⟩ := List.mem_map.1 ha
    rcases List.mem_cons.1 (show b ∈ key e :: R.map key from hb) with rfl | hb
    · exact h1 p hp
    · exact h.2.2 _ ha _ hb
theorem ok_cut (A R : List En) (e : En) (h : Ok (A ++ e :: R)) : Ok (A ++ R) := by
  unfold Ok Rise ks at *
  refine h.sublist ?_
  rw [List.map_append, List.map_append]
  exact List.Sublist.append_left (List.sublist_cons_self _ _) _
/-- What Put makes, in parts. -/
theorem put_no (es : List En) (e : En) (h : Ok es) (hn : has (key e) es = false) : ∃ A R, es = A ++ R ∧ put e es = A ++ e :: R ∧ Ok (put e es) ∧ (put e es).length = es.length + 1 ∧ (∀ p ∈ A, key p < key e) ∧ ∀ p ∈ R, key e < key p := by
  obtain ⟨A, R, rfl, h1, h2⟩ := split_no es (key e) h hn
  have e1 : put e (A ++ R) = A ++ e :: R := by
    unfold put
    rw [hn, at_pl A R (key e) h1 (fun p hp => lt_asymm (h2 p hp))]
    simp
  exact ⟨A, R, rfl, e1, by rw [e1]; exact ok_join A R e h h1 h2, by rw [e1]; simp; omega, h1, h2⟩
theorem put_yes (es : List En) (e : En) (h : Ok es) (hm : has (key e) es = true) : ∃ A f R, es = A ++ f :: R ∧ key f = key e ∧ put e es = A ++ e :: R ∧ Ok (put e es) ∧ (put e es).length = es.length ∧ (∀ p ∈ A, key p < key e) ∧ ∀ p ∈ R, key e < key p := by
  obtain ⟨A, f, R, rfl, hk, h1, h2⟩ := split_yes es (key e) h hm
  have e1 : put e (A ++ f :: R) = A ++ e :: R := by
    unfold put
    rw [hm, at_pl A (f :: R) (key e) h1 (by rw [← hk] at *; exact not_lt_cons' R f h2)]
    simp
  exact ⟨A, f, R, rfl, hk, e1, by rw [e1]; exact ok_join A R e (ok_cut A R f h) h1 h2, by rw [e1]; simp, h1, h2⟩
theorem rem_yes (es : List En) (x : Tx8) (h : Ok es) (hm : has x es = true) : ∃ A f R, es = A ++ f :: R ∧ key f = x ∧ rem x es = A ++ R ∧ Ok (rem x es) ∧ (rem x es).length + 1 = es.length ∧ (∀ p ∈ A, key p < x) ∧ ∀ p ∈ R, x < key p := by
  obtain ⟨A, f, R, rfl, hk, h1, h2⟩ := split_yes es x h hm
  have e1 : rem x (A ++ f :: R) = A ++ R := by
    unfold rem
    rw [at_pl A (f :: R) x h1 (by rw [← hk] at *; exact not_lt_cons' R f h2)]
    simp
  exact ⟨A, f, R, rfl, hk, e1, by rw [e1]; exact ok_cut A R f h, by rw [e1]; simp; omega, h1, h2⟩
theorem put_ok (es : List En) (e : En) (h : Ok es) : Ok (put e es) := by
  cases hh : has (key e) es
  · obtain ⟨_, _, _, _, h1, _⟩ := put_no es e h hh; exact h1
  · obtain ⟨_, _, _, _, _, _, h1, _⟩ := put_yes es e h hh; exact h1

end Go.Proofs.YtgbnelglhkfdfaaGreatDoor.Dk
namespace Go.Proofs.YtgbnelglhkfdfaaGreatDoor
end Go.Proofs.YtgbnelglhkfdfaaGreatDoor

namespace Go.Proofs.YtgbnelglhkfdfaaGreatDoor.Dk

theorem has_mid (A R : List En) (e : En) (x : Tx8) (hx : key e = x) : has x (A ++ e :: R) = true := by
  unfold has ks
  simp [hx]
theorem get_mid (A R : List En) (e : En) (x : Tx8) (hx : key e = x) (h1 : ∀ p ∈ A, key p < x) (h2 : ∀ p ∈ R, x < key p) : get x (A ++ e :: R) = some e := by
  unfold get
  rw [has_mid A R e x hx, if_pos rfl, at_pl A (e :: R) x h1 (by rw [← hx] at h2 ⊢; exact not_lt_cons' R e h2)]
  simp
/-- What stands at a path. -/
theorem get_some {es : List En} (h : Ok es) {x : Tx8} {e : En} : get x es = some e ↔ e ∈ es ∧ key e = x := by
  constructor
  · intro hg
    unfold get at hg
    split at hg
    · rename_i hh
      obtain ⟨e', he, hk⟩ := has_lt x es h hh
      rw [he] at hg
      injection hg with hg
      subst hg
      exact ⟨List.mem_of_getElem? he, hk⟩
    · cases hg
  · rintro ⟨hm, rfl⟩
    have hh : has (key e) es = true := decide_eq_true (List.mem_map.2 ⟨e, hm, rfl⟩)
    obtain ⟨A, f, R, rfl, hk, h1, h2⟩ := split_yes es (key e) h hh
    obtain rfl : e = f := by
      rcases List.mem_append.1 hm with hm | hm
      · exact absurd (h1 e hm) (lt_irrefl _)
      · rcases List.mem_cons.1 hm with hm | hm
        · exact hm
        · exact absurd (h2 e hm) (lt_irrefl _)
    exact get_mid A R e _ rfl h1 h2
theorem get_none {es : List En} {x : Tx8} (hn : has x es = false) : get x es = none := by unfold get; rw [hn]; rfl
theorem get_has {es : List En} (h : Ok es) {x : Tx8} : has x es = (get x es).isSome := by
  cases hh : has x es
  · rw [get_none hh]; rfl
  · obtain ⟨e, he, hk⟩ := has_lt x es h hh
    rw [(get_some h).2 ⟨List.mem_of_getElem? he, hk⟩]; rfl
theorem nodup {es : List En} (h : Ok es) : es.Nodup := by
  refine List.Pairwise.imp ?_ (List.pairwise_map.1 (show (es.map key).Pairwise (· < ·) from h))
  intro a b hab e
  subst e
  exact lt_irrefl _ hab
theorem mem_put {es : List En} (h : Ok es) (e p : En) : p ∈ put e es ↔ p = e ∨ (p ∈ es ∧ key p ≠ key e) := by
  cases hh : has (key e) es
  · obtain ⟨A, R, rfl, h3, _, _, h1, h2⟩ := put_no es e h hh
    rw [h3]
    simp only [List.mem_append, List.mem_cons]
    constructor
    · rintro (hp | rfl | hp)
      · exact .inr ⟨.inl hp, fun e => lt_irrefl _ (e ▸ h1 p hp)⟩
      · exact .inl rfl
      · exact .inr ⟨.inr hp, fun e => lt_irrefl _ (e ▸ h2 p hp)⟩
    · rintro (rfl | ⟨hp | hp, _⟩)
      · exact .inr (.inl rfl)
      · exact .inl hp
      · exact .inr (.inr hp)
  · obtain ⟨A, f, R, rfl, hk, h3, _, _, h1, h2⟩ := put_yes es e h hh
    rw [h3]
    simp only [List.mem_append, List.mem_cons]
    constructor
    · rintro (hp | rfl | hp)
      · exact .inr ⟨.inl hp, fun e => lt_irrefl _ (e ▸ h1 p hp)⟩
      · exact .inl rfl
      · exact .inr ⟨.inr (.inr hp), fun e => lt_irrefl _ (e ▸ h2 p hp)⟩
    · rintro (rfl | ⟨hp | rfl | hp, hne⟩)
      · exact .inr (.inl rfl)
      · exact .inl hp
      · exact absurd hk hne
      · exact .inr (.inr hp)
theorem mem_rem {es : List En} (h : Ok es) {x : Tx8} (hh : has x es = true) (p : En) : p ∈ rem x es ↔ p ∈ es ∧ key p ≠ x := by
  obtain ⟨A, f, R, rfl, hk, h3, _, _, h1, h2⟩ := rem_yes es x h hh
  rw [h3]
  simp only [List.mem_append, List.mem_cons]
  constructor
  · rintro (hp | hp)
    · exact ⟨.inl hp, fun e => lt_irrefl _ (e ▸ h1 p hp)⟩
    · exact ⟨.inr (.inr hp), fun e => lt_irrefl _ (e ▸ h2 p hp)⟩
  · rintro ⟨hp | rfl | hp, hne⟩
    · exact .inl hp
    · exact absurd hk hne
    · exact .inr hp
theorem opt_ext {α : Type} {a b : Option α} (h : ∀ x, a = some x ↔ b = some x) : a = b := by
  cases a with
  | none =>
    cases b with
    | none => rfl
    | some y => exact (h y).2 rfl
  | some x => exact ((h x).1 rfl).symm
theorem get_put' {es : List En} (h : Ok es) (e : En) (x : Tx8) : get x (put e es) = if x = key e then some e else get x es := by
  apply opt_ext
  intro p
  rw [get_some (put_ok es e h), mem_put h]
  split
  · rename_i hx
    subst hx
    constructor
    · rintro ⟨rfl | ⟨_, hne⟩, hk⟩
      · rfl
      · exact absurd hk hne
    · intro hp
      injection hp with hp
      subst hp
      exact ⟨.inl rfl, rfl⟩
  · rename_i hx
    rw [get_some h]
    constructor
    · rintro ⟨rfl | ⟨hp, _⟩, hk⟩
      · exact absurd hk.symm hx
      · exact ⟨hp, hk⟩
    · rintro ⟨hp, rfl⟩
      exact ⟨.inr ⟨hp, hx⟩, rfl⟩
theorem rem_ok {es : List En} (h : Ok es) {x : Tx8} (hh : has x es = true) : Ok (rem x es) := by
  obtain ⟨_, _, _, _, _, _, h1, _⟩ := rem_yes es x h hh; exact h1
theorem get_rem' {es : List En} (h : Ok es) {y : Tx8} (hh : has y es = true) (x : Tx8) : get x (rem y es) = if x = y then none else get x es := by
  apply opt_ext
  intro p
  rw [get_some (rem_ok h hh), mem_rem h hh]
  split
  · rename_i hx
    subst hx
    constructor
    · rintro ⟨⟨_, hne⟩, hk⟩
      exact absurd hk hne
    · intro hp; cases hp
  · rename_i hx
    rw [get_some h]
    constructor
    · rintro ⟨⟨hp, _⟩, hk⟩; exact ⟨hp, hk⟩
    · rintro ⟨hp, rfl⟩; exact ⟨⟨hp, hx⟩, rfl⟩
/-- Two rows of the same files, both rising, are one. -/
theorem ok_unique : ∀ {a b : List En}, Ok a → Ok b → (∀ p, p ∈ a ↔ p ∈ b) → a = b
  | [], [], _, _, _ => rfl
  | [], q :: b, _, _, h => by have := (h q).2 (by simp); simp at this
  | p :: a, [], _, _, h => by have := (h p).1 (by simp); simp at this
  | p :: a, q :: b, h1, h2, h => by
    have hp := List.pairwise_cons.1 (show (key p :: ks a).Pairwise (· < ·) from h1)
    have hq := List.pairwise_cons.1 (show (key q :: ks b).Pairwise (· < ·) from h2)
    have ha : ∀ r ∈ a, key p < key r := fun r hr => hp.1 _ (List.mem_map.2 ⟨r, hr, rfl⟩)
    have hb : ∀ r ∈ b, key q < key r := fun r hr => hq.1 _ (List.mem_map.2 ⟨r, hr, rfl⟩)
    obtain rfl : p = q := by
      rcases List.mem_cons.1 ((h p).1 (by simp)) with e | e
      · exact e
      · rcases List.mem_cons.1 ((h q).2 (by simp)) with e' | e'
        · exact e'.symm
        · exact absurd (lt_trans (ha q e') (hb p e)) (lt_irrefl _)
    congr 1
    refine ok_unique hp.2 hq.2 (fun r => ?_)
    constructor
    · intro hr
      rcases List.mem_cons.1 ((h r).1 (by simp [hr])) with e | e
      · subst e; exact absurd (ha r hr) (lt_irrefl _)
      · exact e
    · intro hr
      rcases List.mem_cons.1 ((h r).2 (by simp [hr])) with e | e
      · subst e; exact absurd (hb r hr) (lt_irrefl _)
      · exact e
theorem lst_ok {es : List En} (h : Ok es) (pre : Tx8) : Ok (lst pre es) := by
  unfold Ok Rise ks lst at *
  exact h.sublist ((List.filter_sublist).map _)

end Go.Proofs.YtgbnelglhkfdfaaGreatDoor.Dk
namespace Go.Proofs.YtgbnelglhkfdfaaGreatDoor
end Go.Proofs.YtgbnelglhkfdfaaGreatDoor

namespace Go.Proofs.YtgbnelglhkfdfaaGreatDoor
open Go.RowKit

theorem infoByte : (Tryz.prog.info? 5).map (fun i => (i.zero, i.size, i.bytes)) = some (some (.int .u8 0), 1, 1) := by kernel_rfl
theorem sizeBuilder : (Tryz.prog.info? 106).map (·.size) = some 2 := by kernel_rfl
theorem liesBuilder : liesAt Tryz.prog Tryz.prog.depth 106 (2 / Tryz.prog.cellsOf 106) 0 106 1 = true := by kernel_rfl
/-- The builder in block b holds these bytes. -/
def Bld (w : World) (B b : Nat) (l : List UInt8) : Prop := Lib.IsBuilder 106 5 B b (Lib.byteCells l) w

set_option maxHeartbeats 1000000 in
set_option maxRecDepth 100000 in
theorem copyCheck_used (b : Nat) (w : World) (h0 : w.cell? ⟨b, 0, none⟩ = some (.pointer (some ⟨b, 0, none⟩))) :
    Calls Tryz.prog 95 #[.pointer (some ⟨b, 0, none⟩)] w fun e w' => e = .returned (.tuple #[]) ∧ w' = w := by
  obtain ⟨j, hj, _⟩ := Option.map_eq_some_iff.1 sizeBuilder
  go_enter Tryz.func95, Tryz.ntmps95
  go_wp2
  rw [Lib.run_neq_ptr_same w _ Tryz.underlying104 hj]
  go_wp2
  go_end0
  exact ⟨rfl, rfl⟩

set_option maxHeartbeats 1000000 in
set_option maxRecDepth 100000 in
theorem copyCheck_fresh (b : Nat) (w : World) (h0 : w.cell? ⟨b, 0, none⟩ = some (.pointer none)) (hsh : w.shape? b = some (106, 2)) (hfz : w.frozen? ⟨b, 0, none⟩ = false) :
    Calls Tryz.prog 95 #[.pointer (some ⟨b, 0, none⟩)] w fun e w' => e = .returned (.tuple #[]) ∧ w' = w.setCell ⟨b, 0, none⟩ (.pointer (some ⟨b, 0, none⟩)) := by
  obtain ⟨j, hj, hjs⟩ := Option.map_eq_some_iff.1 sizeBuilder
  go_enter Tryz.func95, Tryz.ntmps95
  go_wp2
  rw [Lib.run_to_unsafe w ⟨b, 0, none⟩ Tryz.underlying104 Tryz.underlying174 hj (by rw [hjs]; decide) hsh (Nat.zero_lt_succ 1)]
  simp only [Result.andThen]
  rw [Oper.upon_value]
  go_wp2
  rw [run_callFunc_extern Tryz.func136 (by kernel_rfl) (by kernel_rfl) (by kernel_rfl) (e := Extern.AbiNoEscape.same) (by kernel_rfl)]
  rw [Lib.run_noEscape]
  simp only [Result.andThen]
  rw [Oper.upon_value]
  go_wp2
  rw [Lib.run_from_unsafe w ⟨b, 0, none⟩ Tryz.underlying174 Tryz.underlying104 hj hsh liesBuilder]
  simp only [Result.andThen]
  rw [Oper.upon_value]
  go_wp2
  go_end0
  exact ⟨rfl, rfl⟩

theorem copyCheck_any (B b : Nat) (bs : List Value) (w : World) (h : Lib.IsBuilder 106 5 B b bs w) :
    Calls Tryz.prog 95 #[.pointer (some ⟨b, 0, none⟩)] w fun e w' => e = .returned (.tuple #[]) ∧ (Lib.BuilderAt 106 5 B b (.pointer (some ⟨b, 0, none⟩)) bs w' ∧ Below B w w') := by
  rcases h with h | h
  · refine (copyCheck_fresh b w h.cell0 h.shape h.frozen0).mono ?_
    rintro e w' ⟨rfl, rfl⟩
    exact ⟨rfl, h.used _, (Below.refl B w).setCell (p := ⟨b, 0, none⟩) h.1 _⟩
  · refine (copyCheck_used b w h.cell0).mono ?_
    rintro e w' ⟨rfl, rfl⟩
    exact ⟨rfl, h, Below.refl B _⟩

set_option maxHeartbeats 2000000 in
set_option maxRecDepth 100000 in
theorem writeByte_cells (B b : Nat) (bs : List Value) (c : Int) (w : World) (h : Lib.IsBuilder 106 5 B b bs w) (hlen : bs.length + 1 ≤ 140737488355328) (hBw : B ≤ w.heap.size) :
    Calls Tryz.prog 68 #[.pointer (some ⟨b, 0, none⟩), .int .u8 c] w fun e w' => e = .returned .nilIface ∧ (Lib.IsBuilder 106 5 B b (bs ++ [.int .u8 c]) w' ∧ Below B w w') := by
  obtain ⟨i0, hi, hz0, hz1, hz2⟩ := info_parts infoByte
  go_enter Tryz.func68, Tryz.ntmps68
  go_wp2_with fail
  refine (copyCheck_any B b bs _ h).mono ?_
  rintro e w1 ⟨rfl, h1, hb1⟩
  obtain ⟨hB, v, hbk, hown, hne⟩ := h1
  have c0 : w1.cell? ⟨b, 0, none⟩ = some (.pointer (some ⟨b, 0, none⟩)) := by rw [Lib.cell_of_heap hbk]; rfl
  have c1 : w1.cell? ⟨b, 1, none⟩ = some v := by rw [Lib.cell_of_heap hbk]; rfl
  go_wp2_with (at_builtin; refine wpList_append_own _ rfl _ _ 73 rfl B 5 i0 (.int .u8 0) 1 1 Tryz.underlying73 hi hz0 hz1 hz2 rfl (by decide) _ _ _ rfl (hown.alloc _) ⟨w1.heap.size, 0, none⟩ 1 1 [.int .u8 c] rfl rfl ?c1 ?c2 ?c3 ?c4 ?c5 ?_)
  case c1 =>
    intro j u hj
    match j, hj with
    | 0, hj => simp at hj; subst hj; simp [Addr.add]
  case c2 => intro u hu; simp at hu; subst hu; rfl
  case c3 => unfold maxLen; omega
  case c4 => omega
  case c5 => have := hb1.size; simp; omega
  intro v' w2 hown' hgrow _
  have hlt : b < w1.heap.size := (Array.getElem?_eq_some_iff.1 hbk).1
  have hb2 : w2.heap[b]? = some (.cells #[.pointer (some ⟨b, 0, none⟩), v] 106 (0, 0)) := by
    rw [hgrow.block b (by simp; omega) (fun e => hne e.symm), Lib.alloc_old w1 _ b hlt]
    exact hbk
  have d1 : w2.cell? ⟨b, 1, none⟩ = some v := by rw [Lib.cell_of_heap hb2]; rfl
  have f1 : w2.frozen? ⟨b, 1, none⟩ = false := Lib.frozen_of_heap hb2 1
  obtain ⟨g, cap, rfl⟩ : ∃ g cap, v' = .slice (some ⟨g, 0, none⟩) (bs.length + 1) cap := by
    rcases hown'.2 with ⟨_, h0⟩ | ⟨g, cap, cur, hv, _⟩
    · omega
    · exact ⟨g, cap, hv⟩
  go_wp2
  go_ret
  refine ⟨rfl, ?_, ?_⟩
  · exact .inr (Lib.BuilderAt.put (T := 106) (e := 5) hB hb2 (bs' := bs ++ [.int .u8 c]) (by simpa using hown') (by decide))
  · exact ((hb1.alloc (by have := hb1.size; omega) _).grown hgrow (by have := hb1.size; simp; omega) (fun k hk => (hown.lt k hk).1)).setCell (p := ⟨b, 1, none⟩) hB _

theorem writeByte_any (B b : Nat) (l : List UInt8) (x : UInt8) (c : Int) (hc : c = (x.toNat : Int)) (w : World) (h : Bld w B b l) (hlen : l.length + 1 ≤ 140737488355328) (hBw : B ≤ w.heap.size) :
    Calls Tryz.prog 68 #[.pointer (some ⟨b, 0, none⟩), .int .u8 c] w fun e w' => e = .returned .nilIface ∧ (Bld w' B b (l ++ [x]) ∧ Below B w w') := by
  subst hc
  refine (writeByte_cells B b (Lib.byteCells l) _ w h (by rw [Lib.byteCells_length]; exact hlen) hBw).mono ?_
  rintro e w' ⟨rfl, h1, h2⟩
  refine ⟨rfl, ?_, h2⟩
  have : Lib.byteCells (l ++ [x]) = Lib.byteCells l ++ [.int .u8 (x.toNat : Int)] := by simp [Lib.byteCells]
  unfold Bld
  rw [this]
  exact h1

theorem bld_keep {w w' : World} {B b : Nat} {l : List UInt8} (h : Bld w B b l) (hb : Below w.heap.size w w') : Bld w' B b l := by
  have key : ∀ p, Lib.BuilderAt 106 5 B b p (Lib.byteCells l) w → Lib.BuilderAt 106 5 B b p (Lib.byteCells l) w' := by
    intro p h
    have hlt := h.lt
    obtain ⟨hB, v, hbk, hown, hne⟩ := h
    exact ⟨hB, v, by rw [hb.block b hlt]; exact hbk, hown.kept (row := none) ⟨hb.os, hb.tape, hb.output, hb.size, fun k hk _ => hb.block k hk⟩ (by cases hv : v.ownBlock <;> simp), hne⟩
  rcases h with h | h
  · exact .inl (key _ h)
  · exact .inr (key _ h)
theorem bld_drew {w : World} {B b : Nat} {l : List UInt8} (h : Bld w B b l) : Bld w.drew B b l := h
theorem bld_lt {w : World} {B b : Nat} {l : List UInt8} (h : Bld w B b l) : b < w.heap.size := by rcases h with h | h <;> exact h.lt
theorem bld_ge {w : World} {B b : Nat} {l : List UInt8} (h : Bld w B b l) : B ≤ b := by rcases h with h | h <;> exact h.1
theorem bld_new (w : World) (b : Nat) (w' : World) (hb : w.heap.size ≤ b) (h : Ar w' b 106 #[.pointer none, .slice none 0 0]) : Bld w' w.heap.size b [] :=
  .inl ⟨hb, .slice none 0 0, h, World.ownsRow_nil _ _ _ _, by simp [Value.ownBlock]⟩

end Go.Proofs.YtgbnelglhkfdfaaGreatDoor

namespace Go.Proofs.YtgbnelglhkfdfaaGreatDoor
namespace Rg
abbrev T8 := List UInt8

/-- A number of 1 to 15 digits, and whether it is one. -/
def digN (l : T8) : Int := if 1 ≤ l.length ∧ l.length ≤ 15 then (Tx.num 10 l).1 else 0
def digB (l : T8) : Bool := decide (1 ≤ l.length) && decide (l.length ≤ 15) && ((Tx.num 10 l).2 == 0)
/-- How many bytes stand ahead of the first '-'. -/
def ahead (l : T8) : Nat := (l.takeWhile (fun c => !(c == 45))).length
def hasD (l : T8) : Bool := l.contains 45
/-- A range: from, to. -/
structure Rn where
  a : Int
  b : Int
/-- What a piece is of a body: the range, whether it is within, whether it is a piece. -/
def pc (l : T8) (n : Int) : Rn × Bool × Bool :=
  if hasD l then
    let d := ahead l
    let x := l.take d
    let y := l.drop (d + 1)
    if d = 0 then (⟨max (n - digN y) 0, n - 1⟩, decide (0 < digN y) && decide (0 < n), digB y)
    else if d + 1 = l.length then (⟨digN x, n - 1⟩, decide (digN x < n), digB x)
    else (⟨digN x, min (digN y) (n - 1)⟩, decide (digN x < n), digB x && digB y && decide (digN x ≤ digN y))
  else (⟨0, 0⟩, false, false)
/-- A text cut at its commas, what stands ahead of the next one in hand. -/
def cutA : T8 → T8 → List T8
  | cur, [] => [cur]
  | cur, c :: r => if c = 44 then cur :: cutA [] r else cutA (cur ++ [c]) r
def pcs (l : T8) : List T8 := ((cutA [] l).map Tx.trim).filter (fun p => !(p == []))
def head6 : T8 := [98, 121, 116, 101, 115, 61]
/-- What Parse answers. -/
def outs (ps : List T8) (n : Int) : List Rn := (ps.filter (fun p => (pc p n).2.1)).map (fun p => (pc p n).1)
def err (l : T8) (n : Int) : Int :=
  if n < 0 then 1 else if l.take 6 == head6 then
    (if (pcs (l.drop 6)).isEmpty || !(pcs (l.drop 6)).all (fun p => (pc p n).2.2) then 160
     else if 8 < (pcs (l.drop 6)).length then 4 else if (outs (pcs (l.drop 6)) n).isEmpty then 161 else 0)
  else 160
def res (l : T8) (n : Int) : List Rn := if err l n == 0 then outs (pcs (l.drop 6)) n else []
def sBytes : T8 := [98, 121, 116, 101, 115, 32]
def told (r : Rn) (n : Int) : T8 := sBytes ++ (Lib.itoa r.a ++ 45 :: (Lib.itoa r.b ++ 47 :: Lib.itoa n))
def unmet (n : Int) : T8 := [98, 121, 116, 101, 115, 32, 42, 47] ++ Lib.itoa n
/-- Whether a text stands in another one. -/
def stands (s b : T8) : Bool := (List.range (b.length + 1 - s.length)).any fun i => (b.drop i).take s.length == s
def sPart : T8 := [112, 97, 114, 116]
def line (n : Nat) : T8 := sPart ++ Lib.itoa (n : Int)
theorem ahead_at {l : T8} {k : Nat} (h : k < ahead l) : ∃ c, l[k]? = some c ∧ (c == 45) = false := by
  unfold ahead at h
  induction l generalizing k with
  | nil => simp at h
  | cons x r ih =>
    rw [List.takeWhile_cons] at h
    cases hx : (x == 45)
    · rw [hx] at h
      cases k with
      | zero => exact ⟨x, rfl, hx⟩
      | succ k => simpa using ih (by simpa using h)
    · rw [hx] at h; simp at h
theorem ahead_stop {l : T8} (h : hasD l = true) : l[ahead l]? = some 45 := by
  unfold ahead hasD at *
  induction l with
  | nil => simp at h
  | cons x r ih =>
    rw [List.takeWhile_cons]
    cases hx : (x == 45)
    · rw [List.contains_cons, Bool.or_eq_true] at h
      rcases h with h | h
      · rw [Bool.beq_comm] at h; rw [h] at hx; cases hx
      · simpa using ih h
    · simp; exact eq_of_beq hx
theorem ahead_lt {l : T8} (h : hasD l = true) : ahead l < l.length := by
  have := ahead_stop h
  rcases Nat.lt_or_ge (ahead l) l.length with h1 | h1
  · exact h1
  · rw [List.getElem?_eq_none h1] at this; cases this
theorem ahead_all {l : T8} (h : hasD l = false) : ∀ (k : Nat) (c : UInt8), l[k]? = some c → (c == 45) = false := by
  intro k c hc
  have := List.mem_of_getElem? hc
  unfold hasD at h
  cases hq : (c == 45)
  · rfl
  · rw [eq_of_beq hq] at this
    have := List.contains_iff_mem.2 this
    rw [h] at this; cases this
theorem num_bd (l : T8) : 0 ≤ (Tx.num 10 l).1 ∧ (Tx.num 10 l).1 ≤ 9223372036854775807 := by
  unfold Tx.num
  split
  · exact ⟨by decide, by decide⟩
  · split
    · exact ⟨by decide, by decide⟩
    · rename_i h
      have := Tx.numv_nonneg 10 (by decide) l
      rw [Tx.top_eq] at h
      exact ⟨this, by simp only; omega⟩
theorem digN_bd (l : T8) : 0 ≤ digN l ∧ digN l ≤ 9223372036854775807 := by
  unfold digN
  split
  · exact num_bd l
  · exact ⟨by decide, by decide⟩
end Rg
end Go.Proofs.YtgbnelglhkfdfaaGreatDoor

namespace Go.Proofs.YtgbnelglhkfdfaaGreatDoor
open Go.RowKit

theorem zeroRg16 : (Tryz.prog.info? 96).map (fun i => i.zero) = some (some (.agg #[.int .i64 0, .int .i64 0])) := by kernel_rfl
theorem sizeRg16 : (Tryz.prog.info? 96).map (·.size) = some 2 := by kernel_rfl
theorem infoRg16 : (Tryz.prog.info? 96).map (fun i => (i.zero, i.size, i.bytes)) = some (some (.agg #[.int .i64 0, .int .i64 0]), 2, 16) := by kernel_rfl
theorem ldRg16 {w : World} {b : Nat} {x0 x1 : Value} (h : Ar w b 96 #[x0, x1]) : (loadVar 96 ⟨b, 0, none⟩).run Tryz.prog w = .ok (.agg #[x0, x1]) w :=
  run_loadVar_row (P := Tryz.prog) w b 96 96 _ (0, 0) _ h Tryz.underlying96 rfl sizeRg16
theorem wrp16 (x : Int) (h0 : -9223372036854775808 ≤ x) (h1 : x ≤ 9223372036854775807) : IntKind.i64.wrap x = x := by rw [IntKind.wrap_i64]; omega
theorem ext_td16 (s : ByteArray) (a b : Nat) : s.extract a b = ⟨((s.data.toList.drop a).take (b - a)).toArray⟩ := by
  apply ByteArray.ext
  rw [ByteArray.data_extract]
  apply Array.toList_inj.1
  simp [Array.toList_extract, List.extract_eq_take_drop]

/-- What piece answers. -/
def pcV (q : Rg.Rn × Bool × Bool) : Value := .tuple #[.agg #[.int .i64 q.1.a, .int .i64 q.1.b], .bool q.2.1, .bool q.2.2]
def dv16 (l : List UInt8) (k : Nat) : Int := if Rg.hasD l && decide (Rg.ahead l < k) then (Rg.ahead l : Int) else -1
theorem u45 (s : ByteArray) (k : Nat) (h : k < s.size) : (s[k] == 45) = ((s[k].toNat : Int) == 45) := by
  rw [Bool.eq_iff_iff, beq_iff_eq, beq_iff_eq]
  constructor
  · intro e; rw [e]; rfl
  · intro e; apply UInt8.toNat_inj.1; simp; omega

end Go.Proofs.YtgbnelglhkfdfaaGreatDoor

namespace Go.Proofs.YtgbnelglhkfdfaaGreatDoor
open Go.RowKit

theorem minfo16 {P : Program} {t : TypeId} {z : Option Value} {s b : Nat} (h : (P.info? t).map (fun i => (i.zero, i.size, i.bytes)) = some (z, s, b)) : ∃ i, P.info? t = some i ∧ i.zero = z ∧ i.size = s ∧ i.bytes = b := by
  cases hq : P.info? t with
  | none => simp [hq] at h
  | some i => simp [hq] at h; exact ⟨i, rfl, h.1, h.2.1, h.2.2⟩
theorem own_shape16 {w : World} {B : Nat} {e : TypeId} {s : Nat} {v : Value} {n : Nat} {xs : List Value} (h : w.ownsRow B e s v n xs) : ∃ ao cap, v = .slice ao n cap := by
  rcases h.2 with ⟨h1, rfl⟩ | ⟨g, cap, cur, h1, _⟩
  · exact ⟨none, 0, h1⟩
  · exact ⟨_, cap, h1⟩
theorem own_kp16 {w w' : World} {B : Nat} {e : TypeId} {s : Nat} {v : Value} {n : Nat} {xs : List Value} (h : w.ownsRow B e s v n xs) (hb : Below w.heap.size w w') : w'.ownsRow B e s v n xs := own_same h (fun j hj => hb.block j (own_lt h j hj))
theorem infoS16 : (Tryz.prog.info? 9).map (fun i => (i.zero, i.size, i.bytes)) = some (some (.string ⟨#[]⟩), 1, 16) := by kernel_rfl
theorem one_cell16 (w : World) (T : TypeId) (x0 : Value) : ∀ j v, [x0][j]? = some v → (w.alloc (.cells #[x0] T)).cell? ((⟨w.heap.size, 0, none⟩ : Addr).add j) = some v := by
  intro j v h
  rw [Addr.add_mid, Nat.zero_add]
  have hA : Ar (w.alloc (.cells #[x0] T)) w.heap.size T #[x0] := heap_alloc_last w _
  exact hA.cell j v (by simpa using h)
/-- Texts as cells. -/
def sC16 (l : List (List UInt8)) : List Value := l.map fun x => .string ⟨x.toArray⟩
theorem sC16_app (a b : List (List UInt8)) : sC16 (a ++ b) = sC16 a ++ sC16 b := by unfold sC16; rw [List.map_append]

namespace Rg
def keepP (ps : List T8) : List T8 := (ps.map Tx.trim).filter (fun p => !(p == []))
theorem keepP_app (ps : List T8) (p : T8) : keepP (ps ++ [p]) = keepP ps ++ (if Tx.trim p == [] then [] else [Tx.trim p]) := by
  unfold keepP
  rw [List.map_append, List.filter_append]
  congr 1
  simp only [List.map_cons, List.map_nil, List.filter_cons, List.filter_nil]
  cases Tx.trim p == [] <;> rfl
theorem drop_c {l : T8} {k : Nat} {c : UInt8} (hc : l[k]? = some c) : l.drop k = c :: l.drop (k + 1) := by
  obtain ⟨h1, h2⟩ := List.getElem?_eq_some_iff.1 hc
  rw [List.drop_eq_getElem_cons h1, h2]
theorem take_c {l : T8} {f k : Nat} {c : UInt8} (hf : f ≤ k) (hc : l[k]? = some c) : (l.drop f).take (k + 1 - f) = (l.drop f).take (k - f) ++ [c] := by
  rw [show k + 1 - f = (k - f) + 1 by omega, List.take_add_one, List.getElem?_drop, show f + (k - f) = k by omega, hc]
  rfl
end Rg
theorem u44 (s : ByteArray) (k : Nat) (h : k < s.size) : (s[k] == 44) = ((s[k].toNat : Int) == 44) := by
  rw [Bool.eq_iff_iff, beq_iff_eq, beq_iff_eq]
  constructor
  · intro e; rw [e]; rfl
  · intro e; apply UInt8.toNat_inj.1; simp; omega

end Go.Proofs.YtgbnelglhkfdfaaGreatDoor

namespace Go.Proofs.YtgbnelglhkfdfaaGreatDoor
namespace Rg
def isD (c : UInt8) : Bool := decide (48 ≤ c.toNat) && decide (c.toNat ≤ 57)
/-- What the word 'part' stands ahead of, at each of its places. -/
def afters : T8 → List T8
  | [] => []
  | c :: r => if sPart.isPrefixOf (c :: r) then r.drop 3 :: afters r else afters r
/-- The numbers up to most that a text begins with, behind what was read. -/
def nums (most : Nat) : Nat → T8 → List Nat
  | _, [] => []
  | n, c :: r => if isD c then (if most < n * 10 + (c.toNat - 48) then [] else (n * 10 + (c.toNat - 48)) :: (if n * 10 + (c.toNat - 48) = 0 then [] else nums most (n * 10 + (c.toNat - 48)) r)) else []
def taken (most : Nat) (l : T8) : List Nat := (afters l).flatMap (nums most 0)
/-- The least number that is free: of numbers in their order. -/
def lf : List Nat → Nat → Nat
  | [], f => f
  | n :: r, f => lf r (if n = f then f + 1 else f)

theorem afters_skip {c : UInt8} {r : T8} (h : sPart.isPrefixOf (c :: r) = false) : afters (c :: r) = afters r := by rw [afters, h]; rfl
theorem afters_hop : ∀ (i : Nat) (l : T8), (∀ j, j < i → sPart.isPrefixOf (l.drop j) = false) → afters l = afters (l.drop i) := by
  intro i
  induction i with
  | zero => intro l _; rw [List.drop_zero]
  | succ i ih =>
    intro l h
    cases l with
    | nil => rfl
    | cons c r =>
      rw [afters_skip (by simpa using h 0 (Nat.succ_pos i)), List.drop_succ_cons]
      exact ih r (fun j hj => by simpa using h (j + 1) (Nat.succ_lt_succ hj))
theorem afters_at {l : T8} (h : sPart.isPrefixOf l = true) : afters l = l.drop 4 :: afters (l.drop 4) := by
  obtain ⟨t, rfl⟩ := List.isPrefixOf_iff_prefix.1 h
  have e : sPart ++ t = 112 :: 97 :: 114 :: 116 :: t := rfl
  have e1 : sPart.isPrefixOf (112 :: 97 :: 114 :: 116 :: t) = true := by rw [← e]; exact h
  rw [e, afters, if_pos e1, afters_skip (by simp [sPart, List.isPrefixOf]), afters_skip (by simp [sPart, List.isPrefixOf]), afters_skip (by simp [sPart, List.isPrefixOf])]
  rfl
/-- A body that is cut at its first 'part'. -/
theorem afters_cut (l : T8) : ((Lib.cut l sPart).2.2 = false ∧ afters l = []) ∨ ((Lib.cut l sPart).2.2 = true ∧ afters l = (Lib.cut l sPart).2.1 :: afters (Lib.cut l sPart).2.1 ∧ (Lib.cut l sPart).2.1.length < l.length) := by
  rcases Lib.index_spec l sPart with ⟨h1, h2⟩ | ⟨i, h1, h2, h3, h4⟩
  · left
    have e : Lib.cut l sPart = (l, [], false) := by unfold Lib.cut; rw [h1]; rfl
    rw [e]
    refine ⟨rfl, ?_⟩
    rw [afters_hop l.length l (fun j hj => h2 j (Nat.le_of_lt hj)), List.drop_length]; rfl
  · right
    have e : Lib.cut l sPart = (l.take i, l.drop (i + 4), true) := by unfold Lib.cut; rw [h1, if_pos (by omega)]; rfl
    rw [e]
    have h3' : sPart.isPrefixOf (l.drop i) = true := h3
    have hl : i + 4 ≤ l.length := by
      have := Lib.index_room l sPart (by omega)
      rw [h1] at this
      simp [sPart] at this; omega
    refine ⟨rfl, ?_, by simp only [List.length_drop]; omega⟩
    simp only
    rw [afters_hop i l (fun j hj => h4 j hj), afters_at h3', List.drop_drop]
theorem afters_len : ∀ (l : T8), ∀ t ∈ afters l, t.length ≤ l.length := by
  intro l
  induction l with
  | nil => intro t h; simp [afters] at h
  | cons c r ih =>
    intro t h
    unfold afters at h
    split at h
    · rcases List.mem_cons.1 h with rfl | h
      · simp; omega
      · have := ih t h; simp; omega
    · have := ih t h; simp; omega
/-- A text behind 'part' stands in a body where it stands behind one of the places. -/
theorem stands_afters (d : T8) : ∀ (l : T8), stands (sPart ++ d) l = (afters l).any (fun t => d.isPrefixOf t) := by
  have key : ∀ (l : T8), (stands (sPart ++ d) l = true) ↔ ∃ t ∈ afters l, d <+: t := by
    intro l
    have h1 : stands (sPart ++ d) l = true ↔ ∃ i, (sPart ++ d) <+: l.drop i := by
      unfold stands
      rw [List.any_eq_true]
      constructor
      · rintro ⟨i, _, hi⟩
        exact ⟨i, by rw [List.prefix_iff_eq_take]; exact (eq_of_beq hi).symm⟩
      · rintro ⟨i, hi⟩
        have hlen := hi.length_le
        rw [List.length_drop] at hlen
        have : 4 ≤ (sPart ++ d).length := by simp [sPart]
        exact ⟨i, List.mem_range.2 (by omega), by rw [beq_iff_eq]; exact (List.prefix_iff_eq_take.1 hi).symm⟩
    rw [h1]
    clear h1
    induction l with
    | nil =>
      simp only [List.drop_nil, afters, List.not_mem_nil, false_and, exists_false, iff_false, not_exists]
      intro _ h
      have := h.length_le
      simp [sPart] at this
    | cons c r ih =>
      have h0 : (∃ i, (sPart ++ d) <+: (c :: r).drop i) ↔ ((sPart ++ d) <+: c :: r) ∨ ∃ i, (sPart ++ d) <+: r.drop i := by
        constructor
        · rintro ⟨i, hi⟩
          cases i with
          | zero => exact .inl hi
          | succ i => exact .inr ⟨i, hi⟩
        · rintro (h | ⟨i, hi⟩)
          · exact ⟨0, h⟩
          · exact ⟨i + 1, hi⟩
      refine (h0.trans (or_congr Iff.rfl ih)).trans ?_
      cases hp : sPart.isPrefixOf (c :: r)
      · rw [afters_skip hp]
        refine ⟨fun h => h.resolve_left (fun h1 => ?_), .inr⟩
        have := List.isPrefixOf_iff_prefix.2 ((List.prefix_append sPart d).trans h1)
        rw [hp] at this; cases this
      · rw [afters, if_pos hp]
        obtain ⟨t, ht⟩ := List.isPrefixOf_iff_prefix.1 hp
        have e : r.drop 3 = t := by
          have : c :: r = 112 :: 97 :: 114 :: 116 :: t := ht.symm
          injection this with _ h2
          rw [h2]; rfl
        rw [e, ← ht]
        simp only [List.mem_cons, exists_eq_or_imp, List.prefix_append_right_inj]
  intro l
  rw [Bool.eq_iff_iff, key, List.any_eq_true]
  simp only [List.isPrefixOf_iff_prefix]

theorem itoa_snoc (n d : Nat) (hn : 0 < n) (hd : d < 10) : Lib.itoa ((n * 10 + d : Nat) : Int) = Lib.itoa (n : Int) ++ [UInt8.ofNat (48 + d)] := by
  rw [Tx.itoa_hi _ (by omega)]
  have e1 : ((n * 10 + d : Nat) : Int) / 10 = (n : Int) := by omega
  have e2 : (48 + ((n * 10 + d : Nat) : Int) % 10).toNat = 48 + d := by omega
  rw [e1, e2]
theorem itoa_one (d : Nat) (hd : d < 10) : Lib.itoa (d : Int) = [UInt8.ofNat (48 + d)] := by
  rw [Tx.itoa_lo _ (by omega) (by omega)]
  congr 2
theorem digit_back {c : UInt8} (h : isD c = true) : UInt8.ofNat (48 + (c.toNat - 48)) = c ∧ c.toNat - 48 < 10 := by
  unfold isD at h
  rw [Bool.and_eq_true, decide_eq_true_iff, decide_eq_true_iff] at h
  refine ⟨?_, by omega⟩
  rw [show 48 + (c.toNat - 48) = c.toNat by omega]
  exact UInt8.ofNat_toNat
theorem digit_there (d : Nat) (hd : d < 10) : isD (UInt8.ofNat (48 + d)) = true ∧ (UInt8.ofNat (48 + d)).toNat - 48 = d := by
  have e : (UInt8.ofNat (48 + d)).toNat = 48 + d := by rw [UInt8.toNat_ofNat']; omega
  unfold isD
  rw [e]
  exact ⟨by simp; omega, by omega⟩
/-- Behind a number that is not 0: what is found is that number's digits and more. -/
theorem nums_goes (most : Nat) : ∀ (t : T8) (n m : Nat), 0 < n → m ∈ nums most n t → m ≤ most ∧ 0 < m ∧ ∃ d, Lib.itoa (m : Int) = Lib.itoa (n : Int) ++ d ∧ d <+: t := by
  intro t
  induction t with
  | nil => intro n m _ h; simp [nums] at h
  | cons c r ih =>
    intro n m hn h
    unfold nums at h
    split at h
    · rename_i hc
      obtain ⟨hb, hd⟩ := digit_back hc
      obtain ⟨k, hk⟩ : ∃ k, n * 10 + (c.toNat - 48) = k := ⟨_, rfl⟩
      have hi := itoa_snoc n (c.toNat - 48) hn hd
      rw [hb] at hi
      rw [hk] at h hi
      split at h
      · simp at h
      · rename_i hm
        rcases List.mem_cons.1 h with rfl | h
        · exact ⟨by omega, by omega, [c], hi, ⟨r, rfl⟩⟩
        · rw [if_neg (by omega)] at h
          obtain ⟨h1, h2, d, h3, h4⟩ := ih k m (by omega) h
          refine ⟨h1, h2, c :: d, by rw [h3, hi]; simp, ?_⟩
          obtain ⟨q, hq⟩ := h4
          exact ⟨q, by rw [← hq]; rfl⟩
    · simp at h
theorem nums_sound (most : Nat) (t : T8) (m : Nat) (h : m ∈ nums most 0 t) : m ≤ most ∧ Lib.itoa (m : Int) <+: t := by
  cases t with
  | nil => simp [nums] at h
  | cons c r =>
    unfold nums at h
    split at h
    · rename_i hc
      obtain ⟨hb, hd⟩ := digit_back hc
      obtain ⟨k, hk⟩ : ∃ k, 0 * 10 + (c.toNat - 48) = k := ⟨_, rfl⟩
      have hk' : c.toNat - 48 = k := by omega
      have hi := itoa_one (c.toNat - 48) hd
      rw [hb, hk'] at hi
      rw [hk] at h
      split at h
      · simp at h
      · rename_i hm
        rcases List.mem_cons.1 h with rfl | h
        · exact ⟨by omega, by rw [hi]; exact ⟨r, rfl⟩⟩
        · by_cases h0 : k = 0
          · rw [if_pos h0] at h; simp at h
          · rw [if_neg h0] at h
            obtain ⟨h1, h2, d, h3, h4⟩ := nums_goes most r k m (by omega) h
            refine ⟨h1, ?_⟩
            rw [h3, hi]
            obtain ⟨q, hq⟩ := h4
            exact ⟨q, by rw [← hq]; rfl⟩
    · simp at h
theorem nums_all (most : Nat) : ∀ (m : Nat) (t : T8), 0 < m → m ≤ most → ∃ L, nums most 0 (Lib.itoa (m : Int) ++ t) = L ++ m :: nums most m t := by
  intro m
  induction m using Nat.strongRecOn with
  | ind m ih =>
    intro t h0 h1
    by_cases h10 : m < 10
    · rw [itoa_one m h10]
      obtain ⟨d1, d2⟩ := digit_there m h10
      refine ⟨[], ?_⟩
      rw [List.cons_append, List.nil_append, nums, if_pos d1, d2, if_neg (by omega), if_neg (by omega)]
      simp
    · have e : m = (m / 10) * 10 + m % 10 := by omega
      obtain ⟨d1, d2⟩ := digit_there (m % 10) (by omega)
      have hi := itoa_snoc (m / 10) (m % 10) (by omega) (by omega)
      rw [← e] at hi
      obtain ⟨L, hL⟩ := ih (m / 10) (by omega) (UInt8.ofNat (48 + m % 10) :: t) (by omega) (by omega)
      refine ⟨L ++ [m / 10], ?_⟩
      rw [hi, List.append_assoc, List.singleton_append, hL, nums, if_pos d1, d2, ← e, if_neg (by omega), if_neg (by omega)]
      simp
theorem nums_complete (most : Nat) (t : T8) (m : Nat) (hm : m ≤ most) (h : Lib.itoa (m : Int) <+: t) : m ∈ nums most 0 t := by
  obtain ⟨q, rfl⟩ := h
  by_cases h0 : m = 0
  · subst h0
    rw [show Lib.itoa ((0 : Nat) : Int) = [48] from itoa_one 0 (by omega)]
    rw [List.cons_append, List.nil_append, nums, if_pos (by decide), if_neg (by simp)]
    simp
  · obtain ⟨L, hL⟩ := nums_all most m q (by omega) hm
    rw [hL]; simp
theorem taken_mem (most : Nat) (l : T8) (m : Nat) : m ∈ taken most l ↔ m ≤ most ∧ stands (line m) l = true := by
  unfold taken line
  rw [stands_afters, List.mem_flatMap, List.any_eq_true]
  constructor
  · rintro ⟨t, h1, h2⟩
    obtain ⟨h3, h4⟩ := nums_sound most t m h2
    exact ⟨h3, t, h1, List.isPrefixOf_iff_prefix.2 h4⟩
  · rintro ⟨h1, t, h2, h3⟩
    exact ⟨t, h2, nums_complete most t m h1 (List.isPrefixOf_iff_prefix.1 h3)⟩

/-- How many numbers a text begins with: at most its digits. -/
theorem nums_len (most : Nat) : ∀ (t : T8) (n : Nat), (nums most n t).length ≤ (t.takeWhile isD).length := by
  intro t
  induction t with
  | nil => intro n; simp [nums]
  | cons c r ih =>
    intro n
    unfold nums
    rw [List.takeWhile_cons]
    cases hc : isD c
    · simp
    · simp only [if_true]
      split
      · simp
      · split
        · simp
        · have := ih (n * 10 + (c.toNat - 48)); simp; omega
theorem digits_hop : ∀ (t : T8), afters t = afters (t.drop (t.takeWhile isD).length) := by
  intro t
  induction t with
  | nil => rfl
  | cons c r ih =>
    rw [List.takeWhile_cons]
    cases hc : isD c
    · simp
    · simp only [if_true, List.length_cons, List.drop_succ_cons]
      rw [afters_skip, ih]
      simp only [sPart, List.isPrefixOf]
      rw [beq_false_of_ne (fun e => by rw [← e] at hc; revert hc; decide)]
      rfl
theorem taken_bound (most : Nat) : ∀ (k : Nat) (l : T8), l.length ≤ k → (taken most l).length ≤ l.length ∧ ((taken most l).length + 4 ≤ l.length ∨ taken most l = []) := by
  intro k
  induction k with
  | zero =>
    intro l h
    have : l = [] := List.length_eq_zero_iff.1 (by omega)
    subst this
    exact ⟨by simp [taken, afters], .inr rfl⟩
  | succ k ih =>
    intro l h
    rcases afters_cut l with ⟨_, h1⟩ | ⟨_, h1, h2⟩
    · unfold taken; rw [h1]; simp
    · obtain ⟨t, ht⟩ : ∃ t, (Lib.cut l sPart).2.1 = t := ⟨_, rfl⟩
      rw [ht] at h1 h2
      have h4 : t.length + 4 ≤ l.length := by
        rcases Lib.index_spec l sPart with ⟨g1, _⟩ | ⟨i, g1, _, _, _⟩
        · rw [← ht]; unfold Lib.cut; rw [g1]
          have : l ≠ [] := fun e => by rw [e] at h1; simp [afters] at h1
          have e : Lib.cut l sPart = (l, [], false) := by unfold Lib.cut; rw [g1]; rfl
          rcases afters_cut l with ⟨_, g2⟩ | ⟨g2, _⟩
          · rw [g2] at h1; cases h1
          · rw [e] at g2; cases g2
        · have e : Lib.cut l sPart = (l.take i, l.drop (i + 4), true) := by unfold Lib.cut; rw [g1, if_pos (by omega)]; rfl
          have := Lib.index_room l sPart (by omega)
          rw [g1] at this
          rw [← ht, e]
          simp [sPart] at this ⊢; omega
      obtain ⟨u, hu⟩ : ∃ u, t.drop (t.takeWhile isD).length = u := ⟨_, rfl⟩
      have hul : u.length + (t.takeWhile isD).length = t.length := by
        rw [← hu, List.length_drop]
        have := (List.takeWhile_prefix isD (l := t)).length_le
        omega
      have hd := digits_hop t
      rw [hu] at hd
      have h3 := (ih u (by omega)).1
      have h5 := nums_len most t 0
      have e : taken most l = nums most 0 t ++ taken most u := by unfold taken; rw [h1, hd]; rfl
      rw [e, List.length_append]
      exact ⟨by omega, .inl (by omega)⟩
theorem lf_len : ∀ (l : List Nat) (f : Nat), lf l f ≤ f + l.length ∧ f ≤ lf l f := by
  intro l
  induction l with
  | nil => intro f; simp [lf]
  | cons n r ih =>
    intro f
    rw [lf]
    have := ih (if n = f then f + 1 else f)
    simp only [List.length_cons]
    split at this <;> rename_i h
    · rw [if_pos h]; omega
    · rw [if_neg h]; omega
theorem lf_spec : ∀ (r p : List Nat) (f : Nat), (p ++ r).Pairwise (· ≤ ·) → (∀ k, k < f → k ∈ p) → f ∉ p → (∀ k, k < lf r f → k ∈ p ++ r) ∧ lf r f ∉ p ++ r := by
  intro r
  induction r with
  | nil => intro p f _ h1 h2; rw [List.append_nil]; exact ⟨h1, h2⟩
  | cons n r ih =>
    intro p f hs h1 h2
    have e : p ++ n :: r = (p ++ [n]) ++ r := by simp
    rw [e] at hs ⊢
    rw [lf]
    by_cases hn : n = f
    · rw [if_pos hn]
      refine ih (p ++ [n]) (f + 1) hs (fun k hk => ?_) (fun hm => ?_)
      · by_cases hk' : k < f
        · exact List.mem_append_left _ (h1 k hk')
        · rw [show k = f by omega, hn]; simp
      · rw [List.mem_append] at hm
        rcases hm with hm | hm
        · have hp := (List.pairwise_append.1 (List.pairwise_append.1 hs).1).2.2 (f + 1) hm n (by simp)
          omega
        · simp at hm; omega
    · rw [if_neg hn]
      refine ih (p ++ [n]) f hs (fun k hk => List.mem_append_left _ (h1 k hk)) (fun hm => ?_)
      rw [List.mem_append] at hm
      rcases hm with hm | hm
      · exact h2 hm
      · simp at hm; omega
/-- Of numbers in their order, in whatever order they were: the least one that is none of them is the number of the least line that stands nowhere. -/
theorem lf_line (l : T8) (s : List Nat) (hs : s.Pairwise (· ≤ ·)) (hp : s.Perm (taken l.length l)) :
    stands (line (lf s 0)) l = false ∧ (∀ m, m < lf s 0 → stands (line m) l = true) ∧ lf s 0 ≤ l.length := by
  obtain ⟨h1, h2⟩ := lf_spec s [] 0 (by simpa using hs) (fun k hk => absurd hk (Nat.not_lt_zero _)) (by simp)
  rw [List.nil_append] at h1 h2
  have hle : lf s 0 ≤ l.length := by
    have := (lf_len s 0).1
    have := hp.length_eq
    have := (taken_bound l.length l.length l (Nat.le_refl _)).1
    omega
  refine ⟨?_, fun m hm => ((taken_mem _ _ _).1 (hp.mem_iff.1 (h1 m hm))).2, hle⟩
  cases hq : stands (line (lf s 0)) l
  · rfl
  · exact absurd (hp.mem_iff.2 ((taken_mem _ _ _).2 ⟨hle, hq⟩)) h2
end Rg
end Go.Proofs.YtgbnelglhkfdfaaGreatDoor

namespace Go.Proofs.YtgbnelglhkfdfaaGreatDoor
open Go.RowKit

def nC16 (l : List Nat) : List Value := l.map fun (n : Nat) => .int .i64 (n : Int)
theorem nC16_app (a b : List Nat) : nC16 (a ++ b) = nC16 a ++ nC16 b := by unfold nC16; rw [List.map_append]
theorem infoI16 : (Tryz.prog.info? 3).map (fun i => (i.zero, i.size, i.bytes)) = some (some (.int .i64 0), 1, 8) := by kernel_rfl

set_option maxHeartbeats 1600000 in
set_option maxRecDepth 20000 in
theorem capp16 (B n cap : Nat) (ao : Option Addr) (xs : List Nat) (hn : xs.length = n) (s : ByteArray) (l : List UInt8) (hl : s.data.toList = l) (M : Nat) (hM : M ≤ 1048576) (w : World) (ho : w.ownsRow B 3 1 (.slice ao n cap) n (nC16 xs)) (hB : B ≤ w.heap.size) (hs : s.size ≤ 1048576) (hnb : n ≤ 1048576) :
    Calls Tryz.prog 148 #[.slice ao n cap, .string s, .int .i64 (M : Int)] w fun e w' => (∃ m ro rc, e = .returned (.slice ro m rc) ∧ (xs ++ Rg.nums M 0 l).length = m ∧ w'.ownsRow B 3 1 (.slice ro m rc) m (nC16 (xs ++ Rg.nums M 0 l))) ∧ Below B w w' := by
  obtain ⟨i0, hi0, hz0, hz1, hz2⟩ := minfo16 infoI16
  have HI := hid' hi0
  have HZ0 := hid' hz0
  have HZ1 := hid' hz1
  have HZ2 := hid' hz2
  clear hi0 hz0 hz1 hz2
  have HSZ : Hid (s.size = l.length) := hid' (by rw [Lib.size_eq, hl])
  have HGB : Hid (∀ k (h : k < s.size), l[k]? = some s[k]) := hid' (fun k h => by rw [← hl]; exact Tx.get_byte s k h)
  have HO0 := hid' ho
  have HBW := hid' hB
  have HN := hid' hn
  clear hl ho hB hn
  go_enter Tryz.func148, Tryz.ntmps148
  go_wp2
  go_loopw [0, 7, 8] (fun s0 s7 s8 wr => ∃ (k m c : Nat) (ds : List Nat) (ro : Option Addr) (rc : Nat), s8 = .int .i64 (k : Int) ∧ s7 = .int .i64 (m : Int) ∧ s0 = .slice ro c rc ∧ k ≤ s.size ∧ m ≤ M ∧ c ≤ n + k ∧ Hid ((xs ++ ds).length = c) ∧ Hid (Rg.nums M 0 l = ds ++ Rg.nums M m (l.drop k)) ∧ Hid (wr.ownsRow B 3 1 (.slice ro c rc) c (nC16 (xs ++ ds))) ∧ Hid (Below B w wr)) (fun _ _ s8 _ => s.size - (intOf s8).toNat)
  case atStart => exact ⟨0, 0, n, [], ao, cap, rfl, rfl, rfl, Nat.zero_le _, Nat.zero_le _, Nat.le_refl _, hid' (by rw [List.append_nil]; exact HN.out), hid' (by simp), hid' (by rw [List.append_nil]; exact HO0.out), hid' (Below.refl _ _)⟩
  case round =>
    obtain ⟨k, m, c, ds, ro, rc, rfl, rfl, rfl, hk, hm, hc, HCL, HNU, HO, HB⟩ := hrel
    by_cases hlt : k < s.size
    · have hlt2 : (k : Int) < (s.size : Int) := by omega
      have HD := hid' (Rg.drop_c (HGB.out k hlt))
      rw [HD.out] at HNU
      have HX := hid' (show s[k].toNat < 256 from s[k].toNat_lt)
      by_cases d1 : (48 : Int) ≤ (s[k].toNat : Int)
      · by_cases d2 : (s[k].toNat : Int) ≤ 57
        · have HIS : Hid (Rg.isD s[k] = true) := hid' (by unfold Rg.isD; rw [decide_eq_true (show 48 ≤ s[k].toNat by omega), decide_eq_true (show s[k].toNat ≤ 57 by omega)]; rfl)
          obtain ⟨v, hv⟩ : ∃ v : Nat, m * 10 + (s[k].toNat - 48) = v := ⟨_, rfl⟩
          have HV : Hid (Rg.nums M m (s[k] :: l.drop (k + 1)) = if M < v then [] else v :: (if v = 0 then [] else Rg.nums M v (l.drop (k + 1)))) := hid' (by rw [Rg.nums, if_pos HIS.out, hv])
          have HVX : Hid ((m : Int) * 10 + ((s[k].toNat : Int) - 48) = (v : Int)) := hid' (by omega)
          clear hv
          by_cases hMv : (M : Int) < (m : Int) * 10 + ((s[k].toNat : Int) - 48)
          · rw [if_pos (by have := HVX.out; omega)] at HV
            rw [HV.out, List.append_nil] at HNU
            go_wp2
            go_ret
            exact ⟨⟨c, ro, rc, rfl, by rw [HNU.out]; simpa using HCL.out, by rw [HNU.out]; exact HO.out⟩, HB.out⟩
          · have hvM : v ≤ M := by have := HVX.out; omega
            rw [if_neg (by omega)] at HV
            have HA : Hid ((wr.alloc (.cells #[.int .i64 ((m : Int) * 10 + ((s[k].toNat : Int) - 48))] 3)).ownsRow B 3 1 (.slice ro c rc) c (nC16 (xs ++ ds))) := hid' (HO.out.alloc _)
            go_wp2_with (at_builtin; refine wpList_append_own_at _ rfl _ _ 153 rfl B 3 i0 (.int .i64 0) 1 8 Tryz.underlying153 HI.out HZ0.out HZ1.out HZ2.out rfl (by decide) (.slice ro c rc) c (nC16 (xs ++ ds)) rfl HA.out ⟨wr.heap.size, 0, none⟩ 1 1 [.int .i64 ((m : Int) * 10 + ((s[k].toNat : Int) - 48))] rfl rfl (one_cell16 _ _ _) (by simp [Value.oneCell']) (by unfold maxLen; omega) (by omega) (by simp; have := HB.out.size; have := HBW.out; omega) ?_; intro v3 w3 hown3 hgrow3 _ _; refine Hid.out ?_)
            refine hid' ?_
            have e : nC16 (xs ++ ds) ++ [.int .i64 ((m : Int) * 10 + ((s[k].toNat : Int) - 48))] = nC16 (xs ++ (ds ++ [v])) := by rw [HVX.out, ← List.append_assoc, nC16_app (xs ++ ds)]; rfl
            rw [e] at hown3
            obtain ⟨v3o, v3c, hv3⟩ := own_shape16 hown3
            subst hv3
            have HO3 := hid' hown3
            have HB3 : Hid (Below B w w3) := hid' ((HB.out.alloc (Nat.le_trans HBW.out HB.out.size) _).grown hgrow3 (by simp; have := HB.out.size; have := HBW.out; omega) (fun k hk => (HA.out.lt k hk).1))
            have HL3 : Hid ((xs ++ (ds ++ [v])).length = c + 1) := hid' (by rw [← List.append_assoc, List.length_append, HCL.out]; rfl)
            clear hown3 hgrow3 e
            by_cases hv0 : v = 0
            · have hvB : ((m : Int) * 10 + ((s[k].toNat : Int) - 48) == 0) = true := by rw [HVX.out, beq_iff_eq]; omega
              rw [if_pos hv0] at HV
              rw [HV.out] at HNU
              clear hv0
              go_wp2
              go_ret
              exact ⟨⟨c + 1, v3o, v3c, rfl, by rw [HNU.out]; simpa using HL3.out, by rw [HNU.out]; exact HO3.out⟩, HB3.out⟩
            · have hvB : ((m : Int) * 10 + ((s[k].toNat : Int) - 48) == 0) = false := by rw [HVX.out, beq_eq_false_iff_ne]; omega
              rw [if_neg hv0] at HV
              rw [HV.out] at HNU
              clear hv0
              go_wp2
              go_roundw
              case rel => exact ⟨k + 1, v, c + 1, ds ++ [v], v3o, v3c, by go_num, by rw [HVX.out], rfl, by omega, hvM, by omega, HL3, hid' (by rw [HNU.out, List.append_assoc]; rfl), HO3, HB3⟩
              case measure => simp [intOf]; omega
        · have HE : Hid (Rg.nums M m (s[k] :: l.drop (k + 1)) = []) := hid' (by rw [Rg.nums, if_neg]; unfold Rg.isD; rw [decide_eq_false (show ¬ s[k].toNat ≤ 57 by omega), Bool.and_false]; decide)
          rw [HE.out, List.append_nil] at HNU
          go_wp2
          go_ret
          exact ⟨⟨c, ro, rc, rfl, by rw [HNU.out]; simpa using HCL.out, by rw [HNU.out]; exact HO.out⟩, HB.out⟩
      · have HE : Hid (Rg.nums M m (s[k] :: l.drop (k + 1)) = []) := hid' (by rw [Rg.nums, if_neg]; unfold Rg.isD; rw [decide_eq_false (show ¬ 48 ≤ s[k].toNat by omega), Bool.false_and]; decide)
        rw [HE.out, List.append_nil] at HNU
        go_wp2
        go_ret
        exact ⟨⟨c, ro, rc, rfl, by rw [HNU.out]; simpa using HCL.out, by rw [HNU.out]; exact HO.out⟩, HB.out⟩
    · have hlt2 : ¬ (k : Int) < (s.size : Int) := by omega
      have HE : Hid (l.drop k = []) := hid' (List.drop_eq_nil_of_le (by have := HSZ.out; omega))
      rw [HE.out, show Rg.nums M m [] = [] by rw [Rg.nums], List.append_nil] at HNU
      clear hlt
      go_wp2
      go_ret
      exact ⟨⟨c, ro, rc, rfl, by rw [HNU.out]; simpa using HCL.out, by rw [HNU.out]; exact HO.out⟩, HB.out⟩

end Go.Proofs.YtgbnelglhkfdfaaGreatDoor

namespace Go.Proofs.YtgbnelglhkfdfaaGreatDoor
open Go.RowKit

theorem size_l16 (l : List UInt8) : (⟨l.toArray⟩ : ByteArray).size = l.length := by simp [ByteArray.size]
/-- What a world holds for the library: the table of powers, and MaxLen's cell. -/
def TB16 (w : World) : Prop := Lib.TabIs Tryz.prog w "internal/strconv.uint64pow10" .u64 Lib.pow10Tab ∧ ∃ m, w.cell? ⟨1, 0, none⟩ = some (.int .i64 m)
theorem cell_lt16 {w : World} {k : Nat} {v : Value} (h : w.cell? ⟨k, 0, none⟩ = some v) : k < w.heap.size := by
  rcases Nat.lt_or_ge k w.heap.size with h1 | h1
  · exact h1
  · simp [World.cell?, Array.getElem?_eq_none h1] at h
theorem TB16.keep {w w' : World} (h : TB16 w) (hb : Below w.heap.size w w') : TB16 w' := by
  obtain ⟨h1, m, h2⟩ := h
  exact ⟨tab_below h1 hb, m, (hb.cell (p := ⟨1, 0, none⟩) (cell_lt16 h2)).trans h2⟩
/-- strings.Cut at any text. -/
theorem scut16 (s p : ByteArray) (w : World) (hs : s.size ≤ 1048576) (hT : TB16 w) :
    Calls Tryz.prog 112 #[.string s, .string p] w fun e w' => e = .returned (.tuple #[.string ⟨(Lib.cut s.data.toList p.data.toList).1.toArray⟩, .string ⟨(Lib.cut s.data.toList p.data.toList).2.1.toArray⟩, .bool (Lib.cut s.data.toList p.data.toList).2.2]) ∧ Below w.heap.size w w' := by
  obtain ⟨_, m, hm⟩ := hT
  refine Calls.mono (show Calls Tryz.prog 112 _ _ _ from Any.strings_Cut Tryz.lcut s p m w (by omega) hm) ?_
  rintro e w' ⟨rfl, n, rfl⟩
  exact ⟨rfl, below_drewN w n⟩
namespace Rg
/-- What is left to gather of a text behind 'part'. -/
def left (most : Nat) (b : Bool) (t : T8) : List Nat := if b then nums most 0 t ++ taken most t else []
theorem cut_le (l p : T8) : (Lib.cut l p).2.1.length ≤ l.length := by
  unfold Lib.cut
  split
  · simp only [List.length_drop]; omega
  · simp
theorem taken_cut (most : Nat) (l : T8) : taken most l = left most (Lib.cut l sPart).2.2 (Lib.cut l sPart).2.1 ∧ ((Lib.cut l sPart).2.2 = true → (Lib.cut l sPart).2.1.length < l.length) := by
  unfold left
  rcases afters_cut l with ⟨h1, h2⟩ | ⟨h1, h2, h3⟩
  · rw [h1]; exact ⟨by unfold taken; rw [h2]; rfl, fun h => by cases h⟩
  · rw [h1, if_pos rfl]
    exact ⟨by conv => lhs; unfold taken; rw [h2]
              rfl, fun _ => h3⟩
end Rg

set_option maxHeartbeats 1600000 in
set_option maxRecDepth 20000 in
theorem ctaken16 (s : ByteArray) (l : List UInt8) (hl : s.data.toList = l) (w : World) (hs : s.size ≤ 1048576) (hT : TB16 w) :
    Calls Tryz.prog 115 #[.string s] w fun e w' => (∃ m ro rc, e = .returned (.slice ro m rc) ∧ (Rg.taken l.length l).length = m ∧ w'.ownsRow w.heap.size 3 1 (.slice ro m rc) m (nC16 (Rg.taken l.length l))) ∧ Below w.heap.size w w' := by
  have HSL : Hid (l.length = s.size) := hid' (by rw [Lib.size_eq, hl])
  have HLL : Hid (l.length ≤ 1048576) := hid' (by rw [HSL.out]; omega)
  have HC0 := hid' (scut16 s ⟨#[112, 97, 114, 116]⟩ w hs hT)
  have HT := hid' hT
  rw [hl] at HC0
  rw [HSL.out]
  obtain ⟨x0, hx0⟩ : ∃ x : ByteArray, (⟨(Lib.cut l (⟨#[112, 97, 114, 116]⟩ : ByteArray).data.toList).1.toArray⟩ : ByteArray) = x := ⟨_, rfl⟩
  obtain ⟨y0, hy0⟩ : ∃ y : ByteArray, (⟨(Lib.cut l (⟨#[112, 97, 114, 116]⟩ : ByteArray).data.toList).2.1.toArray⟩ : ByteArray) = y := ⟨_, rfl⟩
  obtain ⟨b0, hb0⟩ : ∃ b, (Lib.cut l (⟨#[112, 97, 114, 116]⟩ : ByteArray).data.toList).2.2 = b := ⟨_, rfl⟩
  rw [hx0, hy0, hb0] at HC0
  have HTK := hid' (Rg.taken_cut s.size l)
  have HYS0 : Hid (y0.size ≤ s.size) := hid' (by rw [← hy0, size_l16, ← HSL.out]; exact Rg.cut_le _ _)
  have HY0 : Hid (Rg.taken s.size l = Rg.left s.size b0 y0.data.toList ∧ (b0 = true → y0.data.toList.length < l.length)) := hid' (by
    rw [← hy0, ← hb0]; exact HTK.out)
  clear hT hl hx0 hy0 hb0 HTK
  go_enter Tryz.func115, Tryz.ntmps115
  go_wp2_with fail
  refine HC0.out.mono ?_
  rintro e w1 ⟨rfl, hb1⟩
  have HB1 := hid' hb1
  clear hb1 HC0
  go_wp2
  go_loopw [0, 3, 6] (fun s0 s3 s6 wr => ∃ (y : ByteArray) (c : Nat) (b : Bool) (ds : List Nat) (ro : Option Addr) (rc : Nat), s0 = .string y ∧ s6 = .bool b ∧ s3 = .slice ro c rc ∧ y.size ≤ s.size ∧ Hid (ds.length = c) ∧ Hid (Rg.taken s.size l = ds ++ Rg.left s.size b y.data.toList) ∧ Hid (wr.ownsRow w.heap.size 3 1 (.slice ro c rc) c (nC16 ds)) ∧ Hid (Below w.heap.size w wr) ) (fun s0 _ s6 _ => match s0, s6 with | .string y, .bool true => y.size + 1 | _, _ => 0)
  case atStart => exact ⟨y0, 0, b0, [], none, 0, rfl, rfl, rfl, HYS0.out, hid' rfl, hid' (by rw [List.nil_append]; exact HY0.out.1), hid' (World.ownsRow_nil _ _ _ _), HB1⟩
  case round =>
    obtain ⟨y, c, b, ds, ro, rc, rfl, rfl, rfl, hy, HCL, HTK, HO, HB⟩ := hrel
    cases b
    · have HE : Hid (Rg.taken s.size l = ds) := hid' (by rw [HTK.out]; unfold Rg.left; simp)
      go_wp2
      go_ret
      exact ⟨⟨c, ro, rc, rfl, by rw [HE.out]; exact HCL.out, by rw [HE.out]; exact HO.out⟩, HB.out⟩
    · have HE : Hid (Rg.taken s.size l = (ds ++ Rg.nums s.size 0 y.data.toList) ++ Rg.taken s.size y.data.toList) := hid' (by rw [HTK.out, List.append_assoc]; unfold Rg.left; simp)
      have hcb : c ≤ s.size := by
        have h1 := (Rg.taken_bound s.size l.length l (Nat.le_refl _)).1
        rw [HE.out, List.length_append, List.length_append, HCL.out, HSL.out] at h1
        omega
      have HAP := hid' (fun W (h : W.ownsRow w.heap.size 3 1 (.slice ro c rc) c (nC16 ds)) (hb : w.heap.size ≤ W.heap.size) => capp16 w.heap.size c rc ro ds HCL.out y y.data.toList rfl s.size (by omega) W h hb (by omega) (by omega))
      have HCT := hid' (fun W (h : TB16 W) => scut16 y ⟨#[112, 97, 114, 116]⟩ W (by omega) h)
      obtain ⟨x2, hx2⟩ : ∃ x : ByteArray, (⟨(Lib.cut y.data.toList (⟨#[112, 97, 114, 116]⟩ : ByteArray).data.toList).1.toArray⟩ : ByteArray) = x := ⟨_, rfl⟩
      obtain ⟨y2, hy2⟩ : ∃ y' : ByteArray, (⟨(Lib.cut y.data.toList (⟨#[112, 97, 114, 116]⟩ : ByteArray).data.toList).2.1.toArray⟩ : ByteArray) = y' := ⟨_, rfl⟩
      obtain ⟨b2, hb2⟩ : ∃ b, (Lib.cut y.data.toList (⟨#[112, 97, 114, 116]⟩ : ByteArray).data.toList).2.2 = b := ⟨_, rfl⟩
      rw [hx2, hy2, hb2] at HCT
      have HTK2 : Hid (Rg.taken s.size y.data.toList = Rg.left s.size b2 y2.data.toList ∧ (b2 = true → y2.size < y.size)) := hid' (by
        rw [← hy2, ← hb2, Lib.size_eq y, size_l16]; exact Rg.taken_cut s.size y.data.toList)
      have HYS : Hid (y2.size ≤ y.size) := hid' (by rw [← hy2, Lib.size_eq y, size_l16]; exact Rg.cut_le _ _)
      clear hx2 hy2 hb2
      go_wp2_with fail
      refine (HAP.out _ HO.out HB.out.size).mono ?_
      rintro e w2 ⟨⟨m, po, pc, rfl, hm, hown⟩, hbl⟩
      have HB2 := hid' (HB.out.trans hbl)
      have HO2 := hid' hown
      have HM2 := hid' hm
      have HT2 := hid' (HT.out.keep HB2.out)
      clear hbl hown hm
      go_wp2_with fail
      refine (HCT.out _ HT2.out).mono ?_
      rintro e w3 ⟨rfl, hb3⟩
      have HB3 := hid' (below_two HB2.out hb3)
      have HO3 := hid' (own_kp16 HO2.out hb3)
      clear hb3
      go_wp2
      go_roundw
      case rel => exact ⟨y2, m, b2, ds ++ Rg.nums s.size 0 y.data.toList, po, pc, rfl, rfl, rfl, by have := HYS.out; omega, HM2, hid' (by rw [HE.out, HTK2.out.1]), HO3, HB3⟩
      case measure =>
        cases b2
        · simp
        · have := HTK2.out.2 rfl
          simp; omega

end Go.Proofs.YtgbnelglhkfdfaaGreatDoor

namespace Go.Proofs.YtgbnelglhkfdfaaGreatDoor
open Go.RowKit

/-- All blocks but one, and but rows of bytes, are as they were. -/
structure UF (b : Nat) (w w' : World) : Prop where
  size : w.heap.size ≤ w'.heap.size
  block : ∀ k, k < w.heap.size → k ≠ b → (∀ cs fz, w.heap[k]? ≠ some (.cells cs 5 fz)) → w'.heap[k]? = w.heap[k]?
theorem UF.of_below {b : Nat} {w w' : World} (h : Below w.heap.size w w') : UF b w w' := ⟨h.size, fun k hk _ _ => h.block k hk⟩
theorem UF.of_set (b i : Nat) (v : Value) (w : World) : UF b w (w.setCell ⟨b, i, none⟩ v) := ⟨by simp [World.setCell], fun k _ hb _ => (upd_setCell w b i v).block k hb⟩
theorem UF.trans {b : Nat} {w w1 w2 : World} (h1 : UF b w w1) (h2 : UF b w1 w2) : UF b w w2 :=
  ⟨Nat.le_trans h1.size h2.size, fun k hk hb hn => (h2.block k (Nat.lt_of_lt_of_le hk h1.size) hb (fun cs fz hc => hn cs fz (by rw [← h1.block k hk hb hn]; exact hc))).trans (h1.block k hk hb hn)⟩
theorem UF.ar {b c : Nat} {w w' : World} {T : TypeId} {cs : Array Value} (h : UF b w w') (ha : Ar w c T cs) (hb : c ≠ b) (hT : T ≠ 5) : Ar w' c T cs := by
  have := h.block c ha.lt hb (fun ds fz hd => by unfold Ar at ha; rw [ha] at hd; injection hd with hd; injection hd with _ h2 _; exact hT h2)
  unfold Ar at *
  rw [this]; exact ha
theorem bld_obj {w : World} {B b : Nat} {l : List UInt8} (h : Bld w B b l) : ∃ p q, Ar w b 106 #[p, q] := by
  rcases h with ⟨_, v, hbk, _⟩ | ⟨_, v, hbk, _⟩
  · exact ⟨_, v, hbk⟩
  · exact ⟨_, v, hbk⟩
set_option maxHeartbeats 2000000 in
set_option maxRecDepth 100000 in
theorem writeString_cells (B b : Nat) (bs : List Value) (s : ByteArray) (w : World) (h : Lib.IsBuilder 106 5 B b bs w) (hlen : bs.length + s.size ≤ 140737488355328) (hBw : B ≤ w.heap.size) :
    Calls Tryz.prog 97 #[.pointer (some ⟨b, 0, none⟩), .string s] w fun e w' => e = .returned (.tuple #[.int .i64 (s.size : Int), .nilIface]) ∧ (Lib.IsBuilder 106 5 B b (bs ++ Lib.strCells s) w' ∧ Below B w w' ∧ UF b w w') := by
  obtain ⟨i0, hi, hz0, hz1, hz2⟩ := info_parts infoByte
  have HU : Hid (∀ w1, Lib.BuilderAt 106 5 B b (.pointer (some ⟨b, 0, none⟩)) bs w1 ∧ (w1 = w ∨ w1 = w.setCell ⟨b, 0, none⟩ (.pointer (some ⟨b, 0, none⟩))) → UF b w w1) := hid' fun w1 ⟨_, hw⟩ => by
    rcases hw with rfl | rfl
    · exact UF.of_below (Below.refl _ _)
    · exact UF.of_set _ _ _ _
  have hcc : Calls Tryz.prog 95 #[.pointer (some ⟨b, 0, none⟩)] w fun e w' => e = .returned (.tuple #[]) ∧ (Lib.BuilderAt 106 5 B b (.pointer (some ⟨b, 0, none⟩)) bs w' ∧ Below B w w' ∧ UF b w w') := by
    rcases h with h | h
    · refine (copyCheck_fresh b w h.cell0 h.shape h.frozen0).mono ?_
      rintro e w' ⟨rfl, rfl⟩
      exact ⟨rfl, h.used _, (Below.refl B w).setCell (p := ⟨b, 0, none⟩) h.1 _, UF.of_set _ _ _ _⟩
    · refine (copyCheck_used b w h.cell0).mono ?_
      rintro e w' ⟨rfl, rfl⟩
      exact ⟨rfl, h, Below.refl B _, UF.of_below (Below.refl _ _)⟩
  have HCC := hid' hcc
  clear hcc HU h
  go_enter Tryz.func97, Tryz.ntmps97
  go_wp2_with fail
  refine HCC.out.mono ?_
  rintro e w1 ⟨rfl, h1, hb1, hu1⟩
  clear HCC
  obtain ⟨hB, v, hbk, hown, hne⟩ := h1
  have c0 : w1.cell? ⟨b, 0, none⟩ = some (.pointer (some ⟨b, 0, none⟩)) := by rw [Lib.cell_of_heap hbk]; rfl
  have c1 : w1.cell? ⟨b, 1, none⟩ = some v := by rw [Lib.cell_of_heap hbk]; rfl
  go_wp2_with (at_builtin; refine Lib.wpList_append_own_string _ rfl _ _ 73 9 rfl B 5 i0 Tryz.underlying73 Tryz.underlying9 hi hz0 hz1 hz2 _ _ _ rfl hown s rfl ?c3 ?c4 ?c5 ?_)
  case c3 => unfold maxLen; omega
  case c4 => omega
  case c5 => have := hb1.size; omega
  intro v' w2 hown' hgrow _
  have hlt : b < w1.heap.size := (Array.getElem?_eq_some_iff.1 hbk).1
  have hb2 : w2.heap[b]? = some (.cells #[.pointer (some ⟨b, 0, none⟩), v] 106 (0, 0)) := by
    rw [hgrow.block b (by omega) (fun e => hne e.symm)]
    exact hbk
  have d1 : w2.cell? ⟨b, 1, none⟩ = some v := by rw [Lib.cell_of_heap hb2]; rfl
  have f1 : w2.frozen? ⟨b, 1, none⟩ = false := Lib.frozen_of_heap hb2 1
  obtain ⟨ao, n', cap, rfl⟩ : ∃ ao n' cap, v' = .slice ao n' cap := by
    rcases hown'.2 with ⟨h, _⟩ | ⟨g, cap, cur, hv, _⟩
    · exact ⟨_, _, _, h⟩
    · exact ⟨_, _, _, hv⟩
  have HUG : Hid (UF b w1 w2) := hid' ⟨hgrow.size, fun k hk _ hn => hgrow.block k hk (fun e => by
    rcases hown.2 with ⟨rfl, _⟩ | ⟨g, cap, cur, rfl, _, hg, _⟩
    · simp [Value.ownBlock] at e
    · simp [Value.ownBlock] at e
      subst e
      exact hn cur (0, 0) hg)⟩
  have HU1 := hid' hu1
  clear hu1
  go_wp2
  go_ret2
  refine ⟨rfl, ?_, ?_, (HU1.out.trans HUG.out).trans (UF.of_set _ _ _ _)⟩
  · exact .inr (Lib.BuilderAt.put (T := 106) (e := 5) hB hb2 (bs' := bs ++ Lib.strCells s) (by simpa [Lib.strCells_length] using hown') (by decide))
  · exact (hb1.grown hgrow (by have := hb1.size; omega) (fun k hk => (hown.lt k hk).1)).setCell (p := ⟨b, 1, none⟩) hB _

theorem writeString_any (B b : Nat) (l s : List UInt8) (w : World) (h : Bld w B b l) (hlen : l.length + s.length ≤ 140737488355328) (hBw : B ≤ w.heap.size) :
    Calls Tryz.prog 97 #[.pointer (some ⟨b, 0, none⟩), .string ⟨s.toArray⟩] w fun e w' => e = .returned (.tuple #[.int .i64 (s.length : Int), .nilIface]) ∧ (Bld w' B b (l ++ s) ∧ Below B w w' ∧ UF b w w') := by
  refine (writeString_cells B b (Lib.byteCells l) ⟨s.toArray⟩ w h (by rw [Lib.byteCells_length, size_l16]; exact hlen) hBw).mono ?_
  rintro e w' ⟨rfl, h1, h2⟩
  refine ⟨by rw [size_l16], ?_, h2⟩
  have : Lib.byteCells (l ++ s) = Lib.byteCells l ++ Lib.strCells ⟨s.toArray⟩ := by simp [Lib.byteCells, Lib.strCells]
  unfold Bld
  rw [this]
  exact h1

theorem string_any (B b : Nat) (l : List UInt8) (w : World) (h : Bld w B b l) (hBw : B ≤ w.heap.size) :
    Calls Tryz.prog 69 #[.pointer (some ⟨b, 0, none⟩)] w fun e w' => e = .returned (.string ⟨l.toArray⟩) ∧ Below B w w' ∧ UF b w w' := by
  refine (Tryz.Builder_String_any_k B b l w (Lib.IsBuilderF.of h) hBw).mono ?_
  rintro e w' ⟨rfl, _, hb, ho⟩
  refine ⟨rfl, hb, hb.size, fun k hk hne hn => ?_⟩
  obtain ⟨o, hk'⟩ : ∃ o, w.heap[k]? = some o := ⟨_, Array.getElem?_eq_getElem hk⟩
  rw [ho k o hk' (by simpa using hne) (fun c fz e => hn c fz (by rw [hk', e])), hk']

theorem ar_ne16 {w : World} {a b : Nat} {T T' : TypeId} {c c' : Array Value} (h : Ar w a T c) (h' : Ar w b T' c') (hT : T ≠ T') : a ≠ b := fun e => by
  unfold Ar at h h'
  rw [e, h'] at h
  injection h with h
  injection h with _ h _
  exact hT h.symm
/-- A row of texts in a block of its own, or none. -/
def TR16 (w : World) (ao : Option Addr) (ts : List (List UInt8)) : Prop := (ts = [] ∧ ao = none) ∨ ∃ g, ao = some ⟨g, 0, none⟩ ∧ Ar w g 9 (sC16 ts).toArray
theorem TR16.uf {b : Nat} {w w' : World} {ao : Option Addr} {ts : List (List UInt8)} {p q : Value} (h : TR16 w ao ts) (hu : UF b w w') (hb : Ar w b 106 #[p, q]) : TR16 w' ao ts := by
  rcases h with h | ⟨g, h1, h2⟩
  · exact .inl h
  · exact .inr ⟨g, h1, hu.ar h2 (ar_ne16 h2 hb (by decide)) (by decide)⟩
theorem TR16.at {w : World} {ao : Option Addr} {ts : List (List UInt8)} (h : TR16 w ao ts) (i : Nat) (t : List UInt8) (ht : ts[i]? = some t) : ∃ g, ao = some ⟨g, 0, none⟩ ∧ w.cell? ⟨g, i, none⟩ = some (.string ⟨t.toArray⟩) := by
  rcases h with ⟨rfl, _⟩ | ⟨g, h1, h2⟩
  · simp at ht
  · exact ⟨g, h1, h2.cell i _ (by unfold sC16; rw [List.getElem?_toArray, List.getElem?_map, ht]; rfl)⟩

set_option maxHeartbeats 1600000 in
set_option maxRecDepth 20000 in
theorem cwline16 (B b n cap : Nat) (ao : Option Addr) (l : List UInt8) (ts : List (List UInt8)) (hn : ts.length = n) (hnb : n ≤ 1048576) (w : World) (hb : Bld w B b l) (ht : TR16 w ao ts) (hlen : l.length + ts.flatten.length + 2 ≤ 140737488355328) (hBw : B ≤ w.heap.size) :
    Calls Tryz.prog 116 #[.pointer (some ⟨b, 0, none⟩), .slice ao n cap] w fun e w' => e = .returned (.tuple #[]) ∧ Bld w' B b (l ++ ts.flatten ++ [13, 10]) ∧ Below B w w' ∧ UF b w w' := by
  have HBd := hid' hb
  have HTR := hid' ht
  have HN := hid' hn
  have HLEN := hid' hlen
  have HBW := hid' hBw
  have HOB := hid' (bld_obj hb)
  clear hb ht hn hlen hBw
  go_enter Tryz.func116, Tryz.ntmps116
  go_wp2
  go_loopw [8] (fun s8 wr => ∃ i : Nat, s8 = .int .i64 (i : Int) ∧ i ≤ n ∧ Hid (Bld wr B b (l ++ (ts.take i).flatten)) ∧ Hid (TR16 wr ao ts) ∧ Hid (Below B w wr) ∧ Hid (UF b w wr)) (fun s8 _ => n - (intOf s8).toNat)
  case atStart => exact ⟨0, rfl, Nat.zero_le _, hid' (by simpa using HBd.out), HTR, hid' (Below.refl _ _), hid' (UF.of_below (Below.refl _ _))⟩
  case round =>
    obtain ⟨i, rfl, hi, HB, HT, HBe, HU⟩ := hrel
    by_cases hlt : i < n
    · have hlt2 : (i : Int) < (n : Int) := by omega
      obtain ⟨t, htt⟩ : ∃ t, ts[i]? = some t := ⟨_, List.getElem?_eq_getElem (by rw [HN.out]; exact hlt)⟩
      obtain ⟨g, rfl, y0⟩ := HT.out.at i t htt
      have HTK : Hid ((ts.take (i + 1)).flatten = (ts.take i).flatten ++ t) := hid' (by rw [List.take_add_one, htt]; simp)
      have HFL : Hid ((ts.take (i + 1)).flatten.length ≤ ts.flatten.length) := hid' (by
        conv => rhs; rw [← List.take_append_drop (i + 1) ts, List.flatten_append, List.length_append]
        omega)
      have HWS := hid' (fun W (h : Bld W B b (l ++ (ts.take i).flatten)) (hW : B ≤ W.heap.size) => writeString_any B b (l ++ (ts.take i).flatten) t W h (by
        have h1 := HFL.out
        have h2 := HLEN.out
        rw [HTK.out, List.length_append] at h1
        rw [List.length_append]
        omega) hW)
      clear htt
      go_wp2_with fail
      refine (HWS.out _ HB.out (Nat.le_trans HBW.out HBe.out.size)).mono ?_
      rintro e w2 ⟨rfl, h1, h2, h3⟩
      have HB2 : Hid (Bld w2 B b (l ++ (ts.take (i + 1)).flatten)) := hid' (by rw [HTK.out, ← List.append_assoc]; exact h1)
      have HBe2 := hid' (HBe.out.trans h2)
      have HU2 := hid' (HU.out.trans h3)
      have HT2 : Hid (TR16 w2 (some ⟨g, 0, none⟩) ts) := hid' (by obtain ⟨p, q, hpq⟩ := bld_obj HB.out; exact HT.out.uf h3 hpq)
      clear h1 h2 h3 y0
      go_wp2
      go_roundw
      case rel => exact ⟨i + 1, by go_num, by omega, HB2, HT2, HBe2, HU2⟩
      case measure => simp [intOf]; omega
    · have hlt2 : ¬ (i : Int) < (n : Int) := by omega
      have HTK : Hid (ts.take i = ts) := hid' (List.take_of_length_le (by rw [HN.out]; omega))
      rw [HTK.out] at HB
      clear hlt
      have HWS := hid' (fun W (h : Bld W B b (l ++ ts.flatten)) (hW : B ≤ W.heap.size) => writeString_any B b (l ++ ts.flatten) [13, 10] W h (by rw [List.length_append]; exact HLEN.out) hW)
      go_wp2_with fail
      refine (HWS.out _ HB.out (Nat.le_trans HBW.out HBe.out.size)).mono ?_
      rintro e w2 ⟨rfl, h1, h2, h3⟩
      have HB2 := hid' h1
      have HBe2 := hid' (HBe.out.trans h2)
      have HU2 := hid' (HU.out.trans h3)
      clear h1 h2 h3
      go_wp2
      go_end0
      exact ⟨rfl, HB2.out, HBe2.out, HU2.out⟩

end Go.Proofs.YtgbnelglhkfdfaaGreatDoor
