/-
  Files on lists: which texts may be paths, files by their paths, rising: what is of no program.
-/
import Derived.Test.YtnggablpkgbpaaaDoorProg
import Derived.Sort.Walk0
namespace Go.Proofs.YtnggablpkgbpaaaDoor.Dk

abbrev Tx8 := List UInt8
/-- A part of a path. -/
def good (p : Tx8) : Bool := !(p == []) && !(p == [46]) && !(p == [46, 46])
def pOk : Tx8 → Tx8 → Bool
  | cur, [] => good cur
  | cur, c :: r => if c = 47 then good cur && pOk [] r else (decide (32 ≤ c.toNat) && decide (c.toNat ≤ 126)) && pOk (cur ++ [c]) r
/-- Whether a text may be a file's path. -/
def path : Tx8 → Bool
  | [] => false
  | c :: r => decide (r.length + 1 ≤ 255) && (c == 47 && pOk [] r)

theorem lt_irrefl (a : Tx8) : ¬ a < a := List.lt_irrefl a
theorem lt_trans {a b c : Tx8} (h1 : a < b) (h2 : b < c) : a < c := List.lt_trans h1 h2
theorem lt_tri (a b : Tx8) : a < b ∨ a = b ∨ b < a := by
  by_cases h1 : a < b
  · exact .inl h1
  · by_cases h2 : b < a
    · exact .inr (.inr h2)
    · exact .inr (.inl (List.le_antisymm (List.not_lt.1 h2) (List.not_lt.1 h1)))
theorem lt_asymm {a b : Tx8} (h1 : a < b) : ¬ b < a := fun h2 => lt_irrefl a (lt_trans h1 h2)
theorem not_lt_lt {a b c : Tx8} (h1 : ¬ b < a) (h2 : b < c) : a < c := by
  rcases lt_tri a b with h | h | h
  · exact lt_trans h h2
  · rw [h]; exact h2
  · exact absurd h h1

/-- Where a key stands in a row, or would stand. -/
def pl (x : Tx8) : List Tx8 → Nat
  | [] => 0
  | y :: r => if y < x then pl x r + 1 else 0
theorem pl_le (x : Tx8) (l : List Tx8) : pl x l ≤ l.length := by
  induction l with
  | nil => simp [pl]
  | cons y r ih => unfold pl; split <;> simp <;> omega
theorem pl_app (x : Tx8) (A R : List Tx8) (h1 : ∀ a ∈ A, a < x) (h2 : ∀ a ∈ R, ¬ a < x) : pl x (A ++ R) = A.length := by
  induction A with
  | nil =>
    cases R with
    | nil => rfl
    | cons y r => simp only [List.nil_append, pl, if_neg (h2 y (by simp)), List.length_nil]
  | cons y r ih =>
    have := ih (fun a ha => h1 a (by simp [ha]))
    simp only [List.cons_append, pl, if_pos (h1 y (by simp)), this, List.length_cons]
theorem pl_below (x : Tx8) (l : List Tx8) : ∀ t y, t < pl x l → l[t]? = some y → y < x := by
  induction l with
  | nil => intro t y h; simp [pl] at h
  | cons z r ih =>
    intro t y h hy
    unfold pl at h
    split at h
    · cases t with
      | zero => simp at hy; subst hy; assumption
      | succ t => exact ih t y (by omega) (by simpa using hy)
    · omega
theorem pl_at (x : Tx8) (l : List Tx8) : ∀ y, l[pl x l]? = some y → ¬ y < x := by
  induction l with
  | nil => intro y h; simp at h
  | cons z r ih =>
    intro y h
    unfold pl at h
    split at h
    · exact ih y (by simpa using h)
    · simp at h; subst h; assumption
def Rise (l : List Tx8) : Prop := l.Pairwise (· < ·)
theorem mem_iff (x : Tx8) (l : List Tx8) (h : Rise l) : x ∈ l ↔ l[pl x l]? = some x := by
  constructor
  · intro hm
    induction l with
    | nil => simp at hm
    | cons y r ih =>
      have hp := List.pairwise_cons.1 h
      by_cases e : x = y
      · subst e; simp [pl, lt_irrefl]
      · have hm' : x ∈ r := by simpa [e] using hm
        have := hp.1 x hm'
        simp only [pl, if_pos this, List.getElem?_cons_succ]
        exact ih hp.2 hm'
  · intro h; exact List.mem_of_getElem? h

/-- A file and its path. -/
structure En where
  path : ByteArray
  body : ByteArray
  time : Int
  seq : Int
def key (e : En) : Tx8 := e.path.data.toList
def ks (es : List En) : List Tx8 := es.map key
def Ok (es : List En) : Prop := Rise (ks es)
def at' (x : Tx8) (es : List En) : Nat := pl x (ks es)
def has (x : Tx8) (es : List En) : Bool := decide (x ∈ ks es)
def put (e : En) (es : List En) : List En := es.take (at' (key e) es) ++ e :: es.drop (if has (key e) es then at' (key e) es + 1 else at' (key e) es)
def rem (x : Tx8) (es : List En) : List En := es.take (at' x es) ++ es.drop (at' x es + 1)
def get (x : Tx8) (es : List En) : Option En := if has x es then es[at' x es]? else none
def lst (pre : Tx8) (es : List En) : List En := es.filter fun e => pre.isPrefixOf (key e)
theorem ks_len (es : List En) : (ks es).length = es.length := by simp [ks]
theorem at_le (x : Tx8) (es : List En) : at' x es ≤ es.length := by unfold at'; rw [← ks_len]; exact pl_le _ _
theorem has_lt (x : Tx8) (es : List En) (h : Ok es) (hh : has x es = true) : ∃ e, es[at' x es]? = some e ∧ key e = x := by
  have := (mem_iff x _ h).1 (of_decide_eq_true hh)
  unfold ks at this
  rw [List.getElem?_map] at this
  cases he : es[at' x es]? with
  | none => unfold at' ks at he; rw [he] at this; simp at this
  | some e => unfold at' ks at he; rw [he] at this; simp at this; exact ⟨e, rfl, this⟩
theorem not_lt_cons' (R : List En) (e : En) (h2 : ∀ p ∈ R, key e < key p) : ∀ p ∈ e :: R, ¬ key p < key e := by
  intro p hp
  rcases List.mem_cons.1 hp with rfl | hp
  · exact lt_irrefl _
  · exact lt_asymm (h2 p hp)
theorem at_pl (A R : List En) (x : Tx8) (h1 : ∀ p ∈ A, key p < x) (h2 : ∀ p ∈ R, ¬ key p < x) : at' x (A ++ R) = A.length := by
  unfold at' ks
  rw [List.map_append, pl_app]
  · simp
  · intro a ha; obtain ⟨p, hp, rfl⟩ := List.mem_map.1 ha; exact h1 p hp
  · intro a ha; obtain ⟨p, hp, rfl⟩ := List.mem_map.1 ha; exact h2 p hp
theorem split_no (es : List En) (x : Tx8) (h : Ok es) (hn : has x es = false) : ∃ A R, es = A ++ R ∧ (∀ p ∈ A, key p < x) ∧ ∀ p ∈ R, x < key p := by
  have hn2 : x ∉ ks es := of_decide_eq_false hn
  clear hn
  induction es with
  | nil => exact ⟨[], [], rfl, by simp, by simp⟩
  | cons p r ih =>
    have hp := List.pairwise_cons.1 (show (key p :: ks r).Pairwise (· < ·) from h)
    have hn3 : x ≠ key p ∧ x ∉ ks r := by
      refine ⟨fun e => hn2 ?_, fun e => hn2 ?_⟩
      · rw [e]; simp [ks]
      · simp only [ks, List.map_cons, List.mem_cons]; exact .inr e
    by_cases hx : key p < x
    · obtain ⟨A, R, rfl, h1, h2⟩ := ih hp.2 hn3.2
      exact ⟨p :: A, R, rfl, fun q hq => by rcases List.mem_cons.1 hq with rfl | hq; exact hx; exact h1 q hq, h2⟩
    · refine ⟨[], p :: r, rfl, by simp, ?_⟩
      have h0 : x < key p := by
        rcases lt_tri x (key p) with h | h | h
        · exact h
        · exact absurd h hn3.1
        · exact absurd h hx
      intro q hq
      rcases List.mem_cons.1 hq with rfl | hq
      · exact h0
      · exact lt_trans h0 (hp.1 (key q) (List.mem_map.2 ⟨q, hq, rfl⟩))
theorem split_yes (es : List En) (x : Tx8) (h : Ok es) (hm : has x es = true) : ∃ A e R, es = A ++ e :: R ∧ key e = x ∧ (∀ p ∈ A, key p < x) ∧ ∀ p ∈ R, x < key p := by
  obtain ⟨e, he, rfl⟩ := List.mem_map.1 (of_decide_eq_true hm)
  obtain ⟨A, R, rfl⟩ := List.append_of_mem he
  refine ⟨A, e, R, rfl, rfl, ?_, ?_⟩
  · intro p hp
    unfold Ok Rise ks at h
    rw [List.map_append, List.pairwise_append] at h
    exact h.2.2 (key p) (List.mem_map.2 ⟨p, hp, rfl⟩) (key e) (by simp)
  · intro p hp
    unfold Ok Rise ks at h
    rw [List.map_append, List.pairwise_append] at h
    exact (List.pairwise_cons.1 h.2.1).1 (key p) (List.mem_map.2 ⟨p, hp, rfl⟩)
theorem ok_join (A R : List En) (e : En) (h : Ok (A ++ R)) (h1 : ∀ p ∈ A, key p < key e) (h2 : ∀ p ∈ R, key e < key p) : Ok (A ++ e :: R) := by
  unfold Ok Rise ks at *
  rw [List.map_append, List.pairwise_append] at *
  refine ⟨h.1, ?_, ?_⟩
  · refine List.pairwise_cons.2 ⟨fun y hy => ?_, h.2.1⟩
    obtain ⟨p, hp, rfl⟩ := List.mem_map.1 hy
    exact h2 p hp
  · intro a ha b hb
    obtain ⟨p, hp, rfl⟩ := List.mem_map.1 ha
    rcases List.mem_cons.1 (show b ∈ key e :: R.map key from hb) with rfl | hb
    · exact h1 p hp
    · exact h.2.2 _ ha _ hb
theorem ok_cut (A R : List En) (e : En) (h : Ok (A ++ e :: R)) : Ok (A ++ R) := by
  unfold Ok Rise ks at *
  refine h.sublist ?_
  rw [List.map_append, List.map_append]
  exact List.Sublist.append_left (List.sublist_cons_self _ _) _
/-- What Put makes, in parts. -/
theorem put_no (es : List En) (e : En) (h : Ok es) (hn : has (key e) es = false) : ∃ A R, es = A ++ R ∧ put e es = A ++ e :: R ∧ Ok (put e es) ∧ (put e es).length = es.length + 1 ∧ (∀ p ∈ A, key p < key e) ∧ ∀ p ∈ R, key e < key p := by
  obtain ⟨A, R, rfl, h1, h2⟩ := split_no es (key e) h hn
  have e1 : put e (A ++ R) = A ++ e :: R := by
    unfold put
    rw [hn, at_pl A R (key e) h1 (fun p hp => lt_asymm (h2 p hp))]
    simp
  exact ⟨A, R, rfl, e1, by rw [e1]; exact ok_join A R e h h1 h2, by rw [e1]; simp; omega, h1, h2⟩
theorem put_yes (es : List En) (e : En) (h : Ok es) (hm : has (key e) es = true) : ∃ A f R, es = A ++ f :: R ∧ key f = key e ∧ put e es = A ++ e :: R ∧ Ok (put e es) ∧ (put e es).length = es.length ∧ (∀ p ∈ A, key p < key e) ∧ ∀ p ∈ R, key e < key p := by
  obtain ⟨A, f, R, rfl, hk, h1, h2⟩ := split_yes es (key e) h hm
  have e1 : put e (A ++ f :: R) = A ++ e :: R := by
    unfold put
    rw [hm, at_pl A (f :: R) (key e) h1 (by rw [← hk] at *; exact not_lt_cons' R f h2)]
    simp
  exact ⟨A, f, R, rfl, hk, e1, by rw [e1]; exact ok_join A R e (ok_cut A R f h) h1 h2, by rw [e1]; simp, h1, h2⟩
theorem rem_yes (es : List En) (x : Tx8) (h : Ok es) (hm : has x es = true) : ∃ A f R, es = A ++ f :: R ∧ key f = x ∧ rem x es = A ++ R ∧ Ok (rem x es) ∧ (rem x es).length + 1 = es.length ∧ (∀ p ∈ A, key p < x) ∧ ∀ p ∈ R, x < key p := by
  obtain ⟨A, f, R, rfl, hk, h1, h2⟩ := split_yes es x h hm
  have e1 : rem x (A ++ f :: R) = A ++ R := by
    unfold rem
    rw [at_pl A (f :: R) x h1 (by rw [← hk] at *; exact not_lt_cons' R f h2)]
    simp
  exact ⟨A, f, R, rfl, hk, e1, by rw [e1]; exact ok_cut A R f h, by rw [e1]; simp; omega, h1, h2⟩
theorem put_ok (es : List En) (e : En) (h : Ok es) : Ok (put e es) := by
  cases hh : has (key e) es
  · obtain ⟨_, _, _, _, h1, _⟩ := put_no es e h hh; exact h1
  · obtain ⟨_, _, _, _, _, _, h1, _⟩ := put_yes es e h hh; exact h1

end Go.Proofs.YtnggablpkgbpaaaDoor.Dk
namespace Go.Proofs.YtnggablpkgbpaaaDoor
end Go.Proofs.YtnggablpkgbpaaaDoor
