/-
  Who waits, and whose turn it is: plain.
-/
import Derived.WalkKit
namespace Go.Proofs.YtekpjbhhbklboaaDoor
namespace Pr

/-- A line: who waits, how, and who was answered last of each urgency. -/
structure Ln where
  ids : List Int
  how : List (Nat × Bool)
  was : List Bool
  last : List Int
structure Ok (l : Ln) : Prop where
  hl : l.how.length = l.ids.length
  nd : l.ids.Nodup
  u7 : ∀ h ∈ l.how, h.1 ≤ 7
  w8 : l.was.length = 8
  l8 : l.last.length = 8
/-- Where one stands. -/
def pl (ids : List Int) (id : Int) : Option Nat := ids.findIdx? (· == id)
def plI (ids : List Int) (id : Int) : Int := match pl ids id with
  | some i => (i : Int)
  | none => -1
/-- How one waits. -/
def wt (l : Ln) (id : Int) : Option (Nat × Bool) := match pl l.ids id with
  | some i => l.how[i]?
  | none => none
def kept (u : Int) : Nat := (min (max u 0) 7).toNat
theorem kept_le (u : Int) : kept u ≤ 7 := by unfold kept; omega
theorem kept_int (u : Int) : ((kept u : Nat) : Int) = min (max u 0) 7 := by unfold kept; omega

theorem pl_at {ids : List Int} {id : Int} {i : Nat} (h : pl ids id = some i) : ids[i]? = some id := by
  unfold pl at h
  rw [List.findIdx?_eq_some_iff_getElem] at h
  obtain ⟨h1, h2, _⟩ := h
  rw [List.getElem?_eq_getElem h1]
  simpa using h2
theorem pl_lt {ids : List Int} {id : Int} {i : Nat} (h : pl ids id = some i) : i < ids.length := (List.getElem?_eq_some_iff.1 (pl_at h)).1
theorem pl_no {ids : List Int} {id : Int} (h : pl ids id = none) : id ∉ ids := by
  unfold pl at h
  rw [List.findIdx?_eq_none_iff] at h
  intro hm
  have := h id hm
  simp at this
theorem pl_none {ids : List Int} {id : Int} (h : id ∉ ids) : pl ids id = none := by
  unfold pl
  rw [List.findIdx?_eq_none_iff]
  intro x hx
  simp
  rintro rfl
  exact h hx
theorem pl_of {ids : List Int} {id : Int} {i : Nat} (hn : ids.Nodup) (h : ids[i]? = some id) : pl ids id = some i := by
  cases hp : pl ids id with
  | none => exact absurd (List.mem_of_getElem? h) (pl_no hp)
  | some j =>
    have h1 := pl_at hp
    obtain ⟨a1, a2⟩ := List.getElem?_eq_some_iff.1 h
    obtain ⟨b1, b2⟩ := List.getElem?_eq_some_iff.1 h1
    rw [(List.getElem_inj hn).1 (b2.trans a2.symm)]
theorem wt_at {l : Ln} (h : Ok l) {id : Int} {i : Nat} (hp : pl l.ids id = some i) : ∃ u p, wt l id = some (u, p) ∧ l.how[i]? = some (u, p) ∧ u ≤ 7 := by
  have hlt := pl_lt hp
  rw [← h.hl] at hlt
  obtain ⟨x, hx⟩ : ∃ x, l.how[i]? = some x := ⟨_, List.getElem?_eq_getElem hlt⟩
  refine ⟨x.1, x.2, ?_, hx, h.u7 x (List.mem_of_getElem? hx)⟩
  unfold wt
  rw [hp]
  exact hx
theorem wt_none {l : Ln} {id : Int} (hp : pl l.ids id = none) : wt l id = none := by unfold wt; rw [hp]
theorem wt_iff {l : Ln} (h : Ok l) {id : Int} : wt l id = none ↔ pl l.ids id = none := by
  cases hp : pl l.ids id with
  | none => simp [wt_none hp]
  | some i => obtain ⟨u, p, h1, _⟩ := wt_at h hp; simp [h1]

/-- One waits, so. -/
def set (l : Ln) (id : Int) (x : Nat × Bool) : Ln := match pl l.ids id with
  | none => { l with ids := l.ids ++ [id], how := l.how ++ [x] }
  | some i => { l with how := l.how.set i x }
/-- One waits no longer. -/
def rem (l : Ln) (id : Int) : Ln := match pl l.ids id with
  | none => l
  | some i => { l with ids := (l.ids.set i (l.ids.getD (l.ids.length - 1) 0)).take (l.ids.length - 1), how := (l.how.set i (l.how.getD (l.how.length - 1) (0, false))).take (l.how.length - 1) }

theorem set_ok {l : Ln} (h : Ok l) (id : Int) (x : Nat × Bool) (hx : x.1 ≤ 7) : Ok (set l id x) := by
  unfold set
  cases hp : pl l.ids id with
  | none =>
    refine ⟨by simp [h.hl], ?_, ?_, h.w8, h.l8⟩
    · refine List.nodup_append.2 ⟨h.nd, by simp, ?_⟩
      intro a ha b hb e
      obtain rfl : b = id := by simpa using hb
      exact pl_no hp (e ▸ ha)
    · intro y hy
      rcases List.mem_append.1 hy with hy | hy
      · exact h.u7 y hy
      · obtain rfl : y = x := by simpa using hy
        exact hx
  | some i =>
    refine ⟨by simp [h.hl], h.nd, ?_, h.w8, h.l8⟩
    intro y hy
    rcases List.mem_or_eq_of_mem_set hy with hy | rfl
    · exact h.u7 y hy
    · exact hx
theorem wt_set {l : Ln} (h : Ok l) (id : Int) (x : Nat × Bool) (z : Int) : wt (set l id x) z = if z = id then some x else wt l z := by
  unfold set
  cases hp : pl l.ids id with
  | none =>
    by_cases hz : z = id
    · subst hz
      rw [if_pos rfl]
      unfold wt
      have e : pl (l.ids ++ [z]) z = some l.ids.length := by
        apply pl_of
        · refine List.nodup_append.2 ⟨h.nd, by simp, ?_⟩
          intro a ha b hb e
          obtain rfl : b = z := by simpa using hb
          exact pl_no hp (e ▸ ha)
        · simp
      simp only [e]
      rw [← h.hl]
      simp
    · rw [if_neg hz]
      unfold wt
      have hnd : (l.ids ++ [id]).Nodup := by
        refine List.nodup_append.2 ⟨h.nd, by simp, ?_⟩
        intro a ha b hb e
        obtain rfl : b = id := by simpa using hb
        exact pl_no hp (e ▸ ha)
      cases hq : pl l.ids z with
      | none =>
        have : pl (l.ids ++ [id]) z = none := pl_none (by
          intro hm
          rcases List.mem_append.1 hm with hm | hm
          · exact pl_no hq hm
          · exact hz (by simpa using hm))
        simp only [this]
      | some j =>
        have hj := pl_lt hq
        have : pl (l.ids ++ [id]) z = some j := pl_of hnd (by rw [List.getElem?_append_left hj]; exact pl_at hq)
        simp only [this]
        rw [List.getElem?_append_left (by rw [h.hl]; exact hj)]
  | some i =>
    by_cases hz : z = id
    · subst hz
      rw [if_pos rfl]
      unfold wt
      simp only [hp]
      rw [List.getElem?_set_self (by rw [h.hl]; exact pl_lt hp)]
    · rw [if_neg hz]
      unfold wt
      cases hq : pl l.ids z with
      | none => rfl
      | some j =>
        simp only
        rw [List.getElem?_set_ne]
        rintro rfl
        have h1 := pl_at hp
        rw [pl_at hq] at h1
        injection h1 with h1
        exact hz h1
theorem set_len {l : Ln} (h : Ok l) (id : Int) (x : Nat × Bool) : (set l id x).ids.length = if wt l id = none then l.ids.length + 1 else l.ids.length := by
  unfold set
  cases hp : pl l.ids id with
  | none => rw [if_pos (wt_none hp)]; simp
  | some i => obtain ⟨u, p, h1, _⟩ := wt_at h hp; rw [h1]; simp

/-- The least of those that were looked at. -/
def low (a : Option Int) (id : Int) : Option Int := match a with
  | none => some id
  | some b => if id < b then some id else some b
/-- The most urgent one of those that can. -/
def urg (l : Ln) (can : List Int) (u : Nat) : Nat := can.foldl (fun u id => match wt l id with
  | some x => min u x.1
  | none => u) u
structure St where
  whole : Option Int
  least : Option Int
  behind : Option Int
def look (l : Ln) (u : Nat) (was : Bool) (last : Int) (s : St) (id : Int) : St := match wt l id with
  | none => s
  | some x => if x.1 ≠ u then s else if x.2 = false then { s with whole := low s.whole id }
    else { s with least := low s.least id, behind := if was = true ∧ last < id then low s.behind id else s.behind }
/-- Whose turn it is, and the line behind it. -/
def next (l : Ln) (can : List Int) : Int × Ln :=
  if urg l can 8 = 8 then (-1, l)
  else
    let u := urg l can 8
    let s := can.foldl (look l u (l.was.getD u false) (l.last.getD u 0)) ⟨none, none, none⟩
    match s.whole with
    | some a => (a, l)
    | none => ((match s.behind with | some a => a | none => s.least.getD 0), { l with was := l.was.set u true, last := l.last.set u (match s.behind with | some a => a | none => s.least.getD 0) })

theorem urg_le (l : Ln) (can : List Int) (u : Nat) : urg l can u ≤ u := by
  induction can generalizing u with
  | nil => exact Nat.le_refl _
  | cons c r ih =>
    unfold urg
    simp only [List.foldl_cons]
    refine Nat.le_trans (ih _) ?_
    split
    · omega
    · exact Nat.le_refl _
end Pr
end Go.Proofs.YtekpjbhhbklboaaDoor
