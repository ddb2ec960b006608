/-
  Windows and gates as numbers (plain).
-/
import Derived.Test.YthbidfcfkjamdaaProg
namespace Go.Proofs.Ythbidfcfkjamdaa
namespace Fw

/-- A size that may be. -/
def In (s : Int) : Prop := -2147483647 ≤ s ∧ s ≤ 2147483647
def add (s n : Int) : Int × Int := if n < 1 then (1, s) else if 2147483647 - s < n then (5, s) else (0, s + n)
def shift (s n : Int) : Int × Int := if n < -2147483647 ∨ 2147483647 < n ∨ s + n < -2147483647 ∨ 2147483647 < s + n then (5, s) else (0, s + n)
def take (s n : Int) : Int × Int := if n < 0 then (1, s) else if 0 < n ∧ s < n then (5, s) else (0, s - n)

theorem add_in {s n r s' : Int} (h : add s n = (r, s')) (hs : In s) : In s' := by
  unfold add at h
  unfold In at *
  repeat' split at h
  all_goals (obtain ⟨_, rfl⟩ := Prod.mk.inj h; omega)
theorem shift_in {s n r s' : Int} (h : shift s n = (r, s')) (hs : In s) : In s' := by
  unfold shift at h
  unfold In at *
  repeat' split at h
  all_goals (obtain ⟨_, rfl⟩ := Prod.mk.inj h; omega)
theorem take_in {s n r s' : Int} (h : take s n = (r, s')) (hs : In s) : In s' := by
  unfold take at h
  unfold In at *
  repeat' split at h
  all_goals (obtain ⟨_, rfl⟩ := Prod.mk.inj h; omega)
/-- As much as fits can be taken. -/
theorem take_ok {s k : Int} (h0 : 0 ≤ k) (h : k ≤ max s 0) : take s k = (0, s - k) := by
  unfold take
  rw [if_neg (by omega), if_neg (by omega)]

/-- A gate: its size, what is left, what is held. -/
structure G where
  size : Int
  left : Int
  held : Int
structure Ok (g : G) : Prop where
  s1 : 1 ≤ g.size
  s2 : g.size ≤ 2147483647
  l : 0 ≤ g.left
  h : 0 ≤ g.held
  all : g.left + g.held ≤ g.size
def got (g : G) (n : Int) : Int × G := if n < 0 then (1, g) else if g.left < n then (5, g) else (0, ⟨g.size, g.left - n, g.held + n⟩)
def used (g : G) (n : Int) : Int × G := if n < 0 then (1, g) else if g.held < n then (5, g) else (0, ⟨g.size, g.left, g.held - n⟩)
def free (g : G) : Int := g.size - g.left - g.held
def grant (g : G) : Int × G := if 2 * free g < g.size then (0, g) else (free g, ⟨g.size, g.left + free g, g.held⟩)
theorem ok_new {s : Int} (h1 : 1 ≤ s) (h2 : s ≤ 2147483647) : Ok ⟨s, s, 0⟩ := ⟨h1, h2, by simp only; omega, by simp, by simp⟩
theorem got_ok {g g' : G} {n r : Int} (h : got g n = (r, g')) (hg : Ok g) : Ok g' := by
  obtain ⟨s, l, e⟩ := g
  obtain ⟨a, b, c, d, f⟩ := hg
  unfold got at h
  simp only at *
  repeat' split at h
  all_goals (obtain ⟨_, rfl⟩ := Prod.mk.inj h; constructor <;> simp only <;> omega)
theorem used_ok {g g' : G} {n r : Int} (h : used g n = (r, g')) (hg : Ok g) : Ok g' := by
  obtain ⟨s, l, e⟩ := g
  obtain ⟨a, b, c, d, f⟩ := hg
  unfold used at h
  simp only at *
  repeat' split at h
  all_goals (obtain ⟨_, rfl⟩ := Prod.mk.inj h; constructor <;> simp only <;> omega)
theorem grant_ok {g g' : G} {r : Int} (h : grant g = (r, g')) (hg : Ok g) : Ok g' := by
  obtain ⟨s, l, e⟩ := g
  obtain ⟨a, b, c, d, f⟩ := hg
  unfold grant free at h
  simp only at *
  repeat' split at h
  all_goals (obtain ⟨_, rfl⟩ := Prod.mk.inj h; constructor <;> simp only <;> omega)

/-- How much fits: as the code goes, and as the document does. -/
def fits (n : Int) (l : List Int) : Int := max (l.foldl min n) 0
def fitsD (k : Int) (l : List Int) : Int := l.foldl (fun k s => min k (max s 0)) k
theorem fits_eq (l : List Int) (n : Int) : fits n l = fitsD (max n 0) l := by
  induction l generalizing n with
  | nil => rfl
  | cons s l ih =>
    have := ih (min n s)
    unfold fits fitsD at *
    simp only [List.foldl_cons]
    rw [this]
    congr 1
    omega
theorem foldl_le (l : List Int) (n : Int) : l.foldl min n ≤ n ∧ ∀ s ∈ l, l.foldl min n ≤ s := by
  induction l generalizing n with
  | nil => simp
  | cons s l ih =>
    obtain ⟨h1, h2⟩ := ih (min n s)
    refine ⟨by simp only [List.foldl_cons]; omega, fun t ht => ?_⟩
    simp only [List.foldl_cons]
    rcases List.mem_cons.1 ht with rfl | ht
    · omega
    · exact h2 t ht
theorem fits_le {l : List Int} {n s : Int} (h : s ∈ l) : 0 ≤ fits n l ∧ fits n l ≤ max s 0 := by
  have := (foldl_le l n).2 s h
  unfold fits
  omega
theorem fits_zero {l : List Int} {n : Int} (h : (0 : Int) ∈ l) : fits n l = 0 := by
  have := (foldl_le l n).2 0 h
  unfold fits
  omega

end Fw
end Go.Proofs.Ythbidfcfkjamdaa
