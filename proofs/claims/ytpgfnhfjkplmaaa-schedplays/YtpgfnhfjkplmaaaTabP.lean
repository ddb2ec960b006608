/-
  Tables of fields: the plain theory.
-/
import Derived.WalkKit
namespace Go.Proofs.Ytpgfnhfjkplmaaa
namespace Tb

/-- A field is its name and its value; its weight. -/
def wt (f : (List UInt8 × List UInt8)) : Nat := 32 + f.1.length + f.2.length
def size (fs : List (List UInt8 × List UInt8)) : Nat := (fs.map wt).sum
theorem size_nil : size [] = 0 := rfl
theorem size_cons (f : (List UInt8 × List UInt8)) (r : List (List UInt8 × List UInt8)) : size (f :: r) = wt f + size r := by simp [size]
theorem size_append (a b : List (List UInt8 × List UInt8)) : size (a ++ b) = size a + size b := by simp [size]
theorem size_take (fs : List (List UInt8 × List UInt8)) (i : Nat) (f : (List UInt8 × List UInt8)) (h : fs[i]? = some f) : size (fs.take (i + 1)) = size (fs.take i) + wt f := by
  rw [List.take_add_one, h, size_append]; simp [size]
theorem size_take_le (fs : List (List UInt8 × List UInt8)) (i : Nat) : size (fs.take i) ≤ size fs := by
  conv => rhs; rw [← List.take_append_drop i fs, size_append]
  omega
theorem wt_pos (f : (List UInt8 × List UInt8)) : 32 ≤ wt f := by unfold wt; omega
theorem size_len (fs : List (List UInt8 × List UInt8)) : 32 * fs.length ≤ size fs := by
  induction fs with
  | nil => simp [size]
  | cons f r ih => have := wt_pos f; rw [size_cons, List.length_cons]; omega
/-- The cells of a row of fields. -/
def cells (fs : List (List UInt8 × List UInt8)) : List Value := fs.flatMap fun f => [.string ⟨f.1.toArray⟩, .string ⟨f.2.toArray⟩]
theorem cells_nil : cells [] = [] := rfl
theorem cells_cons (f : (List UInt8 × List UInt8)) (r : List (List UInt8 × List UInt8)) : cells (f :: r) = .string ⟨f.1.toArray⟩ :: .string ⟨f.2.toArray⟩ :: cells r := rfl
theorem cells_append (a b : List (List UInt8 × List UInt8)) : cells (a ++ b) = cells a ++ cells b := by simp [cells]
theorem cells_length (fs : List (List UInt8 × List UInt8)) : (cells fs).length = fs.length * 2 := by
  induction fs with
  | nil => rfl
  | cons f r ih => rw [cells_cons, List.length_cons, List.length_cons, List.length_cons, ih]; omega
theorem cells_at (fs : List (List UInt8 × List UInt8)) : ∀ (i : Nat) (f : (List UInt8 × List UInt8)), fs[i]? = some f → (cells fs)[i * 2]? = some (.string ⟨f.1.toArray⟩) ∧ (cells fs)[i * 2 + 1]? = some (.string ⟨f.2.toArray⟩) := by
  induction fs with
  | nil => intro i f h; simp at h
  | cons g r ih =>
    intro i f h
    cases i with
    | zero => simp at h; subst h; exact ⟨rfl, rfl⟩
    | succ i =>
      have := ih i f (by simpa using h)
      rw [cells_cons, show (i + 1) * 2 = i * 2 + 1 + 1 by omega, show i * 2 + 1 + 1 + 1 = (i * 2 + 1) + 1 + 1 by omega]
      simpa using this
theorem cells_one (fs : List (List UInt8 × List UInt8)) : ∀ u ∈ cells fs, u.oneCell' = true := by
  intro u hu
  simp only [cells, List.mem_flatMap, List.mem_cons, List.not_mem_nil, or_false] at hu
  obtain ⟨f, _, h | h⟩ := hu <;> subst h <;> rfl

/-- The newest ones that fit. -/
def shr (m : Nat) : List (List UInt8 × List UInt8) → List (List UInt8 × List UInt8)
  | [] => []
  | f :: r => if wt f ≤ m then f :: shr (m - wt f) r else []
theorem shr_size (fs : List (List UInt8 × List UInt8)) : ∀ m, size (shr m fs) ≤ m := by
  induction fs with
  | nil => intro m; simp [shr, size]
  | cons f r ih =>
    intro m
    unfold shr
    split
    · have := ih (m - wt f); rw [size_cons]; omega
    · simp [size]
theorem shr_all (fs : List (List UInt8 × List UInt8)) : ∀ m, size fs ≤ m → shr m fs = fs := by
  induction fs with
  | nil => intro m _; rfl
  | cons f r ih =>
    intro m h
    rw [size_cons] at h
    unfold shr
    rw [if_pos (by omega), ih _ (by omega)]
theorem shr_snoc (a : List (List UInt8 × List UInt8)) (f : (List UInt8 × List UInt8)) : ∀ m, m < size (a ++ [f]) → shr m (a ++ [f]) = shr m a := by
  induction a with
  | nil =>
    intro m h
    simp only [List.nil_append, size_cons, size_nil] at h
    simp only [List.nil_append, shr]
    rw [if_neg (by omega)]
  | cons g r ih =>
    intro m h
    rw [List.cons_append, size_cons] at h
    simp only [List.cons_append, shr]
    split
    · rw [ih _ (by omega)]
    · rfl
theorem shr_prefix (fs : List (List UInt8 × List UInt8)) : ∀ m, ∃ k, k ≤ fs.length ∧ shr m fs = fs.take k := by
  induction fs with
  | nil => intro m; exact ⟨0, by simp, rfl⟩
  | cons f r ih =>
    intro m
    unfold shr
    split
    · obtain ⟨k, hk, e⟩ := ih (m - wt f)
      exact ⟨k + 1, by simpa using hk, by rw [e]; rfl⟩
    · exact ⟨0, by simp, rfl⟩
/-- A field is laid in. -/
def add (most : Nat) (fs : List (List UInt8 × List UInt8)) (f : (List UInt8 × List UInt8)) : List (List UInt8 × List UInt8) := if most < wt f then [] else f :: shr (most - wt f) fs
theorem add_size (most : Nat) (fs : List (List UInt8 × List UInt8)) (f : (List UInt8 × List UInt8)) : size (add most fs f) ≤ most := by
  unfold add
  split
  · simp [size]
  · have := shr_size fs (most - wt f); rw [size_cons]; omega

/-- The static fields. -/
def stat : List (List UInt8 × List UInt8) := [
  ([58, 97, 117, 116, 104, 111, 114, 105, 116, 121], []),
  ([58, 109, 101, 116, 104, 111, 100], [71, 69, 84]),
  ([58, 109, 101, 116, 104, 111, 100], [80, 79, 83, 84]),
  ([58, 112, 97, 116, 104], [47]),
  ([58, 112, 97, 116, 104], [47, 105, 110, 100, 101, 120, 46, 104, 116, 109, 108]),
  ([58, 115, 99, 104, 101, 109, 101], [104, 116, 116, 112]),
  ([58, 115, 99, 104, 101, 109, 101], [104, 116, 116, 112, 115]),
  ([58, 115, 116, 97, 116, 117, 115], [50, 48, 48]),
  ([58, 115, 116, 97, 116, 117, 115], [50, 48, 52]),
  ([58, 115, 116, 97, 116, 117, 115], [50, 48, 54]),
  ([58, 115, 116, 97, 116, 117, 115], [51, 48, 52]),
  ([58, 115, 116, 97, 116, 117, 115], [52, 48, 48]),
  ([58, 115, 116, 97, 116, 117, 115], [52, 48, 52]),
  ([58, 115, 116, 97, 116, 117, 115], [53, 48, 48]),
  ([97, 99, 99, 101, 112, 116, 45, 99, 104, 97, 114, 115, 101, 116], []),
  ([97, 99, 99, 101, 112, 116, 45, 101, 110, 99, 111, 100, 105, 110, 103], [103, 122, 105, 112, 44, 32, 100, 101, 102, 108, 97, 116, 101]),
  ([97, 99, 99, 101, 112, 116, 45, 108, 97, 110, 103, 117, 97, 103, 101], []),
  ([97, 99, 99, 101, 112, 116, 45, 114, 97, 110, 103, 101, 115], []),
  ([97, 99, 99, 101, 112, 116], []),
  ([97, 99, 99, 101, 115, 115, 45, 99, 111, 110, 116, 114, 111, 108, 45, 97, 108, 108, 111, 119, 45, 111, 114, 105, 103, 105, 110], []),
  ([97, 103, 101], []),
  ([97, 108, 108, 111, 119], []),
  ([97, 117, 116, 104, 111, 114, 105, 122, 97, 116, 105, 111, 110], []),
  ([99, 97, 99, 104, 101, 45, 99, 111, 110, 116, 114, 111, 108], []),
  ([99, 111, 110, 116, 101, 110, 116, 45, 100, 105, 115, 112, 111, 115, 105, 116, 105, 111, 110], []),
  ([99, 111, 110, 116, 101, 110, 116, 45, 101, 110, 99, 111, 100, 105, 110, 103], []),
  ([99, 111, 110, 116, 101, 110, 116, 45, 108, 97, 110, 103, 117, 97, 103, 101], []),
  ([99, 111, 110, 116, 101, 110, 116, 45, 108, 101, 110, 103, 116, 104], []),
  ([99, 111, 110, 116, 101, 110, 116, 45, 108, 111, 99, 97, 116, 105, 111, 110], []),
  ([99, 111, 110, 116, 101, 110, 116, 45, 114, 97, 110, 103, 101], []),
  ([99, 111, 110, 116, 101, 110, 116, 45, 116, 121, 112, 101], []),
  ([99, 111, 111, 107, 105, 101], []),
  ([100, 97, 116, 101], []),
  ([101, 116, 97, 103], []),
  ([101, 120, 112, 101, 99, 116], []),
  ([101, 120, 112, 105, 114, 101, 115], []),
  ([102, 114, 111, 109], []),
  ([104, 111, 115, 116], []),
  ([105, 102, 45, 109, 97, 116, 99, 104], []),
  ([105, 102, 45, 109, 111, 100, 105, 102, 105, 101, 100, 45, 115, 105, 110, 99, 101], []),
  ([105, 102, 45, 110, 111, 110, 101, 45, 109, 97, 116, 99, 104], []),
  ([105, 102, 45, 114, 97, 110, 103, 101], []),
  ([105, 102, 45, 117, 110, 109, 111, 100, 105, 102, 105, 101, 100, 45, 115, 105, 110, 99, 101], []),
  ([108, 97, 115, 116, 45, 109, 111, 100, 105, 102, 105, 101, 100], []),
  ([108, 105, 110, 107], []),
  ([108, 111, 99, 97, 116, 105, 111, 110], []),
  ([109, 97, 120, 45, 102, 111, 114, 119, 97, 114, 100, 115], []),
  ([112, 114, 111, 120, 121, 45, 97, 117, 116, 104, 101, 110, 116, 105, 99, 97, 116, 101], []),
  ([112, 114, 111, 120, 121, 45, 97, 117, 116, 104, 111, 114, 105, 122, 97, 116, 105, 111, 110], []),
  ([114, 97, 110, 103, 101], []),
  ([114, 101, 102, 101, 114, 101, 114], []),
  ([114, 101, 102, 114, 101, 115, 104], []),
  ([114, 101, 116, 114, 121, 45, 97, 102, 116, 101, 114], []),
  ([115, 101, 114, 118, 101, 114], []),
  ([115, 101, 116, 45, 99, 111, 111, 107, 105, 101], []),
  ([115, 116, 114, 105, 99, 116, 45, 116, 114, 97, 110, 115, 112, 111, 114, 116, 45, 115, 101, 99, 117, 114, 105, 116, 121], []),
  ([116, 114, 97, 110, 115, 102, 101, 114, 45, 101, 110, 99, 111, 100, 105, 110, 103], []),
  ([117, 115, 101, 114, 45, 97, 103, 101, 110, 116], []),
  ([118, 97, 114, 121], []),
  ([118, 105, 97], []),
  ([119, 119, 119, 45, 97, 117, 116, 104, 101, 110, 116, 105, 99, 97, 116, 101], [])]
theorem stat_length : stat.length = 61 := by decide +kernel
def all (fs : List (List UInt8 × List UInt8)) : List (List UInt8 × List UInt8) := stat ++ fs
theorem all_length (fs : List (List UInt8 × List UInt8)) : (all fs).length = 61 + fs.length := by rw [all, List.length_append, stat_length]
/-- The field of an index. -/
def at? (fs : List (List UInt8 × List UInt8)) (i : Int) : Option (List UInt8 × List UInt8) := if 1 ≤ i then (all fs)[(i - 1).toNat]? else none
theorem at_none (fs : List (List UInt8 × List UInt8)) (i : Int) (h : i < 1 ∨ ((61 + fs.length : Nat) : Int) < i) : at? fs i = none := by
  unfold at?
  split
  · rw [List.getElem?_eq_none (by rw [all_length]; omega)]
  · rfl
theorem at_some (fs : List (List UInt8 × List UInt8)) (i : Int) (h0 : 1 ≤ i) (h1 : i ≤ ((61 + fs.length : Nat) : Int)) : ∃ f, at? fs i = some f ∧ (all fs)[(i - 1).toNat]? = some f := by
  have hl : (i - 1).toNat < (all fs).length := by rw [all_length]; omega
  exact ⟨_, by unfold at?; rw [if_pos h0, List.getElem?_eq_getElem hl], List.getElem?_eq_getElem hl⟩
/-- The index of a field. -/
def findGo (f : (List UInt8 × List UInt8)) : List (List UInt8 × List UInt8) → Nat → Nat → Nat × Bool
  | [], _, named => (named, false)
  | g :: r, i, named => if g = f then (i + 1, true) else findGo f r (i + 1) (if g.1 = f.1 ∧ named = 0 then i + 1 else named)
def find (fs : List (List UInt8 × List UInt8)) (f : (List UInt8 × List UInt8)) : Nat × Bool := findGo f (all fs) 0 0
theorem findGo_le (f : (List UInt8 × List UInt8)) (l : List (List UInt8 × List UInt8)) : ∀ i named, named ≤ i → (findGo f l i named).1 ≤ i + l.length := by
  induction l with
  | nil => intro i named h; simpa [findGo] using h
  | cons g r ih =>
    intro i named h
    unfold findGo
    rw [List.length_cons]
    split
    · simp
    · have := ih (i + 1) (if g.1 = f.1 ∧ named = 0 then i + 1 else named) (by split <;> omega)
      omega

end Tb
end Go.Proofs.Ytpgfnhfjkplmaaa
