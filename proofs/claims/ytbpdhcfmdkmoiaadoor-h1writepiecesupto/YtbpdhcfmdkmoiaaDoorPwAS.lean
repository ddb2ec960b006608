/-
  Whole numbers by digits, the lowest first: plain functions and lemmas, with no program in sight.
-/
import Derived.WalkKit
namespace Go.Proofs.YtbpdhcfmdkmoiaaDoor
namespace Big

def bas : Int := 1073741824
theorem bas_eq : bas = 1073741824 := rfl
def val : List Int → Int
  | [] => 0
  | d :: r => d + bas * val r
def pw : Nat → Int
  | 0 => 1
  | n + 1 => bas * pw n
theorem pw_pos (n : Nat) : 1 ≤ pw n := by
  induction n with
  | zero => exact Int.le_refl _
  | succ n ih => show 1 ≤ bas * pw n; rw [bas_eq]; omega
theorem val_append (l r : List Int) : val (l ++ r) = val l + pw l.length * val r := by
  induction l with
  | nil => show val r = 0 + 1 * val r; omega
  | cons d l ih =>
    show d + bas * val (l ++ r) = (d + bas * val l) + bas * pw l.length * val r
    rw [ih, Int.mul_add, Int.mul_assoc]; omega
theorem val_snoc (l : List Int) (d : Int) : val (l ++ [d]) = val l + pw l.length * d := by
  rw [val_append]; show _ + _ * (d + bas * 0) = _; rw [Int.mul_zero, Int.add_zero]
/-- Each is a digit. -/
def Digs (l : List Int) : Prop := ∀ d ∈ l, 0 ≤ d ∧ d < bas
theorem Digs.tail {d : Int} {l : List Int} (h : Digs (d :: l)) : Digs l := fun x hx => h x (List.mem_cons_of_mem _ hx)
theorem Digs.snoc {d : Int} {l : List Int} (h : Digs l) (h0 : 0 ≤ d) (h1 : d < bas) : Digs (l ++ [d]) := fun x hx => by
  rcases List.mem_append.1 hx with hx | hx
  · exact h x hx
  · simp only [List.mem_singleton] at hx; subst hx; exact ⟨h0, h1⟩
theorem Digs.take {l : List Int} (h : Digs l) (n : Nat) : Digs (l.take n) := fun x hx => h x (List.mem_of_mem_take hx)
theorem val_bd (l : List Int) (h : Digs l) : 0 ≤ val l ∧ val l < pw l.length := by
  induction l with
  | nil => exact ⟨Int.le_refl _, by decide⟩
  | cons d l ih =>
    obtain ⟨h0, h1⟩ := h d (List.mem_cons_self ..)
    obtain ⟨i0, i1⟩ := ih h.tail
    rw [bas_eq] at h1
    show 0 ≤ d + bas * val l ∧ d + bas * val l < bas * pw l.length
    rw [bas_eq]; omega
/-- The last digit is no nought. -/
def Norm (l : List Int) : Prop := ∀ d, l.getLast? = some d → d ≠ 0
/-- Noughts at the high end are left out. -/
def tr (l : List Int) (n : Nat) : Prop := n ≤ l.length ∧ val (l.take n) = val l ∧ (∀ d, (l.take n).getLast? = some d → d ≠ 0)
theorem val_drop0 (l : List Int) (n : Nat) (h : ∀ d ∈ l.drop n, d = 0) : val (l.take n) = val l := by
  have hz : ∀ r : List Int, (∀ d ∈ r, d = 0) → val r = 0 := by
    intro r
    induction r with
    | nil => intro _; rfl
    | cons d r ih => intro h; show d + bas * val r = 0; rw [h d (List.mem_cons_self ..), ih fun x hx => h x (List.mem_cons_of_mem _ hx)]; rfl
  conv => rhs; rw [← List.take_append_drop n l, val_append, hz _ h]
  omega
theorem norm_lo (l : List Int) (h : Digs l) (hn : Norm l) (hl : 0 < l.length) : pw (l.length - 1) ≤ val l := by
  have e : l = l.take (l.length - 1) ++ [l[l.length - 1]] := by
    have := List.take_succ_eq_append_getElem (l := l) (i := l.length - 1) (by omega)
    rw [← this, List.take_of_length_le (by omega)]
  have hd := h l[l.length - 1] (List.getElem_mem _)
  have hnz : l[l.length - 1] ≠ 0 := hn _ (by rw [List.getLast?_eq_getElem?, List.getElem?_eq_getElem (by omega)])
  have hv : val l = val (l.take (l.length - 1)) + pw (l.length - 1) * l[l.length - 1] := by
    conv => lhs; rw [e, val_snoc, List.length_take, Nat.min_eq_left (by omega)]
  have h0 := (val_bd _ (h.take (l.length - 1))).1
  have hp := pw_pos (l.length - 1)
  have : pw (l.length - 1) * 1 ≤ pw (l.length - 1) * l[l.length - 1] := Int.mul_le_mul_of_nonneg_left (by omega) (by omega)
  omega
theorem pw_mono (a b : Nat) (h : a ≤ b) : pw a ≤ pw b := by
  induction b with
  | zero => rw [Nat.le_zero.1 h]; exact Int.le_refl _
  | succ b ih =>
    by_cases e : a = b + 1
    · rw [e]; exact Int.le_refl _
    · have := ih (by omega)
      have hp := pw_pos b
      show pw a ≤ bas * pw b
      rw [bas_eq]; omega

/-- What the loop of add keeps. -/
structure AddRel (la lb ol : List Int) (k : Nat) (c : Int) : Prop where
  c0 : 0 ≤ c
  c1 : c ≤ 1
  len : ol.length = k
  dig : Digs ol
  eq : val ol + pw k * c = val (la.take k) + val (lb.take k)
  top : k ≤ max la.length lb.length + 1
  last : k = max la.length lb.length + 1 → c = 0
theorem AddRel.start (la lb : List Int) : AddRel la lb [] 0 0 := ⟨Int.le_refl _, by decide, rfl, fun d hd => by simp at hd, rfl, Nat.zero_le _, fun _ => rfl⟩
theorem val_take (l : List Int) (k : Nat) (h : k < l.length) : val (l.take (k + 1)) = val (l.take k) + pw k * l[k] := by
  rw [List.take_succ_eq_append_getElem h, val_snoc, List.length_take, Nat.min_eq_left (by omega)]
theorem val_take' (l : List Int) (k : Nat) (h : l.length ≤ k) : val (l.take (k + 1)) = val (l.take k) := by
  rw [List.take_of_length_le (by omega), List.take_of_length_le h]
theorem AddRel.step {la lb ol : List Int} {k : Nat} {c : Int} (h : AddRel la lb ol k c) (x y s : Int) (hs : s = c + x + y) (x0 : 0 ≤ x) (y0 : 0 ≤ y) (x1 : x < bas) (y1 : y < bas)
    (hx : val (la.take (k + 1)) = val (la.take k) + pw k * x) (hy : val (lb.take (k + 1)) = val (lb.take k) + pw k * y) (ht : k + 1 ≤ max la.length lb.length + 1) (hlast : k + 1 = max la.length lb.length + 1 → s / bas = 0) :
    AddRel la lb (ol ++ [s % bas]) (k + 1) (s / bas) := by
  have c0 := h.c0
  have c1 := h.c1
  rw [bas_eq] at *
  refine ⟨by omega, by omega, by rw [List.length_append, h.len]; rfl, h.dig.snoc (by omega) (by rw [bas_eq]; omega), ?_, ht, hlast⟩
  rw [val_snoc, h.len, hx, hy]
  have e := h.eq
  have e1 : pw (k + 1) * (s / 1073741824) = pw k * (1073741824 * (s / 1073741824)) := by
    show bas * pw k * _ = _; rw [bas_eq, Int.mul_comm 1073741824 (pw k), Int.mul_assoc]
  have e2 : pw k * (s % 1073741824) + pw k * (1073741824 * (s / 1073741824)) = pw k * s := by
    rw [← Int.mul_add, Int.emod_add_mul_ediv]
  have e3 : pw k * s = pw k * c + pw k * x + pw k * y := by rw [hs, Int.mul_add, Int.mul_add]
  rw [e1]; omega
theorem AddRel.done {la lb ol : List Int} {k : Nat} (h : AddRel la lb ol k 0) (ha : la.length ≤ k) (hb : lb.length ≤ k) : val ol = val la + val lb := by
  have := h.eq
  rw [List.take_of_length_le ha, List.take_of_length_le hb, Int.mul_zero] at this; omega

end Big
end Go.Proofs.YtbpdhcfmdkmoiaaDoor
