/-
  Texts of blocks as a decoder reads them (the greatest number as the limit): the plain facts; and what a block does, by bounds.
-/
import Derived.Test.YtmkkhfkfjmfdcaaGreatPrimQ
import Derived.Test.YtmkkhfkfjmfdcaaGreatHpPl
namespace Go.Proofs.YtmkkhfkfjmfdcaaGreat
namespace Hp

/-- A text, read with the greatest number as the limit. -/
def rs (l : List UInt8) : Tx :=
  match Pm.rs 2147483647 l with
  | .ok t k => .ok t k
  | .err e => .err e
theorem rs_of_ok {l t : List UInt8} {k : Nat} (h : rs l = .ok t k) : Pm.rs 2147483647 l = .ok t k := by
  unfold rs at h
  split at h
  · rename_i t' k' e
    injection h with h1 h2
    rw [e, h1, h2]
  · cases h
theorem rs_of_err {l : List UInt8} {e : Nat} (h : rs l = .err e) : Pm.rs 2147483647 l = .err e := by
  unfold rs at h
  split at h
  · cases h
  · rename_i e' he
    injection h with h1
    rw [he, h1]
theorem body_ok (M : Nat) (l : List UInt8) (n k : Nat) (c : Bool) (t : List UInt8) (j : Nat) (h : Pm.body M l n k c = .ok t j) : j = k + n ∧ k + n ≤ l.length ∧ t.length ≤ 2 * l.length := by
  unfold Pm.body at h
  by_cases h1 : M < (if c = true then (n + 3) / 4 else n)
  · rw [if_pos h1] at h; cases h
  · rw [if_neg h1] at h
    by_cases h2 : l.length < k + n
    · rw [if_pos h2] at h; cases h
    · rw [if_neg h2] at h
      by_cases h3 : c = true
      · rw [if_pos h3] at h
        generalize hd : Hf.dec M (Hf.unp ((l.drop k).take n)) 0 0 [] = r at h
        cases r with
        | ok s =>
          simp only [Pm.ofRes] at h
          injection h with h1 h2
          subst h1
          have := Hf.there_len M _ s hd
          rw [List.length_take, List.length_drop] at this
          omega
        | long => simp [Pm.ofRes] at h
        | pad => simp [Pm.ofRes] at h
        | fin => simp [Pm.ofRes] at h
      · rw [if_neg h3] at h
        injection h with h1 h2
        subst h1
        rw [List.length_take, List.length_drop]
        omega
theorem body_err (M : Nat) (l : List UInt8) (n k : Nat) (c : Bool) (e : Nat) (h : Pm.body M l n k c = .err e) : 0 < e ∧ e ≤ 41 := by
  unfold Pm.body at h
  by_cases h1 : M < (if c = true then (n + 3) / 4 else n)
  · rw [if_pos h1] at h; injection h with h; omega
  · rw [if_neg h1] at h
    by_cases h2 : l.length < k + n
    · rw [if_pos h2] at h; injection h with h; omega
    · rw [if_neg h2] at h
      by_cases h3 : c = true
      · rw [if_pos h3] at h
        generalize Hf.dec M (Hf.unp ((l.drop k).take n)) 0 0 [] = r at h
        cases r with
        | ok s => simp [Pm.ofRes] at h
        | long => simp only [Pm.ofRes] at h; injection h with h; omega
        | pad => simp only [Pm.ofRes] at h; injection h with h; omega
        | fin => simp only [Pm.ofRes] at h; injection h with h; omega
      · rw [if_neg h3] at h
        cases h
theorem rs_le {l t : List UInt8} {k : Nat} (h : rs l = .ok t k) : 1 ≤ k ∧ k ≤ l.length ∧ t.length ≤ 2 * l.length := by
  have h := rs_of_ok h
  unfold Pm.rs at h
  generalize hr : Pm.rd 7 l = r at h
  cases r with
  | ok n j =>
    have hj := Pm.rd_le 7 n j (by omega) l hr
    have := body_ok _ _ _ _ _ _ _ h
    omega
  | arg => simp [Pm.ofR] at h
  | short => simp [Pm.ofR] at h
  | number => simp [Pm.ofR] at h
theorem rs_err {l : List UInt8} {e : Nat} (h : rs l = .err e) : 0 < e ∧ e ≤ 41 := by
  have h := rs_of_err h
  unfold Pm.rs at h
  generalize hr : Pm.rd 7 l = r at h
  cases r with
  | ok n j => exact body_err _ _ _ _ _ _ h
  | arg => simp only [Pm.ofR] at h; injection h with h; omega
  | short => simp only [Pm.ofR] at h; injection h with h; omega
  | number => simp only [Pm.ofR] at h; injection h with h; omega
/-- What is written is read. -/
theorem rs_back (l r : List UInt8) (hl : l.length < 268435456) : rs (Pm.str l ++ r) = .ok l (Pm.str l).length := by
  obtain ⟨c, n, h, b, hs, hb, hn, hh, hm, h1, h0⟩ := Pm.str_parts l
  unfold rs
  rw [hs, Pm.rs_app h n _ b r hh hm (by omega) hb]
  cases c with
  | true =>
    obtain ⟨rfl, rfl, h3, h4⟩ := h1 rfl
    rw [if_neg (by simp; omega), if_pos (by decide), Hf.back_ok _ l (by omega)]; rfl
  | false =>
    obtain ⟨rfl, rfl, h3, h4⟩ := h0 rfl
    rw [if_neg (by simp; omega), if_neg (by decide)]

theorem rErr_le (r : Pm.R) (h : ∀ n k, r ≠ .ok n k) : 0 < rErr r ∧ rErr r ≤ 41 := by
  cases r with
  | ok n k => exact absurd rfl (h n k)
  | arg => simp [rErr]
  | short => simp [rErr]
  | number => simp [rErr]
theorem value_err {name rest : List UInt8} {e : Nat} (h : value rs name rest = .err e) : 0 < e ∧ e ≤ 60 := by
  unfold value at h
  split at h
  · rename_i e' he
    injection h with h
    have := rs_err he
    omega
  · cases h
theorem field_err {fs : List (List UInt8 × List UInt8)} {what n : Nat} {rest : List UInt8} {e : Nat} (h : field rs fs what n rest = .err e) : 0 < e ∧ e ≤ 60 := by
  unfold field at h
  split at h
  · split at h
    · injection h with h; omega
    · cases h
  · split at h
    · split at h
      · rename_i e' he
        injection h with h
        have := rs_err he
        omega
      · exact value_err h
    · split at h
      · injection h with h; omega
      · exact value_err h
theorem value_ok {name rest : List UInt8} {f : List UInt8 × List UInt8} {r : List UInt8} (h : value rs name rest = .ok f r) : f.1 = name ∧ r.length + 1 ≤ rest.length ∧ f.2.length ≤ 2 * rest.length := by
  unfold value at h
  split at h
  · cases h
  · rename_i t k ht
    injection h with h1 h2
    have := rs_le ht
    subst h1 h2
    rw [List.length_drop]
    refine ⟨rfl, by omega, ?_⟩
    show t.length ≤ _
    omega
theorem size_mem (fs : List (List UInt8 × List UInt8)) (f : List UInt8 × List UInt8) (h : f ∈ fs) : Tb.wt f ≤ Tb.size fs := by
  induction fs with
  | nil => cases h
  | cons g r ih =>
    rw [Tb.size_cons]
    rcases List.mem_cons.1 h with rfl | h
    · omega
    · have := ih h; omega
theorem at_wt {fs : List (List UInt8 × List UInt8)} {i : Int} {f : List UInt8 × List UInt8} (h : Tb.at? fs i = some f) : f.1.length + f.2.length ≤ 1000 + Tb.size fs := by
  have hm : f ∈ Tb.all fs := by
    unfold Tb.at? at h
    split at h
    · exact List.mem_of_getElem? h
    · cases h
  unfold Tb.all at hm
  rcases List.mem_append.1 hm with h1 | h1
  · have key : ∀ g ∈ Tb.stat, g.1.length + g.2.length ≤ 1000 := by decide +kernel
    have := key f h1
    omega
  · have := size_mem fs f h1
    unfold Tb.wt at this
    omega
theorem field_ok {fs : List (List UInt8 × List UInt8)} {what n : Nat} {rest : List UInt8} {f : List UInt8 × List UInt8} {r : List UInt8} (h : field rs fs what n rest = .ok f r) :
    r.length ≤ rest.length ∧ f.1.length ≤ 2 * rest.length + 1000 + Tb.size fs ∧ f.2.length ≤ 2 * rest.length + 1000 + Tb.size fs := by
  unfold field at h
  split at h
  · split at h
    · cases h
    · rename_i g hg
      injection h with h1 h2
      subst h1 h2
      have := at_wt hg
      refine ⟨Nat.le_refl _, by omega, by omega⟩
  · split at h
    · split at h
      · cases h
      · rename_i t k ht
        have h1 := rs_le ht
        obtain ⟨h2, h3, h4⟩ := value_ok h
        rw [List.length_drop] at h3 h4
        rw [h2]
        refine ⟨by omega, by omega, by omega⟩
    · split at h
      · cases h
      · rename_i g hg
        have := at_wt hg
        obtain ⟨h2, h3, h4⟩ := value_ok h
        rw [h2]
        refine ⟨by omega, by omega, by omega⟩

end Hp
end Go.Proofs.YtmkkhfkfjmfdcaaGreat
