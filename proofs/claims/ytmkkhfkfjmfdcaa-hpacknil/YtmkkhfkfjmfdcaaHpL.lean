/-
  Blocks of fields: a block that is written again is no longer, and the same from then on: the plain theory.
-/
import Derived.Test.YtmkkhfkfjmfdcaaHpQ
namespace Go.Proofs.Ytmkkhfkfjmfdcaa
namespace Hp

theorem findGo_true (f : List UInt8 × List UInt8) (l : List (List UInt8 × List UInt8)) : ∀ i named, (Tb.findGo f l i named).2 = true ↔ f ∈ l := by
  induction l with
  | nil => intro i named; simp [Tb.findGo]
  | cons g r ih =>
    intro i named
    unfold Tb.findGo
    by_cases h : g = f
    · rw [if_pos h]; simp [h]
    · rw [if_neg h, ih, List.mem_cons]
      constructor
      · intro h2; exact .inr h2
      · rintro (h2 | h2)
        · exact absurd h2.symm h
        · exact h2
theorem findGo_zero (f : List UInt8 × List UInt8) (l : List (List UInt8 × List UInt8)) : ∀ i named, (Tb.findGo f l i named).1 = 0 ↔ named = 0 ∧ ∀ g ∈ l, g.1 ≠ f.1 := by
  induction l with
  | nil => intro i named; simp [Tb.findGo]
  | cons g r ih =>
    intro i named
    unfold Tb.findGo
    by_cases h : g = f
    · rw [if_pos h]
      constructor
      · intro h2; simp at h2
      · rintro ⟨_, h2⟩; exact absurd (by rw [h]) (h2 g (by simp))
    · rw [if_neg h, ih]
      by_cases h1 : g.1 = f.1
      · constructor
        · rintro ⟨h2, _⟩
          by_cases hn : named = 0
          · rw [if_pos ⟨h1, hn⟩] at h2; omega
          · rw [if_neg (fun x => hn x.2)] at h2; exact absurd h2 hn
        · rintro ⟨_, h2⟩; exact absurd h1 (h2 g (by simp))
      · rw [if_neg (fun x => h1 x.1)]
        constructor
        · rintro ⟨h2, h3⟩
          exact ⟨h2, fun x hx => by rcases List.mem_cons.1 hx with rfl | hx; exact h1; exact h3 x hx⟩
        · rintro ⟨h2, h3⟩
          exact ⟨h2, fun x hx => h3 x (by simp [hx])⟩
theorem find_true (fs : List (List UInt8 × List UInt8)) (f : List UInt8 × List UInt8) : (Tb.find fs f).2 = true ↔ f ∈ Tb.all fs := findGo_true f _ 0 0
theorem find_zero (fs : List (List UInt8 × List UInt8)) (f : List UInt8 × List UInt8) : (Tb.find fs f).1 = 0 ↔ ∀ g ∈ Tb.all fs, g.1 ≠ f.1 := by
  have := findGo_zero f (Tb.all fs) 0 0
  simpa [Tb.find] using this
theorem all_sub {fs gs : List (List UInt8 × List UInt8)} (h : ∀ g ∈ fs, g ∈ gs) : ∀ g ∈ Tb.all fs, g ∈ Tb.all gs := by
  intro g hg
  unfold Tb.all at *
  rcases List.mem_append.1 hg with h1 | h1
  · exact List.mem_append.2 (.inl h1)
  · exact List.mem_append.2 (.inr (h g h1))

section
variable (str : List UInt8 → List UInt8)

theorem one_grow (fs : List (List UInt8 × List UInt8)) (f : List UInt8 × List UInt8) (hs : Tb.size fs + Tb.wt f ≤ 4096) :
    ((one str 4096 fs f).2 = fs ∨ (one str 4096 fs f).2 = f :: fs) ∧ (never f.1 = true ∨ nots f.1 = true ∨ f ∈ Tb.all (one str 4096 fs f).2) := by
  unfold one
  by_cases c1 : never f.1 = true
  · rw [if_pos c1]; exact ⟨.inl rfl, .inl c1⟩
  · rw [if_neg c1]
    by_cases c2 : (Tb.find fs f).2 = true
    · rw [if_pos c2]; exact ⟨.inl rfl, .inr (.inr ((find_true fs f).1 c2))⟩
    · rw [if_neg c2]
      by_cases c3 : nots f.1 = true ∨ 4096 < Tb.wt f
      · rw [if_pos c3]
        rcases c3 with c3 | c3
        · exact ⟨.inl rfl, .inr (.inl c3)⟩
        · omega
      · rw [if_neg c3]
        have e : Tb.add 4096 fs f = f :: fs := by
          unfold Tb.add
          rw [if_neg (by omega), Tb.shr_all fs _ (by omega)]
        exact ⟨.inr e, .inr (.inr (by show f ∈ Tb.all (Tb.add 4096 fs f); rw [e]; unfold Tb.all; simp))⟩
theorem many_grow (l : List (List UInt8 × List UInt8)) : ∀ fs, Tb.size fs + Tb.size l ≤ 4096 → (∀ g ∈ fs, g ∈ (many str 4096 fs l).2) ∧ Tb.size (many str 4096 fs l).2 ≤ Tb.size fs + Tb.size l ∧ ∀ f ∈ l, never f.1 = true ∨ nots f.1 = true ∨ f ∈ Tb.all (many str 4096 fs l).2 := by
  induction l with
  | nil => intro fs _; exact ⟨fun g h => h, by simp [many, Tb.size], by simp⟩
  | cons f r ih =>
    intro fs hs
    rw [Tb.size_cons] at hs
    obtain ⟨h1, h2⟩ := one_grow str fs f (by omega)
    have hsz : Tb.size (one str 4096 fs f).2 ≤ Tb.size fs + Tb.wt f := by
      rcases h1 with h1 | h1 <;> rw [h1]
      · omega
      · rw [Tb.size_cons]; omega
    have hsub : ∀ g ∈ fs, g ∈ (one str 4096 fs f).2 := by
      intro g hg
      rcases h1 with h1 | h1 <;> rw [h1]
      · exact hg
      · exact List.mem_cons_of_mem _ hg
    obtain ⟨i1, i2, i3⟩ := ih (one str 4096 fs f).2 (by omega)
    simp only [many]
    refine ⟨fun g hg => i1 g (hsub g hg), by rw [Tb.size_cons]; omega, fun g hg => ?_⟩
    rcases List.mem_cons.1 hg with rfl | hg
    · rcases h2 with h2 | h2 | h2
      · exact .inl h2
      · exact .inr (.inl h2)
      · exact .inr (.inr (all_sub i1 g h2))
    · exact i3 g hg

theorem one_still (fs : List (List UInt8 × List UInt8)) (f : List UInt8 × List UInt8) (h : never f.1 = true ∨ nots f.1 = true ∨ f ∈ Tb.all fs) : (one str 4096 fs f).2 = fs := by
  unfold one
  by_cases c1 : never f.1 = true
  · rw [if_pos c1]
  · rw [if_neg c1]
    by_cases c2 : (Tb.find fs f).2 = true
    · rw [if_pos c2]
    · rw [if_neg c2]
      by_cases c3 : nots f.1 = true ∨ 4096 < Tb.wt f
      · rw [if_pos c3]
      · rcases h with h | h | h
        · exact absurd h c1
        · exact absurd (.inl h) c3
        · exact absurd ((find_true fs f).2 h) c2
theorem many_still (fs : List (List UInt8 × List UInt8)) (l : List (List UInt8 × List UInt8)) (h : ∀ f ∈ l, never f.1 = true ∨ nots f.1 = true ∨ f ∈ Tb.all fs) : (many str 4096 fs l).2 = fs := by
  induction l with
  | nil => rfl
  | cons f r ih =>
    simp only [many]
    rw [one_still str fs f (h f (by simp))]
    exact ih (fun g hg => h g (by simp [hg]))

theorem num4 (h n : Nat) (hn : n ≤ 142) : 1 ≤ (Pm.num h 4 n).length ∧ (Pm.num h 4 n).length ≤ 2 := by
  unfold Pm.num
  split
  · simp
  · rw [Pm.tail_small _ (by omega)]; simp
theorem num7 (h n : Nat) (hn : n < 127) : (Pm.num h 7 n).length = 1 := by
  unfold Pm.num
  rw [if_pos (by simpa using hn)]; rfl

theorem one_len (fs gs : List (List UInt8 × List UInt8)) (f : List UInt8 × List UInt8) (hsub : ∀ g ∈ fs, g ∈ gs) (h1 : fs.length ≤ 64) (h2 : gs.length ≤ 64) (h : never f.1 = true ∨ nots f.1 = true ∨ f ∈ Tb.all gs) :
    (one str 4096 gs f).1.length ≤ (one str 4096 fs f).1.length + 1 := by
  have k1 := find_le fs f
  have k2 := find_le gs f
  have ht : (texts str (Tb.find gs f).1 f).length ≤ (texts str (Tb.find fs f).1 f).length := by
    unfold texts
    by_cases c : (Tb.find fs f).1 = 0
    · rw [if_pos c]
      split
      · exact Nat.le_refl _
      · simp
    · rw [if_neg c]
      have : (Tb.find gs f).1 ≠ 0 := fun e => c ((find_zero fs f).2 fun g hg => (find_zero gs f).1 e g (all_sub hsub g hg))
      rw [if_neg this]
      exact Nat.le_refl _
  have n1 := num4 16 (Tb.find fs f).1 (by omega)
  have n2 := num4 16 (Tb.find gs f).1 (by omega)
  have n3 := num4 0 (Tb.find fs f).1 (by omega)
  have n4 := num4 0 (Tb.find gs f).1 (by omega)
  unfold one
  by_cases c1 : never f.1 = true
  · rw [if_pos c1, if_pos c1]
    simp only [List.length_append]
    omega
  · rw [if_neg c1, if_neg c1]
    by_cases c2 : (Tb.find gs f).2 = true
    · rw [if_pos c2]
      have := num7 128 (Tb.find gs f).1 (by omega)
      simp only [this]
      omega
    · rw [if_neg c2]
      have c2' : ¬ (Tb.find fs f).2 = true := fun e => c2 ((find_true gs f).2 (all_sub hsub f ((find_true fs f).1 e)))
      rw [if_neg c2']
      have c3 : nots f.1 = true := by
        rcases h with h | h | h
        · exact absurd h c1
        · exact h
        · exact absurd ((find_true gs f).2 h) c2
      rw [if_pos (.inl c3), if_pos (.inl c3)]
      simp only [List.length_append]
      omega
theorem many_len (gs : List (List UInt8 × List UInt8)) (h2 : Tb.size gs ≤ 2000) (l : List (List UInt8 × List UInt8)) : ∀ fs, Tb.size fs + Tb.size l ≤ 2000 → (∀ g ∈ (many str 4096 fs l).2, g ∈ gs) → (∀ f ∈ l, never f.1 = true ∨ nots f.1 = true ∨ f ∈ Tb.all gs) →
    (many str 4096 gs l).1.length ≤ (many str 4096 fs l).1.length + l.length := by
  have hg : gs.length ≤ 64 := by have := Tb.size_len gs; omega
  induction l with
  | nil => intro fs _ _ _; simp [many]
  | cons f r ih =>
    intro fs hs hsub ha
    rw [Tb.size_cons] at hs
    have hfl : fs.length ≤ 64 := by have := Tb.size_len fs; omega
    obtain ⟨g1, g2⟩ := one_grow str fs f (by omega)
    have hsz : Tb.size (one str 4096 fs f).2 ≤ Tb.size fs + Tb.wt f := by
      rcases g1 with g1 | g1 <;> rw [g1]
      · omega
      · rw [Tb.size_cons]; omega
    have hin : ∀ g ∈ (one str 4096 fs f).2, g ∈ gs := fun g hg' => hsub g (by simp only [many]; exact (many_grow str r _ (by omega)).1 g hg')
    have hfs : ∀ g ∈ fs, g ∈ gs := by
      intro g hg'
      refine hin g ?_
      rcases g1 with g1 | g1 <;> rw [g1]
      · exact hg'
      · exact List.mem_cons_of_mem _ hg'
    have hone := one_len str fs gs f hfs hfl hg (ha f (by simp))
    have hrec := ih (one str 4096 fs f).2 (by omega) (fun g hg' => hsub g (by simp only [many]; exact hg')) (fun x hx => ha x (by simp [hx]))
    simp only [many, List.length_append, List.length_cons]
    rw [one_still str gs f (ha f (by simp))]
    omega

/-- A block that is written again: the same from then on, and no longer than the first one by more than a byte a field. -/
theorem less (l : List (List UInt8 × List UInt8)) (hl : Tb.size l ≤ 2000) :
    (many str 4096 (many str 4096 [] l).2 l).1.length ≤ (many str 4096 [] l).1.length + l.length ∧ (many str 4096 (many str 4096 (many str 4096 [] l).2 l).2 l).1 = (many str 4096 (many str 4096 [] l).2 l).1 ∧ (many str 4096 (many str 4096 [] l).2 l).2 = (many str 4096 [] l).2 := by
  obtain ⟨h1, h2, h3⟩ := many_grow str l [] (by rw [Tb.size_nil]; omega)
  rw [Tb.size_nil, Nat.zero_add] at h2
  have hs := many_still str _ l h3
  exact ⟨many_len str _ (by omega) l [] (by rw [Tb.size_nil]; omega) (fun g hg => hg) h3, by rw [hs], hs⟩
end

end Hp
end Go.Proofs.Ytmkkhfkfjmfdcaa
