/-
  The numbers whose lines stand in a body, as the code gathers them, and the least that is free. What is of no program.
-/
import Derived.Test.YtdbldompjhienaaDoorRgP
import Derived.Lib.IndexMore
namespace Go.Proofs.YtdbldompjhienaaDoor
namespace Rg
def isD (c : UInt8) : Bool := decide (48 ≤ c.toNat) && decide (c.toNat ≤ 57)
/-- What the word 'part' stands ahead of, at each of its places. -/
def afters : T8 → List T8
  | [] => []
  | c :: r => if sPart.isPrefixOf (c :: r) then r.drop 3 :: afters r else afters r
/-- The numbers up to most that a text begins with, behind what was read. -/
def nums (most : Nat) : Nat → T8 → List Nat
  | _, [] => []
  | n, c :: r => if isD c then (if most < n * 10 + (c.toNat - 48) then [] else (n * 10 + (c.toNat - 48)) :: (if n * 10 + (c.toNat - 48) = 0 then [] else nums most (n * 10 + (c.toNat - 48)) r)) else []
def taken (most : Nat) (l : T8) : List Nat := (afters l).flatMap (nums most 0)
/-- The least number that is free: of numbers in their order. -/
def lf : List Nat → Nat → Nat
  | [], f => f
  | n :: r, f => lf r (if n = f then f + 1 else f)

theorem afters_skip {c : UInt8} {r : T8} (h : sPart.isPrefixOf (c :: r) = false) : afters (c :: r) = afters r := by rw [afters, h]; rfl
theorem afters_hop : ∀ (i : Nat) (l : T8), (∀ j, j < i → sPart.isPrefixOf (l.drop j) = false) → afters l = afters (l.drop i) := by
  intro i
  induction i with
  | zero => intro l _; rw [List.drop_zero]
  | succ i ih =>
    intro l h
    cases l with
    | nil => rfl
    | cons c r =>
      rw [afters_skip (by simpa using h 0 (Nat.succ_pos i)), List.drop_succ_cons]
      exact ih r (fun j hj => by simpa using h (j + 1) (Nat.succ_lt_succ hj))
theorem afters_at {l : T8} (h : sPart.isPrefixOf l = true) : afters l = l.drop 4 :: afters (l.drop 4) := by
  obtain ⟨t, rfl⟩ := List.isPrefixOf_iff_prefix.1 h
  have e : sPart ++ t = 112 :: 97 :: 114 :: 116 :: t := rfl
  have e1 : sPart.isPrefixOf (112 :: 97 :: 114 :: 116 :: t) = true := by rw [← e]; exact h
  rw [e, afters, if_pos e1, afters_skip (by simp [sPart, List.isPrefixOf]), afters_skip (by simp [sPart, List.isPrefixOf]), afters_skip (by simp [sPart, List.isPrefixOf])]
  rfl
/-- A body that is cut at its first 'part'. -/
theorem afters_cut (l : T8) : ((Lib.cut l sPart).2.2 = false ∧ afters l = []) ∨ ((Lib.cut l sPart).2.2 = true ∧ afters l = (Lib.cut l sPart).2.1 :: afters (Lib.cut l sPart).2.1 ∧ (Lib.cut l sPart).2.1.length < l.length) := by
  rcases Lib.index_spec l sPart with ⟨h1, h2⟩ | ⟨i, h1, h2, h3, h4⟩
  · left
    have e : Lib.cut l sPart = (l, [], false) := by unfold Lib.cut; rw [h1]; rfl
    rw [e]
    refine ⟨rfl, ?_⟩
    rw [afters_hop l.length l (fun j hj => h2 j (Nat.le_of_lt hj)), List.drop_length]; rfl
  · right
    have e : Lib.cut l sPart = (l.take i, l.drop (i + 4), true) := by unfold Lib.cut; rw [h1, if_pos (by omega)]; rfl
    rw [e]
    have h3' : sPart.isPrefixOf (l.drop i) = true := h3
    have hl : i + 4 ≤ l.length := by
      have := Lib.index_room l sPart (by omega)
      rw [h1] at this
      simp [sPart] at this; omega
    refine ⟨rfl, ?_, by simp only [List.length_drop]; omega⟩
    simp only
    rw [afters_hop i l (fun j hj => h4 j hj), afters_at h3', List.drop_drop]
theorem afters_len : ∀ (l : T8), ∀ t ∈ afters l, t.length ≤ l.length := by
  intro l
  induction l with
  | nil => intro t h; simp [afters] at h
  | cons c r ih =>
    intro t h
    unfold afters at h
    split at h
    · rcases List.mem_cons.1 h with rfl | h
      · simp; omega
      · have := ih t h; simp; omega
    · have := ih t h; simp; omega
/-- A text behind 'part' stands in a body where it stands behind one of the places. -/
theorem stands_afters (d : T8) : ∀ (l : T8), stands (sPart ++ d) l = (afters l).any (fun t => d.isPrefixOf t) := by
  have key : ∀ (l : T8), (stands (sPart ++ d) l = true) ↔ ∃ t ∈ afters l, d <+: t := by
    intro l
    have h1 : stands (sPart ++ d) l = true ↔ ∃ i, (sPart ++ d) <+: l.drop i := by
      unfold stands
      rw [List.any_eq_true]
      constructor
      · rintro ⟨i, _, hi⟩
        exact ⟨i, by rw [List.prefix_iff_eq_take]; exact (eq_of_beq hi).symm⟩
      · rintro ⟨i, hi⟩
        have hlen := hi.length_le
        rw [List.length_drop] at hlen
        have : 4 ≤ (sPart ++ d).length := by simp [sPart]
        exact ⟨i, List.mem_range.2 (by omega), by rw [beq_iff_eq]; exact (List.prefix_iff_eq_take.1 hi).symm⟩
    rw [h1]
    clear h1
    induction l with
    | nil =>
      simp only [List.drop_nil, afters, List.not_mem_nil, false_and, exists_false, iff_false, not_exists]
      intro _ h
      have := h.length_le
      simp [sPart] at this
    | cons c r ih =>
      have h0 : (∃ i, (sPart ++ d) <+: (c :: r).drop i) ↔ ((sPart ++ d) <+: c :: r) ∨ ∃ i, (sPart ++ d) <+: r.drop i := by
        constructor
        · rintro ⟨i, hi⟩
          cases i with
          | zero => exact .inl hi
          | succ i => exact .inr ⟨i, hi⟩
        · rintro (h | ⟨i, hi⟩)
          · exact ⟨0, h⟩
          · exact ⟨i + 1, hi⟩
      refine (h0.trans (or_congr Iff.rfl ih)).trans ?_
      cases hp : sPart.isPrefixOf (c :: r)
      · rw [afters_skip hp]
        refine ⟨fun h => h.resolve_left (fun h1 => ?_), .inr⟩
        have := List.isPrefixOf_iff_prefix.2 ((List.prefix_append sPart d).trans h1)
        rw [hp] at this; cases this
      · rw [afters, if_pos hp]
        obtain ⟨t, ht⟩ := List.isPrefixOf_iff_prefix.1 hp
        have e : r.drop 3 = t := by
          have : c :: r = 112 :: 97 :: 114 :: 116 :: t := ht.symm
          injection this with _ h2
          rw [h2]; rfl
        rw [e, ← ht]
        simp only [List.mem_cons, exists_eq_or_imp, List.prefix_append_right_inj]
  intro l
  rw [Bool.eq_iff_iff, key, List.any_eq_true]
  simp only [List.isPrefixOf_iff_prefix]

theorem itoa_snoc (n d : Nat) (hn : 0 < n) (hd : d < 10) : Lib.itoa ((n * 10 + d : Nat) : Int) = Lib.itoa (n : Int) ++ [UInt8.ofNat (48 + d)] := by
  rw [Tx.itoa_hi _ (by omega)]
  have e1 : ((n * 10 + d : Nat) : Int) / 10 = (n : Int) := by omega
  have e2 : (48 + ((n * 10 + d : Nat) : Int) % 10).toNat = 48 + d := by omega
  rw [e1, e2]
theorem itoa_one (d : Nat) (hd : d < 10) : Lib.itoa (d : Int) = [UInt8.ofNat (48 + d)] := by
  rw [Tx.itoa_lo _ (by omega) (by omega)]
  congr 2
theorem digit_back {c : UInt8} (h : isD c = true) : UInt8.ofNat (48 + (c.toNat - 48)) = c ∧ c.toNat - 48 < 10 := by
  unfold isD at h
  rw [Bool.and_eq_true, decide_eq_true_iff, decide_eq_true_iff] at h
  refine ⟨?_, by omega⟩
  rw [show 48 + (c.toNat - 48) = c.toNat by omega]
  exact UInt8.ofNat_toNat
theorem digit_there (d : Nat) (hd : d < 10) : isD (UInt8.ofNat (48 + d)) = true ∧ (UInt8.ofNat (48 + d)).toNat - 48 = d := by
  have e : (UInt8.ofNat (48 + d)).toNat = 48 + d := by rw [UInt8.toNat_ofNat']; omega
  unfold isD
  rw [e]
  exact ⟨by simp; omega, by omega⟩
/-- Behind a number that is not 0: what is found is that number's digits and more. -/
theorem nums_goes (most : Nat) : ∀ (t : T8) (n m : Nat), 0 < n → m ∈ nums most n t → m ≤ most ∧ 0 < m ∧ ∃ d, Lib.itoa (m : Int) = Lib.itoa (n : Int) ++ d ∧ d <+: t := by
  intro t
  induction t with
  | nil => intro n m _ h; simp [nums] at h
  | cons c r ih =>
    intro n m hn h
    unfold nums at h
    split at h
    · rename_i hc
      obtain ⟨hb, hd⟩ := digit_back hc
      obtain ⟨k, hk⟩ : ∃ k, n * 10 + (c.toNat - 48) = k := ⟨_, rfl⟩
      have hi := itoa_snoc n (c.toNat - 48) hn hd
      rw [hb] at hi
      rw [hk] at h hi
      split at h
      · simp at h
      · rename_i hm
        rcases List.mem_cons.1 h with rfl | h
        · exact ⟨by omega, by omega, [c], hi, ⟨r, rfl⟩⟩
        · rw [if_neg (by omega)] at h
          obtain ⟨h1, h2, d, h3, h4⟩ := ih k m (by omega) h
          refine ⟨h1, h2, c :: d, by rw [h3, hi]; simp, ?_⟩
          obtain ⟨q, hq⟩ := h4
          exact ⟨q, by rw [← hq]; rfl⟩
    · simp at h
theorem nums_sound (most : Nat) (t : T8) (m : Nat) (h : m ∈ nums most 0 t) : m ≤ most ∧ Lib.itoa (m : Int) <+: t := by
  cases t with
  | nil => simp [nums] at h
  | cons c r =>
    unfold nums at h
    split at h
    · rename_i hc
      obtain ⟨hb, hd⟩ := digit_back hc
      obtain ⟨k, hk⟩ : ∃ k, 0 * 10 + (c.toNat - 48) = k := ⟨_, rfl⟩
      have hk' : c.toNat - 48 = k := by omega
      have hi := itoa_one (c.toNat - 48) hd
      rw [hb, hk'] at hi
      rw [hk] at h
      split at h
      · simp at h
      · rename_i hm
        rcases List.mem_cons.1 h with rfl | h
        · exact ⟨by omega, by rw [hi]; exact ⟨r, rfl⟩⟩
        · by_cases h0 : k = 0
          · rw [if_pos h0] at h; simp at h
          · rw [if_neg h0] at h
            obtain ⟨h1, h2, d, h3, h4⟩ := nums_goes most r k m (by omega) h
            refine ⟨h1, ?_⟩
            rw [h3, hi]
            obtain ⟨q, hq⟩ := h4
            exact ⟨q, by rw [← hq]; rfl⟩
    · simp at h
theorem nums_all (most : Nat) : ∀ (m : Nat) (t : T8), 0 < m → m ≤ most → ∃ L, nums most 0 (Lib.itoa (m : Int) ++ t) = L ++ m :: nums most m t := by
  intro m
  induction m using Nat.strongRecOn with
  | ind m ih =>
    intro t h0 h1
    by_cases h10 : m < 10
    · rw [itoa_one m h10]
      obtain ⟨d1, d2⟩ := digit_there m h10
      refine ⟨[], ?_⟩
      rw [List.cons_append, List.nil_append, nums, if_pos d1, d2, if_neg (by omega), if_neg (by omega)]
      simp
    · have e : m = (m / 10) * 10 + m % 10 := by omega
      obtain ⟨d1, d2⟩ := digit_there (m % 10) (by omega)
      have hi := itoa_snoc (m / 10) (m % 10) (by omega) (by omega)
      rw [← e] at hi
      obtain ⟨L, hL⟩ := ih (m / 10) (by omega) (UInt8.ofNat (48 + m % 10) :: t) (by omega) (by omega)
      refine ⟨L ++ [m / 10], ?_⟩
      rw [hi, List.append_assoc, List.singleton_append, hL, nums, if_pos d1, d2, ← e, if_neg (by omega), if_neg (by omega)]
      simp
theorem nums_complete (most : Nat) (t : T8) (m : Nat) (hm : m ≤ most) (h : Lib.itoa (m : Int) <+: t) : m ∈ nums most 0 t := by
  obtain ⟨q, rfl⟩ := h
  by_cases h0 : m = 0
  · subst h0
    rw [show Lib.itoa ((0 : Nat) : Int) = [48] from itoa_one 0 (by omega)]
    rw [List.cons_append, List.nil_append, nums, if_pos (by decide), if_neg (by simp)]
    simp
  · obtain ⟨L, hL⟩ := nums_all most m q (by omega) hm
    rw [hL]; simp
theorem taken_mem (most : Nat) (l : T8) (m : Nat) : m ∈ taken most l ↔ m ≤ most ∧ stands (line m) l = true := by
  unfold taken line
  rw [stands_afters, List.mem_flatMap, List.any_eq_true]
  constructor
  · rintro ⟨t, h1, h2⟩
    obtain ⟨h3, h4⟩ := nums_sound most t m h2
    exact ⟨h3, t, h1, List.isPrefixOf_iff_prefix.2 h4⟩
  · rintro ⟨h1, t, h2, h3⟩
    exact ⟨t, h2, nums_complete most t m h1 (List.isPrefixOf_iff_prefix.1 h3)⟩

/-- How many numbers a text begins with: at most its digits. -/
theorem nums_len (most : Nat) : ∀ (t : T8) (n : Nat), (nums most n t).length ≤ (t.takeWhile isD).length := by
  intro t
  induction t with
  | nil => intro n; simp [nums]
  | cons c r ih =>
    intro n
    unfold nums
    rw [List.takeWhile_cons]
    cases hc : isD c
    · simp
    · simp only [if_true]
      split
      · simp
      · split
        · simp
        · have := ih (n * 10 + (c.toNat - 48)); simp; omega
theorem digits_hop : ∀ (t : T8), afters t = afters (t.drop (t.takeWhile isD).length) := by
  intro t
  induction t with
  | nil => rfl
  | cons c r ih =>
    rw [List.takeWhile_cons]
    cases hc : isD c
    · simp
    · simp only [if_true, List.length_cons, List.drop_succ_cons]
      rw [afters_skip, ih]
      simp only [sPart, List.isPrefixOf]
      rw [beq_false_of_ne (fun e => by rw [← e] at hc; revert hc; decide)]
      rfl
theorem taken_bound (most : Nat) : ∀ (k : Nat) (l : T8), l.length ≤ k → (taken most l).length ≤ l.length ∧ ((taken most l).length + 4 ≤ l.length ∨ taken most l = []) := by
  intro k
  induction k with
  | zero =>
    intro l h
    have : l = [] := List.length_eq_zero_iff.1 (by omega)
    subst this
    exact ⟨by simp [taken, afters], .inr rfl⟩
  | succ k ih =>
    intro l h
    rcases afters_cut l with ⟨_, h1⟩ | ⟨_, h1, h2⟩
    · unfold taken; rw [h1]; simp
    · obtain ⟨t, ht⟩ : ∃ t, (Lib.cut l sPart).2.1 = t := ⟨_, rfl⟩
      rw [ht] at h1 h2
      have h4 : t.length + 4 ≤ l.length := by
        rcases Lib.index_spec l sPart with ⟨g1, _⟩ | ⟨i, g1, _, _, _⟩
        · rw [← ht]; unfold Lib.cut; rw [g1]
          have : l ≠ [] := fun e => by rw [e] at h1; simp [afters] at h1
          have e : Lib.cut l sPart = (l, [], false) := by unfold Lib.cut; rw [g1]; rfl
          rcases afters_cut l with ⟨_, g2⟩ | ⟨g2, _⟩
          · rw [g2] at h1; cases h1
          · rw [e] at g2; cases g2
        · have e : Lib.cut l sPart = (l.take i, l.drop (i + 4), true) := by unfold Lib.cut; rw [g1, if_pos (by omega)]; rfl
          have := Lib.index_room l sPart (by omega)
          rw [g1] at this
          rw [← ht, e]
          simp [sPart] at this ⊢; omega
      obtain ⟨u, hu⟩ : ∃ u, t.drop (t.takeWhile isD).length = u := ⟨_, rfl⟩
      have hul : u.length + (t.takeWhile isD).length = t.length := by
        rw [← hu, List.length_drop]
        have := (List.takeWhile_prefix isD (l := t)).length_le
        omega
      have hd := digits_hop t
      rw [hu] at hd
      have h3 := (ih u (by omega)).1
      have h5 := nums_len most t 0
      have e : taken most l = nums most 0 t ++ taken most u := by unfold taken; rw [h1, hd]; rfl
      rw [e, List.length_append]
      exact ⟨by omega, .inl (by omega)⟩
theorem lf_len : ∀ (l : List Nat) (f : Nat), lf l f ≤ f + l.length ∧ f ≤ lf l f := by
  intro l
  induction l with
  | nil => intro f; simp [lf]
  | cons n r ih =>
    intro f
    rw [lf]
    have := ih (if n = f then f + 1 else f)
    simp only [List.length_cons]
    split at this <;> rename_i h
    · rw [if_pos h]; omega
    · rw [if_neg h]; omega
theorem lf_spec : ∀ (r p : List Nat) (f : Nat), (p ++ r).Pairwise (· ≤ ·) → (∀ k, k < f → k ∈ p) → f ∉ p → (∀ k, k < lf r f → k ∈ p ++ r) ∧ lf r f ∉ p ++ r := by
  intro r
  induction r with
  | nil => intro p f _ h1 h2; rw [List.append_nil]; exact ⟨h1, h2⟩
  | cons n r ih =>
    intro p f hs h1 h2
    have e : p ++ n :: r = (p ++ [n]) ++ r := by simp
    rw [e] at hs ⊢
    rw [lf]
    by_cases hn : n = f
    · rw [if_pos hn]
      refine ih (p ++ [n]) (f + 1) hs (fun k hk => ?_) (fun hm => ?_)
      · by_cases hk' : k < f
        · exact List.mem_append_left _ (h1 k hk')
        · rw [show k = f by omega, hn]; simp
      · rw [List.mem_append] at hm
        rcases hm with hm | hm
        · have hp := (List.pairwise_append.1 (List.pairwise_append.1 hs).1).2.2 (f + 1) hm n (by simp)
          omega
        · simp at hm; omega
    · rw [if_neg hn]
      refine ih (p ++ [n]) f hs (fun k hk => List.mem_append_left _ (h1 k hk)) (fun hm => ?_)
      rw [List.mem_append] at hm
      rcases hm with hm | hm
      · exact h2 hm
      · simp at hm; omega
/-- Of numbers in their order, in whatever order they were: the least one that is none of them is the number of the least line that stands nowhere. -/
theorem lf_line (l : T8) (s : List Nat) (hs : s.Pairwise (· ≤ ·)) (hp : s.Perm (taken l.length l)) :
    stands (line (lf s 0)) l = false ∧ (∀ m, m < lf s 0 → stands (line m) l = true) ∧ lf s 0 ≤ l.length := by
  obtain ⟨h1, h2⟩ := lf_spec s [] 0 (by simpa using hs) (fun k hk => absurd hk (Nat.not_lt_zero _)) (by simp)
  rw [List.nil_append] at h1 h2
  have hle : lf s 0 ≤ l.length := by
    have := (lf_len s 0).1
    have := hp.length_eq
    have := (taken_bound l.length l.length l (Nat.le_refl _)).1
    omega
  refine ⟨?_, fun m hm => ((taken_mem _ _ _).1 (hp.mem_iff.1 (h1 m hm))).2, hle⟩
  cases hq : stands (line (lf s 0)) l
  · rfl
  · exact absurd (hp.mem_iff.2 ((taken_mem _ _ _).2 ⟨hle, hq⟩)) h2
end Rg
end Go.Proofs.YtdbldompjhienaaDoor
