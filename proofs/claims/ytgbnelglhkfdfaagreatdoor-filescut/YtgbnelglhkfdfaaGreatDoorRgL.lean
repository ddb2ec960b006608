/-
  Lists of one piece. What is of no program.
-/
import Derived.Test.YtgbnelglhkfdfaaGreatDoorFtH
namespace Go.Proofs.YtgbnelglhkfdfaaGreatDoor
namespace Rg
theorem dgt_lt {c : Int} (h : Tx.dgt c < 10) : 48 ≤ c ∧ c ≤ 57 := by
  unfold Tx.dgt Tx.digC at h
  simp only [Bool.and_eq_true, decide_eq_true_eq] at h
  by_cases h1 : 48 ≤ c ∧ c ≤ 57
  · exact h1
  · rw [if_neg h1] at h
    split at h
    · omega
    · split at h <;> omega
theorem itoa_dig {u : Int} (h0 : 0 ≤ u) : ∀ c ∈ Lib.itoa u, 48 ≤ c.toNat ∧ c.toNat ≤ 57 := by
  intro c hc
  obtain ⟨k, rfl⟩ := Int.eq_ofNat_of_zero_le h0
  rw [Lib.itoa_nonneg] at hc
  have h := (Tx.decDigits_reads k k (Nat.le_refl _)).1
  unfold Tx.digs Tx.allC at h
  have h1 := List.all_eq_true.1 h c hc
  have := dgt_lt (of_decide_eq_true h1)
  omega
theorem itoa_ne {u : Int} (h0 : 0 ≤ u) : Lib.itoa u ≠ [] := by
  obtain ⟨k, rfl⟩ := Int.eq_ofNat_of_zero_le h0
  rw [Lib.itoa_nonneg]
  have h := (Tx.decDigits_reads k k (Nat.le_refl _)).2.2
  intro e
  rw [e] at h
  cases h
theorem itoa_short : ∀ (m : Nat) (u : Int), 0 ≤ u → u < 10 ^ (m + 1) → (Lib.itoa u).length ≤ m + 1 := by
  intro m
  induction m with
  | zero =>
    intro u h0 h1
    rw [Tx.itoa_lo u h0 (by simpa using h1)]; simp
  | succ m ih =>
    intro u h0 h1
    by_cases h10 : u < 10
    · rw [Tx.itoa_lo u h0 h10]; simp
    · rw [Tx.itoa_hi u (by omega), List.length_append, List.length_singleton]
      have := ih (u / 10) (by omega) (by
        rw [Int.pow_succ] at h1
        omega)
      omega
theorem itoa_15 {u : Int} (h0 : 0 ≤ u) (h1 : u ≤ 999999999999999) : (Lib.itoa u).length ≤ 15 := itoa_short 14 u h0 (by omega)
theorem digB_itoa {u : Int} (h0 : 0 ≤ u) (h1 : u ≤ 999999999999999) : digB (Lib.itoa u) = true ∧ digN (Lib.itoa u) = u := by
  have h2 := Tx.num_itoa u h0 (by omega) 0
  rw [List.replicate_zero, List.nil_append] at h2
  have h3 := itoa_15 h0 h1
  have h4 : 1 ≤ (Lib.itoa u).length := by
    rcases Nat.lt_or_ge 0 (Lib.itoa u).length with h | h
    · exact h
    · exact absurd (List.eq_nil_of_length_eq_zero (by omega)) (itoa_ne h0)
  unfold digB digN
  rw [h2, decide_eq_true h4, decide_eq_true h3, if_pos ⟨h4, h3⟩]
  exact ⟨rfl, rfl⟩
theorem ahead_app {x r : T8} (h : ∀ c ∈ x, c ≠ 45) : ahead (x ++ 45 :: r) = x.length ∧ hasD (x ++ 45 :: r) = true := by
  refine ⟨?_, ?_⟩
  · unfold ahead
    induction x with
    | nil => simp
    | cons a b ih =>
      rw [List.cons_append, List.takeWhile_cons]
      have h1 : (a == 45) = false := beq_false_of_ne (h a (by simp))
      rw [h1]
      simp only [Bool.not_false, if_true, List.length_cons]
      rw [ih (fun c hc => h c (List.mem_cons_of_mem _ hc))]
  · unfold hasD
    rw [List.contains_iff_mem]; simp
theorem dig_not {u : Int} (h0 : 0 ≤ u) : ∀ c ∈ Lib.itoa u, c ≠ 45 := fun c hc e => by
  have := itoa_dig h0 c hc
  rw [e] at this
  revert this; decide
theorem pc_cut {x r : T8} (n : Int) (h : ∀ c ∈ x, c ≠ 45) : pc (x ++ 45 :: r) n =
    if x.length = 0 then (⟨max (n - digN r) 0, n - 1⟩, decide (0 < digN r) && decide (0 < n), digB r)
    else if r.length = 0 then (⟨digN x, n - 1⟩, decide (digN x < n), digB x)
    else (⟨digN x, min (digN r) (n - 1)⟩, decide (digN x < n), digB x && digB r && decide (digN x ≤ digN r)) := by
  obtain ⟨h1, h2⟩ := ahead_app (r := r) h
  unfold pc
  rw [if_pos h2, h1]
  have e1 : (x ++ 45 :: r).take x.length = x := by rw [List.take_left]
  have e2 : (x ++ 45 :: r).drop (x.length + 1) = r := by
    rw [show x ++ 45 :: r = (x ++ [45]) ++ r by simp, show x.length + 1 = (x ++ [45]).length by simp, List.drop_left]
  simp only [e1, e2]
  have e3 : (x.length + 1 = (x ++ 45 :: r).length) = (r.length = 0) := by
    rw [List.length_append, List.length_cons]
    exact propext ⟨fun h => by omega, fun h => by omega⟩
  simp only [e3]
theorem len_pos {u : Int} (h0 : 0 ≤ u) : ¬ (Lib.itoa u).length = 0 := fun e => itoa_ne h0 (List.eq_nil_of_length_eq_zero e)
theorem pc_ab {a b n : Int} (a0 : 0 ≤ a) (a1 : a ≤ 999999999999999) (b0 : 0 ≤ b) (b1 : b ≤ 999999999999999) : pc (Lib.itoa a ++ 45 :: Lib.itoa b) n = (⟨a, min b (n - 1)⟩, decide (a < n), decide (a ≤ b)) := by
  rw [pc_cut n (dig_not a0), if_neg (len_pos a0), if_neg (len_pos b0), (digB_itoa a0 a1).1, (digB_itoa a0 a1).2, (digB_itoa b0 b1).1, (digB_itoa b0 b1).2]
  rfl
theorem pc_a {a n : Int} (a0 : 0 ≤ a) (a1 : a ≤ 999999999999999) : pc (Lib.itoa a ++ [45]) n = (⟨a, n - 1⟩, decide (a < n), true) := by
  rw [pc_cut n (dig_not a0), if_neg (len_pos a0), if_pos (show ([] : T8).length = 0 from rfl), (digB_itoa a0 a1).1, (digB_itoa a0 a1).2]
theorem pc_t {b n : Int} (b0 : 0 ≤ b) (b1 : b ≤ 999999999999999) : pc (45 :: Lib.itoa b) n = (⟨max (n - b) 0, n - 1⟩, decide (0 < b) && decide (0 < n), true) := by
  have := pc_cut (x := []) (r := Lib.itoa b) n (fun c hc => by simp at hc)
  rw [List.nil_append] at this
  rw [this, if_pos (show ([] : T8).length = 0 from rfl), (digB_itoa b0 b1).1, (digB_itoa b0 b1).2]
theorem dw_self : ∀ {p : T8}, (∀ c ∈ p, Tx.blkB c = false) → p.dropWhile Tx.blkB = p := by
  intro p h
  cases p with
  | nil => rfl
  | cons a b => rw [List.dropWhile_cons, h a (by simp)]; rfl
theorem trim_self {p : T8} (h : ∀ c ∈ p, Tx.blkB c = false) : Tx.trim p = p := by
  unfold Tx.trim Tx.trimR Tx.trimL
  rw [dw_self h, dw_self (fun c hc => h c (List.mem_reverse.1 hc)), List.reverse_reverse]
theorem cutA_one : ∀ (p cur : T8), (∀ c ∈ p, c ≠ 44) → cutA cur p = [cur ++ p] := by
  intro p
  induction p with
  | nil => intro cur _; rw [cutA, List.append_nil]
  | cons a b ih =>
    intro cur h
    rw [cutA, if_neg (h a (by simp)), ih _ (fun c hc => h c (List.mem_cons_of_mem _ hc))]
    simp
/-- A byte of a piece: a digit or '-'. -/
def isP (c : UInt8) : Prop := (48 ≤ c.toNat ∧ c.toNat ≤ 57) ∨ c = 45
theorem isP_not {c : UInt8} (h : isP c) : c ≠ 44 ∧ Tx.blkB c = false := by
  have hn : c.toNat = 45 ∨ (48 ≤ c.toNat ∧ c.toNat ≤ 57) := by
    rcases h with h | rfl
    · exact .inr h
    · exact .inl rfl
  refine ⟨fun e => by rw [e] at hn; revert hn; decide, ?_⟩
  cases hq : Tx.blkB c
  · rfl
  · exfalso
    unfold Tx.blkB Tx.blkC at hq
    simp at hq
    omega
theorem pcs_one {p : T8} (h : ∀ c ∈ p, isP c) (hne : p ≠ []) : pcs p = [p] := by
  unfold pcs
  rw [cutA_one p [] (fun c hc => (isP_not (h c hc)).1), List.nil_append, List.map_cons, trim_self (fun c hc => (isP_not (h c hc)).2)]
  cases p with
  | nil => exact absurd rfl hne
  | cons a b => rfl
theorem one_ok {p : T8} {n : Int} (h : ∀ c ∈ p, isP c) (hne : p ≠ []) (n0 : 0 ≤ n) (hg : (pc p n).2.2 = true) : err (head6 ++ p) n = (if (pc p n).2.1 then 0 else 161) ∧ res (head6 ++ p) n = (if (pc p n).2.1 then [(pc p n).1] else []) := by
  have e1 : (head6 ++ p).take 6 = head6 := rfl
  have e2 : (head6 ++ p).drop 6 = p := rfl
  have he : err (head6 ++ p) n = (if (pc p n).2.1 then 0 else 161) := by
    unfold err
    rw [if_neg (by omega), e1, e2, pcs_one h hne, beq_self_eq_true, if_pos rfl]
    have e3 : ([p].isEmpty || !([p].all fun p => (pc p n).2.2)) = false := by simp [hg]
    rw [e3]
    unfold outs
    cases hq : (pc p n).2.1 <;> simp [hq]
  refine ⟨he, ?_⟩
  unfold res
  rw [he]
  cases hq : (pc p n).2.1
  · rfl
  · rw [e2, pcs_one h hne]
    unfold outs
    simp [hq]
theorem isP_itoa {u : Int} (h0 : 0 ≤ u) : ∀ c ∈ Lib.itoa u, isP c := fun c hc => .inl (itoa_dig h0 c hc)
/-- 'bytes=a-b' within the body. -/
theorem ask_ab {a b n : Int} (a0 : 0 ≤ a) (ab : a ≤ b) (bn : b < n) (n1 : n ≤ 999999999999999) : err (head6 ++ (Lib.itoa a ++ 45 :: Lib.itoa b)) n = 0 ∧ res (head6 ++ (Lib.itoa a ++ 45 :: Lib.itoa b)) n = [⟨a, b⟩] := by
  have hp := pc_ab (n := n) a0 (by omega) (show 0 ≤ b by omega) (by omega)
  have := one_ok (p := Lib.itoa a ++ 45 :: Lib.itoa b) (n := n) (fun c hc => by
    rcases List.mem_append.1 hc with hc | hc
    · exact isP_itoa a0 c hc
    · rcases List.mem_cons.1 hc with hc | hc
      · exact .inr hc
      · exact isP_itoa (by omega) c hc) (by simp) (by omega) (by rw [hp]; simp only; exact decide_eq_true ab)
  rw [hp] at this
  simp only [decide_eq_true (show a < n by omega), if_true] at this
  rw [show min b (n - 1) = b by omega] at this
  exact this
theorem ask_a {a n : Int} (a0 : 0 ≤ a) (a1 : a ≤ 999999999999999) (n0 : 0 ≤ n) : err (head6 ++ (Lib.itoa a ++ [45])) n = (if a < n then 0 else 161) ∧ res (head6 ++ (Lib.itoa a ++ [45])) n = (if a < n then [⟨a, n - 1⟩] else []) := by
  have hp := pc_a (n := n) a0 a1
  have := one_ok (p := Lib.itoa a ++ [45]) (n := n) (fun c hc => by
    rcases List.mem_append.1 hc with hc | hc
    · exact isP_itoa a0 c hc
    · exact .inr (by simpa using hc)) (by simp) n0 (by rw [hp])
  rw [hp] at this
  simp only [decide_eq_true_eq] at this
  exact this
theorem ask_t {b n : Int} (b0 : 0 < b) (b1 : b ≤ 999999999999999) (n0 : 0 < n) : err (head6 ++ (45 :: Lib.itoa b)) n = 0 ∧ res (head6 ++ (45 :: Lib.itoa b)) n = [⟨max (n - b) 0, n - 1⟩] := by
  have hp := pc_t (n := n) (show 0 ≤ b by omega) b1
  have := one_ok (p := 45 :: Lib.itoa b) (n := n) (fun c hc => by
    rcases List.mem_cons.1 hc with hc | hc
    · exact .inr hc
    · exact isP_itoa (by omega) c hc) (by simp) (by omega) (by rw [hp])
  rw [hp] at this
  simp only [decide_eq_true b0, decide_eq_true n0, Bool.and_self, if_true] at this
  exact this
end Rg
end Go.Proofs.YtgbnelglhkfdfaaGreatDoor
