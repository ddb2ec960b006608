/-
  Ranges on lists of bytes: what is of no program.
  The numbers whose lines stand in a body, as the code gathers them, and the least that is free. What is of no program.
  The pieces of a list of ranges as the code cuts and reads them: the same as the document's. What is of no program.
  A body of several ranges, on lists of bytes. What is of no program.
  Lists of one piece. What is of no program.
-/
import Derived.Test.YtdbldompjhienaaDoorPureDec
import Derived.Lib.IndexMore
import Derived.Test.YtdbldompjhienaaDoorPureList
namespace Go.Proofs.YtdbldompjhienaaDoor
namespace Rg
abbrev T8 := List UInt8

/-- A number of 1 to 15 digits, and whether it is one. -/
def digN (l : T8) : Int := if 1 ≤ l.length ∧ l.length ≤ 15 then (Tx.num 10 l).1 else 0
def digB (l : T8) : Bool := decide (1 ≤ l.length) && decide (l.length ≤ 15) && ((Tx.num 10 l).2 == 0)
/-- How many bytes stand ahead of the first '-'. -/
def ahead (l : T8) : Nat := (l.takeWhile (fun c => !(c == 45))).length
def hasD (l : T8) : Bool := l.contains 45
/-- A range: from, to. -/
structure Rn where
  a : Int
  b : Int
/-- What a piece is of a body: the range, whether it is within, whether it is a piece. -/
def pc (l : T8) (n : Int) : Rn × Bool × Bool :=
  if hasD l then
    let d := ahead l
    let x := l.take d
    let y := l.drop (d + 1)
    if d = 0 then (⟨max (n - digN y) 0, n - 1⟩, decide (0 < digN y) && decide (0 < n), digB y)
    else if d + 1 = l.length then (⟨digN x, n - 1⟩, decide (digN x < n), digB x)
    else (⟨digN x, min (digN y) (n - 1)⟩, decide (digN x < n), digB x && digB y && decide (digN x ≤ digN y))
  else (⟨0, 0⟩, false, false)
/-- A text cut at its commas, what stands ahead of the next one in hand. -/
def cutA : T8 → T8 → List T8
  | cur, [] => [cur]
  | cur, c :: r => if c = 44 then cur :: cutA [] r else cutA (cur ++ [c]) r
def pcs (l : T8) : List T8 := ((cutA [] l).map Tx.trim).filter (fun p => !(p == []))
def head6 : T8 := [98, 121, 116, 101, 115, 61]
/-- What Parse answers. -/
def outs (ps : List T8) (n : Int) : List Rn := (ps.filter (fun p => (pc p n).2.1)).map (fun p => (pc p n).1)
def err (l : T8) (n : Int) : Int :=
  if n < 0 then 1 else if l.take 6 == head6 then
    (if (pcs (l.drop 6)).isEmpty || !(pcs (l.drop 6)).all (fun p => (pc p n).2.2) then 160
     else if 8 < (pcs (l.drop 6)).length then 4 else if (outs (pcs (l.drop 6)) n).isEmpty then 161 else 0)
  else 160
def res (l : T8) (n : Int) : List Rn := if err l n == 0 then outs (pcs (l.drop 6)) n else []
def sBytes : T8 := [98, 121, 116, 101, 115, 32]
def told (r : Rn) (n : Int) : T8 := sBytes ++ (Lib.itoa r.a ++ 45 :: (Lib.itoa r.b ++ 47 :: Lib.itoa n))
def unmet (n : Int) : T8 := [98, 121, 116, 101, 115, 32, 42, 47] ++ Lib.itoa n
/-- Whether a text stands in another one. -/
def stands (s b : T8) : Bool := (List.range (b.length + 1 - s.length)).any fun i => (b.drop i).take s.length == s
def sPart : T8 := [112, 97, 114, 116]
def line (n : Nat) : T8 := sPart ++ Lib.itoa (n : Int)
theorem ahead_at {l : T8} {k : Nat} (h : k < ahead l) : ∃ c, l[k]? = some c ∧ (c == 45) = false := by
  unfold ahead at h
  induction l generalizing k with
  | nil => simp at h
  | cons x r ih =>
    rw [List.takeWhile_cons] at h
    cases hx : (x == 45)
    · rw [hx] at h
      cases k with
      | zero => exact ⟨x, rfl, hx⟩
      | succ k => simpa using ih (by simpa using h)
    · rw [hx] at h; simp at h
theorem ahead_stop {l : T8} (h : hasD l = true) : l[ahead l]? = some 45 := by
  unfold ahead hasD at *
  induction l with
  | nil => simp at h
  | cons x r ih =>
    rw [List.takeWhile_cons]
    cases hx : (x == 45)
    · rw [List.contains_cons, Bool.or_eq_true] at h
      rcases h with h | h
      · rw [Bool.beq_comm] at h; rw [h] at hx; cases hx
      · simpa using ih h
    · simp; exact eq_of_beq hx
theorem ahead_lt {l : T8} (h : hasD l = true) : ahead l < l.length := by
  have := ahead_stop h
  rcases Nat.lt_or_ge (ahead l) l.length with h1 | h1
  · exact h1
  · rw [List.getElem?_eq_none h1] at this; cases this
theorem ahead_all {l : T8} (h : hasD l = false) : ∀ (k : Nat) (c : UInt8), l[k]? = some c → (c == 45) = false := by
  intro k c hc
  have := List.mem_of_getElem? hc
  unfold hasD at h
  cases hq : (c == 45)
  · rfl
  · rw [eq_of_beq hq] at this
    have := List.contains_iff_mem.2 this
    rw [h] at this; cases this
theorem num_bd (l : T8) : 0 ≤ (Tx.num 10 l).1 ∧ (Tx.num 10 l).1 ≤ 9223372036854775807 := by
  unfold Tx.num
  split
  · exact ⟨by decide, by decide⟩
  · split
    · exact ⟨by decide, by decide⟩
    · rename_i h
      have := Tx.numv_nonneg 10 (by decide) l
      rw [Tx.top_eq] at h
      exact ⟨this, by simp only; omega⟩
theorem digN_bd (l : T8) : 0 ≤ digN l ∧ digN l ≤ 9223372036854775807 := by
  unfold digN
  split
  · exact num_bd l
  · exact ⟨by decide, by decide⟩
end Rg
end Go.Proofs.YtdbldompjhienaaDoor

namespace Go.Proofs.YtdbldompjhienaaDoor
namespace Rg
def isD (c : UInt8) : Bool := decide (48 ≤ c.toNat) && decide (c.toNat ≤ 57)
/-- What the word 'part' stands ahead of, at each of its places. -/
def afters : T8 → List T8
  | [] => []
  | c :: r => if sPart.isPrefixOf (c :: r) then r.drop 3 :: afters r else afters r
/-- The numbers up to most that a text begins with, behind what was read. -/
def nums (most : Nat) : Nat → T8 → List Nat
  | _, [] => []
  | n, c :: r => if isD c then (if most < n * 10 + (c.toNat - 48) then [] else (n * 10 + (c.toNat - 48)) :: (if n * 10 + (c.toNat - 48) = 0 then [] else nums most (n * 10 + (c.toNat - 48)) r)) else []
def taken (most : Nat) (l : T8) : List Nat := (afters l).flatMap (nums most 0)
/-- The least number that is free: of numbers in their order. -/
def lf : List Nat → Nat → Nat
  | [], f => f
  | n :: r, f => lf r (if n = f then f + 1 else f)

theorem afters_skip {c : UInt8} {r : T8} (h : sPart.isPrefixOf (c :: r) = false) : afters (c :: r) = afters r := by rw [afters, h]; rfl
theorem afters_hop : ∀ (i : Nat) (l : T8), (∀ j, j < i → sPart.isPrefixOf (l.drop j) = false) → afters l = afters (l.drop i) := by
  intro i
  induction i with
  | zero => intro l _; rw [List.drop_zero]
  | succ i ih =>
    intro l h
    cases l with
    | nil => rfl
    | cons c r =>
      rw [afters_skip (by simpa using h 0 (Nat.succ_pos i)), List.drop_succ_cons]
      exact ih r (fun j hj => by simpa using h (j + 1) (Nat.succ_lt_succ hj))
theorem afters_at {l : T8} (h : sPart.isPrefixOf l = true) : afters l = l.drop 4 :: afters (l.drop 4) := by
  obtain ⟨t, rfl⟩ := List.isPrefixOf_iff_prefix.1 h
  have e : sPart ++ t = 112 :: 97 :: 114 :: 116 :: t := rfl
  have e1 : sPart.isPrefixOf (112 :: 97 :: 114 :: 116 :: t) = true := by rw [← e]; exact h
  rw [e, afters, if_pos e1, afters_skip (by simp [sPart, List.isPrefixOf]), afters_skip (by simp [sPart, List.isPrefixOf]), afters_skip (by simp [sPart, List.isPrefixOf])]
  rfl
/-- A body that is cut at its first 'part'. -/
theorem afters_cut (l : T8) : ((Lib.cut l sPart).2.2 = false ∧ afters l = []) ∨ ((Lib.cut l sPart).2.2 = true ∧ afters l = (Lib.cut l sPart).2.1 :: afters (Lib.cut l sPart).2.1 ∧ (Lib.cut l sPart).2.1.length < l.length) := by
  rcases Lib.index_spec l sPart with ⟨h1, h2⟩ | ⟨i, h1, h2, h3, h4⟩
  · left
    have e : Lib.cut l sPart = (l, [], false) := by unfold Lib.cut; rw [h1]; rfl
    rw [e]
    refine ⟨rfl, ?_⟩
    rw [afters_hop l.length l (fun j hj => h2 j (Nat.le_of_lt hj)), List.drop_length]; rfl
  · right
    have e : Lib.cut l sPart = (l.take i, l.drop (i + 4), true) := by unfold Lib.cut; rw [h1, if_pos (by omega)]; rfl
    rw [e]
    have h3' : sPart.isPrefixOf (l.drop i) = true := h3
    have hl : i + 4 ≤ l.length := by
      have := Lib.index_room l sPart (by omega)
      rw [h1] at this
      simp [sPart] at this; omega
    refine ⟨rfl, ?_, by simp only [List.length_drop]; omega⟩
    simp only
    rw [afters_hop i l (fun j hj => h4 j hj), afters_at h3', List.drop_drop]
theorem afters_len : ∀ (l : T8), ∀ t ∈ afters l, t.length ≤ l.length := by
  intro l
  induction l with
  | nil => intro t h; simp [afters] at h
  | cons c r ih =>
    intro t h
    unfold afters at h
    split at h
    · rcases List.mem_cons.1 h with rfl | h
      · simp; omega
      · have := ih t h; simp; omega
    · have := ih t h; simp; omega
/-- A text behind 'part' stands in a body where it stands behind one of the places. -/
theorem stands_afters (d : T8) : ∀ (l : T8), stands (sPart ++ d) l = (afters l).any (fun t => d.isPrefixOf t) := by
  have key : ∀ (l : T8), (stands (sPart ++ d) l = true) ↔ ∃ t ∈ afters l, d <+: t := by
    intro l
    have h1 : stands (sPart ++ d) l = true ↔ ∃ i, (sPart ++ d) <+: l.drop i := by
      unfold stands
      rw [List.any_eq_true]
      constructor
      · rintro ⟨i, _, hi⟩
        exact ⟨i, by rw [List.prefix_iff_eq_take]; exact (eq_of_beq hi).symm⟩
      · rintro ⟨i, hi⟩
        have hlen := hi.length_le
        rw [List.length_drop] at hlen
        have : 4 ≤ (sPart ++ d).length := by simp [sPart]
        exact ⟨i, List.mem_range.2 (by omega), by rw [beq_iff_eq]; exact (List.prefix_iff_eq_take.1 hi).symm⟩
    rw [h1]
    clear h1
    induction l with
    | nil =>
      simp only [List.drop_nil, afters, List.not_mem_nil, false_and, exists_false, iff_false, not_exists]
      intro _ h
      have := h.length_le
      simp [sPart] at this
    | cons c r ih =>
      have h0 : (∃ i, (sPart ++ d) <+: (c :: r).drop i) ↔ ((sPart ++ d) <+: c :: r) ∨ ∃ i, (sPart ++ d) <+: r.drop i := by
        constructor
        · rintro ⟨i, hi⟩
          cases i with
          | zero => exact .inl hi
          | succ i => exact .inr ⟨i, hi⟩
        · rintro (h | ⟨i, hi⟩)
          · exact ⟨0, h⟩
          · exact ⟨i + 1, hi⟩
      refine (h0.trans (or_congr Iff.rfl ih)).trans ?_
      cases hp : sPart.isPrefixOf (c :: r)
      · rw [afters_skip hp]
        refine ⟨fun h => h.resolve_left (fun h1 => ?_), .inr⟩
        have := List.isPrefixOf_iff_prefix.2 ((List.prefix_append sPart d).trans h1)
        rw [hp] at this; cases this
      · rw [afters, if_pos hp]
        obtain ⟨t, ht⟩ := List.isPrefixOf_iff_prefix.1 hp
        have e : r.drop 3 = t := by
          have : c :: r = 112 :: 97 :: 114 :: 116 :: t := ht.symm
          injection this with _ h2
          rw [h2]; rfl
        rw [e, ← ht]
        simp only [List.mem_cons, exists_eq_or_imp, List.prefix_append_right_inj]
  intro l
  rw [Bool.eq_iff_iff, key, List.any_eq_true]
  simp only [List.isPrefixOf_iff_prefix]

theorem itoa_snoc (n d : Nat) (hn : 0 < n) (hd : d < 10) : Lib.itoa ((n * 10 + d : Nat) : Int) = Lib.itoa (n : Int) ++ [UInt8.ofNat (48 + d)] := by
  rw [Tx.itoa_hi _ (by omega)]
  have e1 : ((n * 10 + d : Nat) : Int) / 10 = (n : Int) := by omega
  have e2 : (48 + ((n * 10 + d : Nat) : Int) % 10).toNat = 48 + d := by omega
  rw [e1, e2]
theorem itoa_one (d : Nat) (hd : d < 10) : Lib.itoa (d : Int) = [UInt8.ofNat (48 + d)] := by
  rw [Tx.itoa_lo _ (by omega) (by omega)]
  congr 2
theorem digit_back {c : UInt8} (h : isD c = true) : UInt8.ofNat (48 + (c.toNat - 48)) = c ∧ c.toNat - 48 < 10 := by
  unfold isD at h
  rw [Bool.and_eq_true, decide_eq_true_iff, decide_eq_true_iff] at h
  refine ⟨?_, by omega⟩
  rw [show 48 + (c.toNat - 48) = c.toNat by omega]
  exact UInt8.ofNat_toNat
theorem digit_there (d : Nat) (hd : d < 10) : isD (UInt8.ofNat (48 + d)) = true ∧ (UInt8.ofNat (48 + d)).toNat - 48 = d := by
  have e : (UInt8.ofNat (48 + d)).toNat = 48 + d := by rw [UInt8.toNat_ofNat']; omega
  unfold isD
  rw [e]
  exact ⟨by simp; omega, by omega⟩
/-- Behind a number that is not 0: what is found is that number's digits and more. -/
theorem nums_goes (most : Nat) : ∀ (t : T8) (n m : Nat), 0 < n → m ∈ nums most n t → m ≤ most ∧ 0 < m ∧ ∃ d, Lib.itoa (m : Int) = Lib.itoa (n : Int) ++ d ∧ d <+: t := by
  intro t
  induction t with
  | nil => intro n m _ h; simp [nums] at h
  | cons c r ih =>
    intro n m hn h
    unfold nums at h
    split at h
    · rename_i hc
      obtain ⟨hb, hd⟩ := digit_back hc
      obtain ⟨k, hk⟩ : ∃ k, n * 10 + (c.toNat - 48) = k := ⟨_, rfl⟩
      have hi := itoa_snoc n (c.toNat - 48) hn hd
      rw [hb] at hi
      rw [hk] at h hi
      split at h
      · simp at h
      · rename_i hm
        rcases List.mem_cons.1 h with rfl | h
        · exact ⟨by omega, by omega, [c], hi, ⟨r, rfl⟩⟩
        · rw [if_neg (by omega)] at h
          obtain ⟨h1, h2, d, h3, h4⟩ := ih k m (by omega) h
          refine ⟨h1, h2, c :: d, by rw [h3, hi]; simp, ?_⟩
          obtain ⟨q, hq⟩ := h4
          exact ⟨q, by rw [← hq]; rfl⟩
    · simp at h
theorem nums_sound (most : Nat) (t : T8) (m : Nat) (h : m ∈ nums most 0 t) : m ≤ most ∧ Lib.itoa (m : Int) <+: t := by
  cases t with
  | nil => simp [nums] at h
  | cons c r =>
    unfold nums at h
    split at h
    · rename_i hc
      obtain ⟨hb, hd⟩ := digit_back hc
      obtain ⟨k, hk⟩ : ∃ k, 0 * 10 + (c.toNat - 48) = k := ⟨_, rfl⟩
      have hk' : c.toNat - 48 = k := by omega
      have hi := itoa_one (c.toNat - 48) hd
      rw [hb, hk'] at hi
      rw [hk] at h
      split at h
      · simp at h
      · rename_i hm
        rcases List.mem_cons.1 h with rfl | h
        · exact ⟨by omega, by rw [hi]; exact ⟨r, rfl⟩⟩
        · by_cases h0 : k = 0
          · rw [if_pos h0] at h; simp at h
          · rw [if_neg h0] at h
            obtain ⟨h1, h2, d, h3, h4⟩ := nums_goes most r k m (by omega) h
            refine ⟨h1, ?_⟩
            rw [h3, hi]
            obtain ⟨q, hq⟩ := h4
            exact ⟨q, by rw [← hq]; rfl⟩
    · simp at h
theorem nums_all (most : Nat) : ∀ (m : Nat) (t : T8), 0 < m → m ≤ most → ∃ L, nums most 0 (Lib.itoa (m : Int) ++ t) = L ++ m :: nums most m t := by
  intro m
  induction m using Nat.strongRecOn with
  | ind m ih =>
    intro t h0 h1
    by_cases h10 : m < 10
    · rw [itoa_one m h10]
      obtain ⟨d1, d2⟩ := digit_there m h10
      refine ⟨[], ?_⟩
      rw [List.cons_append, List.nil_append, nums, if_pos d1, d2, if_neg (by omega), if_neg (by omega)]
      simp
    · have e : m = (m / 10) * 10 + m % 10 := by omega
      obtain ⟨d1, d2⟩ := digit_there (m % 10) (by omega)
      have hi := itoa_snoc (m / 10) (m % 10) (by omega) (by omega)
      rw [← e] at hi
      obtain ⟨L, hL⟩ := ih (m / 10) (by omega) (UInt8.ofNat (48 + m % 10) :: t) (by omega) (by omega)
      refine ⟨L ++ [m / 10], ?_⟩
      rw [hi, List.append_assoc, List.singleton_append, hL, nums, if_pos d1, d2, ← e, if_neg (by omega), if_neg (by omega)]
      simp
theorem nums_complete (most : Nat) (t : T8) (m : Nat) (hm : m ≤ most) (h : Lib.itoa (m : Int) <+: t) : m ∈ nums most 0 t := by
  obtain ⟨q, rfl⟩ := h
  by_cases h0 : m = 0
  · subst h0
    rw [show Lib.itoa ((0 : Nat) : Int) = [48] from itoa_one 0 (by omega)]
    rw [List.cons_append, List.nil_append, nums, if_pos (by decide), if_neg (by simp)]
    simp
  · obtain ⟨L, hL⟩ := nums_all most m q (by omega) hm
    rw [hL]; simp
theorem taken_mem (most : Nat) (l : T8) (m : Nat) : m ∈ taken most l ↔ m ≤ most ∧ stands (line m) l = true := by
  unfold taken line
  rw [stands_afters, List.mem_flatMap, List.any_eq_true]
  constructor
  · rintro ⟨t, h1, h2⟩
    obtain ⟨h3, h4⟩ := nums_sound most t m h2
    exact ⟨h3, t, h1, List.isPrefixOf_iff_prefix.2 h4⟩
  · rintro ⟨h1, t, h2, h3⟩
    exact ⟨t, h2, nums_complete most t m h1 (List.isPrefixOf_iff_prefix.1 h3)⟩

/-- How many numbers a text begins with: at most its digits. -/
theorem nums_len (most : Nat) : ∀ (t : T8) (n : Nat), (nums most n t).length ≤ (t.takeWhile isD).length := by
  intro t
  induction t with
  | nil => intro n; simp [nums]
  | cons c r ih =>
    intro n
    unfold nums
    rw [List.takeWhile_cons]
    cases hc : isD c
    · simp
    · simp only [if_true]
      split
      · simp
      · split
        · simp
        · have := ih (n * 10 + (c.toNat - 48)); simp; omega
theorem digits_hop : ∀ (t : T8), afters t = afters (t.drop (t.takeWhile isD).length) := by
  intro t
  induction t with
  | nil => rfl
  | cons c r ih =>
    rw [List.takeWhile_cons]
    cases hc : isD c
    · simp
    · simp only [if_true, List.length_cons, List.drop_succ_cons]
      rw [afters_skip, ih]
      simp only [sPart, List.isPrefixOf]
      rw [beq_false_of_ne (fun e => by rw [← e] at hc; revert hc; decide)]
      rfl
theorem taken_bound (most : Nat) : ∀ (k : Nat) (l : T8), l.length ≤ k → (taken most l).length ≤ l.length ∧ ((taken most l).length + 4 ≤ l.length ∨ taken most l = []) := by
  intro k
  induction k with
  | zero =>
    intro l h
    have : l = [] := List.length_eq_zero_iff.1 (by omega)
    subst this
    exact ⟨by simp [taken, afters], .inr rfl⟩
  | succ k ih =>
    intro l h
    rcases afters_cut l with ⟨_, h1⟩ | ⟨_, h1, h2⟩
    · unfold taken; rw [h1]; simp
    · obtain ⟨t, ht⟩ : ∃ t, (Lib.cut l sPart).2.1 = t := ⟨_, rfl⟩
      rw [ht] at h1 h2
      have h4 : t.length + 4 ≤ l.length := by
        rcases Lib.index_spec l sPart with ⟨g1, _⟩ | ⟨i, g1, _, _, _⟩
        · rw [← ht]; unfold Lib.cut; rw [g1]
          have : l ≠ [] := fun e => by rw [e] at h1; simp [afters] at h1
          have e : Lib.cut l sPart = (l, [], false) := by unfold Lib.cut; rw [g1]; rfl
          rcases afters_cut l with ⟨_, g2⟩ | ⟨g2, _⟩
          · rw [g2] at h1; cases h1
          · rw [e] at g2; cases g2
        · have e : Lib.cut l sPart = (l.take i, l.drop (i + 4), true) := by unfold Lib.cut; rw [g1, if_pos (by omega)]; rfl
          have := Lib.index_room l sPart (by omega)
          rw [g1] at this
          rw [← ht, e]
          simp [sPart] at this ⊢; omega
      obtain ⟨u, hu⟩ : ∃ u, t.drop (t.takeWhile isD).length = u := ⟨_, rfl⟩
      have hul : u.length + (t.takeWhile isD).length = t.length := by
        rw [← hu, List.length_drop]
        have := (List.takeWhile_prefix isD (l := t)).length_le
        omega
      have hd := digits_hop t
      rw [hu] at hd
      have h3 := (ih u (by omega)).1
      have h5 := nums_len most t 0
      have e : taken most l = nums most 0 t ++ taken most u := by unfold taken; rw [h1, hd]; rfl
      rw [e, List.length_append]
      exact ⟨by omega, .inl (by omega)⟩
theorem lf_len : ∀ (l : List Nat) (f : Nat), lf l f ≤ f + l.length ∧ f ≤ lf l f := by
  intro l
  induction l with
  | nil => intro f; simp [lf]
  | cons n r ih =>
    intro f
    rw [lf]
    have := ih (if n = f then f + 1 else f)
    simp only [List.length_cons]
    split at this <;> rename_i h
    · rw [if_pos h]; omega
    · rw [if_neg h]; omega
theorem lf_spec : ∀ (r p : List Nat) (f : Nat), (p ++ r).Pairwise (· ≤ ·) → (∀ k, k < f → k ∈ p) → f ∉ p → (∀ k, k < lf r f → k ∈ p ++ r) ∧ lf r f ∉ p ++ r := by
  intro r
  induction r with
  | nil => intro p f _ h1 h2; rw [List.append_nil]; exact ⟨h1, h2⟩
  | cons n r ih =>
    intro p f hs h1 h2
    have e : p ++ n :: r = (p ++ [n]) ++ r := by simp
    rw [e] at hs ⊢
    rw [lf]
    by_cases hn : n = f
    · rw [if_pos hn]
      refine ih (p ++ [n]) (f + 1) hs (fun k hk => ?_) (fun hm => ?_)
      · by_cases hk' : k < f
        · exact List.mem_append_left _ (h1 k hk')
        · rw [show k = f by omega, hn]; simp
      · rw [List.mem_append] at hm
        rcases hm with hm | hm
        · have hp := (List.pairwise_append.1 (List.pairwise_append.1 hs).1).2.2 (f + 1) hm n (by simp)
          omega
        · simp at hm; omega
    · rw [if_neg hn]
      refine ih (p ++ [n]) f hs (fun k hk => List.mem_append_left _ (h1 k hk)) (fun hm => ?_)
      rw [List.mem_append] at hm
      rcases hm with hm | hm
      · exact h2 hm
      · simp at hm; omega
/-- Of numbers in their order, in whatever order they were: the least one that is none of them is the number of the least line that stands nowhere. -/
theorem lf_line (l : T8) (s : List Nat) (hs : s.Pairwise (· ≤ ·)) (hp : s.Perm (taken l.length l)) :
    stands (line (lf s 0)) l = false ∧ (∀ m, m < lf s 0 → stands (line m) l = true) ∧ lf s 0 ≤ l.length := by
  obtain ⟨h1, h2⟩ := lf_spec s [] 0 (by simpa using hs) (fun k hk => absurd hk (Nat.not_lt_zero _)) (by simp)
  rw [List.nil_append] at h1 h2
  have hle : lf s 0 ≤ l.length := by
    have := (lf_len s 0).1
    have := hp.length_eq
    have := (taken_bound l.length l.length l (Nat.le_refl _)).1
    omega
  refine ⟨?_, fun m hm => ((taken_mem _ _ _).1 (hp.mem_iff.1 (h1 m hm))).2, hle⟩
  cases hq : stands (line (lf s 0)) l
  · rfl
  · exact absurd (hp.mem_iff.2 ((taken_mem _ _ _).2 ⟨hle, hq⟩)) h2
end Rg
end Go.Proofs.YtdbldompjhienaaDoor

namespace Go.Proofs.YtdbldompjhienaaDoor
namespace Rg
theorem addm_eq (p : T8) : Tx.addm p = ([Tx.trim p]).filter (fun q => !(q == [])) := by
  unfold Tx.addm
  cases h : Tx.trim p <;> rfl
theorem mems_plain : ∀ (l cur : T8), 34 ∉ l → Tx.mems cur false false l = ((cutA cur l).map Tx.trim).filter (fun q => !(q == [])) := by
  intro l
  induction l with
  | nil => intro cur _; rw [Tx.mems, cutA, addm_eq]; rfl
  | cons c r ih =>
    intro cur h
    have hc : (c == 34) = false := beq_false_of_ne (fun e => h (by rw [e]; simp))
    have hr : 34 ∉ r := fun e => h (List.mem_cons_of_mem _ e)
    rw [Tx.mems, cutA, hc]
    by_cases h44 : c = 44
    · subst h44
      rw [if_pos rfl, if_neg (by decide), if_neg (by decide), if_neg (by decide), if_pos (by decide), ih [] hr, addm_eq, List.map_cons, ← List.filter_append]
      rfl
    · rw [if_neg h44, if_neg (by decide), if_neg (by decide), if_neg (by simp), if_neg (by simpa using h44), ih _ hr]
theorem list_plain {l : T8} (h : 34 ∉ l) : Tx.list l = pcs l := mems_plain l [] h
theorem mem_dw {c : UInt8} (hc : Tx.blkB c = false) : ∀ {l : T8}, c ∈ l → c ∈ l.dropWhile Tx.blkB := by
  intro l
  induction l with
  | nil => intro h; exact h
  | cons x r ih =>
    intro h
    rw [List.dropWhile_cons]
    cases hx : Tx.blkB x
    · exact h
    · rcases List.mem_cons.1 h with rfl | h
      · rw [hc] at hx; cases hx
      · exact ih h
theorem mem_trim {c : UInt8} (hc : Tx.blkB c = false) {l : T8} (h : c ∈ l) : c ∈ Tx.trim l := by
  unfold Tx.trim Tx.trimR Tx.trimL
  rw [List.mem_reverse]
  refine mem_dw hc ?_
  rw [List.mem_reverse]
  exact mem_dw hc h
theorem blk34 : Tx.blkB 34 = false := by decide
theorem addm_quote {p : T8} (h : 34 ∈ p) : ∃ q ∈ Tx.addm p, 34 ∈ q := by
  have h1 := mem_trim blk34 h
  unfold Tx.addm
  cases ht : Tx.trim p with
  | nil => rw [ht] at h1; simp at h1
  | cons a b => exact ⟨a :: b, by simp, by rw [← ht]; exact h1⟩
theorem mems_quote : ∀ (l cur : T8) (q e : Bool), (34 ∈ cur ∨ 34 ∈ l) → ∃ p ∈ Tx.mems cur q e l, 34 ∈ p := by
  intro l
  induction l with
  | nil =>
    intro cur q e h
    rw [Tx.mems]
    exact addm_quote (h.resolve_right (by simp))
  | cons c r ih =>
    intro cur q e h
    have h2 : 34 ∈ cur ++ [c] ∨ 34 ∈ r := by
      rcases h with h | h
      · exact .inl (List.mem_append_left _ h)
      · rcases List.mem_cons.1 h with h | h
        · exact .inl (by rw [← h]; simp)
        · exact .inr h
    rw [Tx.mems]
    split
    · exact ih _ _ _ h2
    · split
      · exact ih _ _ _ h2
      · split
        · exact ih _ _ _ h2
        · split
          · rename_i hc
            have hc44 : c = 44 := by
              rw [Bool.and_eq_true] at hc
              exact eq_of_beq hc.2
            rcases h with h | h
            · obtain ⟨p, hp, h3⟩ := addm_quote h
              exact ⟨p, List.mem_append_left _ hp, h3⟩
            · rcases List.mem_cons.1 h with h | h
              · rw [hc44] at h; exact absurd h (by decide)
              · obtain ⟨p, hp, h3⟩ := ih [] q false (.inr h)
                exact ⟨p, List.mem_append_right _ hp, h3⟩
          · exact ih _ _ _ h2
theorem cutA_quote : ∀ (l cur : T8), (34 ∈ cur ∨ 34 ∈ l) → ∃ p ∈ cutA cur l, 34 ∈ p := by
  intro l
  induction l with
  | nil => intro cur h; exact ⟨cur, by simp [cutA], h.resolve_right (by simp)⟩
  | cons c r ih =>
    intro cur h
    rw [cutA]
    split
    · rename_i hc
      rcases h with h | h
      · exact ⟨cur, by simp, h⟩
      · rcases List.mem_cons.1 h with h | h
        · rw [hc] at h; exact absurd h (by decide)
        · obtain ⟨p, hp, h3⟩ := ih [] (.inr h)
          exact ⟨p, List.mem_cons_of_mem _ hp, h3⟩
    · refine ih _ ?_
      rcases h with h | h
      · exact .inl (List.mem_append_left _ h)
      · rcases List.mem_cons.1 h with h | h
        · exact .inl (by rw [← h]; simp)
        · exact .inr h
theorem pcs_quote {l : T8} (h : 34 ∈ l) : ∃ p ∈ pcs l, 34 ∈ p := by
  obtain ⟨p, hp, h3⟩ := cutA_quote l [] (.inr h)
  have h4 := mem_trim blk34 h3
  refine ⟨Tx.trim p, ?_, h4⟩
  unfold pcs
  refine List.mem_filter.2 ⟨List.mem_map_of_mem hp, ?_⟩
  cases ht : Tx.trim p with
  | nil => rw [ht] at h4; simp at h4
  | cons a b => rfl
theorem digB_no {l : T8} (h : digB l = true) : 34 ∉ l := by
  intro hm
  unfold digB at h
  rw [Bool.and_eq_true, Bool.and_eq_true] at h
  have h1 := eq_of_beq h.2
  unfold Tx.num at h1
  split at h1
  · revert h1; decide
  · rename_i h2
    simp only [Bool.or_eq_true, not_or] at h2
    have h3 := h2.2
    simp only [Bool.not_eq_true', Bool.not_eq_false] at h3
    unfold Tx.digs Tx.allC at h3
    have := List.all_eq_true.1 h3 34 hm
    revert this; decide
theorem split_at {l : T8} (h : hasD l = true) : l = l.take (ahead l) ++ 45 :: l.drop (ahead l + 1) := by
  have h1 := ahead_stop h
  obtain ⟨h2, h3⟩ := List.getElem?_eq_some_iff.1 h1
  have h4 : l.drop (ahead l) = 45 :: l.drop (ahead l + 1) := by rw [List.drop_eq_getElem_cons h2, h3]
  rw [← h4, List.take_append_drop]
theorem pc_no {l : T8} {n : Int} (h : (pc l n).2.2 = true) : 34 ∉ l := by
  intro hm
  unfold pc at h
  split at h
  · rename_i hd
    rw [split_at hd, List.mem_append, List.mem_cons] at hm
    simp only at h
    split at h
    · rename_i h0
      rcases hm with hm | hm | hm
      · rw [h0] at hm; simp at hm
      · exact absurd hm (by decide)
      · exact digB_no h (by rw [h0] at hm ⊢; exact hm)
    · split at h
      · rename_i h1
        rcases hm with hm | hm | hm
        · exact digB_no h hm
        · exact absurd hm (by decide)
        · rw [h1, List.drop_length] at hm; simp at hm
      · simp only [Bool.and_eq_true] at h
        rcases hm with hm | hm | hm
        · exact digB_no h.1.1 hm
        · exact absurd hm (by decide)
        · exact digB_no h.1.2 hm
  · cases h
/-- The code's pieces are good where the document's are, and then they are the same. -/
theorem list_good (l : T8) (n : Int) : (34 ∉ l ∧ Tx.list l = pcs l) ∨ ((Tx.list l).all (fun p => (pc p n).2.2) = false ∧ (pcs l).all (fun p => (pc p n).2.2) = false) := by
  by_cases h : 34 ∈ l
  · right
    refine ⟨?_, ?_⟩
    · obtain ⟨p, hp, h1⟩ := mems_quote l [] false false (.inr h)
      rw [Bool.eq_false_iff]; intro ht
      exact pc_no (List.all_eq_true.1 ht p hp) h1
    · obtain ⟨p, hp, h1⟩ := pcs_quote h
      rw [Bool.eq_false_iff]; intro ht
      exact pc_no (List.all_eq_true.1 ht p hp) h1
  · exact .inl ⟨h, list_plain h⟩
/-- What Parse answers, of the code's pieces. -/
theorem err_list {l : T8} {n : Int} (n0 : ¬ n < 0) (hh : (l.take 6 == head6) = true) :
    (err l n = if (Tx.list (l.drop 6)).isEmpty || !(Tx.list (l.drop 6)).all (fun p => (pc p n).2.2) then 160 else if 8 < (Tx.list (l.drop 6)).length then 4 else if (outs (Tx.list (l.drop 6)) n).isEmpty then 161 else 0) ∧ (err l n = 0 → res l n = outs (Tx.list (l.drop 6)) n) := by
  have h0 : err l n = if (pcs (l.drop 6)).isEmpty || !(pcs (l.drop 6)).all (fun p => (pc p n).2.2) then 160 else if 8 < (pcs (l.drop 6)).length then 4 else if (outs (pcs (l.drop 6)) n).isEmpty then 161 else 0 := by unfold err; rw [if_neg n0, if_pos hh]
  rcases list_good (l.drop 6) n with ⟨_, h⟩ | ⟨h1, h2⟩
  · rw [h]
    exact ⟨h0, fun e => by unfold res; rw [e]; rfl⟩
  · rw [h2, Bool.not_false, Bool.or_true, if_pos rfl] at h0
    rw [h1, Bool.not_false, Bool.or_true, if_pos rfl]
    exact ⟨h0, fun e => by rw [h0] at e; exact absurd e (by decide)⟩
/-- A range within a body of n bytes. -/
def wth (r : Rn) (n : Int) : Bool := decide (0 ≤ r.a) && (decide (r.a ≤ r.b) && decide (r.b < n))
theorem pc_wth {l : T8} {n : Int} (n0 : 0 ≤ n) (h : (pc l n).2.2 = true) : wth (pc l n).1 n = (pc l n).2.1 := by
  have key : ∀ (a b : Int) (q : Prop) [Decidable q], ((0 ≤ a ∧ a ≤ b ∧ b < n) ↔ q) → wth ⟨a, b⟩ n = decide q := by
    intro a b q _ hq
    unfold wth
    rw [Bool.eq_iff_iff]
    simp only [Bool.and_eq_true, decide_eq_true_iff]
    exact hq
  unfold pc at h ⊢
  split at h
  · rename_i hd
    rw [if_pos hd]
    simp only at h ⊢
    have hx := digN_bd (l.take (ahead l))
    have hy := digN_bd (l.drop (ahead l + 1))
    split at h
    · rename_i h0
      rw [if_pos h0]
      simp only
      rw [key _ _ (0 < digN (l.drop (ahead l + 1)) ∧ 0 < n) (by omega), Bool.decide_and]
    · rename_i h0
      rw [if_neg h0]
      split at h
      · rename_i h1
        rw [if_pos h1]
        exact key _ _ _ (by omega)
      · rename_i h1
        rw [if_neg h1]
        simp only [Bool.and_eq_true, decide_eq_true_iff] at h
        exact key _ _ _ (by have := h.2; omega)
  · cases h
/-- What the code reads of a text's digits. -/
def cB (l : T8) : Bool := decide (l.length ≤ 15) && ((Tx.num 10 l).2 == 0)
theorem cB_eq (l : T8) : cB l = digB l := by
  unfold cB digB
  cases l with
  | nil => rfl
  | cons a b => simp
theorem digN_ok {l : T8} (h : digB l = true) : digN l = (Tx.num 10 l).1 := by
  unfold digB at h
  unfold digN
  simp only [Bool.and_eq_true, decide_eq_true_iff] at h
  rw [if_pos h.1]
theorem occ45 (l : T8) (j : Nat) : Lib.occAt l [45] j = (l[j]? == some 45) := by
  unfold Lib.occAt
  rw [← List.head?_drop]
  cases l.drop j with
  | nil => rfl
  | cons c r => rw [List.head?_cons]; simp only [List.isPrefixOf, Bool.and_true]; rw [Option.some_beq_some, Bool.beq_comm]
theorem cut_dash (l : T8) : Lib.cut l [45] = if hasD l then (l.take (ahead l), l.drop (ahead l + 1), true) else (l, [], false) := by
  cases h : hasD l
  · have : Lib.index l [45] = -1 := Lib.index_none (fun j _ => by
      rw [occ45]
      cases hq : l[j]? with
      | none => rfl
      | some c => rw [Option.some_beq_some]; exact ahead_all h j c hq)
    unfold Lib.cut
    rw [this]; rfl
  · have : Lib.index l [45] = (ahead l : Int) := Lib.index_first (Nat.le_of_lt (ahead_lt h)) (by rw [occ45, ahead_stop h]; rfl) (fun j hj => by
      obtain ⟨c, h1, h2⟩ := ahead_at hj
      rw [occ45, h1, Option.some_beq_some]; exact h2)
    unfold Lib.cut
    rw [this, if_pos (by omega)]
    rfl
end Rg
end Go.Proofs.YtdbldompjhienaaDoor

namespace Go.Proofs.YtdbldompjhienaaDoor
namespace Rg
def crlf : T8 := [13, 10]
def dd : T8 := [45, 45]
def sType : T8 := [67, 111, 110, 116, 101, 110, 116, 45, 84, 121, 112, 101, 58, 32]
def sRange : T8 := [67, 111, 110, 116, 101, 110, 116, 45, 82, 97, 110, 103, 101, 58, 32]
theorem fl1 (a : T8) : [a].flatten.length = a.length := by simp
theorem fl2 (a b : T8) : [a, b].flatten.length = a.length + b.length := by simp
theorem fl3 (a b c : T8) : [a, b, c].flatten.length = a.length + b.length + c.length := by simp; omega
/-- The bytes of a range. -/
def cutR (b : T8) (r : Rn) : T8 := (b.drop r.a.toNat).take ((r.b + 1).toNat - r.a.toNat)
/-- What stands ahead of a range's bytes. -/
def hd (k ln : T8) (r : Rn) (n : Int) : T8 := dd ++ (ln ++ (crlf ++ (sType ++ (k ++ (crlf ++ (sRange ++ (told r n ++ (crlf ++ crlf))))))))
def part (b k ln : T8) (r : Rn) : T8 := hd k ln r b.length ++ (cutR b r ++ crlf)
def fin (ln : T8) : T8 := dd ++ (ln ++ (dd ++ crlf))
def parts (b k ln : T8) (rs : List Rn) : T8 := rs.flatMap (part b k ln) ++ fin ln
/-- Whether there are ranges, all within the body. -/
def okP (b : T8) (rs : List Rn) : Bool := !rs.isEmpty && rs.all (fun r => wth r b.length)
def partsS (b k ln : T8) (rs : List Rn) : T8 := if okP b rs then parts b k ln rs else []
def partsE (b : T8) (rs : List Rn) : Int := if okP b rs then 0 else 1
theorem wth_nat {r : Rn} {n : Nat} (h : wth r n = true) : ∃ A C : Nat, r = ⟨(A : Int), (C : Int)⟩ ∧ A ≤ C ∧ C < n := by
  obtain ⟨a, b⟩ := r
  unfold wth at h
  simp only [Bool.and_eq_true, decide_eq_true_iff] at h
  exact ⟨a.toNat, b.toNat, by congr 1 <;> omega, by omega, by omega⟩
theorem itoa_19 {n : Int} (h0 : -9223372036854775808 ≤ n) (h1 : n ≤ 9223372036854775807) : (Lib.itoa n).length ≤ 21 := Tx.itoa_le _ 19 (by omega)
theorem told_len {r : Rn} {n : Nat} (h : wth r n = true) (hn : n ≤ 1048576) : (told r n).length ≤ 71 := by
  obtain ⟨A, C, rfl, h1, h2⟩ := wth_nat h
  unfold told
  have a1 := itoa_19 (n := (A : Int)) (by omega) (by omega)
  have a2 := itoa_19 (n := (C : Int)) (by omega) (by omega)
  have a3 := itoa_19 (n := (n : Int)) (by omega) (by omega)
  simp only [sBytes, List.length_append, List.length_cons, List.length_nil]
  omega
theorem cutR_len (b : T8) (r : Rn) : (cutR b r).length ≤ b.length := by
  unfold cutR
  rw [List.length_take, List.length_drop]; omega
theorem part_len {b k ln : T8} {r : Rn} (h : wth r b.length = true) (hb : b.length ≤ 1048576) : (part b k ln r).length ≤ b.length + k.length + ln.length + 200 := by
  have h1 := told_len h hb
  have h2 := cutR_len b r
  unfold part hd
  simp only [List.length_append, crlf, dd, sType, sRange, List.length_cons, List.length_nil]
  omega
theorem flat_len {b k ln : T8} {rs : List Rn} (h : rs.all (fun r => wth r b.length) = true) (hb : b.length ≤ 1048576) : (rs.flatMap (part b k ln)).length ≤ rs.length * (b.length + k.length + ln.length + 200) := by
  induction rs with
  | nil => simp
  | cons r rs ih =>
    rw [List.all_cons, Bool.and_eq_true] at h
    have h1 := part_len (k := k) (ln := ln) h.1 hb
    have h2 := ih h.2
    rw [List.flatMap_cons, List.length_append, List.length_cons, Nat.succ_mul]
    omega
theorem flat_take {b k ln : T8} {rs : List Rn} {i : Nat} {r : Rn} (h : rs[i]? = some r) : (rs.take (i + 1)).flatMap (part b k ln) = (rs.take i).flatMap (part b k ln) ++ part b k ln r := by
  rw [List.take_add_one, h]; simp
theorem all_take2 {rs : List Rn} {i : Nat} {r : Rn} (g : Rn → Bool) (h : rs[i]? = some r) : (rs.take (i + 1)).all g = ((rs.take i).all g && g r) := by
  rw [List.take_add_one, h]; simp
theorem okP_bad {b : T8} {rs : List Rn} {r : Rn} (hr : r ∈ rs) (h : wth r b.length = false) : okP b rs = false := by
  unfold okP
  have : rs.all (fun r => wth r b.length) = false := by
    rw [Bool.eq_false_iff]; intro ht
    have := List.all_eq_true.1 ht r hr
    rw [h] at this; cases this
  rw [this, Bool.and_false]
end Rg
end Go.Proofs.YtdbldompjhienaaDoor

namespace Go.Proofs.YtdbldompjhienaaDoor
namespace Rg
theorem dgt_lt {c : Int} (h : Tx.dgt c < 10) : 48 ≤ c ∧ c ≤ 57 := by
  unfold Tx.dgt Tx.digC at h
  simp only [Bool.and_eq_true, decide_eq_true_eq] at h
  by_cases h1 : 48 ≤ c ∧ c ≤ 57
  · exact h1
  · rw [if_neg h1] at h
    split at h
    · omega
    · split at h <;> omega
theorem itoa_dig {u : Int} (h0 : 0 ≤ u) : ∀ c ∈ Lib.itoa u, 48 ≤ c.toNat ∧ c.toNat ≤ 57 := by
  intro c hc
  obtain ⟨k, rfl⟩ := Int.eq_ofNat_of_zero_le h0
  rw [Lib.itoa_nonneg] at hc
  have h := (Tx.decDigits_reads k k (Nat.le_refl _)).1
  unfold Tx.digs Tx.allC at h
  have h1 := List.all_eq_true.1 h c hc
  have := dgt_lt (of_decide_eq_true h1)
  omega
theorem itoa_ne {u : Int} (h0 : 0 ≤ u) : Lib.itoa u ≠ [] := by
  obtain ⟨k, rfl⟩ := Int.eq_ofNat_of_zero_le h0
  rw [Lib.itoa_nonneg]
  have h := (Tx.decDigits_reads k k (Nat.le_refl _)).2.2
  intro e
  rw [e] at h
  cases h
theorem itoa_short : ∀ (m : Nat) (u : Int), 0 ≤ u → u < 10 ^ (m + 1) → (Lib.itoa u).length ≤ m + 1 := by
  intro m
  induction m with
  | zero =>
    intro u h0 h1
    rw [Tx.itoa_lo u h0 (by simpa using h1)]; simp
  | succ m ih =>
    intro u h0 h1
    by_cases h10 : u < 10
    · rw [Tx.itoa_lo u h0 h10]; simp
    · rw [Tx.itoa_hi u (by omega), List.length_append, List.length_singleton]
      have := ih (u / 10) (by omega) (by
        rw [Int.pow_succ] at h1
        omega)
      omega
theorem itoa_15 {u : Int} (h0 : 0 ≤ u) (h1 : u ≤ 999999999999999) : (Lib.itoa u).length ≤ 15 := itoa_short 14 u h0 (by omega)
theorem digB_itoa {u : Int} (h0 : 0 ≤ u) (h1 : u ≤ 999999999999999) : digB (Lib.itoa u) = true ∧ digN (Lib.itoa u) = u := by
  have h2 := Tx.num_itoa u h0 (by omega) 0
  rw [List.replicate_zero, List.nil_append] at h2
  have h3 := itoa_15 h0 h1
  have h4 : 1 ≤ (Lib.itoa u).length := by
    rcases Nat.lt_or_ge 0 (Lib.itoa u).length with h | h
    · exact h
    · exact absurd (List.eq_nil_of_length_eq_zero (by omega)) (itoa_ne h0)
  unfold digB digN
  rw [h2, decide_eq_true h4, decide_eq_true h3, if_pos ⟨h4, h3⟩]
  exact ⟨rfl, rfl⟩
theorem ahead_app {x r : T8} (h : ∀ c ∈ x, c ≠ 45) : ahead (x ++ 45 :: r) = x.length ∧ hasD (x ++ 45 :: r) = true := by
  refine ⟨?_, ?_⟩
  · unfold ahead
    induction x with
    | nil => simp
    | cons a b ih =>
      rw [List.cons_append, List.takeWhile_cons]
      have h1 : (a == 45) = false := beq_false_of_ne (h a (by simp))
      rw [h1]
      simp only [Bool.not_false, if_true, List.length_cons]
      rw [ih (fun c hc => h c (List.mem_cons_of_mem _ hc))]
  · unfold hasD
    rw [List.contains_iff_mem]; simp
theorem dig_not {u : Int} (h0 : 0 ≤ u) : ∀ c ∈ Lib.itoa u, c ≠ 45 := fun c hc e => by
  have := itoa_dig h0 c hc
  rw [e] at this
  revert this; decide
theorem pc_cut {x r : T8} (n : Int) (h : ∀ c ∈ x, c ≠ 45) : pc (x ++ 45 :: r) n =
    if x.length = 0 then (⟨max (n - digN r) 0, n - 1⟩, decide (0 < digN r) && decide (0 < n), digB r)
    else if r.length = 0 then (⟨digN x, n - 1⟩, decide (digN x < n), digB x)
    else (⟨digN x, min (digN r) (n - 1)⟩, decide (digN x < n), digB x && digB r && decide (digN x ≤ digN r)) := by
  obtain ⟨h1, h2⟩ := ahead_app (r := r) h
  unfold pc
  rw [if_pos h2, h1]
  have e1 : (x ++ 45 :: r).take x.length = x := by rw [List.take_left]
  have e2 : (x ++ 45 :: r).drop (x.length + 1) = r := by
    rw [show x ++ 45 :: r = (x ++ [45]) ++ r by simp, show x.length + 1 = (x ++ [45]).length by simp, List.drop_left]
  simp only [e1, e2]
  have e3 : (x.length + 1 = (x ++ 45 :: r).length) = (r.length = 0) := by
    rw [List.length_append, List.length_cons]
    exact propext ⟨fun h => by omega, fun h => by omega⟩
  simp only [e3]
theorem len_pos {u : Int} (h0 : 0 ≤ u) : ¬ (Lib.itoa u).length = 0 := fun e => itoa_ne h0 (List.eq_nil_of_length_eq_zero e)
theorem pc_ab {a b n : Int} (a0 : 0 ≤ a) (a1 : a ≤ 999999999999999) (b0 : 0 ≤ b) (b1 : b ≤ 999999999999999) : pc (Lib.itoa a ++ 45 :: Lib.itoa b) n = (⟨a, min b (n - 1)⟩, decide (a < n), decide (a ≤ b)) := by
  rw [pc_cut n (dig_not a0), if_neg (len_pos a0), if_neg (len_pos b0), (digB_itoa a0 a1).1, (digB_itoa a0 a1).2, (digB_itoa b0 b1).1, (digB_itoa b0 b1).2]
  rfl
theorem pc_a {a n : Int} (a0 : 0 ≤ a) (a1 : a ≤ 999999999999999) : pc (Lib.itoa a ++ [45]) n = (⟨a, n - 1⟩, decide (a < n), true) := by
  rw [pc_cut n (dig_not a0), if_neg (len_pos a0), if_pos (show ([] : T8).length = 0 from rfl), (digB_itoa a0 a1).1, (digB_itoa a0 a1).2]
theorem pc_t {b n : Int} (b0 : 0 ≤ b) (b1 : b ≤ 999999999999999) : pc (45 :: Lib.itoa b) n = (⟨max (n - b) 0, n - 1⟩, decide (0 < b) && decide (0 < n), true) := by
  have := pc_cut (x := []) (r := Lib.itoa b) n (fun c hc => by simp at hc)
  rw [List.nil_append] at this
  rw [this, if_pos (show ([] : T8).length = 0 from rfl), (digB_itoa b0 b1).1, (digB_itoa b0 b1).2]
theorem dw_self : ∀ {p : T8}, (∀ c ∈ p, Tx.blkB c = false) → p.dropWhile Tx.blkB = p := by
  intro p h
  cases p with
  | nil => rfl
  | cons a b => rw [List.dropWhile_cons, h a (by simp)]; rfl
theorem trim_self {p : T8} (h : ∀ c ∈ p, Tx.blkB c = false) : Tx.trim p = p := by
  unfold Tx.trim Tx.trimR Tx.trimL
  rw [dw_self h, dw_self (fun c hc => h c (List.mem_reverse.1 hc)), List.reverse_reverse]
theorem cutA_one : ∀ (p cur : T8), (∀ c ∈ p, c ≠ 44) → cutA cur p = [cur ++ p] := by
  intro p
  induction p with
  | nil => intro cur _; rw [cutA, List.append_nil]
  | cons a b ih =>
    intro cur h
    rw [cutA, if_neg (h a (by simp)), ih _ (fun c hc => h c (List.mem_cons_of_mem _ hc))]
    simp
/-- A byte of a piece: a digit or '-'. -/
def isP (c : UInt8) : Prop := (48 ≤ c.toNat ∧ c.toNat ≤ 57) ∨ c = 45
theorem isP_not {c : UInt8} (h : isP c) : c ≠ 44 ∧ Tx.blkB c = false := by
  have hn : c.toNat = 45 ∨ (48 ≤ c.toNat ∧ c.toNat ≤ 57) := by
    rcases h with h | rfl
    · exact .inr h
    · exact .inl rfl
  refine ⟨fun e => by rw [e] at hn; revert hn; decide, ?_⟩
  cases hq : Tx.blkB c
  · rfl
  · exfalso
    unfold Tx.blkB Tx.blkC at hq
    simp at hq
    omega
theorem pcs_one {p : T8} (h : ∀ c ∈ p, isP c) (hne : p ≠ []) : pcs p = [p] := by
  unfold pcs
  rw [cutA_one p [] (fun c hc => (isP_not (h c hc)).1), List.nil_append, List.map_cons, trim_self (fun c hc => (isP_not (h c hc)).2)]
  cases p with
  | nil => exact absurd rfl hne
  | cons a b => rfl
theorem one_ok {p : T8} {n : Int} (h : ∀ c ∈ p, isP c) (hne : p ≠ []) (n0 : 0 ≤ n) (hg : (pc p n).2.2 = true) : err (head6 ++ p) n = (if (pc p n).2.1 then 0 else 161) ∧ res (head6 ++ p) n = (if (pc p n).2.1 then [(pc p n).1] else []) := by
  have e1 : (head6 ++ p).take 6 = head6 := rfl
  have e2 : (head6 ++ p).drop 6 = p := rfl
  have he : err (head6 ++ p) n = (if (pc p n).2.1 then 0 else 161) := by
    unfold err
    rw [if_neg (by omega), e1, e2, pcs_one h hne, beq_self_eq_true, if_pos rfl]
    have e3 : ([p].isEmpty || !([p].all fun p => (pc p n).2.2)) = false := by simp [hg]
    rw [e3]
    unfold outs
    cases hq : (pc p n).2.1 <;> simp [hq]
  refine ⟨he, ?_⟩
  unfold res
  rw [he]
  cases hq : (pc p n).2.1
  · rfl
  · rw [e2, pcs_one h hne]
    unfold outs
    simp [hq]
theorem isP_itoa {u : Int} (h0 : 0 ≤ u) : ∀ c ∈ Lib.itoa u, isP c := fun c hc => .inl (itoa_dig h0 c hc)
/-- 'bytes=a-b' within the body. -/
theorem ask_ab {a b n : Int} (a0 : 0 ≤ a) (ab : a ≤ b) (bn : b < n) (n1 : n ≤ 999999999999999) : err (head6 ++ (Lib.itoa a ++ 45 :: Lib.itoa b)) n = 0 ∧ res (head6 ++ (Lib.itoa a ++ 45 :: Lib.itoa b)) n = [⟨a, b⟩] := by
  have hp := pc_ab (n := n) a0 (by omega) (show 0 ≤ b by omega) (by omega)
  have := one_ok (p := Lib.itoa a ++ 45 :: Lib.itoa b) (n := n) (fun c hc => by
    rcases List.mem_append.1 hc with hc | hc
    · exact isP_itoa a0 c hc
    · rcases List.mem_cons.1 hc with hc | hc
      · exact .inr hc
      · exact isP_itoa (by omega) c hc) (by simp) (by omega) (by rw [hp]; simp only; exact decide_eq_true ab)
  rw [hp] at this
  simp only [decide_eq_true (show a < n by omega), if_true] at this
  rw [show min b (n - 1) = b by omega] at this
  exact this
theorem ask_a {a n : Int} (a0 : 0 ≤ a) (a1 : a ≤ 999999999999999) (n0 : 0 ≤ n) : err (head6 ++ (Lib.itoa a ++ [45])) n = (if a < n then 0 else 161) ∧ res (head6 ++ (Lib.itoa a ++ [45])) n = (if a < n then [⟨a, n - 1⟩] else []) := by
  have hp := pc_a (n := n) a0 a1
  have := one_ok (p := Lib.itoa a ++ [45]) (n := n) (fun c hc => by
    rcases List.mem_append.1 hc with hc | hc
    · exact isP_itoa a0 c hc
    · exact .inr (by simpa using hc)) (by simp) n0 (by rw [hp])
  rw [hp] at this
  simp only [decide_eq_true_eq] at this
  exact this
theorem ask_t {b n : Int} (b0 : 0 < b) (b1 : b ≤ 999999999999999) (n0 : 0 < n) : err (head6 ++ (45 :: Lib.itoa b)) n = 0 ∧ res (head6 ++ (45 :: Lib.itoa b)) n = [⟨max (n - b) 0, n - 1⟩] := by
  have hp := pc_t (n := n) (show 0 ≤ b by omega) b1
  have := one_ok (p := 45 :: Lib.itoa b) (n := n) (fun c hc => by
    rcases List.mem_cons.1 hc with hc | hc
    · exact .inr hc
    · exact isP_itoa (by omega) c hc) (by simp) (by omega) (by rw [hp])
  rw [hp] at this
  simp only [decide_eq_true b0, decide_eq_true n0, Bool.and_self, if_true] at this
  exact this
end Rg
end Go.Proofs.YtdbldompjhienaaDoor
