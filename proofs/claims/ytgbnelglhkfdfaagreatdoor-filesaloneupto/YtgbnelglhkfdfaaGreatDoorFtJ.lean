/-
  Paths on lists of bytes: what is of no program.
  What a request for a file is answered: plain.
-/
import Derived.Test.YtgbnelglhkfdfaaGreatDoorFtA
import Derived.Test.YtgbnelglhkfdfaaGreatDoorFtC
import Derived.Test.YtgbnelglhkfdfaaGreatDoorFtF
import Derived.Test.YtgbnelglhkfdfaaGreatDoorFtG
import Derived.Test.YtgbnelglhkfdfaaGreatDoorFtH
import Derived.Test.YtgbnelglhkfdfaaGreatDoorFtI
namespace Go.Proofs.YtgbnelglhkfdfaaGreatDoor
namespace Pt
abbrev T8 := List UInt8
/-- What stands ahead of the first '?', and what stands behind it. -/
def pre (l : T8) : T8 := l.takeWhile (fun c => !(c == 63))
def qry (l : T8) : T8 := l.drop ((pre l).length + 1)
/-- A hexadecimal digit's worth; below 0: none. -/
def hx (c : UInt8) : Int := Tx.dgr (c.toNat : Int)
theorem hx_le (c : UInt8) : hx c ≤ 15 := by
  unfold hx Tx.dgr Tx.digC
  simp only [Bool.and_eq_true, decide_eq_true_eq]
  repeat' split
  all_goals omega
def okb (n : Int) : Bool := !decide (n < 32) && (!(n == 127) && !(n == 47))
def byt (a b : UInt8) : Int := 16 * hx a + hx b
/-- Escapes undone. -/
def undo : T8 → Option T8
  | [] => some []
  | [c] => if c == 37 then none else some [c]
  | [c, d] => if c == 37 then none else if d == 37 then none else some [c, d]
  | c :: a :: b :: t => if c == 37 then (if decide (0 ≤ hx a) && (decide (0 ≤ hx b) && okb (byt a b)) then (undo t).map (fun r => UInt8.ofNat (byt a b).toNat :: r) else none) else (undo (a :: b :: t)).map (fun r => c :: r)
/-- A text cut at its slashes, what stands ahead of the next one in hand. -/
def cutS : T8 → T8 → List T8
  | cur, [] => [cur]
  | cur, c :: r => if c == 47 then cur :: cutS [] r else cutS (cur ++ [c]) r
def parts (l : T8) : List T8 := (cutS [] l).filter (fun p => !p.isEmpty)
def dot : T8 := [46]
def dots : T8 := [46, 46]
/-- One part more; none: it leads above. -/
def step (k : List T8) (p : T8) : Option (List T8) := if p == dots then (if k.isEmpty then none else some k.dropLast) else if p.isEmpty || p == dot then some k else some (k ++ [p])
def keep : List T8 → List T8 → Option (List T8)
  | k, [] => some k
  | k, p :: r => match step k p with | none => none | some k' => keep k' r
def join : List T8 → T8
  | [] => []
  | [p] => p
  | p :: q :: r => p ++ 47 :: join (q :: r)
def isLast (p : T8) : Bool := p.isEmpty || (p == dot || p == dots)
def out (k : List T8) (last : T8) : T8 := 47 :: (join k ++ (if !k.isEmpty && isLast last then [47] else []))
def lastOf (l : List T8) : T8 := l.getLast?.getD []
/-- A path, cleaned, or why it is none. -/
def core (p : T8) : T8 × Int :=
  if p.head? == some 47 then
    match undo p with
    | none => ([], 170)
    | some s => match keep [] (cutS [] s) with
      | none => ([], 171)
      | some k => (out k (lastOf (cutS [] s)), 0)
  else ([], 1)
def clean (l : T8) : T8 × T8 × Int := ((core (pre l)).1, (if (core (pre l)).2 == 0 then qry l else []), (core (pre l)).2)
/-- Bytes that stand as they are in a target. -/
def plain (c : UInt8) : Bool := (decide (97 ≤ c.toNat) && decide (c.toNat ≤ 122)) || (decide (65 ≤ c.toNat) && decide (c.toNat ≤ 90)) || (decide (48 ≤ c.toNat) && decide (c.toNat ≤ 57)) || c == 45 || c == 46 || c == 95 || c == 126 || c == 47
def hd16 (n : Nat) : UInt8 := UInt8.ofNat (if n < 10 then 48 + n else 55 + n)
def esc1 (c : UInt8) : T8 := if plain c then [c] else [37, hd16 (c.toNat / 16), hd16 (c.toNat % 16)]
def esc (l : T8) : T8 := l.flatMap esc1

/-! ### what follows -/
def good (p : T8) : Prop := p ≠ [] ∧ p ≠ dot ∧ p ≠ dots ∧ 47 ∉ p
theorem cutS_ne : ∀ (l cur : T8), cutS cur l ≠ [] := by
  intro l
  induction l with
  | nil => intro cur; simp [cutS]
  | cons c r ih =>
    intro cur
    rw [cutS]
    split
    · simp
    · exact ih _
theorem cutS_no : ∀ (l cur : T8), 47 ∉ cur → ∀ p ∈ cutS cur l, 47 ∉ p ∧ ∀ c ∈ p, c ∈ cur ∨ c ∈ l := by
  intro l
  induction l with
  | nil =>
    intro cur h p hp
    simp only [cutS, List.mem_singleton] at hp
    subst hp
    exact ⟨h, fun c hc => .inl hc⟩
  | cons a r ih =>
    intro cur h p hp
    rw [cutS] at hp
    split at hp
    · rcases List.mem_cons.1 hp with rfl | hp
      · exact ⟨h, fun c hc => .inl hc⟩
      · obtain ⟨h1, h2⟩ := ih [] (by simp) p hp
        refine ⟨h1, fun c hc => ?_⟩
        rcases h2 c hc with h3 | h3
        · simp at h3
        · exact .inr (List.mem_cons_of_mem _ h3)
    · rename_i ha
      have ha' : a ≠ 47 := by simpa using ha
      obtain ⟨h1, h2⟩ := ih (cur ++ [a]) (by simp; exact ⟨h, fun e => ha' e.symm⟩) p hp
      refine ⟨h1, fun c hc => ?_⟩
      rcases h2 c hc with h3 | h3
      · rcases List.mem_append.1 h3 with h3 | h3
        · exact .inl h3
        · exact .inr (by simp at h3; simp [h3])
      · exact .inr (List.mem_cons_of_mem _ h3)
/-- What is kept is good, and of the parts. -/
theorem keep_good : ∀ (ps k k' : List T8), (∀ p ∈ ps, 47 ∉ p) → (∀ p ∈ k, good p) → keep k ps = some k' → (∀ p ∈ k', good p) ∧ ∀ p ∈ k', p ∈ k ∨ p ∈ ps := by
  intro ps
  induction ps with
  | nil =>
    intro k k' _ hk h
    simp only [keep, Option.some.injEq] at h
    subst h
    exact ⟨hk, fun p hp => .inl hp⟩
  | cons p r ih =>
    intro k k' hps hk h
    rw [keep] at h
    cases hs : step k p with
    | none => rw [hs] at h; cases h
    | some k1 =>
      rw [hs] at h
      have h1 : (∀ q ∈ k1, good q) ∧ ∀ q ∈ k1, q ∈ k ∨ q = p := by
        unfold step at hs
        split at hs
        · split at hs
          · cases hs
          · injection hs with hs
            subst hs
            exact ⟨fun q hq => hk q ((List.dropLast_sublist _).subset hq), fun q hq => .inl ((List.dropLast_sublist _).subset hq)⟩
        · rename_i h2
          split at hs
          · injection hs with hs
            subst hs
            exact ⟨hk, fun q hq => .inl hq⟩
          · rename_i h3
            injection hs with hs
            subst hs
            simp only [Bool.or_eq_true, not_or] at h3
            have hg : good p := ⟨fun e => h3.1 (by rw [e]; rfl), fun e => h3.2 (by rw [e]; rfl), fun e => h2 (by rw [e]; rfl), hps p (by simp)⟩
            refine ⟨fun q hq => ?_, fun q hq => ?_⟩
            · rcases List.mem_append.1 hq with hq | hq
              · exact hk q hq
              · simp at hq; rw [hq]; exact hg
            · rcases List.mem_append.1 hq with hq | hq
              · exact .inl hq
              · simp at hq; exact .inr hq
      obtain ⟨h4, h5⟩ := ih k1 k' (fun q hq => hps q (List.mem_cons_of_mem _ hq)) h1.1 h
      refine ⟨h4, fun q hq => ?_⟩
      rcases h5 q hq with h6 | h6
      · rcases h1.2 q h6 with h7 | h7
        · exact .inl h7
        · exact .inr (by rw [h7]; simp)
      · exact .inr (List.mem_cons_of_mem _ h6)
/-- What a clean path is made of. -/
theorem core_ok {l p : T8} (h : core l = (p, 0)) : ∃ (s : T8) (k : List T8) (t : Bool), undo l = some s ∧ (∀ x ∈ k, good x ∧ ∀ c ∈ x, c ∈ s) ∧ (t = true → k ≠ []) ∧ p = 47 :: (join k ++ if t then [47] else []) := by
  unfold core at h
  split at h
  · cases hu : undo l with
    | none => rw [hu] at h; simp at h
    | some s =>
      rw [hu] at h
      simp only at h
      cases hk : keep [] (cutS [] s) with
      | none => rw [hk] at h; simp at h
      | some k =>
        rw [hk] at h
        simp only [Prod.mk.injEq, and_true] at h
        have hn := cutS_no s [] (by simp)
        obtain ⟨hg1, hg2⟩ := keep_good (cutS [] s) [] k (fun x hx => (hn x hx).1) (by simp) hk
        refine ⟨s, k, !k.isEmpty && isLast (lastOf (cutS [] s)), rfl, fun x hx => ⟨hg1 x hx, fun c hc => ?_⟩, fun ht e => ?_, ?_⟩
        · rcases hg2 x hx with h3 | h3
          · simp at h3
          · rcases (hn x h3).2 c hc with h4 | h4
            · simp at h4
            · exact h4
        · rw [e] at ht; cases ht
        · rw [← h]; rfl
  · simp at h
theorem core_err {l : T8} (he : ((core l).2 == 0) = false) : (core l).1 = [] ∧ ((core l).2 = 1 ∨ (core l).2 = 170 ∨ (core l).2 = 171) := by
  unfold core at he ⊢
  split
  · rename_i h1
    rw [if_pos h1] at he
    cases hu : undo l with
    | none => exact ⟨rfl, .inr (.inl rfl)⟩
    | some s =>
      rw [hu] at he
      simp only at he ⊢
      cases hk : keep [] (cutS [] s) with
      | none => exact ⟨rfl, .inr (.inr rfl)⟩
      | some k => rw [hk] at he; cases he
  · exact ⟨rfl, .inl rfl⟩
/-- The pieces of a row of good parts, joined. -/
theorem cutS_app : ∀ (x cur r : T8), 47 ∉ x → cutS cur (x ++ r) = cutS (cur ++ x) r := by
  intro x
  induction x with
  | nil => intro cur r _; simp
  | cons a b ih =>
    intro cur r h
    have ha : (a == 47) = false := beq_false_of_ne (fun e => h (by rw [e]; simp))
    rw [List.cons_append, cutS, ha]
    simp only [Bool.false_eq_true, if_false]
    rw [ih _ _ (fun e => h (List.mem_cons_of_mem _ e))]
    simp
theorem cutS_join : ∀ (k : List T8) (r : T8), k ≠ [] → (∀ x ∈ k, 47 ∉ x) → cutS [] (join k ++ 47 :: r) = k ++ cutS [] r := by
  intro k
  induction k with
  | nil => intro r h; exact absurd rfl h
  | cons p k ih =>
    intro r _ h
    cases k with
    | nil =>
      rw [join, cutS_app p [] _ (h p (by simp)), List.nil_append, cutS]
      rfl
    | cons q k =>
      rw [join, List.append_assoc, cutS_app p [] _ (h p (by simp)), List.nil_append, List.cons_append, cutS]
      simp only [beq_self_eq_true, if_true]
      rw [ih r (by simp) (fun x hx => h x (List.mem_cons_of_mem _ hx))]
      rfl
theorem cutS_join0 : ∀ (k : List T8), k ≠ [] → (∀ x ∈ k, 47 ∉ x) → cutS [] (join k) = k := by
  intro k
  induction k with
  | nil => intro h; exact absurd rfl h
  | cons p k ih =>
    intro _ h
    cases k with
    | nil =>
      have := cutS_app p [] [] (h p (by simp))
      rw [List.append_nil, List.nil_append] at this
      rw [join, this, cutS]
    | cons q k =>
      rw [join, cutS_app p [] _ (h p (by simp)), List.nil_append, cutS]
      simp only [beq_self_eq_true, if_true]
      rw [ih (by simp) (fun x hx => h x (List.mem_cons_of_mem _ hx))]
/-- The parts of a clean path, cut. -/
theorem cut_clean {k : List T8} {t : Bool} (h : ∀ x ∈ k, good x) (ht : t = true → k ≠ []) : cutS [] (47 :: (join k ++ if t then [47] else [])) = [] :: (if k.isEmpty then [[]] else k ++ if t then [[]] else []) := by
  rw [cutS]
  simp only [beq_self_eq_true, if_true]
  congr 1
  have hn : ∀ x ∈ k, 47 ∉ x := fun x hx => (h x hx).2.2.2
  cases t
  · simp only [Bool.false_eq_true, if_false, List.append_nil]
    cases k with
    | nil => rfl
    | cons a b => rw [cutS_join0 _ (by simp) hn]; rfl
  · simp only [if_true]
    have hne := ht rfl
    rw [cutS_join k [] hne hn]
    cases k with
    | nil => exact absurd rfl hne
    | cons a b => rfl
theorem step_good {k : List T8} {p : T8} (h : good p) : step k p = some (k ++ [p]) := by
  unfold step
  have h1 : (p == dots) = false := beq_false_of_ne h.2.2.1
  have h2 : p.isEmpty = false := by cases p with | nil => exact absurd rfl h.1 | cons a b => rfl
  have h3 : (p == dot) = false := beq_false_of_ne h.2.1
  rw [h1, h2, h3]; rfl
theorem keep_self : ∀ (ps k r : List T8), (∀ p ∈ ps, good p) → keep k (ps ++ r) = keep (k ++ ps) r := by
  intro ps
  induction ps with
  | nil => intro k r _; simp
  | cons p ps ih =>
    intro k r h
    rw [List.cons_append, keep, step_good (h p (by simp))]
    simp only
    rw [ih (k ++ [p]) r (fun q hq => h q (List.mem_cons_of_mem _ hq))]
    simp
theorem keep_empty (k r : List T8) : keep k ([] :: r) = keep k r := by rw [keep]; rfl
theorem keep_clean {k : List T8} {t : Bool} (h : ∀ x ∈ k, good x) : keep [] ([] :: (if k.isEmpty then [[]] else k ++ if t then [[]] else [])) = some k := by
  rw [keep_empty]
  cases k with
  | nil => rfl
  | cons a b =>
    simp only [List.isEmpty_cons, Bool.false_eq_true, if_false]
    cases t
    · simp only [Bool.false_eq_true, if_false]
      rw [keep_self (a :: b) [] [] h]
      rfl
    · simp only [if_true]
      rw [keep_self (a :: b) [] [[]] h, keep_empty]
      rfl
theorem last_clean {k : List T8} {t : Bool} (h : ∀ x ∈ k, good x) (ht : t = true → k ≠ []) : (!k.isEmpty && isLast (lastOf ([] :: (if k.isEmpty then [[]] else k ++ if t then [[]] else [])))) = t := by
  cases k with
  | nil =>
    cases t
    · rfl
    · exact absurd rfl (ht rfl)
  | cons a b =>
    simp only [List.isEmpty_cons, Bool.not_false, Bool.true_and, Bool.false_eq_true, if_false]
    cases t
    · simp only [Bool.false_eq_true, if_false, List.append_nil]
      have hm : lastOf ([] :: a :: b) ∈ a :: b := by
        unfold lastOf
        rw [List.getLast?_cons_cons, List.getLast?_eq_some_getLast (List.cons_ne_nil a b)]
        exact List.getLast_mem _
      have hg := h _ hm
      unfold isLast
      have h2 : (lastOf ([] :: a :: b)).isEmpty = false := by
        cases hq : lastOf ([] :: a :: b) with
        | nil => exact absurd hq hg.1
        | cons c d => rfl
      rw [h2, beq_false_of_ne hg.2.1, beq_false_of_ne hg.2.2.1]
      rfl
    · simp only [if_true]
      have e : lastOf ([] :: (a :: b ++ [[]])) = [] := by
        unfold lastOf
        rw [show [] :: (a :: b ++ [[]]) = ([] :: a :: b) ++ [[]] by simp, List.getLast?_append]
        rfl
      rw [e]; rfl
/-- A clean path stands: cleaned again, it is itself. -/
theorem core_again {l : T8} {k : List T8} {t : Bool} (h : ∀ x ∈ k, good x) (ht : t = true → k ≠ []) (hp : l.head? = some 47) (hu : undo l = some (47 :: (join k ++ if t then [47] else []))) : core l = (47 :: (join k ++ if t then [47] else []), 0) := by
  unfold core
  rw [hp, beq_self_eq_true, if_pos rfl, hu]
  simp only
  rw [cut_clean h ht, keep_clean h]
  simp only
  unfold out
  rw [last_clean h ht]
theorem parts_clean {k : List T8} {t : Bool} (h : ∀ x ∈ k, good x) (ht : t = true → k ≠ []) : parts (47 :: (join k ++ if t then [47] else [])) = k := by
  unfold parts
  rw [cut_clean h ht]
  have hf : k.filter (fun p => !p.isEmpty) = k := by
    rw [List.filter_eq_self]
    intro p hp
    have := (h p hp).1
    cases p with
    | nil => exact absurd rfl this
    | cons a b => rfl
  cases k with
  | nil => rfl
  | cons a b =>
    simp only [List.isEmpty_cons, Bool.false_eq_true, if_false]
    cases t
    · simp only [Bool.false_eq_true, if_false, List.append_nil]
      rw [List.filter_cons]
      exact hf
    · simp only [if_true]
      rw [List.filter_cons, List.filter_append, hf]
      simp
theorem join_flat : ∀ (k : List T8), k ≠ [] → k.flatMap (fun p => 47 :: p) = 47 :: join k := by
  intro k
  induction k with
  | nil => intro h; exact absurd rfl h
  | cons p k ih =>
    intro _
    cases k with
    | nil => simp [join]
    | cons q k => rw [List.flatMap_cons, ih (by simp), join]; rfl
/-! ### queries -/
theorem pre_none {l : T8} (h : 63 ∉ l) : pre l = l ∧ qry l = [] := by
  have e : pre l = l := by
    unfold pre
    induction l with
    | nil => rfl
    | cons a b ih =>
      have : (a == 63) = false := beq_false_of_ne (fun e => h (by rw [e]; simp))
      rw [List.takeWhile_cons, this]
      simp only [Bool.not_false, if_true]
      rw [ih (fun e => h (List.mem_cons_of_mem _ e))]
  refine ⟨e, ?_⟩
  unfold qry
  rw [e, List.drop_eq_nil_of_le (by omega)]
theorem pre_some {l q : T8} (h : 63 ∉ l) : pre (l ++ 63 :: q) = l ∧ qry (l ++ 63 :: q) = q := by
  have e : pre (l ++ 63 :: q) = l := by
    unfold pre
    induction l with
    | nil => simp
    | cons a b ih =>
      have : (a == 63) = false := beq_false_of_ne (fun e => h (by rw [e]; simp))
      rw [List.cons_append, List.takeWhile_cons, this]
      simp only [Bool.not_false, if_true]
      rw [ih (fun e => h (List.mem_cons_of_mem _ e))]
  refine ⟨e, ?_⟩
  unfold qry
  rw [e, show l ++ 63 :: q = (l ++ [63]) ++ q by simp, show l.length + 1 = (l ++ [63]).length by simp, List.drop_left]
theorem clean_query {l q : T8} (h : 63 ∉ l) : (clean (l ++ 63 :: q)).1 = (clean l).1 ∧ (clean (l ++ 63 :: q)).2.2 = (clean l).2.2 ∧ (clean l).2.1 = [] ∧ (clean (l ++ 63 :: q)).2.1 = (if (clean l).2.2 == 0 then q else []) := by
  have h1 := pre_none h
  have h2 := pre_some (q := q) h
  unfold clean
  rw [h1.1, h1.2, h2.1, h2.2]
  exact ⟨rfl, rfl, by simp, rfl⟩
/-! ### escapes -/
theorem undo_plain {c : UInt8} (h : (c == 37) = false) (r : T8) : undo (c :: r) = (undo r).map (fun x => c :: x) := by
  match r with
  | [] => simp [undo, h]
  | [d] =>
    cases hd : (d == 37)
    · simp [undo, h, hd]
    · simp [undo, h, hd]
  | a :: b :: t => rw [undo, h]; rfl
theorem undo_esc {a b : UInt8} {t : T8} (h : (decide (0 ≤ hx a) && (decide (0 ≤ hx b) && okb (byt a b))) = true) : undo (37 :: a :: b :: t) = (undo t).map (fun r => UInt8.ofNat (byt a b).toNat :: r) := by
  rw [undo, if_pos (by decide), if_pos h]
theorem undo_bad {a b : UInt8} {t : T8} (h : (decide (0 ≤ hx a) && (decide (0 ≤ hx b) && okb (byt a b))) = false) : undo (37 :: a :: b :: t) = none := by
  rw [undo, if_pos (by decide), h]; rfl
theorem undo_short {t : T8} (h : t.length < 2) : undo (37 :: t) = none := by
  match t with
  | [] => rfl
  | [d] => rfl
  | a :: b :: r => simp at h; omega
theorem hx_hd {n : Nat} (h : n < 16) : hx (hd16 n) = n := by
  have : ∀ n : Fin 16, hx (hd16 n.val) = (n.val : Int) := by decide
  exact this ⟨n, h⟩
theorem hd_ne {n : Nat} (h : n < 16) : hd16 n ≠ 63 ∧ hd16 n ≠ 37 := by
  have : ∀ n : Fin 16, hd16 n.val ≠ 63 ∧ hd16 n.val ≠ 37 := by decide
  exact this ⟨n, h⟩
theorem plain_ne {c : UInt8} (h : plain c = true) : c ≠ 63 ∧ c ≠ 37 := by
  constructor <;> (intro e; rw [e] at h; revert h; decide)
/-- What a byte may be to be written as an escape that is undone. -/
theorem esc1_undo {c : UInt8} (h1 : ¬ c.toNat < 32) (h2 : c ≠ 127) (t : T8) : undo (esc1 c ++ t) = (undo t).map (fun r => c :: r) := by
  unfold esc1
  cases hp : plain c
  · simp only [Bool.false_eq_true, if_false, List.cons_append, List.nil_append]
    have hc := c.toNat_lt
    have e1 := hx_hd (n := c.toNat / 16) (by omega)
    have e2 := hx_hd (n := c.toNat % 16) (by omega)
    have e3 : byt (hd16 (c.toNat / 16)) (hd16 (c.toNat % 16)) = (c.toNat : Int) := by unfold byt; rw [e1, e2]; omega
    have h47 : c ≠ 47 := fun e => by rw [e] at hp; revert hp; decide
    rw [undo_esc]
    · rw [e3, Int.toNat_natCast, UInt8.ofNat_toNat]
    · rw [e1, e2, e3]
      unfold okb
      have n1 : ¬ c.toNat = 127 := fun e => h2 (UInt8.toNat_inj.1 (by simpa using e))
      have n2 : ¬ c.toNat = 47 := fun e => h47 (UInt8.toNat_inj.1 (by simpa using e))
      simp only [Bool.and_eq_true, decide_eq_true_iff, Bool.not_eq_true', decide_eq_false_iff_not, beq_eq_false_iff_ne]
      omega
  · simp only [if_true, List.cons_append, List.nil_append]
    exact undo_plain (beq_false_of_ne (plain_ne hp).2) t
theorem esc_undo : ∀ (p : T8), (∀ c ∈ p, ¬ c.toNat < 32 ∧ c ≠ 127) → undo (esc p) = some p := by
  intro p
  induction p with
  | nil => intro _; rfl
  | cons c r ih =>
    intro h
    have hc := h c (by simp)
    rw [show esc (c :: r) = esc1 c ++ esc r from rfl, esc1_undo hc.1 hc.2, ih (fun d hd => h d (List.mem_cons_of_mem _ hd))]
    rfl
theorem esc_no63 (p : T8) : 63 ∉ esc p := by
  intro hm
  unfold esc at hm
  obtain ⟨c, _, hc⟩ := List.mem_flatMap.1 hm
  unfold esc1 at hc
  split at hc
  · rename_i h
    simp at hc
    exact (plain_ne h).1 hc.symm
  · have hl := c.toNat_lt
    simp only [List.mem_cons, List.not_mem_nil, or_false] at hc
    rcases hc with hc | hc | hc
    · exact absurd hc (by decide)
    · exact (hd_ne (n := c.toNat / 16) (by omega)).1 hc.symm
    · exact (hd_ne (n := c.toNat % 16) (by omega)).1 hc.symm
/-- A clean path, escaped, is cleaned to itself. -/
theorem back {l p : T8} (h : core l = (p, 0)) (hb : ∀ c ∈ p, ¬ c.toNat < 32 ∧ c ≠ 127) : clean (esc p) = (p, [], 0) := by
  obtain ⟨s, k, t, _, hk, ht, hp⟩ := core_ok h
  have h1 := pre_none (esc_no63 p)
  have hc : core (esc p) = (p, 0) := by
    have := core_again (l := esc p) (k := k) (t := t) (fun x hx => (hk x hx).1) ht (by rw [hp]; rfl) (by rw [esc_undo p hb, hp])
    rw [this, hp]
  unfold clean
  rw [h1.1, h1.2, hc]
  rfl
/-! ### safe -/
theorem undo_bytes : ∀ (n : Nat) (l s : T8), l.length ≤ n → undo l = some s → ∀ c ∈ s, c ∈ l ∨ (¬ c.toNat < 32 ∧ c ≠ 127 ∧ c ≠ 47) := by
  intro n
  induction n with
  | zero =>
    intro l s hl h
    obtain rfl : l = [] := List.eq_nil_of_length_eq_zero (by omega)
    simp [undo] at h
    subst h
    intro c hc; simp at hc
  | succ n ih =>
    intro l s hl h
    cases l with
    | nil =>
      simp [undo] at h
      subst h
      intro c hc; simp at hc
    | cons a r =>
      cases ha : (a == 37)
      · rw [undo_plain ha] at h
        cases hu : undo r with
        | none => rw [hu] at h; cases h
        | some s' =>
          rw [hu] at h
          simp only [Option.map_some, Option.some.injEq] at h
          subst h
          intro c hc
          rcases List.mem_cons.1 hc with rfl | hc
          · exact .inl (by simp)
          · rcases ih r s' (by simp at hl; omega) hu c hc with h1 | h1
            · exact .inl (List.mem_cons_of_mem _ h1)
            · exact .inr h1
      · obtain rfl : a = 37 := eq_of_beq ha
        match r, hl, h with
        | [], _, h => simp [undo] at h
        | [d], _, h => simp [undo] at h
        | b :: d :: t, hl, h =>
          cases hq : (decide (0 ≤ hx b) && (decide (0 ≤ hx d) && okb (byt b d)))
          · rw [undo_bad hq] at h; cases h
          · rw [undo_esc hq] at h
            cases hu : undo t with
            | none => rw [hu] at h; cases h
            | some s' =>
              rw [hu] at h
              simp only [Option.map_some, Option.some.injEq] at h
              subst h
              intro c hc
              rcases List.mem_cons.1 hc with rfl | hc
              · right
                simp only [Bool.and_eq_true, decide_eq_true_iff] at hq
                obtain ⟨q1, q2, q3⟩ := hq
                unfold okb at q3
                simp only [Bool.and_eq_true, Bool.not_eq_true', decide_eq_false_iff_not, beq_eq_false_iff_ne] at q3
                have hb := hx_le b
                have hd := hx_le d
                have hlt : (byt b d).toNat < 256 := by unfold byt; omega
                have e : (UInt8.ofNat (byt b d).toNat).toNat = (byt b d).toNat := by rw [UInt8.toNat_ofNat']; omega
                refine ⟨by rw [e]; omega, fun e2 => ?_, fun e2 => ?_⟩
                · have := congrArg UInt8.toNat e2
                  rw [e] at this
                  have h127 : (127 : UInt8).toNat = 127 := rfl
                  omega
                · have := congrArg UInt8.toNat e2
                  rw [e] at this
                  have h47 : (47 : UInt8).toNat = 47 := rfl
                  omega
              · rcases ih t s' (by simp at hl; omega) hu c hc with h1 | h1
                · exact .inl (by simp [h1])
                · exact .inr h1
theorem join_mem : ∀ (k : List T8) (c : UInt8), c ∈ join k → c = 47 ∨ ∃ p ∈ k, c ∈ p := by
  intro k
  induction k with
  | nil => intro c h; simp [join] at h
  | cons p k ih =>
    intro c h
    cases k with
    | nil => exact .inr ⟨p, by simp, h⟩
    | cons q k =>
      rw [join, List.mem_append, List.mem_cons] at h
      rcases h with h | h | h
      · exact .inr ⟨p, by simp, h⟩
      · exact .inl h
      · rcases ih c h with h1 | ⟨x, hx, h1⟩
        · exact .inl h1
        · exact .inr ⟨x, List.mem_cons_of_mem _ hx, h1⟩
theorem pre_mem {l : T8} {c : UInt8} (h : c ∈ pre l) : c ∈ l := (List.takeWhile_prefix _).subset h
/-- A clean path of a target of visible bytes: its bytes. -/
theorem safe_bytes {l p : T8} (h : core (pre l) = (p, 0)) (hl : ∀ c ∈ l, ¬ c.toNat < 33 ∧ ¬ 126 < c.toNat) : ∀ c ∈ p, ¬ c.toNat < 32 ∧ c ≠ 127 := by
  obtain ⟨s, k, t, hu, hk, _, hp⟩ := core_ok h
  have hs : ∀ c ∈ s, ¬ c.toNat < 32 ∧ c ≠ 127 := fun c hc => by
    rcases undo_bytes _ _ s (Nat.le_refl _) hu c hc with h1 | h1
    · have := hl c (pre_mem h1)
      exact ⟨by omega, fun e => by rw [e] at this; revert this; decide⟩
    · exact ⟨h1.1, h1.2.1⟩
  have h47 : ¬ (47 : UInt8).toNat < 32 ∧ (47 : UInt8) ≠ 127 := by decide
  intro c hc
  rw [hp] at hc
  rcases List.mem_cons.1 hc with rfl | hc
  · exact h47
  · rcases List.mem_append.1 hc with hc | hc
    · rcases join_mem k c hc with rfl | ⟨x, hx, h1⟩
      · exact h47
      · exact hs c ((hk x hx).2 c h1)
    · split at hc
      · simp at hc; rw [hc]; exact h47
      · simp at hc
/-- The pieces of a clean path behind its first slash: all but the last are parts that are no dots, the last is no dots. -/
def segs : List T8 → Prop
  | [] => True
  | [p] => p ≠ dot ∧ p ≠ dots
  | p :: q :: r => (p ≠ [] ∧ p ≠ dot ∧ p ≠ dots) ∧ segs (q :: r)
theorem segs_good : ∀ (k : List T8), (∀ x ∈ k, good x) → segs k := by
  intro k
  induction k with
  | nil => intro _; trivial
  | cons p k ih =>
    intro h
    have hg := h p (by simp)
    cases k with
    | nil => exact ⟨hg.2.1, hg.2.2.1⟩
    | cons q k => exact ⟨⟨hg.1, hg.2.1, hg.2.2.1⟩, ih (fun x hx => h x (List.mem_cons_of_mem _ hx))⟩
theorem segs_end : ∀ (k : List T8), (∀ x ∈ k, good x) → segs (k ++ [[]]) := by
  intro k
  induction k with
  | nil => intro _; exact ⟨by decide, by decide⟩
  | cons p k ih =>
    intro h
    have hg := h p (by simp)
    have h1 := ih (fun x hx => h x (List.mem_cons_of_mem _ hx))
    cases k with
    | nil => exact ⟨⟨hg.1, hg.2.1, hg.2.2.1⟩, h1⟩
    | cons q k => exact ⟨⟨hg.1, hg.2.1, hg.2.2.1⟩, h1⟩
theorem safe_segs {l p : T8} (h : core l = (p, 0)) : ∃ r, p = 47 :: r ∧ segs (cutS [] r) := by
  obtain ⟨s, k, t, _, hk, ht, hp⟩ := core_ok h
  refine ⟨_, hp, ?_⟩
  have hc := cut_clean (k := k) (t := t) (fun x hx => (hk x hx).1) ht
  rw [cutS] at hc
  simp only [beq_self_eq_true, if_true, List.cons.injEq, true_and] at hc
  rw [hc]
  cases k with
  | nil => exact ⟨by decide, by decide⟩
  | cons a b =>
    simp only [List.isEmpty_cons, Bool.false_eq_true, if_false]
    cases t
    · simp only [Bool.false_eq_true, if_false, List.append_nil]
      exact segs_good _ (fun x hx => (hk x hx).1)
    · simp only [if_true]
      exact segs_end _ (fun x hx => (hk x hx).1)
theorem segs_step {cur r : T8} (h : segs (cutS cur (47 :: r))) : (cur ≠ [] ∧ cur ≠ dot ∧ cur ≠ dots) ∧ segs (cutS [] r) := by
  rw [cutS] at h
  simp only [beq_self_eq_true, if_true] at h
  cases hq : cutS [] r with
  | nil => exact absurd hq (cutS_ne _ _)
  | cons a b => rw [hq] at h; exact h
/-! ### joins -/
theorem joins {l p : T8} (h : core l = (p, 0)) : (parts p = [] → p = [47]) ∧ (parts p ≠ [] → p = (parts p).flatMap (fun x => 47 :: x) ∨ p = (parts p).flatMap (fun x => 47 :: x) ++ [47]) := by
  obtain ⟨s, k, t, _, hk, ht, hp⟩ := core_ok h
  have e := parts_clean (k := k) (t := t) (fun x hx => (hk x hx).1) ht
  rw [← hp] at e
  rw [e]
  refine ⟨fun h0 => ?_, fun h0 => ?_⟩
  · subst h0
    cases t
    · rw [hp]; rfl
    · exact absurd rfl (ht rfl)
  · rw [join_flat k h0, hp]
    cases t
    · left; simp
    · right; simp
end Pt
end Go.Proofs.YtgbnelglhkfdfaaGreatDoor

namespace Go.Proofs.YtgbnelglhkfdfaaGreatDoor

namespace Fs
abbrev T8 := List UInt8
def str (l : T8) : ByteArray := ⟨l.toArray⟩
/-- A response: its status, its fields, its body. -/
structure Rp where
  s : Int
  fs : List Fd
  b : T8
def nET : T8 := [101, 116, 97, 103]
def nLM : T8 := [108, 97, 115, 116, 45, 109, 111, 100, 105, 102, 105, 101, 100]
def nAR : T8 := [97, 99, 99, 101, 112, 116, 45, 114, 97, 110, 103, 101, 115]
def nCR : T8 := [99, 111, 110, 116, 101, 110, 116, 45, 114, 97, 110, 103, 101]
def nCT : T8 := [99, 111, 110, 116, 101, 110, 116, 45, 116, 121, 112, 101]
def nLO : T8 := [108, 111, 99, 97, 116, 105, 111, 110]
def nAL : T8 := [97, 108, 108, 111, 119]
def nRG : T8 := [114, 97, 110, 103, 101]
def vAL : T8 := [71, 69, 84, 44, 32, 72, 69, 65, 68, 44, 32, 79, 80, 84, 73, 79, 78, 83]
def vBY : T8 := [98, 121, 116, 101, 115]
def vMP : T8 := [109, 117, 108, 116, 105, 112, 97, 114, 116, 47, 98, 121, 116, 101, 114, 97, 110, 103, 101, 115, 59, 32, 98, 111, 117, 110, 100, 97, 114, 121, 61]
def vIX : T8 := [105, 110, 100, 101, 120, 46, 104, 116, 109, 108]
def mGET : T8 := [71, 69, 84]
def mHEAD : T8 := [72, 69, 65, 68]
def fd (n v : T8) : Fd := ⟨str n, str v⟩
/-- The endings that say what a file is. -/
def kinds : List (T8 × T8) := [
  ([46, 104, 116, 109, 108], [116, 101, 120, 116, 47, 104, 116, 109, 108]),
  ([46, 116, 120, 116], [116, 101, 120, 116, 47, 112, 108, 97, 105, 110]),
  ([46, 99, 115, 115], [116, 101, 120, 116, 47, 99, 115, 115]),
  ([46, 106, 115], [116, 101, 120, 116, 47, 106, 97, 118, 97, 115, 99, 114, 105, 112, 116]),
  ([46, 106, 115, 111, 110], [97, 112, 112, 108, 105, 99, 97, 116, 105, 111, 110, 47, 106, 115, 111, 110]),
  ([46, 112, 110, 103], [105, 109, 97, 103, 101, 47, 112, 110, 103])]
def vOC : T8 := [97, 112, 112, 108, 105, 99, 97, 116, 105, 111, 110, 47, 111, 99, 116, 101, 116, 45, 115, 116, 114, 101, 97, 109]
/-- What a path says of its content. -/
def kind (p : T8) : T8 := ((kinds.find? (fun k => Lib.hasSuffix p k.1)).map (·.2)).getD vOC
/-- A second as a date. -/
def fmt (t : Int) : T8 := Dt.fmtC t
/-- The line that parts a body's parts. -/
def line (x : T8) : T8 := Rg.line (((List.range (x.length + 1)).find? (fun q => !Rg.stands (Rg.line q) x)).getD 0)
theorem line_ex (x : T8) : ∃ q, Rg.IsFree x q ∧ line x = Rg.line q := by
  obtain ⟨q, h1, h2, h3⟩ := Rg.free_ex x
  refine ⟨q, ⟨h1, h2, h3⟩, ?_⟩
  unfold line
  rw [List.find?_range_eq_some.2 ⟨by rw [h1]; rfl, List.mem_range.2 (by omega), fun j hj => by rw [h2 j hj]; rfl⟩]
  rfl
/-- A short answer. -/
def plain (s : Int) (l : List Fd) : Rp := ⟨s, fT :: l, bd s⟩
/-- Whether a rest is a folder's. -/
def folder (rest : T8) : Bool := rest.isEmpty || Lib.hasSuffix rest [47]
/-- The path of the file that a request asks for. -/
def name (root rest : T8) : T8 := (root ++ 47 :: rest) ++ (if folder rest then vIX else [])
/-- The fields of a file's answer. -/
def head (kd : T8) (e : Dk.En) : List Fd := [fd nCT kd, fd nET (Tg.mk e.seq e.body.size), fd nLM (fmt e.time), fd nAR vBY]
/-- The whole of a file. -/
def whole (kd : T8) (e : Dk.En) : Rp := ⟨200, head kd e, e.body.data.toList⟩
/-- One range of it. -/
def one (kd : T8) (e : Dk.En) (r : Rg.Rn) : Rp := ⟨206, head kd e ++ [fd nCR (Rg.told r e.body.size)], (e.body.data.toList.take (r.b + 1).toNat).drop r.a.toNat⟩
/-- Several. -/
def sev (kd : T8) (e : Dk.En) (rs : List Rg.Rn) : Rp := ⟨206, head (vMP ++ line e.body.data.toList) e, Rg.partsS e.body.data.toList kd (line e.body.data.toList) rs⟩
/-- What a list of ranges is answered. -/
def rgd (kd : T8) (e : Dk.En) (v : T8) : Rp :=
  if Rg.err v e.body.size == 161 then plain 416 [fd nCR (Rg.unmet e.body.size)]
  else if Rg.err v e.body.size == 0 then
    (match Rg.res v e.body.size with
    | [r] => one kd e r
    | rs => sev kd e rs)
  else whole kd e
/-- An answer with a part of a file, or with several, or that there is none; or with the whole. -/
def part (kd : T8) (e : Dk.En) (get : Bool) (l : List Fd) : Rp :=
  match (if get && Tg.sam l (Tg.mk e.seq e.body.size) e.time then Tg.vals l nRG else []) with
  | [v] => rgd kd e v
  | _ => whole kd e
/-- What an answer hangs on: the file at its path, and whether something lies below that. -/
def ansOf (p : T8) (f : Option Dk.En) (below : Bool) (method target rest : T8) (l : List Fd) : Rp :=
  if method == mGET || method == mHEAD then
    match f with
    | none => if !folder rest && below then plain 301 [fd nLO (Pt.esc target ++ [47])] else plain 404 []
    | some e =>
      if Tg.dec true l (Tg.mk e.seq e.body.size) e.time == 412 then plain 412 []
      else if Tg.dec true l (Tg.mk e.seq e.body.size) e.time == 304 then ⟨304, [fd nET (Tg.mk e.seq e.body.size), fd nLM (fmt e.time)], []⟩
      else part (kind p) e (method == mGET) l
  else plain 405 [fd nAL vAL]
def ans (es : List Dk.En) (root method target rest : T8) (l : List Fd) : Rp :=
  ansOf (name root rest) (Dk.get (name root rest) es) (!(Dk.lst (name root rest ++ [47]) es).isEmpty) method target rest l

theorem begins_name (root rest : T8) (t : T8) : (root ++ 47 :: rest).isPrefixOf (name root rest ++ t) = true := by
  rw [List.isPrefixOf_iff_prefix]
  unfold name
  rw [List.append_assoc]
  exact List.prefix_append _ _
theorem name_ne {root rest k : T8} (h : (root ++ 47 :: rest).isPrefixOf k = false) : name root rest ≠ k := by
  rintro rfl
  have := begins_name root rest []
  rw [List.append_nil, h] at this
  cases this
theorem name_off {root rest k t : T8} (h : (root ++ 47 :: rest).isPrefixOf k = false) : (name root rest ++ t).isPrefixOf k = false := by
  cases hq : (name root rest ++ t).isPrefixOf k
  · rfl
  · have h1 := List.isPrefixOf_iff_prefix.1 hq
    have h2 := List.isPrefixOf_iff_prefix.1 (begins_name root rest t)
    rw [List.isPrefixOf_iff_prefix.2 (h2.trans h1)] at h
    cases h
theorem lst_put {es : List Dk.En} (h : Dk.Ok es) (e : Dk.En) (pre : T8) (hp : pre.isPrefixOf (Dk.key e) = false) : Dk.lst pre (Dk.put e es) = Dk.lst pre es := by
  refine Dk.ok_unique (Dk.lst_ok (Dk.put_ok es e h) pre) (Dk.lst_ok h pre) (fun p => ?_)
  unfold Dk.lst
  rw [List.mem_filter, List.mem_filter, Dk.mem_put h]
  constructor
  · rintro ⟨rfl | ⟨h1, _⟩, h2⟩
    · rw [hp] at h2; cases h2
    · exact ⟨h1, h2⟩
  · rintro ⟨h1, h2⟩
    exact ⟨.inr ⟨h1, fun hk => by rw [hk, hp] at h2; cases h2⟩, h2⟩
theorem lst_rem {es : List Dk.En} (h : Dk.Ok es) {x : T8} (hh : Dk.has x es = true) (pre : T8) (hp : pre.isPrefixOf x = false) : Dk.lst pre (Dk.rem x es) = Dk.lst pre es := by
  refine Dk.ok_unique (Dk.lst_ok (Dk.rem_ok h hh) pre) (Dk.lst_ok h pre) (fun p => ?_)
  unfold Dk.lst
  rw [List.mem_filter, List.mem_filter, Dk.mem_rem h hh]
  constructor
  · rintro ⟨⟨h1, _⟩, h2⟩
    exact ⟨h1, h2⟩
  · rintro ⟨h1, h2⟩
    exact ⟨⟨h1, fun hk => by rw [hk, hp] at h2; cases h2⟩, h2⟩
theorem ans_put {es : List Dk.En} (h : Dk.Ok es) (e : Dk.En) {root rest : T8} (hp : (root ++ 47 :: rest).isPrefixOf (Dk.key e) = false) (method target : T8) (l : List Fd) : ans (Dk.put e es) root method target rest l = ans es root method target rest l := by
  unfold ans
  rw [lst_put h e _ (name_off hp), Dk.get_put' h, if_neg (name_ne hp)]
theorem ans_rem {es : List Dk.En} (h : Dk.Ok es) {x : T8} (hh : Dk.has x es = true) {root rest : T8} (hp : (root ++ 47 :: rest).isPrefixOf x = false) (method target : T8) (l : List Fd) : ans (Dk.rem x es) root method target rest l = ans es root method target rest l := by
  unfold ans
  rw [lst_rem h hh _ (name_off hp), Dk.get_rem' h hh, if_neg (name_ne hp)]
end Fs
end Go.Proofs.YtgbnelglhkfdfaaGreatDoor
