/-
  Routes on lists of bytes: what is of no program.
  Routes: what follows of the plain functions: the order of the routes does not count; what is caught, put back; plain patterns.
  Routes: what a pattern catches, put into its places; patterns of plain parts alone. What is of no program.
  The landed router on lists: what is of no program.
  A row that is sorted and then compacted: what is of no program.
-/
import Derived.Test.YtfdjimjiikeciaaGreatDoorPtP
import Derived.Sort.Walk0
import Derived.Lib.SlicesCompact
import Derived.Lib.RowBridge
namespace Go.Proofs.YtfdjimjiikeciaaGreatDoor
namespace Rt
abbrev T8 := List UInt8
/-- A part of a pattern: 0 plain, 1 catching, 2 a rest; its text, or its name. -/
structure Prt where
  k : Nat
  t : T8
def isLow (c : UInt8) : Bool := decide (97 ≤ c.toNat) && decide (c.toNat ≤ 122)
def isDg (c : UInt8) : Bool := decide (48 ≤ c.toNat) && decide (c.toNat ≤ 57)
def nameB : T8 → Bool
  | [] => false
  | c :: r => isLow c && r.all (fun d => isLow d || isDg d)
def vis (c : UInt8) : Bool := !decide (c.toNat < 33) && !decide (126 < c.toNat) && !(c == 123) && !(c == 125)
/-- What a text is as a part, and whether it is one. -/
def prt (s : T8) : Prt × Bool :=
  if decide (2 ≤ s.length) && (s.head? == some 123 && s.getLast? == some 125) then
    (if decide (5 ≤ s.length) && s.drop (s.length - 4) == [46, 46, 46, 125] then (⟨2, (s.drop 1).take (s.length - 5)⟩, nameB ((s.drop 1).take (s.length - 5)))
     else (⟨1, (s.drop 1).take (s.length - 2)⟩, nameB ((s.drop 1).take (s.length - 2))))
  else if s.all vis then (⟨0, s⟩, !s.isEmpty) else (⟨0, []⟩, false)
def dup (out : List Prt) (p : Prt) : Bool := out.any fun q => !(q.k == 0) && (!(p.k == 0) && q.t == p.t)
def pats : List Prt → List T8 → Option (List Prt)
  | out, [] => some out
  | out, x :: r => if !(prt x).2 || ((prt x).1.k == 2 && !r.isEmpty) then none else if dup out (prt x).1 then none else pats (out ++ [(prt x).1]) r
/-- A pattern's parts. -/
def pattern (s : T8) : Option (List Prt) := if s == [47] then some [] else if s.head? == some 47 then pats [] (Pt.cutS [] (s.drop 1)) else none
def alike (a b : Prt) : Bool := a.k == b.k && (!(a.k == 0) || a.t == b.t)
def shape : List Prt → List Prt → Bool
  | [], [] => true
  | a :: x, b :: y => alike a b && shape x y
  | _, _ => false
def fit1 (p : Prt) (l : T8) : Bool := !(p.k == 0) || p.t == l
/-- Whether a pattern fits a path's parts; a rest stands at its end alone. -/
def fits : List Prt → List T8 → Bool
  | [], [] => true
  | [], _ :: _ => false
  | p :: x, l => if p.k == 2 then x.isEmpty else match l with | [] => false | a :: y => fit1 p a && fits x y
def kinds (p : List Prt) : List Nat := p.map (·.k)
/-- The finer one: kind by kind, what has ended first. -/
def lex : List Nat → List Nat → Bool
  | _, [] => false
  | [], _ :: _ => true
  | a :: x, b :: y => if a == b then lex x y else decide (a < b)
def finer (a b : List Prt) : Bool := lex (kinds a) (kinds b)
/-- What a pattern catches of a path's parts; e: the path ends in a slash. -/
def caught : List Prt → List T8 → Bool → List (T8 × T8)
  | [], _, _ => []
  | p :: x, l, e => if p.k == 1 then (p.t, l.headD []) :: caught x l.tail e else if p.k == 2 then (p.t, Pt.join l ++ (if !l.isEmpty && e then [47] else [])) :: caught x l.tail e else caught x l.tail e
/-- A text laid among others in their order, once. -/
def lay : List T8 → T8 → List T8
  | [], s => [s]
  | a :: r, s => if a < s then a :: lay r s else if a == s then a :: r else s :: a :: r
structure Ro where
  m : T8
  p : T8
  h : Int
def pat (r : Ro) : List Prt := (pattern r.p).getD []
def sGET : T8 := [71, 69, 84]
def sHEAD : T8 := [72, 69, 65, 68]
def sOPT : T8 := [79, 80, 84, 73, 79, 78, 83]
def meth (l : List T8) (of : List Prt) (r : Ro) : List T8 := if shape (pat r) of then (if r.m == sGET then lay (lay l r.m) sHEAD else lay l r.m) else l
def meths (rs : List Ro) (of : List Prt) : List T8 := rs.foldl (fun l r => meth l of r) [sOPT]
def comma (s x : T8) : T8 := if s.isEmpty then s ++ x else s ++ [44, 32] ++ x
def allow (rs : List Ro) (of : List Prt) : T8 := (meths rs of).foldl comma []
/-- The place of a shape's route of a method. -/
def byM (rs : List Ro) (of : List Prt) (m : T8) : Option Nat := rs.findIdx? fun r => shape (pat r) of && r.m == m
def wins (b : Option (List Prt)) (p : List Prt) : Bool := match b with | none => true | some q => finer p q
def better (l : List T8) (b : Option (List Prt)) (r : Ro) : Option (List Prt) := if fits (pat r) l && wins b (pat r) then some (pat r) else b
def best (rs : List Ro) (l : List T8) : Option (List Prt) := rs.foldl (better l) none
structure Mt where
  st : Int
  ro : Int
  ps : List (T8 × T8)
  al : T8
def sel (rs : List Ro) (of : List Prt) (m : T8) : Option Nat := (byM rs of m).or ((if m == sHEAD then byM rs of sGET else none).or (byM rs of []))
def ends (path : T8) : Bool := path.getLast? == some 47
def find (rs : List Ro) (m path : T8) : Mt :=
  match best rs (Pt.parts path) with
  | none => ⟨404, -1, [], []⟩
  | some q => match sel rs q m with
    | some k => ⟨200, k, caught ((rs[k]?.map pat).getD []) (Pt.parts path) (ends path), []⟩
    | none => ⟨if m == sOPT then 200 else 405, -1, [], allow rs q⟩
/-- What is wrong with routes: of the i-th one. -/
def badRo (r : Ro) : Bool := (pattern r.p).isNone || ((!r.m.isEmpty && !Tx.isTok r.m) || (decide (r.h < 1) || decide (4 < r.h)))
def twice (ps : List Ro) (r : Ro) : Bool := ps.any fun q => q.m == r.m && shape (pat r) (pat q)
def chk : List Ro → List Ro → Int
  | _, [] => 0
  | ps, r :: rs => if badRo r then 180 else if twice ps r then 181 else chk (ps ++ [r]) rs
def check (rs : List Ro) : Int := if 256 < rs.length then 4 else chk [] rs

/-! ### shapes -/
theorem fits_cons (p : Prt) (x : List Prt) (l : List T8) : fits (p :: x) l = if p.k == 2 then x.isEmpty else (match l with | [] => false | a :: y => fit1 p a && fits x y) := by
  cases l <;> rfl
theorem better_yes {l : List T8} {b : Option (List Prt)} {r : Ro} (h : (fits (pat r) l && wins b (pat r)) = true) : better l b r = some (pat r) := by unfold better; rw [h]; rfl
theorem better_no {l : List T8} {b : Option (List Prt)} {r : Ro} (h : (fits (pat r) l && wins b (pat r)) = false) : better l b r = b := by unfold better; rw [h]; rfl
theorem alike_refl (a : Prt) : alike a a = true := by unfold alike; simp
theorem alike_symm {a b : Prt} (h : alike a b = true) : alike b a = true := by
  unfold alike at *
  simp only [Bool.and_eq_true, Bool.or_eq_true, beq_iff_eq, Bool.not_eq_true', beq_eq_false_iff_ne] at *
  obtain ⟨h1, h2⟩ := h
  exact ⟨h1.symm, h2.imp (fun h => by rw [← h1]; exact h) (fun h => h.symm)⟩
theorem alike_trans {a b c : Prt} (h : alike a b = true) (h' : alike b c = true) : alike a c = true := by
  unfold alike at *
  simp only [Bool.and_eq_true, Bool.or_eq_true, beq_iff_eq, Bool.not_eq_true', beq_eq_false_iff_ne] at *
  obtain ⟨h1, h2⟩ := h
  obtain ⟨h3, h4⟩ := h'
  refine ⟨h1.trans h3, ?_⟩
  rcases h2 with h2 | h2
  · exact .inl h2
  · rcases h4 with h4 | h4
    · exact .inl (by rw [h1]; exact h4)
    · exact .inr (h2.trans h4)
theorem shape_refl : ∀ (a : List Prt), shape a a = true := by
  intro a
  induction a with
  | nil => rfl
  | cons p x ih => rw [shape, alike_refl, ih]; rfl
theorem shape_symm : ∀ {a b : List Prt}, shape a b = true → shape b a = true := by
  intro a
  induction a with
  | nil => intro b h; cases b with | nil => rfl | cons q y => cases h
  | cons p x ih =>
    intro b h
    cases b with
    | nil => cases h
    | cons q y =>
      rw [shape, Bool.and_eq_true] at h ⊢
      exact ⟨alike_symm h.1, ih h.2⟩
theorem shape_trans : ∀ {a b c : List Prt}, shape a b = true → shape b c = true → shape a c = true := by
  intro a
  induction a with
  | nil =>
    intro b c h h'
    cases b with
    | nil => exact h'
    | cons q y => cases h
  | cons p x ih =>
    intro b c h h'
    cases b with
    | nil => cases h
    | cons q y =>
      cases c with
      | nil => cases h'
      | cons r z =>
        rw [shape, Bool.and_eq_true] at h h' ⊢
        exact ⟨alike_trans h.1 h'.1, ih h.2 h'.2⟩
theorem shape_kinds : ∀ {a b : List Prt}, shape a b = true → kinds a = kinds b := by
  intro a
  induction a with
  | nil => intro b h; cases b with | nil => rfl | cons q y => cases h
  | cons p x ih =>
    intro b h
    cases b with
    | nil => cases h
    | cons q y =>
      rw [shape, Bool.and_eq_true] at h
      have h1 := h.1
      unfold alike at h1
      simp only [Bool.and_eq_true, beq_iff_eq] at h1
      unfold kinds at *
      rw [List.map_cons, List.map_cons, h1.1, ih h.2]
theorem shape_fits : ∀ {a b : List Prt} {l : List T8}, shape a b = true → fits a l = fits b l := by
  intro a
  induction a with
  | nil => intro b l h; cases b with | nil => rfl | cons q y => cases h
  | cons p x ih =>
    intro b l h
    cases b with
    | nil => cases h
    | cons q y =>
      rw [shape, Bool.and_eq_true] at h
      have h1 := h.1
      unfold alike at h1
      simp only [Bool.and_eq_true, Bool.or_eq_true, beq_iff_eq, Bool.not_eq_true', beq_eq_false_iff_ne] at h1
      have hxy : x.isEmpty = y.isEmpty := by
        cases x with
        | nil => cases y with | nil => rfl | cons c d => cases h.2
        | cons c d => cases y with | nil => cases h.2 | cons e f => rfl
      rw [fits_cons, fits_cons, h1.1, hxy]
      split
      · rfl
      · cases l with
        | nil => rfl
        | cons c d =>
          simp only
          rw [ih h.2]
          congr 1
          unfold fit1
          rw [h1.1]
          rcases h1.2 with h2 | h2
          · rw [h1.1] at h2
            rw [beq_false_of_ne h2]; rfl
          · rw [h2]
/-- Two patterns that fit one path and are alike in their kinds are one shape. -/
theorem kinds_shape : ∀ {a b : List Prt} {l : List T8}, fits a l = true → fits b l = true → kinds a = kinds b → shape a b = true := by
  intro a
  induction a with
  | nil => intro b l _ _ h; cases b with | nil => rfl | cons q y => simp [kinds] at h
  | cons p x ih =>
    intro b l ha hb h
    cases b with
    | nil => simp [kinds] at h
    | cons q y =>
      have hk : p.k = q.k ∧ kinds x = kinds y := by simpa [kinds] using h
      rw [shape, Bool.and_eq_true]
      rw [fits_cons] at ha hb
      rw [← hk.1] at hb
      cases h2 : (p.k == 2)
      · rw [h2] at ha hb
        simp only [Bool.false_eq_true, if_false] at ha hb
        cases l with
        | nil => cases ha
        | cons c d =>
          simp only [Bool.and_eq_true] at ha hb
          refine ⟨?_, ih ha.2 hb.2 hk.2⟩
          have f1 := ha.1
          have f2 := hb.1
          unfold fit1 at f1 f2
          rw [← hk.1] at f2
          unfold alike
          simp only [Bool.and_eq_true, Bool.or_eq_true, beq_iff_eq, Bool.not_eq_true', beq_eq_false_iff_ne] at *
          refine ⟨hk.1, ?_⟩
          rcases f1 with f1 | f1
          · exact .inl f1
          · rcases f2 with f2 | f2
            · exact .inl f2
            · exact .inr (f1.trans f2.symm)
      · rw [h2] at ha hb
        simp only [if_true] at ha hb
        have hx : x = [] := by cases x with | nil => rfl | cons c d => cases ha
        have hy : y = [] := by cases y with | nil => rfl | cons c d => cases hb
        subst hx hy
        refine ⟨?_, rfl⟩
        unfold alike
        have hp2 : p.k = 2 := eq_of_beq h2
        rw [hk.1]
        rw [hk.1] at hp2
        rw [hp2]; rfl
/-! ### the order -/
theorem lex_irrefl : ∀ (a : List Nat), lex a a = false := by
  intro a
  induction a with
  | nil => rfl
  | cons x r ih => rw [lex]; simp [ih]
theorem lex_tri : ∀ (a b : List Nat), lex a b = true ∨ a = b ∨ lex b a = true := by
  intro a
  induction a with
  | nil => intro b; cases b with | nil => exact .inr (.inl rfl) | cons y s => exact .inl rfl
  | cons x r ih =>
    intro b
    cases b with
    | nil => exact .inr (.inr rfl)
    | cons y s =>
      rcases Nat.lt_trichotomy x y with h | h | h
      · left; rw [lex, if_neg (by simp; omega)]; exact decide_eq_true h
      · subst h
        rcases ih s with h1 | h1 | h1
        · left; rw [lex]; simpa using h1
        · right; left; rw [h1]
        · right; right; rw [lex]; simpa using h1
      · right; right; rw [lex, if_neg (by simp; omega)]; exact decide_eq_true h
theorem lex_trans : ∀ {a b c : List Nat}, lex a b = true → lex b c = true → lex a c = true := by
  intro a
  induction a with
  | nil =>
    intro b c h h'
    cases b with
    | nil => cases h
    | cons y s => cases c with | nil => cases h' | cons z t => rfl
  | cons x r ih =>
    intro b c h h'
    cases b with
    | nil => cases h
    | cons y s =>
      cases c with
      | nil => cases h'
      | cons z t =>
        rw [lex] at h h' ⊢
        by_cases hxy : x = y
        · subst hxy
          simp only [beq_self_eq_true, if_true] at h
          by_cases hyz : x = z
          · subst hyz
            simp only [beq_self_eq_true, if_true] at h' ⊢
            exact ih h h'
          · rw [if_neg (by simpa using hyz)] at h' ⊢
            exact h'
        · rw [if_neg (by simpa using hxy)] at h
          have h1 := of_decide_eq_true h
          by_cases hyz : y = z
          · subst hyz
            rw [if_neg (by simpa using hxy)]
            exact h
          · rw [if_neg (by simpa using hyz)] at h'
            have h2 := of_decide_eq_true h'
            rw [if_neg (by simp; omega)]
            exact decide_eq_true (by omega)
/-- The finest of patterns that fit. -/
theorem best_none {rs : List Ro} {l : List T8} : best rs l = none ↔ ∀ r ∈ rs, fits (pat r) l = false := by
  have key : ∀ (rs : List Ro) (b : Option (List Prt)), rs.foldl (better l) b = none ↔ b = none ∧ ∀ r ∈ rs, fits (pat r) l = false := by
    intro rs
    induction rs with
    | nil => intro b; simp
    | cons r rs ih =>
      intro b
      rw [List.foldl_cons, ih]
      constructor
      · rintro ⟨h1, h2⟩
        cases hb : (fits (pat r) l && wins b (pat r))
        · rw [better_no hb] at h1
          subst h1
          refine ⟨rfl, fun q hq => ?_⟩
          rcases List.mem_cons.1 hq with rfl | hq
          · simpa [wins] using hb
          · exact h2 q hq
        · rw [better_yes hb] at h1; cases h1
      · rintro ⟨rfl, h2⟩
        refine ⟨?_, fun q hq => h2 q (List.mem_cons_of_mem _ hq)⟩
        rw [better_no (by rw [h2 r (by simp)]; rfl)]
  have := key rs none
  simpa [best] using this
theorem best_some {rs : List Ro} {l : List T8} {q : List Prt} (h : best rs l = some q) : (∃ r ∈ rs, pat r = q) ∧ fits q l = true ∧ ∀ r ∈ rs, fits (pat r) l = true → lex (kinds (pat r)) (kinds q) = false := by
  have key : ∀ (rs : List Ro) (b : Option (List Prt)) (q : List Prt), rs.foldl (better l) b = some q → (∀ c, b = some c → fits c l = true) → ((∃ r ∈ rs, pat r = q) ∨ b = some q) ∧ fits q l = true ∧ (∀ c, b = some c → lex (kinds c) (kinds q) = false) ∧ ∀ r ∈ rs, fits (pat r) l = true → lex (kinds (pat r)) (kinds q) = false := by
    intro rs
    induction rs with
    | nil =>
      intro b q h hb
      simp only [List.foldl_nil] at h
      subst h
      exact ⟨.inr rfl, hb q rfl, fun c hc => by injection hc with hc; rw [hc]; exact lex_irrefl _, fun r hr => by simp at hr⟩
    | cons r rs ih =>
      intro b q h hb
      rw [List.foldl_cons] at h
      have hb' : ∀ c, better l b r = some c → fits c l = true := fun c hc => by
        cases h1 : (fits (pat r) l && wins b (pat r))
        · rw [better_no h1] at hc
          exact hb c hc
        · rw [better_yes h1] at hc
          injection hc with hc
          rw [← hc]
          simp only [Bool.and_eq_true] at h1
          exact h1.1
      obtain ⟨h1, h2, h3, h4⟩ := ih (better l b r) q h hb'
      have hr : fits (pat r) l = true → lex (kinds (pat r)) (kinds q) = false := fun hf => by
        cases hbb : b with
        | none =>
          exact h3 _ (better_yes (by rw [hf, hbb]; rfl))
        | some c =>
          cases hfi : finer (pat r) c
          · have h5 := h3 c (by rw [better_no (by rw [hf, hbb]; exact hfi)]; exact hbb)
            unfold finer at hfi
            cases hq : lex (kinds (pat r)) (kinds q)
            · rfl
            · exfalso
              rcases lex_tri (kinds c) (kinds q) with h6 | h6 | h6
              · rw [h6] at h5; cases h5
              · rw [← h6, hfi] at hq; cases hq
              · have := lex_trans hq h6
                rw [hfi] at this; cases this
          · exact h3 _ (better_yes (by rw [hf, hbb]; exact hfi))
      have hc : ∀ c, b = some c → lex (kinds c) (kinds q) = false := fun c hc => by
        cases hf : (fits (pat r) l && finer (pat r) c)
        · exact h3 c (by rw [better_no (by rw [hc]; exact hf)]; exact hc)
        · have hbt : better l b r = some (pat r) := better_yes (by rw [hc]; exact hf)
          have h5 := h3 _ hbt
          simp only [Bool.and_eq_true] at hf
          have h6 := hf.2
          unfold finer at h6
          cases hq : lex (kinds c) (kinds q)
          · rfl
          · have := lex_trans h6 hq
            rw [h5] at this; cases this
      refine ⟨?_, h2, hc, fun x hx hf => ?_⟩
      · rcases h1 with ⟨x, hx, h1⟩ | h1
        · exact .inl ⟨x, List.mem_cons_of_mem _ hx, h1⟩
        · cases hb1 : (fits (pat r) l && wins b (pat r))
          · rw [better_no hb1] at h1; exact .inr h1
          · rw [better_yes hb1] at h1
            injection h1 with h1
            exact .inl ⟨r, by simp, h1⟩
      · rcases List.mem_cons.1 hx with rfl | hx
        · exact hr hf
        · exact h4 x hx hf
  obtain ⟨h1, h2, _, h4⟩ := key rs none q h (fun c hc => by cases hc)
  exact ⟨h1.resolve_right (by simp), h2, h4⟩
/-- Of the same routes in another order the finest is one shape with it. -/
theorem best_same {rs rs' : List Ro} {l : List T8} (hm : ∀ r, r ∈ rs ↔ r ∈ rs') : (best rs l = none ∧ best rs' l = none) ∨ ∃ q q', best rs l = some q ∧ best rs' l = some q' ∧ shape q q' = true := by
  cases h : best rs l with
  | none =>
    left
    exact ⟨rfl, best_none.2 (fun r hr => best_none.1 h r ((hm r).2 hr))⟩
  | some q =>
    right
    obtain ⟨⟨r, hr, hrq⟩, h2, h3⟩ := best_some h
    cases h' : best rs' l with
    | none =>
      have := best_none.1 h' r ((hm r).1 hr)
      rw [hrq, h2] at this; cases this
    | some q' =>
      obtain ⟨⟨r', hr', hrq'⟩, h2', h3'⟩ := best_some h'
      refine ⟨q, q', rfl, rfl, kinds_shape h2 h2' ?_⟩
      have a1 := h3' r ((hm r).1 hr) (by rw [hrq]; exact h2)
      have a2 := h3 r' ((hm r').2 hr') (by rw [hrq']; exact h2')
      rw [hrq] at a1
      rw [hrq'] at a2
      rcases lex_tri (kinds q) (kinds q') with h4 | h4 | h4
      · rw [h4] at a1; cases a1
      · exact h4
      · rw [h4] at a2; cases a2
end Rt
end Go.Proofs.YtfdjimjiikeciaaGreatDoor

namespace Go.Proofs.YtfdjimjiikeciaaGreatDoor
namespace Rt
theorem lt_irr (a : T8) : ¬ a < a := List.lt_irrefl a
theorem lt_tr {a b c : T8} (h1 : a < b) (h2 : b < c) : a < c := List.lt_trans h1 h2
theorem lt_or (a b : T8) : a < b ∨ a = b ∨ b < a := by
  by_cases h1 : a < b
  · exact .inl h1
  · by_cases h2 : b < a
    · exact .inr (.inr h2)
    · exact .inr (.inl (List.le_antisymm (List.not_lt.1 h2) (List.not_lt.1 h1)))
/-! ### the allowed methods -/
def Rise (l : List T8) : Prop := l.Pairwise (fun a b => a < b)
theorem lay_mem : ∀ (l : List T8) (s x : T8), x ∈ lay l s ↔ x = s ∨ x ∈ l := by
  intro l
  induction l with
  | nil => intro s x; simp [lay]
  | cons a r ih =>
    intro s x
    rw [lay]
    split
    · rw [List.mem_cons, ih, List.mem_cons]
      exact ⟨fun h => by rcases h with h | h | h; exact .inr (.inl h); exact .inl h; exact .inr (.inr h), fun h => by rcases h with h | h | h; exact .inr (.inl h); exact .inl h; exact .inr (.inr h)⟩
    · split
      · rename_i h2
        have := eq_of_beq h2
        subst this
        simp
      · simp
theorem lay_rise : ∀ (l : List T8) (s : T8), Rise l → Rise (lay l s) := by
  intro l
  induction l with
  | nil => intro s _; unfold Rise lay; simp
  | cons a r ih =>
    intro s h
    unfold Rise at *
    rw [List.pairwise_cons] at h
    rw [lay]
    split
    · rename_i h1
      rw [List.pairwise_cons]
      refine ⟨fun x hx => ?_, ih s h.2⟩
      rcases (lay_mem r s x).1 hx with rfl | hx
      · exact h1
      · exact h.1 x hx
    · rename_i h1
      split
      · rw [List.pairwise_cons]; exact h
      · rename_i h2
        have hsa : s < a := by
          rcases lt_or a s with h3 | h3 | h3
          · exact absurd h3 h1
          · exact absurd (by rw [h3]; simp) h2
          · exact h3
        rw [List.pairwise_cons, List.pairwise_cons]
        refine ⟨fun x hx => ?_, h⟩
        rcases List.mem_cons.1 hx with rfl | hx
        · exact hsa
        · exact lt_tr hsa (h.1 x hx)
theorem rise_ext : ∀ {a b : List T8}, Rise a → Rise b → (∀ x, x ∈ a ↔ x ∈ b) → a = b := by
  intro a
  induction a with
  | nil =>
    intro b _ _ h
    cases b with
    | nil => rfl
    | cons y s => have := (h y).2 (by simp); simp at this
  | cons x r ih =>
    intro b ha hb h
    cases b with
    | nil => have := (h x).1 (by simp); simp at this
    | cons y s =>
      unfold Rise at ha hb
      rw [List.pairwise_cons] at ha hb
      have hxy : x = y := by
        have h1 := (h x).1 (by simp)
        have h2 := (h y).2 (by simp)
        rcases List.mem_cons.1 h1 with h1 | h1
        · exact h1
        · rcases List.mem_cons.1 h2 with h2 | h2
          · exact h2.symm
          · exact absurd (lt_tr (ha.1 y h2) (hb.1 x h1)) (lt_irr x)
      subst hxy
      congr 1
      refine ih ha.2 hb.2 (fun z => ?_)
      have hz := h z
      rw [List.mem_cons, List.mem_cons] at hz
      constructor
      · intro h1
        rcases hz.1 (.inr h1) with h2 | h2
        · subst h2; exact absurd (ha.1 z h1) (lt_irr z)
        · exact h2
      · intro h1
        rcases hz.2 (.inr h1) with h2 | h2
        · subst h2; exact absurd (hb.1 z h1) (lt_irr z)
        · exact h2
theorem meth_mem (l : List T8) (of : List Prt) (r : Ro) (x : T8) : x ∈ meth l of r ↔ x ∈ l ∨ (shape (pat r) of = true ∧ (x = r.m ∨ (r.m = sGET ∧ x = sHEAD))) := by
  unfold meth
  cases hs : shape (pat r) of
  · simp
  · simp only [if_true, true_and]
    cases hg : (r.m == sGET)
    · have : r.m ≠ sGET := by simpa using hg
      simp only [Bool.false_eq_true, if_false]
      rw [lay_mem]
      constructor
      · rintro (h | h)
        · exact .inr (.inl h)
        · exact .inl h
      · rintro (h | h | h)
        · exact .inr h
        · exact .inl h
        · exact absurd h.1 this
    · have : r.m = sGET := eq_of_beq hg
      simp only [if_true]
      rw [lay_mem, lay_mem]
      constructor
      · rintro (h | h | h)
        · exact .inr (.inr ⟨this, h⟩)
        · exact .inr (.inl h)
        · exact .inl h
      · rintro (h | h | h)
        · exact .inr (.inr h)
        · exact .inr (.inl h)
        · exact .inl h.2
theorem meth_rise {l : List T8} (of : List Prt) (r : Ro) (h : Rise l) : Rise (meth l of r) := by
  unfold meth
  split
  · split
    · exact lay_rise _ _ (lay_rise _ _ h)
    · exact lay_rise _ _ h
  · exact h
theorem meths_all : ∀ (rs : List Ro) (l : List T8) (of : List Prt), Rise l → Rise (rs.foldl (fun l r => meth l of r) l) ∧ ∀ x, x ∈ rs.foldl (fun l r => meth l of r) l ↔ x ∈ l ∨ ∃ r ∈ rs, shape (pat r) of = true ∧ (x = r.m ∨ (r.m = sGET ∧ x = sHEAD)) := by
  intro rs
  induction rs with
  | nil => intro l of h; exact ⟨h, fun x => by simp⟩
  | cons r rs ih =>
    intro l of h
    obtain ⟨h1, h2⟩ := ih (meth l of r) of (meth_rise of r h)
    refine ⟨h1, fun x => ?_⟩
    rw [List.foldl_cons, h2, meth_mem]
    constructor
    · rintro ((h3 | h3) | ⟨q, hq, h3⟩)
      · exact .inl h3
      · exact .inr ⟨r, by simp, h3⟩
      · exact .inr ⟨q, List.mem_cons_of_mem _ hq, h3⟩
    · rintro (h3 | ⟨q, hq, h3⟩)
      · exact .inl (.inl h3)
      · rcases List.mem_cons.1 hq with rfl | hq
        · exact .inl (.inr h3)
        · exact .inr ⟨q, hq, h3⟩
theorem allow_same {rs rs' : List Ro} {q q' : List Prt} (hm : ∀ r, r ∈ rs ↔ r ∈ rs') (hs : shape q q' = true) : allow rs q = allow rs' q' := by
  have e : meths rs q = meths rs' q' := by
    obtain ⟨a1, a2⟩ := meths_all rs [sOPT] q (by unfold Rise; simp)
    obtain ⟨b1, b2⟩ := meths_all rs' [sOPT] q' (by unfold Rise; simp)
    unfold meths
    refine rise_ext a1 b1 (fun x => ?_)
    rw [a2, b2]
    have key : ∀ r, shape (pat r) q = true ↔ shape (pat r) q' = true := fun r => ⟨fun h => shape_trans h hs, fun h => shape_trans h (shape_symm hs)⟩
    constructor
    · rintro (h | ⟨r, hr, h1, h2⟩)
      · exact .inl h
      · exact .inr ⟨r, (hm r).1 hr, (key r).1 h1, h2⟩
    · rintro (h | ⟨r, hr, h1, h2⟩)
      · exact .inl h
      · exact .inr ⟨r, (hm r).2 hr, (key r).2 h1, h2⟩
  unfold allow
  rw [e]
/-! ### two that are one -/
def same (q r : Ro) : Bool := q.m == r.m && shape (pat r) (pat q)
theorem same_symm {q r : Ro} (h : same q r = true) : same r q = true := by
  unfold same at *
  rw [Bool.and_eq_true, beq_iff_eq] at *
  exact ⟨h.1.symm, shape_symm h.2⟩
theorem chk_ok : ∀ (rs ps : List Ro), chk ps rs = 0 ↔ (∀ r ∈ rs, badRo r = false) ∧ (∀ q ∈ ps, ∀ r ∈ rs, same q r = false) ∧ rs.Pairwise (fun q r => same q r = false) := by
  intro rs
  induction rs with
  | nil => intro ps; simp [chk]
  | cons r rs ih =>
    intro ps
    rw [chk]
    cases hb : badRo r
    · simp only [Bool.false_eq_true, if_false]
      cases ht : twice ps r
      · simp only [Bool.false_eq_true, if_false]
        have ht' : ∀ q ∈ ps, same q r = false := fun q hq => by
          unfold twice at ht
          rw [List.any_eq_false] at ht
          have := ht q hq
          unfold same
          simpa using this
        rw [ih, List.pairwise_cons]
        constructor
        · rintro ⟨h1, h2, h3⟩
          refine ⟨fun x hx => ?_, fun q hq x hx => ?_, fun x hx => h2 r (by simp) x hx, h3⟩
          · rcases List.mem_cons.1 hx with rfl | hx
            · exact hb
            · exact h1 x hx
          · rcases List.mem_cons.1 hx with rfl | hx
            · exact ht' q hq
            · exact h2 q (List.mem_append_left _ hq) x hx
        · rintro ⟨h1, h2, h3, h4⟩
          refine ⟨fun x hx => h1 x (List.mem_cons_of_mem _ hx), fun q hq x hx => ?_, h4⟩
          rcases List.mem_append.1 hq with hq | hq
          · exact h2 q hq x (List.mem_cons_of_mem _ hx)
          · simp at hq; subst hq; exact h3 x hx
      · simp only [if_true]
        constructor
        · intro h; exact absurd h (by decide)
        · rintro ⟨_, h2, _⟩
          unfold twice at ht
          rw [List.any_eq_true] at ht
          obtain ⟨q, hq, h3⟩ := ht
          have := h2 q hq r (by simp)
          unfold same at this
          rw [this] at h3; cases h3
    · simp only [if_true]
      constructor
      · intro h; exact absurd h (by decide)
      · rintro ⟨h1, _⟩
        have := h1 r (by simp)
        rw [hb] at this; cases this
/-- Routes that may be. -/
def Ok (rs : List Ro) : Prop := rs.length ≤ 256 ∧ (∀ r ∈ rs, badRo r = false) ∧ rs.Pairwise (fun q r => same q r = false)
theorem check_ok {rs : List Ro} : check rs = 0 ↔ Ok rs := by
  unfold check Ok
  split
  · rename_i h
    constructor
    · intro h1; exact absurd h1 (by decide)
    · rintro ⟨h1, _⟩; omega
  · rename_i h
    rw [chk_ok]
    constructor
    · rintro ⟨h1, _, h3⟩; exact ⟨by omega, h1, h3⟩
    · rintro ⟨_, h1, h3⟩; exact ⟨h1, fun q hq => by simp at hq, h3⟩
theorem check_turned (rs : List Ro) : check rs.reverse = 0 ↔ check rs = 0 := by
  rw [check_ok, check_ok]
  unfold Ok
  rw [List.length_reverse, List.pairwise_reverse]
  constructor
  · rintro ⟨h1, h2, h3⟩
    exact ⟨h1, fun r hr => h2 r (List.mem_reverse.2 hr), h3.imp (fun h => by
      rename_i a b
      cases hq : same a b
      · rfl
      · rw [same_symm hq] at h; cases h)⟩
  · rintro ⟨h1, h2, h3⟩
    exact ⟨h1, fun r hr => h2 r (List.mem_reverse.1 hr), h3.imp (fun h => by
      rename_i a b
      cases hq : same b a
      · rfl
      · rw [same_symm hq] at h; cases h)⟩
theorem uniq {rs : List Ro} (h : rs.Pairwise (fun q r => same q r = false)) {i j : Nat} {a b : Ro} (hi : rs[i]? = some a) (hj : rs[j]? = some b) (hs : same a b = true) : i = j := by
  rcases Nat.lt_trichotomy i j with h1 | h1 | h1
  · obtain ⟨i1, i2⟩ := List.getElem?_eq_some_iff.1 hi
    obtain ⟨j1, j2⟩ := List.getElem?_eq_some_iff.1 hj
    have := List.pairwise_iff_getElem.1 h i j i1 j1 h1
    rw [i2, j2, hs] at this; cases this
  · exact h1
  · obtain ⟨i1, i2⟩ := List.getElem?_eq_some_iff.1 hi
    obtain ⟨j1, j2⟩ := List.getElem?_eq_some_iff.1 hj
    have := List.pairwise_iff_getElem.1 h j i j1 i1 h1
    rw [i2, j2, same_symm hs] at this; cases this
theorem by_some {rs : List Ro} {of : List Prt} {m : T8} {k : Nat} (h : byM rs of m = some k) : ∃ r, rs[k]? = some r ∧ shape (pat r) of = true ∧ r.m = m := by
  unfold byM at h
  obtain ⟨h1, h2, _⟩ := List.findIdx?_eq_some_iff_getElem.1 h
  rw [Bool.and_eq_true, beq_iff_eq] at h2
  exact ⟨rs[k], List.getElem?_eq_getElem h1, h2.1, h2.2⟩
theorem by_none {rs : List Ro} {of : List Prt} {m : T8} (h : byM rs of m = none) : ∀ r ∈ rs, shape (pat r) of = true → r.m ≠ m := by
  intro r hr h1 h2
  unfold byM at h
  have := List.findIdx?_eq_none_iff.1 h r hr
  rw [h1, h2] at this
  simp at this
/-- The place of a shape's route of a method, in routes that are turned about. -/
theorem by_turned {rs : List Ro} (h : rs.Pairwise (fun q r => same q r = false)) {q q' : List Prt} (hs : shape q q' = true) (m : T8) : byM rs.reverse q' m = (byM rs q m).map (fun k => rs.length - 1 - k) := by
  cases h1 : byM rs q m with
  | none =>
    cases h2 : byM rs.reverse q' m with
    | none => rfl
    | some k =>
      obtain ⟨r, hr, h3, h4⟩ := by_some h2
      exact absurd h4 (by_none h1 r (List.mem_reverse.1 (List.mem_of_getElem? hr)) (shape_trans h3 (shape_symm hs)))
  | some k =>
    obtain ⟨r, hr, h3, h4⟩ := by_some h1
    have hk := (List.getElem?_eq_some_iff.1 hr).1
    cases h2 : byM rs.reverse q' m with
    | none => exact absurd h4 (by_none h2 r (List.mem_reverse.2 (List.mem_of_getElem? hr)) (shape_trans h3 hs))
    | some k' =>
      obtain ⟨r', hr', h3', h4'⟩ := by_some h2
      have hk' := (List.getElem?_eq_some_iff.1 hr').1
      rw [List.length_reverse] at hk'
      rw [List.getElem?_reverse hk'] at hr'
      have := uniq h hr hr' (by
        unfold same
        rw [Bool.and_eq_true, beq_iff_eq]
        exact ⟨h4.trans h4'.symm, shape_trans h3' (shape_trans (shape_symm hs) (shape_symm h3))⟩)
      simp only [Option.map_some, Option.some.injEq]
      omega
theorem sel_turned {rs : List Ro} (h : rs.Pairwise (fun q r => same q r = false)) {q q' : List Prt} (hs : shape q q' = true) (m : T8) : sel rs.reverse q' m = (sel rs q m).map (fun k => rs.length - 1 - k) := by
  unfold sel
  rw [by_turned h hs m, by_turned h hs sGET, by_turned h hs []]
  cases byM rs q m
  · cases m == sHEAD
    · simp
    · simp only [if_true]
      cases byM rs q sGET <;> simp
  · simp
theorem sel_some {rs : List Ro} {of : List Prt} {m : T8} {k : Nat} (h : sel rs of m = some k) : ∃ r, rs[k]? = some r ∧ shape (pat r) of = true := by
  unfold sel at h
  cases h1 : byM rs of m with
  | some j =>
    rw [h1] at h
    simp at h
    subst h
    obtain ⟨r, a, b, _⟩ := by_some h1
    exact ⟨r, a, b⟩
  | none =>
    rw [h1] at h
    simp only [Option.none_or] at h
    cases hm : (m == sHEAD)
    · rw [hm] at h
      simp at h
      obtain ⟨r, a, b, _⟩ := by_some h
      exact ⟨r, a, b⟩
    · rw [hm] at h
      simp only [if_true] at h
      cases h2 : byM rs of sGET with
      | some j =>
        rw [h2] at h
        simp at h
        subst h
        obtain ⟨r, a, b, _⟩ := by_some h2
        exact ⟨r, a, b⟩
      | none =>
        rw [h2] at h
        simp at h
        obtain ⟨r, a, b, _⟩ := by_some h
        exact ⟨r, a, b⟩
/-- The order of the routes does not count. -/
theorem find_turned {rs : List Ro} (h : rs.Pairwise (fun q r => same q r = false)) (m path : T8) :
    (find rs.reverse m path).st = (find rs m path).st ∧ (find rs.reverse m path).ps = (find rs m path).ps ∧ (find rs.reverse m path).al = (find rs m path).al ∧ (find rs m path).ro = (if 0 ≤ (find rs.reverse m path).ro then (rs.length : Int) - 1 - (find rs.reverse m path).ro else (find rs.reverse m path).ro) := by
  have hm : ∀ r, r ∈ rs ↔ r ∈ rs.reverse := fun r => List.mem_reverse.symm
  unfold find
  rcases best_same (l := Pt.parts path) hm with ⟨h1, h2⟩ | ⟨q, q', h1, h2, hs⟩
  · rw [h1, h2]
    exact ⟨rfl, rfl, rfl, rfl⟩
  · rw [h1, h2]
    simp only
    rw [sel_turned h hs m]
    cases hsl : sel rs q m with
    | none =>
      simp only [Option.map_none]
      refine ⟨trivial, trivial, (allow_same hm hs).symm, ?_⟩
      simp
    | some k =>
      simp only [Option.map_some]
      obtain ⟨r, hr, _⟩ := sel_some hsl
      have hk := (List.getElem?_eq_some_iff.1 hr).1
      have e : rs.reverse[rs.length - 1 - k]? = rs[k]? := by
        rw [List.getElem?_reverse (by omega)]
        congr 1; omega
      rw [e]
      refine ⟨trivial, rfl, trivial, ?_⟩
      rw [if_pos (by omega)]
      omega
end Rt
end Go.Proofs.YtfdjimjiikeciaaGreatDoor

namespace Go.Proofs.YtfdjimjiikeciaaGreatDoor
namespace Rt
/-- A path's part. -/
def Gd (x : T8) : Prop := x ≠ [] ∧ 47 ∉ x
theorem parts_gd {l x : T8} (h : x ∈ Pt.parts l) : Gd x := by
  unfold Pt.parts at h
  obtain ⟨h1, h2⟩ := List.mem_filter.1 h
  refine ⟨(fun e => by rw [e] at h2; cases h2), (Pt.cutS_no l [] (by simp) x h1).1⟩
theorem filt_gd {k : List T8} (h : ∀ x ∈ k, Gd x) : k.filter (fun p => !p.isEmpty) = k := by
  rw [List.filter_eq_self]
  intro p hp
  have := (h p hp).1
  cases p with
  | nil => exact absurd rfl this
  | cons a b => rfl
theorem parts_join {k : List T8} (h : ∀ x ∈ k, Gd x) (b : Bool) : Pt.parts (Pt.join k ++ (if !k.isEmpty && b then [47] else [])) = k := by
  have hn : ∀ x ∈ k, 47 ∉ x := fun x hx => (h x hx).2
  cases k with
  | nil => rfl
  | cons a r =>
    simp only [List.isEmpty_cons, Bool.not_false, Bool.true_and]
    unfold Pt.parts
    cases b
    · simp only [Bool.false_eq_true, if_false, List.append_nil]
      rw [Pt.cutS_join0 _ (by simp) hn]
      exact filt_gd h
    · simp only [if_true]
      rw [Pt.cutS_join _ _ (by simp) hn, List.filter_append, filt_gd h]
      simp [Pt.cutS]
theorem parts_one {x : T8} (h : Gd x) : Pt.parts x = [x] := by
  have := parts_join (k := [x]) (fun y hy => by simp at hy; rw [hy]; exact h) false
  simpa [Pt.join] using this
theorem join_inj {a b : List T8} (ha : ∀ x ∈ a, Gd x) (hb : ∀ x ∈ b, Gd x) (h : Pt.join a = Pt.join b) : a = b := by
  have h1 := parts_join ha false
  have h2 := parts_join hb false
  simp only [Bool.and_false, Bool.false_eq_true, if_false, List.append_nil] at h1 h2
  rw [← h1, ← h2, h]
/-! ### patterns -/
theorem prt_k (s : T8) : (prt s).1.k ≤ 2 := by
  unfold prt
  split
  · split <;> simp
  · split <;> simp
theorem prt_plain {s : T8} (h : (prt s).2 = true) (hk : (prt s).1.k = 0) : (prt s).1.t = s ∧ s ≠ [] := by
  unfold prt at *
  split at h
  · rename_i h1
    rw [if_pos h1] at hk
    split at h
    · rename_i h2
      rw [if_pos h2] at hk; cases hk
    · rename_i h2
      rw [if_neg h2] at hk; cases hk
  · rename_i h1
    rw [if_neg h1]
    split at h
    · rename_i h2
      rw [if_pos h2]
      refine ⟨rfl, fun e => ?_⟩
      rw [e] at h; cases h
    · cases h
theorem pats_out : ∀ (xs : List T8) (out ps : List Prt), pats out xs = some ps → ps = out ++ xs.map (fun x => (prt x).1) ∧ (∀ x ∈ xs, (prt x).2 = true) ∧ ∀ i x, xs[i]? = some x → (prt x).1.k = 2 → i + 1 = xs.length := by
  intro xs
  induction xs with
  | nil => intro out ps h; simp [pats] at h; subst h; simp
  | cons x r ih =>
    intro out ps h
    rw [pats] at h
    split at h
    · cases h
    · rename_i h1
      split at h
      · cases h
      · simp only [Bool.or_eq_true, not_or, Bool.not_eq_true', Bool.not_eq_false, Bool.and_eq_true, not_and] at h1
        obtain ⟨e, h2, h3⟩ := ih _ ps h
        refine ⟨by rw [e]; simp, fun y hy => ?_, fun i y hy hk => ?_⟩
        · rcases List.mem_cons.1 hy with rfl | hy
          · exact h1.1
          · exact h2 y hy
        · cases i with
          | zero =>
            simp at hy
            subst hy
            have h4 := h1.2 (by rw [hk]; rfl)
            cases r with
            | nil => rfl
            | cons a b => cases h4
          | succ i =>
            have := h3 i y (by simpa using hy) hk
            simp; omega
/-- What a pattern is made of. -/
structure Wf (ps : List Prt) : Prop where
  k : ∀ p ∈ ps, p.k ≤ 2
  t : ∀ p ∈ ps, p.k = 0 → Gd p.t
  last : ∀ (i : Nat) (p : Prt), ps[i]? = some p → p.k = 2 → i + 1 = ps.length
theorem Wf.nil : Wf [] := ⟨fun p h => by simp at h, fun p h => by simp at h, fun i p h => by simp at h⟩
theorem Wf.tail {p : Prt} {x : List Prt} (h : Wf (p :: x)) : Wf x :=
  ⟨fun q hq => h.k q (List.mem_cons_of_mem _ hq), fun q hq => h.t q (List.mem_cons_of_mem _ hq), fun i q hq hk => by
    have := h.last (i + 1) q (by simpa using hq) hk
    simp at this; omega⟩
theorem pattern_wf {s : T8} {ps : List Prt} (h : pattern s = some ps) : Wf ps := by
  unfold pattern at h
  split at h
  · injection h with h
    rw [← h]; exact Wf.nil
  · split at h
    · obtain ⟨e, h2, h3⟩ := pats_out _ _ _ h
      rw [List.nil_append] at e
      refine ⟨fun p hp => ?_, fun p hp hk => ?_, fun i p hp hk => ?_⟩
      · rw [e] at hp
        obtain ⟨x, _, rfl⟩ := List.mem_map.1 hp
        exact prt_k x
      · rw [e] at hp
        obtain ⟨x, hx, rfl⟩ := List.mem_map.1 hp
        obtain ⟨h4, h5⟩ := prt_plain (h2 x hx) hk
        rw [h4]
        exact ⟨h5, (Pt.cutS_no _ [] (by simp) x hx).1⟩
      · rw [e, List.getElem?_map, Option.map_eq_some_iff] at hp
        obtain ⟨x, hx, rfl⟩ := hp
        rw [e, List.length_map]
        exact h3 i x hx hk
    · cases h
theorem pat_wf {r : Ro} : Wf (pat r) := by
  unfold pat
  cases h : pattern r.p with
  | none => exact Wf.nil
  | some ps => exact pattern_wf h
/-! ### what is caught, put back -/
def back : List Prt → List (T8 × T8) → List T8
  | [], _ => []
  | p :: x, cs => if p.k == 0 then Pt.parts p.t ++ back x cs else match cs with | [] => [] | c :: cs' => Pt.parts c.2 ++ back x cs'
def names (ps : List Prt) : List T8 := (ps.filter (fun p => !(p.k == 0))).map (·.t)
theorem back_cons (p : Prt) (x : List Prt) (cs : List (T8 × T8)) : back (p :: x) cs = if p.k == 0 then Pt.parts p.t ++ back x cs else (match cs with | [] => [] | c :: cs' => Pt.parts c.2 ++ back x cs') := by
  cases cs <;> rfl
theorem back_caught : ∀ (ps : List Prt) (l : List T8) (e : Bool), Wf ps → (∀ x ∈ l, Gd x) → fits ps l = true → back ps (caught ps l e) = l ∧ (caught ps l e).map (·.1) = names ps := by
  intro ps
  induction ps with
  | nil =>
    intro l e _ _ h
    cases l with
    | nil => exact ⟨rfl, rfl⟩
    | cons a b => cases h
  | cons p x ih =>
    intro l e hw hl h
    rw [fits_cons] at h
    cases h2 : (p.k == 2)
    · rw [h2] at h
      simp only [Bool.false_eq_true, if_false] at h
      cases l with
      | nil => cases h
      | cons a y =>
        simp only [Bool.and_eq_true] at h
        obtain ⟨hb, hn⟩ := ih y e hw.tail (fun z hz => hl z (List.mem_cons_of_mem _ hz)) h.2
        have ha := hl a (by simp)
        cases h0 : (p.k == 0)
        · have h1 : (p.k == 1) = true := by
            have hk := hw.k p (by simp)
            have n0 : p.k ≠ 0 := by simpa using h0
            have n2 : p.k ≠ 2 := by simpa using h2
            rw [beq_iff_eq]; omega
          rw [caught, h1]
          simp only [if_true, List.headD_cons, List.tail_cons]
          refine ⟨?_, ?_⟩
          · rw [back_cons, h0]
            simp only [Bool.false_eq_true, if_false]
            rw [parts_one ha, hb]; rfl
          · rw [List.map_cons, hn]
            unfold names
            rw [List.filter_cons, h0]
            rfl
        · have k0 : p.k = 0 := eq_of_beq h0
          have hf := h.1
          unfold fit1 at hf
          rw [h0] at hf
          simp only [Bool.not_true, Bool.false_or, beq_iff_eq] at hf
          have h1 : (p.k == 1) = false := by rw [k0]; rfl
          rw [caught, h1, h2]
          simp only [Bool.false_eq_true, if_false, List.tail_cons]
          refine ⟨?_, ?_⟩
          · rw [back_cons, h0]
            simp only [if_true]
            rw [hb, hf, parts_one ha]; rfl
          · rw [hn]
            unfold names
            rw [List.filter_cons, h0]
            rfl
    · rw [h2] at h
      simp only [if_true] at h
      have hx : x = [] := by cases x with | nil => rfl | cons c d => cases h
      subst hx
      have k2 : p.k = 2 := eq_of_beq h2
      have h1 : (p.k == 1) = false := by rw [k2]; rfl
      have h0 : (p.k == 0) = false := by rw [k2]; rfl
      rw [caught, h1, h2]
      simp only [Bool.false_eq_true, if_false, if_true]
      refine ⟨?_, ?_⟩
      · rw [back_cons, h0]
        simp only [Bool.false_eq_true, if_false]
        rw [parts_join hl]
        simp [back]
      · unfold names
        rw [List.filter_cons, h0]
        rfl
/-- The theorem of the stage, of the plain functions. -/
theorem find_fits {rs : List Ro} {m path : T8} {k : Nat} {ps : List (T8 × T8)} {al : T8} {st : Int} (h : find rs m path = ⟨st, k, ps, al⟩) : st = 200 ∧ al = [] ∧ ∃ r, rs[k]? = some r ∧ back (pat r) ps = Pt.parts path ∧ ps.map (·.1) = names (pat r) := by
  unfold find at h
  cases hb : best rs (Pt.parts path) with
  | none =>
    rw [hb] at h
    simp only [Mt.mk.injEq] at h
    have := h.2.1
    omega
  | some q =>
    rw [hb] at h
    simp only at h
    cases hs : sel rs q m with
    | none =>
      rw [hs] at h
      simp only [Mt.mk.injEq] at h
      have := h.2.1
      omega
    | some j =>
      rw [hs] at h
      simp only [Mt.mk.injEq] at h
      obtain ⟨h1, h2, h3, h4⟩ := h
      obtain rfl : j = k := by omega
      obtain ⟨r, hr, hsh⟩ := sel_some hs
      obtain ⟨_, hf, _⟩ := best_some hb
      refine ⟨h1.symm, h4.symm, r, hr, ?_⟩
      rw [hr] at h3
      simp only [Option.map_some, Option.getD_some] at h3
      rw [← h3]
      exact back_caught (pat r) (Pt.parts path) (ends path) pat_wf (fun x hx => parts_gd hx) (by rw [shape_fits hsh]; exact hf)
theorem find_none {rs : List Ro} {m path : T8} (h : (find rs m path).ro < 0) : (find rs m path).ps = [] ∧ ((find rs m path).st = 200 → m = sOPT) := by
  unfold find at *
  cases hb : best rs (Pt.parts path) with
  | none => exact ⟨rfl, fun h => by simp only at h; omega⟩
  | some q =>
    rw [hb] at h
    simp only at h ⊢
    cases hs : sel rs q m with
    | none =>
      simp only
      refine ⟨trivial, fun h1 => ?_⟩
      cases hm : (m == sOPT)
      · rw [hm] at h1; exact absurd h1 (by decide)
      · exact eq_of_beq hm
    | some j =>
      rw [hs] at h
      simp only at h
      omega
/-! ### plain patterns -/
theorem plain_pat {s : T8} {ps : List Prt} (h : pattern s = some ps) (hk : ∀ p ∈ ps, p.k = 0) : Pt.parts s = ps.map (·.t) := by
  unfold pattern at h
  split at h
  · rename_i h1
    injection h with h
    rw [← h, eq_of_beq h1]; rfl
  · split at h
    · rename_i h1
      obtain ⟨e, h2, _⟩ := pats_out _ _ _ h
      rw [List.nil_append] at e
      have hs : s = 47 :: s.drop 1 := by
        cases s with
        | nil => cases h1
        | cons a b => simp at h1; subst h1; rfl
      have hx : ∀ x ∈ Pt.cutS [] (s.drop 1), (prt x).1.t = x ∧ x ≠ [] := fun x hx => prt_plain (h2 x hx) (hk _ (by rw [e]; exact List.mem_map_of_mem hx))
      have e2 : ps.map (·.t) = Pt.cutS [] (s.drop 1) := by
        rw [e, List.map_map]
        conv => rhs; rw [← List.map_id (Pt.cutS [] (s.drop 1))]
        apply List.map_congr_left
        intro x hx'
        exact (hx x hx').1
      rw [e2]
      conv => lhs; rw [hs]
      unfold Pt.parts
      rw [Pt.cutS]
      simp only [beq_self_eq_true, if_true]
      rw [List.filter_cons]
      simp only [List.isEmpty_nil, Bool.not_true, Bool.false_eq_true, if_false]
      rw [List.filter_eq_self]
      intro p hp
      have := (hx p hp).2
      cases p with
      | nil => exact absurd rfl this
      | cons a b => rfl
    · cases h
theorem plain_fits : ∀ {ps : List Prt} {l : List T8}, (∀ p ∈ ps, p.k = 0) → (fits ps l = true ↔ l = ps.map (·.t)) := by
  intro ps
  induction ps with
  | nil => intro l _; cases l <;> simp [fits]
  | cons p x ih =>
    intro l h
    have k0 := h p (by simp)
    rw [fits_cons, show (p.k == 2) = false by rw [k0]; rfl]
    simp only [Bool.false_eq_true, if_false]
    cases l with
    | nil => simp
    | cons a y =>
      simp only [Bool.and_eq_true, List.map_cons, List.cons.injEq]
      rw [ih (fun q hq => h q (List.mem_cons_of_mem _ hq))]
      unfold fit1
      rw [k0]
      simp only [beq_self_eq_true, Bool.not_true, Bool.false_or, beq_iff_eq]
      exact ⟨fun h => ⟨h.1.symm, h.2⟩, fun h => ⟨h.1.symm, h.2⟩⟩
/-- Nothing that fits is finer than a pattern of plain parts alone. -/
theorem plain_first : ∀ {ps qs : List Prt} {l : List T8}, (∀ p ∈ ps, p.k = 0) → fits ps l = true → fits qs l = true → lex (kinds qs) (kinds ps) = false := by
  intro ps
  induction ps with
  | nil => intro qs l _ _ _; cases qs <;> rfl
  | cons p x ih =>
    intro qs l h hp hq
    have k0 := h p (by simp)
    rw [fits_cons, show (p.k == 2) = false by rw [k0]; rfl] at hp
    simp only [Bool.false_eq_true, if_false] at hp
    cases l with
    | nil => cases hp
    | cons a y =>
      simp only [Bool.and_eq_true] at hp
      cases qs with
      | nil => cases hq
      | cons q z =>
        unfold kinds
        rw [List.map_cons, List.map_cons, lex, k0]
        by_cases hq0 : q.k = 0
        · rw [hq0]
          simp only [beq_self_eq_true, if_true]
          rw [fits_cons, show (q.k == 2) = false by rw [hq0]; rfl] at hq
          simp only [Bool.false_eq_true, if_false, Bool.and_eq_true] at hq
          exact ih (fun r hr => h r (List.mem_cons_of_mem _ hr)) hp.2 hq.2
        · rw [if_neg (by simpa using hq0)]
          exact decide_eq_false (by omega)
theorem plain_caught : ∀ {ps : List Prt} {l : List T8} {e : Bool}, (∀ k ∈ kinds ps, k = 0) → caught ps l e = [] := by
  intro ps
  induction ps with
  | nil => intro l e _; rfl
  | cons p x ih =>
    intro l e h
    have k0 : p.k = 0 := h p.k (by simp [kinds])
    rw [caught, show (p.k == 1) = false by rw [k0]; rfl, show (p.k == 2) = false by rw [k0]; rfl]
    simp only [Bool.false_eq_true, if_false]
    exact ih (fun k hk => h k (by unfold kinds at *; rw [List.map_cons]; exact List.mem_cons_of_mem _ hk))
/-- A path that has the parts of a pattern of plain parts, which a route of no method stands for, is led to that shape. -/
theorem find_plain {rs : List Ro} {m path : T8} {r0 : Ro} (h0 : r0 ∈ rs) (hm : r0.m = []) (hk : ∀ p ∈ pat r0, p.k = 0) (hp : Pt.parts path = (pat r0).map (·.t)) : ∃ q k, best rs (Pt.parts path) = some q ∧ sel rs q m = some k ∧ find rs m path = ⟨200, k, [], []⟩ := by
  have hf : fits (pat r0) (Pt.parts path) = true := (plain_fits hk).2 hp
  cases hb : best rs (Pt.parts path) with
  | none => have := best_none.1 hb r0 h0; rw [hf] at this; cases this
  | some q =>
    obtain ⟨_, hfq, hmin⟩ := best_some hb
    have a1 := hmin r0 h0 hf
    have a2 := plain_first hk hf hfq
    have hkq : kinds (pat r0) = kinds q := by
      rcases lex_tri (kinds (pat r0)) (kinds q) with h | h | h
      · rw [h] at a1; cases a1
      · exact h
      · rw [h] at a2; cases a2
    have hsh : shape (pat r0) q = true := kinds_shape hf hfq hkq
    have hz : ∀ k ∈ kinds q, k = 0 := fun k hk' => by
      rw [← hkq] at hk'
      unfold kinds at hk'
      obtain ⟨p, hp', rfl⟩ := List.mem_map.1 hk'
      exact hk p hp'
    cases hs : sel rs q m with
    | none =>
      exfalso
      unfold sel at hs
      cases h1 : byM rs q m with
      | some j => rw [h1] at hs; simp at hs
      | none =>
        rw [h1] at hs
        simp only [Option.none_or] at hs
        have h2 : byM rs q [] = none := by
          cases hq : byM rs q [] with
          | none => rfl
          | some j =>
            rw [hq] at hs
            cases (if m == sHEAD then byM rs q sGET else none) <;> simp at hs
        exact by_none h2 r0 h0 hsh hm
    | some k =>
      refine ⟨q, k, rfl, hs, ?_⟩
      obtain ⟨r, hr, hrs⟩ := sel_some hs
      unfold find
      rw [hb]
      simp only
      rw [hs]
      simp only
      rw [hr]
      simp only [Option.map_some, Option.getD_some]
      rw [plain_caught (fun k hk' => hz k (by rw [← shape_kinds hrs]; exact hk'))]
theorem find_other {rs : List Ro} {m path : T8} {r0 : Ro} (h0 : rs[0]? = some r0) (hk : ∀ p ∈ pat r0, p.k = 0) (h : (find rs m path).ro = 0) : Pt.parts path = (pat r0).map (·.t) := by
  unfold find at h
  cases hb : best rs (Pt.parts path) with
  | none => rw [hb] at h; simp only at h; omega
  | some q =>
    rw [hb] at h
    simp only at h
    cases hs : sel rs q m with
    | none => rw [hs] at h; simp only at h; omega
    | some k =>
      rw [hs] at h
      simp only at h
      obtain rfl : k = 0 := by omega
      obtain ⟨r, hr, hrs⟩ := sel_some hs
      rw [h0] at hr
      injection hr with hr
      subst hr
      obtain ⟨_, hfq, _⟩ := best_some hb
      exact (plain_fits hk).1 (by rw [shape_fits hrs]; exact hfq)
end Rt
end Go.Proofs.YtfdjimjiikeciaaGreatDoor

namespace Go.Proofs.YtfdjimjiikeciaaGreatDoor
namespace Rt
/-! ### parts -/
/-- A part that may be. -/
structure Gp (p : Prt) : Prop where
  k : p.k ≤ 2
  t : p.k = 0 → Gd p.t ∧ (123 : UInt8) ∉ p.t
theorem vis_no123 {s : T8} (h : s.all vis = true) : (123 : UInt8) ∉ s := fun hm => by
  have := List.all_eq_true.1 h 123 hm
  revert this
  decide
theorem prt_vis {s : T8} (h : (prt s).2 = true) (hk : (prt s).1.k = 0) : s.all vis = true := by
  unfold prt at h hk
  split at h
  · rename_i h1
    rw [if_pos h1] at hk
    split at hk
    · simp at hk
    · simp at hk
  · split at h
    · assumption
    · cases h
theorem prt_gp {x : T8} (h47 : (47 : UInt8) ∉ x) (h : (prt x).2 = true) : Gp (prt x).1 :=
  ⟨prt_k x, fun hk => by
    obtain ⟨h1, h2⟩ := prt_plain h hk
    rw [h1]
    exact ⟨⟨h2, h47⟩, vis_no123 (prt_vis h hk)⟩⟩
theorem pattern_gp {s : T8} {ps : List Prt} (h : pattern s = some ps) : ∀ p ∈ ps, Gp p := by
  unfold pattern at h
  split at h
  · injection h with h
    rw [← h]; intro p hp; simp at hp
  · split at h
    · obtain ⟨e, h2, _⟩ := pats_out _ _ _ h
      rw [List.nil_append] at e
      intro p hp
      rw [e] at hp
      obtain ⟨x, hx, rfl⟩ := List.mem_map.1 hp
      exact prt_gp (Pt.cutS_no _ [] (by simp) x hx).1 (h2 x hx)
    · cases h
theorem pat_gp {r : Ro} : ∀ p ∈ pat r, Gp p := by
  unfold pat
  cases h : pattern r.p with
  | none => intro p hp; simp at hp
  | some ps => exact pattern_gp h
/-! ### what a text is as a part, by its ends -/
theorem prt_c0 {l : T8} (h : (l.head? == some 123) = false) : (prt l).2 = (l.all vis && !l.isEmpty) ∧ ((prt l).2 = true → (prt l).1 = ⟨0, l⟩) := by
  unfold prt
  rw [h]
  simp only [Bool.false_and, Bool.and_false, Bool.false_eq_true, if_false]
  cases hv : l.all vis
  · simp
  · simp
theorem prt_c1 {r : T8} (h : (r.getLast? == some 125) = false) : (prt (123 :: r)).2 = false := by
  have h2 : (decide (2 ≤ (123 :: r : T8).length) && ((123 :: r : T8).head? == some 123 && (123 :: r : T8).getLast? == some 125)) = false := by
    cases r with
    | nil => rfl
    | cons a b =>
      rw [List.getLast?_cons_cons, h]
      simp
  unfold prt
  rw [h2]
  have hv : (123 :: r : T8).all vis = false := by rw [List.all_cons]; rfl
  rw [hv]
  rfl
theorem prt_cl {m : T8} : (decide (2 ≤ (123 :: (m ++ [125]) : T8).length) && ((123 :: (m ++ [125]) : T8).head? == some 123 && (123 :: (m ++ [125]) : T8).getLast? == some 125)) = true := by
  have h1 : (123 :: (m ++ [125]) : T8).getLast? = some 125 := by
    rw [show (123 :: (m ++ [125]) : T8) = (123 :: m) ++ [125] from rfl, List.getLast?_append]; rfl
  rw [h1]
  simp
theorem drop4 (m : T8) : (123 :: (m ++ [125]) : T8).drop ((123 :: (m ++ [125]) : T8).length - 4) = (if 3 ≤ m.length then m.drop (m.length - 3) ++ [125] else (123 :: (m ++ [125]) : T8).drop (m.length + 2 - 4)) := by
  have hl : (123 :: (m ++ [125]) : T8).length = m.length + 2 := by simp
  rw [hl]
  split
  · rename_i h
    rw [show m.length + 2 - 4 = (m.length - 3) + 1 by omega, List.drop_succ_cons, List.drop_append_of_le_length (by omega)]
  · rfl
theorem prt_c2 {m : T8} (h : ([46, 46, 46] : T8).isSuffixOf m = false) : prt (123 :: (m ++ [125])) = (⟨1, m⟩, nameB m) := by
  have hl : (123 :: (m ++ [125]) : T8).length = m.length + 2 := by simp
  have h4 : (decide (5 ≤ (123 :: (m ++ [125]) : T8).length) && (123 :: (m ++ [125]) : T8).drop ((123 :: (m ++ [125]) : T8).length - 4) == [46, 46, 46, 125]) = false := by
    rw [Bool.eq_false_iff]
    intro hc
    rw [Bool.and_eq_true, beq_iff_eq, decide_eq_true_eq] at hc
    obtain ⟨h5, h6⟩ := hc
    rw [hl] at h5
    rw [drop4, if_pos (by omega)] at h6
    have h7 : m.drop (m.length - 3) = [46, 46, 46] := by
      have : m.drop (m.length - 3) ++ [125] = [46, 46, 46] ++ [125] := h6
      exact List.append_cancel_right this
    have h8 : ([46, 46, 46] : T8) <:+ m := by rw [← h7]; exact List.drop_suffix _ _
    rw [List.isSuffixOf_iff_suffix.2 h8] at h
    cases h
  unfold prt
  rw [prt_cl, h4, hl]
  simp
theorem prt_c3 {n : T8} : prt (123 :: ((n ++ [46, 46, 46]) ++ [125])) = (⟨2, n⟩, nameB n) := by
  have hl : (123 :: ((n ++ [46, 46, 46]) ++ [125]) : T8).length = n.length + 5 := by simp
  have h4 : (decide (5 ≤ (123 :: ((n ++ [46, 46, 46]) ++ [125]) : T8).length) && (123 :: ((n ++ [46, 46, 46]) ++ [125]) : T8).drop ((123 :: ((n ++ [46, 46, 46]) ++ [125]) : T8).length - 4) == [46, 46, 46, 125]) = true := by
    rw [drop4, if_pos (by simp)]
    simp
  unfold prt
  rw [prt_cl, h4, hl]
  simp
/-! ### a row of parts, as the code goes through it -/
def lastR (out : List Prt) : Bool := out.getLast?.map (·.k) == some 2
def cgo : List Prt → List T8 → Option (List Prt)
  | out, [] => some out
  | out, x :: r => if !(prt x).2 || lastR out then none else cgo (out ++ [(prt x).1]) r
theorem cgo_app : ∀ (xs : List T8) {out ps : List Prt}, cgo out xs = some ps → ps = out ++ xs.map (fun x => (prt x).1) := by
  intro xs
  induction xs with
  | nil => intro out ps h; rw [cgo] at h; injection h with h; rw [← h]; simp
  | cons x r ih =>
    intro out ps h
    rw [cgo] at h
    split at h
    · cases h
    · rw [ih h]; simp
theorem namesU_app (a b : List Prt) : names (a ++ b) = names a ++ names b := by unfold names; rw [List.filter_append, List.map_append]
theorem names_one (p : Prt) : names [p] = if p.k == 0 then [] else [p.t] := by
  unfold names
  cases h : (p.k == 0) <;> simp [h]
theorem dup_mem {out : List Prt} {p : Prt} : dup out p = true ↔ (p.k == 0) = false ∧ p.t ∈ names out := by
  unfold dup names
  rw [List.any_eq_true]
  constructor
  · rintro ⟨q, hq, h⟩
    simp only [Bool.and_eq_true, Bool.not_eq_true', beq_iff_eq] at h
    refine ⟨h.2.1, ?_⟩
    rw [← h.2.2]
    exact List.mem_map.2 ⟨q, List.mem_filter.2 ⟨hq, by rw [h.1]; rfl⟩, rfl⟩
  · rintro ⟨h1, h2⟩
    obtain ⟨q, hq, he⟩ := List.mem_map.1 h2
    obtain ⟨hq1, hq2⟩ := List.mem_filter.1 hq
    exact ⟨q, hq1, by rw [hq2, h1, he]; simp⟩
theorem lastR_app (out : List Prt) (p : Prt) : lastR (out ++ [p]) = (p.k == 2) := by
  unfold lastR
  rw [List.getLast?_append]
  simp
theorem cgo_pats : ∀ (xs : List T8) (out : List Prt), (names out).Nodup → (xs ≠ [] → lastR out = false) → pats out xs = (cgo out xs).bind (fun ps => if (names ps).Nodup then some ps else none) := by
  intro xs
  induction xs with
  | nil => intro out h _; rw [pats, cgo]; simp [h]
  | cons x r ih =>
    intro out h hl
    rw [pats, cgo, hl (by simp), Bool.or_false]
    cases hx : (prt x).2
    · simp
    · cases h2 : ((prt x).1.k == 2 && !r.isEmpty)
      · simp only [Bool.not_true, Bool.or_false, Bool.false_eq_true, if_false]
        cases hd : dup out (prt x).1
        · simp only [Bool.false_eq_true, if_false]
          refine ih (out ++ [(prt x).1]) ?_ (fun hr => ?_)
          · rw [namesU_app, names_one]
            split
            · simpa using h
            · rename_i hk
              rw [List.nodup_append]
              refine ⟨h, by simp, fun a ha b hb hab => ?_⟩
              simp at hb
              subst hb
              rw [hab] at ha
              have := dup_mem.2 ⟨by simpa using hk, ha⟩
              rw [hd] at this
              cases this
          · rw [lastR_app]
            cases r with
            | nil => exact absurd rfl hr
            | cons a b => simpa using h2
        · simp only [if_true]
          obtain ⟨hk, hm⟩ := dup_mem.1 hd
          cases hc : cgo (out ++ [(prt x).1]) r with
          | none => rfl
          | some ps =>
            have := cgo_app _ hc
            have hn : ¬ (names ps).Nodup := fun hn => by
              rw [this, namesU_app, namesU_app, names_one, hk] at hn
              simp only [Bool.false_eq_true, if_false] at hn
              have := (List.nodup_append.1 hn).1
              exact (List.nodup_append.1 this).2.2 _ hm (prt x).1.t (by simp) rfl
            simp [hn]
      · simp only [Bool.not_true, Bool.or_true, if_true, Bool.false_eq_true, if_false]
        rw [Bool.and_eq_true] at h2
        cases r with
        | nil => simp at h2
        | cons a b =>
          rw [cgo, lastR_app, h2.1]
          simp
theorem pattern_cgo {s : T8} : pattern s = if s == [47] then some [] else if s.head? == some 47 then (cgo [] (Pt.cutS [] (s.drop 1))).bind (fun ps => if (names ps).Nodup then some ps else none) else none := by
  unfold pattern
  rw [cgo_pats _ [] (by simp [names]) (fun _ => rfl)]
/-! ### a shape's text -/
def shp (p : Prt) : T8 := if p.k == 0 then p.t else if p.k == 1 then [123, 125] else [123, 46, 46, 46, 125]
def txt (ps : List Prt) : T8 := ps.flatMap (fun p => 47 :: shp p)
theorem shp_gd {p : Prt} (h : Gp p) : Gd (shp p) := by
  unfold shp
  split
  · rename_i hk; exact (h.t (eq_of_beq hk)).1
  · split <;> exact ⟨by simp, by decide⟩
theorem k3 {p : Prt} (h : Gp p) : p.k = 0 ∨ p.k = 1 ∨ p.k = 2 := by have := h.k; omega
theorem shp_alike {p q : Prt} (hp : Gp p) (hq : Gp q) : shp p = shp q ↔ alike p q = true := by
  have n1 : ∀ x : T8, (123 : UInt8) ∉ x → x ≠ [123, 125] ∧ x ≠ [123, 46, 46, 46, 125] := fun x hx => ⟨fun h => hx (by rw [h]; decide), fun h => hx (by rw [h]; decide)⟩
  unfold shp alike
  rcases k3 hp with e | e | e <;> rcases k3 hq with e' | e' | e' <;> rw [e, e'] <;> simp
  · exact (n1 _ (hp.t e).2).1
  · exact (n1 _ (hp.t e).2).2
  · exact fun h => (n1 _ (hq.t e').2).1 h.symm
  · exact fun h => (n1 _ (hq.t e').2).2 h.symm
theorem txt_map (ps : List Prt) : txt ps = (ps.map shp).flatMap (fun x => 47 :: x) := by
  unfold txt
  induction ps with
  | nil => rfl
  | cons p x ih => rw [List.flatMap_cons, ih]; rfl
theorem shape_shp : ∀ {a b : List Prt}, (∀ p ∈ a, Gp p) → (∀ p ∈ b, Gp p) → (a.map shp = b.map shp ↔ shape a b = true) := by
  intro a
  induction a with
  | nil => intro b _ _; cases b with | nil => simp [shape] | cons q y => simp [shape]
  | cons p x ih =>
    intro b ha hb
    cases b with
    | nil => simp [shape]
    | cons q y =>
      rw [shape, Bool.and_eq_true, List.map_cons, List.map_cons, List.cons.injEq, shp_alike (ha p (by simp)) (hb q (by simp)), ih (fun z hz => ha z (List.mem_cons_of_mem _ hz)) (fun z hz => hb z (List.mem_cons_of_mem _ hz))]
theorem txt_shape {a b : List Prt} (ha : ∀ p ∈ a, Gp p) (hb : ∀ p ∈ b, Gp p) : txt a = txt b ↔ shape a b = true := by
  rw [← shape_shp ha hb]
  constructor
  · intro h
    rw [txt_map, txt_map] at h
    have g : ∀ {c : List Prt}, (∀ p ∈ c, Gp p) → ∀ x ∈ c.map shp, Gd x := fun hc x hx => by
      obtain ⟨p, hp, rfl⟩ := List.mem_map.1 hx
      exact shp_gd (hc p hp)
    by_cases ea : a.map shp = []
    · by_cases eb : b.map shp = []
      · rw [ea, eb]
      · rw [ea, Pt.join_flat _ eb] at h
        cases h
    · by_cases eb : b.map shp = []
      · rw [eb, Pt.join_flat _ ea] at h
        cases h
      · rw [Pt.join_flat _ ea, Pt.join_flat _ eb] at h
        injection h with _ h
        exact join_inj (g ha) (g hb) h
  · intro h
    rw [txt_map, txt_map, h]
/-! ### what is caught, without the names -/
def vals (ps : List Prt) (l : List T8) (e : Bool) : List T8 := (caught ps l e).map (·.2)
theorem caught_fst : ∀ {ps : List Prt} {l : List T8} {e : Bool}, (∀ p ∈ ps, p.k ≤ 2) → (caught ps l e).map (·.1) = names ps := by
  intro ps
  induction ps with
  | nil => intro l e _; rfl
  | cons p x ih =>
    intro l e h
    have ihx := ih (l := l.tail) (e := e) (fun q hq => h q (List.mem_cons_of_mem _ hq))
    have e1 : names (p :: x) = names [p] ++ names x := by rw [← namesU_app]; rfl
    rw [caught, e1, names_one, ← ihx]
    have := h p (by simp)
    have hk : p.k = 0 ∨ p.k = 1 ∨ p.k = 2 := by omega
    rcases hk with hk | hk | hk <;> rw [hk] <;> rfl
theorem caught_zip {ps : List Prt} {l : List T8} {e : Bool} (h : ∀ p ∈ ps, p.k ≤ 2) : caught ps l e = (names ps).zip (vals ps l e) := by
  rw [← caught_fst (l := l) (e := e) h, vals]
  generalize caught ps l e = c
  induction c with
  | nil => rfl
  | cons a r ih => rw [List.map_cons, List.map_cons, List.zip_cons_cons, ← ih]
theorem vals_shape : ∀ {a b : List Prt} {l : List T8} {e : Bool}, shape a b = true → vals a l e = vals b l e := by
  intro a
  induction a with
  | nil => intro b l e h; cases b with | nil => rfl | cons q y => cases h
  | cons p x ih =>
    intro b l e h
    cases b with
    | nil => cases h
    | cons q y =>
      rw [shape, Bool.and_eq_true] at h
      have h1 := h.1
      unfold alike at h1
      simp only [Bool.and_eq_true, beq_iff_eq] at h1
      have := ih (l := l.tail) (e := e) h.2
      unfold vals at *
      rw [caught, caught, h1.1]
      split
      · rw [List.map_cons, List.map_cons, this]
      · split
        · rw [List.map_cons, List.map_cons, this]
        · exact this
theorem vals_cons (p : Prt) (x : List Prt) (l : List T8) (e : Bool) : vals (p :: x) l e = (if p.k == 1 then [l.headD []] else if p.k == 2 then [Pt.join l ++ (if !l.isEmpty && e then [47] else [])] else []) ++ vals x l.tail e := by
  unfold vals
  rw [caught]
  split
  · rfl
  · split <;> rfl
/-! ### shapes: one route for each -/
/-- Routes of which each shape has just one. -/
structure Rep (rs reps : List Ro) : Prop where
  sub : ∀ p ∈ reps, p ∈ rs
  cov : ∀ r ∈ rs, ∃ p ∈ reps, shape (pat r) (pat p) = true
  one : reps.Pairwise (fun p q => shape (pat p) (pat q) = false)
theorem best_rep {rs reps : List Ro} {l : List T8} (h : Rep rs reps) : (best rs l = none ∧ best reps l = none) ∨ ∃ q q', best rs l = some q ∧ best reps l = some q' ∧ shape q q' = true := by
  cases hb : best rs l with
  | none => exact .inl ⟨rfl, best_none.2 (fun r hr => best_none.1 hb r (h.sub r hr))⟩
  | some q =>
    right
    obtain ⟨⟨r, hr, hrq⟩, h2, h3⟩ := best_some hb
    obtain ⟨p, hp, hs⟩ := h.cov r hr
    rw [hrq] at hs
    cases h' : best reps l with
    | none =>
      have := best_none.1 h' p hp
      rw [← shape_fits hs, h2] at this; cases this
    | some q' =>
      obtain ⟨⟨r', hr', hrq'⟩, h2', h3'⟩ := best_some h'
      refine ⟨q, q', rfl, rfl, kinds_shape h2 h2' ?_⟩
      have a1 := h3' p hp (by rw [← shape_fits hs]; exact h2)
      have a2 := h3 r' (h.sub r' hr') (by rw [hrq']; exact h2')
      rw [← shape_kinds hs] at a1
      rw [hrq'] at a2
      rcases lex_tri (kinds q) (kinds q') with h4 | h4 | h4
      · rw [h4] at a1; cases a1
      · exact h4
      · rw [h4] at a2; cases a2
theorem byM_shape {rs : List Ro} {q q' : List Prt} (hs : shape q q' = true) (m : T8) : byM rs q m = byM rs q' m := by
  unfold byM
  congr 1
  funext r
  have : shape (pat r) q = shape (pat r) q' := by
    cases h1 : shape (pat r) q
    · cases h2 : shape (pat r) q'
      · rfl
      · rw [shape_trans h2 (shape_symm hs)] at h1; cases h1
    · rw [shape_trans h1 hs]
  rw [this]
theorem sel_shape {rs : List Ro} {q q' : List Prt} (hs : shape q q' = true) (m : T8) : sel rs q m = sel rs q' m := by
  unfold sel
  rw [byM_shape hs m, byM_shape hs sGET, byM_shape hs []]
theorem byM_snoc (ps : List Ro) (r : Ro) (of : List Prt) (m : T8) : byM (ps ++ [r]) of m = (byM ps of m).or (if shape (pat r) of && r.m == m then some ps.length else none) := by
  unfold byM
  rw [List.findIdx?_append]
  congr 1
  simp only [List.findIdx?_cons, List.findIdx?_nil]
  split <;> simp
/-- Find, out of the shapes. -/
theorem find_rep {rs reps : List Ro} (h : Rep rs reps) (m path : T8) : find rs m path = match best reps (Pt.parts path) with
    | none => ⟨404, -1, [], []⟩
    | some q => match sel rs q m with
      | some k => ⟨200, k, (names ((rs[k]?.map pat).getD [])).zip (vals q (Pt.parts path) (ends path)), []⟩
      | none => ⟨if m == sOPT then 200 else 405, -1, [], allow rs q⟩ := by
  unfold find
  rcases best_rep (l := Pt.parts path) h with ⟨h1, h2⟩ | ⟨q, q', h1, h2, hs⟩
  · rw [h1, h2]
  · rw [h1, h2]
    simp only
    rw [← sel_shape hs m]
    cases hk : sel rs q m with
    | none => simp only; rw [allow_same (fun _ => Iff.rfl) hs]
    | some k =>
      obtain ⟨r, hr, hrs⟩ := sel_some hk
      simp only
      rw [hr]
      simp only [Option.map_some, Option.getD_some]
      rw [caught_zip (fun p hp => (pat_gp p hp).k), vals_shape (shape_trans hrs hs)]
end Rt
end Go.Proofs.YtfdjimjiikeciaaGreatDoor

namespace Go.Proofs.YtfdjimjiikeciaaGreatDoor
namespace Rt
theorem le_lt {x y : T8} (h : x ≤ y) (hn : x ≠ y) : x < y := by
  rcases lt_or x y with h1 | h1 | h1
  · exact h1
  · exact absurd h1 hn
  · exact absurd h1 (List.not_lt.2 h)
theorem lt_le {x y z : T8} (h : x ≤ y) (h2 : y < z) : x < z := by
  rcases lt_or x y with h1 | h1 | h1
  · exact lt_tr h1 h2
  · rw [h1]; exact h2
  · exact absurd h1 (List.not_lt.2 h)
theorem comp_up {l : List T8} (hs : l.Pairwise (fun x y => x ≤ y)) : ∀ m, m ≤ l.length → Rise (Lib.compactUpTo l.toArray m) ∧ ∀ x, x ∈ Lib.compactUpTo l.toArray m ↔ x ∈ l.take m := by
  intro m
  induction m with
  | zero => intro _; exact ⟨by unfold Rise Lib.compactUpTo; simp, fun x => by simp [Lib.compactUpTo]⟩
  | succ m ih =>
    intro hm
    obtain ⟨h1, h2⟩ := ih (by omega)
    have hlt : m < l.length := by omega
    have hd : l.toArray[m]! = l[m] := by simp [hlt]
    have hp := List.pairwise_iff_getElem.1 hs
    rw [Lib.compactUpTo_succ, hd, List.take_add_one, List.getElem?_eq_getElem hlt]
    cases hk : Lib.keeps l.toArray m
    · have hk2 : ¬ (m = 0 ∨ l.toArray[m]! ≠ l.toArray[m - 1]!) := by
        unfold Lib.keeps at hk
        exact of_decide_eq_false hk
      have h0 : m ≠ 0 := fun e => hk2 (.inl e)
      have he : l[m] = l[m - 1]'(by omega) := by
        have h3 : l.toArray[m - 1]! = l[m - 1]'(by omega) := by simp [show m - 1 < l.length by omega]
        by_cases e : l.toArray[m]! = l.toArray[m - 1]!
        · rw [hd, h3] at e; exact e
        · exact absurd (.inr e) hk2
      refine ⟨by simpa using h1, fun x => ?_⟩
      simp only [Bool.false_eq_true, if_false, List.append_nil, Option.toList_some, List.mem_append, List.mem_singleton]
      rw [h2]
      constructor
      · exact .inl
      · rintro (h | h)
        · exact h
        · rw [h, he]
          exact List.mem_take_iff_getElem.2 ⟨m - 1, by omega, rfl⟩
    · refine ⟨?_, fun x => ?_⟩
      · unfold Rise
        simp only [if_true]
        rw [List.pairwise_append]
        refine ⟨h1, by simp, fun x hx y hy => ?_⟩
        simp at hy
        subst hy
        obtain ⟨j, hj, rfl⟩ := List.mem_take_iff_getElem.1 ((h2 x).1 hx)
        have hjm : j < m := by omega
        have hk2 : l.toArray[m]! ≠ l.toArray[m - 1]! := by
          unfold Lib.keeps at hk
          rcases of_decide_eq_true hk with h | h
          · omega
          · exact h
        have h3 : l.toArray[m - 1]! = l[m - 1]'(by omega) := by simp [show m - 1 < l.length by omega]
        rw [hd, h3] at hk2
        have h4 : l[m - 1]'(by omega) < l[m] := le_lt (hp (m - 1) m (by omega) hlt (by omega)) (fun e => hk2 e.symm)
        by_cases e : j = m - 1
        · subst e; exact h4
        · exact lt_le (hp j (m - 1) (by omega) (by omega) (by omega)) h4
      · simp only [if_true, List.mem_append, List.mem_singleton, Option.toList_some]
        rw [h2]
theorem comp_rise {l : List T8} (hs : l.Pairwise (fun x y => x ≤ y)) : Rise (Lib.compact l) ∧ ∀ x, x ∈ Lib.compact l ↔ x ∈ l := by
  have := comp_up hs l.length (Nat.le_refl _)
  rw [List.take_length] at this
  exact this
theorem rise_nodup {l : List T8} (h : Rise l) : l.Nodup := by
  unfold Rise at h
  exact h.imp (fun {a b} hab e => by rw [e] at hab; exact lt_irr _ hab)
theorem comp_len {l : List T8} (hs : l.Pairwise (fun x y => x ≤ y)) : decide ((Lib.compact l).length < l.length) = !decide l.Nodup := by
  have key : (Lib.compact l).length < l.length ↔ ¬ l.Nodup := by
    constructor
    · intro h hn
      rw [Lib.compact_all l (fun j hj => ?_)] at h
      · omega
      · unfold Lib.keeps
        by_cases h0 : j = 0
        · exact decide_eq_true (.inl h0)
        · refine decide_eq_true (.inr (fun e => ?_))
          have e1 : l.toArray[j]! = l[j] := by simp [hj]
          have e2 : l.toArray[j - 1]! = l[j - 1]'(by omega) := by simp [show j - 1 < l.length by omega]
          rw [e1, e2] at e
          have := List.pairwise_iff_getElem.1 hn (j - 1) j (by omega) hj (by omega)
          exact this e.symm
    · intro hn
      have hle := Lib.compact_length_le l
      rcases Nat.lt_or_ge (Lib.compact l).length l.length with h | h
      · exact h
      · exfalso
        have he : ((List.range l.length).filter (Lib.keeps l.toArray)).length = (List.range l.length).length := by
          have : (Lib.compact l).length = ((List.range l.length).filter (Lib.keeps l.toArray)).length := by unfold Lib.compact Lib.compactUpTo; rw [List.length_map]
          rw [← this, List.length_range]; omega
        have hall := List.length_filter_eq_length_iff.1 he
        have hc := Lib.compact_all l (fun j hj => hall j (List.mem_range.2 hj))
        have := (comp_rise hs).1
        rw [hc] at this
        exact hn (rise_nodup this)
  by_cases h : l.Nodup
  · rw [decide_eq_true h, decide_eq_false (fun hc => key.1 hc h)]; rfl
  · rw [decide_eq_false h, decide_eq_true (key.2 h)]; rfl
theorem sort_le (l : List T8) : (l.mergeSort (fun x y => decide (x ≤ y))).Pairwise (fun x y => x ≤ y) := by
  have := List.pairwise_mergeSort (le := fun x y : T8 => decide (x ≤ y)) (fun a b c h1 h2 => decide_eq_true (List.le_trans (of_decide_eq_true h1) (of_decide_eq_true h2))) (fun a b => by
    rw [Bool.or_eq_true, decide_eq_true_eq, decide_eq_true_eq]
    exact List.le_total a b) l
  exact this.imp (fun h => of_decide_eq_true h)
theorem sort_perm (l : List T8) : (l.mergeSort (fun x y => decide (x ≤ y))).Perm l := List.mergeSort_perm _ _
theorem rep_names (l : List T8) : decide ((Lib.compact (l.mergeSort (fun x y => decide (x ≤ y)))).length < l.length) = !decide l.Nodup := by
  have h := comp_len (sort_le l)
  rw [(sort_perm l).length_eq] at h
  rw [h]
  congr 1
  rw [Bool.eq_iff_iff, decide_eq_true_eq, decide_eq_true_eq]
  exact (sort_perm l).nodup_iff
end Rt
end Go.Proofs.YtfdjimjiikeciaaGreatDoor
