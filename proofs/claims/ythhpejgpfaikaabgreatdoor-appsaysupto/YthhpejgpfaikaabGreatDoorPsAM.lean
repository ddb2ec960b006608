/-
  What the row stands on.
-/
import Derived.Test.YthhpejgpfaikaabGreatDoorPsAA
import Derived.Test.YthhpejgpfaikaabGreatDoorPsAC
import Derived.Test.YthhpejgpfaikaabGreatDoorPsAG
import Derived.Test.YthhpejgpfaikaabGreatDoorPsAH
import Derived.Test.YthhpejgpfaikaabGreatDoorPsAK
import Derived.Test.YthhpejgpfaikaabGreatDoorPsAL
import Derived.Lib.Strings
namespace Go.Proofs.YthhpejgpfaikaabGreatDoor
set_option maxHeartbeats 64000000
namespace Pt
abbrev T8 := List UInt8
def pre (l : T8) : T8 := l.takeWhile (fun c => !(c == 63))
def qry (l : T8) : T8 := l.drop ((pre l).length + 1)
def hx (c : UInt8) : Int := Tx.dgr (c.toNat : Int)
theorem hx_le (c : UInt8) : hx c ≤ 15 := by
 unfold hx Tx.dgr Tx.digC;simp only [Bool.and_eq_true, decide_eq_true_eq]
 repeat' split
 all_goals omega
def okb (n : Int) : Bool := !decide (n < 32) && (!(n == 127) && !(n == 47))
def byt (a b : UInt8) : Int := 16 * hx a + hx b
def undo : T8 → Option T8
 | [] => some []
 | [c] => if c == 37 then none else some [c]
 | [c, d] => if c == 37 then none else if d == 37 then none else some [c, d]
 | c :: a :: b :: t => if c == 37 then (if decide (0 ≤ hx a) && (decide (0 ≤ hx b) && okb (byt a b)) then (undo t).map (fun r => UInt8.ofNat (byt a b).toNat :: r) else none) else (undo (a :: b :: t)).map (fun r => c :: r)
def cutS : T8 → T8 → List T8
 | cur, [] => [cur]
 | cur, c :: r => if c == 47 then cur :: cutS [] r else cutS (cur ++ [c]) r
def parts (l : T8) : List T8 := (cutS [] l).filter (fun p => !p.isEmpty)
def dot : T8 := [46]
def dots : T8 := [46, 46]
def step (k : List T8) (p : T8) : Option (List T8) := if p == dots then (if k.isEmpty then none else some k.dropLast) else if p.isEmpty || p == dot then some k else some (k ++ [p])
def keep : List T8 → List T8 → Option (List T8)
 | k, [] => some k
 | k, p :: r => match step k p with | none => none | some k' => keep k' r
def join : List T8 → T8
 | [] => []
 | [p] => p
 | p :: q :: r => p ++ 47 :: join (q :: r)
def isLast (p : T8) : Bool := p.isEmpty || (p == dot || p == dots)
def out (k : List T8) (last : T8) : T8 := 47 :: (join k ++ (if !k.isEmpty && isLast last then [47] else []))
def lastOf (l : List T8) : T8 := l.getLast?.getD []
def core (p : T8) : T8 × Int :=
 if p.head? == some 47 then
  match undo p with
  | none => ([], 170)
  | some s => match keep [] (cutS [] s) with
   | none => ([], 171)
   | some k => (out k (lastOf (cutS [] s)), 0)
 else ([], 1)
def clean (l : T8) : T8 × T8 × Int := ((core (pre l)).1, (if (core (pre l)).2 == 0 then qry l else []), (core (pre l)).2)
def plain (c : UInt8) : Bool := (decide (97 ≤ c.toNat) && decide (c.toNat ≤ 122)) || (decide (65 ≤ c.toNat) && decide (c.toNat ≤ 90)) || (decide (48 ≤ c.toNat) && decide (c.toNat ≤ 57)) || c == 45 || c == 46 || c == 95 || c == 126 || c == 47
def hd16 (n : Nat) : UInt8 := UInt8.ofNat (if n < 10 then 48 + n else 55 + n)
def esc1 (c : UInt8) : T8 := if plain c then [c] else [37, hd16 (c.toNat / 16), hd16 (c.toNat % 16)]
def esc (l : T8) : T8 := l.flatMap esc1

def good (p : T8) : Prop := p ≠ [] ∧ p ≠ dot ∧ p ≠ dots ∧ 47 ∉ p
theorem cutS_ne : ∀ (l cur : T8), cutS cur l ≠ [] := by
 intro l
 induction l with
 | nil => intro cur; simp [cutS]
 | cons c r ih =>
  intro cur;rw [cutS];split
  ·simp
  ·exact ih _
theorem cutS_no : ∀ (l cur : T8), 47 ∉ cur → ∀ p ∈ cutS cur l, 47 ∉ p ∧ ∀ c ∈ p, c ∈ cur ∨ c ∈ l := by
 intro l
 induction l with
 | nil =>
  intro cur h p hp;simp only [cutS, List.mem_singleton] at hp;subst hp;exact ⟨h, fun c hc => .inl hc⟩
 | cons a r ih =>
  intro cur h p hp;rw [cutS] at hp;split at hp
  ·rcases List.mem_cons.1 hp with rfl | hp
   ·exact ⟨h, fun c hc => .inl hc⟩
   ·obtain ⟨h1, h2⟩ := ih [] (by simp) p hp;refine ⟨h1, fun c hc => ?_⟩;rcases h2 c hc with h3 | h3
    ·simp at h3
    ·exact .inr (List.mem_cons_of_mem _ h3)
  ·rename_i ha;have ha' : a ≠ 47 := by simpa using ha
   obtain ⟨h1, h2⟩ := ih (cur ++ [a]) (by simp; exact ⟨h, fun e => ha' e.symm⟩) p hp;refine ⟨h1, fun c hc => ?_⟩;rcases h2 c hc with h3 | h3
   ·rcases List.mem_append.1 h3 with h3 | h3
    ·exact .inl h3
    ·exact .inr (by simp at h3; simp [h3])
   ·exact .inr (List.mem_cons_of_mem _ h3)
theorem keep_good : ∀ (ps k k' : List T8), (∀ p ∈ ps, 47 ∉ p) → (∀ p ∈ k, good p) → keep k ps = some k' → (∀ p ∈ k', good p) ∧ ∀ p ∈ k', p ∈ k ∨ p ∈ ps := by
 intro ps
 induction ps with
 | nil =>
  intro k k' _ hk h;simp only [keep, Option.some.injEq] at h;subst h;exact ⟨hk, fun p hp => .inl hp⟩
 | cons p r ih =>
  intro k k' hps hk h;rw [keep] at h;cases hs : step k p with
  | none => rw [hs] at h; cases h
  | some k1 =>
   rw [hs] at h;have h1 : (∀ q ∈ k1, good q) ∧ ∀ q ∈ k1, q ∈ k ∨ q = p := by
    unfold step at hs;split at hs
    ·split at hs
     ·cases hs
     ·injection hs with hs;subst hs;exact ⟨fun q hq => hk q ((List.dropLast_sublist _).subset hq), fun q hq => .inl ((List.dropLast_sublist _).subset hq)⟩
    ·rename_i h2;split at hs
     ·injection hs with hs;subst hs;exact ⟨hk, fun q hq => .inl hq⟩
     ·rename_i h3;injection hs with hs;subst hs;simp only [Bool.or_eq_true, not_or] at h3;have hg : good p := ⟨fun e => h3.1 (by rw [e]; rfl), fun e => h3.2 (by rw [e]; rfl), fun e => h2 (by rw [e]; rfl), hps p (by simp)⟩;refine ⟨fun q hq => ?_, fun q hq => ?_⟩
      ·rcases List.mem_append.1 hq with hq | hq
       ·exact hk q hq
       ·simp at hq; rw [hq]; exact hg
      ·rcases List.mem_append.1 hq with hq | hq
       ·exact .inl hq
       ·simp at hq; exact .inr hq
   obtain ⟨h4, h5⟩ := ih k1 k' (fun q hq => hps q (List.mem_cons_of_mem _ hq)) h1.1 h;refine ⟨h4, fun q hq => ?_⟩;rcases h5 q hq with h6 | h6
   ·rcases h1.2 q h6 with h7 | h7
    ·exact .inl h7
    ·exact .inr (by rw [h7]; simp)
   ·exact .inr (List.mem_cons_of_mem _ h6)
theorem core_ok {l p : T8} (h : core l = (p, 0)) : ∃ (s : T8) (k : List T8) (t : Bool), undo l = some s ∧ (∀ x ∈ k, good x ∧ ∀ c ∈ x, c ∈ s) ∧ (t = true → k ≠ []) ∧ p = 47 :: (join k ++ if t then [47] else []) := by
 unfold core at h;split at h
 ·cases hu : undo l with
  | none => rw [hu] at h; simp at h
  | some s =>
   rw [hu] at h;simp only at h;cases hk : keep [] (cutS [] s) with
   | none => rw [hk] at h; simp at h
   | some k =>
    rw [hk] at h;simp only [Prod.mk.injEq, and_true] at h;have hn := cutS_no s [] (by simp);obtain ⟨hg1, hg2⟩ := keep_good (cutS [] s) [] k (fun x hx => (hn x hx).1) (by simp) hk;refine ⟨s, k, !k.isEmpty && isLast (lastOf (cutS [] s)), rfl, fun x hx => ⟨hg1 x hx, fun c hc => ?_⟩, fun ht e => ?_, ?_⟩
    ·rcases hg2 x hx with h3 | h3
     ·simp at h3
     ·rcases (hn x h3).2 c hc with h4 | h4
      ·simp at h4
      ·exact h4
    ·rw [e] at ht; cases ht
    ·rw [← h]; rfl
 ·simp at h
theorem cutS_app : ∀ (x cur r : T8), 47 ∉ x → cutS cur (x ++ r) = cutS (cur ++ x) r := by
 intro x
 induction x with
 | nil => intro cur r _; simp
 | cons a b ih =>
  intro cur r h;have ha : (a == 47) = false := beq_false_of_ne (fun e => h (by rw [e]; simp));rw [List.cons_append, cutS, ha];simp only [Bool.false_eq_true, if_false];rw [ih _ _ (fun e => h (List.mem_cons_of_mem _ e))];simp
theorem cutS_join : ∀ (k : List T8) (r : T8), k ≠ [] → (∀ x ∈ k, 47 ∉ x) → cutS [] (join k ++ 47 :: r) = k ++ cutS [] r := by
 intro k
 induction k with
 | nil => intro r h; exact absurd rfl h
 | cons p k ih =>
  intro r _ h;cases k with
  | nil =>
   rw [join, cutS_app p [] _ (h p (by simp)), List.nil_append, cutS];rfl
  | cons q k =>
   rw [join, List.append_assoc, cutS_app p [] _ (h p (by simp)), List.nil_append, List.cons_append, cutS];simp only [beq_self_eq_true, if_true];rw [ih r (by simp) (fun x hx => h x (List.mem_cons_of_mem _ hx))];rfl
theorem cutS_join0 : ∀ (k : List T8), k ≠ [] → (∀ x ∈ k, 47 ∉ x) → cutS [] (join k) = k := by
 intro k
 induction k with
 | nil => intro h; exact absurd rfl h
 | cons p k ih =>
  intro _ h;cases k with
  | nil =>
   have := cutS_app p [] [] (h p (by simp));rw [List.append_nil, List.nil_append] at this;rw [join, this, cutS]
  | cons q k =>
   rw [join, cutS_app p [] _ (h p (by simp)), List.nil_append, cutS];simp only [beq_self_eq_true, if_true];rw [ih (by simp) (fun x hx => h x (List.mem_cons_of_mem _ hx))]
theorem cut_clean {k : List T8} {t : Bool} (h : ∀ x ∈ k, good x) (ht : t = true → k ≠ []) : cutS [] (47 :: (join k ++ if t then [47] else [])) = [] :: (if k.isEmpty then [[]] else k ++ if t then [[]] else []) := by
 rw [cutS];simp only [beq_self_eq_true, if_true];congr 1;have hn : ∀ x ∈ k, 47 ∉ x := fun x hx => (h x hx).2.2.2;cases t
 ·simp only [Bool.false_eq_true, if_false, List.append_nil];cases k with
  | nil => rfl
  | cons a b => rw [cutS_join0 _ (by simp) hn]; rfl
 ·simp only [if_true];have hne := ht rfl;rw [cutS_join k [] hne hn];cases k with
  | nil => exact absurd rfl hne
  | cons a b => rfl
theorem step_good {k : List T8} {p : T8} (h : good p) : step k p = some (k ++ [p]) := by
 unfold step;have h1 : (p == dots) = false := beq_false_of_ne h.2.2.1;have h2 : p.isEmpty = false := by cases p with | nil => exact absurd rfl h.1 | cons a b => rfl
 have h3 : (p == dot) = false := beq_false_of_ne h.2.1;rw [h1, h2, h3]; rfl
theorem keep_self : ∀ (ps k r : List T8), (∀ p ∈ ps, good p) → keep k (ps ++ r) = keep (k ++ ps) r := by
 intro ps
 induction ps with
 | nil => intro k r _; simp
 | cons p ps ih =>
  intro k r h;rw [List.cons_append, keep, step_good (h p (by simp))];simp only;rw [ih (k ++ [p]) r (fun q hq => h q (List.mem_cons_of_mem _ hq))];simp
theorem keep_empty (k r : List T8) : keep k ([] :: r) = keep k r := by rw [keep]; rfl
theorem keep_clean {k : List T8} {t : Bool} (h : ∀ x ∈ k, good x) : keep [] ([] :: (if k.isEmpty then [[]] else k ++ if t then [[]] else [])) = some k := by
 rw [keep_empty];cases k with
 | nil => rfl
 | cons a b =>
  simp only [List.isEmpty_cons, Bool.false_eq_true, if_false];cases t
  ·simp only [Bool.false_eq_true, if_false];rw [keep_self (a :: b) [] [] h];rfl
  ·simp only [if_true];rw [keep_self (a :: b) [] [[]] h, keep_empty];rfl
theorem last_clean {k : List T8} {t : Bool} (h : ∀ x ∈ k, good x) (ht : t = true → k ≠ []) : (!k.isEmpty && isLast (lastOf ([] :: (if k.isEmpty then [[]] else k ++ if t then [[]] else [])))) = t := by
 cases k with
 | nil =>
  cases t
  ·rfl
  ·exact absurd rfl (ht rfl)
 | cons a b =>
  simp only [List.isEmpty_cons, Bool.not_false, Bool.true_and, Bool.false_eq_true, if_false];cases t
  ·simp only [Bool.false_eq_true, if_false, List.append_nil];have hm : lastOf ([] :: a :: b) ∈ a :: b := by
    unfold lastOf;rw [List.getLast?_cons_cons, List.getLast?_eq_some_getLast (List.cons_ne_nil a b)];exact List.getLast_mem _
   have hg := h _ hm;unfold isLast;have h2 : (lastOf ([] :: a :: b)).isEmpty = false := by
    cases hq : lastOf ([] :: a :: b) with
    | nil => exact absurd hq hg.1
    | cons c d => rfl
   rw [h2, beq_false_of_ne hg.2.1, beq_false_of_ne hg.2.2.1];rfl
  ·simp only [if_true];have e : lastOf ([] :: (a :: b ++ [[]])) = [] := by
    unfold lastOf;rw [show [] :: (a :: b ++ [[]]) = ([] :: a :: b) ++ [[]] by simp, List.getLast?_append];rfl
   rw [e]; rfl
theorem core_again {l : T8} {k : List T8} {t : Bool} (h : ∀ x ∈ k, good x) (ht : t = true → k ≠ []) (hp : l.head? = some 47) (hu : undo l = some (47 :: (join k ++ if t then [47] else []))) : core l = (47 :: (join k ++ if t then [47] else []), 0) := by
 unfold core;rw [hp, beq_self_eq_true, if_pos rfl, hu];simp only;rw [cut_clean h ht, keep_clean h];simp only;unfold out;rw [last_clean h ht]
theorem join_flat : ∀ (k : List T8), k ≠ [] → k.flatMap (fun p => 47 :: p) = 47 :: join k := by
 intro k
 induction k with
 | nil => intro h; exact absurd rfl h
 | cons p k ih =>
  intro _;cases k with
  | nil => simp [join]
  | cons q k => rw [List.flatMap_cons, ih (by simp), join]; rfl
theorem pre_none {l : T8} (h : 63 ∉ l) : pre l = l ∧ qry l = [] := by
 have e : pre l = l := by
  unfold pre
  induction l with
  | nil => rfl
  | cons a b ih =>
   have : (a == 63) = false := beq_false_of_ne (fun e => h (by rw [e]; simp));rw [List.takeWhile_cons, this];simp only [Bool.not_false, if_true];rw [ih (fun e => h (List.mem_cons_of_mem _ e))]
 refine ⟨e, ?_⟩;unfold qry;rw [e, List.drop_eq_nil_of_le (by omega)]
theorem undo_plain {c : UInt8} (h : (c == 37) = false) (r : T8) : undo (c :: r) = (undo r).map (fun x => c :: x) := by
 match r with
 | [] => simp [undo, h]
 | [d] =>
  cases hd : (d == 37)
  ·simp [undo, h, hd]
  ·simp [undo, h, hd]
 | a :: b :: t => rw [undo, h]; rfl
theorem undo_esc {a b : UInt8} {t : T8} (h : (decide (0 ≤ hx a) && (decide (0 ≤ hx b) && okb (byt a b))) = true) : undo (37 :: a :: b :: t) = (undo t).map (fun r => UInt8.ofNat (byt a b).toNat :: r) := by
 rw [undo, if_pos (by decide), if_pos h]
theorem undo_bad {a b : UInt8} {t : T8} (h : (decide (0 ≤ hx a) && (decide (0 ≤ hx b) && okb (byt a b))) = false) : undo (37 :: a :: b :: t) = none := by
 rw [undo, if_pos (by decide), h]; rfl
theorem undo_short {t : T8} (h : t.length < 2) : undo (37 :: t) = none := by
 match t with
 | [] => rfl
 | [d] => rfl
 | a :: b :: r => simp at h; omega
theorem hx_hd {n : Nat} (h : n < 16) : hx (hd16 n) = n := by
 have : ∀ n : Fin 16, hx (hd16 n.val) = (n.val : Int) := by decide
 exact this ⟨n, h⟩
theorem hd_ne {n : Nat} (h : n < 16) : hd16 n ≠ 63 ∧ hd16 n ≠ 37 := by
 have : ∀ n : Fin 16, hd16 n.val ≠ 63 ∧ hd16 n.val ≠ 37 := by decide
 exact this ⟨n, h⟩
theorem plain_ne {c : UInt8} (h : plain c = true) : c ≠ 63 ∧ c ≠ 37 := by
 constructor <;> (intro e; rw [e] at h; revert h; decide)
theorem esc1_undo {c : UInt8} (h1 : ¬ c.toNat < 32) (h2 : c ≠ 127) (t : T8) : undo (esc1 c ++ t) = (undo t).map (fun r => c :: r) := by
 unfold esc1;cases hp : plain c
 ·simp only [Bool.false_eq_true, if_false, List.cons_append, List.nil_append];have hc := c.toNat_lt;have e1 := hx_hd (n := c.toNat / 16) (by omega);have e2 := hx_hd (n := c.toNat % 16) (by omega);have e3 : byt (hd16 (c.toNat / 16)) (hd16 (c.toNat % 16)) = (c.toNat : Int) := by unfold byt; rw [e1, e2]; omega
  have h47 : c ≠ 47 := fun e => by rw [e] at hp; revert hp; decide
  rw [undo_esc]
  ·rw [e3, Int.toNat_natCast, UInt8.ofNat_toNat]
  ·rw [e1, e2, e3];unfold okb;have n1 : ¬ c.toNat = 127 := fun e => h2 (UInt8.toNat_inj.1 (by simpa using e));have n2 : ¬ c.toNat = 47 := fun e => h47 (UInt8.toNat_inj.1 (by simpa using e));simp only [Bool.and_eq_true, decide_eq_true_iff, Bool.not_eq_true', decide_eq_false_iff_not, beq_eq_false_iff_ne];omega
 ·simp only [if_true, List.cons_append, List.nil_append];exact undo_plain (beq_false_of_ne (plain_ne hp).2) t
theorem esc_undo : ∀ (p : T8), (∀ c ∈ p, ¬ c.toNat < 32 ∧ c ≠ 127) → undo (esc p) = some p := by
 intro p
 induction p with
 | nil => intro _; rfl
 | cons c r ih =>
  intro h;have hc := h c (by simp);rw [show esc (c :: r) = esc1 c ++ esc r from rfl, esc1_undo hc.1 hc.2, ih (fun d hd => h d (List.mem_cons_of_mem _ hd))];rfl
theorem esc_no63 (p : T8) : 63 ∉ esc p := by
 intro hm;unfold esc at hm;obtain ⟨c, _, hc⟩ := List.mem_flatMap.1 hm;unfold esc1 at hc;split at hc
 ·rename_i h;simp at hc;exact (plain_ne h).1 hc.symm
 ·have hl := c.toNat_lt;simp only [List.mem_cons, List.not_mem_nil, or_false] at hc;rcases hc with hc | hc | hc
  ·exact absurd hc (by decide)
  ·exact (hd_ne (n := c.toNat / 16) (by omega)).1 hc.symm
  ·exact (hd_ne (n := c.toNat % 16) (by omega)).1 hc.symm
theorem back {l p : T8} (h : core l = (p, 0)) (hb : ∀ c ∈ p, ¬ c.toNat < 32 ∧ c ≠ 127) : clean (esc p) = (p, [], 0) := by
 obtain ⟨s, k, t, _, hk, ht, hp⟩ := core_ok h;have h1 := pre_none (esc_no63 p);have hc : core (esc p) = (p, 0) := by
  have := core_again (l := esc p) (k := k) (t := t) (fun x hx => (hk x hx).1) ht (by rw [hp]; rfl) (by rw [esc_undo p hb, hp]);rw [this, hp]
 unfold clean;rw [h1.1, h1.2, hc];rfl
end Pt

namespace Fs
abbrev T8 := List UInt8
def str (l : T8) : ByteArray := ⟨l.toArray⟩
structure Rp where
 s : Int
 fs : List Fd
 b : T8
def nET : T8 := [101, 116, 97, 103]
def nLM : T8 := [108, 97, 115, 116, 45, 109, 111, 100, 105, 102, 105, 101, 100]
def nAR : T8 := [97, 99, 99, 101, 112, 116, 45, 114, 97, 110, 103, 101, 115]
def nCR : T8 := [99, 111, 110, 116, 101, 110, 116, 45, 114, 97, 110, 103, 101]
def nCT : T8 := [99, 111, 110, 116, 101, 110, 116, 45, 116, 121, 112, 101]
def nLO : T8 := [108, 111, 99, 97, 116, 105, 111, 110]
def nAL : T8 := [97, 108, 108, 111, 119]
def nRG : T8 := [114, 97, 110, 103, 101]
def vAL : T8 := [71, 69, 84, 44, 32, 72, 69, 65, 68, 44, 32, 79, 80, 84, 73, 79, 78, 83]
def vBY : T8 := [98, 121, 116, 101, 115]
def vMP : T8 := [109, 117, 108, 116, 105, 112, 97, 114, 116, 47, 98, 121, 116, 101, 114, 97, 110, 103, 101, 115, 59, 32, 98, 111, 117, 110, 100, 97, 114, 121, 61]
def vIX : T8 := [105, 110, 100, 101, 120, 46, 104, 116, 109, 108]
def mGET : T8 := [71, 69, 84]
def mHEAD : T8 := [72, 69, 65, 68]
def fd (n v : T8) : Fd := ⟨str n, str v⟩
def kinds : List (T8 × T8) := [
 ([46, 104, 116, 109, 108], [116, 101, 120, 116, 47, 104, 116, 109, 108]),
 ([46, 116, 120, 116], [116, 101, 120, 116, 47, 112, 108, 97, 105, 110]),
 ([46, 99, 115, 115], [116, 101, 120, 116, 47, 99, 115, 115]),
 ([46, 106, 115], [116, 101, 120, 116, 47, 106, 97, 118, 97, 115, 99, 114, 105, 112, 116]),
 ([46, 106, 115, 111, 110], [97, 112, 112, 108, 105, 99, 97, 116, 105, 111, 110, 47, 106, 115, 111, 110]),
 ([46, 112, 110, 103], [105, 109, 97, 103, 101, 47, 112, 110, 103])]
def vOC : T8 := [97, 112, 112, 108, 105, 99, 97, 116, 105, 111, 110, 47, 111, 99, 116, 101, 116, 45, 115, 116, 114, 101, 97, 109]
def kind (p : T8) : T8 := ((kinds.find? (fun k => Lib.hasSuffix p k.1)).map (·.2)).getD vOC
def fmt (t : Int) : T8 := Dt.fmtC t
def line (x : T8) : T8 := Rg.line (((List.range (x.length + 1)).find? (fun q => !Rg.stands (Rg.line q) x)).getD 0)
theorem line_ex (x : T8) : ∃ q, Rg.IsFree x q ∧ line x = Rg.line q := by
 obtain ⟨q, h1, h2, h3⟩ := Rg.free_ex x;refine ⟨q, ⟨h1, h2, h3⟩, ?_⟩;unfold line;rw [List.find?_range_eq_some.2 ⟨by rw [h1]; rfl, List.mem_range.2 (by omega), fun j hj => by rw [h2 j hj]; rfl⟩];rfl
def plain (s : Int) (l : List Fd) : Rp := ⟨s, fT :: l, bd s⟩
def folder (rest : T8) : Bool := rest.isEmpty || Lib.hasSuffix rest [47]
def name (root rest : T8) : T8 := (root ++ 47 :: rest) ++ (if folder rest then vIX else [])
def head (kd : T8) (e : Dk.En) : List Fd := [fd nCT kd, fd nET (Tg.mk e.seq e.body.size), fd nLM (fmt e.time), fd nAR vBY]
def whole (kd : T8) (e : Dk.En) : Rp := ⟨200, head kd e, e.body.data.toList⟩
def one (kd : T8) (e : Dk.En) (r : Rg.Rn) : Rp := ⟨206, head kd e ++ [fd nCR (Rg.told r e.body.size)], (e.body.data.toList.take (r.b + 1).toNat).drop r.a.toNat⟩
def sev (kd : T8) (e : Dk.En) (rs : List Rg.Rn) : Rp := ⟨206, head (vMP ++ line e.body.data.toList) e, Rg.partsS e.body.data.toList kd (line e.body.data.toList) rs⟩
def rgd (kd : T8) (e : Dk.En) (v : T8) : Rp :=
 if Rg.err v e.body.size == 161 then plain 416 [fd nCR (Rg.unmet e.body.size)]
 else if Rg.err v e.body.size == 0 then
  (match Rg.res v e.body.size with
  | [r] => one kd e r
  | rs => sev kd e rs)
 else whole kd e
def part (kd : T8) (e : Dk.En) (get : Bool) (l : List Fd) : Rp :=
 match (if get && Tg.sam l (Tg.mk e.seq e.body.size) e.time then Tg.vals l nRG else []) with
 | [v] => rgd kd e v
 | _ => whole kd e
def ansOf (p : T8) (f : Option Dk.En) (below : Bool) (method target rest : T8) (l : List Fd) : Rp :=
 if method == mGET || method == mHEAD then
  match f with
  | none => if !folder rest && below then plain 301 [fd nLO (Pt.esc target ++ [47])] else plain 404 []
  | some e =>
   if Tg.dec true l (Tg.mk e.seq e.body.size) e.time == 412 then plain 412 []
   else if Tg.dec true l (Tg.mk e.seq e.body.size) e.time == 304 then ⟨304, [fd nET (Tg.mk e.seq e.body.size), fd nLM (fmt e.time)], []⟩
   else part (kind p) e (method == mGET) l
 else plain 405 [fd nAL vAL]
def ans (es : List Dk.En) (root method target rest : T8) (l : List Fd) : Rp :=
 ansOf (name root rest) (Dk.get (name root rest) es) (!(Dk.lst (name root rest ++ [47]) es).isEmpty) method target rest l

end Fs

open Go.RowKit

theorem du8_eq {c : UInt8} {n : Nat} (h : ((c.toNat : Int) == (n : Int)) = true) (hn : n < 256) : c = UInt8.ofNat n := by
 rw [beq_iff_eq] at h;apply UInt8.toNat_inj.1;rw [UInt8.toNat_ofNat', Nat.mod_eq_of_lt hn]; omega
theorem du8_ne {c : UInt8} {n : Nat} (h : ((c.toNat : Int) == (n : Int)) = false) (hn : n < 256) : c ≠ UInt8.ofNat n := by
 rw [beq_eq_false_iff_ne] at h;intro e; apply h; rw [e, UInt8.toNat_ofNat', Nat.mod_eq_of_lt hn]
theorem path_long (L : List UInt8) (h : 255 < L.length) : Dk.path L = false := by
 cases L with
 | nil => rfl
 | cons c r => simp only [Dk.path]; rw [decide_eq_false (by simp at h; omega)]; rfl
theorem path_short (L : List UInt8) (h : L.length < 2) : Dk.path L = false := by
 match L, h with
 | [], _ => rfl
 | [c], _ => simp [Dk.path, Dk.pOk, Dk.good]
theorem take_one (L : List UInt8) (f k : Nat) (c : UInt8) (hf : f ≤ k) (hc : L[k]? = some c) : (L.drop f).take (k + 1 - f) = (L.drop f).take (k - f) ++ [c] := by
 rw [show k + 1 - f = (k - f) + 1 by omega, List.take_add_one, List.getElem?_drop, show f + (k - f) = k by omega, hc];rfl
theorem drop_one (L : List UInt8) (k : Nat) (c : UInt8) (hc : L[k]? = some c) : L.drop k = c :: L.drop (k + 1) := by
 obtain ⟨h1, h2⟩ := List.getElem?_eq_some_iff.1 hc;rw [List.drop_eq_getElem_cons h1, h2]

set_option maxRecDepth 20000 in
theorem rpath (s : ByteArray) (b : Bool) (hb : Dk.path s.data.toList = b) (w : World) (hs : s.size ≤ 9223372036854775807) : Calls Tryz.prog 31 #[.string s] w fun e w' => e = .returned (.bool b) ∧ w' = w := by
 have HB := hid' hb;clear hb;have hsz : s.data.toList.length = s.size := by rw [← Lib.size_eq]
 by_cases h1 : 255 < s.size
 ·have HF : Hid (b = false) := hid' (by rw [← HB.out]; exact path_long _ (by omega));have h1' : (255 : Int) < (s.size : Int) := by omega
  clear hsz;go_enter Tryz.func31, Tryz.ntmps31;go_wp2;go_ret;exact ⟨by rw [HF.out]; rfl, rfl⟩
 have h1' : ¬ (255 : Int) < (s.size : Int) := by omega
 by_cases h2 : s.size < 2
 ·have HF : Hid (b = false) := hid' (by rw [← HB.out]; exact path_short _ (by omega));have h2' : (s.size : Int) < 2 := by omega
  clear hsz;go_enter Tryz.func31, Tryz.ntmps31;go_wp2;go_ret;exact ⟨by rw [HF.out]; rfl, rfl⟩
 have h2' : ¬ (s.size : Int) < 2 := by omega
 have h0 : 0 < s.size := by omega
 obtain ⟨L, hL⟩ : ∃ L, s.data.toList = L := ⟨_, rfl⟩;have HL := hid' hL;rw [hL] at hsz HB;have HSZ := hid' hsz;have hc0 : L[0]? = some s[0] := by rw [← hL, List.getElem?_eq_getElem (by rw [hL]; omega)]; rfl
 by_cases c0' : ((s[0].toNat : Int) == 47) = false
 ·have HF : Hid (b = false) := hid' (by
   rw [← HB.out];have := drop_one L 0 _ hc0;rw [List.drop_zero] at this;rw [this];have hne := du8_ne c0' (by decide);have : (s[0] == 47) = false := beq_false_of_ne hne;simp only [Dk.path, this, Bool.false_and, Bool.and_false])
  clear hsz hL hc0;go_enter Tryz.func31, Tryz.ntmps31;go_wp2;go_ret;exact ⟨by rw [HF.out]; rfl, rfl⟩
 have c0 : ((s[0].toNat : Int) == 47) = true := by simpa using c0'
 clear c0';have HP : Hid (b = Dk.pOk [] (L.drop 1)) := hid' (by
  rw [← HB.out];have := drop_one L 0 _ hc0;rw [List.drop_zero] at this;have hne := du8_eq c0 (by decide);have e47 : (s[0] == 47) = true := by rw [hne]; rfl
  have hlen : (L.drop (0 + 1)).length + 1 ≤ 255 := by rw [List.length_drop]; omega
  rw [this];simp only [Dk.path, e47, Bool.true_and, decide_eq_true hlen, List.drop_succ_cons, List.drop_zero])
 clear hsz hL hc0;go_enter Tryz.func31, Tryz.ntmps31;go_wp2;go_loopw [3, 4, 5] (fun s3 s4 _ wr => ∃ f k : Nat, s3 = .int .i64 (f : Int) ∧ s4 = .int .i64 (k : Int) ∧ k ≤ s.size + 1 ∧ f ≤ k ∧ wr = w ∧ Hid ((k ≤ s.size → b = Dk.pOk ((L.drop f).take (k - f)) (L.drop k)) ∧ (k = s.size + 1 → b = true))) (fun _ s4 _ _ => s.size + 1 - (intOf s4).toNat)
 case atStart => exact ⟨1, 1, rfl, rfl, by omega, Nat.le_refl _, rfl, hid' ⟨fun _ => by rw [HP.out]; simp, fun h => by omega⟩⟩
 case round =>
  obtain ⟨f, k, rfl, rfl, hk, hfk, hwr, HR⟩ := hrel;subst wr;by_cases hlt : k < s.size
  ·have hlt2 : (k : Int) < (s.size : Int) := by omega
   have hle2 : (k : Int) ≤ (s.size : Int) := by omega
   have hck : L[k]? = some s[k] := by rw [← HL.out, List.getElem?_eq_getElem (by rw [← Lib.size_eq]; exact hlt)]; rfl
   have hdr := drop_one L k _ hck;have HB2 : Hid (b = Dk.pOk ((L.drop f).take (k - f)) (s[k] :: L.drop (k + 1))) := hid' (by rw [← hdr]; exact HR.out.1 (by omega));have HTK : Hid ((L.drop f).take (k + 1 - f) = (L.drop f).take (k - f) ++ [s[k]]) := hid' (take_one L f k _ hfk hck);clear hck hdr HR;by_cases ck : ((s[k].toNat : Int) == 47) = true
   ·have HK : Hid (s[k] = 47) := hid' (du8_eq ck (by decide));obtain ⟨p, hp⟩ : ∃ p, s.extract f k = p := ⟨_, rfl⟩;have HPL : Hid (p.toList = (L.drop f).take (k - f)) := hid' (by rw [← hp, Lib.toList_data, Lib.extract_data, HL.out]);have HB3 : Hid (b = (Dk.good p.toList && Dk.pOk [] (L.drop (k + 1)))) := hid' (by rw [HB2.out, HPL.out, Dk.pOk, if_pos HK.out]);clear HB2 HK;by_cases g1 : (p.toList == []) = true
    ·have HF : Hid (b = false) := hid' (by rw [HB3.out]; simp only [Dk.good, g1]; rfl);go_wp2;go_ret;exact ⟨by rw [HF.out]; rfl, rfl⟩
    have g1' : (p.toList == []) = false := by simpa using g1
    by_cases g2 : (p.toList == [46]) = true
    ·have HF : Hid (b = false) := hid' (by rw [HB3.out]; simp only [Dk.good, g2]; simp);clear g1;go_wp2;go_ret;exact ⟨by rw [HF.out]; rfl, rfl⟩
    have g2' : (p.toList == [46]) = false := by simpa using g2
    by_cases g3 : (p.toList == [46, 46]) = true
    ·have HF : Hid (b = false) := hid' (by rw [HB3.out]; simp only [Dk.good, g3]; simp);clear g1 g2;go_wp2;go_ret;exact ⟨by rw [HF.out]; rfl, rfl⟩
    have g3' : (p.toList == [46, 46]) = false := by simpa using g3
    have HN : Hid (b = Dk.pOk ((L.drop (k + 1)).take (k + 1 - (k + 1))) (L.drop (k + 1))) := hid' (by
     rw [HB3.out];have : Dk.good p.toList = true := by unfold Dk.good; rw [g1', g2', g3']; rfl
     rw [this]; simp)
    clear g1 g2 g3;go_wp2;go_roundw
    case rel => exact ⟨k + 1, k + 1, by go_num, by go_num, by omega, Nat.le_refl _, by first | rfl | trivial, hid' ⟨fun _ => HN.out, fun h => by omega⟩⟩
    case measure => simp [intOf]; omega
   ·have ck' : ((s[k].toNat : Int) == 47) = false := by simpa using ck
    have HK : Hid (¬ s[k] = 47) := hid' (du8_ne ck' (by decide));have HB3 : Hid (b = ((decide (32 ≤ s[k].toNat) && decide (s[k].toNat ≤ 126)) && Dk.pOk ((L.drop f).take (k - f) ++ [s[k]]) (L.drop (k + 1)))) := hid' (by rw [HB2.out, Dk.pOk, if_neg HK.out]);clear HB2 HK ck;by_cases d1 : s[k].toNat < 32
    ·have HF : Hid (b = false) := hid' (by rw [HB3.out, decide_eq_false (by omega)]; rfl);have d1' : (s[k].toNat : Int) < 32 := by omega
     go_wp2;go_ret;exact ⟨by rw [HF.out]; rfl, rfl⟩
    have d1' : ¬ (s[k].toNat : Int) < 32 := by omega
    by_cases d2 : 126 < s[k].toNat
    ·have HF : Hid (b = false) := hid' (by rw [HB3.out, decide_eq_false (show ¬ s[k].toNat ≤ 126 by omega)]; simp);have d2' : (126 : Int) < (s[k].toNat : Int) := by omega
     go_wp2;go_ret;exact ⟨by rw [HF.out]; rfl, rfl⟩
    have d2' : ¬ (126 : Int) < (s[k].toNat : Int) := by omega
    have HN : Hid (b = Dk.pOk ((L.drop f).take (k + 1 - f)) (L.drop (k + 1))) := hid' (by
     rw [HB3.out, HTK.out, decide_eq_true (by omega), decide_eq_true (by omega)]; rfl)
    go_wp2;go_roundw
    case rel => exact ⟨f, k + 1, rfl, by go_num, by omega, by omega, by first | rfl | trivial, hid' ⟨fun _ => HN.out, fun h => by omega⟩⟩
    case measure => simp [intOf]; omega
  ·by_cases hke : k = s.size
   ·have hlt2 : ¬ (k : Int) < (s.size : Int) := by omega
    have hle2 : (k : Int) ≤ (s.size : Int) := by omega
    obtain ⟨p, hp⟩ : ∃ p, s.extract f k = p := ⟨_, rfl⟩;have HPL : Hid (p.toList = (L.drop f).take (k - f)) := hid' (by rw [← hp, Lib.toList_data, Lib.extract_data, HL.out]);have HB3 : Hid (b = Dk.good p.toList) := hid' (by
     rw [HR.out.1 (by omega), HPL.out, List.drop_of_length_le (i := k) (by rw [HSZ.out]; omega)]; rfl)
    have HKE := hid' hke;have hks : k ≤ s.size := by omega
    clear hke HR hlt;by_cases g1 : (p.toList == []) = true
    ·have HF : Hid (b = false) := hid' (by rw [HB3.out]; simp only [Dk.good, g1]; rfl);go_wp2;go_ret;exact ⟨by rw [HF.out]; rfl, rfl⟩
    have g1' : (p.toList == []) = false := by simpa using g1
    by_cases g2 : (p.toList == [46]) = true
    ·have HF : Hid (b = false) := hid' (by rw [HB3.out]; simp only [Dk.good, g2]; simp);clear g1;go_wp2;go_ret;exact ⟨by rw [HF.out]; rfl, rfl⟩
    have g2' : (p.toList == [46]) = false := by simpa using g2
    by_cases g3 : (p.toList == [46, 46]) = true
    ·have HF : Hid (b = false) := hid' (by rw [HB3.out]; simp only [Dk.good, g3]; simp);clear g1 g2;go_wp2;go_ret;exact ⟨by rw [HF.out]; rfl, rfl⟩
    have g3' : (p.toList == [46, 46]) = false := by simpa using g3
    have HN : Hid (b = true) := hid' (by rw [HB3.out]; unfold Dk.good; rw [g1', g2', g3']; rfl);clear g1 g2 g3;go_wp2;go_roundw
    case rel => exact ⟨k + 1, k + 1, by go_num, by go_num, by have := HKE.out; omega, Nat.le_refl _, by first | rfl | trivial, hid' ⟨fun h => by have := HKE.out; omega, fun _ => HN.out⟩⟩
    case measure => simp [intOf]; omega
   ·have hle2 : ¬ (k : Int) ≤ (s.size : Int) := by omega
    have HN : Hid (b = true) := hid' (HR.out.2 (by omega));clear hke hlt HR;go_wp2;go_ret;exact ⟨by rw [HN.out]; rfl, rfl⟩

end Go.Proofs.YthhpejgpfaikaabGreatDoor
