/-
  What the row stands on.
-/
import Derived.Test.YthhpejgpfaikaabGreatDoorPqAS
import Derived.Test.YthhpejgpfaikaabGreatDoorPqAR
import Derived.Test.YthhpejgpfaikaabGreatDoorPqAO
import Derived.Test.YthhpejgpfaikaabGreatDoorProg
import Derived.Test.YthhpejgpfaikaabGreatDoorPqAA
namespace Go.Proofs.YthhpejgpfaikaabGreatDoor
set_option maxHeartbeats 64000000
open Go.RowKit

namespace Pt
theorem pre_le (l : T8) : (pre l).length ≤ l.length := (List.takeWhile_prefix _).length_le
theorem undo_len : ∀ (n : Nat) (l s : T8), l.length ≤ n → undo l = some s → s.length ≤ l.length := by
 intro n
 induction n with
 | zero =>
  intro l s hl h;obtain rfl : l = [] := List.eq_nil_of_length_eq_zero (by omega);simp [undo] at h;subst h; simp
 | succ n ih =>
  intro l s hl h;cases l with
  | nil => simp [undo] at h; subst h; simp
  | cons a r =>
   cases ha : (a == 37)
   ·rw [undo_plain ha] at h;cases hu : undo r with
    | none => rw [hu] at h; cases h
    | some s' =>
     rw [hu] at h;simp only [Option.map_some, Option.some.injEq] at h;subst h;have := ih r s' (by simp at hl; omega) hu;simp; omega
   ·obtain rfl : a = 37 := eq_of_beq ha
    match r, hl, h with
    | [], _, h => simp [undo] at h
    | [d], _, h => simp [undo] at h
    | b :: d :: t, hl, h =>
     cases hq : (decide (0 ≤ hx b) && (decide (0 ≤ hx d) && okb (byt b d)))
     ·rw [undo_bad hq] at h; cases h
     ·rw [undo_esc hq] at h;cases hu : undo t with
      | none => rw [hu] at h; cases h
      | some s' =>
       rw [hu] at h;simp only [Option.map_some, Option.some.injEq] at h;subst h;have := ih t s' (by simp at hl; omega) hu;simp; omega
theorem keep_step {ps k : List T8} {i : Nat} {p : T8} (h : ps[i]? = some p) : keep k (ps.drop i) = match step k p with | none => none | some k' => keep k' (ps.drop (i + 1)) := by
 obtain ⟨h1, h2⟩ := List.getElem?_eq_some_iff.1 h;rw [List.drop_eq_getElem_cons h1, h2, keep];cases step k p <;> rfl
theorem keep_sum : ∀ (ps k k' : List T8), keep k ps = some k' → (k'.map List.length).sum + k'.length ≤ (k.map List.length).sum + k.length + (ps.map List.length).sum + ps.length := by
 intro ps
 induction ps with
 | nil => intro k k' h; simp [keep] at h; subst h; simp
 | cons p r ih =>
  intro k k' h;rw [keep] at h;cases hs : step k p with
  | none => rw [hs] at h; cases h
  | some k1 =>
   rw [hs] at h;have h1 := ih k1 k' h;have h2 : (k1.map List.length).sum + k1.length ≤ (k.map List.length).sum + k.length + p.length + 1 := by
    unfold step at hs;split at hs
    ·split at hs
     ·cases hs
     ·injection hs with hs;subst hs;have : k = [] ∨ ∃ a, k = k.dropLast ++ [a] := by
       cases hk : k with
       | nil => exact .inl rfl
       | cons a b => exact .inr ⟨(a :: b).getLast (by simp), (List.dropLast_concat_getLast (by simp)).symm⟩
      rcases this with h0 | ⟨a, ha⟩
      ·rw [h0]; simp
      ·conv => rhs; rw [ha]
       simp;omega
    ·split at hs
     ·injection hs with hs; subst hs; omega
     ·injection hs with hs;subst hs;simp;omega
   simp only [List.map_cons, List.sum_cons, List.length_cons];omega
theorem core_len (l : T8) : (core l).1.length ≤ l.length + 3 := by
 unfold core;split
 ·cases hu : undo l with
  | none => simp
  | some s =>
   simp only;cases hk : keep [] (cutS [] s) with
   | none => simp
   | some k =>
    simp only;have h1 := undo_len _ l s (Nat.le_refl _) hu;have h2 := keep_sum _ _ _ hk;have h3 := cutS_sum s;have h4 := join_len k;simp at h2;unfold out;rw [List.length_cons, List.length_append];split
    ·simp only [List.length_cons, List.length_nil]; omega
    ·simp only [List.length_nil]; omega
 ·simp
end Pt
def clV17 (q : List UInt8 × List UInt8 × Int) : Value := .tuple #[.string ⟨q.1.toArray⟩, .string ⟨q.2.1.toArray⟩, .int .i64 q.2.2]
theorem dots_at17 (y : ByteArray) (p : List UInt8) (h : y.data.toList = p) : (y.toList == [46, 46]) = (p == Pt.dots) ∧ (y.toList == [46]) = (p == Pt.dot) ∧ y.toList.isEmpty = p.isEmpty := by
 rw [Lib.toList_data, h]; exact ⟨rfl, rfl, rfl⟩

namespace Rt
theorem lt_irr (a : T8) : ¬ a < a := List.lt_irrefl a
theorem lt_tr {a b c : T8} (h1 : a < b) (h2 : b < c) : a < c := List.lt_trans h1 h2
theorem lt_or (a b : T8) : a < b ∨ a = b ∨ b < a := by
 by_cases h1 : a < b
 ·exact .inl h1
 ·by_cases h2 : b < a
  ·exact .inr (.inr h2)
  ·exact .inr (.inl (List.le_antisymm (List.not_lt.1 h2) (List.not_lt.1 h1)))
def Rise (l : List T8) : Prop := l.Pairwise (fun a b => a < b)
theorem lay_mem : ∀ (l : List T8) (s x : T8), x ∈ lay l s ↔ x = s ∨ x ∈ l := by
 intro l
 induction l with
 | nil => intro s x; simp [lay]
 | cons a r ih =>
  intro s x;rw [lay];split
  ·rw [List.mem_cons, ih, List.mem_cons];exact ⟨fun h => by rcases h with h | h | h; exact .inr (.inl h); exact .inl h; exact .inr (.inr h), fun h => by rcases h with h | h | h; exact .inr (.inl h); exact .inl h; exact .inr (.inr h)⟩
  ·split
   ·rename_i h2;have := eq_of_beq h2;subst this;simp
   ·simp
theorem lay_rise : ∀ (l : List T8) (s : T8), Rise l → Rise (lay l s) := by
 intro l
 induction l with
 | nil => intro s _; unfold Rise lay; simp
 | cons a r ih =>
  intro s h;unfold Rise at *;rw [List.pairwise_cons] at h;rw [lay];split
  ·rename_i h1;rw [List.pairwise_cons];refine ⟨fun x hx => ?_, ih s h.2⟩;rcases (lay_mem r s x).1 hx with rfl | hx
   ·exact h1
   ·exact h.1 x hx
  ·rename_i h1;split
   ·rw [List.pairwise_cons]; exact h
   ·rename_i h2;have hsa : s < a := by
     rcases lt_or a s with h3 | h3 | h3
     ·exact absurd h3 h1
     ·exact absurd (by rw [h3]; simp) h2
     ·exact h3
    rw [List.pairwise_cons, List.pairwise_cons];refine ⟨fun x hx => ?_, h⟩;rcases List.mem_cons.1 hx with rfl | hx
    ·exact hsa
    ·exact lt_tr hsa (h.1 x hx)
theorem rise_ext : ∀ {a b : List T8}, Rise a → Rise b → (∀ x, x ∈ a ↔ x ∈ b) → a = b := by
 intro a
 induction a with
 | nil =>
  intro b _ _ h;cases b with
  | nil => rfl
  | cons y s => have := (h y).2 (by simp); simp at this
 | cons x r ih =>
  intro b ha hb h;cases b with
  | nil => have := (h x).1 (by simp); simp at this
  | cons y s =>
   unfold Rise at ha hb;rw [List.pairwise_cons] at ha hb;have hxy : x = y := by
    have h1 := (h x).1 (by simp);have h2 := (h y).2 (by simp);rcases List.mem_cons.1 h1 with h1 | h1
    ·exact h1
    ·rcases List.mem_cons.1 h2 with h2 | h2
     ·exact h2.symm
     ·exact absurd (lt_tr (ha.1 y h2) (hb.1 x h1)) (lt_irr x)
   subst hxy;congr 1;refine ih ha.2 hb.2 (fun z => ?_);have hz := h z;rw [List.mem_cons, List.mem_cons] at hz;constructor
   ·intro h1;rcases hz.1 (.inr h1) with h2 | h2
    ·subst h2; exact absurd (ha.1 z h1) (lt_irr z)
    ·exact h2
   ·intro h1;rcases hz.2 (.inr h1) with h2 | h2
    ·subst h2; exact absurd (hb.1 z h1) (lt_irr z)
    ·exact h2
theorem meth_mem (l : List T8) (of : List Prt) (r : Ro) (x : T8) : x ∈ meth l of r ↔ x ∈ l ∨ (shape (pat r) of = true ∧ (x = r.m ∨ (r.m = sGET ∧ x = sHEAD))) := by
 unfold meth;cases hs : shape (pat r) of
 ·simp
 ·simp only [if_true, true_and];cases hg : (r.m == sGET)
  ·have : r.m ≠ sGET := by simpa using hg
   simp only [Bool.false_eq_true, if_false];rw [lay_mem];constructor
   ·rintro (h | h)
    ·exact .inr (.inl h)
    ·exact .inl h
   ·rintro (h | h | h)
    ·exact .inr h
    ·exact .inl h
    ·exact absurd h.1 this
  ·have : r.m = sGET := eq_of_beq hg;simp only [if_true];rw [lay_mem, lay_mem];constructor
   ·rintro (h | h | h)
    ·exact .inr (.inr ⟨this, h⟩)
    ·exact .inr (.inl h)
    ·exact .inl h
   ·rintro (h | h | h)
    ·exact .inr (.inr h)
    ·exact .inr (.inl h)
    ·exact .inl h.2
theorem meth_rise {l : List T8} (of : List Prt) (r : Ro) (h : Rise l) : Rise (meth l of r) := by
 unfold meth;split
 ·split
  ·exact lay_rise _ _ (lay_rise _ _ h)
  ·exact lay_rise _ _ h
 ·exact h
theorem meths_all : ∀ (rs : List Ro) (l : List T8) (of : List Prt), Rise l → Rise (rs.foldl (fun l r => meth l of r) l) ∧ ∀ x, x ∈ rs.foldl (fun l r => meth l of r) l ↔ x ∈ l ∨ ∃ r ∈ rs, shape (pat r) of = true ∧ (x = r.m ∨ (r.m = sGET ∧ x = sHEAD)) := by
 intro rs
 induction rs with
 | nil => intro l of h; exact ⟨h, fun x => by simp⟩
 | cons r rs ih =>
  intro l of h;obtain ⟨h1, h2⟩ := ih (meth l of r) of (meth_rise of r h);refine ⟨h1, fun x => ?_⟩;rw [List.foldl_cons, h2, meth_mem];constructor
  ·rintro ((h3 | h3) | ⟨q, hq, h3⟩)
   ·exact .inl h3
   ·exact .inr ⟨r, by simp, h3⟩
   ·exact .inr ⟨q, List.mem_cons_of_mem _ hq, h3⟩
  ·rintro (h3 | ⟨q, hq, h3⟩)
   ·exact .inl (.inl h3)
   ·rcases List.mem_cons.1 hq with rfl | hq
    ·exact .inl (.inr h3)
    ·exact .inr ⟨q, hq, h3⟩
theorem allow_same {rs rs' : List Ro} {q q' : List Prt} (hm : ∀ r, r ∈ rs ↔ r ∈ rs') (hs : shape q q' = true) : allow rs q = allow rs' q' := by
 have e : meths rs q = meths rs' q' := by
  obtain ⟨a1, a2⟩ := meths_all rs [sOPT] q (by unfold Rise; simp);obtain ⟨b1, b2⟩ := meths_all rs' [sOPT] q' (by unfold Rise; simp);unfold meths;refine rise_ext a1 b1 (fun x => ?_);rw [a2, b2];have key : ∀ r, shape (pat r) q = true ↔ shape (pat r) q' = true := fun r => ⟨fun h => shape_trans h hs, fun h => shape_trans h (shape_symm hs)⟩
  constructor
  ·rintro (h | ⟨r, hr, h1, h2⟩)
   ·exact .inl h
   ·exact .inr ⟨r, (hm r).1 hr, (key r).1 h1, h2⟩
  ·rintro (h | ⟨r, hr, h1, h2⟩)
   ·exact .inl h
   ·exact .inr ⟨r, (hm r).2 hr, (key r).2 h1, h2⟩
 unfold allow;rw [e]
def same (q r : Ro) : Bool := q.m == r.m && shape (pat r) (pat q)
theorem same_symm {q r : Ro} (h : same q r = true) : same r q = true := by
 unfold same at *;rw [Bool.and_eq_true, beq_iff_eq] at *;exact ⟨h.1.symm, shape_symm h.2⟩
theorem chk_ok : ∀ (rs ps : List Ro), chk ps rs = 0 ↔ (∀ r ∈ rs, badRo r = false) ∧ (∀ q ∈ ps, ∀ r ∈ rs, same q r = false) ∧ rs.Pairwise (fun q r => same q r = false) := by
 intro rs
 induction rs with
 | nil => intro ps; simp [chk]
 | cons r rs ih =>
  intro ps;rw [chk];cases hb : badRo r
  ·simp only [Bool.false_eq_true, if_false];cases ht : twice ps r
   ·simp only [Bool.false_eq_true, if_false];have ht' : ∀ q ∈ ps, same q r = false := fun q hq => by
     unfold twice at ht;rw [List.any_eq_false] at ht;have := ht q hq;unfold same;simpa using this
    rw [ih, List.pairwise_cons];constructor
    ·rintro ⟨h1, h2, h3⟩;refine ⟨fun x hx => ?_, fun q hq x hx => ?_, fun x hx => h2 r (by simp) x hx, h3⟩
     ·rcases List.mem_cons.1 hx with rfl | hx
      ·exact hb
      ·exact h1 x hx
     ·rcases List.mem_cons.1 hx with rfl | hx
      ·exact ht' q hq
      ·exact h2 q (List.mem_append_left _ hq) x hx
    ·rintro ⟨h1, h2, h3, h4⟩;refine ⟨fun x hx => h1 x (List.mem_cons_of_mem _ hx), fun q hq x hx => ?_, h4⟩;rcases List.mem_append.1 hq with hq | hq
     ·exact h2 q hq x (List.mem_cons_of_mem _ hx)
     ·simp at hq; subst hq; exact h3 x hx
   ·simp only [if_true];constructor
    ·intro h; exact absurd h (by decide)
    ·rintro ⟨_, h2, _⟩;unfold twice at ht;rw [List.any_eq_true] at ht;obtain ⟨q, hq, h3⟩ := ht;have := h2 q hq r (by simp);unfold same at this;rw [this] at h3; cases h3
  ·simp only [if_true];constructor
   ·intro h; exact absurd h (by decide)
   ·rintro ⟨h1, _⟩;have := h1 r (by simp);rw [hb] at this; cases this
def Ok (rs : List Ro) : Prop := rs.length ≤ 256 ∧ (∀ r ∈ rs, badRo r = false) ∧ rs.Pairwise (fun q r => same q r = false)
theorem uniq {rs : List Ro} (h : rs.Pairwise (fun q r => same q r = false)) {i j : Nat} {a b : Ro} (hi : rs[i]? = some a) (hj : rs[j]? = some b) (hs : same a b = true) : i = j := by
 rcases Nat.lt_trichotomy i j with h1 | h1 | h1
 ·obtain ⟨i1, i2⟩ := List.getElem?_eq_some_iff.1 hi;obtain ⟨j1, j2⟩ := List.getElem?_eq_some_iff.1 hj;have := List.pairwise_iff_getElem.1 h i j i1 j1 h1;rw [i2, j2, hs] at this; cases this
 ·exact h1
 ·obtain ⟨i1, i2⟩ := List.getElem?_eq_some_iff.1 hi;obtain ⟨j1, j2⟩ := List.getElem?_eq_some_iff.1 hj;have := List.pairwise_iff_getElem.1 h j i j1 i1 h1;rw [i2, j2, same_symm hs] at this; cases this
theorem by_some {rs : List Ro} {of : List Prt} {m : T8} {k : Nat} (h : byM rs of m = some k) : ∃ r, rs[k]? = some r ∧ shape (pat r) of = true ∧ r.m = m := by
 unfold byM at h;obtain ⟨h1, h2, _⟩ := List.findIdx?_eq_some_iff_getElem.1 h;rw [Bool.and_eq_true, beq_iff_eq] at h2;exact ⟨rs[k], List.getElem?_eq_getElem h1, h2.1, h2.2⟩
theorem by_none {rs : List Ro} {of : List Prt} {m : T8} (h : byM rs of m = none) : ∀ r ∈ rs, shape (pat r) of = true → r.m ≠ m := by
 intro r hr h1 h2;unfold byM at h;have := List.findIdx?_eq_none_iff.1 h r hr;rw [h1, h2] at this;simp at this
theorem sel_some {rs : List Ro} {of : List Prt} {m : T8} {k : Nat} (h : sel rs of m = some k) : ∃ r, rs[k]? = some r ∧ shape (pat r) of = true := by
 unfold sel at h;cases h1 : byM rs of m with
 | some j =>
  rw [h1] at h;simp at h;subst h;obtain ⟨r, a, b, _⟩ := by_some h1;exact ⟨r, a, b⟩
 | none =>
  rw [h1] at h;simp only [Option.none_or] at h;cases hm : (m == sHEAD)
  ·rw [hm] at h;simp at h;obtain ⟨r, a, b, _⟩ := by_some h;exact ⟨r, a, b⟩
  ·rw [hm] at h;simp only [if_true] at h;cases h2 : byM rs of sGET with
   | some j =>
    rw [h2] at h;simp at h;subst h;obtain ⟨r, a, b, _⟩ := by_some h2;exact ⟨r, a, b⟩
   | none =>
    rw [h2] at h;simp at h;obtain ⟨r, a, b, _⟩ := by_some h;exact ⟨r, a, b⟩
end Rt

namespace Rt
def Gd (x : T8) : Prop := x ≠ [] ∧ 47 ∉ x
theorem filt_gd {k : List T8} (h : ∀ x ∈ k, Gd x) : k.filter (fun p => !p.isEmpty) = k := by
 rw [List.filter_eq_self];intro p hp;have := (h p hp).1;cases p with
 | nil => exact absurd rfl this
 | cons a b => rfl
theorem parts_join {k : List T8} (h : ∀ x ∈ k, Gd x) (b : Bool) : Pt.parts (Pt.join k ++ (if !k.isEmpty && b then [47] else [])) = k := by
 have hn : ∀ x ∈ k, 47 ∉ x := fun x hx => (h x hx).2;cases k with
 | nil => rfl
 | cons a r =>
  simp only [List.isEmpty_cons, Bool.not_false, Bool.true_and];unfold Pt.parts;cases b
  ·simp only [Bool.false_eq_true, if_false, List.append_nil];rw [Pt.cutS_join0 _ (by simp) hn];exact filt_gd h
  ·simp only [if_true];rw [Pt.cutS_join _ _ (by simp) hn, List.filter_append, filt_gd h];simp [Pt.cutS]
theorem join_inj {a b : List T8} (ha : ∀ x ∈ a, Gd x) (hb : ∀ x ∈ b, Gd x) (h : Pt.join a = Pt.join b) : a = b := by
 have h1 := parts_join ha false;have h2 := parts_join hb false;simp only [Bool.and_false, Bool.false_eq_true, if_false, List.append_nil] at h1 h2;rw [← h1, ← h2, h]
theorem prt_k (s : T8) : (prt s).1.k ≤ 2 := by
 unfold prt;split
 ·split <;> simp
 ·split <;> simp
theorem prt_plain {s : T8} (h : (prt s).2 = true) (hk : (prt s).1.k = 0) : (prt s).1.t = s ∧ s ≠ [] := by
 unfold prt at *;split at h
 ·rename_i h1;rw [if_pos h1] at hk;split at h
  ·rename_i h2;rw [if_pos h2] at hk; cases hk
  ·rename_i h2;rw [if_neg h2] at hk; cases hk
 ·rename_i h1;rw [if_neg h1];split at h
  ·rename_i h2;rw [if_pos h2];refine ⟨rfl, fun e => ?_⟩;rw [e] at h; cases h
  ·cases h
theorem pats_out : ∀ (xs : List T8) (out ps : List Prt), pats out xs = some ps → ps = out ++ xs.map (fun x => (prt x).1) ∧ (∀ x ∈ xs, (prt x).2 = true) ∧ ∀ i x, xs[i]? = some x → (prt x).1.k = 2 → i + 1 = xs.length := by
 intro xs
 induction xs with
 | nil => intro out ps h; simp [pats] at h; subst h; simp
 | cons x r ih =>
  intro out ps h;rw [pats] at h;split at h
  ·cases h
  ·rename_i h1;split at h
   ·cases h
   ·simp only [Bool.or_eq_true, not_or, Bool.not_eq_true', Bool.not_eq_false, Bool.and_eq_true, not_and] at h1;obtain ⟨e, h2, h3⟩ := ih _ ps h;refine ⟨by rw [e]; simp, fun y hy => ?_, fun i y hy hk => ?_⟩
    ·rcases List.mem_cons.1 hy with rfl | hy
     ·exact h1.1
     ·exact h2 y hy
    ·cases i with
     | zero =>
      simp at hy;subst hy;have h4 := h1.2 (by rw [hk]; rfl);cases r with
      | nil => rfl
      | cons a b => cases h4
     | succ i =>
      have := h3 i y (by simpa using hy) hk;simp; omega
structure Wf (ps : List Prt) : Prop where
 k : ∀ p ∈ ps, p.k ≤ 2
 t : ∀ p ∈ ps, p.k = 0 → Gd p.t
 last : ∀ (i : Nat) (p : Prt), ps[i]? = some p → p.k = 2 → i + 1 = ps.length
theorem Wf.nil : Wf [] := ⟨fun p h => by simp at h, fun p h => by simp at h, fun i p h => by simp at h⟩
theorem Wf.tail {p : Prt} {x : List Prt} (h : Wf (p :: x)) : Wf x :=
 ⟨fun q hq => h.k q (List.mem_cons_of_mem _ hq), fun q hq => h.t q (List.mem_cons_of_mem _ hq), fun i q hq hk => by
  have := h.last (i + 1) q (by simpa using hq) hk;simp at this; omega⟩
theorem pattern_wf {s : T8} {ps : List Prt} (h : pattern s = some ps) : Wf ps := by
 unfold pattern at h;split at h
 ·injection h with h;rw [← h]; exact Wf.nil
 ·split at h
  ·obtain ⟨e, h2, h3⟩ := pats_out _ _ _ h;rw [List.nil_append] at e;refine ⟨fun p hp => ?_, fun p hp hk => ?_, fun i p hp hk => ?_⟩
   ·rw [e] at hp;obtain ⟨x, _, rfl⟩ := List.mem_map.1 hp;exact prt_k x
   ·rw [e] at hp;obtain ⟨x, hx, rfl⟩ := List.mem_map.1 hp;obtain ⟨h4, h5⟩ := prt_plain (h2 x hx) hk;rw [h4];exact ⟨h5, (Pt.cutS_no _ [] (by simp) x hx).1⟩
   ·rw [e, List.getElem?_map, Option.map_eq_some_iff] at hp;obtain ⟨x, hx, rfl⟩ := hp;rw [e, List.length_map];exact h3 i x hx hk
  ·cases h
theorem pat_wf {r : Ro} : Wf (pat r) := by
 unfold pat;cases h : pattern r.p with
 | none => exact Wf.nil
 | some ps => exact pattern_wf h
def names (ps : List Prt) : List T8 := (ps.filter (fun p => !(p.k == 0))).map (·.t)
end Rt

namespace Ap
open Rt (Prt Ro Mt prt pats pattern pat caught find best sel byM)
theorem caught_val : ∀ (a : List Prt) (l : List T8) (e : Bool), ∀ c ∈ caught a l e, c.2.length ≤ (l.map List.length).sum + l.length + 1 := by
 intro a
 induction a with
 | nil => intro l e c hc; simp [caught] at hc
 | cons p x ih =>
  intro l e c hc;have ht : ∀ c ∈ caught x l.tail e, c.2.length ≤ (l.map List.length).sum + l.length + 1 := fun c hc => by
   have h1 := ih l.tail e c hc;cases l with
   | nil => simpa using h1
   | cons d r => simp only [List.tail_cons, List.map_cons, List.sum_cons, List.length_cons] at *; omega
  rw [caught] at hc;split at hc
  ·rcases List.mem_cons.1 hc with rfl | hc
   ·cases l with
    | nil => simp
    | cons d r => simp only [List.headD_cons, List.map_cons, List.sum_cons, List.length_cons]; omega
   ·exact ht c hc
  ·split at hc
   ·rcases List.mem_cons.1 hc with rfl | hc
    ·have h1 := Pt.join_len l;simp only [List.length_append];split
     ·simp only [List.length_cons, List.length_nil]; omega
     ·simp only [List.length_nil]; omega
    ·exact ht c hc
   ·exact ht c hc
theorem caught_name : ∀ (a : List Prt) (l : List T8) (e : Bool), ∀ c ∈ caught a l e, ∃ p ∈ a, c.1 = p.t := by
 intro a
 induction a with
 | nil => intro l e c hc; simp [caught] at hc
 | cons p x ih =>
  intro l e c hc;have ht : ∀ c ∈ caught x l.tail e, ∃ q ∈ p :: x, c.1 = q.t := fun c hc => by
   obtain ⟨q, hq, h⟩ := ih l.tail e c hc;exact ⟨q, List.mem_cons_of_mem _ hq, h⟩
  rw [caught] at hc;split at hc
  ·rcases List.mem_cons.1 hc with rfl | hc
   ·exact ⟨p, List.mem_cons_self, rfl⟩
   ·exact ht c hc
  ·split at hc
   ·rcases List.mem_cons.1 hc with rfl | hc
    ·exact ⟨p, List.mem_cons_self, rfl⟩
    ·exact ht c hc
   ·exact ht c hc
theorem caught_count : ∀ (a : List Prt) (l : List T8) (e : Bool), (caught a l e).length ≤ a.length := by
 intro a
 induction a with
 | nil => intro l e; exact Nat.le_refl _
 | cons p x ih =>
  intro l e;have h := ih l.tail e;rw [caught];split
  ·simp only [List.length_cons]; omega
  ·split
   ·simp only [List.length_cons]; omega
   ·simp only [List.length_cons]; omega
theorem prt_txt (x : T8) : (prt x).1.t.length ≤ x.length := by
 unfold prt;split
 ·split
  ·simp only [List.length_take, List.length_drop]; omega
  ·simp only [List.length_take, List.length_drop]; omega
 ·split
  ·exact Nat.le_refl _
  ·simp
theorem pat_size (r : Ro) : (pat r).length ≤ r.p.length + 1 ∧ ∀ p ∈ pat r, p.t.length ≤ r.p.length := by
 unfold pat pattern;split
 ·exact ⟨Nat.zero_le _, fun p h => by simp at h⟩
 ·split
  ·cases hp : pats [] (Pt.cutS [] (r.p.drop 1)) with
   | none => exact ⟨Nat.zero_le _, fun p h => by simp at h⟩
   | some ps =>
    simp only [Option.getD_some];have h1 := (Rt.pats_out _ _ _ hp).1;have h0 := Pt.cutS_sum (r.p.drop 1);refine ⟨?_, fun p h => ?_⟩
    ·rw [h1, List.nil_append, List.length_map];rw [List.length_drop] at h0;omega
    ·rw [h1, List.nil_append, List.mem_map] at h;obtain ⟨x, hx, rfl⟩ := h;have h2 := Pt.cutS_size (r.p.drop 1) x hx;have h3 := prt_txt x;rw [List.length_drop] at h2;omega
  ·exact ⟨Nat.zero_le _, fun p h => by simp at h⟩
theorem parts_size (l : T8) : ((Pt.parts l).map List.length).sum + (Pt.parts l).length ≤ l.length + 1 := by
 have h := Pt.cutS_sum l;unfold Pt.parts;have key : ∀ (k : List T8), ((k.filter (fun p => !p.isEmpty)).map List.length).sum + (k.filter (fun p => !p.isEmpty)).length ≤ (k.map List.length).sum + k.length := by
  intro k
  induction k with
  | nil => simp
  | cons p r ih =>
   rw [List.filter_cons];split
   ·simp only [List.map_cons, List.sum_cons, List.length_cons]; omega
   ·simp only [List.map_cons, List.sum_cons, List.length_cons]; omega
 refine Nat.le_trans (key (Pt.cutS [] l)) ?_;omega
theorem clean_size (l : T8) : (Pt.clean l).1.length ≤ l.length + 3 := by
 have h := Pt.core_len (Pt.pre l);have h2 := Pt.pre_le l;show (Pt.core (Pt.pre l)).1.length ≤ l.length + 3;omega
theorem byM_lt {rs : List Ro} {q : List Prt} {m : T8} {k : Nat} (h : byM rs q m = some k) : k < rs.length := by
 unfold byM at h;exact (List.findIdx?_eq_some_iff_findIdx_eq.1 h).1
theorem sel_lt {rs : List Ro} {q : List Prt} {m : T8} {k : Nat} (h : sel rs q m = some k) : k < rs.length := by
 unfold sel at h;cases h1 : byM rs q m with
 | some j => rw [h1] at h; simp at h; subst h; exact byM_lt h1
 | none =>
  rw [h1, Option.none_or] at h;split at h
  ·cases h2 : byM rs q Rt.sGET with
   | some j => rw [h2] at h; simp at h; subst h; exact byM_lt h2
   | none => rw [h2, Option.none_or] at h; exact byM_lt h
  ·rw [Option.none_or] at h; exact byM_lt h
def Lies (rs : List Ro) (p : T8) (q : Mt) : Prop :=
 q = ⟨404, -1, [], []⟩ ∨ (∃ al, q = ⟨405, -1, [], al⟩) ∨ (∃ al, q = ⟨200, -1, [], al⟩) ∨ ∃ (k : Nat) (r : Ro), rs[k]? = some r ∧ q = ⟨200, (k : Int), caught (pat r) (Pt.parts p) (Rt.ends p), []⟩
theorem find_lies (rs : List Ro) (m p : T8) : Lies rs p (find rs m p) := by
 unfold find;cases best rs (Pt.parts p) with
 | none => exact .inl rfl
 | some q =>
  simp only;cases hs : sel rs q m with
  | none =>
   simp only;split
   ·exact .inr (.inr (.inl ⟨_, rfl⟩))
   ·exact .inr (.inl ⟨_, rfl⟩)
  | some k =>
   simp only;have hk := sel_lt hs;have he : rs[k]? = some rs[k] := List.getElem?_eq_getElem hk;rw [he];exact .inr (.inr (.inr ⟨k, _, he, rfl⟩))
theorem caught_size (r : Ro) (p : T8) : (caught (pat r) (Pt.parts p) (Rt.ends p)).length ≤ r.p.length + 1 ∧ ∀ c ∈ caught (pat r) (Pt.parts p) (Rt.ends p), c.1.length ≤ r.p.length ∧ c.2.length ≤ p.length + 2 := by
 obtain ⟨h1, h2⟩ := pat_size r;have h3 := parts_size p;refine ⟨Nat.le_trans (caught_count _ _ _) h1, fun c hc => ⟨?_, ?_⟩⟩
 ·obtain ⟨q, hq, h⟩ := caught_name _ _ _ c hc;rw [h];exact h2 q hq
 ·have := caught_val _ _ _ c hc;omega
theorem says_size (ps : List (T8 × T8)) (N V : Nat) (h : ∀ c ∈ ps, c.1.length ≤ N ∧ c.2.length ≤ V) : (ps.flatMap (fun p => 32 :: (p.1 ++ 61 :: p.2))).length ≤ ps.length * (N + V + 2) := by
 induction ps with
 | nil => simp
 | cons c r ih =>
  have h1 := h c List.mem_cons_self;have h2 := ih (fun x hx => h x (List.mem_cons_of_mem _ hx));rw [List.flatMap_cons, List.length_append];simp only [List.length_cons, List.length_append];rw [Nat.add_mul, Nat.one_mul];omega
def line (ps : List (T8 × T8)) : T8 := [104, 101, 108, 108, 111] ++ ps.flatMap (fun p => 32 :: (p.1 ++ 61 :: p.2))
theorem line_next {ps : List (T8 × T8)} {i : Nat} {c : T8 × T8} (h : ps[i]? = some c) : line (ps.take (i + 1)) = line (ps.take i) ++ (32 :: (c.1 ++ 61 :: c.2)) := by
 unfold line;rw [List.take_add_one, h, List.flatMap_append];simp
theorem line_take (ps : List (T8 × T8)) (i N V : Nat) (h : ∀ c ∈ ps, c.1.length ≤ N ∧ c.2.length ≤ V) : (line (ps.take i)).length ≤ 5 + ps.length * (N + V + 2) := by
 unfold line;have h1 := says_size (ps.take i) N V (fun c hc => h c (List.mem_of_mem_take hc));have h2 : (ps.take i).length * (N + V + 2) ≤ ps.length * (N + V + 2) := Nat.mul_le_mul_right _ (by rw [List.length_take]; omega);rw [List.length_append];simp only [List.length_cons, List.length_nil];omega
theorem kind_none : ∀ {fs : List Fd}, (∀ (j : Nat) (g : Fd), fs[j]? = some g → (g.n.data.toList == Fs.nCT) = false) → kindOf fs = Fs.str Fs.vOC := by
 intro fs h;unfold kindOf;rw [List.find?_eq_none.2 (fun g hg => by
  obtain ⟨j, hj, he⟩ := List.getElem_of_mem hg;rw [h j g (by rw [List.getElem?_eq_getElem hj, he])];exact Bool.false_ne_true)]
 rfl
theorem kind_some : ∀ {fs : List Fd} {i : Nat} {f : Fd}, (∀ (j : Nat) (g : Fd), j < i → fs[j]? = some g → (g.n.data.toList == Fs.nCT) = false) → fs[i]? = some f → (f.n.data.toList == Fs.nCT) = true → kindOf fs = f.v := by
 intro fs
 induction fs with
 | nil => intro i f _ h; simp at h
 | cons a r ih =>
  intro i f h hf hn;cases i with
  | zero =>
   rw [List.getElem?_cons_zero] at hf;injection hf with hf;subst hf;unfold kindOf;simp only [List.find?_cons, hn];rfl
  | succ i =>
   rw [List.getElem?_cons_succ] at hf;have h0 := h 0 a (by omega) (by rw [List.getElem?_cons_zero]);have h1 := ih (fun j g hj hg => h (j + 1) g (by omega) (by rw [List.getElem?_cons_succ]; exact hg)) hf hn;unfold kindOf at h1 ⊢;simp only [List.find?_cons, h0];exact h1
end Ap


set_option maxRecDepth 20000 in
theorem cplain19 (s : Int) (v : Value) (l : List Fd) (w : World) (s0 : -9223372036854775808 ≤ s) (s1 : s ≤ 9223372036854775807) (h : FW w v l) (hl : l.length ≤ 1048576) (hTB : TB19 w) :
  Calls Tryz.prog 35 #[.int .i64 s, v] w fun e w' => RP19 w w' e (Fs.plain s l) := by
 unfold RP19 Fs.plain;simp only;obtain ⟨ao, cap, rfl⟩ := h.shape;have H := hid' h;have HD := hid' (fun W (hT : TB19 W) => decimal_any s s0 s1 W hT.1);have HT := hid' hTB;have HL := hid' hl;have HA := hid' (str_snoc (Lib.itoa s) 10);have hq : (Lib.itoa s).length ≤ 21 := Lib.itoa_length_le s s0 s1;unfold rpC;obtain ⟨n, hn⟩ : ∃ n, l.length = n := ⟨_, rfl⟩;have HN := hid' hn;rw [hn] at H ⊢;clear h hl s0 s1 hn hTB;go_enter Tryz.func35, Tryz.ntmps35;go_wp2_with (refine wpl_alloc 38 rfl rfl _ zeroRp19 ?_);intro rb w1 hrb ha1 hl1;have HA1 := hid' ha1;have HB1 := hid' hl1;have HRB := hid' hrb;clear ha1 hl1 hrb;have HO0 : Hid ((w1.alloc (.cells (fC [Fs.fT]).toArray 44)).ownsRow w1.heap.size 44 2 (.slice (some ⟨w1.heap.size, 0, none⟩) 1 1) 1 (fC [Fs.fT])) := hid' (own_lit19 w1 _ _ 1 2 rfl (by decide) _ (Nat.le_refl _));have HB0 := hid' (bl_alloc19 w1 (.cells (fC [Fs.fT]).toArray 44));go_wp2_with (at_builtin; refine wpl_appL19 rfl _ _ rfl w1.heap.size (.slice (some ⟨w1.heap.size, 0, none⟩) 1 1) 1 (fC [Fs.fT]) rfl HO0.out _ l rfl ((H.out.keep HB1.out).keep HB0.out) (by have := HL.out; omega) HB0.out.size ?_; intro v2 w2 hown2 hgrow2; refine Hid.out ?_);refine hid' ?_;have HB2 : Hid (Below w1.heap.size w1 w2) := hid' (below_grown19 HB0.out HB0.out.size HO0.out hgrow2);rw [← fC_append, HN.out] at hown2;obtain ⟨v2o, v2c, hv2⟩ := own_shape hown2;subst hv2;have HO2 := hid' hown2;clear hown2 hgrow2 HO0 HB0;have HDC := hid' (HD.out w2 (tb_below19 (tb_below19 HT.out HB1.out) HB2.out));go_wp2_with (go_at_call 34; refine HDC.out.mono ?_; rintro e w3 ⟨rfl, hb3⟩; refine Hid.out ?_);refine hid' ?_;have HB3 := hid' (below_two HB2.out hb3);have HO3 := hid' (own_same HO2.out (fun j hj => hb3.block j (own_lt HO2.out j hj)));have HA3 := hid' (HA1.out.keep HB3.out);have HLT := hid' HA1.out.lt;clear hb3;go_wp2_with (refine wpl_store 38 _ _ rfl rfl rb #[.int .i64 s, .slice v2o (1 + n) v2c, .string (⟨(Lib.itoa s).toArray⟩ ++ ⟨#[10]⟩), .slice none 0 0] (by kernel_rfl) (by kernel_rfl) _ _ HA3.out sizeRp19 rfl (by simp [Value.oneCell']) ?_);intro wf hwf huf;go_wp2;have hld := ldRp19 hwf;refine bodyPost_ret (v := .agg #[.int .i64 s, .slice v2o (1 + n) v2c, .string (⟨(Lib.itoa s).toArray⟩ ++ ⟨#[10]⟩), .slice none 0 0]) (by simp [results, Tryz.results35, asAddr, hld]) rfl ⟨⟨v2o, 1 + n, v2c, ?_, ?_, ?_⟩, ?_⟩
 ·rw [HA.out]; rfl
 ·have := HN.out; omega
 ·exact own_upd19 (l := Fs.fT :: l) HO3.out huf HLT.out HB1.out.size
 ·exact (below_two HB1.out HB3.out).trans (huf.below HRB.out)


theorem infoPm18 : (Tryz.prog.info? 165).map (fun i => (i.zero, i.size, i.bytes)) = some (some (.agg #[.string ⟨#[]⟩, .string ⟨#[]⟩]), 2, 32) := by kernel_rfl
def qC18 (l : List (List UInt8 × List UInt8)) : List Value := l.flatMap fun x => [.string ⟨x.1.toArray⟩, .string ⟨x.2.toArray⟩]
theorem qC18_snoc (l : List (List UInt8 × List UInt8)) (x : List UInt8 × List UInt8) : qC18 (l ++ [x]) = qC18 l ++ [.string ⟨x.1.toArray⟩, .string ⟨x.2.toArray⟩] := by
 unfold qC18; rw [List.flatMap_append]; rfl
theorem sizeMt18 : (Tryz.prog.info? 104).map (·.size) = some 4 := by kernel_rfl
theorem zeroMt18 : (Tryz.prog.info? 104).map (fun i => i.zero) = some (some (.agg #[.int .i64 0, .int .i64 0, .slice none 0 0, .string ⟨#[]⟩])) := by kernel_rfl
theorem ldMt18 {w : World} {b : Nat} {x0 x1 x2 x3 : Value} (h : Ar w b 104 #[x0, x1, x2, x3]) : (loadVar 104 ⟨b, 0, none⟩).run Tryz.prog w = .ok (.agg #[x0, x1, x2, x3]) w :=
 run_loadVar_row (P := Tryz.prog) w b 104 104 _ (0, 0) _ h Tryz.underlying104 rfl sizeMt18
theorem own_ge18 {w : World} {B : Nat} {e : TypeId} {s : Nat} {v : Value} {n : Nat} {xs : List Value} (h : w.ownsRow B e s v n xs) (j : Nat) (hj : v.ownBlock = some j) : B ≤ j := by
 rcases h.2 with ⟨h1, _⟩ | ⟨g, cap, cur, h1, h2, _⟩
 ·rw [h1] at hj; simp [Value.ownBlock] at hj
 ·rw [h1] at hj; simp [Value.ownBlock] at hj; omega
def mtR18 (w : World) (q : Rt.Mt) (e : Ending) (w' : World) : Prop := ∃ m ro rc, e = .returned (.agg #[.int .i64 q.st, .int .i64 q.ro, .slice ro m rc, .string ⟨q.al.toArray⟩]) ∧ q.ps.length = m ∧ w'.ownsRow w.heap.size 165 2 (.slice ro m rc) m (qC18 q.ps)
theorem two_new18 (w : World) (T : TypeId) (x0 x1 : Value) : ∀ j v, [x0, x1][j]? = some v → (w.alloc (.cells #[x0, x1] T)).cell? ((⟨w.heap.size, 0, none⟩ : Addr).add j) = some v := by
 intro j v h;rw [Addr.add_mid, Nat.zero_add];have hA : Ar (w.alloc (.cells #[x0, x1] T)) w.heap.size T #[x0, x1] := heap_alloc_last w _;exact hA.cell j v (by simpa using h)

namespace Rt
theorem pats_len18 : ∀ (xs : List T8) {out ps : List Prt}, pats out xs = some ps → ps.length = out.length + xs.length := by
 intro xs
 induction xs with
 | nil => intro out ps h; rw [pats] at h; injection h with h; rw [← h]; rfl
 | cons x r ih =>
  intro out ps h;rw [pats] at h;split at h
  ·cases h
  ·split at h
   ·cases h
   ·rw [ih h, List.length_append]; simp only [List.length_cons, List.length_nil]; omega
theorem pat_len18 (r : Ro) : (pat r).length ≤ r.p.length + 1 := by
 unfold pat pattern;split
 ·simp
 ·split
  ·cases h : pats [] (Pt.cutS [] (r.p.drop 1)) with
   | none => simp
   | some ps =>
    have h1 := pats_len18 _ h;have h2 := Pt.cutS_len (r.p.drop 1);rw [List.length_drop] at h2;rw [List.length_nil] at h1;simp only [Option.getD_some];omega
  ·simp
theorem chk_at {rs : List Ro} {i : Nat} {r : Ro} (h : rs[i]? = some r) : chk (rs.take i) (rs.drop i) = if badRo r then 180 else if twice (rs.take i) r then 181 else chk (rs.take (i + 1)) (rs.drop (i + 1)) := by
 obtain ⟨h1, h2⟩ := List.getElem?_eq_some_iff.1 h;rw [List.drop_eq_getElem_cons h1, h2, chk, List.take_add_one, h];rfl
theorem best_step {rs : List Ro} {i : Nat} {r : Ro} (h : rs[i]? = some r) (l : List T8) : best (rs.take (i + 1)) l = better l (best (rs.take i) l) r := by
 unfold best;rw [List.take_add_one, h, List.foldl_append];rfl
theorem parts_sum (l : T8) : ((Pt.parts l).map List.length).sum + (Pt.parts l).length ≤ l.length + 1 := by
 have h := Pt.cutS_sum l;unfold Pt.parts;have key : ∀ (k : List T8), ((k.filter (fun p => !p.isEmpty)).map List.length).sum + (k.filter (fun p => !p.isEmpty)).length ≤ (k.map List.length).sum + k.length := by
  intro k
  induction k with
  | nil => simp
  | cons a r ih =>
   rw [List.filter_cons];split
   ·simp only [List.map_cons, List.sum_cons, List.length_cons]; omega
   ·simp only [List.map_cons, List.sum_cons, List.length_cons]; omega
 exact Nat.le_trans (key (Pt.cutS [] l)) (by omega)
end Rt


namespace Ms
def bare (m : ByteArray) (s : Int) : Bool := m.toList == [72, 69, 65, 68] || (decide (100 ≤ s) && decide (s ≤ 199)) || s == 204 || s == 304
end Ms

theorem cbare14 (m : ByteArray) (s : Int) (r : Bool) (hr : Ms.bare m s = r) (w : World) :
  Calls Tryz.prog 33 #[.string m, .int .i64 s] w fun e w' => e = .returned (.bool r) ∧ w' = w := by
 have HR := hid' hr;unfold Ms.bare at HR;clear hr;cases c1 : (m.toList == [72, 69, 65, 68]);rotate_left
 ·have HF : Hid (r = true) := hid' (by rw [← HR.out, c1]; simp);by_cases d1 : 100 ≤ s
  ·by_cases d2 : s < 200
   ·have d3 : s ≤ 199 := by omega
    go_enter Tryz.func33, Tryz.ntmps33;go_wp2;go_ret;exact ⟨by rw [HF.out]; rfl, rfl⟩
   ·have d3 : ¬ s ≤ 199 := by omega
    go_enter Tryz.func33, Tryz.ntmps33;go_wp2;go_ret;exact ⟨by rw [HF.out]; rfl, rfl⟩
  ·go_enter Tryz.func33, Tryz.ntmps33;go_wp2;go_ret;exact ⟨by rw [HF.out]; rfl, rfl⟩
 by_cases d1 : 100 ≤ s
 ·by_cases d2 : s < 200
  ·have d3 : s ≤ 199 := by omega
   have HF : Hid (r = true) := hid' (by rw [← HR.out, c1, decide_eq_true d1, decide_eq_true d3]; rfl);go_enter Tryz.func33, Tryz.ntmps33;go_wp2;go_ret;exact ⟨by rw [HF.out]; rfl, rfl⟩
  ·have d3 : ¬ s ≤ 199 := by omega
   cases c2 : (s == 204)
   ·have HF : Hid (r = (s == 304)) := hid' (by rw [← HR.out, c1, decide_eq_true d1, decide_eq_false d3, c2]; rfl);go_enter Tryz.func33, Tryz.ntmps33;go_wp2;go_ret;exact ⟨by rw [HF.out]; rfl, rfl⟩
   ·have HF : Hid (r = true) := hid' (by rw [← HR.out, c2]; simp);go_enter Tryz.func33, Tryz.ntmps33;go_wp2;go_ret;exact ⟨by rw [HF.out]; rfl, rfl⟩
 ·have c2 : (s == 204) = false := beq_false_of_ne (by omega);have c3 : (s == 304) = false := beq_false_of_ne (by omega);have HF : Hid (r = false) := hid' (by rw [← HR.out, c1, decide_eq_false d1, c2, c3]; rfl);go_enter Tryz.func33, Tryz.ntmps33;go_wp2;go_ret;exact ⟨by rw [HF.out]; rfl, rfl⟩

end Go.Proofs.YthhpejgpfaikaabGreatDoor
