/-
  The code's queue in memory: what is of all its kinds.
-/
import Derived.Test.YtdhiaiafdhoeeaaProg
import Derived.Test.YtdhiaiafdhoeeaaLf
import Derived.Test.YtdhiaiafdhoeeaaWpN
import Derived.Conc.LoneSelectN
import Derived.Conc.SmallLaws
import Derived.Deep.QuietTactic
namespace Go.Proofs.Ytdhiaiafdhoeeaa
open Go.RowKit Go.Conc

theorem wrapQ (x : Int) (h0 : -1000000000000000 ≤ x) (h1 : x ≤ 1000000000000000) : IntKind.i64.wrap x = x := by
  rw [IntKind.wrap_i64]; omega
theorem below_drewN (w : World) (q : Nat) : Below w.heap.size w (w.drewN q) := ⟨rfl, rfl, rfl, Nat.le_refl _, fun _ _ => rfl⟩
/-- A channel in which things wait. -/
def Ch (w : World) (c cap : Nat) (xs : List Value) : Prop := ∃ s r, w.heap[c]? = some (.chan cap xs.toArray false s r false)
theorem Ch.lt {w : World} {c cap : Nat} {xs : List Value} (h : Ch w c cap xs) : c < w.heap.size := by
  obtain ⟨s, r, h⟩ := h
  exact (Array.getElem?_eq_some_iff.1 h).1
theorem Ch.same {w w' : World} {c cap : Nat} {xs : List Value} (h : Ch w c cap xs) (hb : w'.heap[c]? = w.heap[c]?) : Ch w' c cap xs := by
  obtain ⟨s, r, h⟩ := h
  exact ⟨s, r, hb.trans h⟩
theorem setChan_other (w : World) (c cap : Nat) (buf : Array Value) (cl : Bool) (s r : Nat) (tm : Bool) (k : Nat) (h : k ≠ c) : (w.setChan c cap buf cl s r tm).heap[k]? = w.heap[k]? := by
  simp [World.setChan, Ne.symm h]
theorem lf_setChan (w : World) (c cap : Nat) (buf : Array Value) (cl : Bool) (s r : Nat) (tm : Bool) : LF (· = c) w (w.setChan c cap buf cl s r tm) :=
  ⟨rfl, rfl, rfl, by rw [size_setChan]; exact Nat.le_refl _, fun k _ hk => setChan_other w c cap buf cl s r tm k hk⟩
/-- A box's address. -/
def pv (p : Nat) : Value := .pointer (some ⟨p, 0, none⟩)
/-- What waits lies in boxes of its type; no box is one of X. -/
inductive Bx (w : World) (E : TypeId) (X : Nat → Prop) : List Nat → List Value → Prop
  | nil : Bx w E X [] []
  | cons {p : Nat} {x : Value} {ps : List Nat} {xs : List Value} (hp : Ar w p E #[x]) (hX : ¬ X p) (h : Bx w E X ps xs) : Bx w E X (p :: ps) (x :: xs)
theorem Bx.len {w : World} {E : TypeId} {X : Nat → Prop} {ps : List Nat} {xs : List Value} (h : Bx w E X ps xs) : ps.length = xs.length := by
  induction h with
  | nil => rfl
  | cons _ _ _ ih => simp [ih]
theorem Bx.snoc {w : World} {E : TypeId} {X : Nat → Prop} {ps : List Nat} {xs : List Value} (h : Bx w E X ps xs) {p : Nat} {x : Value} (hp : Ar w p E #[x]) (hX : ¬ X p) : Bx w E X (ps ++ [p]) (xs ++ [x]) := by
  induction h with
  | nil => exact .cons hp hX .nil
  | cons h1 h2 _ ih => exact .cons h1 h2 ih
theorem Bx.other {S X : Nat → Prop} {w w' : World} {E : TypeId} {ps : List Nat} {xs : List Value} (h : Bx w E X ps xs) (hf : LF S w w') (hs : ∀ k cs, S k → Ar w k E cs → X k) : Bx w' E X ps xs := by
  induction h with
  | nil => exact .nil
  | cons h1 h2 _ ih => exact .cons (hf.ar h1 (fun hS => h2 (hs _ _ hS h1))) h2 ih
theorem Bx.re {X X' : Nat → Prop} {w : World} {E : TypeId} {ps : List Nat} {xs : List Value} (h : Bx w E X ps xs) (hx : ∀ k, k < w.heap.size → X' k → X k) : Bx w E X' ps xs := by
  induction h with
  | nil => exact .nil
  | cons h1 h2 _ ih => exact .cons h1 (fun h => h2 (hx _ h1.lt h)) ih
/-- A queue: object b of type T, channel c, what waits in boxes of type E that are none of X. -/
structure QM (T E : TypeId) (X : Nat → Prop) (w : World) (B b c cap : Nat) (xs : List Value) : Prop where
  lb : B ≤ b
  lc : B ≤ c
  hd : Ar w b T #[.chan (some c)]
  chx : ∃ ps, Ch w c cap (ps.map pv) ∧ Bx w E X ps xs
theorem QM.ch {T E : TypeId} {X : Nat → Prop} {w : World} {B b c cap : Nat} {xs : List Value} (h : QM T E X w B b c cap xs) : ∃ ys, Ch w c cap ys := let ⟨_, h, _⟩ := h.chx; ⟨_, h⟩
theorem QM.lt {T E : TypeId} {X : Nat → Prop} {w : World} {B b c cap : Nat} {xs : List Value} (h : QM T E X w B b c cap xs) : c < w.heap.size := let ⟨_, h⟩ := h.ch; h.lt
theorem Ch.nak {w : World} {c cap k : Nat} {xs : List Value} {T : TypeId} {cs : Array Value} (h : Ch w c cap xs) (ha : Ar w k T cs) : k ≠ c := by
  rintro rfl
  obtain ⟨s, r, h2⟩ := h
  unfold Ar at ha
  rw [ha] at h2
  cases h2
theorem QM.ne {T E : TypeId} {X : Nat → Prop} {w : World} {B b c cap : Nat} {xs : List Value} (h : QM T E X w B b c cap xs) : b ≠ c := let ⟨_, h1⟩ := h.ch; h1.nak h.hd
theorem QM.other {T E : TypeId} {X S : Nat → Prop} {w w' : World} {B b c cap : Nat} {xs : List Value} (h : QM T E X w B b c cap xs) (hf : LF S w w') (h1 : ¬ S b) (h2 : ¬ S c) (h3 : ∀ k cs, S k → Ar w k E cs → X k) : QM T E X w' B b c cap xs :=
  ⟨h.lb, h.lc, hf.ar h.hd h1, let ⟨ps, hc, hb⟩ := h.chx; ⟨ps, hc.same (hf.block c hc.lt h2), hb.other hf h3⟩⟩
theorem QM.keep {T E : TypeId} {X : Nat → Prop} {w w' : World} {B b c cap : Nat} {xs : List Value} (h : QM T E X w B b c cap xs) (hb : Below w.heap.size w w') : QM T E X w' B b c cap xs :=
  h.other (LF.of_below (S := fun _ => False) hb) id id (fun _ _ h => h.elim)
theorem QM.re {T E : TypeId} {X X' : Nat → Prop} {w : World} {B b c cap : Nat} {xs : List Value} (h : QM T E X w B b c cap xs) (hx : ∀ k, k < w.heap.size → X' k → X k) : QM T E X' w B b c cap xs :=
  ⟨h.lb, h.lc, h.hd, let ⟨ps, hc, hb⟩ := h.chx; ⟨ps, hc, hb.re hx⟩⟩
theorem QM.set {T E : TypeId} {X : Nat → Prop} {w : World} {B b c cap : Nat} {xs ys : List Value} (h : QM T E X w B b c cap xs) (ps : List Nat) (hb : Bx w E X ps ys) (buf : Array Value) (hbuf : buf = (ps.map pv).toArray) (s r : Nat) : QM T E X (w.setChan c cap buf false s r false) B b c cap ys := by
  subst hbuf
  have hl := lf_setChan w c cap (ps.map pv).toArray false s r false
  refine ⟨h.lb, h.lc, hl.ar h.hd h.ne, ps, ⟨s, r, ?_⟩, hb.other hl (fun k cs hk ha => ?_)⟩
  · rw [heap_setChan _ _ _ _ _ _ _ _ h.lt]
  · obtain ⟨_, hc⟩ := h.ch
    exact absurd hk (hc.nak ha)
theorem QM.bl {T E : TypeId} {X : Nat → Prop} {w w1 w2 : World} {B b c cap : Nat} {xs : List Value} (h : QM T E X w1 B b c cap xs) (hb : Below B w w1) (hf : LF (· = c) w1 w2) : Below B w w2 :=
  hb.trans (hf.below (Nat.le_trans h.lc (Nat.le_of_lt h.lt)) (fun k hk => by rw [hk]; exact h.lc))
end Go.Proofs.Ytdhiaiafdhoeeaa
