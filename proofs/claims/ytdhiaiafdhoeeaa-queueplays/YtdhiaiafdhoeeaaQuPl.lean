/-
  Both queues beside each other.
-/
import Derived.Test.YtdhiaiafdhoeeaaQuDI
import Derived.Test.YtdhiaiafdhoeeaaQuR
import Derived.Test.YtdhiaiafdhoeeaaQuSm
namespace Go.Proofs.Ytdhiaiafdhoeeaa
open Go.RowKit Go.Conc

theorem lf_und11 {S : Nat → Prop} {w w' : World} (h : LF S w.drew w') : LF S w w' := ⟨h.os, h.tape, h.output, h.size, h.block⟩
theorem bl_drewN11 {B : Nat} {w w' : World} (h : Below B w w') (q : Nat) : Below B w (w'.drewN q) := ⟨h.os, h.tape, h.output, h.size, h.block⟩
theorem QM.cells_ne {T E T' : TypeId} {X : Nat → Prop} {w : World} {B b c cap k : Nat} {xs : List Value} {cs : Array Value} (h : QM T E X w B b c cap xs) (hk : w.heap[k]? = some (.cells cs T' (0, 0))) (hne : T' ≠ T) : k ≠ b ∧ k ≠ c := by
  constructor
  · rintro rfl
    have := h.hd
    unfold Ar at this
    rw [this] at hk
    injection hk with hk
    injection hk with _ h2 _
    exact hne h2.symm
  · obtain ⟨_, h2⟩ := h.ch
    exact h2.nak hk
theorem qd_apart {X : Nat → Prop} {w : World} {B B' b c bx cap size n : Nat} {v : Value} {xs ys : List Value} (hq : QM 60 3 X w B b c cap xs) (hd : DM w B' bx size v n ys) : ∀ k, DS bx v k → k ≠ b ∧ k ≠ c := by
  rintro k (rfl | hk)
  · exact hq.cells_ne hd.obj (by decide)
  · rcases hd.row.2 with ⟨rfl, _⟩ | ⟨g, q, cp, cur, rfl, _, hg, _⟩
    · simp [Value.ownBlock] at hk
    · simp [Value.ownBlock] at hk
      subst hk
      exact hq.cells_ne hg (by decide)
/-- The row's own block. -/
def OB (v : Value) (k : Nat) : Prop := v.ownBlock = some k
/-- Both queues. -/
structure QP (w : World) (B b c bx size : Nat) (v : Value) (xs : List Int) : Prop where
  cm : QM 60 3 (OB v) w B b c size (xs.map qI)
  dm : DM w B bx size v xs.length (xs.map qI)
  le : xs.length ≤ size
theorem QP.keep {w w' : World} {B b c bx size : Nat} {v : Value} {xs : List Int} (h : QP w B b c bx size v xs) (hb : Below w.heap.size w w') : QP w' B b c bx size v xs := ⟨h.cm.keep hb, h.dm.keep hb, h.le⟩
theorem QP.drewN {w : World} {B b c bx size : Nat} {v : Value} {xs : List Int} (h : QP w B b c bx size v xs) (q : Nat) : QP (w.drewN q) B b c bx size v xs := h.keep (below_drewN _ _)
theorem QP.hX {w W : World} {B b c bx size : Nat} {v : Value} {xs : List Int} (h : QP w B b c bx size v xs) (hs : w.heap.size ≤ W.heap.size) : ∀ k, OB v k → k < W.heap.size := fun k hk => Nat.lt_of_lt_of_le (h.dm.row.lt k hk).2 hs
/-- The code's queue is turned, the document's as it was; and the other way round. -/
theorem QP.dmOf {w w' : World} {B b c bx size : Nat} {v : Value} {xs : List Int} (h : QP w B b c bx size v xs) (hf : LF (· = c) w w') : DM w' B bx size v xs.length (xs.map qI) := h.dm.other hf (fun k hk => (qd_apart h.cm h.dm k hk).2)
theorem ds_ob {w : World} {B bx size n : Nat} {v : Value} {ys : List Value} (hd : DM w B bx size v n ys) : ∀ k cs, DS bx v k → Ar w k 3 cs → OB v k := by
  rintro k cs (rfl | hk) ha
  · exact absurd rfl (ha.apart' hd.obj (by decide))
  · exact hk
theorem QP.cmOf {w w' : World} {B b c bx size : Nat} {v : Value} {xs : List Int} (h : QP w B b c bx size v xs) (hf : LF (DS bx v) w w') : QM 60 3 (OB v) w' B b c size (xs.map qI) :=
  h.cm.other hf (fun hk => (qd_apart h.cm h.dm b hk).1 rfl) (fun hk => (qd_apart h.cm h.dm c hk).2 rfl) (ds_ob h.dm)
theorem QP.lfd {w w' : World} {B b c bx size : Nat} {v : Value} {xs : List Int} (h : QP w B b c bx size v xs) (hf : LF (DS bx v) w w') : Below B w w' := hf.below (Nat.le_trans h.dm.ge (Nat.le_of_lt h.dm.obj.lt)) h.dm.ds
theorem QP.lfc {w w' : World} {B b c bx size : Nat} {v : Value} {xs : List Int} (h : QP w B b c bx size v xs) (hf : LF (· = c) w w') : Below B w w' := hf.below (Nat.le_trans h.dm.ge (Nat.le_of_lt h.dm.obj.lt)) (fun k hk => by rw [hk]; exact h.cm.lc)
/-- First the code's, then the document's. -/
theorem QP.made {w wA wD : World} {B b c bx size : Nat} {v v2 : Value} {xs ys : List Int} (h : QP w B b c bx size v xs) (hfa : LF (· = c) w wA) (hq : QM 60 3 (OB v) wA B b c size (ys.map qI)) (hfd : LF (DS bx v) wA wD) (hd : DM wD B bx size v2 ys.length (ys.map qI)) (hv : ∀ k, v2.ownBlock = some k → v.ownBlock = some k ∨ wA.heap.size ≤ k) (hl : ys.length ≤ size) : QP wD B b c bx size v2 ys := by
  have h1 : QM 60 3 (fun k => OB v k ∨ OB v2 k) wA B b c size (ys.map qI) := hq.re (fun k hk h => h.elim id (fun h => (hv k h).elim id (fun h => by omega)))
  have h2 := h1.other hfd (fun hk => (qd_apart h.cm h.dm b hk).1 rfl) (fun hk => (qd_apart h.cm h.dm c hk).2 rfl) (fun k cs hk ha => .inl (ds_ob (h.dmOf hfa) k cs hk ha))
  exact ⟨h2.re (fun k _ h => .inr h), hd, hl⟩

theorem qput_I {size : Nat} {xs ys : List Int} {x : Int} {t : Bool} (hp : PutOf size xs x t ys) (X : Nat → Prop) (B b c : Nat) (w : World) (h : QM 60 3 X w B b c size (xs.map qI)) (hX : ∀ k, X k → k < w.heap.size) :
    Calls Try.prog 10 #[.pointer (some ⟨b, 0, none⟩), .int .i64 x] w fun e w' => e = .returned (.bool t) ∧ QM 60 3 X w' B b c size (ys.map qI) ∧ LF (· = c) w w' := by
  rcases hp with ⟨rfl, h1, rfl⟩ | ⟨rfl, h1, rfl⟩
  · have := qput_yes_I X B b c size _ x w h (by simpa using h1) hX
    rw [List.map_append]
    exact this
  · exact (qput_no_I X B b c size _ x w h (by simpa using h1)).mono fun e w' ⟨h2, h3⟩ => ⟨h2, h.keep h3, LF.of_below h3⟩
theorem dput_I {size : Nat} {xs ys : List Int} {x : Int} {t : Bool} (hp : PutOf size xs x t ys) (hs : size ≤ 65536) (B b : Nat) (v : Value) (w : World) (h : DM w B b size v xs.length (xs.map qI)) :
    Calls Try.prog 11 #[.pointer (some ⟨b, 0, none⟩), .int .i64 x] w fun e w' => e = .returned (.bool t) ∧ ∃ v', DM w' B b size v' ys.length (ys.map qI) ∧ LF (DS b v) w w' ∧ ∀ k, v'.ownBlock = some k → v.ownBlock = some k ∨ w.heap.size ≤ k := by
  rcases hp with ⟨rfl, h1, rfl⟩ | ⟨rfl, h1, rfl⟩
  · refine (dput_yes B b size _ v _ x w h h1 hs).mono fun e w' ⟨h2, v', h3, h5, h4⟩ => ⟨h2, v', ?_, h4, h5⟩
    rw [List.map_append, List.length_append]
    exact h3
  · exact (dput_no B b size _ v _ x w h h1).mono fun e w' ⟨h2, q, h3⟩ => ⟨h2, v, by rw [h3]; exact h.drewN q, by rw [h3]; exact lf_drewN _ _ _, fun _ h => .inl h⟩
theorem qtake_I {size : Nat} {xs ys : List Int} {x : Int} {t : Bool} (hp : TakeOf 0 xs x t ys) (X : Nat → Prop) (B b c : Nat) (w : World) (h : QM 60 3 X w B b c size (xs.map qI)) :
    Calls Try.prog 12 #[.pointer (some ⟨b, 0, none⟩)] w fun e w' => e = .returned (.tuple #[.int .i64 x, .bool t]) ∧ QM 60 3 X w' B b c size (ys.map qI) ∧ LF (· = c) w w' := by
  rcases hp with ⟨rfl, rfl⟩ | ⟨rfl, rfl, rfl, rfl⟩
  · exact qtake_some_I X B b c size _ x w h
  · exact (qtake_none_I X B b c size w h).mono fun e w' ⟨h2, h3⟩ => ⟨h2, by rw [h3]; exact h, by rw [h3]; exact LF.refl _ _⟩
theorem dtake_I {size : Nat} {xs ys : List Int} {x : Int} {t : Bool} (hp : TakeOf 0 xs x t ys) (B b : Nat) (v : Value) (w : World) (h : DM w B b size v xs.length (xs.map qI)) :
    Calls Try.prog 13 #[.pointer (some ⟨b, 0, none⟩)] w fun e w' => e = .returned (.tuple #[.int .i64 x, .bool t]) ∧ ∃ v', DM w' B b size v' ys.length (ys.map qI) ∧ LF (DS b v) w w' ∧ ∀ k, v'.ownBlock = some k → v.ownBlock = some k ∨ w.heap.size ≤ k := by
  rcases hp with ⟨rfl, rfl⟩ | ⟨rfl, rfl, rfl, rfl⟩
  · exact (dtake_some B b size _ v x _ w h).mono fun e w' ⟨h2, v', h3, h5, h4⟩ => ⟨h2, v', h3, h4, fun k hk => .inl (h5 k hk)⟩
  · exact (dtake_none B b size v w h).mono fun e w' ⟨h2, h3⟩ => ⟨h2, v, by rw [h3]; exact h, by rw [h3]; exact LF.refl _ _, fun _ h => .inl h⟩

end Go.Proofs.Ytdhiaiafdhoeeaa
