/-
  The code's line beside two rows of numbers.
-/
import Derived.Test.YtekpjbhhbklboaaDoorPrJ
import Derived.Test.YtekpjbhhbklboaaDoorPrUr
namespace Go.Proofs.YtekpjbhhbklboaaDoor
open Go.RowKit

theorem own_cs {w : World} {B b B' : Nat} {mv v : Value} {l : Pr.Ln} {e : TypeId} {s n : Nat} {xs : List Value} (hc : CM w B b mv l) (h : w.ownsRow B' e s v n xs) (hne : e ≠ 65) : ∀ k, v.ownBlock = some k → ¬ CS b mv k := by
  intro k hk
  obtain ⟨_, cs, h1⟩ := own_ty h k hk
  rintro (rfl | hk2)
  · have h2 := hc.hd
    unfold Ar at h2
    rw [h1] at h2
    injection h2 with h2
    injection h2 with _ h3 _
    exact hne h3
  · rcases hc.mp with ⟨e, _⟩ | ⟨m, es, clock, e, _, h3⟩
    · rw [e] at hk2; cases hk2
    · rw [e] at hk2
      injection hk2 with hk2
      injection hk2 with hk2
      subst hk2
      have := h3.hd
      rw [h1] at this
      cases this
/-- A line and two rows. -/
structure U0 (w : World) (B b : Nat) (mv : Value) (l : Pr.Ln) (v6 : Value) (n6 : Nat) (xs : List Int) (v7 : Value) (n7 : Nat) (ys : List Int) : Prop where
  cm : CM w B b mv l
  r6 : w.ownsRow B 3 1 v6 n6 (nmC xs)
  r7 : w.ownsRow B 3 1 v7 n7 (nmC ys)
  ap : ∀ k, v6.ownBlock = some k → v7.ownBlock ≠ some k
theorem U0.keep {w w' : World} {B b : Nat} {mv : Value} {l : Pr.Ln} {v6 : Value} {n6 : Nat} {xs : List Int} {v7 : Value} {n7 : Nat} {ys : List Int} (h : U0 w B b mv l v6 n6 xs v7 n7 ys) (hb : Below w.heap.size w w') : U0 w' B b mv l v6 n6 xs v7 n7 ys :=
  ⟨h.cm.keep hb, own_keep h.r6 hb, own_keep h.r7 hb, h.ap⟩
theorem U0.set {w w' : World} {B b : Nat} {mv mv' : Value} {l l' : Pr.Ln} {v6 : Value} {n6 : Nat} {xs : List Int} {v7 : Value} {n7 : Nat} {ys : List Int} (h : U0 w B b mv l v6 n6 xs v7 n7 ys) (hc : CP w w' B b mv l' mv') : U0 w' B b mv' l' v6 n6 xs v7 n7 ys ∧ Below B w w' :=
  ⟨⟨hc.cm, own_same h.r6 (fun k hk => hc.lf.block k (own_lt h.r6 k hk) (own_cs h.cm h.r6 (by decide) k hk)), own_same h.r7 (fun k hk => hc.lf.block k (own_lt h.r7 k hk) (own_cs h.cm h.r7 (by decide) k hk)), h.ap⟩, hc.lf.below h.cm.size h.cm.cs⟩
theorem U0.g6 {w w' : World} {B b : Nat} {mv : Value} {l : Pr.Ln} {v6 v6' : Value} {n6 : Nat} {xs : List Int} {v7 : Value} {n7 : Nat} {ys : List Int} {x : Int} (h : U0 w B b mv l v6 n6 xs v7 n7 ys) (ho : w'.ownsRow B 3 1 v6' (n6 + 1) (nmC xs ++ [.int .i64 x])) (hg : w.grownBy w' v6.ownBlock) (hl : v6'.ownBlock = v6.ownBlock ∨ v6'.ownBlock = some w.heap.size) : U0 w' B b mv l v6' (n6 + 1) (xs ++ [x]) v7 n7 ys ∧ Below B w w' := by
  have hf : LF (fun k => v6.ownBlock = some k) w w' := LF.of_grown hg (fun k hk => hk)
  refine ⟨⟨h.cm.other hf (fun k hk e => own_cs h.cm h.r6 (by decide) k e hk), by simpa [nmC] using ho, own_grown h.r7 hg (fun k hk e => h.ap k e.symm hk), fun k hk => ?_⟩, hf.below h.cm.size (fun k hk => (own_ty h.r6 k hk).1)⟩
  rcases hl with hl | hl
  · rw [hl] at hk; exact h.ap k hk
  · rw [hl] at hk
    injection hk with hk
    intro e
    have := own_lt h.r7 k e
    omega
theorem U0.g7 {w w' : World} {B b : Nat} {mv : Value} {l : Pr.Ln} {v6 v7' : Value} {n6 : Nat} {xs : List Int} {v7 : Value} {n7 : Nat} {ys : List Int} {x : Int} (h : U0 w B b mv l v6 n6 xs v7 n7 ys) (ho : w'.ownsRow B 3 1 v7' (n7 + 1) (nmC ys ++ [.int .i64 x])) (hg : w.grownBy w' v7.ownBlock) (hl : v7'.ownBlock = v7.ownBlock ∨ v7'.ownBlock = some w.heap.size) : U0 w' B b mv l v6 n6 xs v7' (n7 + 1) (ys ++ [x]) ∧ Below B w w' := by
  have hf : LF (fun k => v7.ownBlock = some k) w w' := LF.of_grown hg (fun k hk => hk)
  refine ⟨⟨h.cm.other hf (fun k hk e => own_cs h.cm h.r7 (by decide) k e hk), own_grown h.r6 hg (fun k hk e => h.ap k hk e.symm), by simpa [nmC] using ho, fun k hk e => ?_⟩, hf.below h.cm.size (fun k hk => (own_ty h.r7 k hk).1)⟩
  rcases hl with hl | hl
  · rw [hl] at e; exact h.ap k hk e
  · rw [hl] at e
    injection e with e
    have := own_lt h.r6 k hk
    omega
theorem U0.next {w w' : World} {B b : Nat} {mv : Value} {l l' : Pr.Ln} {v6 : Value} {n6 : Nat} {xs : List Int} {v7 : Value} {n7 : Nat} {ys : List Int} (h : U0 w B b mv l v6 n6 xs v7 n7 ys) (hc : CM w' B b mv l') (hf : LF (fun k => k = b) w w') : U0 w' B b mv l' v6 n6 xs v7 n7 ys ∧ Below B w w' :=
  ⟨⟨hc, own_same h.r6 (fun k hk => hf.block k (own_lt h.r6 k hk) (fun e => own_cs h.cm h.r6 (by decide) k hk (.inl e))), own_same h.r7 (fun k hk => hf.block k (own_lt h.r7 k hk) (fun e => own_cs h.cm h.r7 (by decide) k hk (.inl e))), h.ap⟩, hf.below h.cm.size (fun k hk => by rw [hk]; exact h.cm.lo)⟩
theorem U0.drewN {w : World} {B b : Nat} {mv : Value} {l : Pr.Ln} {v6 : Value} {n6 : Nat} {xs : List Int} {v7 : Value} {n7 : Nat} {ys : List Int} (h : U0 w B b mv l v6 n6 xs v7 n7 ys) (q : Nat) : U0 (w.drewN q) B b mv l v6 n6 xs v7 n7 ys := h.keep ⟨rfl, rfl, rfl, Nat.le_refl _, fun _ _ => rfl⟩

end Go.Proofs.YtekpjbhhbklboaaDoor
