/-
  Both schedulers beside each other.
-/
import Derived.Test.YtpgfnhfjkplmaaaSdT
import Derived.Test.YtpgfnhfjkplmaaaSdAp
import Derived.Test.YtpgfnhfjkplmaaaSdW
namespace Go.Proofs.Ytpgfnhfjkplmaaa
open Go.RowKit

/-- Both schedulers. -/
structure PP (w : World) (B b bx : Nat) (v u r : Value) (ts : List (Int × Bool)) : Prop where
  sm : SM w B b v u ts
  rm : RM w B bx r ts
theorem sr_apart {w : World} {B B' b bx : Nat} {v u r : Value} {ts ts' : List (Int × Bool)} (hs : SM w B b v u ts) (hr : RM w B' bx r ts') : ∀ k, SS b v u k → ¬ RS bx r k := by
  rintro k (rfl | hk | hk) (e | e)
  · exact hs.obj.apart' hr.obj (by decide) e
  · exact own_apart hr.row hs.obj (by decide) _ e rfl
  · exact own_apart hs.asl hr.obj (by decide) k hk e
  · exact own_own hs.asl hr.row (by decide) k hk e.symm
  · exact own_apart hs.rdy hr.obj (by decide) k hk e
  · exact own_own hs.rdy hr.row (by decide) k hk e.symm
theorem PP.keep {w w' : World} {B b bx : Nat} {v u r : Value} {ts : List (Int × Bool)} (h : PP w B b bx v u r ts) (hb : Below w.heap.size w w') : PP w' B b bx v u r ts := ⟨h.sm.keep hb, h.rm.keep hb⟩
/-- First the code's, then the document's. -/
theorem PP.rmOf {w w' : World} {B b bx : Nat} {v u r : Value} {ts : List (Int × Bool)} (h : PP w B b bx v u r ts) (hf : LF (SS b v u) w w') : RM w' B bx r ts := h.rm.other hf (fun k hk hs => sr_apart h.sm h.rm k hs hk)
theorem PP.made {w wA wD : World} {B b bx : Nat} {v u r v' u' r' : Value} {ts ts' : List (Int × Bool)} (h : PP w B b bx v u r ts) (hfa : LF (SS b v u) w wA) (hs : SM wA B b v' u' ts') (hfd : LF (RS bx r) wA wD) (hr : RM wD B bx r' ts') : PP wD B b bx v' u' r' ts' :=
  ⟨hs.other hfd (fun k hk hrs => sr_apart hs (h.rmOf hfa) k hk hrs), hr⟩
theorem PP.bl {w0 w wA wD : World} {B b bx : Nat} {v u r : Value} {ts : List (Int × Bool)} (h : PP w B b bx v u r ts) (hb : Below B w0 w) (hfa : LF (SS b v u) w wA) (hfd : LF (RS bx r) wA wD) : Below B w0 wD :=
  (h.sm.bl hb hfa).trans (hfd.below (h.rmOf hfa).lb (fun k hk => ((h.rmOf hfa).rs k hk).1))

/-- Two lists of their own are laid into a row. -/
theorem s1_of {w w1 w2 : World} {n a1 a2 : Nat} {xo yo : Option Addr} {l : List Int} (h1 : w2.ownsRow w.heap.size 3 1 (.slice xo n a1) n (nmC l)) (h2 : w2.ownsRow w1.heap.size 3 1 (.slice yo n a2) n (nmC l)) (hx : ∀ k, (Value.slice xo n a1).ownBlock = some k → k < w1.heap.size) (hw : w.heap.size ≤ w1.heap.size) :
    S1 (w2.alloc (.cells #[.slice xo n a1, .slice yo n a2] 36)) w.heap.size w2.heap.size (fun t => if t = 0 then .slice xo n a1 else .slice yo n a2) n 0 0 := by
  refine ⟨heap_alloc_last w2 _, fun t ht => ?_, fun t s ht hs hts k hk hk2 => ?_⟩
  · refine ⟨l, ?_, fun j hj hc => absurd hc (by omega)⟩
    by_cases e : t = 0
    · simp only [if_pos e]; exact h1.alloc _
    · simp only [if_neg e]; exact (own_le h2 hw).alloc _
  · have key : ∀ k, (Value.slice xo n a1).ownBlock = some k → (Value.slice yo n a2).ownBlock ≠ some k := fun k e1 e2 => by
      have := hx k e1
      have := (own_ty h2 k e2).1
      omega
    by_cases e : t = 0
    · have e' : ¬ s = 0 := by omega
      simp only [if_pos e] at hk
      simp only [if_neg e'] at hk2
      exact key k hk hk2
    · have e' : s = 0 := by omega
      simp only [if_neg e] at hk
      simp only [if_pos e'] at hk2
      exact key k hk2 hk

end Go.Proofs.Ytpgfnhfjkplmaaa
