/-
  Two queues, of numbers and of rows of numbers.
-/
import Derived.Test.YtdhiaiafdhoeeaaQuDI
import Derived.Test.YtdhiaiafdhoeeaaQuDL
import Derived.Test.YtdhiaiafdhoeeaaQuSm
namespace Go.Proofs.Ytdhiaiafdhoeeaa
open Go.RowKit Go.Conc

/-- Two queues that know nothing of each other. -/
structure Q2 (w : World) (B b c b2 c2 : Nat) (xs : List Int) (ls : List (Option Addr × Nat × Nat)) : Prop where
  q1 : QM 60 3 (fun _ => False) w B b c 65536 (xs.map qI)
  q2 : QM 68 37 (fun _ => False) w B b2 c2 3 (ls.map qL)
  ne : c ≠ c2
theorem Q2.keep {w w' : World} {B b c b2 c2 : Nat} {xs : List Int} {ls : List (Option Addr × Nat × Nat)} (h : Q2 w B b c b2 c2 xs ls) (hb : Below w.heap.size w w') : Q2 w' B b c b2 c2 xs ls := ⟨h.q1.keep hb, h.q2.keep hb, h.ne⟩
theorem Q2.t1 {w w' : World} {B b c b2 c2 : Nat} {xs ys : List Int} {ls : List (Option Addr × Nat × Nat)} (h : Q2 w B b c b2 c2 xs ls) (hq : QM 60 3 (fun _ => False) w' B b c 65536 (ys.map qI)) (hf : LF (· = c) w w') : Q2 w' B b c b2 c2 ys ls ∧ Below B w w' := by
  refine ⟨⟨hq, h.q2.other hf (h.q1.ch.choose_spec.nak h.q2.hd) (fun e => h.ne e.symm) (fun k cs hk ha => h.q1.ch.choose_spec.nak ha hk), h.ne⟩, h.q1.bl (Below.refl _ _) hf⟩
theorem Q2.t2 {w w' : World} {B b c b2 c2 : Nat} {xs : List Int} {ls ms : List (Option Addr × Nat × Nat)} (h : Q2 w B b c b2 c2 xs ls) (hq : QM 68 37 (fun _ => False) w' B b2 c2 3 (ms.map qL)) (hf : LF (· = c2) w w') : Q2 w' B b c b2 c2 xs ms ∧ Below B w w' := by
  refine ⟨⟨h.q1.other hf (h.q2.ch.choose_spec.nak h.q1.hd) (fun e => h.ne e) (fun k cs hk ha => h.q2.ch.choose_spec.nak ha hk), hq, h.ne⟩, h.q2.bl (Below.refl _ _) hf⟩
/-- What waits in the second one. -/
def l2 (ao : Option Addr) (cap n : Nat) : List (Option Addr × Nat × Nat) := (List.range n).map (fun j => (ao, j, cap))
theorem l2_len (ao : Option Addr) (cap n : Nat) : (l2 ao cap n).length = n := by simp [l2]
theorem l2_map_len (ao : Option Addr) (cap n : Nat) : ((l2 ao cap n).map qL).length = n := by simp [l2]
theorem l2_succ (ao : Option Addr) (cap n : Nat) : (l2 ao cap (n + 1)).map qL = (l2 ao cap n).map qL ++ [.slice ao n cap] := by simp [l2, List.range_succ, qL]
theorem l2_at (ao : Option Addr) (cap n i : Nat) (h : i < n) : ((l2 ao cap n).map qL)[i]? = some (.slice ao i cap) := by simp [l2, h, qL]

end Go.Proofs.Ytdhiaiafdhoeeaa
