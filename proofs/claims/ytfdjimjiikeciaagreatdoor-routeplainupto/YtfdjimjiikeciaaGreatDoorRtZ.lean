/-
  What a call of Find leaves in a law: a match in a block of its own.
-/
import Derived.Test.YtfdjimjiikeciaaGreatDoorRtY
import Derived.Deep.RegionHeld3
import Derived.Deep.CutRange
namespace Go.Proofs.YtfdjimjiikeciaaGreatDoor
open Go.RowKit

section
variable {P : Program} {md : Region.Mode} {ops : Array Oper} {Q : Exit → Act → World → Prop} {S : World → Prop}
/-- An operation is taken first, its slot written out. -/
theorem take_d18 {i : Nat} {oi : Oper} {d : Option Tmp} {v : Value} {fuel : Nat} {listed : Array Bool} {a : Act} {w : World} (hi : ops[i]? = some oi) (hd : oi.dst = d)
    (hs : Region.noSelect ops = true) (hf : Region.free md ops listed i = true) (hr : (Region.ready md ops listed).contains i = true)
    (hQ : ∀ c a w, Q (.panic c) (a.put d v) w → Q (.panic c) a w) (hy : YieldsIf P ops S oi v a) (hS : S w)
    (h : wpAnyH P md ops Q S fuel (listed.setIfInBounds i true) (a.put d v) w) : wpAnyH P md ops Q S (fuel + 1) listed a w := by
  subst hd
  exact wpAnyH_take hi hs hf hr hQ hy hS h
theorem step_store18 {w : World} {ops : Array Oper} {o : Oper} {a : Act} {K : Act → World → Prop} {Q : Exit → Act → World → Prop} {E : Prop} (hgd : o.guard = none) (ty : TypeId) (x y : Operand)
    (ho : o.op = .store ty x y) (b : Nat) (c : Array Value) (hx : a.eval x = .pointer (some ⟨b, 0, none⟩)) (hy : a.eval y = .agg c)
    (t : TypeId) (old : Array Value) (hg : Ar w b t old) (hi : (P.info? ty).map (·.size) = some c.size) (hold : old.size = c.size) (h1 : c.all (·.oneCell') = true)
    (h : ∀ w', Ar w' b t c → Upd b w w' → K (a.put o.dst undef) w') : if Region.wanted o (yielded ops a.tmps) = true then Oper.wp P o a w K Q else E := by
  have hw : Region.wanted o (yielded ops a.tmps) = true := by simp [Region.wanted, hgd]
  rw [if_pos hw]
  exact wp_store_row ty x y ho b c hx hy t old hg hi hold h1 (h _ (setRow_heap w b old c t (0, 0) hg) (upd_setRow w b c))
end
/-- A match in block ab, made behind w0. -/
structure MB18 (w0 : World) (ab : Nat) (q : Rt.Mt) (pm : Nat) (po : Option Addr) (pc : Nat) (wx : World) : Prop where
  ge : w0.heap.size ≤ ab
  at' : Ar wx ab 35 #[.int .i64 q.st, .int .i64 q.ro, .slice po pm pc, .string ⟨q.al.toArray⟩]
  len : q.ps.length = pm
  own : wx.ownsRow w0.heap.size 42 2 (.slice po pm pc) pm (qC18 q.ps)
  bel : Below w0.heap.size w0 wx
theorem MB18.keep {w0 wx w' : World} {ab : Nat} {q : Rt.Mt} {pm : Nat} {po : Option Addr} {pc : Nat} (h : MB18 w0 ab q pm po pc wx) (hb : Below wx.heap.size wx w') : MB18 w0 ab q pm po pc w' :=
  ⟨h.ge, h.at'.keep hb, h.len, own_kp17 h.own hb, below_two h.bel hb⟩
theorem pm_ne18 {w : World} {ab B : Nat} {c : Array Value} {v : Value} {n : Nat} {xs : List Value} (ha : Ar w ab 35 c) (ho : w.ownsRow B 42 2 v n xs) (j : Nat) (hj : v.ownBlock = some j) : j ≠ ab := by
  rintro rfl
  rcases ho.2 with ⟨h1, _⟩ | ⟨g, cap, cur, h1, _, h3, _⟩
  · rw [h1] at hj; simp [Value.ownBlock] at hj
  · rw [h1] at hj
    simp [Value.ownBlock] at hj
    subst hj
    unfold Ar at ha
    rw [ha] at h3
    injection h3 with h3
    injection h3 with _ h3 _
    revert h3; decide
/-- The call first, then the block, then the store. -/
theorem MB18.one {w0 w1 wA wf : World} {q : Rt.Mt} {pm : Nat} {po : Option Addr} {pc : Nat} {z : Array Value} (hb1 : Below w0.heap.size w0 w1) (hbA : Below w1.heap.size w1 wA) (hl : q.ps.length = pm) (ho : wA.ownsRow w1.heap.size 42 2 (.slice po pm pc) pm (qC18 q.ps))
    (ha : Ar wf wA.heap.size 35 #[.int .i64 q.st, .int .i64 q.ro, .slice po pm pc, .string ⟨q.al.toArray⟩]) (hu : Upd wA.heap.size (wA.alloc (.cells z 35)) wf) : MB18 w0 wA.heap.size q pm po pc wf := by
  have hbf : Below wA.heap.size wA wf := (bl_alloc17 wA _).trans (hu.below (Nat.le_refl _))
  exact ⟨Nat.le_trans hb1.size hbA.size, ha, hl, own_base17 (own_kp17 ho hbf) hb1.size, below_two (below_two hb1 hbA) hbf⟩
/-- The block first, then the call, then the store. -/
theorem MB18.two {w0 w1 wA wf : World} {q : Rt.Mt} {pm : Nat} {po : Option Addr} {pc : Nat} {z : Array Value} (hb1 : Below w0.heap.size w0 w1) (hbA : Below (w1.alloc (.cells z 35)).heap.size (w1.alloc (.cells z 35)) wA) (hl : q.ps.length = pm) (ho : wA.ownsRow (w1.alloc (.cells z 35)).heap.size 42 2 (.slice po pm pc) pm (qC18 q.ps))
    (ha : Ar wf w1.heap.size 35 #[.int .i64 q.st, .int .i64 q.ro, .slice po pm pc, .string ⟨q.al.toArray⟩]) (hu : Upd w1.heap.size wA wf) : MB18 w0 w1.heap.size q pm po pc wf := by
  have hbx : Below w0.heap.size w0 wA := below_two (below_two hb1 (bl_alloc17 w1 _)) hbA
  refine ⟨hb1.size, ha, hl, own_base17 (own_same ho (fun j hj => hu.block j (fun e => ?_))) (Nat.le_trans hb1.size (bl_alloc17 w1 _).size), hbx.trans (hu.below hb1.size)⟩
  have h5 := own_ge18 ho j hj
  have h6 : (w1.alloc (.cells z 35)).heap.size = w1.heap.size + 1 := by simp
  omega

end Go.Proofs.YtfdjimjiikeciaaGreatDoor
