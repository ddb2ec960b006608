/-
  The code's table and the document's, beside each other.
-/
import Derived.Test.YtjpgnifogacpcaaTabW
import Derived.Test.YtjpgnifogacpcaaTabB
import Derived.Test.YtjpgnifogacpcaaTabD
import Derived.Test.YtjpgnifogacpcaaTabL
namespace Go.Proofs.Ytjpgnifogacpcaa
open Go.RowKit

/-- Both tables, apart from each other, and of what was there in W nothing has changed. -/
structure PR (W w : World) (b c : Nat) (v u : Value) (M N : Nat) (fs gs : List (List UInt8 × List UInt8)) : Prop where
  tab : CT w W.heap.size b v M fs
  ref : RT w W.heap.size c u (N : Int) gs
  apart : ∀ k, v.ownBlock = some k → u.ownBlock ≠ some k
  bel : Below W.heap.size W w
theorem PR.ne {W w : World} {b c : Nat} {v u : Value} {M N : Nat} {fs gs : List (List UInt8 × List UInt8)} (h : PR W w b c v u M N fs gs) : b ≠ c := by
  intro e
  have h1 := h.tab.ring.obj
  have h2 := h.ref.obj
  unfold Ar at h1 h2
  rw [e, h2] at h1
  injection h1 with h1
  injection h1 with _ h3 _
  exact absurd h3 (by decide)
theorem PR.keep {W w w' : World} {b c : Nat} {v u : Value} {M N : Nat} {fs gs : List (List UInt8 × List UInt8)} (h : PR W w b c v u M N fs gs) (hb : Below w.heap.size w w') : PR W w' b c v u M N fs gs :=
  ⟨h.tab.keep hb, h.ref.keep hb, h.apart, below_two h.bel hb⟩
theorem PR.ofC {W w w' : World} {b c : Nat} {v v' u : Value} {M M' N : Nat} {fs fs' gs : List (List UInt8 × List UInt8)} (h : PR W w b c v u M N fs gs) (ht : Two b v.ownBlock w w') (hC : CT w' W.heap.size b v' M' fs') (hv : ∀ k, v'.ownBlock = some k → v.ownBlock = some k ∨ w.heap.size ≤ k) : PR W w' b c v' u M' N fs' gs :=
  ⟨hC, ht.rt h.ref (fun e => h.ne e.symm) (h.tab.ring.row.ne h.ref.obj (by decide)) (own_ne h.ref.row h.tab.ring.obj (by decide)) (fun k hk e => h.apart k e hk),
    fun k hk hu => by
      rcases hv k hk with h1 | h1
      · exact h.apart k h1 hu
      · have := (h.ref.row.lt k hu).2
        omega,
    h.bel.trans (ht.below h.tab.ring.ge (fun k hk => (h.tab.ring.row.lt k hk).1) h.bel.size)⟩
theorem PR.ofR {W w w' : World} {b c : Nat} {v u u' : Value} {M N N' : Nat} {fs gs gs' : List (List UInt8 × List UInt8)} (h : PR W w b c v u M N fs gs) (hg : w.grownBy w' (some c)) (hR : RT w' W.heap.size c u' (N' : Int) gs') (hu : ∀ k, u'.ownBlock = some k → u.ownBlock = some k ∨ w.heap.size ≤ k) : PR W w' b c v u' M N' fs gs' :=
  have ht : Two c none w w' := Two.of_grown_b hg
  ⟨h.tab.two ht h.ne (by simp) (h.tab.ring.row.ne h.ref.obj (by decide)) (by simp), hR,
    fun k hk hk' => by
      rcases hu k hk' with h1 | h1
      · exact h.apart k hk h1
      · have := (h.tab.ring.row.lt k hk).2
        omega,
    h.bel.trans (ht.below h.ref.ge (by simp) h.bel.size)⟩
theorem PR.le {W w : World} {b c : Nat} {v u : Value} {M N : Nat} {fs gs : List (List UInt8 × List UInt8)} (h : PR W w b c v u M N fs gs) : W.heap.size ≤ w.heap.size := h.bel.size
/-- A block of one's own that is none of theirs stays. -/
theorem PR.arC {W w w' : World} {b c x : Nat} {v u : Value} {M N : Nat} {fs gs : List (List UInt8 × List UInt8)} {T : TypeId} {cs : Array Value} (h : PR W w b c v u M N fs gs) (ht : Two b v.ownBlock w w') (ha : Ar w x T cs) (hx : x ≠ b) (hT : T ≠ 32) : Ar w' x T cs :=
  ht.ar ha hx (h.tab.ring.row.ne ha hT)
theorem PR.arR {W w w' : World} {b c x : Nat} {v u : Value} {M N : Nat} {fs gs : List (List UInt8 × List UInt8)} {T : TypeId} {cs : Array Value} (_h : PR W w b c v u M N fs gs) (hg : w.grownBy w' (some c)) (ha : Ar w x T cs) (hx : x ≠ c) : Ar w' x T cs :=
  Two.ar (b := c) (row := none) (Two.of_grown_b hg) ha hx (by simp)
/-- What the document's object looks like. -/
theorem PR.shape {W w : World} {b c : Nat} {v u : Value} {M N : Nat} {fs gs : List (List UInt8 × List UInt8)} (h : PR W w b c v u M N fs gs) : ∃ ao cap, u = .slice ao gs.length cap := by
  rcases h.ref.row.2 with ⟨hv, h0⟩ | ⟨g, cap, cur, hv, _⟩
  · exact ⟨none, 0, by rw [hv, h0]⟩
  · exact ⟨_, _, hv⟩

theorem rsize_at (B b : Nat) (v : Value) (M : Int) (fs : List (List UInt8 × List UInt8)) (S : Nat) (hS : Tb.size fs = S) (w : World) (h : RT w B b v M fs) (hs : S ≤ 1048576) :
    Calls Try.prog 20 #[.pointer (some ⟨b, 0, none⟩)] w fun e w' => e = .returned (.int .i64 (S : Int)) ∧ Below w.heap.size w w' := by
  subst hS; exact rsize_any B b v M fs w h (by omega)
theorem clen_at (B b : Nat) (v : Value) (M : Nat) (fs : List (List UInt8 × List UInt8)) (n : Nat) (hn : fs.length = n) (w : World) (h : CT w B b v M fs) :
    Calls Try.prog 22 #[.pointer (some ⟨b, 0, none⟩)] w fun e w' => e = .returned (.int .i64 (n : Int)) ∧ w' = w := by
  subst hn; exact clen_any B b v M fs w h
set_option maxRecDepth 20000 in
theorem neq_field (n2 v2 n v : List UInt8) (w : World) : (binOp .neq 32 (.agg #[.string ⟨n2.toArray⟩, .string ⟨v2.toArray⟩]) (.agg #[.string ⟨n.toArray⟩, .string ⟨v.toArray⟩])).run Try.prog w = .ok (.bool (!(n2 == n && v2 == v))) w := by
  rw [run_neq_struct, show (10000 : Nat) = 9999 + 1 by rfl, run_equalIn_agg w 9999 32 _ _ fieldsOf_field noStand]
  simp only [Program.fieldsOf, Try.underlying32]
  go_simp
  by_cases h1 : n2 = n <;> by_cases h2 : v2 = v <;> simp [h1, h2]
theorem neq_field_no (n v : List UInt8) (w : World) : (binOp .neq 32 (.agg #[.string ⟨n.toArray⟩, .string ⟨v.toArray⟩]) (.agg #[.string ⟨n.toArray⟩, .string ⟨v.toArray⟩])).run Try.prog w = .ok (.bool false) w := by
  rw [neq_field]; simp
theorem neq_field_yes (n2 v2 n v : List UInt8) (h : (n2, v2) ≠ (n, v)) (w : World) : (binOp .neq 32 (.agg #[.string ⟨n2.toArray⟩, .string ⟨v2.toArray⟩]) (.agg #[.string ⟨n.toArray⟩, .string ⟨v.toArray⟩])).run Try.prog w = .ok (.bool true) w := by
  rw [neq_field]
  have : (n2 == n && v2 == v) = false := by
    rw [Bool.eq_false_iff]; intro h2; simp at h2; exact h (by rw [h2.1, h2.2])
  rw [this]; rfl

end Go.Proofs.Ytjpgnifogacpcaa
