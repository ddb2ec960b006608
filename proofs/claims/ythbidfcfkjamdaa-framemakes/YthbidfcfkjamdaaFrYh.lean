/-
  frame.parts, by its contract.
-/
import Derived.Test.YthbidfcfkjamdaaFrV
import Derived.Test.YthbidfcfkjamdaaFrW
import Derived.Test.YthbidfcfkjamdaaFrUb
namespace Go.Proofs.Ythbidfcfkjamdaa
open Go.RowKit

theorem Fm.say_sets {k fl st : Int} {l : List UInt8} {p : Fm.Pt} (hk : k ≠ 4) (h : Fm.say k fl st l = .ok p) : p.sets = [] := by
  unfold Fm.say at h
  simp only [hk, if_false] at h
  repeat' (split at h)
  all_goals (first | (injection h with h; subst h; rfl) | cases h)
/-- The settings of what is said lie in a row of their own. -/
def SP (B : Nat) (w : World) (r : Fm.Rd) (v : Value) : Prop := ∀ p, r = .ok p → w.ownsRow B 29 2 v p.sets.length (stCells p.sets)
theorem SP.none {B : Nat} {w : World} {p : Fm.Pt} (h : p.sets = []) : SP B w (.ok p) (.slice none 0 0) := by
  intro q hq
  injection hq with hq
  subst hq
  rw [h]; exact World.ownsRow_nil _ _ _ _
theorem SP.bad {B : Nat} {w : World} {c : Bool} {e : Int} {v : Value} : SP B w (.bad c e) v := by
  intro q hq
  cases hq

theorem own_low {w : World} {B B' : Nat} {e : TypeId} {s : Nat} {v : Value} {n : Nat} {xs : List Value} (h : w.ownsRow B e s v n xs) (hB : B' ≤ B) : w.ownsRow B' e s v n xs := by
  refine ⟨h.1, ?_⟩
  rcases h.2 with h2 | ⟨g, cap, cur, h1, h2, h3⟩
  · exact .inl h2
  · exact .inr ⟨g, cap, cur, h1, Nat.le_trans hB h2, h3⟩
theorem cofHead_any (fl st : Int) (l : List UInt8) (r : Fm.Rd) (hl : Fm.head 1 fl ≤ l.length) (hsz : l.length ≤ 140737488355328) (hr : Fm.say 1 fl st l = r) (w : World) : Calls Try.prog 68 #[.agg (frC 1 fl st l)] w fun e w' => e = .returned (rdV r (.slice none 0 0)) ∧ Below w.heap.size w w' := by
  unfold Fm.say at hr
  simp only [or_true, if_true] at hr
  by_cases hlt : l.length - Fm.head 1 fl < Fm.pads fl l
  · rw [if_pos hlt] at hr
    subst hr
    exact cofHead_bad fl st l _ _ _ rfl rfl rfl hl hsz hlt w
  · rw [if_neg hlt] at hr
    cases h5 : Fm.has fl 32 with
    | false =>
      rw [h5] at hr
      subst hr
      exact cofHead_plain fl st l _ _ _ rfl rfl rfl hl hsz hlt h5 w
    | true =>
      rw [h5] at hr
      cases h8 : Fm.has fl 8 with
      | false =>
        have hh : Fm.head 1 fl = 5 := by unfold Fm.head; rw [h8, h5]; rfl
        rw [hh] at hr hl hlt
        subst hr
        exact cofHead_prio0 fl st l _ _ _ hh rfl rfl hl hsz hlt h5 rfl w
      | true =>
        have hh : Fm.head 1 fl = 6 := by unfold Fm.head; rw [h8, h5]; rfl
        rw [hh] at hr hl hlt
        subst hr
        exact cofHead_prio1 fl st l _ _ _ hh rfl rfl hl hsz hlt h5 rfl w

end Go.Proofs.Ythbidfcfkjamdaa
