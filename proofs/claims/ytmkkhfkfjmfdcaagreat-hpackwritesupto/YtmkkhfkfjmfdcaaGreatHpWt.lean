/-
  The laws' own weight; what a block leaves, by bounds.
-/
import Derived.Test.YtmkkhfkfjmfdcaaGreatHpU
namespace Go.Proofs.YtmkkhfkfjmfdcaaGreat
namespace Hp
theorem run_le (R lim : Nat) (hR : R ≤ 65536) (hlim : lim ≤ R) (m : Nat) : ∀ (d : D) (l : List UInt8) (er : Nat) (D' : D), d.room ≤ R → Tb.size d.fs ≤ d.room → run rs lim m d l = (er, D') → er ≤ 60 ∧ D'.room ≤ R ∧ Tb.size D'.fs ≤ D'.room := by
  induction m with
  | zero =>
    intro d l er D' hd hs h
    simp only [run] at h
    injection h with h1 h2
    subst h1 h2
    exact ⟨by omega, hd, hs⟩
  | succ m ih =>
    intro d l er D' hd hs h
    cases l with
    | nil =>
      simp only [run] at h
      injection h with h1 h2
      subst h1 h2
      exact ⟨by omega, hd, hs⟩
    | cons x l =>
      simp only [run] at h
      generalize hst : step rs lim d x l = q at h
      cases q with
      | err e =>
        simp only at h
        injection h with h1 h2
        subst h1 h2
        exact ⟨(step_err lim d x l e hst).2, hd, hs⟩
      | go d' rest =>
        simp only at h
        have := step_le R lim hR hlim d x l d' rest hd hs hst
        exact ih d' rest er D' this.1 this.2.1 h
theorem run_out (lim : Nat) (hlim : lim ≤ 65536) (m : Nat) : ∀ (d : D) (l : List UInt8) (er : Nat) (D' : D), d.room ≤ 65536 → Tb.size d.fs ≤ d.room → run rs lim m d l = (er, D') → Tb.size D'.out ≤ Tb.size d.out + 70000 * l.length := by
  induction m with
  | zero =>
    intro d l er D' hd hs h
    simp only [run] at h
    injection h with h1 h2
    subst h1 h2
    omega
  | succ m ih =>
    intro d l er D' hd hs h
    cases l with
    | nil =>
      simp only [run] at h
      injection h with h1 h2
      subst h1 h2
      omega
    | cons x l =>
      simp only [run] at h
      generalize hst : step rs lim d x l = q at h
      cases q with
      | err e =>
        simp only at h
        injection h with h1 h2
        subst h1 h2
        omega
      | go d' rest =>
        simp only at h
        obtain ⟨a1, a2, a3, a4⟩ := step_le 65536 lim (Nat.le_refl _) hlim d x l d' rest hd hs hst
        have := ih d' rest er D' a1 a2 h
        rw [List.length_cons]
        omega
theorem read_out (lim M : Nat) (fs : List (List UInt8 × List UInt8)) (bl : List UInt8) (p : Nat × D) (h : read rs lim ⟨M, fs, []⟩ bl = p) (hlim : lim ≤ 65536) (hM : M ≤ 65536) (hs : Tb.size fs ≤ M) (hb : bl.length ≤ 134217728) : Tb.size p.2.out ≤ 35184372088832 := by
  have := run_out lim hlim bl.length ⟨M, fs, []⟩ bl p.1 p.2 hM hs h
  have e : Tb.size (D.mk M fs []).out = 0 := rfl
  rw [e] at this
  omega
end Hp
open Go.RowKit

end Go.Proofs.YtmkkhfkfjmfdcaaGreat
