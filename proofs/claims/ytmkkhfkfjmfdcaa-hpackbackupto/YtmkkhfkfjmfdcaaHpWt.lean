/-
  The laws' own weight; what a block leaves, by bounds.
-/
import Derived.Test.YtmkkhfkfjmfdcaaHpU
namespace Go.Proofs.Ytmkkhfkfjmfdcaa
namespace Hp
theorem run_le (R lim : Nat) (hR : R ≤ 65536) (hlim : lim ≤ R) (m : Nat) : ∀ (d : D) (l : List UInt8) (er : Nat) (D' : D), d.room ≤ R → Tb.size d.fs ≤ d.room → run rs lim m d l = (er, D') → er ≤ 60 ∧ D'.room ≤ R ∧ Tb.size D'.fs ≤ D'.room := by
  induction m with
  | zero =>
    intro d l er D' hd hs h
    simp only [run] at h
    injection h with h1 h2
    subst h1 h2
    exact ⟨by omega, hd, hs⟩
  | succ m ih =>
    intro d l er D' hd hs h
    cases l with
    | nil =>
      simp only [run] at h
      injection h with h1 h2
      subst h1 h2
      exact ⟨by omega, hd, hs⟩
    | cons x l =>
      simp only [run] at h
      generalize hst : step rs lim d x l = q at h
      cases q with
      | err e =>
        simp only at h
        injection h with h1 h2
        subst h1 h2
        exact ⟨(step_err lim d x l e hst).2, hd, hs⟩
      | go d' rest =>
        simp only at h
        have := step_le R lim hR hlim d x l d' rest hd hs hst
        exact ih d' rest er D' this.1 this.2.1 h
theorem run_out (lim : Nat) (hlim : lim ≤ 65536) (m : Nat) : ∀ (d : D) (l : List UInt8) (er : Nat) (D' : D), d.room ≤ 65536 → Tb.size d.fs ≤ d.room → run rs lim m d l = (er, D') → Tb.size D'.out ≤ Tb.size d.out + 70000 * l.length := by
  induction m with
  | zero =>
    intro d l er D' hd hs h
    simp only [run] at h
    injection h with h1 h2
    subst h1 h2
    omega
  | succ m ih =>
    intro d l er D' hd hs h
    cases l with
    | nil =>
      simp only [run] at h
      injection h with h1 h2
      subst h1 h2
      omega
    | cons x l =>
      simp only [run] at h
      generalize hst : step rs lim d x l = q at h
      cases q with
      | err e =>
        simp only at h
        injection h with h1 h2
        subst h1 h2
        omega
      | go d' rest =>
        simp only at h
        obtain ⟨a1, a2, a3, a4⟩ := step_le 65536 lim (Nat.le_refl _) hlim d x l d' rest hd hs hst
        have := ih d' rest er D' a1 a2 h
        rw [List.length_cons]
        omega
theorem read_out (lim M : Nat) (fs : List (List UInt8 × List UInt8)) (bl : List UInt8) (p : Nat × D) (h : read rs lim ⟨M, fs, []⟩ bl = p) (hlim : lim ≤ 65536) (hM : M ≤ 65536) (hs : Tb.size fs ≤ M) (hb : bl.length ≤ 134217728) : Tb.size p.2.out ≤ 35184372088832 := by
  have := run_out lim hlim bl.length ⟨M, fs, []⟩ bl p.1 p.2 hM hs h
  have e : Tb.size (D.mk M fs []).out = 0 := rfl
  rw [e] at this
  omega
end Hp
open Go.RowKit

set_option maxHeartbeats 1000000 in
set_option maxRecDepth 20000 in
theorem wsum_any (B : Nat) (ao : Option Addr) (cap : Nat) (l : List (List UInt8 × List UInt8)) (w : World) (h : Sl w B 55 2 (.slice ao l.length cap) l.length (Tb.cells l)) (S : Nat) (hS : Tb.size l = S) (hb : S ≤ 35184372088832) :
    Calls Try.prog 17 #[.slice ao l.length cap] w fun e w' => e = .returned (.int .i64 (S : Int)) ∧ Below w.heap.size w w' := by
  obtain ⟨n, hn⟩ : ∃ n, l.length = n := ⟨_, rfl⟩
  have hnb : n ≤ 35184372088832 := by have := Tb.size_len l; omega
  rw [hn] at h ⊢
  have H := hid' h
  have HN := hid' hn
  have HS := hid' hS
  clear h hn hS
  go_enter Try.func17, Try.ntmps17
  go_wp2
  go_loopw [3, 4] (fun s3 s4 wr => ∃ i k : Nat, s4 = .int .i64 (i : Int) ∧ s3 = .int .i64 (k : Int) ∧ i ≤ n ∧ k ≤ S ∧ Hid (k = Tb.size (l.take i)) ∧ Hid (Below w.heap.size w wr)) (fun _ s4 _ => n - (intOf s4).toNat)
  case atStart => exact ⟨0, 0, rfl, rfl, Nat.zero_le _, Nat.zero_le _, hid' rfl, hid' (Below.refl _ _)⟩
  case round =>
    obtain ⟨i, k, rfl, rfl, hin, hks, HK, HB⟩ := hrel
    by_cases hlt : i < n
    · have hlt2 : decide ((i : Int) < (n : Int)) = true := decide_eq_true (by omega)
      have hlt3 : decide (i < n) = true := decide_eq_true hlt
      have hltI : (i : Int) < (n : Int) := by omega
      obtain ⟨g, q, c1, hao, _, _, _, _⟩ := H.out.form (by omega)
      injection hao with e1 _ e2
      subst e1 e2
      have hi1 : i < l.length := by have := HN.out; omega
      obtain ⟨x, hx⟩ : ∃ x, l[i]? = some x := ⟨_, List.getElem?_eq_getElem hi1⟩
      obtain ⟨xn, xv⟩ := x
      obtain ⟨ex0, ex1⟩ := Tb.cells_at _ _ _ hx
      simp only at ex0 ex1
      have hsl := H.out.keep HB.out
      have a0 : wr.cell? ⟨g, q + i * 2, none⟩ = some (.string ⟨xn.toArray⟩) := (hsl.cellAt (i * 2) (by omega)).trans ex0
      have a1 : wr.cell? ⟨g, q + i * 2 + 1, none⟩ = some (.string ⟨xv.toArray⟩) := (hsl.cellAt (i * 2 + 1) (by omega)).trans ex1
      obtain ⟨m, hm⟩ : ∃ m, Tb.wt (xn, xv) = m := ⟨_, rfl⟩
      have hst : Tb.size (l.take (i + 1)) = k + m := by rw [Tb.size_take l i (xn, xv) hx, HK.out, hm]
      have hle : k + m ≤ S := by rw [← hst, ← HS.out]; exact Tb.size_take_le l _
      have HM := hid' hm
      have HST := hid' hst
      have HLT := hid' hlt
      clear ex0 ex1 hx hlt hi1 hsl hm hst
      go_wp2_with fail
      refine (weight_at xn xv m HM.out (by omega) _).mono ?_
      rintro e w1 ⟨rfl, rfl⟩
      have HB1 : Hid (Below w.heap.size w (wr.alloc (.cells #[.string ⟨xn.toArray⟩, .string ⟨xv.toArray⟩] 55))) := hid' (HB.out.alloc HB.out.size _)
      go_wp2
      go_roundw
      case rel => exact ⟨i + 1, k + m, by go_num, by go_num, by have := HLT.out; omega, hle, hid' HST.out.symm, HB1⟩
      case measure => have := HLT.out; simp [intOf]; omega
    · have hlt2 : decide ((i : Int) < (n : Int)) = false := decide_eq_false (by omega)
      have hlt3 : decide (i < n) = false := decide_eq_false hlt
      have HE : Hid (k = S) := hid' (by rw [HK.out, ← HS.out, List.take_of_length_le (by have := HN.out; omega)])
      clear hlt
      go_wp2
      go_ret
      exact ⟨ret_int (by rw [HE.out]), HB.out⟩

end Go.Proofs.Ytmkkhfkfjmfdcaa
