/-
  Structs compared, rows of settings that are read, slices.Equal: by its contract.
-/
import Derived.Test.YthbidfcfkjamdaaFrW
import Derived.Deep.QuietTactic
import Derived.BigQuiet
namespace Go.Proofs.Ythbidfcfkjamdaa
open Go.RowKit

theorem noStandS : Try.prog.stoodInHeld 29 = false := by kernel_rfl
theorem noGuardS : Try.prog.eqGuardType Try.prog.depth 29 = false := by kernel_rfl
theorem fieldsOfS : Try.prog.underlying 29 = some (.struct (Try.prog.fieldsOf 29)) := by kernel_rfl
theorem noStandF : Try.prog.stoodInHeld 31 = false := by kernel_rfl
theorem noGuardF : Try.prog.eqGuardType Try.prog.depth 31 = false := by kernel_rfl
theorem fieldsOfF : Try.prog.underlying 31 = some (.struct (Try.prog.fieldsOf 31)) := by kernel_rfl
theorem noStandW : Try.prog.stoodInHeld 74 = false := by kernel_rfl
theorem noGuardW : Try.prog.eqGuardType Try.prog.depth 74 = false := by kernel_rfl
theorem fieldsOfW : Try.prog.underlying 74 = some (.struct (Try.prog.fieldsOf 74)) := by kernel_rfl
set_option maxRecDepth 20000 in
theorem neq_set (i v j u : Int) (w : World) : (binOp .neq 29 (.agg #[.int .i64 i, .int .i64 v]) (.agg #[.int .i64 j, .int .i64 u])).run Try.prog w = .ok (.bool (!(i == j && v == u))) w := by
  rw [run_neq_struct, show (10000 : Nat) = 9999 + 1 by rfl, run_equalIn_agg w 9999 29 _ _ fieldsOfS noStandS]
  simp only [Program.fieldsOf, Try.underlying29]
  go_simp
  by_cases h1 : i = j <;> by_cases h2 : v = u <;> simp [h1, h2]
set_option maxRecDepth 20000 in
theorem eq_set (i v j u : Int) (w : World) : (binOp .eql 29 (.agg #[.int .i64 i, .int .i64 v]) (.agg #[.int .i64 j, .int .i64 u])).run Try.prog w = .ok (.bool (i == j && v == u)) w := by
  rw [run_eql_struct, show (10000 : Nat) = 9999 + 1 by rfl, run_equalIn_agg w 9999 29 _ _ fieldsOfS noStandS]
  simp only [Program.fieldsOf, Try.underlying29]
  go_simp
  by_cases h1 : i = j <;> by_cases h2 : v = u <;> simp [h1, h2]
set_option maxRecDepth 20000 in
theorem eq_wrong (i c i' c' : Bool) (e e' : Int) (w : World) : (binOp .eql 74 (.agg #[.bool i, .bool c, .int .i64 e]) (.agg #[.bool i', .bool c', .int .i64 e'])).run Try.prog w = .ok (.bool (i == i' && c == c' && e == e')) w := by
  rw [run_eql_struct, show (10000 : Nat) = 9999 + 1 by rfl, run_equalIn_agg w 9999 74 _ _ fieldsOfW noStandW]
  simp only [Program.fieldsOf, Try.underlying74]
  go_simp
  by_cases h1 : i = i' <;> by_cases h2 : c = c' <;> by_cases h3 : e = e' <;> simp [h1, h2, h3]
set_option maxRecDepth 20000 in
theorem neq_wrong (i c i' c' : Bool) (e e' : Int) (w : World) : (binOp .neq 74 (.agg #[.bool i, .bool c, .int .i64 e]) (.agg #[.bool i', .bool c', .int .i64 e'])).run Try.prog w = .ok (.bool (!(i == i' && c == c' && e == e'))) w := by
  rw [run_neq_struct, show (10000 : Nat) = 9999 + 1 by rfl, run_equalIn_agg w 9999 74 _ _ fieldsOfW noStandW]
  simp only [Program.fieldsOf, Try.underlying74]
  go_simp
  by_cases h1 : i = i' <;> by_cases h2 : c = c' <;> by_cases h3 : e = e' <;> simp [h1, h2, h3]
set_option maxRecDepth 20000 in
theorem eq_frame (k fl st k' fl' st' : Int) (l l' : List UInt8) (w : World) : (binOp .eql 31 (.agg #[.int .i64 k, .int .i64 fl, .int .i64 st, .string ⟨l.toArray⟩]) (.agg #[.int .i64 k', .int .i64 fl', .int .i64 st', .string ⟨l'.toArray⟩])).run Try.prog w = .ok (.bool (k == k' && fl == fl' && st == st' && l == l')) w := by
  rw [run_eql_struct, show (10000 : Nat) = 9999 + 1 by rfl, run_equalIn_agg w 9999 31 _ _ fieldsOfF noStandF]
  simp only [Program.fieldsOf, Try.underlying31]
  go_simp
  by_cases h1 : k = k' <;> by_cases h2 : fl = fl' <;> by_cases h3 : st = st' <;> by_cases h4 : l = l' <;> simp [h1, h2, h3, h4]
set_option maxRecDepth 20000 in
theorem neq_frame (k fl st k' fl' st' : Int) (l l' : List UInt8) (w : World) : (binOp .neq 31 (.agg #[.int .i64 k, .int .i64 fl, .int .i64 st, .string ⟨l.toArray⟩]) (.agg #[.int .i64 k', .int .i64 fl', .int .i64 st', .string ⟨l'.toArray⟩])).run Try.prog w = .ok (.bool (!(k == k' && fl == fl' && st == st' && l == l'))) w := by
  rw [run_neq_struct, show (10000 : Nat) = 9999 + 1 by rfl, run_equalIn_agg w 9999 31 _ _ fieldsOfF noStandF]
  simp only [Program.fieldsOf, Try.underlying31]
  go_simp
  by_cases h1 : k = k' <;> by_cases h2 : fl = fl' <;> by_cases h3 : st = st' <;> by_cases h4 : l = l' <;> simp [h1, h2, h3, h4]

theorem below_drewN' {B : Nat} {w w' : World} (h : Below B w w') (n : Nat) : Below B w (w'.drewN n) := ⟨h.os, h.tape, h.output, h.size, h.block⟩
/-- Settings that can be read. -/
def SR (w : World) (v : Value) (l : List (Int × Int)) : Prop :=
  (v = .slice none 0 0 ∧ l = []) ∨ ∃ a cap, v = .slice (some a) l.length cap ∧ ∀ j u, (stCells l)[j]? = some u → (a.add j).block < w.heap.size ∧ w.cell? (a.add j) = some u
theorem SR.nil (w : World) : SR w (.slice none 0 0) [] := .inl ⟨rfl, rfl⟩
theorem SR.keep {w w' : World} {v : Value} {l : List (Int × Int)} (h : SR w v l) (hb : Below w.heap.size w w') : SR w' v l := by
  rcases h with h | ⟨a, cap, hv, hc⟩
  · exact .inl h
  · exact .inr ⟨a, cap, hv, fun j u hj => ⟨Nat.lt_of_lt_of_le (hc j u hj).1 hb.size, (hb.cell (hc j u hj).1).trans (hc j u hj).2⟩⟩
theorem SR.shape {w : World} {v : Value} {l : List (Int × Int)} (h : SR w v l) : ∃ ao cap, v = .slice ao l.length cap := by
  rcases h with ⟨h, rfl⟩ | ⟨a, cap, h, _⟩
  · exact ⟨none, 0, h⟩
  · exact ⟨some a, cap, h⟩
theorem st_at (l : List (Int × Int)) (i : Nat) (p : Int × Int) (h : l[i]? = some p) : (stCells l)[i * 2]? = some (.int .i64 p.1) ∧ (stCells l)[i * 2 + 1]? = some (.int .i64 p.2) := by
  induction l generalizing i with
  | nil => simp at h
  | cons a r ih =>
    have e : stCells (a :: r) = [.int .i64 a.1, .int .i64 a.2] ++ stCells r := rfl
    cases i with
    | zero => simp at h; subst h; rw [e]; simp
    | succ i =>
      have := ih i (by simpa using h)
      rw [e]
      constructor
      · rw [List.getElem?_append_right (by simp; omega)]; simpa [show (i + 1) * 2 - 2 = i * 2 by omega] using this.1
      · rw [List.getElem?_append_right (by simp; omega)]; simpa [show (i + 1) * 2 + 1 - 2 = i * 2 + 1 by omega] using this.2
theorem SR.two {w : World} {ao : Option Addr} {n cap : Nat} {l : List (Int × Int)} (h : SR w (.slice ao n cap) l) (i : Nat) (p : Int × Int) (hp : l[i]? = some p) : ∃ a, ao = some a ∧ w.cell? (a.add (i * 2)) = some (.int .i64 p.1) ∧ w.cell? ⟨(a.add (i * 2)).block, (a.add (i * 2)).off + 1, none⟩ = some (.int .i64 p.2) := by
  rcases h with ⟨_, rfl⟩ | ⟨a, cap', hv, hc⟩
  · simp at hp
  · injection hv with h1 _ _
    obtain ⟨e0, e1⟩ := st_at _ _ _ hp
    refine ⟨a, h1, (hc _ _ e0).2, ?_⟩
    have := (hc _ _ e1).2
    rw [← Addr.add_add] at this
    simpa [Addr.add] using this
theorem SR.of_own {w : World} {B : Nat} {v : Value} {l : List (Int × Int)} (h : w.ownsRow B 29 2 v l.length (stCells l)) : SR w v l := by
  rcases h.2 with ⟨hv, hn⟩ | ⟨g, cap, cur, hv, _, h3, _⟩
  · exact .inl ⟨hv, List.eq_nil_of_length_eq_zero hn⟩
  · refine .inr ⟨⟨g, 0, none⟩, cap, hv, fun j u hj => ⟨?_, ?_⟩⟩
    · have := (Array.getElem?_eq_some_iff.1 h3).1
      unfold Addr.add
      split <;> exact this
    · exact h.cells (g := g) (by rw [hv]; rfl) j u hj

set_option maxHeartbeats 4000000 in
set_option maxRecDepth 20000 in
theorem cequal_any (v v' : Value) (l m : List (Int × Int)) (r : Bool) (hr : decide (l = m) = r) (w : World) (h : SR w v l) (h' : SR w v' m) (hl : l.length ≤ 35184372088832) :
    Calls Try.prog 49 #[v, v'] w fun e w' => e = .returned (.bool r) ∧ Below w.heap.size w w' := by
  obtain ⟨ao, cap, rfl⟩ := h.shape
  obtain ⟨bo, cap', rfl⟩ := h'.shape
  have H := hid' h
  have H' := hid' h'
  have HR := hid' hr
  clear h h' hr
  by_cases hn : l.length = m.length
  · obtain ⟨n, hnl⟩ : ∃ n, l.length = n := ⟨_, rfl⟩
    have hnm : m.length = n := by omega
    rw [hnl] at H ⊢
    rw [hnm] at H' ⊢
    have hne : ((n : Int) != (n : Int)) = false := by simp
    have HNL := hid' hnl
    have HNM := hid' hnm
    have hnb : n ≤ 35184372088832 := by omega
    have HS : Hid (Below w.heap.size w w) := hid' (Below.refl _ _)
    clear hn hnl hnm hl
    go_enter Try.func49, Try.ntmps49
    go_wp2
    go_loopw [13] (fun s13 wr => ∃ i : Nat, s13 = .int .i64 (i : Int) ∧ i ≤ n ∧ Hid (l.take i = m.take i) ∧ Hid (Below w.heap.size w wr)) (fun s13 _ => n - (intOf s13).toNat)
    case atStart => exact ⟨0, rfl, Nat.zero_le _, hid' rfl, HS⟩
    case round =>
      clear HS
      obtain ⟨i, rfl, hi, HT, HB⟩ := hrel
      by_cases hlt : i < n
      · have hlt2 : (i : Int) < (n : Int) := by omega
        obtain ⟨p, hp⟩ : ∃ p, l[i]? = some p := ⟨_, List.getElem?_eq_getElem (by rw [HNL.out]; exact hlt)⟩
        obtain ⟨q, hq⟩ : ∃ p, m[i]? = some p := ⟨_, List.getElem?_eq_getElem (by rw [HNM.out]; exact hlt)⟩
        obtain ⟨a, hao, x0, x1⟩ := (H.out.keep HB.out).two i p hp
        obtain ⟨b, hbo, y0, y1⟩ := (H'.out.keep HB.out).two i q hq
        subst hao hbo
        obtain ⟨z, hz⟩ : ∃ z, (!(p.1 == q.1 && p.2 == q.2)) = z := ⟨_, rfl⟩
        have hnq := fun W => neq_set p.1 p.2 q.1 q.2 W
        have hng := noGuardS
        have HP := hid' hp
        have HQ := hid' hq
        have HZ := hid' hz
        rw [hz] at hnq
        clear hp hq hz
        go_wp2
        go_quiet (fail)
        cases z
        · have hpq : p = q := by
            have := HZ.out
            simp at this
            exact Prod.ext this.1 this.2
          have HT2 : Hid (l.take (i + 1) = m.take (i + 1)) := hid' (by
            rw [List.take_add_one, List.take_add_one, HT.out, HP.out, HQ.out, hpq])
          clear hpq
          go_wp2
          go_roundw
          case rel => exact ⟨i + 1, by go_num, by omega, HT2, hid' (below_drewN' HB.out _)⟩
          case measure => simp [intOf]; omega
        · have HF : Hid (r = false) := hid' (by
            rw [← HR.out]
            refine decide_eq_false (fun e => ?_)
            have h1 := HP.out
            rw [e, HQ.out] at h1
            injection h1 with h1
            have := HZ.out
            rw [h1] at this
            simp at this)
          go_wp2
          go_ret
          exact ⟨ret_bool HF.out.symm, below_drewN' HB.out _⟩
      · have hib : i = n := by omega
        have hlt2 : decide ((i : Int) < (n : Int)) = false := decide_eq_false (by omega)
        have HF : Hid (r = true) := hid' (by
          rw [← HR.out]
          have e := HT.out
          rw [hib] at e
          rw [List.take_of_length_le (by rw [HNL.out]; exact Nat.le_refl _), List.take_of_length_le (by rw [HNM.out]; exact Nat.le_refl _)] at e
          exact decide_eq_true e)
        have hlt3 : decide (i < n) = false := decide_eq_false (by omega)
        clear hib hlt
        go_wp2
        go_ret
        exact ⟨ret_bool HF.out.symm, HB.out⟩
  · have hne : ((l.length : Int) != (m.length : Int)) = true := bne_iff_ne.2 (by omega)
    obtain rfl : r = false := by
      rw [← HR.out]
      exact decide_eq_false (fun e => hn (by rw [e]))
    clear hn
    go_enter Try.func49, Try.ntmps49
    go_wp2
    go_ret
    exact ⟨rfl, Below.refl _ _⟩

end Go.Proofs.Ythbidfcfkjamdaa
