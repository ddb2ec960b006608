/-
  ostlerref07.Same of parts that are the same: by its contract.
-/
import Derived.Test.YthbidfcfkjamdaaFrSy
namespace Go.Proofs.Ythbidfcfkjamdaa
open Go.RowKit

section
variable {ops : Array Oper} {rest : List Oper} {o o' : Oper} {a : Act} {w : World} {Q : Exit → Act → World → Prop}
theorem wpl_boxpp (x x' : Operand) (ho : o.op = .box 27 x) (hgd : o.guard = none) (ho' : o'.op = .box 27 x') (hgd' : o'.guard = none)
    (p q : Fm.Pt) (v u : Value) (hx : a.eval x = .agg (ptC p v)) (hx' : ∀ b, (a.put o.dst (.pointer (some ⟨b, 0, none⟩))).eval x' = .agg (ptC q u))
    (h : ∀ b1 b2 w', Ar w' b1 27 (ptC p v) → Ar w' b2 27 (ptC q u) → Below w.heap.size w w' → wpList Try.prog ops Q rest ((a.put o.dst (.pointer (some ⟨b1, 0, none⟩))).put o'.dst (.pointer (some ⟨b2, 0, none⟩))) w') :
    wpList Try.prog ops Q (o :: o' :: rest) a w := by
  refine wpl_box 27 x ho hgd _ hx ?_
  intro b1 w1 hg1 ha1 hb1
  refine wpl_box 27 x' ho' hgd' _ (hx' b1) ?_
  intro b2 w2 hg2 ha2 hb2
  exact h b1 b2 w2 (ha1.keep hb2) ha2 (below_two hb1 hb2)
end

set_option maxHeartbeats 4000000 in
set_option maxRecDepth 20000 in
theorem csame_yes (p : Fm.Pt) (v v' : Value) (w : World) (h : SR w v p.sets) (h' : SR w v' p.sets) (hnb : p.sets.length ≤ 140737488355328) :
    Calls Try.prog 12 #[.agg (ptC p v), .agg (ptC p v')] w fun e w' => e = .returned (.bool true) ∧ Below w.heap.size w w' := by
  obtain ⟨ao, cap, rfl⟩ := h.shape
  obtain ⟨bo, cap', rfl⟩ := h'.shape
  obtain ⟨n, hn⟩ : ∃ n, p.sets.length = n := ⟨_, rfl⟩
  rw [hn] at h h' hnb ⊢
  have H := hid' h
  have H' := hid' h'
  have HN := hid' hn
  clear h h' hn
  go_enter Try.func12, Try.ntmps12
  go_wp2_with (refine wpl_boxpp _ _ rfl rfl rfl rfl p p (.slice ao n cap) (.slice bo n cap') (by kernel_rfl) (fun b => by kernel_rfl) ?_)
  intro b1 b2 w0 ha1 ha2 hb0
  obtain ⟨x0, x1, x2, x3, x4, x5, x6, x7⟩ := pt_cells ha1
  obtain ⟨y0, y1, y2, y3, y4, y5, y6, y7⟩ := pt_cells ha2
  have HB := hid' hb0
  have HS0 : Hid (Below w0.heap.size w0 w0) := hid' (Below.refl _ _)
  have HA1 := hid' ha1
  have HA2 := hid' ha2
  clear ha1 ha2 hb0
  go_wp2
  clear x0 x1 x2 x3 x4 x5 x6 x7 y0 y1 y2 y3 y4 y5 y6 y7
  go_loopw [5] (fun s5 wr => ∃ i : Nat, s5 = .int .i64 (i : Int) ∧ i ≤ n ∧ Hid (Below w0.heap.size w0 wr)) (fun s5 _ => n - (intOf s5).toNat)
  case atStart => exact ⟨0, rfl, Nat.zero_le _, HS0⟩
  case round =>
    clear HS0
    obtain ⟨i, rfl, hi, HW⟩ := hrel
    obtain ⟨_, _, _, _, _, _, _, x7⟩ := pt_cells (HA1.out.keep HW.out)
    obtain ⟨_, _, _, _, _, _, _, y7⟩ := pt_cells (HA2.out.keep HW.out)
    by_cases hlt : i < n
    · have hlt2 : (i : Int) < (n : Int) := by omega
      obtain ⟨f, hf⟩ : ∃ f, p.sets[i]? = some f := ⟨_, List.getElem?_eq_getElem (by rw [HN.out]; exact hlt)⟩
      obtain ⟨a, hao, c0, c1⟩ := ((H.out.keep HB.out).keep HW.out).two i f hf
      obtain ⟨b, hbo, d0, d1⟩ := ((H'.out.keep HB.out).keep HW.out).two i f hf
      subst hao hbo
      have hnq : ∀ W, (binOp .neq 29 (.agg #[.int .i64 f.1, .int .i64 f.2]) (.agg #[.int .i64 f.1, .int .i64 f.2])).run Try.prog W = .ok (.bool false) W := fun W => by rw [neq_set]; simp
      have hng := noGuardS
      clear hf
      go_wp2
      go_quiet (fail)
      go_wp2
      go_roundw
      case rel => exact ⟨i + 1, by go_num, by omega, hid' (below_drewN' HW.out _)⟩
      case measure => simp [intOf]; omega
    · have hlt2 : decide ((i : Int) < (n : Int)) = false := decide_eq_false (by omega)
      have hlt3 : decide (i < n) = false := decide_eq_false (by omega)
      have HB2 := hid' (below_two HB.out HW.out)
      clear hlt
      go_wp2
      go_ret
      exact ⟨rfl, HB2.out⟩

end Go.Proofs.Ythbidfcfkjamdaa
