/-
  The document's Remove: by its contract.
-/
import Derived.Test.YtekpjbhhbklboaaDoorPrD
namespace Go.Proofs.YtekpjbhhbklboaaDoor
open Go.RowKit

theorem rrem_none (B b : Nat) (l : Pr.Ln) (v u : Value) (id : Int) (hp : Pr.pl l.ids id = none) (w : World) (h : LM w B b l v u) (hn : l.ids.length ≤ 8796093022000) :
    Calls Tryd.prog 18 #[.pointer (some ⟨b, 0, none⟩), .int .i64 id] w fun e w' => e = .returned (.tuple #[]) ∧ w' = w := by
  have HC := hid' (rplace_any B b l v u id (-1) (by unfold Pr.plI; rw [hp]) w h (by omega))
  clear h hp hn
  go_enter Tryd.func18, Tryd.ntmps18
  go_wp2_with fail
  refine HC.out.mono ?_
  rintro e w1 ⟨rfl, hw1⟩
  subst w1
  go_wp2
  refine bodyPost_ret (results_none rfl _ _ _) rfl ?_
  exact ⟨rfl, rfl⟩

theorem hwC_take (l : List (Nat × Bool)) (m : Nat) : hwC (l.take m) = (hwC l).take (m * 2) := by
  induction l generalizing m with
  | nil => simp [hwC]
  | cons x r ih =>
    have e : hwC (x :: r) = .int .i64 (x.1 : Int) :: .bool x.2 :: hwC r := rfl
    cases m with
    | zero => simp [hwC]
    | succ m =>
      rw [List.take_succ_cons, e, show (m + 1) * 2 = m * 2 + 1 + 1 by omega, List.take_succ_cons, List.take_succ_cons, ← ih m]
      rfl
theorem Upd.drew {b : Nat} {w w' : World} (h : Upd b w w') : Upd b w w'.drew := ⟨h.os, h.tape, h.output, h.size, h.block⟩
/-- A row is cut. -/
theorem own_cut {w : World} {B : Nat} {e : TypeId} {s g n m cap : Nat} {xs : List Value} (h : w.ownsRow B e s (.slice (some ⟨g, 0, none⟩) n cap) n xs) (hm : m ≤ n) : w.ownsRow B e s (.slice (some ⟨g, 0, none⟩) m cap) m (xs.take (m * s)) := by
  obtain ⟨h1, h2⟩ := h
  rcases h2 with ⟨hv, _⟩ | ⟨g', cap', cur, hv, hB, hc, hn, hx, hs, ht⟩
  · cases hv
  · injection hv with hv1 _ hv3
    injection hv1 with hv1
    injection hv1 with hv1 _ _
    subst hv1 hv3
    have hle : m * s ≤ n * s := Nat.mul_le_mul_right _ hm
    refine ⟨by rw [List.length_take, h1]; omega, .inr ⟨g, cap, cur, rfl, hB, hc, Nat.le_trans hm hn, hx, hs, ?_⟩⟩
    rw [← ht, List.take_take, Nat.min_eq_left hle]
/-- What a row of one's own holds. -/
theorem own_cell {w : World} {B : Nat} {e : TypeId} {s g n cap : Nat} {xs : List Value} (h : w.ownsRow B e s (.slice (some ⟨g, 0, none⟩) n cap) n xs) (j : Nat) (x : Value) (hx : xs[j]? = some x) : w.cell? ⟨g, j, none⟩ = some x := by
  have := h.cells (g := g) rfl j x hx
  rw [Addr.add_mid, Nat.zero_add] at this
  exact this
theorem own_free {w : World} {B : Nat} {e : TypeId} {s g n cap : Nat} {xs : List Value} (h : w.ownsRow B e s (.slice (some ⟨g, 0, none⟩) n cap) n xs) (j : Nat) : w.frozen? ⟨g, j, none⟩ = false := by
  obtain ⟨_, cs, hc⟩ := own_ty h g rfl
  exact Ar.free (c := cs) hc j

set_option maxHeartbeats 8000000 in
set_option maxRecDepth 20000 in
theorem rrem_some (B b : Nat) (l : Pr.Ln) (v u : Value) (id : Int) (i : Nat) (hp : Pr.pl l.ids id = some i) (w : World) (h : LM w B b l v u) (hn : l.ids.length ≤ 8796093022000) :
    Calls Tryd.prog 18 #[.pointer (some ⟨b, 0, none⟩), .int .i64 id] w fun e w' => e = .returned (.tuple #[]) ∧ ∃ v' u', LP w w' B b v u (Pr.rem l id) v' u' := by
  have hil := Pr.pl_lt hp
  obtain ⟨m, hm⟩ : ∃ m, l.ids.length = m + 1 := ⟨l.ids.length - 1, by omega⟩
  have HN := hid' hm
  have hmh : l.how.length = m + 1 := by rw [h.ok.hl]; exact hm
  have HNH := hid' hmh
  obtain ⟨gv, vc, hv⟩ : ∃ g c, v = .slice (some ⟨g, 0, none⟩) (m + 1) c := by
    rcases h.is.2 with ⟨_, h0⟩ | ⟨g, c, cur, h1, _⟩
    · omega
    · exact ⟨g, c, by rw [h1, hm]⟩
  obtain ⟨gu, uc, hu⟩ : ∃ g c, u = .slice (some ⟨g, 0, none⟩) (m + 1) c := by
    rcases h.hw.2 with ⟨_, h0⟩ | ⟨g, c, cur, h1, _⟩
    · omega
    · exact ⟨g, c, by rw [h1, hm]⟩
  subst hv hu
  obtain ⟨L, hL⟩ : ∃ L, l.ids[m]? = some L := ⟨_, List.getElem?_eq_getElem (by omega)⟩
  obtain ⟨Ai, hAi⟩ : ∃ A, l.ids[i]? = some A := ⟨_, List.getElem?_eq_getElem hil⟩
  obtain ⟨J, hJ⟩ : ∃ J, l.how[m]? = some J := ⟨_, List.getElem?_eq_getElem (by omega)⟩
  obtain ⟨Bi, hBi⟩ : ∃ A, l.how[i]? = some A := ⟨_, List.getElem?_eq_getElem (by omega)⟩
  have HIS : Hid (w.ownsRow B 3 1 (.slice (some ⟨gv, 0, none⟩) (m + 1) vc) (m + 1) (nmC l.ids)) := hid' (by have := h.is; rw [hm] at this; exact this)
  have HHW : Hid (w.ownsRow B 24 2 (.slice (some ⟨gu, 0, none⟩) (m + 1) uc) (m + 1) (hwC l.how)) := hid' (by have := h.hw; rw [hm] at this; exact this)
  have HC := hid' (rplace_any B b l _ _ id (i : Int) (by unfold Pr.plI; rw [hp]) w h (by omega))
  have H := hid' h
  have HP := hid' hp
  have c0 := h.hd.cell 0 _ (lnC0 _ _ _ _)
  have cL := own_cell HIS.out m _ (nm_at hL)
  have cA := own_cell HIS.out i _ (nm_at hAi)
  have fA := own_free HIS.out i
  have him : i ≤ m := by omega
  have him2 : (i : Int) < (m : Int) + 1 := by omega
  have hmm : (m : Int) < (m : Int) + 1 := by omega
  have hwm : wrap64 (m : Int) = (m : Int) := by unfold wrap64; omega
  have hm0 : (0 : Int) ≤ (m : Int) := by omega
  have HL := hid' hL
  have HJ := hid' hJ
  have HBi := hid' hBi
  clear h hp hm hmh hL hJ hAi hBi hil
  go_enter Tryd.func18, Tryd.ntmps18
  go_wp2_with fail
  refine HC.out.mono ?_
  rintro e w1 ⟨rfl, hw1⟩
  subst w1
  go_wp2_with fail
  refine wp_region_held_drew (S := fun W => W.cell? ⟨b, 0, none⟩ = some (.slice (some ⟨gv, 0, none⟩) (m + 1) vc) ∧ W.cell? ⟨gv, m, none⟩ = some (.int .i64 L)) (by kernel_rfl) ⟨c0, cL⟩ (fun hHeld => ?_)
  refine take_d (i := 0) (d := some 17) (v := ?_) rfl rfl (by kernel_rfl) (by kernel_rfl) (by kernel_rfl) (fun _ _ _ h => h) (Or.inl ⟨by rfl, ?_⟩) (by assumption) ?_
  rotate_left
  · intro w hSw
    (try dsimp only at hSw)
    go_simp
    try with_reducible rfl
  simp only [Act.put, List.setIfInBounds_toArray, List.set_cons_zero, List.set_cons_succ]
  refine take_d (i := 1) (d := some 18) (v := ?_) rfl rfl (by kernel_rfl) (by kernel_rfl) (by kernel_rfl) (fun _ _ _ h => h) (Or.inl ⟨by rfl, ?_⟩) (by assumption) ?_
  rotate_left
  · intro w hSw
    (try dsimp only at hSw)
    go_simp
    try with_reducible rfl
  simp only [Act.put, List.setIfInBounds_toArray, List.set_cons_zero, List.set_cons_succ]
  refine take_d (i := 2) (d := some 19) (v := ?_) rfl rfl (by kernel_rfl) (by kernel_rfl) (by kernel_rfl) (fun _ _ _ h => h) (Or.inl ⟨by rfl, ?_⟩) (by assumption) ?_
  rotate_left
  · intro w hSw
    (try dsimp only at hSw)
    go_simp
    try with_reducible rfl
  simp only [Act.put, List.setIfInBounds_toArray, List.set_cons_zero, List.set_cons_succ]
  refine take_d (i := 3) (d := some 20) (v := ?_) rfl rfl (by kernel_rfl) (by kernel_rfl) (by kernel_rfl) (fun _ _ _ h => h) (Or.inl ⟨by rfl, ?_⟩) (by assumption) ?_
  rotate_left
  · intro w hSw
    (try dsimp only at hSw)
    go_simp
    try with_reducible rfl
  simp only [Act.put, List.setIfInBounds_toArray, List.set_cons_zero, List.set_cons_succ]
  refine take_d (i := 4) (d := some 21) (v := ?_) rfl rfl (by kernel_rfl) (by kernel_rfl) (by kernel_rfl) (fun _ _ _ h => h) (Or.inl ⟨by rfl, ?_⟩) (by assumption) ?_
  rotate_left
  · intro w hSw
    (try dsimp only at hSw)
    go_simp
    try with_reducible rfl
  simp only [Act.put, List.setIfInBounds_toArray, List.set_cons_zero, List.set_cons_succ]
  refine take_d (i := 5) (d := some 22) (v := ?_) rfl rfl (by kernel_rfl) (by kernel_rfl) (by kernel_rfl) (fun _ _ _ h => h) (Or.inl ⟨by rfl, ?_⟩) (by assumption) ?_
  rotate_left
  · intro w hSw
    (try dsimp only at hSw)
    go_simp
    try with_reducible rfl
  simp only [Act.put, List.setIfInBounds_toArray, List.set_cons_zero, List.set_cons_succ]
  refine take_d (i := 6) (d := some 23) (v := ?_) rfl rfl (by kernel_rfl) (by kernel_rfl) (by kernel_rfl) (fun _ _ _ h => h) (Or.inl ⟨by rfl, ?_⟩) (by assumption) ?_
  rotate_left
  · intro w hSw
    (try dsimp only at hSw)
    go_simp
    try with_reducible rfl
  simp only [Act.put, List.setIfInBounds_toArray, List.set_cons_zero, List.set_cons_succ]
  refine take_d (i := 7) (d := some 24) (v := ?_) rfl rfl (by kernel_rfl) (by kernel_rfl) (by kernel_rfl) (fun _ _ _ h => h) (Or.inl ⟨by rfl, ?_⟩) (by assumption) ?_
  rotate_left
  · intro w hSw
    (try dsimp only at hSw)
    go_simp
    try with_reducible rfl
  simp only [Act.put, List.setIfInBounds_toArray, List.set_cons_zero, List.set_cons_succ]
  refine take_d (i := 8) (d := some 25) (v := ?_) rfl rfl (by kernel_rfl) (by kernel_rfl) (by kernel_rfl) (fun _ _ _ h => h) (Or.inl ⟨by rfl, ?_⟩) (by assumption) ?_
  rotate_left
  · intro w hSw
    (try dsimp only at hSw)
    go_simp
    try with_reducible rfl
  simp only [Act.put, List.setIfInBounds_toArray, List.set_cons_zero, List.set_cons_succ]
  refine take_d (i := 9) (d := some 26) (v := ?_) rfl rfl (by kernel_rfl) (by kernel_rfl) (by kernel_rfl) (fun _ _ _ h => h) (Or.inl ⟨by rfl, ?_⟩) (by assumption) ?_
  rotate_left
  · intro w hSw
    (try dsimp only at hSw)
    go_simp
    try with_reducible rfl
  simp only [Act.put, List.setIfInBounds_toArray, List.set_cons_zero, List.set_cons_succ]
  refine take_d (i := 10) (d := some 27) (v := ?_) rfl rfl (by kernel_rfl) (by kernel_rfl) (by kernel_rfl) (fun _ _ _ h => h) (Or.inl ⟨by rfl, ?_⟩) (by assumption) ?_
  rotate_left
  · intro w hSw
    (try dsimp only at hSw)
    go_simp
    try with_reducible rfl
  simp only [Act.put, List.setIfInBounds_toArray, List.set_cons_zero, List.set_cons_succ]
  refine take_d (i := 11) (d := some 28) (v := ?_) rfl rfl (by kernel_rfl) (by kernel_rfl) (by kernel_rfl) (fun _ _ _ h => h) (Or.inl ⟨by rfl, ?_⟩) (by assumption) ?_
  rotate_left
  · intro w hSw
    (try dsimp only at hSw)
    go_simp
    try with_reducible rfl
  simp only [Act.put, List.setIfInBounds_toArray, List.set_cons_zero, List.set_cons_succ]
  refine take_d (i := 12) (d := some 29) (v := ?_) rfl rfl (by kernel_rfl) (by kernel_rfl) (by kernel_rfl) (fun _ _ _ h => h) (Or.inl ⟨by rfl, ?_⟩) (by assumption) ?_
  rotate_left
  · intro w hSw
    (try dsimp only at hSw)
    go_simp
    try with_reducible rfl
  simp only [Act.put, List.setIfInBounds_toArray, List.set_cons_zero, List.set_cons_succ]
  refine wpAnyH_ready (rs := [13]) (by kernel_rfl) (by simp) ?_
  refine AllReadyH.cons rfl (fun K hK => ?_) AllReadyH.nil
  go_simp
  have hU3 : Upd gv w (w.setCell ⟨gv, i, none⟩ (.int .i64 L)).drew := (upd_setCell w gv i (.int .i64 L)).drew
  have hgvb : gv ≠ b := own_apart HIS.out H.out.hd (by decide) gv rfl
  have hI3 : (w.setCell ⟨gv, i, none⟩ (.int .i64 L)).drew.ownsRow B 3 1 (.slice (some ⟨gv, 0, none⟩) (m + 1) vc) (m + 1) ((nmC l.ids).set i (.int .i64 L)) := own_set HIS.out i (.int .i64 L)
  have hD3 := hU3.keep H.out.hd (Ne.symm hgvb)
  have hW3 := own_same HHW.out (fun k hk => hU3.block k (fun e => own_own HHW.out HIS.out (by decide) k hk (by rw [e]; rfl)))
  have hX3 := LF.of_upd (S := LS b (.slice (some ⟨gv, 0, none⟩) (m + 1) vc) (.slice (some ⟨gu, 0, none⟩) (m + 1) uc)) hU3 (.inr (.inl rfl))
  obtain ⟨W3, hW3e⟩ : ∃ W3, (w.setCell ⟨gv, i, none⟩ (.int .i64 L)).drew = W3 := ⟨_, rfl⟩
  rw [hW3e] at hI3 hD3 hW3 hX3 ⊢
  have hLm : ((nmC l.ids).set i (.int .i64 L))[m]? = some (.int .i64 L) := by
    rw [List.getElem?_set]
    split
    · rw [if_pos (by rw [nmC_length, HN.out]; omega)]
    · exact nm_at HL.out
  refine hK.out _ _ ⟨hD3.cell 0 _ (lnC0 _ _ _ _), own_cell hI3 m _ hLm⟩ (fun hHeld => ?_)
  have HI3 := hid' hI3
  have HD3 := hid' hD3
  have HW3 := hid' hW3
  have HX3 := hid' hX3
  clear hK K hU3 hgvb hI3 hD3 hW3 hX3 hW3e hLm c0 cL cA fA HIS HHW HC
  try simp only [Act.put, List.setIfInBounds_toArray, List.set_cons_zero, List.set_cons_succ]
  refine wpAnyH_done (by kernel_rfl) ?_ _
  clear hHeld
  have c1 := HD3.out.cell 1 _ (lnC1 _ _ _ _)
  have cJ := own_cell HW3.out (m * 2) _ (hw_at _ _ _ HJ.out).1
  have cJ2 := own_cell HW3.out (m * 2 + 1) _ (hw_at _ _ _ HJ.out).2
  have cB := own_cell HW3.out (i * 2) _ (hw_at _ _ _ HBi.out).1
  have cB2 := own_cell HW3.out (i * 2 + 1) _ (hw_at _ _ _ HBi.out).2
  have fB := own_free HW3.out (i * 2)
  have fB2 := own_free HW3.out (i * 2 + 1)
  obtain ⟨J1, J2⟩ := J
  simp only at cJ cJ2
  go_wp2_with fail
  refine wp_region_held_drew (S := fun W => W.cell? ⟨b, 1, none⟩ = some (.slice (some ⟨gu, 0, none⟩) (m + 1) uc) ∧ W.cell? ⟨gu, m * 2, none⟩ = some (.int .i64 (J1 : Int)) ∧ W.cell? ⟨gu, m * 2 + 1, none⟩ = some (.bool J2)) (by kernel_rfl) ⟨c1, cJ, cJ2⟩ (fun hHeld => ?_)
  refine take_d (i := 0) (d := some 30) (v := ?_) rfl rfl (by kernel_rfl) (by kernel_rfl) (by kernel_rfl) (fun _ _ _ h => h) (Or.inl ⟨by rfl, ?_⟩) (by assumption) ?_
  rotate_left
  · intro w hSw
    (try dsimp only at hSw)
    go_simp
    try with_reducible rfl
  simp only [Act.put, List.setIfInBounds_toArray, List.set_cons_zero, List.set_cons_succ]
  refine take_d (i := 1) (d := some 31) (v := ?_) rfl rfl (by kernel_rfl) (by kernel_rfl) (by kernel_rfl) (fun _ _ _ h => h) (Or.inl ⟨by rfl, ?_⟩) (by assumption) ?_
  rotate_left
  · intro w hSw
    (try dsimp only at hSw)
    go_simp
    try with_reducible rfl
  simp only [Act.put, List.setIfInBounds_toArray, List.set_cons_zero, List.set_cons_succ]
  refine take_d (i := 2) (d := some 32) (v := ?_) rfl rfl (by kernel_rfl) (by kernel_rfl) (by kernel_rfl) (fun _ _ _ h => h) (Or.inl ⟨by rfl, ?_⟩) (by assumption) ?_
  rotate_left
  · intro w hSw
    (try dsimp only at hSw)
    go_simp
    try with_reducible rfl
  simp only [Act.put, List.setIfInBounds_toArray, List.set_cons_zero, List.set_cons_succ]
  refine take_d (i := 3) (d := some 33) (v := ?_) rfl rfl (by kernel_rfl) (by kernel_rfl) (by kernel_rfl) (fun _ _ _ h => h) (Or.inl ⟨by rfl, ?_⟩) (by assumption) ?_
  rotate_left
  · intro w hSw
    (try dsimp only at hSw)
    go_simp
    try with_reducible rfl
  simp only [Act.put, List.setIfInBounds_toArray, List.set_cons_zero, List.set_cons_succ]
  refine take_d (i := 4) (d := some 34) (v := ?_) rfl rfl (by kernel_rfl) (by kernel_rfl) (by kernel_rfl) (fun _ _ _ h => h) (Or.inl ⟨by rfl, ?_⟩) (by assumption) ?_
  rotate_left
  · intro w hSw
    (try dsimp only at hSw)
    go_simp
    try with_reducible rfl
  simp only [Act.put, List.setIfInBounds_toArray, List.set_cons_zero, List.set_cons_succ]
  refine take_d (i := 5) (d := some 35) (v := ?_) rfl rfl (by kernel_rfl) (by kernel_rfl) (by kernel_rfl) (fun _ _ _ h => h) (Or.inl ⟨by rfl, ?_⟩) (by assumption) ?_
  rotate_left
  · intro w hSw
    (try dsimp only at hSw)
    go_simp
    try with_reducible rfl
  simp only [Act.put, List.setIfInBounds_toArray, List.set_cons_zero, List.set_cons_succ]
  refine take_d (i := 6) (d := some 36) (v := ?_) rfl rfl (by kernel_rfl) (by kernel_rfl) (by kernel_rfl) (fun _ _ _ h => h) (Or.inl ⟨by rfl, ?_⟩) (by assumption) ?_
  rotate_left
  · intro w hSw
    (try dsimp only at hSw)
    go_simp
    try with_reducible rfl
  simp only [Act.put, List.setIfInBounds_toArray, List.set_cons_zero, List.set_cons_succ]
  refine take_d (i := 7) (d := some 37) (v := ?_) rfl rfl (by kernel_rfl) (by kernel_rfl) (by kernel_rfl) (fun _ _ _ h => h) (Or.inl ⟨by rfl, ?_⟩) (by assumption) ?_
  rotate_left
  · intro w hSw
    (try dsimp only at hSw)
    go_simp
    try with_reducible rfl
  simp only [Act.put, List.setIfInBounds_toArray, List.set_cons_zero, List.set_cons_succ]
  refine take_d (i := 8) (d := some 38) (v := ?_) rfl rfl (by kernel_rfl) (by kernel_rfl) (by kernel_rfl) (fun _ _ _ h => h) (Or.inl ⟨by rfl, ?_⟩) (by assumption) ?_
  rotate_left
  · intro w hSw
    (try dsimp only at hSw)
    go_simp
    try with_reducible rfl
  simp only [Act.put, List.setIfInBounds_toArray, List.set_cons_zero, List.set_cons_succ]
  refine take_d (i := 9) (d := some 39) (v := ?_) rfl rfl (by kernel_rfl) (by kernel_rfl) (by kernel_rfl) (fun _ _ _ h => h) (Or.inl ⟨by rfl, ?_⟩) (by assumption) ?_
  rotate_left
  · intro w hSw
    (try dsimp only at hSw)
    go_simp
    try with_reducible rfl
  simp only [Act.put, List.setIfInBounds_toArray, List.set_cons_zero, List.set_cons_succ]
  refine take_d (i := 10) (d := some 40) (v := ?_) rfl rfl (by kernel_rfl) (by kernel_rfl) (by kernel_rfl) (fun _ _ _ h => h) (Or.inl ⟨by rfl, ?_⟩) (by assumption) ?_
  rotate_left
  · intro w hSw
    (try dsimp only at hSw)
    go_simp
    try with_reducible rfl
  simp only [Act.put, List.setIfInBounds_toArray, List.set_cons_zero, List.set_cons_succ]
  refine take_d (i := 11) (d := some 41) (v := ?_) rfl rfl (by kernel_rfl) (by kernel_rfl) (by kernel_rfl) (fun _ _ _ h => h) (Or.inl ⟨by rfl, ?_⟩) (by assumption) ?_
  rotate_left
  · intro w hSw
    (try dsimp only at hSw)
    go_simp
    try with_reducible rfl
  simp only [Act.put, List.setIfInBounds_toArray, List.set_cons_zero, List.set_cons_succ]
  refine take_d (i := 12) (d := some 42) (v := ?_) rfl rfl (by kernel_rfl) (by kernel_rfl) (by kernel_rfl) (fun _ _ _ h => h) (Or.inl ⟨by rfl, ?_⟩) (by assumption) ?_
  rotate_left
  · intro w hSw
    (try dsimp only at hSw)
    go_simp
    try with_reducible rfl
  simp only [Act.put, List.setIfInBounds_toArray, List.set_cons_zero, List.set_cons_succ]
  refine wpAnyH_ready (rs := [13]) (by kernel_rfl) (by simp) ?_
  refine AllReadyH.cons rfl (fun K hK => ?_) AllReadyH.nil
  go_simp
  have hU4 : Upd gu W3 ((W3.setCell ⟨gu, i * 2, none⟩ (.int .i64 (J1 : Int))).setCell ⟨gu, i * 2 + 1, none⟩ (.bool J2)).drew := ((upd_setCell W3 gu (i * 2) _).trans (upd_setCell _ gu (i * 2 + 1) _)).drew
  have hgub : gu ≠ b := own_apart HW3.out HD3.out (by decide) gu rfl
  have hR4 : ((W3.setCell ⟨gu, i * 2, none⟩ (.int .i64 (J1 : Int))).setCell ⟨gu, i * 2 + 1, none⟩ (.bool J2)).drew.ownsRow B 24 2 (.slice (some ⟨gu, 0, none⟩) (m + 1) uc) (m + 1) (((hwC l.how).set (i * 2) (.int .i64 (J1 : Int))).set (i * 2 + 1) (.bool J2)) := own_set (own_set HW3.out (i * 2) (.int .i64 (J1 : Int))) (i * 2 + 1) (.bool J2)
  rw [← hwC_set l.how i Bi.1 J1 Bi.2 J2 HBi.out] at hR4
  have hD4 := hU4.keep HD3.out (Ne.symm hgub)
  have hI4 := own_same HI3.out (fun k hk => hU4.block k (fun e => own_own HI3.out HW3.out (by decide) k hk (by rw [e]; rfl)))
  have hX4 := HX3.out.trans (LF.of_upd (S := LS b (.slice (some ⟨gv, 0, none⟩) (m + 1) vc) (.slice (some ⟨gu, 0, none⟩) (m + 1) uc)) hU4 (.inr (.inr rfl))) (fun _ _ h => h)
  obtain ⟨W4, hW4e⟩ : ∃ W4, ((W3.setCell ⟨gu, i * 2, none⟩ (.int .i64 (J1 : Int))).setCell ⟨gu, i * 2 + 1, none⟩ (.bool J2)).drew = W4 := ⟨_, rfl⟩
  rw [hW4e] at hR4 hD4 hI4 hX4 ⊢
  have hJm : (l.how.set i (J1, J2))[m]? = some (J1, J2) := by
    rw [List.getElem?_set]
    split
    · rw [if_pos (by rw [HNH.out]; omega)]
    · exact HJ.out
  refine hK.out _ _ ⟨hD4.cell 1 _ (lnC1 _ _ _ _), own_cell hR4 _ _ (hw_at _ _ _ hJm).1, own_cell hR4 _ _ (hw_at _ _ _ hJm).2⟩ (fun hHeld => ?_)
  have HR4 := hid' hR4
  have HD4 := hid' hD4
  have HI4 := hid' hI4
  have HX4 := hid' hX4
  clear hK K hU4 hgub hR4 hD4 hI4 hX4 hW4e hJm c1 cJ cJ2 cB cB2 fB fB2 HI3 HD3 HW3 HX3
  try simp only [Act.put, List.setIfInBounds_toArray, List.set_cons_zero, List.set_cons_succ]
  refine wpAnyH_done (by kernel_rfl) ?_ _
  clear hHeld
  have z0 := HD4.out.cell 0 _ (lnC0 _ _ _ _)
  have z1 := HD4.out.cell 1 _ (lnC1 _ _ _ _)
  have f0 := HD4.out.free 0
  have f1 := HD4.out.free 1
  have hcv : m + 1 ≤ vc := by
    rcases HI4.out.2 with ⟨hz, _⟩ | ⟨g', c', cur, h1, _, _, h4, _⟩
    · cases hz
    · injection h1 with _ _ e3
      omega
  have hcu : m + 1 ≤ uc := by
    rcases HR4.out.2 with ⟨hz, _⟩ | ⟨g', c', cur, h1, _, _, h4, _⟩
    · cases hz
    · injection h1 with _ _ e3
      omega
  have hcv2 : (m : Int) ≤ (vc : Int) := by omega
  have hcu2 : (m : Int) ≤ (uc : Int) := by omega
  go_wp2
  go_end0
  have hUz := (upd_setCell W4 b 0 (.slice (some ⟨gv, 0, none⟩) m vc)).trans (upd_setCell _ b 1 (.slice (some ⟨gu, 0, none⟩) m uc))
  have hDz := (HD4.out.set 0 (.slice (some ⟨gv, 0, none⟩) m vc)).set 1 (.slice (some ⟨gu, 0, none⟩) m uc)
  rw [lnC_set0, lnC_set1] at hDz
  have hgvb : gv ≠ b := own_apart HI4.out HD4.out (by decide) gv rfl
  have hgub : gu ≠ b := own_apart HR4.out HD4.out (by decide) gu rfl
  have hIz := own_cut (own_same HI4.out (fun k hk => hUz.block k (by simp [Value.ownBlock] at hk; omega))) (Nat.le_succ m)
  have hRz := own_cut (own_same HR4.out (fun k hk => hUz.block k (by simp [Value.ownBlock] at hk; omega))) (Nat.le_succ m)
  have hXz := HX4.out.trans (LF.of_upd (S := LS b (.slice (some ⟨gv, 0, none⟩) (m + 1) vc) (.slice (some ⟨gu, 0, none⟩) (m + 1) uc)) hUz (.inl rfl)) (fun _ _ h => h)
  have hok := Pr.rem_ok H.out.ok id
  have hs : Pr.rem l id = { l with ids := (l.ids.set i L).take m, how := (l.how.set i (J1, J2)).take m } := by
    unfold Pr.rem
    rw [HP.out]
    simp only [HN.out, HNH.out, Nat.add_sub_cancel]
    rw [List.getD_eq_getElem?_getD, HL.out, List.getD_eq_getElem?_getD, HJ.out]
    rfl
  have hl1 : ((l.ids.set i L).take m).length = m := by rw [List.length_take, List.length_set, HN.out]; omega
  refine ⟨rfl, .slice (some ⟨gv, 0, none⟩) m vc, .slice (some ⟨gu, 0, none⟩) m uc, ⟨⟨H.out.lo, ?_, ?_, ?_, hok⟩, hXz, fun k hk => .inl hk, fun k hk => .inl hk⟩⟩
  · rw [hs]; exact hDz
  · rw [hs]
    simp only [hl1]
    have e : nmC ((l.ids.set i L).take m) = ((nmC l.ids).set i (.int .i64 L)).take (m * 1) := by simp [nmC, List.map_take, List.map_set]
    rw [e]
    exact hIz
  · rw [hs]
    simp only [hl1]
    have e : hwC ((l.how.set i (J1, J2)).take m) = (hwC (l.how.set i (J1, J2))).take (m * 2) := hwC_take _ _
    rw [e]
    exact hRz

end Go.Proofs.YtekpjbhhbklboaaDoor
