/-
  The document's Set of one that waits: by its contract.
-/
import Derived.Test.YtekpjbhhbklboaaDoorPrC
namespace Go.Proofs.YtekpjbhhbklboaaDoor
open Go.RowKit

theorem hwC_set (l : List (Nat × Bool)) (i y m : Nat) (p q : Bool) (h : l[i]? = some (y, p)) : hwC (l.set i (m, q)) = ((hwC l).set (i * 2) (.int .i64 (m : Int))).set (i * 2 + 1) (.bool q) := by
  induction l generalizing i with
  | nil => simp at h
  | cons x r ih =>
    have e : hwC (x :: r) = .int .i64 (x.1 : Int) :: .bool x.2 :: hwC r := rfl
    cases i with
    | zero =>
      simp at h
      subst h
      rfl
    | succ i =>
      simp at h
      have e1 : (i + 1) * 2 = i * 2 + 1 + 1 := by omega
      rw [List.set_cons_succ, e, e1]
      simp only [List.set_cons_succ]
      rw [← ih i h]
      rfl
theorem Upd.trans {b : Nat} {w w1 w2 : World} (h1 : Upd b w w1) (h2 : Upd b w1 w2) : Upd b w w2 :=
  ⟨h2.os.trans h1.os, h2.tape.trans h1.tape, h2.output.trans h1.output, h2.size.trans h1.size, fun k hk => (h2.block k hk).trans (h1.block k hk)⟩
theorem own_set {w : World} {B : Nat} {e : TypeId} {s g n cap : Nat} {xs : List Value} (h : w.ownsRow B e s (.slice (some ⟨g, 0, none⟩) n cap) n xs) (j : Nat) (x : Value) : (w.setCell ⟨g, j, none⟩ x).ownsRow B e s (.slice (some ⟨g, 0, none⟩) n cap) n (xs.set j x) := by
  obtain ⟨h1, h2⟩ := h
  rcases h2 with ⟨hv, _⟩ | ⟨g', cap', cur, hv, hB, hc, hn, hm, hs, ht⟩
  · cases hv
  · injection hv with hv1 _ hv3
    injection hv1 with hv1
    injection hv1 with hv1 _ _
    subst hv1 hv3
    have ha : Ar w g e cur := hc
    refine ⟨by rw [List.length_set]; exact h1, .inr ⟨g, cap, _, rfl, hB, ha.set j x, hn, hm, by rw [Array.size_setIfInBounds]; exact hs, ?_⟩⟩
    rw [← ht, Array.toList_setIfInBounds, List.take_set]

set_option maxHeartbeats 4000000 in
set_option maxRecDepth 20000 in
theorem rset_old (B b : Nat) (l : Pr.Ln) (v u : Value) (id x : Int) (q : Bool) (i : Nat) (hp : Pr.pl l.ids id = some i) (w : World) (h : LM w B b l v u) (hn : l.ids.length ≤ 8796093022000) :
    Calls Tryd.prog 16 #[.pointer (some ⟨b, 0, none⟩), .int .i64 id, .agg #[.int .i64 x, .bool q]] w fun e w' => e = .returned (.tuple #[]) ∧ ∃ v' u', LP w w' B b v u (Pr.set l id (Pr.kept x, q)) v' u' := by
  obtain ⟨n, hnn⟩ : ∃ n, l.ids.length = n := ⟨_, rfl⟩
  have HN := hid' hnn
  have hin : i < n := by rw [← hnn]; exact Pr.pl_lt hp
  obtain ⟨g, uc, hu⟩ : ∃ g uc, u = .slice (some ⟨g, 0, none⟩) n uc := by
    rcases h.hw.2 with ⟨_, h0⟩ | ⟨g, c, cur, h1, _⟩
    · omega
    · exact ⟨g, c, by rw [h1, hnn]⟩
  subst hu
  obtain ⟨vo, vc, hv⟩ := own_shape h.is
  have HVS := hid' hv
  obtain ⟨y, p, hwt, hhow, _⟩ := Pr.wt_at h.ok hp
  have HROW : Hid (∀ W : World, W.ownsRow B 24 2 (.slice (some ⟨g, 0, none⟩) n uc) l.ids.length (hwC l.how) → ∃ cs, Ar W g 24 cs ∧ cs.size = uc * 2 ∧ cs[i * 2]? = some (.int .i64 (y : Int)) ∧ cs[i * 2 + 1]? = some (.bool p)) := hid' (fun W hW => by
    rcases hW.2 with ⟨hz, _⟩ | ⟨g', c, cur, h1, _, h3, h4, _, h6, h7⟩
    · cases hz
    · injection h1 with e1 _ e3
      injection e1 with e1
      injection e1 with e1 _ _
      subst e1 e3
      refine ⟨cur, h3, h6, ?_, ?_⟩
      · have := (hw_at _ _ _ hhow).1
        rw [← h7, List.getElem?_take] at this
        split at this
        · simpa using this
        · cases this
      · have := (hw_at _ _ _ hhow).2
        rw [← h7, List.getElem?_take] at this
        split at this
        · simpa using this
        · cases this)
  have HPL : Hid (Pr.plI l.ids id = (i : Int)) := hid' (by unfold Pr.plI; rw [hp])
  have HPN := hid' hp
  have H := hid' h
  have HLE : Hid (l.ids.length ≤ 8796093022208) := hid' (by omega)
  have hin2 : (i : Int) < (n : Int) := by omega
  have hhow' := hid' hhow
  clear h hp hnn hwt hhow hv
  go_enter Tryd.func16, Tryd.ntmps16
  go_wp2_with (refine wpl_box 24 _ rfl rfl #[.int .i64 x, .bool q] (by kernel_rfl) ?_)
  intro pb w0 hg0 ha0 hb0
  have H0 := hid' (H.out.keep hb0)
  have HA0 := hid' ha0
  have HB0 := hid' hb0
  have HG0 := hid' hg0
  clear hg0 ha0 hb0
  go_wp2_with fail
  refine (rplace_any B b l _ _ id (i : Int) HPL.out _ H0.out HLE.out).mono ?_
  rintro e w1 ⟨rfl, hw1⟩
  subst w1
  have c1 := H0.out.hd.cell 1 _ (lnC1 _ _ _ _)
  have p0 := HA0.out.cell 0 _ rfl
  have p1 := HA0.out.cell 1 _ rfl
  go_wp2_with fail
  refine wp_region_held_drew (S := fun W => W.cell? ⟨b, 1, none⟩ = some (.slice (some ⟨g, 0, none⟩) n uc) ∧ W.cell? ⟨pb, 0, none⟩ = some (.int .i64 x) ∧ W.cell? ⟨pb, 1, none⟩ = some (.bool q)) (by kernel_rfl) ⟨c1, p0, p1⟩ (fun hHeld => ?_)
  refine take_d (i := 0) (d := some 33) (v := ?_) rfl rfl (by kernel_rfl) (by kernel_rfl) (by kernel_rfl) (fun _ _ _ h => h) (Or.inl ⟨by rfl, ?_⟩) (by assumption) ?_
  rotate_left
  · intro w hSw
    (try dsimp only at hSw)
    go_simp
    try with_reducible rfl
  simp only [Act.put, List.setIfInBounds_toArray, List.set_cons_zero, List.set_cons_succ]
  refine take_d (i := 1) (d := some 34) (v := ?_) rfl rfl (by kernel_rfl) (by kernel_rfl) (by kernel_rfl) (fun _ _ _ h => h) (Or.inl ⟨by rfl, ?_⟩) (by assumption) ?_
  rotate_left
  · intro w hSw
    (try dsimp only at hSw)
    go_simp
    try with_reducible rfl
  simp only [Act.put, List.setIfInBounds_toArray, List.set_cons_zero, List.set_cons_succ]
  refine take_d (i := 2) (d := some 35) (v := ?_) rfl rfl (by kernel_rfl) (by kernel_rfl) (by kernel_rfl) (fun _ _ _ h => h) (Or.inl ⟨by rfl, ?_⟩) (by assumption) ?_
  rotate_left
  · intro w hSw
    (try dsimp only at hSw)
    go_simp
    try with_reducible rfl
  simp only [Act.put, List.setIfInBounds_toArray, List.set_cons_zero, List.set_cons_succ]
  refine take_d (i := 3) (d := some 36) (v := ?_) rfl rfl (by kernel_rfl) (by kernel_rfl) (by kernel_rfl) (fun _ _ _ h => h) (Or.inl ⟨by rfl, ?_⟩) (by assumption) ?_
  rotate_left
  · intro w hSw
    (try dsimp only at hSw)
    go_simp
    try with_reducible rfl
  simp only [Act.put, List.setIfInBounds_toArray, List.set_cons_zero, List.set_cons_succ]
  refine take_d (i := 4) (d := some 37) (v := ?_) rfl rfl (by kernel_rfl) (by kernel_rfl) (by kernel_rfl) (fun _ _ _ h => h) (Or.inl ⟨by rfl, ?_⟩) (by assumption) ?_
  rotate_left
  · intro w hSw
    (try dsimp only at hSw)
    go_simp
    try with_reducible rfl
  simp only [Act.put, List.setIfInBounds_toArray, List.set_cons_zero, List.set_cons_succ]
  refine take_d (i := 5) (d := some 38) (v := ?_) rfl rfl (by kernel_rfl) (by kernel_rfl) (by kernel_rfl) (fun _ _ _ h => h) (Or.inl ⟨by rfl, ?_⟩) (by assumption) ?_
  rotate_left
  · intro w hSw
    (try dsimp only at hSw)
    go_simp
    try with_reducible rfl
  simp only [Act.put, List.setIfInBounds_toArray, List.set_cons_zero, List.set_cons_succ]
  refine wpAnyH_ready (rs := [6]) (by kernel_rfl) (by simp) ?_
  refine AllReadyH.cons (o := { dst := some 39, op := Op.call { callee := Callee.value (Operand.func 33), args := #[Operand.tmp 38], argTypes := #[24] }, type := 24, pos := "ref.go:74", after := #[{ on := 5, ground := Ground.data }], guard := none }) rfl (fun K hK => ?_) AllReadyH.nil
  go_simp
  refine (rkept_any x q _).mono ?_
  rintro e w4 ⟨rfl, hb4⟩
  have hb4' : Below w0.heap.size w0 w4 := below_two ((Below.refl _ w0).drew) hb4
  have H4 := hid' (H0.out.keep hb4')
  have HP4 := hid' (HA0.out.keep hb4')
  have HX4 : Hid (LF (LS b v (.slice (some ⟨g, 0, none⟩) n uc)) w w4) := hid' ((LF.of_below HB0.out).trans (LF.of_below (S := LS b v (.slice (some ⟨g, 0, none⟩) n uc)) hb4') (fun _ _ h => h))
  clear hb4 hb4'
  go_wp2_with fail
  refine hK.out _ _ ⟨H4.out.hd.cell 1 _ (lnC1 _ _ _ _), HP4.out.cell 0 _ rfl, HP4.out.cell 1 _ rfl⟩ (fun hHeld => ?_)
  clear hK K
  try simp only [Act.put, List.setIfInBounds_toArray, List.set_cons_zero, List.set_cons_succ]
  refine take_d (i := 7) (d := some 40) (v := ?_) rfl rfl (by kernel_rfl) (by kernel_rfl) (by kernel_rfl) (fun _ _ _ h => h) (Or.inl ⟨by rfl, ?_⟩) (by assumption) ?_
  rotate_left
  · intro w hSw
    (try dsimp only at hSw)
    go_simp
    try with_reducible rfl
  simp only [Act.put, List.setIfInBounds_toArray, List.set_cons_zero, List.set_cons_succ]
  refine wpAnyH_ready (rs := [8]) (by kernel_rfl) (by simp) ?_
  refine AllReadyH.cons rfl (fun K hK => ?_) AllReadyH.nil
  obtain ⟨cs, hcs, hcz, k0, k1⟩ := HROW.out _ H4.out.hw
  have m0 := hcs.cell (i * 2) _ k0
  have m1 := hcs.cell (i * 2 + 1) _ k1
  have g0 := hcs.free (i * 2)
  have g1 := hcs.free (i * 2 + 1)
  go_simp
  have hU : Upd g w4 ((w4.setCell ⟨g, i * 2, none⟩ (.int .i64 ((Pr.kept x : Nat) : Int))).setCell ⟨g, i * 2 + 1, none⟩ (.bool q)) := (upd_setCell w4 g (i * 2) _).trans (upd_setCell _ g (i * 2 + 1) _)
  have hgb : g ≠ b := own_apart H4.out.hw H4.out.hd (by decide) g rfl
  have hgp : g ≠ pb := by have h1 := own_lt H.out.hw g rfl; have h2 := HG0.out; omega
  have hR := own_set (own_set (by have := H4.out.hw; rw [HN.out] at this; exact this) (i * 2) (.int .i64 ((Pr.kept x : Nat) : Int))) (i * 2 + 1) (.bool q)
  have hD := hU.keep H4.out.hd (Ne.symm hgb)
  have hP := hU.keep HP4.out (Ne.symm hgp)
  have hI := own_same H4.out.is (fun k hk => hU.block k (fun e => own_own H4.out.is H4.out.hw (by decide) k hk (by rw [e]; rfl)))
  have HX7 := hid' (HX4.out.trans (LF.of_upd (S := LS b v (.slice (some ⟨g, 0, none⟩) n uc)) hU (.inr (.inr rfl))) (fun _ _ h => h))
  refine hK.out _ _ ⟨hD.cell 1 _ (lnC1 _ _ _ _), hP.cell 0 _ rfl, hP.cell 1 _ rfl⟩ (fun hHeld => ?_)
  have HR := hid' hR
  have HD := hid' hD
  have HIS := hid' hI
  clear hK K hP hU hR hD hI hgb hgp m0 m1 g0 g1 hcs hcz k0 k1
  try simp only [Act.put, List.setIfInBounds_toArray, List.set_cons_zero, List.set_cons_succ]
  refine wpAnyH_done (by kernel_rfl) ?_ _
  clear hHeld
  go_wp2
  go_end0
  have hs : Pr.set l id (Pr.kept x, q) = { l with how := l.how.set i (Pr.kept x, q) } := by unfold Pr.set; rw [HPN.out]
  refine ⟨rfl, v, _, ⟨⟨H.out.lo, ?_, ?_, ?_, Pr.set_ok H.out.ok id _ (Pr.kept_le x)⟩, HX7.out, fun k hk => .inl hk, fun k hk => .inl hk⟩⟩
  · rw [hs]; exact HD.out
  · rw [hs]; exact HIS.out
  · rw [hs]
    simp only
    rw [hwC_set l.how i y (Pr.kept x) p q hhow'.out, HN.out]
    exact HR.out

end Go.Proofs.YtekpjbhhbklboaaDoor
