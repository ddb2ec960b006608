/-
  The document's Set of one that did not wait: by its contract.
-/
import Derived.Test.YtekpjbhhbklboaaDoorPrB
namespace Go.Proofs.YtekpjbhhbklboaaDoor
open Go.RowKit

/-- A row lies where it lay, or in new memory. -/
def NW (w : World) (v v' : Value) : Prop := ∀ k, v'.ownBlock = some k → v.ownBlock = some k ∨ w.heap.size ≤ k
/-- What a call leaves of a line. -/
structure LP (w w' : World) (B b : Nat) (v u : Value) (l' : Pr.Ln) (v' u' : Value) : Prop where
  lm : LM w' B b l' v' u'
  lf : LF (LS b v u) w w'
  nv : NW w v v'
  nu : NW w u u'

set_option maxHeartbeats 4000000 in
set_option maxRecDepth 20000 in
theorem rset_new (B b : Nat) (l : Pr.Ln) (v u : Value) (id x : Int) (q : Bool) (hp : Pr.pl l.ids id = none) (w : World) (h : LM w B b l v u) (hn : l.ids.length ≤ 8796093022000) :
    Calls Tryd.prog 16 #[.pointer (some ⟨b, 0, none⟩), .int .i64 id, .agg #[.int .i64 x, .bool q]] w fun e w' => e = .returned (.tuple #[]) ∧ ∃ v' u', LP w w' B b v u (Pr.set l id (Pr.kept x, q)) v' u' := by
  obtain ⟨i0, hi, hz0, hz1, hz2⟩ := info_parts infoI
  obtain ⟨p0', hpi, hy0, hy1, hy2⟩ := info_parts infoP
  have HI := hid' hi
  have HZ0 := hid' hz0
  have HZ1 := hid' hz1
  have HZ2 := hid' hz2
  have HP0 := hid' hpi
  have HY0 := hid' hy0
  have HY1 := hid' hy1
  have HY2 := hid' hy2
  clear hi hz0 hz1 hz2 hpi hy0 hy1 hy2
  obtain ⟨n, hnn⟩ : ∃ n, l.ids.length = n := ⟨_, rfl⟩
  have HN := hid' hnn
  obtain ⟨vo, vc, hv⟩ := own_shape h.is
  obtain ⟨uo, uc, hu⟩ := own_shape h.hw
  rw [hnn] at hv hu hn
  subst hv hu
  have HPL : Hid (Pr.plI l.ids id = -1) := hid' (by unfold Pr.plI; rw [hp])
  have HPN := hid' hp
  have H := hid' h
  have HLE : Hid (l.ids.length ≤ 8796093022208) := hid' (by omega)
  clear h hp hnn
  go_enter Tryd.func16, Tryd.ntmps16
  go_wp2_with (refine wpl_box 24 _ rfl rfl #[.int .i64 x, .bool q] (by kernel_rfl) ?_)
  intro pb w0 hg0 ha0 hb0
  have H0 := hid' (H.out.keep hb0)
  have HA0 := hid' ha0
  have HB0 := hid' hb0
  have HG0 := hid' hg0
  clear hg0 ha0 hb0
  go_wp2_with fail
  refine (rplace_any B b l _ _ id (-1) HPL.out _ H0.out HLE.out).mono ?_
  rintro e w1 ⟨rfl, hw1⟩
  subst w1
  have c0 := H0.out.hd.cell 0 _ (lnC0 _ _ _ _)
  have HV : Hid (w0.ownsRow B 3 1 (.slice vo n vc) n (nmC l.ids)) := hid' (by have := H0.out.is; rw [HN.out] at this; exact this)
  go_wp2_with (at_builtin; refine wpList_append_own_at _ rfl _ _ 32 rfl B 3 i0 (.int .i64 0) 1 8 Tryd.underlying32 HI.out HZ0.out HZ1.out HZ2.out rfl (by decide) _ _ _ rfl (own_keep HV.out ((Below.refl _ _).alloc (Nat.le_refl _) _)) ⟨_, 0, none⟩ 1 1 [.int .i64 id] rfl rfl (lit_cells (heap_alloc_last _ _)) (by simp [Value.oneCell']) (by unfold maxLen; omega) (by omega) (by have := H0.out.size; simp; omega) ?_; intro v1 w1 hown1 hgrow1 _ hat1; refine Hid.out ?_)
  have HX1 : Hid (LF (LS b (.slice vo n vc) (.slice uo n uc)) w w1) := hid' ((LF.of_below HB0.out).trans ((LF.of_below (S := LS b (.slice vo n vc) (.slice uo n uc)) ((Below.refl _ w0).alloc (Nat.le_refl _) _)).trans (LF.of_grown hgrow1 (fun k hk => .inr (.inl hk))) (fun _ _ h => h)) (fun _ _ h => h))
  have HD1 : Hid (Ar w1 b 37 (lnC (.slice vo n vc) (.slice uo n uc) l.was l.last)) := hid' (ar_grown (H0.out.hd.keep ((Below.refl _ _).alloc (Nat.le_refl _) _)) hgrow1 (own_apart HV.out H0.out.hd (by decide)))
  have HP1 : Hid (Ar w1 pb 24 #[.int .i64 x, .bool q]) := hid' (ar_grown (HA0.out.keep ((Below.refl _ _).alloc (Nat.le_refl _) _)) hgrow1 (own_apart HV.out HA0.out (by decide)))
  have HU1 : Hid (w1.ownsRow B 24 2 (.slice uo n uc) n (hwC l.how)) := hid' (own_grown (own_keep (by have := H0.out.hw; rw [HN.out] at this; exact this) ((Below.refl _ _).alloc (Nat.le_refl _) _)) hgrow1 (fun k hk => own_own H0.out.hw H0.out.is (by decide) k hk))
  have HV1 := hid' hown1
  have HNV : Hid (NW w (.slice vo n vc) v1) := hid' (fun k hk => by
    rcases hat1 with h1 | h1
    · exact .inl (h1 ▸ hk)
    · rw [h1] at hk
      injection hk with hk
      have := HB0.out.size
      simp at hk
      exact .inr (by omega))
  obtain ⟨v1o, v1c, hv1⟩ := own_shape hown1
  subst hv1
  have c0' := HD1.out.cell 0 _ (lnC0 _ _ _ _)
  have f0 := HD1.out.free 0
  clear hown1 hgrow1 hat1 c0
  refine hid ?_
  go_upto_region 4 with fail
  have hU2 := upd_setCell w1 b 0 (.slice v1o (n + 1) v1c)
  have HD2 : Hid (Ar (w1.setCell ⟨b, 0, none⟩ (.slice v1o (n + 1) v1c)) b 37 (lnC (.slice v1o (n + 1) v1c) (.slice uo n uc) l.was l.last)) := hid' (by have := HD1.out.set 0 (.slice v1o (n + 1) v1c); rw [lnC_set0] at this; exact this)
  have HP2 := hid' (hU2.keep HP1.out (HP1.out.apart' HD1.out (by decide)))
  have HU2 := hid' (own_same HU1.out (fun k hk => hU2.block k (own_apart HU1.out HD1.out (by decide) k hk)))
  have HV2 := hid' (own_same HV1.out (fun k hk => hU2.block k (own_apart HV1.out HD1.out (by decide) k hk)))
  have HX2 := hid' (HX1.out.trans (LF.of_upd (S := LS b (.slice vo n vc) (.slice uo n uc)) hU2 (.inl rfl)) (fun _ _ h => h))
  obtain ⟨w2, hw2⟩ : ∃ w2, w1.setCell ⟨b, 0, none⟩ (.slice v1o (n + 1) v1c) = w2 := ⟨_, rfl⟩
  rw [hw2] at HD2 HP2 HU2 HV2 HX2 ⊢
  clear hU2 hw2 c0' f0 HD1 HP1 HU1 HV1 HX1
  have c1 := HD2.out.cell 1 _ (lnC1 _ _ _ _)
  have p0 := HP2.out.cell 0 _ rfl
  have p1 := HP2.out.cell 1 _ rfl
  refine wp_region_held_drew (S := fun W => W.cell? ⟨pb, 0, none⟩ = some (.int .i64 x) ∧ W.cell? ⟨pb, 1, none⟩ = some (.bool q)) (by kernel_rfl) ⟨p0, p1⟩ (fun hHeld => ?_)
  have HBD : Hid (Below w2.heap.size w2 w2.drew) := hid' ((Below.refl _ w2).drew)
  clear c1
  refine take_d (i := 0) (d := some 22) (v := ?_) rfl rfl (by kernel_rfl) (by kernel_rfl) (by kernel_rfl) (fun _ _ _ h => h) (Or.inl ⟨by rfl, ?_⟩) (by assumption) ?_
  rotate_left
  · intro w hSw
    (try dsimp only at hSw)
    go_simp
    try with_reducible rfl
  simp only [Act.put, List.setIfInBounds_toArray, List.set_cons_zero, List.set_cons_succ]
  refine take_d (i := 1) (d := some 23) (v := ?_) rfl rfl (by kernel_rfl) (by kernel_rfl) (by kernel_rfl) (fun _ _ _ h => h) (Or.inl ⟨by rfl, ?_⟩) (by assumption) ?_
  rotate_left
  · intro w hSw
    (try dsimp only at hSw)
    go_simp
    try with_reducible rfl
  simp only [Act.put, List.setIfInBounds_toArray, List.set_cons_zero, List.set_cons_succ]
  refine take_d (i := 2) (d := some 24) (v := ?_) rfl rfl (by kernel_rfl) (by kernel_rfl) (by kernel_rfl) (fun _ _ _ h => h) (Or.inl ⟨by rfl, ?_⟩) (by assumption) ?_
  rotate_left
  · intro w hSw
    (try dsimp only at hSw)
    go_simp
    try with_reducible rfl
  simp only [Act.put, List.setIfInBounds_toArray, List.set_cons_zero, List.set_cons_succ]
  refine take_d (i := 3) (d := some 25) (v := ?_) rfl rfl (by kernel_rfl) (by kernel_rfl) (by kernel_rfl) (fun _ _ _ h => h) (Or.inl ⟨by rfl, ?_⟩) (by assumption) ?_
  rotate_left
  · intro w hSw
    (try dsimp only at hSw)
    go_simp
    try with_reducible rfl
  simp only [Act.put, List.setIfInBounds_toArray, List.set_cons_zero, List.set_cons_succ]
  refine take_d (i := 5) (d := some 27) (v := ?_) rfl rfl (by kernel_rfl) (by kernel_rfl) (by kernel_rfl) (fun _ _ _ h => h) (Or.inl ⟨by rfl, ?_⟩) (by assumption) ?_
  rotate_left
  · intro w hSw
    (try dsimp only at hSw)
    go_simp
    try with_reducible rfl
  simp only [Act.put, List.setIfInBounds_toArray, List.set_cons_zero, List.set_cons_succ]
  refine wpAnyH_ready (rs := [4, 6]) (by kernel_rfl) (by simp) ?_
  refine AllReadyH.cons (o := { dst := some 26, op := Op.load 33 (Operand.tmp 25), type := 33, pos := "ref.go:71", after := #[{ on := 3, ground := Ground.data }], guard := none }) rfl (fun K hK => ?_) (AllReadyH.cons (o := { dst := some 28, op := Op.call { callee := Callee.value (Operand.func 33), args := #[Operand.tmp 27], argTypes := #[24] }, type := 24, pos := "ref.go:71", after := #[{ on := 5, ground := Ground.data }], guard := none }) rfl (fun K hK => ?_) AllReadyH.nil)
  · have c1x := (HD2.out.keep HBD.out).cell 1 _ (lnC1 _ _ _ _)
    have c1y : w2.drew.cell? ⟨b, 1, none⟩ = some (.slice uo n uc) := c1x
    go_simp
    refine hK.out _ _ (by assumption) (fun hHeld => ?_)
    clear hK K c1x c1y
    try simp only [Act.put, List.setIfInBounds_toArray, List.set_cons_zero, List.set_cons_succ]
    refine wpAnyH_ready (rs := [6]) (by kernel_rfl) (by simp) ?_
    refine AllReadyH.cons (o := { dst := some 28, op := Op.call { callee := Callee.value (Operand.func 33), args := #[Operand.tmp 27], argTypes := #[24] }, type := 24, pos := "ref.go:71", after := #[{ on := 5, ground := Ground.data }], guard := none }) rfl (fun K hK => ?_) AllReadyH.nil
    go_simp
    refine (rkept_any x q _).mono ?_
    rintro e w4 ⟨rfl, hb4⟩
    have hb4' : Below w2.heap.size w2 w4 := below_two ((Below.refl _ w2).drew) hb4
    have HB4 := hid' hb4'
    clear hb4 hb4'
    go_wp2_with fail
    refine hK.out _ _ ⟨(HP2.out.keep HB4.out).cell 0 _ rfl, (HP2.out.keep HB4.out).cell 1 _ rfl⟩ (fun hHeld => ?_)
    clear hK K
    try simp only [Act.put, List.setIfInBounds_toArray, List.set_cons_zero, List.set_cons_succ]
    refine wpAnyH_ready (rs := [7]) (by kernel_rfl) (by simp) ?_
    refine AllReadyH.cons (o := { dst := some 29, op := Op.buildSlice 33 1 #[(0, Operand.tmp 28)], type := 33, pos := "ref.go:71", after := #[{ on := 6, ground := Ground.data }], guard := none }) rfl (fun K hK => ?_) AllReadyH.nil
    refine step_lit rfl 24 1 #[.int .i64 ((Pr.kept x : Nat) : Int), .bool q] (by go_simp) ?_
    intro lb w5 hlb hla hlbb
    have HB5 := hid' (below_two HB4.out hlbb)
    have HL5 := hid' hla
    refine hK.out _ _ ⟨(HP2.out.keep HB5.out).cell 0 _ rfl, (HP2.out.keep HB5.out).cell 1 _ rfl⟩ (fun hHeld => ?_)
    clear hK K hlb hla hlbb
    try simp only [Act.put, List.setIfInBounds_toArray, List.set_cons_zero, List.set_cons_succ]
    refine wpAnyH_ready (rs := [8]) (by kernel_rfl) (by simp) ?_
    refine AllReadyH.cons (o := { dst := some 30, op := Op.call { callee := Callee.builtin Builtin.append, args := #[Operand.tmp 26, Operand.tmp 29], argTypes := #[33, 33] }, type := 33, pos := "ref.go:71", after := #[{ on := 4, ground := Ground.data }, { on := 7, ground := Ground.data }, { on := 6, ground := Ground.chain }], guard := none }) rfl (fun K hK => ?_) AllReadyH.nil
    refine step_app_at rfl _ _ 33 rfl B 24 p0' _ 2 16 Tryd.underlying33 HP0.out HY0.out HY1.out HY2.out rfl (by decide) _ n (hwC l.how) rfl (own_keep HU2.out HB5.out) ⟨lb, 0, none⟩ 1 1 [.int .i64 ((Pr.kept x : Nat) : Int), .bool q] rfl rfl (lit_cells HL5.out) (by simp [Value.oneCell']) (by unfold maxLen; omega) (by omega) (by have h1 := H0.out.size; have h2 := HB0.out.size; have h3 := HX2.out.size; have h4 := HB5.out.size; have h5 := H.out.size; omega) ?_
    intro u6 w6 hown6 hgrow6 hat6
    have HU2' := hid' (own_keep HU2.out HB5.out)
    have HD6 := hid' (ar_grown (HD2.out.keep HB5.out) hgrow6 (own_apart HU2'.out (HD2.out.keep HB5.out) (by decide)))
    have HV6 := hid' (own_grown (own_keep HV2.out HB5.out) hgrow6 (fun k hk => own_own (own_keep HV2.out HB5.out) HU2'.out (by decide) k hk))
    have HU6 := hid' hown6
    have HX6 := hid' (HX2.out.trans ((LF.of_below (S := LS b (.slice vo n vc) (.slice uo n uc)) HB5.out).trans (LF.of_grown hgrow6 (fun k hk => .inr (.inr hk))) (fun _ _ h => h)) (fun _ _ h => h))
    have HNU : Hid (NW w (.slice uo n uc) u6) := hid' (fun k hk => by
      rcases hat6 with h1 | h1
      · exact .inl (h1 ▸ hk)
      · rw [h1] at hk
        injection hk with hk
        have h2 := HB5.out.size
        have h3 := HX2.out.size
        exact .inr (by omega))
    have HP6 := hid' (ar_grown (HP2.out.keep HB5.out) hgrow6 (fun k hk e => by have h1 := own_lt H.out.hw k hk; have h2 := HG0.out; omega))
    obtain ⟨u6o, u6c, hu6⟩ := own_shape hown6
    subst hu6
    have z1 := HD6.out.cell 1 _ (lnC1 _ _ _ _)
    have f1 := HD6.out.free 1
    clear hown6 hgrow6 hat6
    refine hK.out _ _ ⟨HP6.out.cell 0 _ rfl, HP6.out.cell 1 _ rfl⟩ (fun hHeld => ?_)
    clear hK K
    try simp only [Act.put, List.setIfInBounds_toArray, List.set_cons_zero, List.set_cons_succ]
    refine take_d (i := 9) (d := some 31) (v := ?_) rfl rfl (by kernel_rfl) (by kernel_rfl) (by kernel_rfl) (fun _ _ _ h => h) (Or.inl ⟨by rfl, ?_⟩) (by assumption) ?_
    rotate_left
    · intro w hSw
      (try dsimp only at hSw)
      go_simp
      try with_reducible rfl
    simp only [Act.put, List.setIfInBounds_toArray, List.set_cons_zero, List.set_cons_succ]
    refine take_d (i := 10) (d := some 32) (v := ?_) rfl rfl (by kernel_rfl) (by kernel_rfl) (by kernel_rfl) (fun _ _ _ h => h) (Or.inl ⟨by rfl, ?_⟩) (by assumption) ?_
    rotate_left
    · intro w hSw
      (try dsimp only at hSw)
      go_simp
      try with_reducible rfl
    simp only [Act.put, List.setIfInBounds_toArray, List.set_cons_zero, List.set_cons_succ]
    refine wpAnyH_ready (rs := [11]) (by kernel_rfl) (by simp) ?_
    refine AllReadyH.cons rfl (fun K hK => ?_) AllReadyH.nil
    go_simp
    have hU7 := upd_setCell w6 b 1 (.slice u6o (n + 1) u6c)
    have HD7 : Hid (Ar (w6.setCell ⟨b, 1, none⟩ (.slice u6o (n + 1) u6c)) b 37 (lnC (.slice v1o (n + 1) v1c) (.slice u6o (n + 1) u6c) l.was l.last)) := hid' (by have := HD6.out.set 1 (.slice u6o (n + 1) u6c); rw [lnC_set1] at this; exact this)
    have HV7 := hid' (own_same HV6.out (fun k hk => hU7.block k (own_apart HV6.out HD6.out (by decide) k hk)))
    have HU7 := hid' (own_same HU6.out (fun k hk => hU7.block k (own_apart HU6.out HD6.out (by decide) k hk)))
    have HX7 := hid' (HX6.out.trans (LF.of_upd (S := LS b (.slice vo n vc) (.slice uo n uc)) hU7 (.inl rfl)) (fun _ _ h => h))
    have hP7 := hU7.keep HP6.out (HP6.out.apart' HD6.out (by decide))
    refine hK.out _ _ ⟨hP7.cell 0 _ rfl, hP7.cell 1 _ rfl⟩ (fun hHeld => ?_)
    clear hK K hP7
    try simp only [Act.put, List.setIfInBounds_toArray, List.set_cons_zero, List.set_cons_succ]
    refine wpAnyH_done (by kernel_rfl) ?_ _
    clear hU7 z1 f1 hHeld
    go_wp2
    refine bodyPost_ret (results_none rfl _ _ _) rfl ?_
    have hs : Pr.set l id (Pr.kept x, q) = { l with ids := l.ids ++ [id], how := l.how ++ [(Pr.kept x, q)] } := by unfold Pr.set; rw [HPN.out]
    refine ⟨rfl, _, _, ⟨⟨H.out.lo, ?_, ?_, ?_, Pr.set_ok H.out.ok id _ (Pr.kept_le x)⟩, HX7.out, HNV.out, HNU.out⟩⟩
    · rw [hs]; exact HD7.out
    · rw [hs]
      have := HV7.out
      simp only [List.length_append, HN.out, nmC, List.map_append]
      exact this
    · rw [hs]
      have := HU7.out
      have e : hwC (l.how ++ [(Pr.kept x, q)]) = hwC l.how ++ [.int .i64 ((Pr.kept x : Nat) : Int), .bool q] := by simp [hwC]
      simp only [List.length_append, HN.out, e]
      exact this
  · go_simp
    refine (rkept_any x q _).mono ?_
    rintro e w4 ⟨rfl, hb4⟩
    have hb4' : Below w2.heap.size w2 w4 := below_two ((Below.refl _ w2).drew) hb4
    have HB4 := hid' hb4'
    clear hb4 hb4'
    go_wp2_with fail
    refine hK.out _ _ ⟨(HP2.out.keep HB4.out).cell 0 _ rfl, (HP2.out.keep HB4.out).cell 1 _ rfl⟩ (fun hHeld => ?_)
    clear hK K
    try simp only [Act.put, List.setIfInBounds_toArray, List.set_cons_zero, List.set_cons_succ]
    refine wpAnyH_ready (rs := [4, 7]) (by kernel_rfl) (by simp) ?_
    refine AllReadyH.cons (o := { dst := some 26, op := Op.load 33 (Operand.tmp 25), type := 33, pos := "ref.go:71", after := #[{ on := 3, ground := Ground.data }], guard := none }) rfl (fun K hK => ?_) (AllReadyH.cons (o := { dst := some 29, op := Op.buildSlice 33 1 #[(0, Operand.tmp 28)], type := 33, pos := "ref.go:71", after := #[{ on := 6, ground := Ground.data }], guard := none }) rfl (fun K hK => ?_) AllReadyH.nil)
    · have c1x := (HD2.out.keep HB4.out).cell 1 _ (lnC1 _ _ _ _)
      go_simp
      refine hK.out _ _ (by assumption) (fun hHeld => ?_)
      clear hK K c1x
      try simp only [Act.put, List.setIfInBounds_toArray, List.set_cons_zero, List.set_cons_succ]
      refine wpAnyH_ready (rs := [7]) (by kernel_rfl) (by simp) ?_
      refine AllReadyH.cons (o := { dst := some 29, op := Op.buildSlice 33 1 #[(0, Operand.tmp 28)], type := 33, pos := "ref.go:71", after := #[{ on := 6, ground := Ground.data }], guard := none }) rfl (fun K hK => ?_) AllReadyH.nil
      refine step_lit rfl 24 1 #[.int .i64 ((Pr.kept x : Nat) : Int), .bool q] (by go_simp) ?_
      intro lb w5 hlb hla hlbb
      have HB5 := hid' (below_two HB4.out hlbb)
      have HL5 := hid' hla
      refine hK.out _ _ ⟨(HP2.out.keep HB5.out).cell 0 _ rfl, (HP2.out.keep HB5.out).cell 1 _ rfl⟩ (fun hHeld => ?_)
      clear hK K hlb hla hlbb
      try simp only [Act.put, List.setIfInBounds_toArray, List.set_cons_zero, List.set_cons_succ]
      refine wpAnyH_ready (rs := [8]) (by kernel_rfl) (by simp) ?_
      refine AllReadyH.cons (o := { dst := some 30, op := Op.call { callee := Callee.builtin Builtin.append, args := #[Operand.tmp 26, Operand.tmp 29], argTypes := #[33, 33] }, type := 33, pos := "ref.go:71", after := #[{ on := 4, ground := Ground.data }, { on := 7, ground := Ground.data }, { on := 6, ground := Ground.chain }], guard := none }) rfl (fun K hK => ?_) AllReadyH.nil
      refine step_app_at rfl _ _ 33 rfl B 24 p0' _ 2 16 Tryd.underlying33 HP0.out HY0.out HY1.out HY2.out rfl (by decide) _ n (hwC l.how) rfl (own_keep HU2.out HB5.out) ⟨lb, 0, none⟩ 1 1 [.int .i64 ((Pr.kept x : Nat) : Int), .bool q] rfl rfl (lit_cells HL5.out) (by simp [Value.oneCell']) (by unfold maxLen; omega) (by omega) (by have h1 := H0.out.size; have h2 := HB0.out.size; have h3 := HX2.out.size; have h4 := HB5.out.size; have h5 := H.out.size; omega) ?_
      intro u6 w6 hown6 hgrow6 hat6
      have HU2' := hid' (own_keep HU2.out HB5.out)
      have HD6 := hid' (ar_grown (HD2.out.keep HB5.out) hgrow6 (own_apart HU2'.out (HD2.out.keep HB5.out) (by decide)))
      have HV6 := hid' (own_grown (own_keep HV2.out HB5.out) hgrow6 (fun k hk => own_own (own_keep HV2.out HB5.out) HU2'.out (by decide) k hk))
      have HU6 := hid' hown6
      have HX6 := hid' (HX2.out.trans ((LF.of_below (S := LS b (.slice vo n vc) (.slice uo n uc)) HB5.out).trans (LF.of_grown hgrow6 (fun k hk => .inr (.inr hk))) (fun _ _ h => h)) (fun _ _ h => h))
      have HNU : Hid (NW w (.slice uo n uc) u6) := hid' (fun k hk => by
        rcases hat6 with h1 | h1
        · exact .inl (h1 ▸ hk)
        · rw [h1] at hk
          injection hk with hk
          have h2 := HB5.out.size
          have h3 := HX2.out.size
          exact .inr (by omega))
      have HP6 := hid' (ar_grown (HP2.out.keep HB5.out) hgrow6 (fun k hk e => by have h1 := own_lt H.out.hw k hk; have h2 := HG0.out; omega))
      obtain ⟨u6o, u6c, hu6⟩ := own_shape hown6
      subst hu6
      have z1 := HD6.out.cell 1 _ (lnC1 _ _ _ _)
      have f1 := HD6.out.free 1
      clear hown6 hgrow6 hat6
      refine hK.out _ _ ⟨HP6.out.cell 0 _ rfl, HP6.out.cell 1 _ rfl⟩ (fun hHeld => ?_)
      clear hK K
      try simp only [Act.put, List.setIfInBounds_toArray, List.set_cons_zero, List.set_cons_succ]
      refine take_d (i := 9) (d := some 31) (v := ?_) rfl rfl (by kernel_rfl) (by kernel_rfl) (by kernel_rfl) (fun _ _ _ h => h) (Or.inl ⟨by rfl, ?_⟩) (by assumption) ?_
      rotate_left
      · intro w hSw
        (try dsimp only at hSw)
        go_simp
        try with_reducible rfl
      simp only [Act.put, List.setIfInBounds_toArray, List.set_cons_zero, List.set_cons_succ]
      refine take_d (i := 10) (d := some 32) (v := ?_) rfl rfl (by kernel_rfl) (by kernel_rfl) (by kernel_rfl) (fun _ _ _ h => h) (Or.inl ⟨by rfl, ?_⟩) (by assumption) ?_
      rotate_left
      · intro w hSw
        (try dsimp only at hSw)
        go_simp
        try with_reducible rfl
      simp only [Act.put, List.setIfInBounds_toArray, List.set_cons_zero, List.set_cons_succ]
      refine wpAnyH_ready (rs := [11]) (by kernel_rfl) (by simp) ?_
      refine AllReadyH.cons rfl (fun K hK => ?_) AllReadyH.nil
      go_simp
      have hU7 := upd_setCell w6 b 1 (.slice u6o (n + 1) u6c)
      have HD7 : Hid (Ar (w6.setCell ⟨b, 1, none⟩ (.slice u6o (n + 1) u6c)) b 37 (lnC (.slice v1o (n + 1) v1c) (.slice u6o (n + 1) u6c) l.was l.last)) := hid' (by have := HD6.out.set 1 (.slice u6o (n + 1) u6c); rw [lnC_set1] at this; exact this)
      have HV7 := hid' (own_same HV6.out (fun k hk => hU7.block k (own_apart HV6.out HD6.out (by decide) k hk)))
      have HU7 := hid' (own_same HU6.out (fun k hk => hU7.block k (own_apart HU6.out HD6.out (by decide) k hk)))
      have HX7 := hid' (HX6.out.trans (LF.of_upd (S := LS b (.slice vo n vc) (.slice uo n uc)) hU7 (.inl rfl)) (fun _ _ h => h))
      have hP7 := hU7.keep HP6.out (HP6.out.apart' HD6.out (by decide))
      refine hK.out _ _ ⟨hP7.cell 0 _ rfl, hP7.cell 1 _ rfl⟩ (fun hHeld => ?_)
      clear hK K hP7
      try simp only [Act.put, List.setIfInBounds_toArray, List.set_cons_zero, List.set_cons_succ]
      refine wpAnyH_done (by kernel_rfl) ?_ _
      clear hU7 z1 f1 hHeld
      go_wp2
      refine bodyPost_ret (results_none rfl _ _ _) rfl ?_
      have hs : Pr.set l id (Pr.kept x, q) = { l with ids := l.ids ++ [id], how := l.how ++ [(Pr.kept x, q)] } := by unfold Pr.set; rw [HPN.out]
      refine ⟨rfl, _, _, ⟨⟨H.out.lo, ?_, ?_, ?_, Pr.set_ok H.out.ok id _ (Pr.kept_le x)⟩, HX7.out, HNV.out, HNU.out⟩⟩
      · rw [hs]; exact HD7.out
      · rw [hs]
        have := HV7.out
        simp only [List.length_append, HN.out, nmC, List.map_append]
        exact this
      · rw [hs]
        have := HU7.out
        have e : hwC (l.how ++ [(Pr.kept x, q)]) = hwC l.how ++ [.int .i64 ((Pr.kept x : Nat) : Int), .bool q] := by simp [hwC]
        simp only [List.length_append, HN.out, e]
        exact this
    · refine step_lit rfl 24 1 #[.int .i64 ((Pr.kept x : Nat) : Int), .bool q] (by go_simp) ?_
      intro lb w5 hlb hla hlbb
      have HB5 := hid' (below_two HB4.out hlbb)
      have HL5 := hid' hla
      refine hK.out _ _ ⟨(HP2.out.keep HB5.out).cell 0 _ rfl, (HP2.out.keep HB5.out).cell 1 _ rfl⟩ (fun hHeld => ?_)
      clear hK K hlb hla hlbb
      try simp only [Act.put, List.setIfInBounds_toArray, List.set_cons_zero, List.set_cons_succ]
      refine wpAnyH_ready (rs := [4]) (by kernel_rfl) (by simp) ?_
      refine AllReadyH.cons (o := { dst := some 26, op := Op.load 33 (Operand.tmp 25), type := 33, pos := "ref.go:71", after := #[{ on := 3, ground := Ground.data }], guard := none }) rfl (fun K hK => ?_) AllReadyH.nil
      have c1x := (HD2.out.keep HB5.out).cell 1 _ (lnC1 _ _ _ _)
      go_simp
      refine hK.out _ _ (by assumption) (fun hHeld => ?_)
      clear hK K c1x
      try simp only [Act.put, List.setIfInBounds_toArray, List.set_cons_zero, List.set_cons_succ]
      refine wpAnyH_ready (rs := [8]) (by kernel_rfl) (by simp) ?_
      refine AllReadyH.cons (o := { dst := some 30, op := Op.call { callee := Callee.builtin Builtin.append, args := #[Operand.tmp 26, Operand.tmp 29], argTypes := #[33, 33] }, type := 33, pos := "ref.go:71", after := #[{ on := 4, ground := Ground.data }, { on := 7, ground := Ground.data }, { on := 6, ground := Ground.chain }], guard := none }) rfl (fun K hK => ?_) AllReadyH.nil
      refine step_app_at rfl _ _ 33 rfl B 24 p0' _ 2 16 Tryd.underlying33 HP0.out HY0.out HY1.out HY2.out rfl (by decide) _ n (hwC l.how) rfl (own_keep HU2.out HB5.out) ⟨lb, 0, none⟩ 1 1 [.int .i64 ((Pr.kept x : Nat) : Int), .bool q] rfl rfl (lit_cells HL5.out) (by simp [Value.oneCell']) (by unfold maxLen; omega) (by omega) (by have h1 := H0.out.size; have h2 := HB0.out.size; have h3 := HX2.out.size; have h4 := HB5.out.size; have h5 := H.out.size; omega) ?_
      intro u6 w6 hown6 hgrow6 hat6
      have HU2' := hid' (own_keep HU2.out HB5.out)
      have HD6 := hid' (ar_grown (HD2.out.keep HB5.out) hgrow6 (own_apart HU2'.out (HD2.out.keep HB5.out) (by decide)))
      have HV6 := hid' (own_grown (own_keep HV2.out HB5.out) hgrow6 (fun k hk => own_own (own_keep HV2.out HB5.out) HU2'.out (by decide) k hk))
      have HU6 := hid' hown6
      have HX6 := hid' (HX2.out.trans ((LF.of_below (S := LS b (.slice vo n vc) (.slice uo n uc)) HB5.out).trans (LF.of_grown hgrow6 (fun k hk => .inr (.inr hk))) (fun _ _ h => h)) (fun _ _ h => h))
      have HNU : Hid (NW w (.slice uo n uc) u6) := hid' (fun k hk => by
        rcases hat6 with h1 | h1
        · exact .inl (h1 ▸ hk)
        · rw [h1] at hk
          injection hk with hk
          have h2 := HB5.out.size
          have h3 := HX2.out.size
          exact .inr (by omega))
      have HP6 := hid' (ar_grown (HP2.out.keep HB5.out) hgrow6 (fun k hk e => by have h1 := own_lt H.out.hw k hk; have h2 := HG0.out; omega))
      obtain ⟨u6o, u6c, hu6⟩ := own_shape hown6
      subst hu6
      have z1 := HD6.out.cell 1 _ (lnC1 _ _ _ _)
      have f1 := HD6.out.free 1
      clear hown6 hgrow6 hat6
      refine hK.out _ _ ⟨HP6.out.cell 0 _ rfl, HP6.out.cell 1 _ rfl⟩ (fun hHeld => ?_)
      clear hK K
      try simp only [Act.put, List.setIfInBounds_toArray, List.set_cons_zero, List.set_cons_succ]
      refine take_d (i := 9) (d := some 31) (v := ?_) rfl rfl (by kernel_rfl) (by kernel_rfl) (by kernel_rfl) (fun _ _ _ h => h) (Or.inl ⟨by rfl, ?_⟩) (by assumption) ?_
      rotate_left
      · intro w hSw
        (try dsimp only at hSw)
        go_simp
        try with_reducible rfl
      simp only [Act.put, List.setIfInBounds_toArray, List.set_cons_zero, List.set_cons_succ]
      refine take_d (i := 10) (d := some 32) (v := ?_) rfl rfl (by kernel_rfl) (by kernel_rfl) (by kernel_rfl) (fun _ _ _ h => h) (Or.inl ⟨by rfl, ?_⟩) (by assumption) ?_
      rotate_left
      · intro w hSw
        (try dsimp only at hSw)
        go_simp
        try with_reducible rfl
      simp only [Act.put, List.setIfInBounds_toArray, List.set_cons_zero, List.set_cons_succ]
      refine wpAnyH_ready (rs := [11]) (by kernel_rfl) (by simp) ?_
      refine AllReadyH.cons rfl (fun K hK => ?_) AllReadyH.nil
      go_simp
      have hU7 := upd_setCell w6 b 1 (.slice u6o (n + 1) u6c)
      have HD7 : Hid (Ar (w6.setCell ⟨b, 1, none⟩ (.slice u6o (n + 1) u6c)) b 37 (lnC (.slice v1o (n + 1) v1c) (.slice u6o (n + 1) u6c) l.was l.last)) := hid' (by have := HD6.out.set 1 (.slice u6o (n + 1) u6c); rw [lnC_set1] at this; exact this)
      have HV7 := hid' (own_same HV6.out (fun k hk => hU7.block k (own_apart HV6.out HD6.out (by decide) k hk)))
      have HU7 := hid' (own_same HU6.out (fun k hk => hU7.block k (own_apart HU6.out HD6.out (by decide) k hk)))
      have HX7 := hid' (HX6.out.trans (LF.of_upd (S := LS b (.slice vo n vc) (.slice uo n uc)) hU7 (.inl rfl)) (fun _ _ h => h))
      have hP7 := hU7.keep HP6.out (HP6.out.apart' HD6.out (by decide))
      refine hK.out _ _ ⟨hP7.cell 0 _ rfl, hP7.cell 1 _ rfl⟩ (fun hHeld => ?_)
      clear hK K hP7
      try simp only [Act.put, List.setIfInBounds_toArray, List.set_cons_zero, List.set_cons_succ]
      refine wpAnyH_done (by kernel_rfl) ?_ _
      clear hU7 z1 f1 hHeld
      go_wp2
      refine bodyPost_ret (results_none rfl _ _ _) rfl ?_
      have hs : Pr.set l id (Pr.kept x, q) = { l with ids := l.ids ++ [id], how := l.how ++ [(Pr.kept x, q)] } := by unfold Pr.set; rw [HPN.out]
      refine ⟨rfl, _, _, ⟨⟨H.out.lo, ?_, ?_, ?_, Pr.set_ok H.out.ok id _ (Pr.kept_le x)⟩, HX7.out, HNV.out, HNU.out⟩⟩
      · rw [hs]; exact HD7.out
      · rw [hs]
        have := HV7.out
        simp only [List.length_append, HN.out, nmC, List.map_append]
        exact this
      · rw [hs]
        have := HU7.out
        have e : hwC (l.how ++ [(Pr.kept x, q)]) = hwC l.how ++ [.int .i64 ((Pr.kept x : Nat) : Int), .bool q] := by simp [hwC]
        simp only [List.length_append, HN.out, e]
        exact this

end Go.Proofs.YtekpjbhhbklboaaDoor
