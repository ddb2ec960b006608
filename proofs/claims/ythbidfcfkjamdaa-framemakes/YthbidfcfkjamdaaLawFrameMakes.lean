/-
  FrameMakes: which frame says what is asked for is as the document says, or there is none.
-/
import Derived.Test.YthbidfcfkjamdaaFrEq
namespace Go.Proofs.Ythbidfcfkjamdaa
open Go.RowKit

theorem hd_cells {w : World} {b : Nat} {T : TypeId} {k fl st : Int} (h : Ar w b T #[.int .i64 k, .int .i64 fl, .int .i64 st]) : w.cell? ⟨b, 0, none⟩ = some (.int .i64 k) ∧ w.cell? ⟨b, 1, none⟩ = some (.int .i64 fl) ∧ w.cell? ⟨b, 2, none⟩ = some (.int .i64 st) := ⟨h.cell 0 _ rfl, h.cell 1 _ rfl, h.cell 2 _ rfl⟩
theorem set_sets {w : World} {b : Nat} {p : Fm.Pt} {v u : Value} (h : Ar w b 27 (ptC p v)) : Ar (w.setCell ⟨b, 7, none⟩ u) b 27 (ptC p u) := by
  have := h.set 7 u
  simpa [ptC] using this
theorem own_shape {w : World} {B : Nat} {e : TypeId} {s : Nat} {v : Value} {n : Nat} {xs : List Value} (h : w.ownsRow B e s v n xs) : ∃ ao cap, v = .slice ao n cap := by
  rcases h.2 with ⟨h, h0⟩ | ⟨g, cap, cur, h, _⟩
  · exact ⟨none, 0, by rw [h, h0]⟩
  · exact ⟨_, _, h⟩
theorem lit_news {w : World} {b : Nat} {T : TypeId} {x y : Value} (h : Ar w b T #[x, y]) : ∀ j u, ([x, y] : List Value)[j]? = some u → w.cell? ((⟨b, 0, none⟩ : Addr).add j) = some u := by
  intro j u hj
  rw [Addr.add_mid, Nat.zero_add]
  exact h.cell j u (by simpa using hj)

set_option maxHeartbeats 16000000 in
set_option maxRecDepth 20000 in
theorem frameMakes_true (k fl st : Int) (p : Fm.Pt) (v : Value) (w : World) (hv : SR w v p.sets) (hb : Fm.Bd p) (hb2 : p.sets.length ≤ 8796093022207) :
    Calls Try.prog 3 #[.agg #[.int .i64 k, .int .i64 fl, .int .i64 st], .agg (ptC p v)] w fun e w' => e = .returned (.bool true) ∧ Below w.heap.size w w' := by
  obtain ⟨i0, hi0, hz0, hz1, hz2⟩ := info_parts' infoSet
  have HI := hid' hi0
  have HZ0 := hid' hz0
  have HZ1 := hid' hz1
  have HZ2 := hid' hz2
  clear hi0 hz0 hz1 hz2
  obtain ⟨ao, cap, hsh⟩ := hv.shape
  subst hsh
  obtain ⟨n, hn⟩ : ∃ n, p.sets.length = n := ⟨_, rfl⟩
  have HN := hid' hn
  have hn43 : n ≤ 8796093022207 := by omega
  obtain ⟨k', fl', st', s, e0, hm⟩ := makes_same k fl st p hb
  have HM := hid' hm
  rw [hn] at hv ⊢
  have HV := hid' hv
  clear hv hm hn hb hb2
  go_enter Try.func3, Try.ntmps3
  go_wp2_with (refine wpl_box 23 _ rfl rfl #[.int .i64 k, .int .i64 fl, .int .i64 st] (by kernel_rfl) ?_)
  intro b1 w1 hg1 ha1 hb1
  refine wpl_box 27 _ rfl rfl (ptC p (.slice ao n cap)) (by kernel_rfl) ?_
  intro b2 w2 hg2 ha2 hb2
  have HH2 := hid' (ha1.keep hb2)
  have HP2 := hid' ha2
  have HB2 := hid' (below_two hb1 hb2)
  obtain ⟨x0, x1, x2, x3, x4, x5, x6, x7⟩ := pt_cells ha2
  clear hg1 ha1 hb1 hg2 ha2 hb2
  go_wp2_with (refine wpl_alloc 27 rfl rfl _ zeroParts ?_)
  intro b5 w3 hg3 ha3 hb3
  refine wpl_stp _ _ rfl rfl b5 p ao n cap (by kernel_rfl) (by kernel_rfl) _ ha3 rfl ?_
  intro w5 ha5 hu5
  have hb5 := hb3.trans (hu5.below hg3)
  have HX5 : Hid (BX w w5 b1 b2 b5 #[.int .i64 k, .int .i64 fl, .int .i64 st] (ptC p (.slice ao n cap)) (ptC p (.slice ao n cap))) := hid' ⟨below_two HB2.out hb5, HH2.out.keep hb5, HP2.out.keep hb5, ha5⟩
  have HG5 : Hid (w.heap.size ≤ b5) := hid' (Nat.le_trans HB2.out.size hg3)
  have HNE : Hid (b2 ≠ b5) := hid' (by have := HP2.out.lt; omega)
  clear x0 x1 x2 x3 x4 x5 x6 x7 hg3 ha3 hb3 ha5 hu5 hb5 HH2 HP2 HB2
  obtain ⟨_, _, _, _, _, _, _, x7⟩ := pt_cells HX5.out.h2
  have c7 : ∀ W, BX w W b1 b2 b5 #[.int .i64 k, .int .i64 fl, .int .i64 st] (ptC p (.slice ao n cap)) (ptC p (.slice ao n cap)) → W.cell? ⟨b2, 7, none⟩ = some (.slice ao n cap) := fun W hW => by
    obtain ⟨_, _, _, _, _, _, _, y7⟩ := pt_cells hW.h2
    exact y7
  have C7 := hid' c7
  clear c7
  go_wp2_with fail
  refine wp_region_held_drew (S := fun W => W.cell? ⟨b2, 7, none⟩ = some (.slice ao n cap)) (by kernel_rfl) x7 (fun hHeld => ?_)
  have HXD := hid' (HX5.out.keep ((Below.refl _ w5).drew))
  clear x7
  refine take_d (i := 1) (d := some 13) (v := ?_) rfl rfl (by kernel_rfl) (by kernel_rfl) (by kernel_rfl) (fun _ _ _ h => h) (Or.inl ⟨by rfl, ?_⟩) (by assumption) ?_
  rotate_left
  · intro w hSw
    (try dsimp only at hSw)
    go_simp
    try with_reducible rfl
  simp only [Act.put, List.setIfInBounds_toArray, List.set_cons_zero, List.set_cons_succ]
  refine take_d (i := 2) (d := some 14) (v := ?_) rfl rfl (by kernel_rfl) (by kernel_rfl) (by kernel_rfl) (fun _ _ _ h => h) (Or.inl ⟨by rfl, ?_⟩) (by assumption) ?_
  rotate_left
  · intro w hSw
    (try dsimp only at hSw)
    go_simp
    try with_reducible rfl
  simp only [Act.put, List.setIfInBounds_toArray, List.set_cons_zero, List.set_cons_succ]
  refine take_d (i := 4) (d := some 16) (v := ?_) rfl rfl (by kernel_rfl) (by kernel_rfl) (by kernel_rfl) (fun _ _ _ h => h) (Or.inl ⟨by rfl, ?_⟩) (by assumption) ?_
  rotate_left
  · intro w hSw
    (try dsimp only at hSw)
    go_simp
    try with_reducible rfl
  simp only [Act.put, List.setIfInBounds_toArray, List.set_cons_zero, List.set_cons_succ]
  refine take_d (i := 7) (d := some 19) (v := ?_) rfl rfl (by kernel_rfl) (by kernel_rfl) (by kernel_rfl) (fun _ _ _ h => h) (Or.inl ⟨by rfl, ?_⟩) (by assumption) ?_
  rotate_left
  · intro w hSw
    (try dsimp only at hSw)
    go_simp
    try with_reducible rfl
  simp only [Act.put, List.setIfInBounds_toArray, List.set_cons_zero, List.set_cons_succ]
  refine take_d (i := 8) (d := some 20) (v := ?_) rfl rfl (by kernel_rfl) (by kernel_rfl) (by kernel_rfl) (fun _ _ _ h => h) (Or.inl ⟨by rfl, ?_⟩) (by assumption) ?_
  rotate_left
  · intro w hSw
    (try dsimp only at hSw)
    go_simp
    try with_reducible rfl
  simp only [Act.put, List.setIfInBounds_toArray, List.set_cons_zero, List.set_cons_succ]
  refine take_d (i := 9) (d := some 21) (v := ?_) rfl rfl (by kernel_rfl) (by kernel_rfl) (by kernel_rfl) (fun _ _ _ h => h) (Or.inl ⟨by rfl, ?_⟩) (by assumption) ?_
  rotate_left
  · intro w hSw
    (try dsimp only at hSw)
    go_simp
    try with_reducible rfl
  simp only [Act.put, List.setIfInBounds_toArray, List.set_cons_zero, List.set_cons_succ]
  refine wpAnyH_ready (rs := [0, 5]) (by kernel_rfl) (by simp) ?_
  refine AllReadyH.cons (o := { dst := some 12, op := Op.buildSlice 25 0 #[], type := 25, pos := "law.go:58", after := #[], guard := none }) rfl (fun K hK => ?_) (AllReadyH.cons (o := { dst := some 17, op := Op.buildSlice 25 1 #[(0, Operand.tmp 16)], type := 25, pos := "law.go:58", after := #[{ on := 4, ground := Ground.data }], guard := none }) rfl (fun K hK => ?_) AllReadyH.nil)
  · refine step_lit rfl 29 0 #[] (by go_simp) ?_
    intro eb we heb hea hebb
    have HXE := hid' (HXD.out.keep hebb)
    have HEE : Hid (we.ownsRow w.heap.size 29 2 (.slice (some ⟨eb, 0, none⟩) 0 0) 0 []) := hid' (own_of_ar hea (by have := HXD.out.bel.size; rw [← heb]; exact this) (by decide) rfl)
    refine hK.out _ _ (C7.out _ HXE.out) (fun hHeld => ?_)
    clear heb hea hebb
    clear hK K
    try simp only [Act.put, List.setIfInBounds_toArray, List.set_cons_zero, List.set_cons_succ]
    refine wpAnyH_ready (rs := [3, 5]) (by kernel_rfl) (by simp) ?_
    refine AllReadyH.cons (o := { dst := some 15, op := Op.call { callee := Callee.builtin Builtin.append, args := #[Operand.tmp 12, Operand.tmp 14], argTypes := #[25, 25] }, type := 25, pos := "law.go:58", after := #[{ on := 0, ground := Ground.data }, { on := 2, ground := Ground.data }], guard := none }) rfl (fun K hK => ?_) (AllReadyH.cons (o := { dst := some 17, op := Op.buildSlice 25 1 #[(0, Operand.tmp 16)], type := 25, pos := "law.go:58", after := #[{ on := 4, ground := Ground.data }], guard := none }) rfl (fun K hK => ?_) AllReadyH.nil)
    · refine step_appS rfl _ _ rfl w.heap.size (.slice (some ⟨eb, 0, none⟩) 0 0) (.slice ao n cap) 0 [] p.sets rfl HEE.out rfl (HV.out.keep HXE.out.bel) (by rw [HN.out]; omega) HXE.out.bel.size ?_
      intro vr wr hrow hgr
      rw [Nat.zero_add, HN.out, List.nil_append] at hrow
      have HXR := hid' (HXE.out.grown HEE.out hgr)
      have HR := hid' hrow
      obtain ⟨vo, vc, hvr⟩ := own_shape hrow
      subst hvr
      refine hK.out _ _ (C7.out _ HXR.out) (fun hHeld => ?_)
      clear hrow hgr
      clear hK K
      try simp only [Act.put, List.setIfInBounds_toArray, List.set_cons_zero, List.set_cons_succ]
      refine wpAnyH_ready (rs := [5]) (by kernel_rfl) (by simp) ?_
      refine AllReadyH.cons (o := { dst := some 17, op := Op.buildSlice 25 1 #[(0, Operand.tmp 16)], type := 25, pos := "law.go:58", after := #[{ on := 4, ground := Ground.data }], guard := none }) rfl (fun K hK => ?_) AllReadyH.nil
      refine step_lit rfl 29 1 #[.int .i64 (-7), .int .i64 0] (by go_simp) ?_
      intro lb wl hlb hla hlbb
      have HXL := hid' (HXR.out.keep hlbb)
      have HL := hid' hla
      have HRL := hid' (own_keep HR.out hlbb)
      refine hK.out _ _ (C7.out _ HXL.out) (fun hHeld => ?_)
      clear hlb hla hlbb
      clear hK K
      try simp only [Act.put, List.setIfInBounds_toArray, List.set_cons_zero, List.set_cons_succ]
      refine wpAnyH_ready (rs := [6]) (by kernel_rfl) (by simp) ?_
      refine AllReadyH.cons (o := { dst := some 18, op := Op.call { callee := Callee.builtin Builtin.append, args := #[Operand.tmp 15, Operand.tmp 17], argTypes := #[25, 25] }, type := 25, pos := "law.go:58", after := #[{ on := 3, ground := Ground.data }, { on := 5, ground := Ground.data }, { on := 3, ground := Ground.chain }], guard := none }) rfl (fun K hK => ?_) AllReadyH.nil
      refine step_app _ rfl _ _ 25 rfl w.heap.size 29 i0 _ 2 16 Try.underlying25 HI.out HZ0.out HZ1.out HZ2.out rfl (by decide) _ n (stCells p.sets) rfl HRL.out ⟨lb, 0, none⟩ 1 1 [.int .i64 (-7), .int .i64 0] rfl rfl (lit_news HL.out) (by simp [Value.oneCell']) (by unfold maxLen; omega) (by omega) HXL.out.bel.size ?_
      intro vq wq hrow hgr
      have HXQ := hid' (HXL.out.grown HRL.out hgr)
      have HQ := hid' hrow
      obtain ⟨g, c, hvq, hcn⟩ : ∃ g c, vq = .slice (some ⟨g, 0, none⟩) (n + 1) c ∧ n + 1 ≤ c := by
        rcases hrow.2 with ⟨_, h0⟩ | ⟨g, c, cur, h1, _, _, h2, _⟩
        · omega
        · exact ⟨g, c, h1, h2⟩
      subst hvq
      have hcn1 : (n : Int) ≤ (c : Int) := by omega
      have hcn2 : n ≤ c := by omega
      refine hK.out _ _ (C7.out _ HXQ.out) (fun hHeld => ?_)
      clear hrow hgr
      clear hK K
      try simp only [Act.put, List.setIfInBounds_toArray, List.set_cons_zero, List.set_cons_succ]
      have z7 := HXQ.out.h5.cell 7 _ rfl
      have f7 := HXQ.out.h5.free 7
      refine take_d (i := 10) (d := some 22) (v := ?_) rfl rfl (by kernel_rfl) (by kernel_rfl) (by kernel_rfl) (fun _ _ _ h => h) (Or.inl ⟨by rfl, ?_⟩) (by assumption) ?_
      rotate_left
      · intro w hSw
        (try dsimp only at hSw)
        go_simp
        try with_reducible rfl
      simp only [Act.put, List.setIfInBounds_toArray, List.set_cons_zero, List.set_cons_succ]
      refine take_d (i := 11) (d := some 23) (v := ?_) rfl rfl (by kernel_rfl) (by kernel_rfl) (by kernel_rfl) (fun _ _ _ h => h) (Or.inl ⟨by rfl, ?_⟩) (by assumption) ?_
      rotate_left
      · intro w hSw
        (try dsimp only at hSw)
        go_simp
        try with_reducible rfl
      simp only [Act.put, List.setIfInBounds_toArray, List.set_cons_zero, List.set_cons_succ]
      refine wpAnyH_ready (rs := [12]) (by kernel_rfl) (by simp) ?_
      refine AllReadyH.cons rfl (fun K hK => ?_) AllReadyH.nil
      go_simp
      have hU := upd_setCell wq b5 7 (.slice (some ⟨g, 0, none⟩) n c)
      have HX7 : Hid (BX w (wq.setCell ⟨b5, 7, none⟩ (.slice (some ⟨g, 0, none⟩) n c)) b1 b2 b5 #[.int .i64 k, .int .i64 fl, .int .i64 st] (ptC p (.slice ao n cap)) (ptC p (.slice (some ⟨g, 0, none⟩) n c))) := hid' ⟨HXQ.out.bel.trans (hU.below HG5.out), hU.keep HXQ.out.h1 (HXQ.out.h1.apart HXQ.out.h5 (by decide)), hU.keep HXQ.out.h2 HNE.out, set_sets HXQ.out.h5⟩
      have HQ7 : Hid ((wq.setCell ⟨b5, 7, none⟩ (.slice (some ⟨g, 0, none⟩) n c)).ownsRow w.heap.size 29 2 (.slice (some ⟨g, 0, none⟩) (n + 1) c) (n + 1) (stCells p.sets ++ [.int .i64 (-7), .int .i64 0])) := hid' (own_same HQ.out (fun k hk => hU.block k (own_apart HQ.out HXQ.out.h5 (by decide) k hk)))
      refine hK.out _ _ (pt_cells HX7.out.h2).2.2.2.2.2.2.2 (fun hHeld => ?_)
      clear hK K hU z7 f7
      try simp only [Act.put, List.setIfInBounds_toArray, List.set_cons_zero, List.set_cons_succ]
      refine wpAnyH_done (by kernel_rfl) ?_ _
      obtain ⟨W7, hW7⟩ : ∃ W7, wq.setCell ⟨b5, 7, none⟩ (.slice (some ⟨g, 0, none⟩) n c) = W7 := ⟨_, rfl⟩
      rw [hW7] at HX7 HQ7
      try rw [hW7]
      clear hW7 hHeld
      obtain ⟨hs7, hc0, hc1⟩ := own_reads (l := p.sets) (by rw [HN.out]; exact HQ7.out)
      rw [HN.out] at hc0 hc1
      have HS7 : Hid (SR W7 (.slice (some ⟨g, 0, none⟩) n c) p.sets) := hid' (by have := hs7 c; rw [HN.out] at this; exact this)
      have HQC : Hid (W7.cell? ⟨g, n * 2, none⟩ = some (.int .i64 (-7)) ∧ W7.cell? ⟨g, n * 2 + 1, none⟩ = some (.int .i64 0) ∧ g < W7.heap.size) := hid' ⟨hc0, hc1, (HQ7.out.lt g rfl).2⟩
      clear hs7 hc0 hc1 HQ7
      obtain ⟨c0, c1, c2⟩ := hd_cells HX7.out.h1
      obtain ⟨x0, x1, x2, x3, x4, x5, x6, x7⟩ := pt_cells HX7.out.h5
      go_wp2_with fail
      refine (HM.out.1 _ _ HS7.out).mono ?_
      rintro e w8 ⟨rfl, hb8⟩
      have HX8 := hid' (HX7.out.keep hb8)
      have HB78 := hid' hb8
      clear hb8 c0 c1 c2 x0 x1 x2 x3 x4 x5 x6 x7
      go_wp2_with (refine wpl_alloc 31 rfl rfl _ zeroFrame ?_)
      intro b6 w9 hg6 ha6 hb9
      refine wpl_stf _ _ rfl rfl b6 k' fl' st' s (by kernel_rfl) (by kernel_rfl) _ ha6 rfl ?_
      intro w10 ha6' hu10
      have hb10 := hb9.trans (hu10.below hg6)
      have HX10 := hid' (HX8.out.keep hb10)
      have HB710 := hid' (below_two HB78.out hb10)
      have HF10 := hid' ha6'
      clear hg6 ha6 hb9 ha6' hu10 hb10 HX8 HB78
      obtain ⟨c0, c1, c2⟩ := hd_cells HX10.out.h1
      obtain ⟨x0, x1, x2, x3, x4, x5, x6, x7⟩ := pt_cells HX10.out.h2
      go_wp2_with fail
      refine (HM.out.2 _ _ (HV.out.keep HX10.out.bel)).mono ?_
      rintro e w11 ⟨rfl, hb11⟩
      have HX11 := hid' (HX10.out.keep hb11)
      have HB711 := hid' (below_two HB710.out hb11)
      have HF11 := hid' (HF10.out.keep hb11)
      clear hb11 c0 c1 c2 x0 x1 x2 x3 x4 x5 x6 x7
      go_wp2_with (refine wpl_alloc 31 rfl rfl _ zeroFrame ?_)
      intro b8 w12 hg8 ha8 hb12
      refine wpl_stf _ _ rfl rfl b8 k' fl' st' s (by kernel_rfl) (by kernel_rfl) _ ha8 rfl ?_
      intro w13 ha8' hu13
      have hb13 := hb12.trans (hu13.below hg8)
      have HX13 := hid' (HX11.out.keep hb13)
      have HB713 := hid' (below_two HB711.out hb13)
      have HF13 := hid' (HF11.out.keep hb13)
      have HW13 := hid' ha8'
      clear hg8 ha8 hb12 ha8' hu13 hb13 HX10 HX11 HB710 HB711 HF10 HF11
      obtain ⟨_, _, _, _, _, _, _, x7⟩ := pt_cells HX13.out.h5
      obtain ⟨_, _, _, _, _, _, _, y7⟩ := pt_cells HX13.out.h2
      have hcn3 : (n : Int) + 1 ≤ (c : Int) := by omega
      go_wp2_with fail
      refine (awake7 _).mono ?_
      rintro e w14 ⟨rfl, hb14⟩
      have HX14 := hid' (HX13.out.keep hb14)
      have HB714 := hid' (below_two HB713.out hb14)
      have HF14 := hid' (HF13.out.keep hb14)
      have HW14 := hid' (HW13.out.keep hb14)
      clear hb14 x7 y7
      obtain ⟨d0, d1, d2, d3⟩ := frC_cells HF14.out
      obtain ⟨g0, g1, g2, g3⟩ := frC_cells HW14.out
      obtain ⟨x0, x1, x2, x3, x4, x5, x6, x7⟩ := pt_cells HX14.out.h5
      obtain ⟨y0, y1, y2, y3, y4, y5, y6, y7⟩ := pt_cells HX14.out.h2
      have e1 : ∀ W, (binOp .eql 31 (.agg #[.int .i64 k', .int .i64 fl', .int .i64 st', .string ⟨s.toArray⟩]) (.agg #[.int .i64 k', .int .i64 fl', .int .i64 st', .string ⟨s.toArray⟩])).run Try.prog W = .ok (.bool true) W := fun W => by rw [eq_frame]; simp
      have hng := noGuardF
      have hng2 := noGuardS
      have e2 : ∀ W, (binOp .eql 29 (.agg #[.int .i64 (-7), .int .i64 0]) (.agg #[.int .i64 (-7), .int .i64 0])).run Try.prog W = .ok (.bool true) W := fun W => by rw [eq_set]; rfl
      go_wp2_with fail
      refine (csame_yes p _ _ _ (HS7.out.keep HB714.out) (HV.out.keep HX14.out.bel) (by rw [HN.out]; omega)).mono ?_
      rintro e w15 ⟨rfl, hb15⟩
      have HX15 := hid' (HX14.out.keep hb15)
      have HB715 := hid' (below_two HB714.out hb15)
      clear hb15 d0 d1 d2 d3 g0 g1 g2 g3 x0 x1 x2 x3 x4 x5 x6 x7 y0 y1 y2 y3 y4 y5 y6 y7 e1
      obtain ⟨_, _, _, _, _, _, _, y7⟩ := pt_cells HX15.out.h2
      have m0 : w15.cell? ((⟨g, 0, none⟩ : Addr).add (n * 2)) = some (.int .i64 (-7)) := by
        rw [Addr.add_mid, Nat.zero_add]
        exact (HB715.out.cell (p := ⟨g, n * 2, none⟩) HQC.out.2.2).trans HQC.out.1
      have m1 : w15.cell? ⟨((⟨g, 0, none⟩ : Addr).add (n * 2)).block, ((⟨g, 0, none⟩ : Addr).add (n * 2)).off + 1, none⟩ = some (.int .i64 0) := by
        rw [Addr.add_mid, Nat.zero_add]
        exact (HB715.out.cell (p := ⟨g, n * 2 + 1, none⟩) HQC.out.2.2).trans HQC.out.2.1
      have m2 : w15.cell? ⟨g, n * 2, none⟩ = some (.int .i64 (-7)) := (HB715.out.cell (p := ⟨g, n * 2, none⟩) HQC.out.2.2).trans HQC.out.1
      have m3 : w15.cell? ⟨g, n * 2 + 1, none⟩ = some (.int .i64 0) := (HB715.out.cell (p := ⟨g, n * 2 + 1, none⟩) HQC.out.2.2).trans HQC.out.2.1
      have hidx : (n : Int) < (n : Int) + 1 := by omega
      go_wp2
      go_ret
      exact ⟨rfl, HX15.out.bel⟩
    · refine step_lit rfl 29 1 #[.int .i64 (-7), .int .i64 0] (by go_simp) ?_
      intro lb wl hlb hla hlbb
      have HXL := hid' (HXE.out.keep hlbb)
      have HL := hid' hla
      have HEL := hid' (own_keep HEE.out hlbb)
      have HNEL : Hid (lb ≠ eb) := hid' (by have := (HEE.out.lt eb rfl).2; rw [← hlb]; exact Nat.ne_of_gt this)
      refine hK.out _ _ (C7.out _ HXL.out) (fun hHeld => ?_)
      clear hlb hla hlbb
      clear hK K
      try simp only [Act.put, List.setIfInBounds_toArray, List.set_cons_zero, List.set_cons_succ]
      refine wpAnyH_ready (rs := [3]) (by kernel_rfl) (by simp) ?_
      refine AllReadyH.cons (o := { dst := some 15, op := Op.call { callee := Callee.builtin Builtin.append, args := #[Operand.tmp 12, Operand.tmp 14], argTypes := #[25, 25] }, type := 25, pos := "law.go:58", after := #[{ on := 0, ground := Ground.data }, { on := 2, ground := Ground.data }], guard := none }) rfl (fun K hK => ?_) AllReadyH.nil
      refine step_appS rfl _ _ rfl w.heap.size (.slice (some ⟨eb, 0, none⟩) 0 0) (.slice ao n cap) 0 [] p.sets rfl HEL.out rfl (HV.out.keep HXL.out.bel) (by rw [HN.out]; omega) HXL.out.bel.size ?_
      intro vr wr hrow hgr
      rw [Nat.zero_add, HN.out, List.nil_append] at hrow
      have HXR := hid' (HXL.out.grown HEL.out hgr)
      have HR := hid' hrow
      have HLR := hid' (ar_grown HL.out hgr (fun k hk e => HNEL.out (by simp [Value.ownBlock] at hk; omega)))
      obtain ⟨vo, vc, hvr⟩ := own_shape hrow
      subst hvr
      refine hK.out _ _ (C7.out _ HXR.out) (fun hHeld => ?_)
      clear hrow hgr
      clear hK K
      try simp only [Act.put, List.setIfInBounds_toArray, List.set_cons_zero, List.set_cons_succ]
      refine wpAnyH_ready (rs := [6]) (by kernel_rfl) (by simp) ?_
      refine AllReadyH.cons (o := { dst := some 18, op := Op.call { callee := Callee.builtin Builtin.append, args := #[Operand.tmp 15, Operand.tmp 17], argTypes := #[25, 25] }, type := 25, pos := "law.go:58", after := #[{ on := 3, ground := Ground.data }, { on := 5, ground := Ground.data }, { on := 3, ground := Ground.chain }], guard := none }) rfl (fun K hK => ?_) AllReadyH.nil
      refine step_app _ rfl _ _ 25 rfl w.heap.size 29 i0 _ 2 16 Try.underlying25 HI.out HZ0.out HZ1.out HZ2.out rfl (by decide) _ n (stCells p.sets) rfl HR.out ⟨lb, 0, none⟩ 1 1 [.int .i64 (-7), .int .i64 0] rfl rfl (lit_news HLR.out) (by simp [Value.oneCell']) (by unfold maxLen; omega) (by omega) HXR.out.bel.size ?_
      intro vq wq hrow hgr
      have HXQ := hid' (HXR.out.grown HR.out hgr)
      have HQ := hid' hrow
      obtain ⟨g, c, hvq, hcn⟩ : ∃ g c, vq = .slice (some ⟨g, 0, none⟩) (n + 1) c ∧ n + 1 ≤ c := by
        rcases hrow.2 with ⟨_, h0⟩ | ⟨g, c, cur, h1, _, _, h2, _⟩
        · omega
        · exact ⟨g, c, h1, h2⟩
      subst hvq
      have hcn1 : (n : Int) ≤ (c : Int) := by omega
      have hcn2 : n ≤ c := by omega
      refine hK.out _ _ (C7.out _ HXQ.out) (fun hHeld => ?_)
      clear hrow hgr
      clear hK K
      try simp only [Act.put, List.setIfInBounds_toArray, List.set_cons_zero, List.set_cons_succ]
      have z7 := HXQ.out.h5.cell 7 _ rfl
      have f7 := HXQ.out.h5.free 7
      refine take_d (i := 10) (d := some 22) (v := ?_) rfl rfl (by kernel_rfl) (by kernel_rfl) (by kernel_rfl) (fun _ _ _ h => h) (Or.inl ⟨by rfl, ?_⟩) (by assumption) ?_
      rotate_left
      · intro w hSw
        (try dsimp only at hSw)
        go_simp
        try with_reducible rfl
      simp only [Act.put, List.setIfInBounds_toArray, List.set_cons_zero, List.set_cons_succ]
      refine take_d (i := 11) (d := some 23) (v := ?_) rfl rfl (by kernel_rfl) (by kernel_rfl) (by kernel_rfl) (fun _ _ _ h => h) (Or.inl ⟨by rfl, ?_⟩) (by assumption) ?_
      rotate_left
      · intro w hSw
        (try dsimp only at hSw)
        go_simp
        try with_reducible rfl
      simp only [Act.put, List.setIfInBounds_toArray, List.set_cons_zero, List.set_cons_succ]
      refine wpAnyH_ready (rs := [12]) (by kernel_rfl) (by simp) ?_
      refine AllReadyH.cons rfl (fun K hK => ?_) AllReadyH.nil
      go_simp
      have hU := upd_setCell wq b5 7 (.slice (some ⟨g, 0, none⟩) n c)
      have HX7 : Hid (BX w (wq.setCell ⟨b5, 7, none⟩ (.slice (some ⟨g, 0, none⟩) n c)) b1 b2 b5 #[.int .i64 k, .int .i64 fl, .int .i64 st] (ptC p (.slice ao n cap)) (ptC p (.slice (some ⟨g, 0, none⟩) n c))) := hid' ⟨HXQ.out.bel.trans (hU.below HG5.out), hU.keep HXQ.out.h1 (HXQ.out.h1.apart HXQ.out.h5 (by decide)), hU.keep HXQ.out.h2 HNE.out, set_sets HXQ.out.h5⟩
      have HQ7 : Hid ((wq.setCell ⟨b5, 7, none⟩ (.slice (some ⟨g, 0, none⟩) n c)).ownsRow w.heap.size 29 2 (.slice (some ⟨g, 0, none⟩) (n + 1) c) (n + 1) (stCells p.sets ++ [.int .i64 (-7), .int .i64 0])) := hid' (own_same HQ.out (fun k hk => hU.block k (own_apart HQ.out HXQ.out.h5 (by decide) k hk)))
      refine hK.out _ _ (pt_cells HX7.out.h2).2.2.2.2.2.2.2 (fun hHeld => ?_)
      clear hK K hU z7 f7
      try simp only [Act.put, List.setIfInBounds_toArray, List.set_cons_zero, List.set_cons_succ]
      refine wpAnyH_done (by kernel_rfl) ?_ _
      obtain ⟨W7, hW7⟩ : ∃ W7, wq.setCell ⟨b5, 7, none⟩ (.slice (some ⟨g, 0, none⟩) n c) = W7 := ⟨_, rfl⟩
      rw [hW7] at HX7 HQ7
      try rw [hW7]
      clear hW7 hHeld
      obtain ⟨hs7, hc0, hc1⟩ := own_reads (l := p.sets) (by rw [HN.out]; exact HQ7.out)
      rw [HN.out] at hc0 hc1
      have HS7 : Hid (SR W7 (.slice (some ⟨g, 0, none⟩) n c) p.sets) := hid' (by have := hs7 c; rw [HN.out] at this; exact this)
      have HQC : Hid (W7.cell? ⟨g, n * 2, none⟩ = some (.int .i64 (-7)) ∧ W7.cell? ⟨g, n * 2 + 1, none⟩ = some (.int .i64 0) ∧ g < W7.heap.size) := hid' ⟨hc0, hc1, (HQ7.out.lt g rfl).2⟩
      clear hs7 hc0 hc1 HQ7
      obtain ⟨c0, c1, c2⟩ := hd_cells HX7.out.h1
      obtain ⟨x0, x1, x2, x3, x4, x5, x6, x7⟩ := pt_cells HX7.out.h5
      go_wp2_with fail
      refine (HM.out.1 _ _ HS7.out).mono ?_
      rintro e w8 ⟨rfl, hb8⟩
      have HX8 := hid' (HX7.out.keep hb8)
      have HB78 := hid' hb8
      clear hb8 c0 c1 c2 x0 x1 x2 x3 x4 x5 x6 x7
      go_wp2_with (refine wpl_alloc 31 rfl rfl _ zeroFrame ?_)
      intro b6 w9 hg6 ha6 hb9
      refine wpl_stf _ _ rfl rfl b6 k' fl' st' s (by kernel_rfl) (by kernel_rfl) _ ha6 rfl ?_
      intro w10 ha6' hu10
      have hb10 := hb9.trans (hu10.below hg6)
      have HX10 := hid' (HX8.out.keep hb10)
      have HB710 := hid' (below_two HB78.out hb10)
      have HF10 := hid' ha6'
      clear hg6 ha6 hb9 ha6' hu10 hb10 HX8 HB78
      obtain ⟨c0, c1, c2⟩ := hd_cells HX10.out.h1
      obtain ⟨x0, x1, x2, x3, x4, x5, x6, x7⟩ := pt_cells HX10.out.h2
      go_wp2_with fail
      refine (HM.out.2 _ _ (HV.out.keep HX10.out.bel)).mono ?_
      rintro e w11 ⟨rfl, hb11⟩
      have HX11 := hid' (HX10.out.keep hb11)
      have HB711 := hid' (below_two HB710.out hb11)
      have HF11 := hid' (HF10.out.keep hb11)
      clear hb11 c0 c1 c2 x0 x1 x2 x3 x4 x5 x6 x7
      go_wp2_with (refine wpl_alloc 31 rfl rfl _ zeroFrame ?_)
      intro b8 w12 hg8 ha8 hb12
      refine wpl_stf _ _ rfl rfl b8 k' fl' st' s (by kernel_rfl) (by kernel_rfl) _ ha8 rfl ?_
      intro w13 ha8' hu13
      have hb13 := hb12.trans (hu13.below hg8)
      have HX13 := hid' (HX11.out.keep hb13)
      have HB713 := hid' (below_two HB711.out hb13)
      have HF13 := hid' (HF11.out.keep hb13)
      have HW13 := hid' ha8'
      clear hg8 ha8 hb12 ha8' hu13 hb13 HX10 HX11 HB710 HB711 HF10 HF11
      obtain ⟨_, _, _, _, _, _, _, x7⟩ := pt_cells HX13.out.h5
      obtain ⟨_, _, _, _, _, _, _, y7⟩ := pt_cells HX13.out.h2
      have hcn3 : (n : Int) + 1 ≤ (c : Int) := by omega
      go_wp2_with fail
      refine (awake7 _).mono ?_
      rintro e w14 ⟨rfl, hb14⟩
      have HX14 := hid' (HX13.out.keep hb14)
      have HB714 := hid' (below_two HB713.out hb14)
      have HF14 := hid' (HF13.out.keep hb14)
      have HW14 := hid' (HW13.out.keep hb14)
      clear hb14 x7 y7
      obtain ⟨d0, d1, d2, d3⟩ := frC_cells HF14.out
      obtain ⟨g0, g1, g2, g3⟩ := frC_cells HW14.out
      obtain ⟨x0, x1, x2, x3, x4, x5, x6, x7⟩ := pt_cells HX14.out.h5
      obtain ⟨y0, y1, y2, y3, y4, y5, y6, y7⟩ := pt_cells HX14.out.h2
      have e1 : ∀ W, (binOp .eql 31 (.agg #[.int .i64 k', .int .i64 fl', .int .i64 st', .string ⟨s.toArray⟩]) (.agg #[.int .i64 k', .int .i64 fl', .int .i64 st', .string ⟨s.toArray⟩])).run Try.prog W = .ok (.bool true) W := fun W => by rw [eq_frame]; simp
      have hng := noGuardF
      have hng2 := noGuardS
      have e2 : ∀ W, (binOp .eql 29 (.agg #[.int .i64 (-7), .int .i64 0]) (.agg #[.int .i64 (-7), .int .i64 0])).run Try.prog W = .ok (.bool true) W := fun W => by rw [eq_set]; rfl
      go_wp2_with fail
      refine (csame_yes p _ _ _ (HS7.out.keep HB714.out) (HV.out.keep HX14.out.bel) (by rw [HN.out]; omega)).mono ?_
      rintro e w15 ⟨rfl, hb15⟩
      have HX15 := hid' (HX14.out.keep hb15)
      have HB715 := hid' (below_two HB714.out hb15)
      clear hb15 d0 d1 d2 d3 g0 g1 g2 g3 x0 x1 x2 x3 x4 x5 x6 x7 y0 y1 y2 y3 y4 y5 y6 y7 e1
      obtain ⟨_, _, _, _, _, _, _, y7⟩ := pt_cells HX15.out.h2
      have m0 : w15.cell? ((⟨g, 0, none⟩ : Addr).add (n * 2)) = some (.int .i64 (-7)) := by
        rw [Addr.add_mid, Nat.zero_add]
        exact (HB715.out.cell (p := ⟨g, n * 2, none⟩) HQC.out.2.2).trans HQC.out.1
      have m1 : w15.cell? ⟨((⟨g, 0, none⟩ : Addr).add (n * 2)).block, ((⟨g, 0, none⟩ : Addr).add (n * 2)).off + 1, none⟩ = some (.int .i64 0) := by
        rw [Addr.add_mid, Nat.zero_add]
        exact (HB715.out.cell (p := ⟨g, n * 2 + 1, none⟩) HQC.out.2.2).trans HQC.out.2.1
      have m2 : w15.cell? ⟨g, n * 2, none⟩ = some (.int .i64 (-7)) := (HB715.out.cell (p := ⟨g, n * 2, none⟩) HQC.out.2.2).trans HQC.out.1
      have m3 : w15.cell? ⟨g, n * 2 + 1, none⟩ = some (.int .i64 0) := (HB715.out.cell (p := ⟨g, n * 2 + 1, none⟩) HQC.out.2.2).trans HQC.out.2.1
      have hidx : (n : Int) < (n : Int) + 1 := by omega
      go_wp2
      go_ret
      exact ⟨rfl, HX15.out.bel⟩
  · refine step_lit rfl 29 1 #[.int .i64 (-7), .int .i64 0] (by go_simp) ?_
    intro lb wl hlb hla hlbb
    have HXL := hid' (HXD.out.keep hlbb)
    have HL := hid' hla
    refine hK.out _ _ (C7.out _ HXL.out) (fun hHeld => ?_)
    clear hlb hla hlbb
    clear hK K
    try simp only [Act.put, List.setIfInBounds_toArray, List.set_cons_zero, List.set_cons_succ]
    refine wpAnyH_ready (rs := [0]) (by kernel_rfl) (by simp) ?_
    refine AllReadyH.cons (o := { dst := some 12, op := Op.buildSlice 25 0 #[], type := 25, pos := "law.go:58", after := #[], guard := none }) rfl (fun K hK => ?_) AllReadyH.nil
    refine step_lit rfl 29 0 #[] (by go_simp) ?_
    intro eb we heb hea hebb
    have HXE := hid' (HXL.out.keep hebb)
    have HEE : Hid (we.ownsRow w.heap.size 29 2 (.slice (some ⟨eb, 0, none⟩) 0 0) 0 []) := hid' (own_of_ar hea (by have := HXL.out.bel.size; rw [← heb]; exact this) (by decide) rfl)
    have HLE := hid' (HL.out.keep hebb)
    have HNEL : Hid (lb ≠ eb) := hid' (by have := HL.out.lt; rw [← heb]; exact Nat.ne_of_lt this)
    refine hK.out _ _ (C7.out _ HXE.out) (fun hHeld => ?_)
    clear heb hea hebb
    clear hK K
    try simp only [Act.put, List.setIfInBounds_toArray, List.set_cons_zero, List.set_cons_succ]
    refine wpAnyH_ready (rs := [3]) (by kernel_rfl) (by simp) ?_
    refine AllReadyH.cons (o := { dst := some 15, op := Op.call { callee := Callee.builtin Builtin.append, args := #[Operand.tmp 12, Operand.tmp 14], argTypes := #[25, 25] }, type := 25, pos := "law.go:58", after := #[{ on := 0, ground := Ground.data }, { on := 2, ground := Ground.data }], guard := none }) rfl (fun K hK => ?_) AllReadyH.nil
    refine step_appS rfl _ _ rfl w.heap.size (.slice (some ⟨eb, 0, none⟩) 0 0) (.slice ao n cap) 0 [] p.sets rfl HEE.out rfl (HV.out.keep HXE.out.bel) (by rw [HN.out]; omega) HXE.out.bel.size ?_
    intro vr wr hrow hgr
    rw [Nat.zero_add, HN.out, List.nil_append] at hrow
    have HXR := hid' (HXE.out.grown HEE.out hgr)
    have HR := hid' hrow
    have HLR := hid' (ar_grown HLE.out hgr (fun k hk e => HNEL.out (by simp [Value.ownBlock] at hk; omega)))
    obtain ⟨vo, vc, hvr⟩ := own_shape hrow
    subst hvr
    refine hK.out _ _ (C7.out _ HXR.out) (fun hHeld => ?_)
    clear hrow hgr
    clear hK K
    try simp only [Act.put, List.setIfInBounds_toArray, List.set_cons_zero, List.set_cons_succ]
    refine wpAnyH_ready (rs := [6]) (by kernel_rfl) (by simp) ?_
    refine AllReadyH.cons (o := { dst := some 18, op := Op.call { callee := Callee.builtin Builtin.append, args := #[Operand.tmp 15, Operand.tmp 17], argTypes := #[25, 25] }, type := 25, pos := "law.go:58", after := #[{ on := 3, ground := Ground.data }, { on := 5, ground := Ground.data }, { on := 3, ground := Ground.chain }], guard := none }) rfl (fun K hK => ?_) AllReadyH.nil
    refine step_app _ rfl _ _ 25 rfl w.heap.size 29 i0 _ 2 16 Try.underlying25 HI.out HZ0.out HZ1.out HZ2.out rfl (by decide) _ n (stCells p.sets) rfl HR.out ⟨lb, 0, none⟩ 1 1 [.int .i64 (-7), .int .i64 0] rfl rfl (lit_news HLR.out) (by simp [Value.oneCell']) (by unfold maxLen; omega) (by omega) HXR.out.bel.size ?_
    intro vq wq hrow hgr
    have HXQ := hid' (HXR.out.grown HR.out hgr)
    have HQ := hid' hrow
    obtain ⟨g, c, hvq, hcn⟩ : ∃ g c, vq = .slice (some ⟨g, 0, none⟩) (n + 1) c ∧ n + 1 ≤ c := by
      rcases hrow.2 with ⟨_, h0⟩ | ⟨g, c, cur, h1, _, _, h2, _⟩
      · omega
      · exact ⟨g, c, h1, h2⟩
    subst hvq
    have hcn1 : (n : Int) ≤ (c : Int) := by omega
    have hcn2 : n ≤ c := by omega
    refine hK.out _ _ (C7.out _ HXQ.out) (fun hHeld => ?_)
    clear hrow hgr
    clear hK K
    try simp only [Act.put, List.setIfInBounds_toArray, List.set_cons_zero, List.set_cons_succ]
    have z7 := HXQ.out.h5.cell 7 _ rfl
    have f7 := HXQ.out.h5.free 7
    refine take_d (i := 10) (d := some 22) (v := ?_) rfl rfl (by kernel_rfl) (by kernel_rfl) (by kernel_rfl) (fun _ _ _ h => h) (Or.inl ⟨by rfl, ?_⟩) (by assumption) ?_
    rotate_left
    · intro w hSw
      (try dsimp only at hSw)
      go_simp
      try with_reducible rfl
    simp only [Act.put, List.setIfInBounds_toArray, List.set_cons_zero, List.set_cons_succ]
    refine take_d (i := 11) (d := some 23) (v := ?_) rfl rfl (by kernel_rfl) (by kernel_rfl) (by kernel_rfl) (fun _ _ _ h => h) (Or.inl ⟨by rfl, ?_⟩) (by assumption) ?_
    rotate_left
    · intro w hSw
      (try dsimp only at hSw)
      go_simp
      try with_reducible rfl
    simp only [Act.put, List.setIfInBounds_toArray, List.set_cons_zero, List.set_cons_succ]
    refine wpAnyH_ready (rs := [12]) (by kernel_rfl) (by simp) ?_
    refine AllReadyH.cons rfl (fun K hK => ?_) AllReadyH.nil
    go_simp
    have hU := upd_setCell wq b5 7 (.slice (some ⟨g, 0, none⟩) n c)
    have HX7 : Hid (BX w (wq.setCell ⟨b5, 7, none⟩ (.slice (some ⟨g, 0, none⟩) n c)) b1 b2 b5 #[.int .i64 k, .int .i64 fl, .int .i64 st] (ptC p (.slice ao n cap)) (ptC p (.slice (some ⟨g, 0, none⟩) n c))) := hid' ⟨HXQ.out.bel.trans (hU.below HG5.out), hU.keep HXQ.out.h1 (HXQ.out.h1.apart HXQ.out.h5 (by decide)), hU.keep HXQ.out.h2 HNE.out, set_sets HXQ.out.h5⟩
    have HQ7 : Hid ((wq.setCell ⟨b5, 7, none⟩ (.slice (some ⟨g, 0, none⟩) n c)).ownsRow w.heap.size 29 2 (.slice (some ⟨g, 0, none⟩) (n + 1) c) (n + 1) (stCells p.sets ++ [.int .i64 (-7), .int .i64 0])) := hid' (own_same HQ.out (fun k hk => hU.block k (own_apart HQ.out HXQ.out.h5 (by decide) k hk)))
    refine hK.out _ _ (pt_cells HX7.out.h2).2.2.2.2.2.2.2 (fun hHeld => ?_)
    clear hK K hU z7 f7
    try simp only [Act.put, List.setIfInBounds_toArray, List.set_cons_zero, List.set_cons_succ]
    refine wpAnyH_done (by kernel_rfl) ?_ _
    obtain ⟨W7, hW7⟩ : ∃ W7, wq.setCell ⟨b5, 7, none⟩ (.slice (some ⟨g, 0, none⟩) n c) = W7 := ⟨_, rfl⟩
    rw [hW7] at HX7 HQ7
    try rw [hW7]
    clear hW7 hHeld
    obtain ⟨hs7, hc0, hc1⟩ := own_reads (l := p.sets) (by rw [HN.out]; exact HQ7.out)
    rw [HN.out] at hc0 hc1
    have HS7 : Hid (SR W7 (.slice (some ⟨g, 0, none⟩) n c) p.sets) := hid' (by have := hs7 c; rw [HN.out] at this; exact this)
    have HQC : Hid (W7.cell? ⟨g, n * 2, none⟩ = some (.int .i64 (-7)) ∧ W7.cell? ⟨g, n * 2 + 1, none⟩ = some (.int .i64 0) ∧ g < W7.heap.size) := hid' ⟨hc0, hc1, (HQ7.out.lt g rfl).2⟩
    clear hs7 hc0 hc1 HQ7
    obtain ⟨c0, c1, c2⟩ := hd_cells HX7.out.h1
    obtain ⟨x0, x1, x2, x3, x4, x5, x6, x7⟩ := pt_cells HX7.out.h5
    go_wp2_with fail
    refine (HM.out.1 _ _ HS7.out).mono ?_
    rintro e w8 ⟨rfl, hb8⟩
    have HX8 := hid' (HX7.out.keep hb8)
    have HB78 := hid' hb8
    clear hb8 c0 c1 c2 x0 x1 x2 x3 x4 x5 x6 x7
    go_wp2_with (refine wpl_alloc 31 rfl rfl _ zeroFrame ?_)
    intro b6 w9 hg6 ha6 hb9
    refine wpl_stf _ _ rfl rfl b6 k' fl' st' s (by kernel_rfl) (by kernel_rfl) _ ha6 rfl ?_
    intro w10 ha6' hu10
    have hb10 := hb9.trans (hu10.below hg6)
    have HX10 := hid' (HX8.out.keep hb10)
    have HB710 := hid' (below_two HB78.out hb10)
    have HF10 := hid' ha6'
    clear hg6 ha6 hb9 ha6' hu10 hb10 HX8 HB78
    obtain ⟨c0, c1, c2⟩ := hd_cells HX10.out.h1
    obtain ⟨x0, x1, x2, x3, x4, x5, x6, x7⟩ := pt_cells HX10.out.h2
    go_wp2_with fail
    refine (HM.out.2 _ _ (HV.out.keep HX10.out.bel)).mono ?_
    rintro e w11 ⟨rfl, hb11⟩
    have HX11 := hid' (HX10.out.keep hb11)
    have HB711 := hid' (below_two HB710.out hb11)
    have HF11 := hid' (HF10.out.keep hb11)
    clear hb11 c0 c1 c2 x0 x1 x2 x3 x4 x5 x6 x7
    go_wp2_with (refine wpl_alloc 31 rfl rfl _ zeroFrame ?_)
    intro b8 w12 hg8 ha8 hb12
    refine wpl_stf _ _ rfl rfl b8 k' fl' st' s (by kernel_rfl) (by kernel_rfl) _ ha8 rfl ?_
    intro w13 ha8' hu13
    have hb13 := hb12.trans (hu13.below hg8)
    have HX13 := hid' (HX11.out.keep hb13)
    have HB713 := hid' (below_two HB711.out hb13)
    have HF13 := hid' (HF11.out.keep hb13)
    have HW13 := hid' ha8'
    clear hg8 ha8 hb12 ha8' hu13 hb13 HX10 HX11 HB710 HB711 HF10 HF11
    obtain ⟨_, _, _, _, _, _, _, x7⟩ := pt_cells HX13.out.h5
    obtain ⟨_, _, _, _, _, _, _, y7⟩ := pt_cells HX13.out.h2
    have hcn3 : (n : Int) + 1 ≤ (c : Int) := by omega
    go_wp2_with fail
    refine (awake7 _).mono ?_
    rintro e w14 ⟨rfl, hb14⟩
    have HX14 := hid' (HX13.out.keep hb14)
    have HB714 := hid' (below_two HB713.out hb14)
    have HF14 := hid' (HF13.out.keep hb14)
    have HW14 := hid' (HW13.out.keep hb14)
    clear hb14 x7 y7
    obtain ⟨d0, d1, d2, d3⟩ := frC_cells HF14.out
    obtain ⟨g0, g1, g2, g3⟩ := frC_cells HW14.out
    obtain ⟨x0, x1, x2, x3, x4, x5, x6, x7⟩ := pt_cells HX14.out.h5
    obtain ⟨y0, y1, y2, y3, y4, y5, y6, y7⟩ := pt_cells HX14.out.h2
    have e1 : ∀ W, (binOp .eql 31 (.agg #[.int .i64 k', .int .i64 fl', .int .i64 st', .string ⟨s.toArray⟩]) (.agg #[.int .i64 k', .int .i64 fl', .int .i64 st', .string ⟨s.toArray⟩])).run Try.prog W = .ok (.bool true) W := fun W => by rw [eq_frame]; simp
    have hng := noGuardF
    have hng2 := noGuardS
    have e2 : ∀ W, (binOp .eql 29 (.agg #[.int .i64 (-7), .int .i64 0]) (.agg #[.int .i64 (-7), .int .i64 0])).run Try.prog W = .ok (.bool true) W := fun W => by rw [eq_set]; rfl
    go_wp2_with fail
    refine (csame_yes p _ _ _ (HS7.out.keep HB714.out) (HV.out.keep HX14.out.bel) (by rw [HN.out]; omega)).mono ?_
    rintro e w15 ⟨rfl, hb15⟩
    have HX15 := hid' (HX14.out.keep hb15)
    have HB715 := hid' (below_two HB714.out hb15)
    clear hb15 d0 d1 d2 d3 g0 g1 g2 g3 x0 x1 x2 x3 x4 x5 x6 x7 y0 y1 y2 y3 y4 y5 y6 y7 e1
    obtain ⟨_, _, _, _, _, _, _, y7⟩ := pt_cells HX15.out.h2
    have m0 : w15.cell? ((⟨g, 0, none⟩ : Addr).add (n * 2)) = some (.int .i64 (-7)) := by
      rw [Addr.add_mid, Nat.zero_add]
      exact (HB715.out.cell (p := ⟨g, n * 2, none⟩) HQC.out.2.2).trans HQC.out.1
    have m1 : w15.cell? ⟨((⟨g, 0, none⟩ : Addr).add (n * 2)).block, ((⟨g, 0, none⟩ : Addr).add (n * 2)).off + 1, none⟩ = some (.int .i64 0) := by
      rw [Addr.add_mid, Nat.zero_add]
      exact (HB715.out.cell (p := ⟨g, n * 2 + 1, none⟩) HQC.out.2.2).trans HQC.out.2.1
    have m2 : w15.cell? ⟨g, n * 2, none⟩ = some (.int .i64 (-7)) := (HB715.out.cell (p := ⟨g, n * 2, none⟩) HQC.out.2.2).trans HQC.out.1
    have m3 : w15.cell? ⟨g, n * 2 + 1, none⟩ = some (.int .i64 0) := (HB715.out.cell (p := ⟨g, n * 2 + 1, none⟩) HQC.out.2.2).trans HQC.out.2.1
    have hidx : (n : Int) < (n : Int) + 1 := by omega
    go_wp2
    go_ret
    exact ⟨rfl, HX15.out.bel⟩

end Go.Proofs.Ythbidfcfkjamdaa
