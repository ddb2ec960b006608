/-
  gathered.take: by its contract.
-/
import Derived.Test.YtmkkhfkfjmfdcaaGreatHpMC
namespace Go.Proofs.YtmkkhfkfjmfdcaaGreat
open Go.RowKit

set_option maxHeartbeats 2000000 in
set_option maxRecDepth 20000 in
theorem take_any (B g : Nat) (v : Value) (wt : Nat) (most : Int) (n : Nat) (xs : List Value) (s t : List UInt8) (k : Nat) (hk : Tb.wt (s, t) = k) (S : Nat) (hS : wt + k = S) (hb : S ≤ 1152921504606846976) (w : World) (h : RG w B g 90 54 2 v [.int .i64 (wt : Int), .int .i64 most] n xs) (hn : n < 140737488355328 / 32) (hB : B ≤ w.heap.size) :
    Calls Tryz.prog 72 #[.pointer (some ⟨g, 0, none⟩), .agg #[.string ⟨s.toArray⟩, .string ⟨t.toArray⟩]] w fun e w' => e = .returned (.tuple #[]) ∧
      ∃ v' n' xs', RG w' B g 90 54 2 v' [.int .i64 (S : Int), .int .i64 most] n' xs' ∧ (∀ k, v'.ownBlock = some k → v.ownBlock = some k ∨ w.heap.size ≤ k) ∧ Two g v.ownBlock w w' ∧
        Hid (most < (S : Int) ∧ n' = 0 ∧ xs' = [] ∨ (S : Int) ≤ most ∧ n' = n + 1 ∧ xs' = xs ++ [.string ⟨s.toArray⟩, .string ⟨t.toArray⟩]) := by
  have hkb : k ≤ 1152921504606846976 := by omega
  obtain ⟨i0, hi, hz0, hz1, hz2⟩ := info_parts infoFd
  have HI := hid' hi
  have HZ0 := hid' hz0
  have HZ1 := hid' hz1
  have HZ2 := hid' hz2
  clear hi hz0 hz1 hz2
  obtain ⟨ao, cap, rfl, hc⟩ := h.row.shape
  have HK := hid' hk
  have HSUM := hid' hS
  have hb0 : Below w.heap.size w (w.alloc (.cells #[.string ⟨s.toArray⟩, .string ⟨t.toArray⟩] 54)) := (Below.refl _ _).alloc (Nat.le_refl _) _
  have hA : Ar (w.alloc (.cells #[.string ⟨s.toArray⟩, .string ⟨t.toArray⟩] 54)) w.heap.size 54 #[.string ⟨s.toArray⟩, .string ⟨t.toArray⟩] := heap_alloc_last w _
  have hR0 := h.keep hb0
  have hgw := h.obj.lt
  have H := hid' h
  have c1 := hR0.obj.cell 1 _ rfl
  have f1 := hR0.obj.free 1
  have y0 := hA.cell 0 _ rfl
  have y1 := hA.cell 1 _ rfl
  clear h hk hS
  go_enter Tryz.func72, Tryz.ntmps72
  go_wp2
  obtain ⟨yb, hyb⟩ : ∃ yb, w.heap.size = yb := ⟨_, rfl⟩
  have HYB := hid' hyb
  have HB0 := hid' hb0
  have hyg : yb ≠ g := by omega
  rw [hyb] at hA y0 y1 ⊢
  clear hyb hb0
  have HA := hid' hA
  have HR0 := hid' hR0
  clear hA hR0
  generalize (w.alloc (.cells #[.string ⟨s.toArray⟩, .string ⟨t.toArray⟩] 54)) = w2 at *
  have sOf : ∀ W W1 : World, (W.cell? ⟨g, 1, none⟩ = some (.int .i64 (wt : Int)) ∧ W.frozen? ⟨g, 1, none⟩ = false ∧ W.cell? ⟨yb, 0, none⟩ = some (.string ⟨s.toArray⟩) ∧ W.cell? ⟨yb, 1, none⟩ = some (.string ⟨t.toArray⟩)) → Below W.heap.size W W1 → W1.cell? ⟨g, 1, none⟩ = some (.int .i64 (wt : Int)) ∧ W1.frozen? ⟨g, 1, none⟩ = false ∧ W1.cell? ⟨yb, 0, none⟩ = some (.string ⟨s.toArray⟩) ∧ W1.cell? ⟨yb, 1, none⟩ = some (.string ⟨t.toArray⟩) := fun W W1 ⟨a1, a2, a3, a4⟩ hb =>
    ⟨Below.kc hb a1, Below.kf hb a1 a2, Below.kc hb a3, Below.kc hb a4⟩
  have hS2 : w2.drew.cell? ⟨g, 1, none⟩ = some (.int .i64 (wt : Int)) ∧ w2.drew.frozen? ⟨g, 1, none⟩ = false ∧ w2.drew.cell? ⟨yb, 0, none⟩ = some (.string ⟨s.toArray⟩) ∧ w2.drew.cell? ⟨yb, 1, none⟩ = some (.string ⟨t.toArray⟩) := ⟨c1, f1, y0, y1⟩
  go_region_with (go_at_call 60; refine (cweight_at s t k HK.out hkb _).mono ?_; rintro e w3 ⟨rfl, hb3⟩; obtain ⟨d1, d2, d3, d4⟩ := sOf _ _ hS2 hb3)
  all_goals
    have hw : IntKind.i64.wrap ((wt : Int) + (k : Int)) = (S : Int) := by have := HSUM.out; rw [IntKind.wrap_i64]; omega
    rw [hw]
    clear hw
    have hb23 := below_two ((Below.refl w2.heap.size w2).drew) hb3
    have hR3 := (HR0.out.keep hb23).tail 0 (.int .i64 (S : Int))
    have hA3 : Ar (w3.setCell ⟨g, 1, none⟩ (.int .i64 (S : Int))) yb 54 #[.string ⟨s.toArray⟩, .string ⟨t.toArray⟩] := (HA.out.keep hb23).other (fun e => hyg e.symm) 1 _
    have hT3 : Two g (Value.slice ao n cap).ownBlock w (w3.setCell ⟨g, 1, none⟩ (.int .i64 (S : Int))) := (Two.of_below (below_two HB0.out hb23)).and (Two.of_set _ _ _ _ _)
    simp only [List.set_cons_zero] at hR3
    clear c1 f1 y0 y1 hS2 d1 d2 d3 d4 sOf hb23 hb3
    have HR3 := hid' hR3
    have HA3 := hid' hA3
    have HT3 := hid' hT3
    clear hR3 hA3 hT3
    generalize w3.setCell ⟨g, 1, none⟩ (.int .i64 (S : Int)) = w4 at *
    by_cases hlt : most < (S : Int)
    · have HL := hid' hlt
      clear hlt
      go_wp2_with fail
      refine (tooMuch_at B g (.slice ao n cap) (S : Int) most n xs true (decide_eq_true HL.out) _ HR3.out).mono ?_
      rintro e w5 ⟨rfl, m, rfl⟩
      have c0 : (w4.drewN m).cell? ⟨g, 0, none⟩ = some (.slice ao n cap) := HR3.out.obj.cell 0 _ rfl
      have f0 : (w4.drewN m).frozen? ⟨g, 0, none⟩ = false := HR3.out.obj.free 0
      go_wp2
      refine bodyPost_ret (results_none rfl _ _ _) rfl ?_
      refine ⟨rfl, .slice none 0 0, 0, [], RG.put H.out.ge HR3.out.obj (sl_nil _ _ _ _) (by simp [Value.ownBlock]), fun k hk => by simp [Value.ownBlock] at hk, (HT3.out.drewN m).and (Two.of_set _ _ _ _ _), ?_⟩
      exact hid' (.inl ⟨HL.out, rfl, rfl⟩)
    · have HL := hid' hlt
      clear hlt
      go_wp2_with fail
      refine (tooMuch_at B g (.slice ao n cap) (S : Int) most n xs false (decide_eq_false (by have := HL.out; omega)) _ HR3.out).mono ?_
      rintro e w5 ⟨rfl, m, rfl⟩
      go_wp2
      have HR5 : Hid (RG (w4.drewN m) B g 90 54 2 (.slice ao n cap) [.int .i64 (S : Int), .int .i64 most] n xs) := hid' ⟨HR3.out.ge, HR3.out.obj, HR3.out.row, HR3.out.ne⟩
      have HA5 : Hid (Ar (w4.drewN m) yb 54 #[.string ⟨s.toArray⟩, .string ⟨t.toArray⟩]) := hid' HA3.out
      have HT5 := hid' (HT3.out.drewN m)
      clear HR3 HA3 HT3 HR0 HA
      generalize w4.drewN m = w0 at *
      have x0 := HA5.out.cell 0 _ rfl
      have x1 := HA5.out.cell 1 _ rfl
      have c0 : w0.cell? ⟨g, 0, none⟩ = some (.slice ao n cap) := HR5.out.obj.cell 0 _ rfl
      have f0 := HR5.out.obj.free 0
      have hob : (Value.slice ao n cap).ownBlock ≠ some g := H.out.ne
      have hox : (Value.slice ao n cap).ownBlock ≠ some yb := fun e => by have := (H.out.row.lt yb e).2; have := HYB.out; omega
      have hS : w0.cell? ⟨g, 0, none⟩ = some (.slice ao n cap) ∧ w0.cell? ⟨yb, 0, none⟩ = some (.string ⟨s.toArray⟩) ∧ w0.cell? ⟨yb, 1, none⟩ = some (.string ⟨t.toArray⟩) ∧ w0.frozen? ⟨g, 0, none⟩ = false := ⟨c0, x0, x1, f0⟩
      obtain ⟨w00, hw00⟩ : ∃ w00, w00 = (w0.alloc (.cells #[.string ⟨s.toArray⟩, .string ⟨t.toArray⟩] 54)).drew := ⟨_, rfl⟩
      have hb00 : Below w0.heap.size w0 w00 := by rw [hw00]; exact ((Below.refl _ _).alloc (Nat.le_refl _) _).drew
      have kOf : ∀ W W1 : World, (W.cell? ⟨g, 0, none⟩ = some (.slice ao n cap) ∧ W.cell? ⟨yb, 0, none⟩ = some (.string ⟨s.toArray⟩) ∧ W.cell? ⟨yb, 1, none⟩ = some (.string ⟨t.toArray⟩) ∧ W.frozen? ⟨g, 0, none⟩ = false) → W.grownBy W1 (Value.slice ao n cap).ownBlock → W1.cell? ⟨g, 0, none⟩ = some (.slice ao n cap) ∧ W1.cell? ⟨yb, 0, none⟩ = some (.string ⟨s.toArray⟩) ∧ W1.cell? ⟨yb, 1, none⟩ = some (.string ⟨t.toArray⟩) ∧ W1.frozen? ⟨g, 0, none⟩ = false := fun W W1 ⟨a, b', c, d⟩ hg =>
        ⟨hg.cell a (fun e => hob e.symm), hg.cell b' (fun e => hox e.symm), hg.cell c (fun e => hox e.symm), by rw [World.frozen?_of_block (hg.block g (World.block_lt_of_cell? W _ a) (fun e => hob e.symm))]; exact d⟩
      have hS00 := kOf w0 w00 hS (grown_of_below hb00 _)
      have hR00 := HR5.out.row.keep hb00
      have hnews : ∀ j u, [Value.string ⟨s.toArray⟩, .string ⟨t.toArray⟩][j]? = some u → w00.cell? ((⟨w0.heap.size, 0, none⟩ : Addr).add j) = some u := by
        intro j u hj
        have hA : Ar w00 w0.heap.size 54 #[.string ⟨s.toArray⟩, .string ⟨t.toArray⟩] := by rw [hw00]; exact heap_alloc_last w0 _
        rw [Addr.add_mid, Nat.zero_add]
        exact hA.cell j u (by simpa using hj)
      have hsz0 : w.heap.size ≤ w0.heap.size := HT5.out.size
      have hsz00 : B ≤ w00.heap.size := Nat.le_trans hB (Nat.le_trans hsz0 hb00.size)
      have HB00 := hid' hb00
      have HW00 := hid' hw00
      rw [hw00] at hR00 hnews hsz00 hS00
      clear hb00 hw00
      have HR00 := hid' hR00
      have HNW := hid' hnews
      have HSZ := hid' hsz00
      have HSZ0 := hid' hsz0
      clear hR00 hnews hsz00 hsz0
      go_region_law (refine step_append_sl _ (by rfl) _ _ 27 (by rfl) B 54 i0 (.agg #[.string ⟨#[]⟩, .string ⟨#[]⟩]) 2 32 Tryz.underlying27 HI.out HZ0.out HZ1.out HZ2.out (by rfl) (by decide) (.slice ao n cap) n xs (by rfl) HR00.out ⟨w0.heap.size, 0, none⟩ 1 1 [.string ⟨s.toArray⟩, .string ⟨t.toArray⟩] (by rfl) (by rfl) HNW.out (by simp [Value.oneCell']) (by decide) (by unfold maxLen; omega) (by omega) HSZ.out ?_; intro g2 q cap2 w1 hrow hgrow hat; obtain ⟨k0, _, _, k3⟩ := kOf _ _ hS00 hgrow)
      all_goals
        have ho1 : Ar w1 g 90 (Value.slice ao n cap :: [.int .i64 (S : Int), .int .i64 most]).toArray := by
          have := HR5.out.obj.keep HB00.out
          rw [HW00.out] at this
          unfold Ar at this ⊢
          rw [hgrow.block g (by have := HSZ0.out; simp; omega) (fun e => hob e.symm)]
          exact this
        have hne : (Value.slice (some ⟨g2, q, none⟩) (n + 1) cap2).ownBlock ≠ some g := hrow.ne ho1 (by decide)
        go_wp2
        go_end0
        refine ⟨rfl, .slice (some ⟨g2, q, none⟩) (n + 1) cap2, n + 1, _, RG.put H.out.ge ho1 hrow hne, fun k hk => ?_, ?_, ?_⟩
        · simp only [Value.ownBlock, Option.some.injEq] at hk
          subst hk
          exact hat.imp id (fun h => by simp at h; have := HSZ0.out; omega)
        · refine Two.and (Two.and (Two.and HT5.out (Two.of_below HB00.out)) ?_) (Two.of_set _ _ _ _ _)
          rw [HW00.out]
          exact Two.of_grown hgrow
        · exact hid' (.inr ⟨by have := HL.out; omega, rfl, rfl⟩)

end Go.Proofs.YtmkkhfkfjmfdcaaGreat
