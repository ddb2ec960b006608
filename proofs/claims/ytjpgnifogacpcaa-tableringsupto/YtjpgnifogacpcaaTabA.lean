/-
  The document's table: all, by its contract.
-/
import Derived.Test.YtjpgnifogacpcaaTabT
import Derived.Laws.AppendOwnNone
import Derived.BigRegion
import Derived.Deep.RegionHeld3
namespace Go.Proofs.Ytjpgnifogacpcaa
open Go.RowKit

theorem step_append_own {P : Program} (w : World) {ops : Array Oper} {o : Oper} {a : Act} {K : Act → World → Prop} {Q : Exit → Act → World → Prop} {E : Prop} (hgd : o.guard = none) (s x : Operand) (t : TypeId)
    (ho : o.op = .call { callee := .builtin .append, args := #[s, x], argTypes := #[t, t] })
    (base : Nat) (e : TypeId) (i : TypeInfo) (z : Value) (size bytes : Nat) (ht : P.underlying t = some (.slice e)) (hi : P.info? e = some i) (hz : i.zero = some z)
    (hsize : i.size = size) (hby : i.bytes = bytes) (hzs : z.cells.size = size) (hsz : 0 < size)
    (v : Value) (n : Nat) (xs : List Value) (hs : a.eval s = v) (hown : w.ownsRow base e size v n xs)
    (ad : Addr) (m c : Nat) (news : List Value) (hx : a.eval x = .slice (some ad) m c) (hl : news.length = m * size) (hnews : ∀ j u, news[j]? = some u → w.cell? (ad.add j) = some u) (h1 : ∀ u ∈ news, u.oneCell' = true)
    (h63 : n + m ≤ maxLen) (hbytes : (n + m) * bytes ≤ 140737488355328) (hbase : base ≤ w.heap.size)
    (h : ∀ v' w', w'.ownsRow base e size v' (n + m) (xs ++ news) → w.grownBy w' v.ownBlock → K (a.put o.dst v') w') :
    if Region.wanted o (yielded ops a.tmps) = true then Oper.wp P o a w K Q else E := by
  have hw : Region.wanted o (yielded ops a.tmps) = true := by simp [Region.wanted, hgd]
  rw [if_pos hw]
  exact wp_append_own w s x t ho base e i z size bytes ht hi hz hsize hby hzs hsz v n xs hs hown ad m c news hx hl hnews h1 h63 hbytes hbase fun v' w' h2 h3 _ => h v' w' h2 h3
theorem step_append_none {P : Program} (w : World) {ops : Array Oper} {o : Oper} {a : Act} {K : Act → World → Prop} {Q : Exit → Act → World → Prop} {E : Prop} (hgd : o.guard = none) (s x : Operand) (t : TypeId)
    (ho : o.op = .call { callee := .builtin .append, args := #[s, x], argTypes := #[t, t] })
    (base : Nat) (e : TypeId) (i : TypeInfo) (size : Nat) (ht : P.underlying t = some (.slice e)) (hi : P.info? e = some i)
    (v : Value) (n : Nat) (xs : List Value) (hs : a.eval s = v) (hown : w.ownsRow base e size v n xs) (hx : a.eval x = .slice none 0 0)
    (h : ∀ v', v' = v → K (a.put o.dst v') w) :
    if Region.wanted o (yielded ops a.tmps) = true then Oper.wp P o a w K Q else E := by
  have hw : Region.wanted o (yielded ops a.tmps) = true := by simp [Region.wanted, hgd]
  rw [if_pos hw]
  have hrun := run_append_owned_none (P := P) (w := w) base t o.type e i size ht hi v n xs hown
  unfold Oper.wp
  simp [execOp, ho, resolve, invoke, builtin, hs, hx, hrun, Result.andThen]
  exact h _ rfl

theorem infoField : (Try.prog.info? 32).map (fun i => (i.zero, i.size, i.bytes)) = some (some (.agg #[.string ⟨#[]⟩, .string ⟨#[]⟩]), 2, 32) := by kernel_rfl
theorem stat_owns (w : World) : (w.alloc (.cells statCells 32)).ownsRow w.heap.size 32 2 (.slice (some ⟨w.heap.size, 0, none⟩) 61 61) 61 (Tb.cells Tb.stat) := by
  have := World.ownsRow_lit (base := w.heap.size) (e := 32) (size := 2) w statCells 61 (Nat.le_refl _) (by decide) (by unfold statCells; rw [List.size_toArray, Tb.cells_length, Tb.stat_length])
  rw [statCells] at this
  exact this
theorem alloc_cells (w : World) (o : Obj) (k i : Nat) (v : Value) (h : w.cell? ⟨k, i, none⟩ = some v) : (w.alloc o).cell? ⟨k, i, none⟩ = some v := by
  have hk := World.block_lt_of_cell? w ⟨k, i, none⟩ h
  rw [World.cell?_of_block (w := w) (Lib.alloc_old w o k hk)]; exact h

theorem rstatic_b (X : List Value) (hX : Tb.cells Tb.stat = X) (w : World) : Calls Try.prog 47 #[] w fun e w' => e = .returned (.slice (some ⟨w.heap.size, 0, none⟩) 61 61) ∧ w'.ownsRow w.heap.size 32 2 (.slice (some ⟨w.heap.size, 0, none⟩) 61 61) 61 X ∧ Below w.heap.size w w' := by
  subst hX
  refine (rstatic_any w).mono ?_
  rintro e w' ⟨rfl, rfl⟩
  exact ⟨rfl, stat_owns w, (Below.refl _ _).alloc (Nat.le_refl _) _⟩

set_option maxHeartbeats 1000000 in
set_option maxRecDepth 20000 in
theorem rall_any (B b : Nat) (v : Value) (M : Int) (fs : List (List UInt8 × List UInt8)) (w : World) (h : RT w B b v M fs) (hs : Tb.size fs ≤ 1048576) :
    Calls Try.prog 43 #[.pointer (some ⟨b, 0, none⟩)] w fun e w' => ∃ v', e = .returned v' ∧ w'.ownsRow w.heap.size 32 2 v' (61 + fs.length) (Tb.cells (Tb.all fs)) ∧ Below w.heap.size w w' := by
  obtain ⟨i0, hi, hz0, hz1, hz2⟩ := info_parts infoField
  have HI := hid' hi
  have HZ0 := hid' hz0
  have HZ1 := hid' hz1
  have HZ2 := hid' hz2
  clear hi hz0 hz1 hz2
  have H := hid' h
  have hfl : fs.length ≤ 1048576 := by have := Tb.size_len fs; omega
  have HC1 := hid' (h.obj.cell 1 _ rfl)
  have hbw : b < w.heap.size := h.obj.lt
  rcases h.row.2 with ⟨rfl, h0⟩ | ⟨g, cap, cur, rfl, _⟩
  · have hfn : fs = [] := List.eq_nil_of_length_eq_zero h0
    subst hfn
    clear h h0
    obtain ⟨X, hX⟩ : ∃ X, Tb.cells Tb.stat = X := ⟨_, rfl⟩
    have HX := hid' hX
    clear hX
    have hc1 : w.cell? ⟨b, 1, none⟩ = some (.slice none 0 0) := HC1.out
    go_enter Try.func43, Try.ntmps43
    go_wp2
    have hS : Below w.heap.size w w := Below.refl _ _
    have sOf : ∀ W, Below w.heap.size w W → Below w.heap.size w W ∧ W.cell? ⟨b, 1, none⟩ = some (.slice none 0 0) := fun W hW => ⟨hW, (hW.cell (p := ⟨b, 1, none⟩) hbw).trans hc1⟩
    have bt : ∀ W W1, (Below w.heap.size w W ∧ W.cell? ⟨b, 1, none⟩ = some (.slice none 0 0)) → Below W.heap.size W W1 → Below w.heap.size w W1 := fun W W1 hW h => below_two hW.1 h
    go_region_held3 (fun W => Below w.heap.size w W ∧ W.cell? ⟨b, 1, none⟩ = some (.slice none 0 0))
      (first | exact sOf _ (by assumption) | exact sOf _ (Below.drew (by assumption)))
      (first
      | (go_at_call 47; refine (rstatic_b X HX.out _).mono ?_; rintro e w1 ⟨rfl, hown, hbl⟩; have HOW : Hid (w1.ownsRow w.heap.size 32 2 (.slice (some ⟨w.heap.size, 0, none⟩) 61 61) 61 X) := hid' hown; have hb1 := bt _ _ (by assumption) hbl; clear hown hbl)
      | (refine step_append_none _ (by rfl) _ _ 42 (by rfl) w.heap.size 32 i0 2 Try.underlying42 HI.out (.slice (some ⟨w.heap.size, 0, none⟩) 61 61) 61 X (by rfl) HOW.out (by rfl) ?_; intro v2 hv2; have HV2 := hid' hv2; clear hv2))
    go_wp2
    go_ret
    exact ⟨v2, rfl, by have := HOW.out; rw [← HX.out, ← HV2.out] at this; simpa [Tb.all] using this, hb1⟩
  · clear h
    obtain ⟨X, hX⟩ : ∃ X, Tb.cells Tb.stat = X := ⟨_, rfl⟩
    have HX := hid' hX
    clear hX
    obtain ⟨Y, hY⟩ : ∃ Y, Tb.cells fs = Y := ⟨_, rfl⟩
    have HYL : Hid (Y.length = fs.length * 2) := hid' (by rw [← hY]; exact Tb.cells_length fs)
    have HY1 : Hid (∀ u ∈ Y, u.oneCell' = true) := hid' (by rw [← hY]; exact Tb.cells_one fs)
    have HYR : Hid (w.ownsRow B 32 2 (.slice (some ⟨g, 0, none⟩) fs.length cap) fs.length Y) := hid' (by rw [← hY]; exact H.out.row)
    have HYE := hid' hY
    clear hY
    have hc1 : w.cell? ⟨b, 1, none⟩ = some (.slice (some ⟨g, 0, none⟩) fs.length cap) := HC1.out
    go_enter Try.func43, Try.ntmps43
    go_wp2
    have hS : Below w.heap.size w w := Below.refl _ _
    have sOf : ∀ W, Below w.heap.size w W → Below w.heap.size w W ∧ W.cell? ⟨b, 1, none⟩ = some (.slice (some ⟨g, 0, none⟩) fs.length cap) := fun W hW => ⟨hW, (hW.cell (p := ⟨b, 1, none⟩) hbw).trans hc1⟩
    have szOf : ∀ W, (Below w.heap.size w W ∧ W.cell? ⟨b, 1, none⟩ = some (.slice (some ⟨g, 0, none⟩) fs.length cap)) → w.heap.size ≤ W.heap.size := fun W hW => hW.1.size
    have bt : ∀ W W1, (Below w.heap.size w W ∧ W.cell? ⟨b, 1, none⟩ = some (.slice (some ⟨g, 0, none⟩) fs.length cap)) → Below W.heap.size W W1 → Below w.heap.size w W1 := fun W W1 hW h => below_two hW.1 h
    have newsOf : ∀ W, (Below w.heap.size w W ∧ W.cell? ⟨b, 1, none⟩ = some (.slice (some ⟨g, 0, none⟩) fs.length cap)) → ∀ j u, Y[j]? = some u → W.cell? ((⟨g, 0, none⟩ : Addr).add j) = some u := fun W hW => (HYR.out.kept (row := none) (grown_of_below hW.1 _) (.inr (by simp [Value.ownBlock]))).cells rfl
    have hOf : ∀ W W2, (Below w.heap.size w W ∧ W.cell? ⟨b, 1, none⟩ = some (.slice (some ⟨g, 0, none⟩) fs.length cap)) → W.grownBy W2 (Value.slice (some ⟨w.heap.size, 0, none⟩) 61 61).ownBlock → Below w.heap.size w W2 := fun W W2 hW hg => hW.1.grown hg hW.1.size (fun k hk => by simp [Value.ownBlock] at hk; omega)
    go_region_held3 (fun W => Below w.heap.size w W ∧ W.cell? ⟨b, 1, none⟩ = some (.slice (some ⟨g, 0, none⟩) fs.length cap))
      (first | exact sOf _ (by assumption) | exact sOf _ (Below.drew (by assumption)))
      (first
      | (go_at_call 47; refine (rstatic_b X HX.out _).mono ?_; rintro e w1 ⟨rfl, hown, hbl⟩; have HOW : Hid (w1.ownsRow w.heap.size 32 2 (.slice (some ⟨w.heap.size, 0, none⟩) 61 61) 61 X) := hid' hown; have hb1 := bt _ _ (by assumption) hbl; clear hown hbl)
      | (refine step_append_own _ (by rfl) _ _ 42 (by rfl) w.heap.size 32 i0 (.agg #[.string ⟨#[]⟩, .string ⟨#[]⟩]) 2 32 Try.underlying42 HI.out HZ0.out HZ1.out HZ2.out (by rfl) (by decide) (.slice (some ⟨w.heap.size, 0, none⟩) 61 61) 61 X (by rfl) HOW.out ⟨g, 0, none⟩ fs.length cap Y (by rfl) HYL.out (newsOf _ (by assumption)) HY1.out (by unfold maxLen; omega) (by omega) (szOf _ (by assumption)) ?_; intro v2 w2 hown2 hgrow; have HOW2 := hid' hown2; have hb2 := hOf _ _ (by assumption) hgrow; clear hown2 hgrow))
    go_wp2
    go_ret
    exact ⟨v2, rfl, by have := HOW2.out; rw [← HX.out, ← HYE.out, ← Tb.cells_append] at this; exact this, hb2⟩

end Go.Proofs.Ytjpgnifogacpcaa
