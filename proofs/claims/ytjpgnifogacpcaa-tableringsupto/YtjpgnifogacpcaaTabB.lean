/-
  The document's table: Add, Resize: by their contracts.
-/
import Derived.Test.YtjpgnifogacpcaaTabA
import Derived.Test.YtjpgnifogacpcaaTabS
namespace Go.Proofs.Ytjpgnifogacpcaa
open Go.RowKit

theorem Pm_grown_alloc {w : World} {o : Obj} {w' : World} {row : Option Nat} (h : (w.alloc o).grownBy w' row) : w.grownBy w' row :=
  ⟨h.os, h.tape, h.output, Nat.le_trans (by simp) h.size, fun k hk hne => by rw [h.block k (by simp; omega) hne]; exact Lib.alloc_old w _ k hk⟩
theorem rows_le {w : World} {base base' size n : Nat} {e : TypeId} {v : Value} {xs : List Value} (h : w.ownsRow base e size v n xs) (hb : base' ≤ base) : w.ownsRow base' e size v n xs := by
  refine ⟨h.1, ?_⟩
  rcases h.2 with h | ⟨g, cap, cur, hv, hg, rest⟩
  · exact .inl h
  · exact .inr ⟨g, cap, cur, hv, Nat.le_trans hb hg, rest⟩
theorem weight_b (n v : List UInt8) (k : Nat) (hk : Tb.wt (n, v) = k) (hs : k ≤ 1152921504606846976) (w : World) :
    Calls Try.prog 24 #[.agg #[.string ⟨n.toArray⟩, .string ⟨v.toArray⟩]] w fun e w' => e = .returned (.int .i64 (k : Int)) ∧ Below w.heap.size w w' := by
  refine (weight_at n v k hk hs w).mono ?_
  rintro e w' ⟨rfl, rfl⟩
  exact ⟨rfl, (Below.refl _ _).alloc (Nat.le_refl _) _⟩

set_option maxHeartbeats 1000000 in
set_option maxRecDepth 20000 in
theorem radd_any (B b : Nat) (v : Value) (M : Nat) (fs : List (List UInt8 × List UInt8)) (n val : List UInt8) (w : World) (h : RT w B b v (M : Int) fs) (hM : M ≤ 65536) (hs : Tb.size fs ≤ 1048576) (hB : B ≤ w.heap.size) (hw : Tb.wt (n, val) ≤ 1152921504606846976) :
    Calls Try.prog 12 #[.pointer (some ⟨b, 0, none⟩), .agg #[.string ⟨n.toArray⟩, .string ⟨val.toArray⟩]] w fun e w' => e = .returned (.tuple #[]) ∧ ∃ v', RT w' B b v' (M : Int) (Tb.add M fs (n, val)) ∧ (∀ k, v'.ownBlock = some k → v.ownBlock = some k ∨ w.heap.size ≤ k) ∧ w.grownBy w' (some b) := by
  obtain ⟨i0, hi, hz0, hz1, hz2⟩ := info_parts infoField
  have HI := hid' hi
  have HZ0 := hid' hz0
  have HZ1 := hid' hz1
  have HZ2 := hid' hz2
  clear hi hz0 hz1 hz2
  obtain ⟨k, hk⟩ : ∃ k, Tb.wt (n, val) = k := ⟨_, rfl⟩
  rw [hk] at hw
  have HK := hid' hk
  have hbw : b < w.heap.size := h.obj.lt
  have H := hid' h
  have HADD : Hid (Tb.add M fs (n, val) = if M < k then [] else (n, val) :: Tb.shr (M - k) fs) := hid' (by unfold Tb.add; rw [hk])
  clear hk h
  go_enter Try.func12, Try.ntmps12
  go_wp2
  have hb0 : Below w.heap.size w (w.alloc (.cells #[.string ⟨n.toArray⟩, .string ⟨val.toArray⟩] 32)) := (Below.refl _ _).alloc (Nat.le_refl _) _
  have hx0 : (w.alloc (.cells #[.string ⟨n.toArray⟩, .string ⟨val.toArray⟩] 32)).cell? ⟨w.heap.size, 0, none⟩ = some (.string ⟨n.toArray⟩) := Ar.cell (heap_alloc_last w _) 0 _ rfl
  have hx1 : (w.alloc (.cells #[.string ⟨n.toArray⟩, .string ⟨val.toArray⟩] 32)).cell? ⟨w.heap.size, 1, none⟩ = some (.string ⟨val.toArray⟩) := Ar.cell (heap_alloc_last w _) 1 _ rfl
  have hz : (w.alloc (.cells #[.string ⟨n.toArray⟩, .string ⟨val.toArray⟩] 32)).heap.size = w.heap.size + 1 := by simp
  generalize (w.alloc (.cells #[.string ⟨n.toArray⟩, .string ⟨val.toArray⟩] 32)) = w0 at hb0 hx0 hx1 hz ⊢
  have HB0 := hid' hb0
  have HR0 := hid' (H.out.keep hb0)
  have HZ := hid' hz
  obtain ⟨bx, hbx⟩ : ∃ bx, w.heap.size = bx := ⟨_, rfl⟩
  have HBX := hid' hbx
  rw [hbx] at hx0 hx1 hbw ⊢
  have hm0 : w0.cell? ⟨b, 0, none⟩ = some (.int .i64 (M : Int)) := HR0.out.obj.cell 0 _ rfl
  clear hb0 hz hbx
  have cOf : ∀ W W1, (W.cell? ⟨b, 0, none⟩ = some (.int .i64 (M : Int)) ∧ W.cell? ⟨bx, 0, none⟩ = some (.string ⟨n.toArray⟩) ∧ W.cell? ⟨bx, 1, none⟩ = some (.string ⟨val.toArray⟩)) → Below W.heap.size W W1 → W1.cell? ⟨b, 0, none⟩ = some (.int .i64 (M : Int)) ∧ W1.cell? ⟨bx, 0, none⟩ = some (.string ⟨n.toArray⟩) ∧ W1.cell? ⟨bx, 1, none⟩ = some (.string ⟨val.toArray⟩) := fun W W1 ⟨a, b', c⟩ hb => ⟨(hb.cell (World.block_lt_of_cell? W _ a)).trans a, (hb.cell (World.block_lt_of_cell? W _ b')).trans b', (hb.cell (World.block_lt_of_cell? W _ c)).trans c⟩
  have hS : w0.cell? ⟨b, 0, none⟩ = some (.int .i64 (M : Int)) ∧ w0.cell? ⟨bx, 0, none⟩ = some (.string ⟨n.toArray⟩) ∧ w0.cell? ⟨bx, 1, none⟩ = some (.string ⟨val.toArray⟩) := ⟨hm0, hx0, hx1⟩
  go_region_held3 (fun W => W.cell? ⟨b, 0, none⟩ = some (.int .i64 (M : Int)) ∧ W.cell? ⟨bx, 0, none⟩ = some (.string ⟨n.toArray⟩) ∧ W.cell? ⟨bx, 1, none⟩ = some (.string ⟨val.toArray⟩))
    (first | assumption | exact cOf _ _ (by assumption) (by assumption))
    (first | (go_at_call 24; refine (weight_b n val k HK.out hw _).mono ?_; rintro e w1 ⟨rfl, hb1⟩))
  have HB1 : Hid (Below w0.heap.size w0 w1) := hid' (below_two ((Below.refl _ _).drew) hb1)
  have hS1 := cOf _ _ hS HB1.out
  have HR1 := hid' (HR0.out.keep HB1.out)
  clear hb1 hS hx0 hx1 hm0
  by_cases hlt : M < k
  · have hd : decide (M < k) = true := decide_eq_true hlt
    have hd2 : decide ((M : Int) < (k : Int)) = true := decide_eq_true (by omega)
    have c1 := HR1.out.obj.cell 1 _ rfl
    have f1 := HR1.out.obj.free 1
    go_wp2
    refine bodyPost_ret (results_none rfl _ _ _) rfl ?_
    refine ⟨rfl, .slice none 0 0, ?_, fun k hk => by simp [Value.ownBlock] at hk, ?_⟩
    · rw [HADD.out, if_pos hlt]
      exact HR1.out.setRow (fs' := []) (World.ownsRow_nil _ _ _ _) (by simp [Value.ownBlock])
    · exact gb_trans (gb_below (grown_of_below HB0.out _) HB1.out) (gb_set _ _ _ _)
  · have hd : decide (M < k) = false := decide_eq_false hlt
    have hd2 : decide ((M : Int) < (k : Int)) = false := decide_eq_false (by omega)
    obtain ⟨m, hm⟩ : ∃ m : Nat, (M : Int) - (k : Int) = (m : Int) := ⟨M - k, by omega⟩
    have HWM : Hid (IntKind.i64.wrap (m : Int) = (m : Int)) := hid' (by rw [IntKind.wrap_i64]; omega)
    have HMK : Hid (M - k = m) := hid' (by omega)
    obtain ⟨c0, cx0, cx1⟩ := hS1
    have hS1 : w1.cell? ⟨b, 0, none⟩ = some (.int .i64 (M : Int)) ∧ w1.cell? ⟨bx, 0, none⟩ = some (.string ⟨n.toArray⟩) ∧ w1.cell? ⟨bx, 1, none⟩ = some (.string ⟨val.toArray⟩) := ⟨c0, cx0, cx1⟩
    have hbxb : bx ≠ b := by omega
    go_wp2
    have gOf : ∀ W W1 : World, (W.cell? ⟨b, 0, none⟩ = some (.int .i64 (M : Int)) ∧ W.cell? ⟨bx, 0, none⟩ = some (.string ⟨n.toArray⟩) ∧ W.cell? ⟨bx, 1, none⟩ = some (.string ⟨val.toArray⟩)) → (∃ v3, RT W1 B b v3 (M : Int) (Tb.shr m fs)) → W.grownBy W1 (some b) → W1.cell? ⟨b, 0, none⟩ = some (.int .i64 (M : Int)) ∧ W1.cell? ⟨bx, 0, none⟩ = some (.string ⟨n.toArray⟩) ∧ W1.cell? ⟨bx, 1, none⟩ = some (.string ⟨val.toArray⟩) := fun W W1 ⟨_, b', c⟩ ⟨v3, hR⟩ hg => ⟨hR.obj.cell 0 _ rfl, hg.cell b' (by simpa using hbxb), hg.cell c (by simpa using hbxb)⟩
    have rk : ∀ {W2 : World}, Below w1.drew.heap.size w1.drew W2 → RT W2 B b v (M : Int) fs := fun hb => HR1.out.keep (below_two ((Below.refl _ _).drew) hb)
    go_region_held3 (fun W => W.cell? ⟨b, 0, none⟩ = some (.int .i64 (M : Int)) ∧ W.cell? ⟨bx, 0, none⟩ = some (.string ⟨n.toArray⟩) ∧ W.cell? ⟨bx, 1, none⟩ = some (.string ⟨val.toArray⟩))
      (first | assumption | exact cOf _ _ (by assumption) (by assumption) | exact gOf _ _ (by assumption) (by assumption) (by assumption))
      (first
      | (go_at_call 24; refine (weight_b n val k HK.out hw _).mono ?_; rintro e w2 ⟨rfl, hb2⟩)
      | (go_at_call 42; rw [HWM.out]; refine (rshrink_any B b v (M : Int) fs m _ ?_ ?_).mono ?_; exact rk hb2; omega; rintro e w3 ⟨rfl, v3, hR3, hv3, hg3⟩; have hE3 : ∃ v3, RT w3 B b v3 (M : Int) (Tb.shr m fs) := ⟨v3, hR3⟩))
    have HB2 : Hid (Below w1.heap.size w1 w2) := hid' (below_two ((Below.refl _ _).drew) hb2)
    obtain ⟨c0, cx0, cx1⟩ := gOf _ _ (cOf _ _ hS1 HB2.out) hE3 hg3
    have HR3 := hid' hR3
    have HV3 := hid' hv3
    have HG3 : Hid (w.grownBy w3 (some b)) := hid' (gb_trans (gb_below (gb_below (grown_of_below HB0.out _) HB1.out) HB2.out) hg3)
    have HADD2 : Hid (Tb.add M fs (n, val) = (n, val) :: Tb.shr m fs) := hid' (by rw [HADD.out, if_neg hlt, HMK.out])
    have c1 := hR3.obj.cell 1 _ rfl
    have hbw3 : b < w3.heap.size := hR3.obj.lt
    have hw3 : w.heap.size ≤ w3.heap.size := HG3.out.size
    have hgl : (Tb.shr m fs).length ≤ 1048576 := by
      obtain ⟨q, hq, e⟩ := Tb.shr_prefix fs m
      have := Tb.size_len fs
      rw [e, List.length_take]; omega
    clear hE3 hg3 hb2 hS1 hv3 HR1 HR0 HB0 HB1 HB2 H HK HADD hm hd hd2 cOf gOf rk
    generalize Tb.shr m fs = gs at *
    have hrow := hR3.row
    have HL : Hid ((w3.alloc (.cells #[.string ⟨n.toArray⟩, .string ⟨val.toArray⟩] 32)).ownsRow w3.heap.size 32 2 (.slice (some ⟨w3.heap.size, 0, none⟩) 1 1) 1 [.string ⟨n.toArray⟩, .string ⟨val.toArray⟩]) := hid' (World.ownsRow_lit w3 #[.string ⟨n.toArray⟩, .string ⟨val.toArray⟩] 1 (Nat.le_refl _) (by decide) rfl)
    have HW3 := hid' hw3
    clear hR3
    rcases hrow.2 with ⟨rfl, h0⟩ | ⟨g, cap, cur, rfl, _⟩
    · have hgn : gs = [] := List.eq_nil_of_length_eq_zero h0
      subst hgn
      clear hrow h0
      have hc1 : w3.cell? ⟨b, 1, none⟩ = some (.slice none 0 0) := c1
      have f1 := HR3.out.obj.free 1
      clear c1
      go_wp2_with (at_builtin; refine wpList_append_own_none rfl _ _ 42 rfl w3.heap.size 32 i0 2 Try.underlying42 HI.out _ _ _ rfl HL.out rfl ?_)
      go_end0
      obtain ⟨V, hV⟩ : ∃ V : Value, V = .slice (some ⟨w3.heap.size, 0, none⟩) 1 1 := ⟨_, rfl⟩
      have hsz : (w3.setCell ⟨b, 1, none⟩ V).heap.size = w3.heap.size := (upd_setCell w3 b 1 V).size
      have HL2 := World.ownsRow_lit (base := w3.heap.size) (e := 32) (size := 2) (w3.setCell ⟨b, 1, none⟩ V) #[.string ⟨n.toArray⟩, .string ⟨val.toArray⟩] 1 (by rw [hsz]; exact Nat.le_refl _) (by decide) rfl
      rw [hsz, ← hV] at HL2
      rw [← hV]
      refine ⟨rfl, V, ?_, ?_, ?_⟩
      · rw [HADD2.out]
        exact ⟨HR3.out.ge, (HR3.out.obj.set 1 V).keep ((Below.refl _ _).alloc (Nat.le_refl _) _), rows_le HL2 (Nat.le_trans hB HW3.out)⟩
      · intro k hk
        rw [hV] at hk
        simp [Value.ownBlock] at hk
        exact .inr (by have := HW3.out; omega)
      · exact gb_trans (gb_trans HG3.out (gb_set w3 b 1 V)) (World.grownBy_alloc _ _ _)
    · obtain ⟨Y, hY⟩ : ∃ Y, Tb.cells gs = Y := ⟨_, rfl⟩
      rw [hY] at hrow
      have HYL : Hid (Y.length = gs.length * 2) := hid' (by rw [← hY]; exact Tb.cells_length gs)
      have HY1 : Hid (∀ u ∈ Y, u.oneCell' = true) := hid' (by rw [← hY]; exact Tb.cells_one gs)
      have HYC : Hid (∀ j u, Y[j]? = some u → (w3.alloc (.cells #[.string ⟨n.toArray⟩, .string ⟨val.toArray⟩] 32)).cell? ((⟨g, 0, none⟩ : Addr).add j) = some u) := hid' ((hrow.alloc _).cells rfl)
      have HYE := hid' hY
      have hc1 : w3.cell? ⟨b, 1, none⟩ = some (.slice (some ⟨g, 0, none⟩) gs.length cap) := c1
      clear hY hrow c1
      go_wp2_with (at_builtin; refine wpList_append_own _ rfl _ _ 42 rfl w3.heap.size 32 i0 (.agg #[.string ⟨#[]⟩, .string ⟨#[]⟩]) 2 32 Try.underlying42 HI.out HZ0.out HZ1.out HZ2.out rfl (by decide) _ _ _ rfl HL.out ⟨g, 0, none⟩ gs.length cap Y rfl HYL.out HYC.out HY1.out ?a1 ?a2 ?a3 ?_)
      case a1 => unfold maxLen; omega
      case a2 => omega
      case a3 => simp
      intro v5 w5 hown hgrow _
      have hown' : w5.ownsRow w3.heap.size 32 2 v5 (gs.length + 1) (.string ⟨n.toArray⟩ :: .string ⟨val.toArray⟩ :: Y) := by rw [Nat.add_comm]; exact hown
      obtain ⟨g5, cap5, rfl⟩ : ∃ g5 cap5, v5 = .slice (some ⟨g5, 0, none⟩) (gs.length + 1) cap5 := by
        rcases hown'.2 with ⟨_, h0⟩ | ⟨g, cap, cur, hv, _⟩
        · omega
        · exact ⟨g, cap, hv⟩
      have hg5 : w3.heap.size ≤ g5 := (hown'.lt g5 rfl).1
      have hb5 : w5.heap[b]? = w3.heap[b]? := by rw [hgrow.block b (by simp; omega) (by simp [Value.ownBlock]; omega)]; exact Lib.alloc_old w3 _ b hbw3
      have hob : Ar w5 b 44 #[.int .i64 (M : Int), .slice (some ⟨g, 0, none⟩) gs.length cap] := by unfold Ar; rw [hb5]; exact HR3.out.obj
      have d1 : w5.cell? ⟨b, 1, none⟩ = some (.slice (some ⟨g, 0, none⟩) gs.length cap) := hob.cell 1 _ rfl
      have g1 := hob.free 1
      have HOB := hid' hob
      have HOW5 := hid' hown'
      have HG5 : Hid (w3.grownBy w5 (some b)) := hid' (
        have h := Pm_grown_alloc hgrow
        ⟨h.os, h.tape, h.output, h.size, fun k hk _ => h.block k hk (by simp [Value.ownBlock]; omega)⟩)
      clear hob hown hown' hgrow hb5
      go_wp2
      go_end0
      refine ⟨rfl, .slice (some ⟨g5, 0, none⟩) (gs.length + 1) cap5, ?_, ?_, ?_⟩
      · rw [HADD2.out]
        have hr := HOW5.out
        rw [← HYE.out, ← Tb.cells_cons (n, val)] at hr
        exact ⟨HR3.out.ge, HOB.out.set 1 _, ownsRow_setCell_other (rows_le hr (Nat.le_trans hB HW3.out)) (by simp [Value.ownBlock]; omega) _⟩
      · intro k hk
        simp [Value.ownBlock] at hk
        exact .inr (by have := HW3.out; omega)
      · exact gb_trans (gb_trans HG3.out HG5.out) (gb_set _ _ _ _)

set_option maxHeartbeats 1000000 in
theorem rresize_no (B b : Nat) (v : Value) (M : Int) (fs : List (List UInt8 × List UInt8)) (most : Int) (w : World) (_h : RT w B b v M fs) (hm : most < 0 ∨ 65536 < most) :
    Calls Try.prog 14 #[.pointer (some ⟨b, 0, none⟩), .int .i64 most] w fun e w' => e = .returned (.int .i64 5) ∧ w' = w := by
  clear _h
  by_cases h0 : most < 0
  · clear hm
    go_enter Try.func14, Try.ntmps14
    go_wp2
    go_ret
    exact ⟨rfl, rfl⟩
  · have h1 : 65536 < most := by omega
    clear hm
    go_enter Try.func14, Try.ntmps14
    go_wp2
    go_ret
    exact ⟨rfl, rfl⟩

set_option maxHeartbeats 1000000 in
theorem rresize_yes (B b : Nat) (v : Value) (M : Int) (fs : List (List UInt8 × List UInt8)) (most : Nat) (w : World) (h : RT w B b v M fs) (hm : most ≤ 65536) (hs : Tb.size fs ≤ 1048576) :
    Calls Try.prog 14 #[.pointer (some ⟨b, 0, none⟩), .int .i64 (most : Int)] w fun e w' => e = .returned (.int .i64 0) ∧ ∃ v', RT w' B b v' (most : Int) (Tb.shr most fs) ∧ v'.ownBlock = v.ownBlock ∧ w.grownBy w' (some b) := by
  have H := hid' h
  have c0 := h.obj.cell 0 _ rfl
  have f0 := h.obj.free 0
  have hd0 : decide ((most : Int) < 0) = false := decide_eq_false (by omega)
  have hd1 : decide ((65536 : Int) < (most : Int)) = false := decide_eq_false (by omega)
  clear h
  go_enter Try.func14, Try.ntmps14
  go_wp2_with fail
  refine (rshrink_any B b v (most : Int) fs most _ (H.out.setMost _) (by omega)).mono ?_
  rintro e w1 ⟨rfl, v1, hR, hv, hg⟩
  have HR := hid' hR
  have HV := hid' hv
  have HG := hid' (gb_trans (gb_set w b 0 (.int .i64 (most : Int))) hg)
  clear hR hv hg
  go_wp2
  go_ret
  exact ⟨rfl, v1, HR.out, HV.out, HG.out⟩

end Go.Proofs.Ytjpgnifogacpcaa
