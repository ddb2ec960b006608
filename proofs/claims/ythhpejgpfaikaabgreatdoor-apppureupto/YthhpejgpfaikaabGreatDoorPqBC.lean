/-
  What the row stands on.
-/
import Derived.Lib.SlicesCompact
import Derived.Lib.RowBridge
import Derived.Test.YthhpejgpfaikaabGreatDoorPqBB
import Derived.Test.YthhpejgpfaikaabGreatDoorPqAZ
namespace Go.Proofs.YthhpejgpfaikaabGreatDoor
set_option maxHeartbeats 64000000
open Go.RowKit Go.Shelf Go.Sort

attribute [local go_sem] Oper.semAt_some

set_option maxRecDepth 100000 in
theorem seqA18 (F : Fence) (n : Nat) (h3 : F.fn 107) (h5 : F.fn 97) (hro : F.round = none) (hn : 3 ≤ n) (Bs : Nat) (sv : Value) (zs : List (List UInt8)) (hlen : zs.length ≤ 4194306) (w : World) (hBs : Bs < w.heap.size) (hc0 : w.cell? ⟨Bs, 0, none⟩ = some sv) (hL : Txs18 w.heap.size w sv zs) :
  CallsIn F n Tryz.prog 107 #[.slice none 0 0, .func (.func 97) #[] #[.pointer (some ⟨Bs, 0, none⟩)]] w fun e W' => ∃ v, e = .returned v ∧ W'.ownsRow w.heap.size 9 1 v zs.length (zs.map encStr) ∧ (v = .slice none 0 0 ↔ zs = []) ∧ Below w.heap.size w W' := by
 have h1 : 1 ≤ n := by omega
 obtain ⟨i0, hi, hz0, hz1, hz2⟩ := info_parts infoS17;refine callsIn_of_wp_marks Tryz.func107 rfl h3 ?_ hro;simp only [Tryz.ntmps107, List.size_toArray, List.length_cons, List.length_nil, Nat.reduceAdd, Nat.reduceSub, Array.replicate_succ, Array.replicate_zero, List.push_toArray, List.append_toArray, List.nil_append, List.cons_append]
 gi_wp2
 have bO := Boxed.new w 76 (.slice none 0 0);have hB0 : Below w.heap.size w (w.alloc (.cells #[.slice none 0 0] 76)) := (Below.refl _ w).alloc (Nat.le_refl _) _;refine wpIn_rangeFunc_ownG hro h1 (gf := 97) (lb := #[.pointer (some ⟨Bs, 0, none⟩)]) rfl h5 (enters_of Tryz.func97 (by kernel_rfl) rfl)
  (valS18 F (n - 1) h5 hro (by omega) Bs w.heap.size sv zs hlen _ (by simp; omega) (by simp) ((hB0.cell (p := ⟨Bs, 0, none⟩) hBs).trans hc0) (hL.below hB0)) belowK_t (belowK_b (by simp)) (Below.refl _ _) (fun _ => rfl)
  (fun pre W => (∃ v, Boxed W w.heap.size 76 v ∧ W.ownsRow w.heap.size 9 1 v pre.length (pre.map encStr) ∧ (v = .slice none 0 0 ↔ pre = [])) ∧ Below w.heap.size w W)
  (fun _ _ _ => False)
  (OwnFrom.and (Own.from (holdsRow_own w.heap.size w.heap.size 76 9 1 (fun pre => pre.length) (fun pre => pre.map encStr) (fun pre v => v = .slice none 0 0 ↔ pre = [])) _) (ownFrom_below (Nat.le_refl _) (by simp)))
  (fun _ _ _ _ _ hs _ _ => hs)
  ⟨⟨_, bO, World.ownsRow_nil _ _ _ _, by simp⟩, hB0⟩
  (fun x => { tmps := #[.slice none 0 0, .func (.func 97) #[] #[.pointer (some ⟨Bs, 0, none⟩)], .pointer (some ⟨w.heap.size, 0, none⟩), undef, .slice none 0 0, encStr x, .func (.func 97) #[] #[.pointer (some ⟨Bs, 0, none⟩)], encStr x, undef, undef, undef, undef, undef], defers := [] }) ?assign ?body ?done ?stop
 case assign =>
  intro l x W K hK
  gi_wp2
  exact hK
 case body =>
  rintro l pre x W ⟨⟨v, hv, hrow, hnil⟩, hB⟩ hlt;have hc := hv.cell;unfold encStr
  gi_wp2_with (gi_at_builtin; refine wpListIn_append_own _ rfl _ _ 76 rfl w.heap.size 9 i0 (.string ⟨#[]⟩) 1 16 Tryz.underlying76 hi hz0 hz1 hz2 rfl (by decide) _ _ _ rfl (hrow.alloc _) ⟨W.heap.size, 0, none⟩ 1 1 [.string ⟨x.toArray⟩] rfl rfl (cell_one_new _ _ _) (by simp [Value.oneCell']) (by unfold maxLen; omega) (by omega) (by have := hB.size; simp; omega) ?_; intro v' w1 hown' hgrow _; obtain ⟨g', cap', rfl⟩ := ownsRow_succ hown'; obtain ⟨hv1, hv2, hr2, hk2, hb2⟩ := hv.appended (by decide) hrow hB.size (Nat.le_refl _) hown' hgrow; have hc1 := hv1.cell; have hf1 := hv1.frozen)
  exact ⟨hk2.from _, hb2, ⟨_, hv2, by simpa [encStr] using hr2, by simp⟩, hB.trans hb2⟩
 case done =>
  rintro D ys W hD rfl ⟨⟨v, hv, hrow, hnil⟩, hB⟩ hK;have hc := hv.cell
  gi_wp2
  refine ⟨by simp, .inl ⟨_, _, rfl, run_takeDeferred hK, ?_⟩⟩;exact ⟨_, results_tmp rfl _ _ _, v, rfl, ownsRow_putObj hrow _ hK rfl, hnil, hB.trans (belowK_b (w := w) (Nat.le_refl _) W D _ _ (by simp at hD; omega) hK rfl rfl)⟩
 case stop =>
  rintro D c pre W _ _ h _;exact h.elim

theorem collA18 (F : Fence) (n : Nat) (h3 : F.fn 107) (h4 : F.fn 85) (h5 : F.fn 97) (hro : F.round = none) (hn : 4 ≤ n) (Bs : Nat) (sv : Value) (zs : List (List UInt8)) (hlen : zs.length ≤ 4194306) (w : World) (hBs : Bs < w.heap.size) (hc0 : w.cell? ⟨Bs, 0, none⟩ = some sv) (hL : Txs18 w.heap.size w sv zs) :
  CallsIn F n Tryz.prog 85 #[.func (.func 97) #[] #[.pointer (some ⟨Bs, 0, none⟩)]] w fun e W' => ∃ v, e = .returned v ∧ W'.ownsRow w.heap.size 9 1 v zs.length (zs.map encStr) ∧ (v = .slice none 0 0 ↔ zs = []) ∧ Below w.heap.size w W' := by
 have h1 : 1 ≤ n := by omega
 have cA := seqA18 F (n - 1) h3 h5 hro (by omega) Bs sv zs hlen w hBs hc0 hL;have hf : F.fn 107 := h3;refine callsIn_of_wp Tryz.func85 rfl h4 ?_ hro;simp only [Tryz.ntmps85, List.size_toArray, List.length_cons, List.length_nil, Nat.reduceAdd, Nat.reduceSub, Array.replicate_succ, Array.replicate_zero, List.push_toArray, List.append_toArray, List.nil_append, List.cons_append]
 gi_wp2_with (gi_at_call 107; refine cA.mono ?_; rintro e w' ⟨v, rfl, hrow, hnil, hb⟩)
 go_ret;exact ⟨v, rfl, hrow, hnil, hb⟩

open Go.RowKit Go.Shelf Go.Sort

theorem csorted18 (Bs : Nat) (sv : Value) (zs : List (List UInt8)) (hlen : zs.length ≤ 4194306) (w : World) (hBs : Bs < w.heap.size) (hc0 : w.cell? ⟨Bs, 0, none⟩ = some sv) (hL : Txs18 w.heap.size w sv zs) :
  Calls Tryz.prog 68 #[.func (.func 97) #[] #[.pointer (some ⟨Bs, 0, none⟩)]] w fun e W' => ∃ v, e = .returned v ∧ W'.ownsRow w.heap.size 9 1 v zs.length ((zs.mergeSort (fun x y => decide (x ≤ y))).map encStr) ∧ Below w.heap.size w W' := by
 have HC := hid' ((callsIn_wide (n := 6)).1 (collA18 Fence.wide 6 trivial trivial trivial rfl (by omega) Bs sv zs hlen w hBs hc0 hL));clear hBs hc0 hL;go_enter Tryz.func68, Tryz.ntmps68;go_wp2_with fail;refine HC.out.mono ?_;rintro e w1 ⟨v, rfl, hrow, hnil, hb⟩;rcases hrow.2 with ⟨rfl, hz⟩ | ⟨g, cap, cur, rfl, hbase, hgb, r1, r2, r3, r4⟩
 ·have hzs : zs = [] := List.eq_nil_of_length_eq_zero hz;subst hzs;have HR := hid' hrow;have HB := hid' hb;clear hrow hnil hb hz;go_wp2_with fail;refine (Tryz.slices_Sort_string_none none 0 w1).mono ?_;rintro e w2 ⟨rfl, hw2⟩;subst w2;go_wp2;go_ret;exact ⟨_, rfl, by simpa using HR.out, HB.out⟩
 ·have hH : Holds encStr w1 g 0 zs.toArray := holds_of_block hgb (by simpa using r4);have hgl : g < w1.heap.size := (Array.getElem?_eq_some_iff.1 hgb).1;have HS := hid' (Tryz.slices_Sort_string g 0 cap zs w1 hH hgl (by omega));have HO : Hid (∀ k os, (grow (putRow encStr (Sort.ahead w1 k) g 0 (zs.mergeSort (fun x y => decide (x ≤ y))).toArray) os).ownsRow w.heap.size 9 1 (.slice (some ⟨g, 0, none⟩) zs.length cap) zs.length ((zs.mergeSort (fun x y => decide (x ≤ y))).map encStr)) := hid' (fun k os => ownsRow_sorted (by simp) hbase hgb r1 r2 r3);have HB : Hid (∀ k os, Below w.heap.size w (grow (putRow encStr (Sort.ahead w1 k) g 0 (zs.mergeSort (fun x y => decide (x ≤ y))).toArray) os)) := hid' (fun k os => hb.grown (grownBy_sorted _) hb.size (fun j hj => by cases hj; exact hbase));clear hrow hnil hb hbase hgb r1 r2 r3 r4 hH hgl;go_wp2_with fail;refine HS.out.mono ?_;rintro e w2 ⟨rfl, k, os, hw2⟩;have HO2 := hid' (HO.out k os);have HB2 := hid' (HB.out k os);rw [← hw2] at HO2 HB2;clear hw2;go_wp2;go_ret;exact ⟨_, rfl, HO2.out, HB2.out⟩
theorem grow_none18 (w : World) : grow w #[] = w := by cases w; simp [grow]
theorem Txs18.own {w : World} {B : Nat} {v : Value} {zs : List (List UInt8)} (h : w.ownsRow B 9 1 v zs.length (sC17 zs)) : Txs18 w.heap.size w v zs := by
 rcases h.2 with ⟨hv, hn⟩ | ⟨g, cap, cur, hv, _, h3, _⟩
 ·exact .inl ⟨hv, List.eq_nil_of_length_eq_zero hn⟩
 ·refine .inr ⟨g, cap, hv, (Array.getElem?_eq_some_iff.1 h3).1, fun j z hz => ?_⟩;have := h.cells (g := g) (by rw [hv]; rfl) j (encStr z) (by unfold sC17 encStr; rw [List.getElem?_map, hz]; rfl);rw [Addr.add_mid, Nat.zero_add] at this;exact this

theorem crep18 (no : Option Addr) (c nc : Nat) (ns : List (List UInt8)) (hn : ns.length = c) (hcb : c ≤ 4194306) (B : Nat) (w : World) (h : w.ownsRow B 9 1 (.slice no c nc) c (sC17 ns)) :
  Calls Tryz.prog 44 #[.slice no c nc] w fun e w' => e = .returned (.bool (!decide ns.Nodup)) ∧ Below w.heap.size w w' := by
 subst hn;have hb0 := bl_alloc17 w (.cells #[.slice no ns.length nc] 76);have hA0 : Ar (w.alloc (.cells #[.slice no ns.length nc] 76)) w.heap.size 76 #[.slice no ns.length nc] := heap_alloc_last w _;have HS := hid' (csorted18 w.heap.size (.slice no ns.length nc) ns hcb (w.alloc (.cells #[.slice no ns.length nc] 76)) (by simp) (hA0.cell 0 _ rfl) ((Txs18.own (own_kp17 h hb0))));have HV := hid' (fun W => (callsIn_wide (n := 6)).1 (valF18 Fence.wide 6 trivial rfl no ns.length nc W));have HRN := hid' (Rt.rep_names ns);have HLN : Hid ((ns.mergeSort (fun x y => decide (x ≤ y))).length = ns.length) := hid' (Rt.sort_perm ns).length_eq;generalize ns.mergeSort (fun x y => decide (x ≤ y)) = ss at *;generalize (!decide ns.Nodup) = bb at *;have HB0 := hid' hb0;clear h hb0 hA0;go_enter Tryz.func44, Tryz.ntmps44;go_wp2_with fail;refine (HV.out _).mono ?_;rintro e w1 ⟨rfl, hw1⟩;subst w1;go_wp2_with fail;refine HS.out.mono ?_;rintro e w1 ⟨v, rfl, hrow, hb⟩;have HB1 : Hid (Below w.heap.size w w1) := hid' (below_two HB0.out hb);rcases hrow.2 with ⟨rfl, hz⟩ | ⟨g, cap, cur, rfl, hbase, hgb, r1, r2, r3, r4⟩
 ·have HE : Hid (bb = false) := hid' (by rw [← HRN.out]; simp [hz]);have h0 : ¬ (0 : Int) < (ns.length : Int) := by omega
  have h0n : ¬ 0 < ns.length := by omega
  clear hrow hb hz;go_wp2_with fail;refine (Tryz.slices_Compact_string_empty none 0 w1).mono ?_;rintro e w2 ⟨rfl, hw2⟩;subst w2;go_wp2;go_ret;exact ⟨by rw [HE.out]; first | rfl | simp [h0n], HB1.out⟩
 ·have hH : Holds encStr w1 g 0 ss.toArray := holds_of_block hgb (by rw [HLN.out]; simpa using r4);have hbg := hbase;have HC := hid' (Tryz.slices_Compact_string g 0 cap ss w1 hH (by rw [HLN.out]; omega) (by rw [HLN.out]; exact r1));rw [HLN.out] at HC;generalize hcl : (Lib.compact ss).length = cl at *;have HBC : Hid (∀ (q : Nat) (d : Array (List UInt8)), Below w.heap.size w (putRow encStr (Sort.ahead w1 q) g 0 d)) := hid' (fun q d => by
   have hg2 := (grownBy_sorted (w := w1) (g := g) (n := q) (os := #[]) d);rw [grow_none18] at hg2;exact HB1.out.grown hg2 HB1.out.size (fun j hj => by cases hj; exact Nat.le_trans HB0.out.size hbg))
  have hck : decide (cl < ns.length) = bb := HRN.out;clear hrow hb hbase hgb r1 r2 r3 r4 hH hbg hcl HRN;cases bb
  ·have h0n : ¬ cl < ns.length := of_decide_eq_false hck;have h0 : ¬ (cl : Int) < (ns.length : Int) := by omega
   clear hck;go_wp2_with fail;refine HC.out.mono ?_;rintro e w2 ⟨rfl, q, hw2⟩;have HB2 : Hid (RowKit.Below w.heap.size w w2) := hid' (by rw [hw2]; exact HBC.out q _);clear hw2;go_wp2;go_ret;exact ⟨rfl, HB2.out⟩
  ·have h0n : cl < ns.length := of_decide_eq_true hck;have h0 : (cl : Int) < (ns.length : Int) := by omega
   clear hck;go_wp2_with fail;refine HC.out.mono ?_;rintro e w2 ⟨rfl, q, hw2⟩;have HB2 : Hid (RowKit.Below w.heap.size w w2) := hid' (by rw [hw2]; exact HBC.out q _);clear hw2;go_wp2;go_ret;exact ⟨rfl, HB2.out⟩

end Go.Proofs.YthhpejgpfaikaabGreatDoor
