/-
  (*Book).first: by its contract.
-/
import Derived.Test.YthgdokcdpmoeeaaStK
namespace Go.Proofs.Ythgdokcdpmoeeaa
open Go.RowKit

set_option maxHeartbeats 4000000 in
set_option maxRecDepth 20000 in
theorem sfirst_stopped (B b : Nat) (k : Sm.Bk) (v u : Value) (n : Nat) (e0 : Bool) (w : World) (h : BK w B b k v u) (hst : k.st = true) (hok : Sm.Ok { k with pa := max k.pa n }) :
    Calls Try.prog 43 #[.pointer (some ⟨b, 0, none⟩), .int .i64 (n : Int), .bool e0] w fun e w' => e = .returned (.tuple #[.agg #[.bool false, .bool false, .int .i64 0], .bool false]) ∧ BK w' B b { k with pa := max k.pa n } v u ∧ KF B w w' := by
  obtain ⟨pa, hpa⟩ : ∃ pa, k.pa = pa := ⟨_, rfl⟩
  have H := hid' h
  have HOK := hid' hok
  have HPA := hid' hpa
  have HST := hid' hst
  clear h hok hpa hst
  go_enter Try.func43, Try.ntmps43
  go_wp2_with (refine wpl_alloc 29 rfl rfl _ szeroW ?_)
  intro b6 w6 hg6 ha6 hb6
  have hk6 := H.out.keep hb6
  have c4 := hk6.cells.2.2.2.2.1
  have c5 := hk6.cells.2.2.2.2.2
  have f5 := hk6.hd.free 5
  rw [HST.out] at c4
  rw [HPA.out] at c5
  have HK6 := hid' hk6
  have HA6 := hid' ha6
  have HB6 := hid' hb6
  have HG6 := hid' hg6
  clear hk6 ha6 hb6 hg6
  obtain ⟨mx, hmx⟩ : ∃ mx, max pa n = mx := ⟨_, rfl⟩
  have hmxi : (if pa < n then (n : Int) else (pa : Int)) = (mx : Int) := by split <;> omega
  have HMX := hid' hmx
  clear hmx
  go_upto_region 3 with fail
  try rw [hmxi]
  try rw [hmxi]
  have hu := upd_setCell w6 b 5 (.int .i64 (mx : Int))
  have ha7 : Ar (w6.setCell ⟨b, 5, none⟩ (.int .i64 (mx : Int))) b6 29 #[.bool false, .bool false, .int .i64 0] := hu.keep HA6.out (HA6.out.apart HK6.out.hd (by decide))
  have hk7 : BK (w6.setCell ⟨b, 5, none⟩ (.int .i64 (mx : Int))) B b { k with pa := max k.pa n } v u := HK6.out.put hu (by have := HK6.out.hd.set 5 (.int .i64 (mx : Int)); simp only [HPA.out, HMX.out]; exact this) rfl rfl HOK.out
  have hf7 : KF B w (w6.setCell ⟨b, 5, none⟩ (.int .i64 (mx : Int))) := (KF.of_below HB6.out H.out.size).trans (KF.of_upd hu HK6.out.hd H.out.lo)
  obtain ⟨W7, hW7⟩ : ∃ W7, w6.setCell ⟨b, 5, none⟩ (.int .i64 (mx : Int)) = W7 := ⟨_, rfl⟩
  rw [hW7] at ha7 hk7 hf7 ⊢
  have HA7 := hid' ha7
  have HK7 := hid' hk7
  have HF7 := hid' hf7
  clear hu ha7 hk7 hf7 hW7 c4 c5 f5 hmxi
  go_wp2_with (refine wpl_store 29 _ _ rfl rfl b6 #[.bool false, .bool false, .int .i64 0] (by kernel_rfl) (by kernel_rfl) _ _ HA7.out ssizeW rfl (by simp [Value.oneCell']) ?_)
  intro w8 ha8 hu8
  go_wp2
  have hld := sldW ha8
  have hlow : w.heap.size ≤ b6 := HG6.out
  refine bodyPost_ret (v := .tuple #[.agg #[.bool false, .bool false, .int .i64 0], .bool false]) (by simp [results, Try.results43, asAddr, hld]) rfl ⟨rfl, HK7.out.other hu8 HA7.out (by decide) (by decide) (by decide), HF7.out.new hu8 hlow H.out.size⟩

set_option maxHeartbeats 4000000 in
set_option maxRecDepth 20000 in
theorem sfirst_full (B b : Nat) (k : Sm.Bk) (v u : Value) (n : Nat) (e0 : Bool) (w : World) (h : BK w B b k v u) (hst : k.st = false) (hf : k.op.length = k.most) (hok1 : Sm.Ok { k with last := n }) (hok : Sm.Ok (Sm.drop { k with last := n } n)) :
    Calls Try.prog 43 #[.pointer (some ⟨b, 0, none⟩), .int .i64 (n : Int), .bool e0] w fun e w' => e = .returned (.tuple #[.agg #[.bool true, .bool false, .int .i64 7], .bool false]) ∧ (∃ u', BK w' B b (Sm.drop { k with last := n } n) v u') ∧ KF B w w' := by
  obtain ⟨M, hM⟩ : ∃ M, k.most = M := ⟨_, rfl⟩
  obtain ⟨ao, cap, hv⟩ := own_shape h.op
  rw [hf, hM] at hv
  subst hv
  have hMb : M ≤ 65536 := by rw [← hM]; exact h.ok.m2
  have H := hid' h
  have HOK := hid' hok
  have HOK1 := hid' hok1
  have HM := hid' hM
  have HST := hid' hst
  clear h hok hM hst hok1 hf
  go_enter Try.func43, Try.ntmps43
  go_wp2_with (refine wpl_alloc 29 rfl rfl _ szeroW ?_)
  intro b6 w6 hg6 ha6 hb6
  have hk6 := H.out.keep hb6
  have c4 := hk6.cells.2.2.2.2.1
  have c1 := hk6.cells.2.1
  have f1 := hk6.hd.free 1
  rw [HST.out] at c4
  have HK6 := hid' hk6
  have HA6 := hid' ha6
  have HB6 := hid' hb6
  have HG6 := hid' hg6
  clear hk6 ha6 hb6 hg6
  go_upto_region 5 with fail
  have hu := upd_setCell w6 b 1 (.int .i64 (n : Int))
  have ha7 : Ar (w6.setCell ⟨b, 1, none⟩ (.int .i64 (n : Int))) b6 29 #[.bool false, .bool false, .int .i64 0] := hu.keep HA6.out (HA6.out.apart HK6.out.hd (by decide))
  have hk7 : BK (w6.setCell ⟨b, 1, none⟩ (.int .i64 (n : Int))) B b { k with last := n } (.slice ao M cap) u := HK6.out.put hu (HK6.out.hd.set 1 (.int .i64 (n : Int))) rfl rfl HOK1.out
  have hf7 : KF B w (w6.setCell ⟨b, 1, none⟩ (.int .i64 (n : Int))) := (KF.of_below HB6.out H.out.size).trans (KF.of_upd hu HK6.out.hd H.out.lo)
  obtain ⟨W7, hW7⟩ : ∃ W7, w6.setCell ⟨b, 1, none⟩ (.int .i64 (n : Int)) = W7 := ⟨_, rfl⟩
  rw [hW7] at ha7 hk7 hf7 ⊢
  have d0 := hk7.cells.1
  have d2 := hk7.cells.2.2.1
  simp only [HM.out] at d0
  have hMM : ((M : Int) == (M : Int)) = true := by simp
  have HA7 := hid' ha7
  have HK7 := hid' hk7
  have HF7 := hid' hf7
  clear hu ha7 hk7 hf7 hW7 c4 c1 f1
  go_quiet (fail)
  go_wp2_with fail
  refine (sdrop_any B b _ _ _ n _ (HK7.out.drewN _) HOK.out).mono ?_
  rintro e w8 ⟨rfl, ⟨u8, hk8⟩, hf8⟩
  have HA8 := hid' (hf8.drewN.ar HA7.out (by decide) (by decide) (by decide))
  have HF8 := hid' (HF7.out.trans hf8.drewN)
  have HK8 := hid' hk8
  clear hk8 hf8 d0 d2
  go_wp2_with fail
  refine (swithStream_any 7 _).mono ?_
  rintro e w9 ⟨rfl, hb9⟩
  have HA9 := hid' (HA8.out.keep hb9)
  have HF9 := hid' (HF8.out.and hb9 HK8.out.size)
  have HK9 := hid' (HK8.out.keep hb9)
  clear hb9
  go_wp2_with (refine wpl_store 29 _ _ rfl rfl b6 #[.bool true, .bool false, .int .i64 7] (by kernel_rfl) (by kernel_rfl) _ _ HA9.out ssizeW rfl (by simp [Value.oneCell']) ?_)
  intro wa haa hua
  go_wp2
  have hld := sldW haa
  have hlow : w.heap.size ≤ b6 := HG6.out
  refine bodyPost_ret (v := .tuple #[.agg #[.bool true, .bool false, .int .i64 7], .bool false]) (by simp [results, Try.results43, asAddr, hld]) rfl ⟨rfl, ⟨_, HK9.out.other hua HA9.out (by decide) (by decide) (by decide)⟩, HF9.out.new hua hlow H.out.size⟩

set_option maxHeartbeats 4000000 in
set_option maxRecDepth 20000 in
theorem sfirst_add (B b : Nat) (k : Sm.Bk) (v u : Value) (n ph : Nat) (e0 : Bool) (hph : (if e0 then 2 else 1) = ph) (w : World) (h : BK w B b k v u) (hst : k.st = false) (hf : k.op.length ≠ k.most) (hok1 : Sm.Ok { k with last := n }) (hok : Sm.Ok { k with last := n, op := k.op ++ [(n, ph)] }) :
    Calls Try.prog 43 #[.pointer (some ⟨b, 0, none⟩), .int .i64 (n : Int), .bool e0] w fun e w' => e = .returned (.tuple #[.agg #[.bool false, .bool false, .int .i64 0], .bool true]) ∧ (∃ v', BK w' B b { k with last := n, op := k.op ++ [(n, ph)] } v' u) ∧ KF B w w' := by
  obtain ⟨i0, hi, hz0, hz1, hz2⟩ := sinfo_parts sinfoE
  have HI := hid' hi
  have HZ0 := hid' hz0
  have HZ1 := hid' hz1
  have HZ2 := hid' hz2
  clear hi hz0 hz1 hz2
  obtain ⟨M, hM⟩ : ∃ M, k.most = M := ⟨_, rfl⟩
  obtain ⟨m, hm⟩ : ∃ m, k.op.length = m := ⟨_, rfl⟩
  obtain ⟨ao, cap, hv⟩ := own_shape h.op
  rw [hm, hM] at hf
  rw [hm] at hv
  subst hv
  have hMb : M ≤ 65536 := by rw [← hM]; exact h.ok.m2
  have hmb : m ≤ 65536 := by rw [← hm]; exact h.opn
  have H := hid' h
  have HOK := hid' hok
  have HOK1 := hid' hok1
  have HM := hid' hM
  have HML := hid' hm
  have HST := hid' hst
  clear h hok hM hst hok1 hm
  go_enter Try.func43, Try.ntmps43
  go_wp2_with (refine wpl_alloc 29 rfl rfl _ szeroW ?_)
  intro b6 w6 hg6 ha6 hb6
  have hk6 := H.out.keep hb6
  have c4 := hk6.cells.2.2.2.2.1
  have c1 := hk6.cells.2.1
  have f1 := hk6.hd.free 1
  rw [HST.out] at c4
  have HK6 := hid' hk6
  have HA6 := hid' ha6
  have HB6 := hid' hb6
  have HG6 := hid' hg6
  clear hk6 ha6 hb6 hg6
  go_upto_region 5 with fail
  have hu := upd_setCell w6 b 1 (.int .i64 (n : Int))
  have ha7 : Ar (w6.setCell ⟨b, 1, none⟩ (.int .i64 (n : Int))) b6 29 #[.bool false, .bool false, .int .i64 0] := hu.keep HA6.out (HA6.out.apart HK6.out.hd (by decide))
  have hk7 : BK (w6.setCell ⟨b, 1, none⟩ (.int .i64 (n : Int))) B b { k with last := n } (.slice ao m cap) u := HK6.out.put hu (HK6.out.hd.set 1 (.int .i64 (n : Int))) rfl rfl HOK1.out
  have hf7 : KF B w (w6.setCell ⟨b, 1, none⟩ (.int .i64 (n : Int))) := (KF.of_below HB6.out H.out.size).trans (KF.of_upd hu HK6.out.hd H.out.lo)
  obtain ⟨W7, hW7⟩ : ∃ W7, w6.setCell ⟨b, 1, none⟩ (.int .i64 (n : Int)) = W7 := ⟨_, rfl⟩
  rw [hW7] at ha7 hk7 hf7 ⊢
  have d0 := hk7.cells.1
  have d2 := hk7.cells.2.2.1
  simp only [HM.out] at d0
  have hMM : ((m : Int) == (M : Int)) = false := by simp; omega
  have HA7 := hid' ha7
  have HK7 := hid' hk7
  have HF7 := hid' hf7
  clear hu ha7 hk7 hf7 hW7 c4 c1 f1
  have HROW : Hid (∀ q, (W7.drewN q).ownsRow B 81 2 (.slice ao m cap) m (enCells k.op)) := hid' (fun q => by have := (HK7.out.drewN q).op; simp only [HML.out] at this; exact this)
  have HSZ : Hid (B ≤ W7.heap.size) := hid' HK7.out.size
  obtain ⟨xs, hxs'⟩ : ∃ xs, enCells k.op = xs := ⟨_, rfl⟩
  have HXX := hid' hxs'
  rw [hxs'] at HROW
  clear hxs' hMb
  go_quiet (fail)
  cases e0
  · obtain rfl : 1 = ph := hph
    go_wp2_with (at_builtin; refine wpList_append_own _ rfl _ _ 77 rfl B 81 i0 _ 2 16 Try.underlying77 HI.out HZ0.out HZ1.out HZ2.out rfl (by decide) _ _ _ rfl (World.ownsRow.alloc (HROW.out _) _) ⟨W7.heap.size, 0, none⟩ 1 1 [.int .i64 (n : Int), .int .u8 1] rfl rfl (two_new _ _ _ _) (fun u hu => by simp at hu; rcases hu with rfl | rfl <;> rfl) ?a1 ?a2 ?a3 ?_)
    case a1 => unfold maxLen; omega
    case a2 => omega
    case a3 => have := HSZ.out; simp; omega
    intro vx w8 hown hgrow _
    obtain ⟨bo2, cap2, hvx⟩ := own_shape hown
    subst hvx
    obtain ⟨ha8, hk8, hf8⟩ := ((HK7.out.drewN _).keep ((Below.refl _ _).alloc (Nat.le_refl _) _)).newOp hgrow (op' := k.op ++ [(n, 1)]) (by rw [enCells_append, HXX.out, List.length_append, HML.out]; exact hown) HOK.out
    have c28 := ha8.cell 2 _ rfl
    have f28 := ha8.free 2
    have hfk := ((KF.of_below ((Below.refl _ _).alloc (Nat.le_refl _) _) (HK7.out.drewN _).size).trans hf8).drewN
    have HK8 := hid' hk8
    have HF8 := hid' (HF7.out.trans hfk)
    have HA8 := hid' (hfk.ar HA7.out (by decide) (by decide) (by decide))
    clear hown hgrow ha8 hk8 hf8 hfk
    go_upto_region 12 with fail
    obtain ⟨W9, hW9⟩ : ∃ W9, w8.setCell ⟨b, 2, none⟩ (.slice bo2 (m + 1) cap2) = W9 := ⟨_, rfl⟩
    rw [hW9] at HK8 HF8 HA8
    try rw [hW9]
    clear hW9 c28 f28
    go_wp2_with (refine wpl_store 29 _ _ rfl rfl b6 #[.bool false, .bool false, .int .i64 0] (by kernel_rfl) (by kernel_rfl) _ _ HA8.out ssizeW rfl (by simp [Value.oneCell']) ?_)
    intro wa haa hua
    go_wp2
    have hld := sldW haa
    have hlow : w.heap.size ≤ b6 := HG6.out
    refine bodyPost_ret (v := .tuple #[.agg #[.bool false, .bool false, .int .i64 0], .bool true]) (by simp [results, Try.results43, asAddr, hld]) rfl ⟨rfl, ⟨_, HK8.out.other hua HA8.out (by decide) (by decide) (by decide)⟩, HF8.out.new hua hlow H.out.size⟩
  · obtain rfl : 2 = ph := hph
    go_wp2_with (at_builtin; refine wpList_append_own _ rfl _ _ 77 rfl B 81 i0 _ 2 16 Try.underlying77 HI.out HZ0.out HZ1.out HZ2.out rfl (by decide) _ _ _ rfl (World.ownsRow.alloc (HROW.out _) _) ⟨W7.heap.size, 0, none⟩ 1 1 [.int .i64 (n : Int), .int .u8 2] rfl rfl (two_new _ _ _ _) (fun u hu => by simp at hu; rcases hu with rfl | rfl <;> rfl) ?a1 ?a2 ?a3 ?_)
    case a1 => unfold maxLen; omega
    case a2 => omega
    case a3 => have := HSZ.out; simp; omega
    intro vx w8 hown hgrow _
    obtain ⟨bo2, cap2, hvx⟩ := own_shape hown
    subst hvx
    obtain ⟨ha8, hk8, hf8⟩ := ((HK7.out.drewN _).keep ((Below.refl _ _).alloc (Nat.le_refl _) _)).newOp hgrow (op' := k.op ++ [(n, 2)]) (by rw [enCells_append, HXX.out, List.length_append, HML.out]; exact hown) HOK.out
    have c28 := ha8.cell 2 _ rfl
    have f28 := ha8.free 2
    have hfk := ((KF.of_below ((Below.refl _ _).alloc (Nat.le_refl _) _) (HK7.out.drewN _).size).trans hf8).drewN
    have HK8 := hid' hk8
    have HF8 := hid' (HF7.out.trans hfk)
    have HA8 := hid' (hfk.ar HA7.out (by decide) (by decide) (by decide))
    clear hown hgrow ha8 hk8 hf8 hfk
    go_upto_region 12 with fail
    obtain ⟨W9, hW9⟩ : ∃ W9, w8.setCell ⟨b, 2, none⟩ (.slice bo2 (m + 1) cap2) = W9 := ⟨_, rfl⟩
    rw [hW9] at HK8 HF8 HA8
    try rw [hW9]
    clear hW9 c28 f28
    go_wp2_with (refine wpl_store 29 _ _ rfl rfl b6 #[.bool false, .bool false, .int .i64 0] (by kernel_rfl) (by kernel_rfl) _ _ HA8.out ssizeW rfl (by simp [Value.oneCell']) ?_)
    intro wa haa hua
    go_wp2
    have hld := sldW haa
    have hlow : w.heap.size ≤ b6 := HG6.out
    refine bodyPost_ret (v := .tuple #[.agg #[.bool false, .bool false, .int .i64 0], .bool true]) (by simp [results, Try.results43, asAddr, hld]) rfl ⟨rfl, ⟨_, HK8.out.other hua HA8.out (by decide) (by decide) (by decide)⟩, HF8.out.new hua hlow H.out.size⟩

end Go.Proofs.Ythgdokcdpmoeeaa
