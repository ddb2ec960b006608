/-
  MsgStrips: its contract.
-/
import Derived.Test.YtcljepppdljnlabDoorMcU
import Derived.Test.YtcljepppdljnlabDoorMcW
namespace Go.Proofs.YtcljepppdljnlabDoor
open Go.RowKit

theorem dd3 (u : Nat) (h1 : 100 ≤ u) (h2 : u ≤ 999) : (Lib.decDigits u).length = 3 := by
  rw [Lib.decDigits, dif_neg (by omega), Lib.decDigits, dif_neg (by omega), Lib.decDigits_one (by omega)]
  rfl
theorem itoa3 (s : Int) : (Lib.itoa (Ms.stat s)).length = 3 := by
  obtain ⟨h1, h2⟩ := Ms.stat_bd s
  obtain ⟨u, hu⟩ := Int.eq_ofNat_of_zero_le (show 0 ≤ Ms.stat s by omega)
  rw [hu, Lib.itoa_nonneg]
  exact dd3 u (by omega) (by omega)
theorem Ms.strip_idem (l : List Fd) : Ms.strip (Ms.strip l) = Ms.strip l := by
  unfold Ms.strip
  rw [List.filter_filter]
  congr 1
  funext f
  simp

set_option maxHeartbeats 8000000 in
set_option maxRecDepth 20000 in
theorem msgStrips_any (v : Value) (l : List Fd) (st : Int) (w : World) (h : FW w v l) (hT : TB w) (hl : l.length ≤ 1048576) (hs : ∀ f ∈ l, f.n.size ≤ 1048576 ∧ f.v.size ≤ 1048576) :
    Calls Tryd.prog 3 #[v, .int .i64 st] w fun e w' => e = .returned (.bool true) ∧ Below w.heap.size w w' := by
  have H := hid' h
  have HTB := hid' hT
  have HS : Hid (∀ f ∈ l, f.n.size ≤ 140737488355328) := hid' (fun f hf => by have := (hs f hf).1; omega)
  have HL := hid' hl
  obtain ⟨ao, cap, hv⟩ := h.shape
  subst hv
  clear h hT hs
  go_enter Tryd.func3, Tryd.ntmps3
  go_wp2_with fail
  refine (cstrip14 _ l w H.out HL.out HS.out).mono ?_
  rintro e w1 ⟨⟨m, ro, rc, rfl, hm, hown⟩, hb1⟩
  have HM := hid' hm
  have hmb : m ≤ 1048576 := by rw [← hm]; exact Nat.le_trans (Ms.strip_le l) HL.out
  have HFA := hid' (FW.of_own (l := Ms.strip l) (by rw [hm]; exact hown))
  have HB1 := hid' hb1
  clear hm hown hb1
  go_wp2_with fail
  refine (clist14 st _ ⟨#[]⟩ (.slice none 0 0) l w1 (H.out.keep HB1.out) (HTB.out.keep HB1.out) HL.out HS.out).mono ?_
  rintro e w2 ⟨⟨m2, so, sc, rfl, hm2, hown⟩, hb2⟩
  obtain rfl : m2 = m + 1 := by rw [← hm2]; unfold Ms.lst; rw [List.length_cons, List.length_map, HM.out]
  have HFL := hid' (FW.of_own (l := Ms.lst st l) (by rw [hm2]; exact hown))
  have HFA2 := hid' (HFA.out.keep hb2)
  have HB2 := hid' (below_two HB1.out hb2)
  clear hown hb2 HFA HB1 hm2
  obtain ⟨sd, hsd, z0, z1⟩ := HFL.out.two 0 (Ms.stF st) rfl
  subst hsd
  have e1 : (Ms.bStatus.toList != [58, 115, 116, 97, 116, 117, 115]) = false := by unfold bne; rw [Ms.tl_tx]; rfl
  have e1' : (Ms.bStatus.toList == [58, 115, 116, 97, 116, 117, 115]) = true := by rw [Ms.tl_tx]; rfl
  have e2 : (Ms.stF st).v.size = 3 := by rw [Lib.size_eq]; exact itoa3 st
  have e3 : (Ms.stF st).n = Ms.bStatus := rfl
  rw [e3] at z0
  obtain ⟨sv, hsv⟩ : ∃ sv, (Ms.stF st).v = sv := ⟨_, rfl⟩
  rw [hsv] at z1 e2
  clear e3 hsv
  have hsd0 : sd.add (0 * 2) = sd := by simp [Addr.add]
  rw [hsd0] at z0 z1
  clear hsd0
  go_wp2
  go_loopw [7] (fun s7 wr => ∃ (k : Nat), s7 = .int .i64 (k : Int) ∧ k ≤ m ∧ Hid (Below w2.heap.size w2 wr)) (fun s7 _ => m - (intOf s7).toNat)
  case atStart => exact ⟨0, rfl, Nat.zero_le _, hid' (Below.refl _ _)⟩
  case round =>
    obtain ⟨k, rfl, hk, HB⟩ := hrel
    clear z0 z1 e1 e1' e2
    by_cases hlt : k < m
    · have hlt2 : (k : Int) < (m : Int) := by omega
      obtain ⟨p, hp⟩ : ∃ p, (Ms.strip l)[k]? = some p := ⟨_, List.getElem?_eq_getElem (by rw [HM.out]; exact hlt)⟩
      obtain ⟨j, hj⟩ : ∃ j, k + 1 = j := ⟨_, rfl⟩
      have hq : (Ms.lst st l)[j]? = some (Ms.small p) := by rw [← hj]; unfold Ms.lst; simp [hp]
      have HPF : Hid (Ms.bnd p.n = false) := hid' (by have := (List.mem_filter.1 (List.mem_of_getElem? hp)).2; simpa using this)
      have HPS := hid' (HS.out p (Ms.strip_mem (List.mem_of_getElem? hp)))
      obtain ⟨ad, hao, y0, y1⟩ := (HFA2.out.keep HB.out).two k p hp
      subst hao
      obtain ⟨ld, hlo, x0, x1⟩ := (HFL.out.keep HB.out).two j (Ms.small p) hq
      injection hlo with hlo
      subst hlo
      obtain ⟨y, hy⟩ : ∃ y : ByteArray, (⟨(Tx.lower p.n.data.toList).toArray⟩ : ByteArray) = y := ⟨_, rfl⟩
      have e3 : (Ms.small p).n = y := hy
      have e4 : (Ms.small p).v = p.v := rfl
      rw [e3] at x0
      rw [e4] at x1
      have HLo : Hid (∀ W, Calls Tryd.prog 8 #[.string p.n] W fun e w' => e = .returned (.string y) ∧ Below W.heap.size W w') := hid' (fun W => by have := rLower_any p.n W (by have := HPS.out; unfold maxLen; omega); rwa [hy] at this)
      have HBd : Hid (∀ W, Calls Tryd.prog 7 #[.string p.n] W fun e w' => e = .returned (.bool false) ∧ Below W.heap.size W w') := hid' (fun W => cbnd14 p.n false HPF.out W HPS.out)
      have q0 : ∀ z : BW wr, z.W.cell? (ad.add (k * 2)) = some (.string p.n) := fun z => (z.h.cell (cell_lt y0)).trans y0
      have q1 : ∀ z : BW wr, z.W.cell? ⟨(ad.add (k * 2)).block, (ad.add (k * 2)).off + 1, none⟩ = some (.string p.v) := fun z => (z.h.cell (cell_lt y1)).trans y1
      have q2 : ∀ z : BW wr, z.W.cell? (sd.add (j * 2)) = some (.string y) := fun z => (z.h.cell (cell_lt x0)).trans x0
      have q3 : ∀ z : BW wr, z.W.cell? ⟨(sd.add (j * 2)).block, (sd.add (j * 2)).off + 1, none⟩ = some (.string p.v) := fun z => (z.h.cell (cell_lt x1)).trans x1
      have n1 : (y.toList != y.toList) = false := by simp
      have n2 : (p.v.toList != p.v.toList) = false := by simp
      have hk1 : (j : Int) < (m : Int) + 1 := by omega
      have hk2 : IntKind.i64.wrap ((k : Int) + 1) = (j : Int) := by rw [wrp _ (by omega) (by omega)]; omega
      have hk3 : j < m + 1 := by omega
      have HJ := hid' hj
      clear hj
      have hne : Nonempty (BW wr) := ⟨⟨wr, Below.refl _ _⟩⟩
      clear hp hq y0 y1 x0 x1 hy e3 e4
      go_upto_region 8 with fail
      refine wp_region_below_s (by kernel_rfl) (by kernel_rfl) ?_
      repeat (refine QS.step (fun K hK => ?_); go_simp; first | (refine hK _ ?_; clear hK K) | (apply Exists.intro; refine ⟨fun _ => ?_, hK _ ?_⟩; (first | (go_at_call 7; exact Calls.below_of (HBd.out _)) | (go_at_call 8; exact Calls.below_of (HLo.out _))); clear hK K))
      refine QS.nil ?_
      rintro _ ⟨⟨wq, hBq⟩, rfl⟩
      have HBq := hid' (below_two HB.out hBq)
      clear hBq q0 q1 q2 q3
      go_wp2
      go_roundw
      case rel => exact ⟨j, by first | rfl | go_num, by have := HJ.out; omega, HBq⟩
      case measure => have := HJ.out; simp [intOf]; omega
    · obtain rfl : k = m := by omega
      have hlt2 : ¬ (k : Int) < (k : Int) := by omega
      have HBr := hid' (HB2.out.trans (HB.out.mono HB2.out.size))
      have HFr := hid' (HFA2.out.keep HB.out)
      have HSS : Hid (∀ f ∈ Ms.strip l, f.n.size ≤ 140737488355328) := hid' (fun f hf => HS.out f (Ms.strip_mem hf))
      clear hlt
      go_wp2_with fail
      refine (cstrip14 _ (Ms.strip l) wr HFr.out (by rw [HM.out]; exact hmb) HSS.out).mono ?_
      rw [Ms.strip_idem]
      rintro e w5 ⟨⟨m5, t5, c5, rfl, hm5, hown⟩, hb5⟩
      obtain rfl : m5 = k := by rw [← hm5]; exact HM.out
      have HF5 := hid' (FW.of_own (l := Ms.strip l) (by rw [hm5]; exact hown))
      have HFr5 := hid' (HFr.out.keep hb5)
      have HB5 := hid' (below_two HBr.out hb5)
      clear hown hb5
      go_wp2_with fail
      refine (rsame14 _ _ (Ms.strip l) w5 HF5.out HFr5.out (by rw [HM.out]; omega)).mono ?_
      rintro e w6 ⟨rfl, hb6⟩
      have HB6 : Hid (Below w.heap.size w w6) := hid' (below_two HB5.out (by first | exact hb6 | exact hb6 ▸ Below.refl _ _ | (obtain ⟨q, hq⟩ := hb6; rw [hq]; exact below_drewN _ _)))
      clear hb6
      go_wp2_with fail
      refine (awake14 w6 (HTB.out.keep HB6.out)).mono ?_
      rintro e w7 ⟨rfl, hb7⟩
      have HB7 := hid' (below_two HB6.out hb7)
      clear hb7
      go_wp2
      go_ret
      exact ⟨rfl, HB7.out⟩

end Go.Proofs.YtcljepppdljnlabDoor
