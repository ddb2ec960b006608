/-
  Which ranges a value asks for of a body, and how they are told.
-/
import Derived.Test.YtdbldompjhienaaDoorRhK
import Derived.Test.YtdbldompjhienaaDoorRhH
import Derived.Test.YtdbldompjhienaaDoorNumN
import Derived.Test.YtdbldompjhienaaDoorRgQ
import Derived.Deep.RegionHeld3
namespace Go.Proofs.YtdbldompjhienaaDoor
open Go.RowKit

theorem own_set16 {w : World} {B : Nat} {e : TypeId} {s g n cap : Nat} {xs : List Value} (h : w.ownsRow B e s (.slice (some ⟨g, 0, none⟩) n cap) n xs) (j : Nat) (u : Value) : (w.setCell ⟨g, j, none⟩ u).ownsRow B e s (.slice (some ⟨g, 0, none⟩) n cap) n (xs.set j u) := by
  rcases h.2 with ⟨hv, _⟩ | ⟨g', cap', cur, hv, hb, hg, hn, hm, hs, ht⟩
  · cases hv
  · cases hv
    refine ⟨by simpa using h.1, .inr ⟨g, cap, _, rfl, hb, Ar.set (show Ar w g e cur from hg) _ _, hn, hm, by simpa using hs, ?_⟩⟩
    rw [← ht]
    simp [List.take_set]
theorem RW16.other {S : Nat → Prop} {w w' : World} {B n m cap : Nat} {ao : Option Addr} {e : TypeId} {l : List Rg.Rn} (h : w.ownsRow B e 2 (.slice ao n cap) m (rgC l)) (hf : LF S w w') (hs : ∀ k, (Value.slice ao n cap).ownBlock = some k → ¬ S k) : w'.ownsRow B e 2 (.slice ao n cap) m (rgC l) :=
  own_same h (fun k hk => hf.block k (own_lt h k hk) (hs k hk))

set_option maxHeartbeats 8000000 in
set_option maxRecDepth 20000 in
theorem rangesReads_any (s : ByteArray) (n : Int) (r : Rg.Rn) (w : World) (n0 : -9223372036854775808 ≤ n) (n1 : n ≤ 9223372036854775807) (fr : Fit16 r) (hT : TB16 w) (hs : s.size ≤ 1048576) :
    Calls Tryd.prog 3 #[.string s, .int .i64 n, .agg #[.int .i64 r.a, .int .i64 r.b]] w fun e w' => e = .returned (.bool true) ∧ Below w.heap.size w w' := by
  have HT := hid' hT
  have HAW := hid' (fun W (h : TB16 W) => awake16 W h)
  have HPC := hid' (fun W (h : TB16 W) => cparse16 s s.data.toList rfl n n1 W hs h)
  have HPR := hid' (fun W => rparse16 rNumber_any s s.data.toList rfl n n1 W hs)
  have HTC := hid' (fun W (h : TB16 W) => ctold16 r n W fr.1 fr.2.1 fr.2.2.1 fr.2.2.2 n0 n1 h)
  have HTR := hid' (fun W => rtold16 r n W fr.1 fr.2.1 fr.2.2.1 fr.2.2.2 n0 n1)
  have HUC := hid' (fun W (h : TB16 W) => cunmet16 n W n0 n1 h)
  have HUR := hid' (fun W => runmet16 n W n0 n1)
  obtain ⟨U, hU⟩ : ∃ U, Rg.told r n = U := ⟨_, rfl⟩
  obtain ⟨V, hV⟩ : ∃ V, Rg.unmet n = V := ⟨_, rfl⟩
  obtain ⟨ra, rb⟩ := r
  rw [hU] at HTC HTR
  rw [hV] at HUC HUR
  simp only at HTC HTR
  have hrl : (Rg.res s.data.toList n).length ≤ 1048577 := by
    unfold Rg.res
    split
    · have h1 := Rg.pcs_len (s.data.toList.drop 6)
      rw [List.length_drop, ← Lib.size_eq] at h1
      unfold Rg.outs
      rw [List.length_map]
      have := List.length_filter_le (fun p => (Rg.pc p n).2.1) (Rg.pcs (s.data.toList.drop 6))
      omega
    · simp
  generalize Rg.err s.data.toList n = er at HPC HPR
  generalize Rg.res s.data.toList n = rs at HPC HPR hrl
  have HX : Hid (Ar (w.alloc (.cells #[.int .i64 ra, .int .i64 rb] 23)) w.heap.size 23 #[.int .i64 ra, .int .i64 rb]) := hid' (heap_alloc_last w _)
  have HB0 := hid' (bl_alloc w (.cells #[.int .i64 ra, .int .i64 rb] 23))
  clear hT hU hV fr
  simp only
  go_enter Tryd.func3, Tryd.ntmps3
  go_upto_region 1 with fail
  obtain ⟨xb, hxb⟩ : ∃ xb, w.heap.size = xb := ⟨_, rfl⟩
  have hxw : w.heap.size ≤ xb := by omega
  rw [hxb] at HX ⊢
  generalize w.alloc (.cells #[.int .i64 ra, .int .i64 rb] 23) = w0 at *
  have HT0 := hid' (HT.out.keep HB0.out)
  clear hxb
  go_wp2_with fail
  refine (HPC.out _ HT0.out).mono ?_
  rintro e w1 ⟨⟨m, ro, rc, rfl, hm, hown⟩, hb⟩
  have HM := hid' hm
  have hmb : m ≤ 1048577 := by rw [← hm]; exact hrl
  have HB1 := hid' hb
  have HO1 := hid' hown
  have HT1 := hid' (HT0.out.keep hb)
  clear hb hown hm hrl
  go_wp2_with fail
  refine (HPC.out _ HT1.out).mono ?_
  rintro e w2 ⟨⟨m2, qo, qc, rfl, hm, hown⟩, hb⟩
  obtain rfl : m = m2 := HM.out.symm.trans hm
  have HB2 := hid' hb
  have HQ2 := hid' hown
  have HO2 := hid' (own_kp16 HO1.out hb)
  clear hb hown hm
  go_wp2_with fail
  refine (HPR.out _).mono ?_
  rintro e w3 ⟨⟨m3, po, pc, rfl, hm, hown⟩, hb⟩
  obtain rfl : m = m3 := HM.out.symm.trans hm
  have HB3 := hid' hb
  have HP3 := hid' hown
  have HQ3 := hid' (own_kp16 HQ2.out hb)
  have HO3 := hid' (own_kp16 HO2.out hb)
  have HSA := hid' (rsame16 ro po m rc pc rs HM.out (by omega) w3 (RW16.own HO3.out) (RW16.own HP3.out))
  have hee : (er != er) = false := by unfold bne; rw [beq_self_eq_true]; rfl
  clear hb hown hm
  go_wp2_with fail
  refine HSA.out.mono ?_
  rintro e w4 ⟨rfl, hb⟩
  have HP4 := hid' (own_kp16 HP3.out hb)
  have HQ4 := hid' (own_kp16 HQ3.out hb)
  have HO4 := hid' (own_kp16 HO3.out hb)
  have HB4 := hid' (below_two (below_two (below_two HB1.out HB2.out) HB3.out) hb)
  have HX4 := hid' (HX.out.keep HB4.out)
  have HD1 : Hid (∀ k, (Value.slice ro m rc).ownBlock = some k → w0.heap.size ≤ k ∧ k < w1.heap.size) := hid' (fun k hk => ⟨(HO1.out.lt k hk).1, own_lt HO1.out k hk⟩)
  have HD2 : Hid (∀ k, (Value.slice qo m qc).ownBlock = some k → w1.heap.size ≤ k) := hid' (fun k hk => (HQ2.out.lt k hk).1)
  have HD3 : Hid (∀ k, (Value.slice po m pc).ownBlock = some k → w1.heap.size ≤ k) := hid' (fun k hk => Nat.le_trans HB2.out.size (HP3.out.lt k hk).1)
  obtain ⟨ob, hob⟩ : ∃ ob, (Value.slice ro m rc).ownBlock = ob := ⟨_, rfl⟩
  have HOB := hid' hob
  clear hb hob hee HSA HO1 HO2 HO3 HQ2 HQ3 HP3
  go_wp2
  go_loopw [13] (fun s13 wr => ∃ (k : Nat) (ys : List Value), s13 = .int .i64 (k : Int) ∧ k ≤ m ∧ Hid (wr.ownsRow w0.heap.size 23 2 (.slice ro m rc) m ys) ∧ Hid (LF (fun k => ob = some k) w4 wr)) (fun s13 _ => m - (intOf s13).toNat)
  case atStart => exact ⟨0, _, rfl, Nat.zero_le _, HO4, hid' (LF.refl _ _)⟩
  case round =>
    obtain ⟨k, ys, rfl, hk, HOr, HLF⟩ := hrel
    by_cases hlt : k < m
    · have hlt2 : (k : Int) < (m : Int) := by omega
      have hg : ∃ g, ro = some ⟨g, 0, none⟩ := by
        rcases HOr.out.2 with ⟨_, h0⟩ | ⟨g, cap, cur, h1, _⟩
        · omega
        · injection h1 with e1
          exact ⟨g, e1⟩
      obtain ⟨g, rfl⟩ := hg
      have hogb : some g = ob := HOB.out
      have hlen := HOr.out.1
      obtain ⟨u0, hu0⟩ : ∃ u0, ys[k * 2]? = some u0 := ⟨_, List.getElem?_eq_getElem (by omega)⟩
      obtain ⟨u1, hu1⟩ : ∃ u1, ys[k * 2 + 1]? = some u1 := ⟨_, List.getElem?_eq_getElem (by omega)⟩
      have c0 : wr.cell? ⟨g, k * 2, none⟩ = some u0 := by have := HOr.out.cells (g := g) rfl _ _ hu0; rwa [Addr.add_mid, Nat.zero_add] at this
      have c1 : wr.cell? ⟨g, k * 2 + 1, none⟩ = some u1 := by have := HOr.out.cells (g := g) rfl _ _ hu1; rwa [Addr.add_mid, Nat.zero_add] at this
      have hfz : ∀ i, wr.frozen? ⟨g, i, none⟩ = false := by
        obtain ⟨_, cs, hcs⟩ := own_ty HOr.out g rfl
        intro i
        exact Ar.free (show Ar wr g 23 cs from hcs) i
      have f0 := hfz (k * 2)
      have f1 := hfz (k * 2 + 1)
      have HOs := hid' (own_set16 (own_set16 HOr.out (k * 2) (.int .i64 (-1))) (k * 2 + 1) (.int .i64 0))
      have HLs : Hid (LF (fun k => ob = some k) w4 ((wr.setCell ⟨g, k * 2, none⟩ (.int .i64 (-1))).setCell ⟨g, k * 2 + 1, none⟩ (.int .i64 0))) := hid' ((HLF.out.trans (LF.of_upd (S := fun k => ob = some k) (upd_setCell wr g (k * 2) _) hogb.symm) (fun _ _ h => h)).trans (LF.of_upd (S := fun k => ob = some k) (upd_setCell _ g (k * 2 + 1) _) hogb.symm) (fun _ _ h => h))
      clear hu0 hu1 hfz hlen hogb
      go_wp2
      go_roundw
      case rel => exact ⟨k + 1, _, by go_num, by omega, HOs, HLs⟩
      case measure => simp [intOf]; omega
    · have hlt2 : ¬ (k : Int) < (m : Int) := by omega
      clear hlt
      have HBr : Hid (Below w0.heap.size w0 wr) := hid' (HB4.out.trans (HLF.out.below HB4.out.size (fun k hk => (HD1.out k (HOB.out.trans hk)).1)))
      have HQr := hid' (RW16.own (RW16.other HQ4.out HLF.out (fun k hk hS => by
        have h1 := HD2.out k hk
        have h2 := (HD1.out k (HOB.out.trans hS)).2
        omega)))
      have HPr := hid' (RW16.own (RW16.other HP4.out HLF.out (fun k hk hS => by
        have h1 := HD3.out k hk
        have h2 := (HD1.out k (HOB.out.trans hS)).2
        omega)))
      have HXr := hid' (HX.out.keep HBr.out)
      have HTr := hid' (HT0.out.keep HBr.out)
      have HSM := hid' (fun W (h : Below wr.heap.size wr W) => rsame16 qo po m qc pc rs HM.out (by omega) W (HQr.out.below h) (HPr.out.below h))
      have sOf : ∀ W W1 : World, (Below wr.heap.size wr W ∧ W.cell? ⟨xb, 0, none⟩ = some (.int .i64 ra) ∧ W.cell? ⟨xb, 1, none⟩ = some (.int .i64 rb)) → Below W.heap.size W W1 → (Below wr.heap.size wr W1 ∧ W1.cell? ⟨xb, 0, none⟩ = some (.int .i64 ra) ∧ W1.cell? ⟨xb, 1, none⟩ = some (.int .i64 rb)) := fun W W1 h hb => ⟨below_two h.1 hb, (HXr.out.keep (below_two h.1 hb)).cell 0 _ rfl, (HXr.out.keep (below_two h.1 hb)).cell 1 _ rfl⟩
      have hS : Below wr.heap.size wr wr ∧ wr.cell? ⟨xb, 0, none⟩ = some (.int .i64 ra) ∧ wr.cell? ⟨xb, 1, none⟩ = some (.int .i64 rb) := ⟨Below.refl _ _, HXr.out.cell 0 _ rfl, HXr.out.cell 1 _ rfl⟩
      have tOf : ∀ W : World, (Below wr.heap.size wr W ∧ W.cell? ⟨xb, 0, none⟩ = some (.int .i64 ra) ∧ W.cell? ⟨xb, 1, none⟩ = some (.int .i64 rb)) → TB16 W := fun W h => HTr.out.keep h.1
      have bOf : ∀ W : World, (Below wr.heap.size wr W ∧ W.cell? ⟨xb, 0, none⟩ = some (.int .i64 ra) ∧ W.cell? ⟨xb, 1, none⟩ = some (.int .i64 rb)) → Below wr.heap.size wr W := fun W h => h.1
      go_upto_region 10 with fail
      go_region_held3 (fun W => Below wr.heap.size wr W ∧ W.cell? ⟨xb, 0, none⟩ = some (.int .i64 ra) ∧ W.cell? ⟨xb, 1, none⟩ = some (.int .i64 rb))
        (first | assumption | exact sOf _ _ (by assumption) (by assumption) | exact sOf _ _ (by assumption) ((Below.refl _ _).drew))
        (first
        | (go_at_call 11; refine (HSM.out _ (bOf _ (by assumption))).mono ?_; rintro e wz ⟨rfl, hbz⟩)
        | (go_at_call 12; refine (HTC.out _ (tOf _ (by assumption))).mono ?_; rintro e wz ⟨rfl, hbz⟩)
        | (go_at_call 13; refine (HTR.out _).mono ?_; rintro e wz ⟨rfl, hbz⟩)
        | (go_at_call 14; refine (HUC.out _ (tOf _ (by assumption))).mono ?_; rintro e wz ⟨rfl, hbz⟩)
        | (go_at_call 15; refine (HUR.out _).mono ?_; rintro e wz ⟨rfl, hbz⟩)
        | (go_at_call 16; refine (HAW.out _ (tOf _ (by assumption))).mono ?_; rintro e wz ⟨rfl, hbz⟩))
      go_wp2
      go_ret
      exact ⟨rfl, below_two HB0.out (HBr.out.trans ((And.left (by assumption : Below wr.heap.size wr wz ∧ wz.cell? ⟨xb, 0, none⟩ = some (.int .i64 ra) ∧ wz.cell? ⟨xb, 1, none⟩ = some (.int .i64 rb))).mono HBr.out.size))⟩

end Go.Proofs.YtdbldompjhienaaDoor
