/-
  What a target's path is, cleaned, and why it is none.
-/
import Derived.Test.YtjgdmooedeilhaaDoorPtY
import Derived.Deep.QuietTactic
import Derived.BigQuiet
namespace Go.Proofs.YtjgdmooedeilhaaDoor
open Go.RowKit

theorem own_set17 {w : World} {B : Nat} {e : TypeId} {s g n cap : Nat} {xs : List Value} (h : w.ownsRow B e s (.slice (some ⟨g, 0, none⟩) n cap) n xs) (j : Nat) (u : Value) : (w.setCell ⟨g, j, none⟩ u).ownsRow B e s (.slice (some ⟨g, 0, none⟩) n cap) n (xs.set j u) := by
  rcases h.2 with ⟨hv, _⟩ | ⟨g', cap', cur, hv, hb, hg, hn, hm, hs, ht⟩
  · cases hv
  · cases hv
    refine ⟨by simpa using h.1, .inr ⟨g, cap, _, rfl, hb, Ar.set (show Ar w g e cur from hg) _ _, hn, hm, by simpa using hs, ?_⟩⟩
    rw [← ht]
    simp [List.take_set]
theorem own_other17 {S : Nat → Prop} {w w' : World} {B n m cap : Nat} {ao : Option Addr} {e : TypeId} {s : Nat} {xs : List Value} (h : w.ownsRow B e s (.slice ao n cap) m xs) (hf : LF S w w') (hs : ∀ k, (Value.slice ao n cap).ownBlock = some k → ¬ S k) : w'.ownsRow B e s (.slice ao n cap) m xs :=
  own_same h (fun k hk => hf.block k (own_lt h k hk) (hs k hk))

set_option maxHeartbeats 8000000 in
set_option maxRecDepth 20000 in
theorem pathCleans_any (s : ByteArray) (w : World) (hT : CT17 w) (hs : s.size ≤ 1048576) :
    Calls Tryd.prog 3 #[.string s] w fun e w' => e = .returned (.bool true) ∧ Below w.heap.size w w' := by
  have HT := hid' hT
  have HAW := hid' (fun W (h : CT17 W) => awake17 W h)
  obtain ⟨l, hl⟩ : ∃ l, s.data.toList = l := ⟨_, rfl⟩
  have HCC := hid' (cclean17 s l hl w (by omega) hT)
  have HCR := hid' (fun W => rclean17 s l hl W (by omega))
  have HPC := hid' (fun W (h : CT17 W) => cparts17 s l hl W (by omega) h)
  have HPR := hid' (fun W => rparts17 s l hl W (by omega))
  have HEC := hid' (fun W (h : CT17 W) => cesc17 s l hl W (by omega) h)
  have HER := hid' (fun W => resc17 s l hl W (by omega))
  have hKL : (Pt.parts l).length ≤ 1048577 := by
    have h1 : (Pt.parts l).length ≤ (Pt.cutS [] l).length := List.length_filter_le _ _
    have h2 := Pt.cutS_len l
    have h3 : l.length ≤ 1048576 := by rw [← hl, ← Lib.size_eq]; exact hs
    omega
  generalize Pt.clean l = cl at HCC HCR
  generalize Pt.parts l = K at HPC HPR hKL
  generalize Pt.esc l = EP at HEC HER
  obtain ⟨A, B, E⟩ := cl
  simp only [clV17] at HCC HCR
  have hEE : (E != E) = false := by unfold bne; rw [beq_self_eq_true]; rfl
  clear hT hl
  go_enter Tryd.func3, Tryd.ntmps3
  go_wp2_with fail
  refine HCC.out.mono ?_
  rintro e w1 ⟨rfl, hb⟩
  have HB1 := hid' hb
  clear hb
  go_wp2_with fail
  refine (HCR.out _).mono ?_
  rintro e w2 ⟨rfl, hb⟩
  have HB2 := hid' (below_two HB1.out hb)
  have HT2 := hid' (HT.out.keep HB2.out)
  clear hb
  go_wp2_with fail
  refine (HPC.out _ HT2.out).mono ?_
  rintro e w3 ⟨⟨m, ro, rc, rfl, hm, hown⟩, hb⟩
  have HM := hid' hm
  have hmb : m ≤ 1048577 := by rw [← hm]; exact hKL
  have HB3 := hid' (below_two HB2.out hb)
  have HT3 := hid' (HT.out.keep HB3.out)
  have HO3 := hid' hown
  clear hb hown hm hKL
  go_wp2_with fail
  refine (HPC.out _ HT3.out).mono ?_
  rintro e w4 ⟨⟨m2, qo, qc, rfl, hm, hown⟩, hb⟩
  obtain rfl : m = m2 := HM.out.symm.trans hm
  have HB34 := hid' hb
  have HB4 := hid' (below_two HB3.out hb)
  have HQ4 := hid' hown
  have HO4 := hid' (own_kp17 HO3.out hb)
  clear hb hown hm
  go_wp2_with fail
  refine (HPR.out _).mono ?_
  rintro e w5 ⟨⟨m3, po, pc, rfl, hm, hown⟩, hb⟩
  obtain rfl : m = m3 := HM.out.symm.trans hm
  have HB45 := hid' hb
  have HB5 := hid' (below_two HB4.out hb)
  have HP5 := hid' hown
  have HQ5 := hid' (own_kp17 HQ4.out hb)
  have HO5 := hid' (own_kp17 HO4.out hb)
  have HT5 := hid' (HT.out.keep HB5.out)
  have hmm : ((m : Int) != (m : Int)) = false := by unfold bne; rw [beq_self_eq_true]; rfl
  clear hb hown hm
  go_wp2_with fail
  refine (HEC.out _ HT5.out).mono ?_
  rintro e w6 ⟨rfl, hb6⟩
  have HB6 := hid' hb6
  clear hb6
  go_wp2_with fail
  refine (HER.out _).mono ?_
  rintro e w7 ⟨rfl, hb7⟩
  have HB57 := hid' (below_two HB6.out hb7)
  have HB7 := hid' (below_two HB5.out HB57.out)
  have HP7 := hid' (own_kp17 HP5.out HB57.out)
  have HQ7 := hid' (own_kp17 HQ5.out HB57.out)
  have HO7 := hid' (own_kp17 HO5.out HB57.out)
  have HD1 : Hid (∀ k, (Value.slice ro m rc).ownBlock = some k → w2.heap.size ≤ k ∧ k < w3.heap.size) := hid' (fun k hk => ⟨(HO3.out.lt k hk).1, own_lt HO3.out k hk⟩)
  have HD2 : Hid (∀ k, (Value.slice qo m qc).ownBlock = some k → w3.heap.size ≤ k) := hid' (fun k hk => (HQ4.out.lt k hk).1)
  have HD3 : Hid (∀ k, (Value.slice po m pc).ownBlock = some k → w3.heap.size ≤ k) := hid' (fun k hk => Nat.le_trans HB34.out.size (HP5.out.lt k hk).1)
  obtain ⟨ob, hob⟩ : ∃ ob, (Value.slice ro m rc).ownBlock = ob := ⟨_, rfl⟩
  have HOB := hid' hob
  clear hb7 hob
  go_wp2
  go_loopw [12] (fun s12 wr => ∃ (k : Nat) (ys : List Value), s12 = .int .i64 (k : Int) ∧ k ≤ m ∧ Hid (∀ j, k ≤ j → ys[j]? = (sC17 K)[j]?) ∧ Hid (wr.ownsRow w2.heap.size 9 1 (.slice ro m rc) m ys) ∧ Hid (LF (fun k => ob = some k) w7 wr)) (fun s12 _ => m - (intOf s12).toNat)
  case atStart => exact ⟨0, _, rfl, Nat.zero_le _, hid' (fun _ _ => rfl), HO7, hid' (LF.refl _ _)⟩
  case round =>
    obtain ⟨k, ys, rfl, hk, HYS, HOr, HLF⟩ := hrel
    have HPr := hid' (own_other17 HP7.out HLF.out (fun j hj hS => by
      have h1 := HD3.out j hj
      have h2 := (HD1.out j (HOB.out.trans hS)).2
      omega))
    by_cases hlt : k < m
    · have hlt2 : (k : Int) < (m : Int) := by omega
      obtain ⟨p, hp⟩ : ∃ p, K[k]? = some p := ⟨_, List.getElem?_eq_getElem (by rw [HM.out]; exact hlt)⟩
      obtain ⟨g2, rfl, _, y0⟩ := SR17.own HPr.out k p hp
      have hg : ∃ g, ro = some ⟨g, 0, none⟩ := by
        rcases HOr.out.2 with ⟨_, h0⟩ | ⟨g, cap, cur, h1, _⟩
        · omega
        · injection h1 with e1
          exact ⟨g, e1⟩
      obtain ⟨g, rfl⟩ := hg
      have hogb : some g = ob := HOB.out
      have hyk : ys[k]? = some (.string ⟨p.toArray⟩) := by rw [HYS.out k (Nat.le_refl _)]; unfold sC17; rw [List.getElem?_map, hp]; rfl
      have c0 : wr.cell? ⟨g, k, none⟩ = some (.string ⟨p.toArray⟩) := by have := HOr.out.cells (g := g) rfl _ _ hyk; rwa [Addr.add_mid, Nat.zero_add] at this
      obtain ⟨yy, hyy⟩ : ∃ y : ByteArray, (⟨p.toArray⟩ : ByteArray) = y := ⟨_, rfl⟩
      rw [hyy] at y0 c0
      have HYK := hid' hyk
      have HGB := hid' hogb
      clear hp hyk hogb hyy
      go_wp2
      go_quiet (fail)
      have HOq := hid' (own_kp17 HOr.out (below_drewN wr nq))
      have HLq : Hid (LF (fun k => ob = some k) w7 (wr.drewN nq)) := hid' (HLF.out.trans (LF.of_below (S := fun k => ob = some k) (below_drewN wr nq)) (fun _ _ h => h))
      go_upto_region 13 with fail
      generalize wr.drewN nq = w8 at *
      have c8 : w8.cell? ⟨g, k, none⟩ = some (.string ⟨p.toArray⟩) := by have := HOq.out.cells (g := g) rfl _ _ HYK.out; rwa [Addr.add_mid, Nat.zero_add] at this
      have f8 : w8.frozen? ⟨g, k, none⟩ = false := by
        obtain ⟨_, cs, hcs⟩ := own_ty HOq.out g rfl
        exact Ar.free (show Ar w8 g 9 cs from hcs) k
      have HOs := hid' (own_set17 HOq.out k (.string ⟨#[110, 111]⟩))
      have HYs : Hid (∀ j, k + 1 ≤ j → (ys.set k (.string ⟨#[110, 111]⟩))[j]? = (sC17 K)[j]?) := hid' (fun j hj => by rw [List.getElem?_set_ne (by omega)]; exact HYS.out j (by omega))
      have HLs : Hid (LF (fun k => ob = some k) w7 (w8.setCell ⟨g, k, none⟩ (.string ⟨#[110, 111]⟩))) := hid' (HLq.out.trans (LF.of_upd (S := fun k => ob = some k) (upd_setCell w8 g k _) HGB.out.symm) (fun _ _ h => h))
      go_wp2
      go_roundw
      case rel => exact ⟨k + 1, _, by go_num, by omega, HYs, HOs, HLs⟩
      case measure => simp [intOf]; omega
    · have hlt2 : ¬ (k : Int) < (m : Int) := by omega
      have HQr := hid' (own_other17 HQ7.out HLF.out (fun j hj hS => by
        have h1 := HD2.out j hj
        have h2 := (HD1.out j (HOB.out.trans hS)).2
        omega))
      have HBr : Hid (Below w.heap.size w wr) := hid' (HB7.out.trans (HLF.out.below HB7.out.size (fun j hj => Nat.le_trans HB2.out.size (HD1.out j (HOB.out.trans hj)).1)))
      have HSQ := hid' (SR17.own HQr.out)
      have HSP := hid' (SR17.own HPr.out)
      clear hlt
      go_wp2
      go_loopw [13] (fun s13 wi => ∃ (i nn : Nat), s13 = .int .i64 (i : Int) ∧ i ≤ m ∧ wi = wr.drewN nn) (fun s13 _ => m - (intOf s13).toNat)
      case atStart => exact ⟨0, 0, rfl, Nat.zero_le _, rfl⟩
      case round =>
        obtain ⟨i, nn, rfl, hi, hwi⟩ := hrel
        subst hwi
        by_cases hlt : i < m
        · have hlt2 : (i : Int) < (m : Int) := by omega
          obtain ⟨p, hp⟩ : ∃ p, K[i]? = some p := ⟨_, List.getElem?_eq_getElem (by rw [HM.out]; exact hlt)⟩
          obtain ⟨g1, rfl, _, y0⟩ := HSQ.out i p hp
          obtain ⟨g2, rfl, _, y1⟩ := HSP.out i p hp
          obtain ⟨yy, hyy⟩ : ∃ y : ByteArray, (⟨p.toArray⟩ : ByteArray) = y := ⟨_, rfl⟩
          rw [hyy] at y0 y1
          have HLT := hid' hlt
          clear hp hyy hlt
          go_wp2
          go_quiet (fail)
          go_wp2
          go_roundw
          case rel => exact ⟨i + 1, _, by go_num, by have := HLT.out; omega, by first | rfl | simp⟩
          case measure => have := HLT.out; simp [intOf]; omega
        · have hlt2 : ¬ (i : Int) < (m : Int) := by omega
          have HTr := hid' (HT.out.keep (below_two HBr.out (below_drewN wr nn)))
          clear hlt
          go_wp2_with fail
          refine (HAW.out _ HTr.out).mono ?_
          rintro e w9 ⟨rfl, hb9⟩
          have HB9 := hid' (below_two (below_two HBr.out (below_drewN wr nn)) hb9)
          clear hb9
          go_wp2
          go_ret
          exact ⟨rfl, HB9.out⟩

end Go.Proofs.YtjgdmooedeilhaaDoor
