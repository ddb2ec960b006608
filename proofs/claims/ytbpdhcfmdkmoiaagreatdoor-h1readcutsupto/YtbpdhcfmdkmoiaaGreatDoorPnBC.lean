/-
  The code's passedOn: by its contract.
  The code's Two: by its contract.
-/
import Derived.Test.YtbpdhcfmdkmoiaaGreatDoorPnBB
import Derived.Test.YtbpdhcfmdkmoiaaGreatDoorPnAL
namespace Go.Proofs.YtbpdhcfmdkmoiaaGreatDoor
open Go.RowKit

namespace Ms
/-- What is passed on of what is no connection's own. -/
def psB (nm : List T8) (f : Fd) : Bool := !(lo f.n == sHost) && !(lo f.n == sTe) && (!nm.contains (lo f.n) || lo f.n == sLen)
theorem pass_strip (l : List Fd) : pass l = ((strip l).filter (psB (nms l))).map small := by
  unfold pass strip
  rw [List.filter_filter]
  congr 1
  apply List.filter_congr
  intro f _
  unfold passB psB
  cases bnd f.n <;> cases (lo f.n == sHost) <;> cases (lo f.n == sTe) <;> simp
theorem psB_take {l : List Fd} {k : Nat} {p : Fd} (nm : List T8) (h : l[k]? = some p) : ((l.take (k + 1)).filter (psB nm)).map small = ((l.take k).filter (psB nm)).map small ++ (if psB nm p then [small p] else []) := by
  rw [List.take_add_one, h]
  simp only [Option.toList_some, List.filter_append, List.map_append, List.filter_cons, List.filter_nil]
  cases psB nm p <;> rfl
end Ms
theorem own_map {w : World} {B : Nat} {e : TypeId} {s : Nat} {v : Value} {n : Nat} {xs : List Value} {b : Nat} {S : List Ms.T8} (h : w.ownsRow B e s v n xs) (hm : MS w b S) : ∀ k, v.ownBlock = some k → k ≠ b := by
  intro k hk e'
  subst e'
  obtain ⟨_, cs, h3⟩ := own_ty h k hk
  obtain ⟨f, n, es, clock, h1, _⟩ := hm
  rw [h1.hd] at h3
  cases h3
theorem MS.grown {w w' : World} {b : Nat} {S : List Ms.T8} {row : Option Nat} (h : MS w b S) (hg : w.grownBy w' row) (hn : ∀ k, row = some k → k ≠ b) : MS w' b S := by
  obtain ⟨f, n, es, clock, h1, h2⟩ := h
  exact ⟨f, n, es, clock, h1.other (hg.block b h1.lt (fun e => hn b e.symm rfl)), h2⟩

set_option maxHeartbeats 4000000 in
set_option maxRecDepth 20000 in
theorem cpass14 (v : Value) (l : List Fd) (w : World) (h : FW w v l) (hT : TB w) (hl : l.length ≤ 1048576) (hs : ∀ f ∈ l, f.n.size ≤ 1048576 ∧ f.v.size ≤ 1048576) :
    Calls Tryz.prog 73 #[v] w fun e w' => (∃ m ro rc, e = .returned (.slice ro m rc) ∧ (Ms.pass l).length = m ∧ w'.ownsRow w.heap.size 52 2 (.slice ro m rc) m (fC (Ms.pass l))) ∧ Below w.heap.size w w' := by
  obtain ⟨i0, hi0, hz0, hz1, hz2⟩ := minfo_parts infoF14
  have HI := hid' hi0
  have HZ0 := hid' hz0
  have HZ1 := hid' hz1
  have HZ2 := hid' hz2
  clear hi0 hz0 hz1 hz2
  have HS := hid' hs
  have HL := hid' hl
  obtain ⟨nm, hnm⟩ : ∃ nm, Ms.nms l = nm := ⟨_, rfl⟩
  have HNM := hid' hnm
  obtain ⟨ao, cap, hv⟩ := h.shape
  subst hv
  have H := hid' h
  have HNC := hid' (cnamed14 _ l w h hT hl hs)
  rw [hnm] at HNC
  clear h hT hs hnm hl
  go_enter Tryz.func73, Tryz.ntmps73
  go_wp2_with fail
  refine HNC.out.mono ?_
  rintro e w1 ⟨⟨mb, rfl, hmb, hms⟩, hb1⟩
  have HMB := hid' hmb
  have HM1 := hid' hms
  have HB1 := hid' hb1
  clear hmb hms hb1 HNC
  go_wp2_with fail
  refine (cstrip14 _ l w1 (H.out.keep HB1.out) HL.out (fun f hf => by have := (HS.out f hf).1; omega)).mono ?_
  rintro e w4 ⟨⟨m, ro, rc, rfl, hm, hown⟩, hb4⟩
  have HM := hid' hm
  have HMBD : Hid (m ≤ 1048576) := hid' (by rw [← hm]; exact Nat.le_trans (Ms.strip_le l) HL.out)
  have HF := hid' hown
  have HB4 := hid' (below_two HB1.out hb4)
  have HM4 := hid' (HM1.out.keep hb4)
  have hmb := HMBD.out
  clear hm hown hb4 HM1 HB1
  go_wp2
  go_loopw [4, 14] (fun s4 s14 wr => ∃ (k c : Nat) (qo : Option Addr) (qc : Nat), s14 = .int .i64 (k : Int) ∧ s4 = .slice qo c qc ∧ k ≤ m ∧ c ≤ k ∧ Hid (((((Ms.strip l).take k).filter (Ms.psB nm)).map Ms.small).length = c) ∧ Hid (wr.ownsRow w.heap.size 52 2 (.slice qo c qc) c (fC ((((Ms.strip l).take k).filter (Ms.psB nm)).map Ms.small))) ∧ Hid (NB (.slice qo c qc) (.slice ro m rc)) ∧ Hid (wr.ownsRow w1.heap.size 52 2 (.slice ro m rc) m (fC (Ms.strip l))) ∧ Hid (MS wr mb nm) ∧ Hid (Below w.heap.size w wr)) (fun _ s14 _ => m - (intOf s14).toNat)
  case atStart => exact ⟨0, 0, none, 0, rfl, rfl, Nat.zero_le _, Nat.le_refl _, hid' rfl, hid' (World.ownsRow_nil _ _ _ _), hid' (fun k hk => by simp [Value.ownBlock] at hk), HF, HM4, HB4⟩
  case round =>
    obtain ⟨k, c, qo, qc, rfl, rfl, hk, hck, HCN, HO, HNR, HFR, HMr, HB⟩ := hrel
    by_cases hlt : k < m
    · have hlt2 : (k : Int) < (m : Int) := by omega
      obtain ⟨p, hp⟩ : ∃ p, (Ms.strip l)[k]? = some p := ⟨_, List.getElem?_eq_getElem (by rw [HM.out]; exact hlt)⟩
      obtain ⟨a, hao, y0, y1⟩ := (FW.of_own (l := Ms.strip l) (by rw [HM.out]; exact HFR.out)).two k p hp
      subst hao
      have HRT := hid' (Ms.psB_take nm hp)
      have HPS := hid' (HS.out p (Ms.strip_mem (List.mem_of_getElem? hp)))
      have hba := bl_alloc wr (.cells #[.string p.n, .string p.v] 52)
      have HX := hid' (fd_new wr p)
      have HB1 := hid' (below_two HB.out hba)
      have HO1 := hid' (HO.out.alloc (.cells #[.string p.n, .string p.v] 52))
      have HF1 := hid' (HFR.out.alloc (.cells #[.string p.n, .string p.v] 52))
      have HM1 := hid' (HMr.out.keep hba)
      clear hp hba
      go_wp2_with fail
      obtain ⟨xb, hxb⟩ : ∃ xb, wr.heap.size = xb := ⟨_, rfl⟩
      have HXB : Hid (w.heap.size ≤ xb ∧ (∀ j, (Value.slice qo c qc).ownBlock = some j → j ≠ xb) ∧ (∀ j, (Value.slice (some a) m rc).ownBlock = some j → j ≠ xb) ∧ mb ≠ xb) := hid' ⟨by rw [← hxb]; exact HB.out.size, fun j hj => by have := own_lt HO.out j hj; omega, fun j hj => by have := own_lt HFR.out j hj; omega, by have := HMr.out.lt; omega⟩
      rw [hxb] at HX ⊢
      clear hxb
      generalize wr.alloc (.cells #[.string p.n, .string p.v] 52) = w2 at *
      clear y0 y1 HB HO HFR HMr
      refine (csmall14 p w2 (by have := HPS.out.1; omega)).mono ?_
      rintro e wq ⟨rfl, hbq⟩
      have HXq := hid' (HX.out.keep hbq)
      have HBq := hid' (below_two HB1.out hbq)
      have HOq := hid' (own_same HO1.out (fun j hj => hbq.block j (own_lt HO1.out j hj)))
      have HFq := hid' (own_same HF1.out (fun j hj => hbq.block j (own_lt HF1.out j hj)))
      have HMq := hid' (HM1.out.keep hbq)
      clear hbq HX HB1 HO1 HF1 HM1
      obtain ⟨q, hq⟩ : ∃ q, Ms.small p = q := ⟨_, rfl⟩
      have HLQ : Hid (Ms.lo p.n = q.n.toList) := hid' (by rw [← hq]; unfold Ms.small; rw [ba_list])
      rw [hq] at HRT ⊢
      clear hq
      go_wp2_with (refine wpl_store 52 _ _ rfl rfl xb #[.string q.n, .string q.v] (by kernel_rfl) (by kernel_rfl) _ _ HXq.out sizeF14 rfl (by simp [Value.oneCell']) ?_)
      intro w5 hA5 hU5
      have HX5 := hid' hA5
      have HB5 : Hid (Below w.heap.size w w5) := hid' (HBq.out.trans (hU5.below HXB.out.1))
      have HO5 := hid' (own_same HOq.out (fun j hj => hU5.block j (HXB.out.2.1 j hj)))
      have HF5 := hid' (own_same HFq.out (fun j hj => hU5.block j (HXB.out.2.2.1 j hj)))
      have HM5 : Hid (MS w5 mb nm) := hid' (by obtain ⟨f, n, es, clock, h1, h2⟩ := HMq.out; exact ⟨f, n, es, clock, h1.other (hU5.block mb HXB.out.2.2.2), h2⟩)
      obtain ⟨isn, hisn⟩ : ∃ isn, nm.contains q.n.toList = isn := ⟨_, rfl⟩
      have hlook := HM5.out.look q.n isn hisn
      have x0 := HX5.out.cell 0 _ rfl
      have x1 := HX5.out.cell 1 _ rfl
      clear hA5 hU5 HXq HBq HOq HFq HMq
      have hb6 := bl_alloc w5 (.cells #[] 120)
      have HX6 := hid' (HX5.out.keep hb6)
      have HB6 := hid' (below_two HB5.out hb6)
      have HO6 := hid' (HO5.out.alloc (.cells #[] 120))
      have HF6 := hid' (HF5.out.alloc (.cells #[] 120))
      have HM6 := hid' (HM5.out.keep hb6)
      clear hb6 HB5 HO5 HF5 HM5
      go_upto_region 8 with fail
      generalize w5.alloc (.cells #[] 120) = w6 at *
      have z0 := HX6.out.cell 0 _ rfl
      have z1 := HX6.out.cell 1 _ rfl
      have HISN := hid' hisn
      clear x0 x1 hlook hisn HX5
      cases isn
      · cases c2 : (q.n.toList == [104, 111, 115, 116])
        rotate_left
        · have d2 : (q.n.toList != [104, 111, 115, 116]) = false := by unfold bne; rw [c2]; rfl
          have HPF : Hid (Ms.psB nm p = false) := hid' (by unfold Ms.psB; rw [HLQ.out]; rw [show (q.n.toList == Ms.sHost) = true from c2]; rfl)
          have HRT2 : Hid (((((Ms.strip l).take (k + 1)).filter (Ms.psB nm)).map Ms.small) = (((Ms.strip l).take k).filter (Ms.psB nm)).map Ms.small) := hid' (by rw [HRT.out, HPF.out]; simp)
          go_wp2
          go_roundw
          case rel => exact ⟨k + 1, c, qo, qc, by go_num, rfl, by omega, by omega, hid' (by rw [HRT2.out]; exact HCN.out), hid' (by rw [HRT2.out]; exact HO6.out), HNR, HF6, HM6, HB6⟩
          case measure => simp [intOf]; omega
        have d2 : (q.n.toList != [104, 111, 115, 116]) = true := by unfold bne; rw [c2]; rfl
        cases c3 : (q.n.toList == [116, 101])
        rotate_left
        · have d3 : (q.n.toList != [116, 101]) = false := by unfold bne; rw [c3]; rfl
          have HPF : Hid (Ms.psB nm p = false) := hid' (by unfold Ms.psB; rw [HLQ.out]; rw [show (q.n.toList == Ms.sTe) = true from c3]; simp)
          have HRT2 : Hid (((((Ms.strip l).take (k + 1)).filter (Ms.psB nm)).map Ms.small) = (((Ms.strip l).take k).filter (Ms.psB nm)).map Ms.small) := hid' (by rw [HRT.out, HPF.out]; simp)
          go_wp2
          go_roundw
          case rel => exact ⟨k + 1, c, qo, qc, by go_num, rfl, by omega, by omega, hid' (by rw [HRT2.out]; exact HCN.out), hid' (by rw [HRT2.out]; exact HO6.out), HNR, HF6, HM6, HB6⟩
          case measure => simp [intOf]; omega
        have d3 : (q.n.toList != [116, 101]) = true := by unfold bne; rw [c3]; rfl
        have HPF : Hid (Ms.psB nm p = true) := hid' (by unfold Ms.psB; rw [HLQ.out]; rw [show (q.n.toList == Ms.sHost) = false from c2, show (q.n.toList == Ms.sTe) = false from c3, HISN.out]; rfl)
        have HRT2 : Hid (((((Ms.strip l).take (k + 1)).filter (Ms.psB nm)).map Ms.small) = (((Ms.strip l).take k).filter (Ms.psB nm)).map Ms.small ++ [q]) := hid' (by rw [HRT.out, HPF.out]; rfl)
        have HA : Hid ((w6.alloc (.cells #[.string q.n, .string q.v] 52)).ownsRow w.heap.size 52 2 (.slice qo c qc) c (fC ((((Ms.strip l).take k).filter (Ms.psB nm)).map Ms.small))) := hid' (HO6.out.alloc _)
        have HFA := hid' (HF6.out.alloc (.cells #[.string q.n, .string q.v] 52))
        have HMA := hid' (HM6.out.keep (bl_alloc w6 (.cells #[.string q.n, .string q.v] 52)))
        go_wp2_with (at_builtin; refine wpList_append_own_at _ rfl _ _ 40 rfl w.heap.size 52 i0 (.agg #[.string ⟨#[]⟩, .string ⟨#[]⟩]) 2 32 Tryz.underlying40 HI.out HZ0.out HZ1.out HZ2.out rfl (by decide) (.slice qo c qc) c (fC ((((Ms.strip l).take k).filter (Ms.psB nm)).map Ms.small)) rfl HA.out ⟨w6.heap.size, 0, none⟩ 1 1 [.string q.n, .string q.v] rfl rfl (two_new _ _ _ _) (by simp [Value.oneCell']) (by unfold maxLen; omega) (by omega) (by simp; have := HB6.out.size; omega) ?_; intro v3 w7 hown3 hgrow3 hx1 hx2; refine Hid.out ?_)
        refine hid' ?_
        have e : fC ((((Ms.strip l).take k).filter (Ms.psB nm)).map Ms.small) ++ [Value.string q.n, .string q.v] = fC ((((Ms.strip l).take (k + 1)).filter (Ms.psB nm)).map Ms.small) := by rw [HRT2.out, fC_append]; simp [fV, fC]
        rw [e] at hown3
        obtain ⟨v3o, v3c, hv3⟩ := own_shape hown3
        subst hv3
        have HO3 := hid' hown3
        have HB3 : Hid (Below w.heap.size w w7) := hid' ((HB6.out.alloc HB6.out.size _).grown hgrow3 (by simp; have := HB6.out.size; omega) (fun k hk => (HA.out.lt k hk).1))
        have HF3 := hid' (own_grown HFA.out hgrow3 (fun j hj e => HNR.out j e.symm hj))
        have HM3 := hid' (HMA.out.grown hgrow3 (own_map HA.out HMA.out))
        have HN3 : Hid (NB (.slice v3o (c + 1) v3c) (.slice (some a) m rc)) := hid' (HNR.out.at (own_lt HFA.out) (by first | exact hx1 | exact hx2))
        clear hown3 hgrow3 e hx1 hx2
        go_wp2
        go_roundw
        case rel => exact ⟨k + 1, c + 1, v3o, v3c, by go_num, rfl, by omega, by omega, hid' (by rw [HRT2.out, List.length_append, HCN.out]; rfl), HO3, HN3, HF3, HM3, HB3⟩
        case measure => simp [intOf]; omega
      · cases c1 : (q.n.toList == [99, 111, 110, 116, 101, 110, 116, 45, 108, 101, 110, 103, 116, 104])
        · have d1 : (q.n.toList != [99, 111, 110, 116, 101, 110, 116, 45, 108, 101, 110, 103, 116, 104]) = true := by unfold bne; rw [c1]; rfl
          have HPF : Hid (Ms.psB nm p = false) := hid' (by unfold Ms.psB; rw [HLQ.out]; rw [HISN.out, show (q.n.toList == Ms.sLen) = false from c1]; simp)
          have HRT2 : Hid (((((Ms.strip l).take (k + 1)).filter (Ms.psB nm)).map Ms.small) = (((Ms.strip l).take k).filter (Ms.psB nm)).map Ms.small) := hid' (by rw [HRT.out, HPF.out]; simp)
          go_wp2
          go_roundw
          case rel => exact ⟨k + 1, c, qo, qc, by go_num, rfl, by omega, by omega, hid' (by rw [HRT2.out]; exact HCN.out), hid' (by rw [HRT2.out]; exact HO6.out), HNR, HF6, HM6, HB6⟩
          case measure => simp [intOf]; omega
        · have d1 : (q.n.toList != [99, 111, 110, 116, 101, 110, 116, 45, 108, 101, 110, 103, 116, 104]) = false := by unfold bne; rw [c1]; rfl
          cases c2 : (q.n.toList == [104, 111, 115, 116])
          rotate_left
          · have d2 : (q.n.toList != [104, 111, 115, 116]) = false := by unfold bne; rw [c2]; rfl
            have HPF : Hid (Ms.psB nm p = false) := hid' (by unfold Ms.psB; rw [HLQ.out]; rw [show (q.n.toList == Ms.sHost) = true from c2]; rfl)
            have HRT2 : Hid (((((Ms.strip l).take (k + 1)).filter (Ms.psB nm)).map Ms.small) = (((Ms.strip l).take k).filter (Ms.psB nm)).map Ms.small) := hid' (by rw [HRT.out, HPF.out]; simp)
            go_wp2
            go_roundw
            case rel => exact ⟨k + 1, c, qo, qc, by go_num, rfl, by omega, by omega, hid' (by rw [HRT2.out]; exact HCN.out), hid' (by rw [HRT2.out]; exact HO6.out), HNR, HF6, HM6, HB6⟩
            case measure => simp [intOf]; omega
          have d2 : (q.n.toList != [104, 111, 115, 116]) = true := by unfold bne; rw [c2]; rfl
          cases c3 : (q.n.toList == [116, 101])
          rotate_left
          · have d3 : (q.n.toList != [116, 101]) = false := by unfold bne; rw [c3]; rfl
            have HPF : Hid (Ms.psB nm p = false) := hid' (by unfold Ms.psB; rw [HLQ.out]; rw [show (q.n.toList == Ms.sTe) = true from c3]; simp)
            have HRT2 : Hid (((((Ms.strip l).take (k + 1)).filter (Ms.psB nm)).map Ms.small) = (((Ms.strip l).take k).filter (Ms.psB nm)).map Ms.small) := hid' (by rw [HRT.out, HPF.out]; simp)
            go_wp2
            go_roundw
            case rel => exact ⟨k + 1, c, qo, qc, by go_num, rfl, by omega, by omega, hid' (by rw [HRT2.out]; exact HCN.out), hid' (by rw [HRT2.out]; exact HO6.out), HNR, HF6, HM6, HB6⟩
            case measure => simp [intOf]; omega
          have d3 : (q.n.toList != [116, 101]) = true := by unfold bne; rw [c3]; rfl
          have HPF : Hid (Ms.psB nm p = true) := hid' (by unfold Ms.psB; rw [HLQ.out]; rw [show (q.n.toList == Ms.sHost) = false from c2, show (q.n.toList == Ms.sTe) = false from c3, HISN.out, show (q.n.toList == Ms.sLen) = true from c1]; rfl)
          have HRT2 : Hid (((((Ms.strip l).take (k + 1)).filter (Ms.psB nm)).map Ms.small) = (((Ms.strip l).take k).filter (Ms.psB nm)).map Ms.small ++ [q]) := hid' (by rw [HRT.out, HPF.out]; rfl)
          have HA : Hid ((w6.alloc (.cells #[.string q.n, .string q.v] 52)).ownsRow w.heap.size 52 2 (.slice qo c qc) c (fC ((((Ms.strip l).take k).filter (Ms.psB nm)).map Ms.small))) := hid' (HO6.out.alloc _)
          have HFA := hid' (HF6.out.alloc (.cells #[.string q.n, .string q.v] 52))
          have HMA := hid' (HM6.out.keep (bl_alloc w6 (.cells #[.string q.n, .string q.v] 52)))
          go_wp2_with (at_builtin; refine wpList_append_own_at _ rfl _ _ 40 rfl w.heap.size 52 i0 (.agg #[.string ⟨#[]⟩, .string ⟨#[]⟩]) 2 32 Tryz.underlying40 HI.out HZ0.out HZ1.out HZ2.out rfl (by decide) (.slice qo c qc) c (fC ((((Ms.strip l).take k).filter (Ms.psB nm)).map Ms.small)) rfl HA.out ⟨w6.heap.size, 0, none⟩ 1 1 [.string q.n, .string q.v] rfl rfl (two_new _ _ _ _) (by simp [Value.oneCell']) (by unfold maxLen; omega) (by omega) (by simp; have := HB6.out.size; omega) ?_; intro v3 w7 hown3 hgrow3 hx1 hx2; refine Hid.out ?_)
          refine hid' ?_
          have e : fC ((((Ms.strip l).take k).filter (Ms.psB nm)).map Ms.small) ++ [Value.string q.n, .string q.v] = fC ((((Ms.strip l).take (k + 1)).filter (Ms.psB nm)).map Ms.small) := by rw [HRT2.out, fC_append]; simp [fV, fC]
          rw [e] at hown3
          obtain ⟨v3o, v3c, hv3⟩ := own_shape hown3
          subst hv3
          have HO3 := hid' hown3
          have HB3 : Hid (Below w.heap.size w w7) := hid' ((HB6.out.alloc HB6.out.size _).grown hgrow3 (by simp; have := HB6.out.size; omega) (fun k hk => (HA.out.lt k hk).1))
          have HF3 := hid' (own_grown HFA.out hgrow3 (fun j hj e => HNR.out j e.symm hj))
          have HM3 := hid' (HMA.out.grown hgrow3 (own_map HA.out HMA.out))
          have HN3 : Hid (NB (.slice v3o (c + 1) v3c) (.slice (some a) m rc)) := hid' (HNR.out.at (own_lt HFA.out) (by first | exact hx1 | exact hx2))
          clear hown3 hgrow3 e hx1 hx2
          go_wp2
          go_roundw
          case rel => exact ⟨k + 1, c + 1, v3o, v3c, by go_num, rfl, by omega, by omega, hid' (by rw [HRT2.out, List.length_append, HCN.out]; rfl), HO3, HN3, HF3, HM3, HB3⟩
          case measure => simp [intOf]; omega
    · obtain rfl : k = m := by omega
      have hlt2 : ¬ (k : Int) < (k : Int) := by omega
      have HT : Hid ((Ms.strip l).take k = Ms.strip l) := hid' (List.take_of_length_le (by rw [HM.out]; exact Nat.le_refl _))
      have HPP : Hid (Ms.pass l = (((Ms.strip l).take k).filter (Ms.psB nm)).map Ms.small) := hid' (by rw [Ms.pass_strip, HNM.out, HT.out])
      clear hlt
      go_wp2
      go_ret
      refine ⟨⟨c, qo, qc, rfl, ?_, ?_⟩, HB.out⟩
      · rw [HPP.out]; exact HCN.out
      · rw [HPP.out]; exact HO.out

end Go.Proofs.YtbpdhcfmdkmoiaaGreatDoor

namespace Go.Proofs.YtbpdhcfmdkmoiaaGreatDoor
open Go.RowKit

/-- A request's value: its parts, its fields' row. -/
def rqV (R : Ms.Rq) (fv : Value) : Value := .agg (rqC R.m R.s R.a R.p fv ⟨#[]⟩ (.slice none 0 0))

theorem ret_two14 {a b : Value} {c d : Int} (h1 : a = b) (h2 : c = d) : Ending.returned (.tuple #[a, .int .i64 c]) = .returned (.tuple #[b, .int .i64 d]) := by rw [h1, h2]

theorem own_base {w : World} {B B' : Nat} {e : TypeId} {s : Nat} {v : Value} {n : Nat} {xs : List Value} (h : w.ownsRow B e s v n xs) (hB : B' ≤ B) : w.ownsRow B' e s v n xs := by
  refine ⟨h.1, ?_⟩
  rcases h.2 with h2 | ⟨g, cap, cur, h1, h2, h3⟩
  · exact .inl h2
  · exact .inr ⟨g, cap, cur, h1, Nat.le_trans hB h2, h3⟩

end Go.Proofs.YtbpdhcfmdkmoiaaGreatDoor
