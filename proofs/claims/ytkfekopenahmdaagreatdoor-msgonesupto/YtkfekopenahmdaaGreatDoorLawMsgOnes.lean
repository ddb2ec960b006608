/-
  MsgOnes: its contract.
-/
import Derived.Test.YtkfekopenahmdaaGreatDoorMcZ
import Derived.Test.YtkfekopenahmdaaGreatDoorNumN
import Derived.Test.YtkfekopenahmdaaGreatDoorMdC
import Derived.Test.YtkfekopenahmdaaGreatDoorMcT
namespace Go.Proofs.YtkfekopenahmdaaGreatDoor
open Go.RowKit

theorem Ms.oneR_len (me tg : ByteArray) (l : List Fd) : (Ms.oneR me tg l).fs.length ≤ l.length := by
  unfold Ms.oneR
  split
  · simp only [Ms.pass, List.length_map]
    exact List.length_filter_le _ _
  · exact Nat.zero_le _

set_option maxHeartbeats 8000000 in
set_option maxRecDepth 20000 in
theorem msgOnes_any (me tg : ByteArray) (v : Value) (l : List Fd) (w : World) (h : FW w v l) (hT : TB w) (hme : me.size ≤ 1048576) (htg : tg.size ≤ 1048576) (hl : l.length ≤ 1048576) (hs : ∀ f ∈ l, f.n.size ≤ 1048576 ∧ f.v.size ≤ 1048576) :
    Calls Tryz.prog 3 #[.string me, .string tg, v] w fun e w' => e = .returned (.bool true) ∧ Below w.heap.size w w' := by
  have H := hid' h
  have HTB := hid' hT
  have HL := hid' hl
  have HS : Hid (∀ f ∈ l, f.n.size ≤ 140737488355328 ∧ f.v.size ≤ 140737488355328) := hid' (fun f hf => ⟨by have := (hs f hf).1; omega, by have := (hs f hf).2; omega⟩)
  obtain ⟨R, hR⟩ : ∃ R, Ms.oneR me tg l = R := ⟨_, rfl⟩
  obtain ⟨E, hE⟩ : ∃ E, Ms.oneE me tg l = E := ⟨_, rfl⟩
  obtain ⟨m, s, a, p, fs⟩ := R
  obtain ⟨nf, hnf⟩ : ∃ nf, fs.length = nf := ⟨_, rfl⟩
  have HNF := hid' hnf
  have HNB : Hid (nf ≤ 1048576) := hid' (by
    have e : (Ms.oneR me tg l).fs.length = nf := by rw [hR]; exact hnf
    rw [← e]
    exact Nat.le_trans (Ms.oneR_len me tg l) hl)
  have HCC : Hid (∀ (V : Value) (W : World), FW W V l → TB W → Calls Tryz.prog 6 #[.string me, .string tg, V] W fun e w' => (∃ fo fc, e = .returned (.tuple #[.agg #[.string m, .string s, .string a, .string p, .slice fo nf fc, .string ⟨#[]⟩, .slice none 0 0], .int .i64 E]) ∧ w'.ownsRow W.heap.size 42 2 (.slice fo nf fc) nf (fC fs)) ∧ Below W.heap.size W w') := hid' (by
    intro V W hF hT'
    refine (cone14 me tg V l W hF hT' HL.out hs (by omega) htg).mono ?_
    rintro e w' ⟨⟨fv, he, ho⟩, hb⟩
    rw [hR] at he ho
    rw [hE] at he
    have ho' : w'.ownsRow W.heap.size 42 2 fv nf (fC fs) := by have := ho; rwa [hnf] at this
    obtain ⟨fo, fc, hfv⟩ := own_shape ho'
    subst hfv
    exact ⟨⟨fo, fc, he, ho'⟩, hb⟩)
  have HDC : Hid (∀ (V : Value) (W : World), FW W V l → Calls Tryz.prog 7 #[.string me, .string tg, V] W fun e w' => (∃ fo fc, e = .returned (.tuple #[.agg #[.string m, .string s, .string a, .string p, .slice fo nf fc, .string ⟨#[]⟩, .slice none 0 0], .int .i64 E]) ∧ w'.ownsRow W.heap.size 42 2 (.slice fo nf fc) nf (fC fs)) ∧ Below W.heap.size W w') := hid' (by
    intro V W hF
    refine (rone14 rNumber_any me tg V l W hF HL.out hs (by omega) htg).mono ?_
    rintro e w' ⟨⟨fv, he, ho⟩, hb⟩
    rw [hR] at he ho
    rw [hE] at he
    have ho' : w'.ownsRow W.heap.size 42 2 fv nf (fC fs) := by have := ho; rwa [hnf] at this
    obtain ⟨fo, fc, hfv⟩ := own_shape ho'
    subst hfv
    exact ⟨⟨fo, fc, he, ho'⟩, hb⟩)
  have hE1 : (E == E) = true := by simp
  have hE2 : (E != E) = false := by simp
  obtain ⟨ao, ac, hv⟩ := h.shape
  subst hv
  clear h hT hs hR hE hnf
  go_enter Tryz.func3, Tryz.ntmps3
  go_wp2_with fail
  refine (lent14 _ l w H.out HL.out).mono ?_
  rintro e w1 ⟨⟨g, cap, rfl, hln⟩, hb1⟩
  have HLN1 := hid' hln
  have HB1 := hid' hb1
  have HGL : Hid (g < w1.heap.size) := hid' (own_lt hln.own g rfl)
  have HWW : Hid (w.heap.size ≤ w1.heap.size) := hid' hb1.size
  clear hln hb1
  go_wp2_with fail
  refine (HCC.out _ w1 HLN1.out.fw (HTB.out.keep HB1.out)).mono ?_
  rintro e wa1 ⟨⟨fo1, fc1, rfl, hown⟩, hbc⟩
  have hz := rq_zero wa1
  have hbz := bl_alloc wa1 (.cells (rqC ⟨#[]⟩ ⟨#[]⟩ ⟨#[]⟩ ⟨#[]⟩ (.slice none 0 0) ⟨#[]⟩ (.slice none 0 0)) 25)
  unfold rqC at hz hbz
  have HZZ := hid' hz
  have HBZ := hid' hbz
  have HOC := hid' hown
  have HBC := hid' hbc
  clear hz hbz hown hbc
  go_wp2_with (refine wpl_store 25 _ _ rfl rfl wa1.heap.size (#[.string m, .string s, .string a, .string p, .slice fo1 nf fc1, .string ⟨#[]⟩, .slice none 0 0]) (by kernel_rfl) (by kernel_rfl) _ _ HZZ.out sizeRq14 rfl (by simp [Value.oneCell']) ?_)
  intro wb1 hA hU
  have HBU : Hid (Below wa1.heap.size wa1 wb1) := hid' (HBZ.out.trans (hU.below (Nat.le_refl _)))
  have HBW : Hid (Below w1.heap.size w1 wb1) := hid' (below_two HBC.out HBU.out)
  have HO11 : Hid (wb1.ownsRow w1.heap.size 42 2 (.slice fo1 nf fc1) nf (fC fs)) := hid' (own_same HOC.out (fun j hj => HBU.out.block j (own_lt HOC.out j hj)))
  have HLT1 : Hid (∀ j, (Value.slice fo1 nf fc1).ownBlock = some j → j < wa1.heap.size) := hid' (own_lt HOC.out)
  have HSW1 : Hid (wa1.heap.size ≤ wb1.heap.size ∧ w1.heap.size ≤ wa1.heap.size) := hid' ⟨HBU.out.size, HBC.out.size⟩
  obtain ⟨b1, hb1⟩ : ∃ b1, wa1.heap.size = b1 := ⟨_, rfl⟩
  have HBB1 := hid' hb1
  rw [hb1] at hA ⊢
  have HA11 : Hid (Ar wb1 b1 25 #[.string m, .string s, .string a, .string p, .slice fo1 nf fc1, .string ⟨#[]⟩, .slice none 0 0]) := hid' hA
  have HLN2 := hid' (HLN1.out.keep HBW.out)
  have HB2 := hid' (below_two HB1.out HBW.out)
  clear hA hU HBU HBW HZZ HBZ HOC HBC hb1 HLN1 HB1
  go_wp2_with fail
  refine (HCC.out _ wb1 HLN2.out.fw (HTB.out.keep HB2.out)).mono ?_
  rintro e wa2 ⟨⟨fo2, fc2, rfl, hown⟩, hbc⟩
  have hz := rq_zero wa2
  have hbz := bl_alloc wa2 (.cells (rqC ⟨#[]⟩ ⟨#[]⟩ ⟨#[]⟩ ⟨#[]⟩ (.slice none 0 0) ⟨#[]⟩ (.slice none 0 0)) 25)
  unfold rqC at hz hbz
  have HZZ := hid' hz
  have HBZ := hid' hbz
  have HOC := hid' hown
  have HBC := hid' hbc
  clear hz hbz hown hbc
  go_wp2_with (refine wpl_store 25 _ _ rfl rfl wa2.heap.size (#[.string m, .string s, .string a, .string p, .slice fo2 nf fc2, .string ⟨#[]⟩, .slice none 0 0]) (by kernel_rfl) (by kernel_rfl) _ _ HZZ.out sizeRq14 rfl (by simp [Value.oneCell']) ?_)
  intro wb2 hA hU
  have HBU : Hid (Below wa2.heap.size wa2 wb2) := hid' (HBZ.out.trans (hU.below (Nat.le_refl _)))
  have HBW : Hid (Below wb1.heap.size wb1 wb2) := hid' (below_two HBC.out HBU.out)
  have HO22 : Hid (wb2.ownsRow wb1.heap.size 42 2 (.slice fo2 nf fc2) nf (fC fs)) := hid' (own_same HOC.out (fun j hj => HBU.out.block j (own_lt HOC.out j hj)))
  have HLT2 : Hid (∀ j, (Value.slice fo2 nf fc2).ownBlock = some j → j < wa2.heap.size) := hid' (own_lt HOC.out)
  have HSW2 : Hid (wa2.heap.size ≤ wb2.heap.size ∧ wb1.heap.size ≤ wa2.heap.size) := hid' ⟨HBU.out.size, HBC.out.size⟩
  obtain ⟨b2, hb2⟩ : ∃ b2, wa2.heap.size = b2 := ⟨_, rfl⟩
  have HBB2 := hid' hb2
  rw [hb2] at hA ⊢
  have HA22 : Hid (Ar wb2 b2 25 #[.string m, .string s, .string a, .string p, .slice fo2 nf fc2, .string ⟨#[]⟩, .slice none 0 0]) := hid' hA
  have HLN3 := hid' (HLN2.out.keep HBW.out)
  have HB3 := hid' (below_two HB2.out HBW.out)
  have HO12 := hid' (own_same HO11.out (fun j hj => HBW.out.block j (own_lt HO11.out j hj)))
  have HA12 := hid' (HA11.out.keep HBW.out)
  clear hA hU HBU HBW HZZ HBZ HOC HBC hb2 HLN2 HB2 HO11 HA11
  go_wp2_with fail
  refine (HDC.out _ wb2 (H.out.keep HB3.out)).mono ?_
  rintro e wa3 ⟨⟨fo3, fc3, rfl, hown⟩, hbc⟩
  have hz := rq_zero wa3
  have hbz := bl_alloc wa3 (.cells (rqC ⟨#[]⟩ ⟨#[]⟩ ⟨#[]⟩ ⟨#[]⟩ (.slice none 0 0) ⟨#[]⟩ (.slice none 0 0)) 25)
  unfold rqC at hz hbz
  have HZZ := hid' hz
  have HBZ := hid' hbz
  have HOC := hid' hown
  have HBC := hid' hbc
  clear hz hbz hown hbc
  go_wp2_with (refine wpl_store 25 _ _ rfl rfl wa3.heap.size (#[.string m, .string s, .string a, .string p, .slice fo3 nf fc3, .string ⟨#[]⟩, .slice none 0 0]) (by kernel_rfl) (by kernel_rfl) _ _ HZZ.out sizeRq14 rfl (by simp [Value.oneCell']) ?_)
  intro wb3 hA hU
  have HBU : Hid (Below wa3.heap.size wa3 wb3) := hid' (HBZ.out.trans (hU.below (Nat.le_refl _)))
  have HBW : Hid (Below wb2.heap.size wb2 wb3) := hid' (below_two HBC.out HBU.out)
  have HO33 : Hid (wb3.ownsRow wb2.heap.size 42 2 (.slice fo3 nf fc3) nf (fC fs)) := hid' (own_same HOC.out (fun j hj => HBU.out.block j (own_lt HOC.out j hj)))
  have HLT3 : Hid (∀ j, (Value.slice fo3 nf fc3).ownBlock = some j → j < wa3.heap.size) := hid' (own_lt HOC.out)
  have HSW3 : Hid (wa3.heap.size ≤ wb3.heap.size ∧ wb2.heap.size ≤ wa3.heap.size) := hid' ⟨HBU.out.size, HBC.out.size⟩
  obtain ⟨b3, hb3⟩ : ∃ b3, wa3.heap.size = b3 := ⟨_, rfl⟩
  have HBB3 := hid' hb3
  rw [hb3] at hA ⊢
  have HA33 : Hid (Ar wb3 b3 25 #[.string m, .string s, .string a, .string p, .slice fo3 nf fc3, .string ⟨#[]⟩, .slice none 0 0]) := hid' hA
  have HLN4 := hid' (HLN3.out.keep HBW.out)
  have HB4 := hid' (below_two HB3.out HBW.out)
  have HO13 := hid' (own_same HO12.out (fun j hj => HBW.out.block j (own_lt HO12.out j hj)))
  have HA13 := hid' (HA12.out.keep HBW.out)
  have HO23 := hid' (own_same HO22.out (fun j hj => HBW.out.block j (own_lt HO22.out j hj)))
  have HA23 := hid' (HA22.out.keep HBW.out)
  clear hA hU HBU HBW HZZ HBZ HOC HBC hb3 HLN3 HB3 HO12 HA12 HO22 HA22
  have x10 : wb3.cell? ⟨b1, 0, none⟩ = some (.string m) := HA13.out.cell 0 _ rfl
  have x11 : wb3.cell? ⟨b1, 1, none⟩ = some (.string s) := HA13.out.cell 1 _ rfl
  have x12 : wb3.cell? ⟨b1, 2, none⟩ = some (.string a) := HA13.out.cell 2 _ rfl
  have x13 : wb3.cell? ⟨b1, 3, none⟩ = some (.string p) := HA13.out.cell 3 _ rfl
  have x14 : wb3.cell? ⟨b1, 4, none⟩ = some (.slice fo1 nf fc1) := HA13.out.cell 4 _ rfl
  have x15 : wb3.cell? ⟨b1, 5, none⟩ = some (.string ⟨#[]⟩) := HA13.out.cell 5 _ rfl
  have x16 : wb3.cell? ⟨b1, 6, none⟩ = some (.slice none 0 0) := HA13.out.cell 6 _ rfl
  have x30 : wb3.cell? ⟨b3, 0, none⟩ = some (.string m) := HA33.out.cell 0 _ rfl
  have x31 : wb3.cell? ⟨b3, 1, none⟩ = some (.string s) := HA33.out.cell 1 _ rfl
  have x32 : wb3.cell? ⟨b3, 2, none⟩ = some (.string a) := HA33.out.cell 2 _ rfl
  have x33 : wb3.cell? ⟨b3, 3, none⟩ = some (.string p) := HA33.out.cell 3 _ rfl
  have x34 : wb3.cell? ⟨b3, 4, none⟩ = some (.slice fo3 nf fc3) := HA33.out.cell 4 _ rfl
  have x35 : wb3.cell? ⟨b3, 5, none⟩ = some (.string ⟨#[]⟩) := HA33.out.cell 5 _ rfl
  have x36 : wb3.cell? ⟨b3, 6, none⟩ = some (.slice none 0 0) := HA33.out.cell 6 _ rfl
  go_wp2_with fail
  refine (rsameReq14 m s a p ⟨#[]⟩ (.slice fo1 nf fc1) (.slice fo3 nf fc3) (.slice none 0 0) (.slice none 0 0) fs [] wb3 (FW.of_own (l := fs) (by rw [HNF.out]; exact HO13.out)) (FW.of_own (l := fs) (by rw [HNF.out]; exact HO33.out)) (.inl ⟨rfl, rfl⟩) (.inl ⟨rfl, rfl⟩) (by rw [HNF.out]; have := HNB.out; omega) (by decide)).mono ?_
  rintro e wk4 ⟨rfl, hbk⟩
  clear x10 x11 x12 x13 x14 x15 x16
  clear x30 x31 x32 x33 x34 x35 x36
  have HO14 := hid' (own_same HO13.out (fun j hj => hbk.block j (own_lt HO13.out j hj)))
  have HA14 := hid' (HA13.out.keep hbk)
  have HO24 := hid' (own_same HO23.out (fun j hj => hbk.block j (own_lt HO23.out j hj)))
  have HA24 := hid' (HA23.out.keep hbk)
  have HO34 := hid' (own_same HO33.out (fun j hj => hbk.block j (own_lt HO33.out j hj)))
  have HA34 := hid' (HA33.out.keep hbk)
  have HLN5 := hid' (HLN4.out.keep hbk)
  have HB5 := hid' (below_two HB4.out hbk)
  have HSW4 : Hid (wb3.heap.size ≤ wk4.heap.size) := hid' (hbk.size)
  clear hbk HLN4 HB4 HO13 HA13 HO23 HA23 HO33 HA33
  have x20 : wk4.cell? ⟨b2, 0, none⟩ = some (.string m) := HA24.out.cell 0 _ rfl
  have x21 : wk4.cell? ⟨b2, 1, none⟩ = some (.string s) := HA24.out.cell 1 _ rfl
  have x22 : wk4.cell? ⟨b2, 2, none⟩ = some (.string a) := HA24.out.cell 2 _ rfl
  have x23 : wk4.cell? ⟨b2, 3, none⟩ = some (.string p) := HA24.out.cell 3 _ rfl
  have x24 : wk4.cell? ⟨b2, 4, none⟩ = some (.slice fo2 nf fc2) := HA24.out.cell 4 _ rfl
  have x25 : wk4.cell? ⟨b2, 5, none⟩ = some (.string ⟨#[]⟩) := HA24.out.cell 5 _ rfl
  have x26 : wk4.cell? ⟨b2, 6, none⟩ = some (.slice none 0 0) := HA24.out.cell 6 _ rfl
  have x30 : wk4.cell? ⟨b3, 0, none⟩ = some (.string m) := HA34.out.cell 0 _ rfl
  have x31 : wk4.cell? ⟨b3, 1, none⟩ = some (.string s) := HA34.out.cell 1 _ rfl
  have x32 : wk4.cell? ⟨b3, 2, none⟩ = some (.string a) := HA34.out.cell 2 _ rfl
  have x33 : wk4.cell? ⟨b3, 3, none⟩ = some (.string p) := HA34.out.cell 3 _ rfl
  have x34 : wk4.cell? ⟨b3, 4, none⟩ = some (.slice fo3 nf fc3) := HA34.out.cell 4 _ rfl
  have x35 : wk4.cell? ⟨b3, 5, none⟩ = some (.string ⟨#[]⟩) := HA34.out.cell 5 _ rfl
  have x36 : wk4.cell? ⟨b3, 6, none⟩ = some (.slice none 0 0) := HA34.out.cell 6 _ rfl
  go_wp2_with fail
  refine (rsameReq14 m s a p ⟨#[]⟩ (.slice fo2 nf fc2) (.slice fo3 nf fc3) (.slice none 0 0) (.slice none 0 0) fs [] wk4 (FW.of_own (l := fs) (by rw [HNF.out]; exact HO24.out)) (FW.of_own (l := fs) (by rw [HNF.out]; exact HO34.out)) (.inl ⟨rfl, rfl⟩) (.inl ⟨rfl, rfl⟩) (by rw [HNF.out]; have := HNB.out; omega) (by decide)).mono ?_
  rintro e wk5 ⟨rfl, hbk⟩
  clear x20 x21 x22 x23 x24 x25 x26
  clear x30 x31 x32 x33 x34 x35 x36
  have HO15 := hid' (own_same HO14.out (fun j hj => hbk.block j (own_lt HO14.out j hj)))
  have HA15 := hid' (HA14.out.keep hbk)
  have HO25 := hid' (own_same HO24.out (fun j hj => hbk.block j (own_lt HO24.out j hj)))
  have HA25 := hid' (HA24.out.keep hbk)
  have HO35 := hid' (own_same HO34.out (fun j hj => hbk.block j (own_lt HO34.out j hj)))
  have HA35 := hid' (HA34.out.keep hbk)
  have HLN6 := hid' (HLN5.out.keep hbk)
  have HB6 := hid' (below_two HB5.out hbk)
  have HSW5 : Hid (wb3.heap.size ≤ wk5.heap.size) := hid' (Nat.le_trans HSW4.out hbk.size)
  clear hbk HLN5 HB5 HO14 HA14 HO24 HA24 HO34 HA34
  go_wp2_with fail
  refine (kept14 _ g cap _ l wk5 HLN6.out (H.out.keep HB6.out) HL.out).mono ?_
  rintro e wk6 ⟨rfl, hbk⟩
  have HO16 := hid' (own_same HO15.out (fun j hj => hbk.block j (own_lt HO15.out j hj)))
  have HA16 := hid' (HA15.out.keep hbk)
  have HO26 := hid' (own_same HO25.out (fun j hj => hbk.block j (own_lt HO25.out j hj)))
  have HA26 := hid' (HA25.out.keep hbk)
  have HO36 := hid' (own_same HO35.out (fun j hj => hbk.block j (own_lt HO35.out j hj)))
  have HA36 := hid' (HA35.out.keep hbk)
  have HLN7 := hid' (HLN6.out.keep hbk)
  have HB7 := hid' (below_two HB6.out hbk)
  have HSW6 : Hid (wb3.heap.size ≤ wk6.heap.size) := hid' (Nat.le_trans HSW5.out hbk.size)
  clear hbk HLN6 HB6 HO15 HA15 HO25 HA25 HO35 HA35
  have x14 : wk6.cell? ⟨b1, 4, none⟩ = some (.slice fo1 nf fc1) := HA16.out.cell 4 _ rfl
  go_wp2_with fail
  refine (spoil14 w1.heap.size _ nf _ wk6 HO16.out (by have := HSW6.out; have := HSW3.out; have := HSW2.out; have := HSW1.out; omega) (by have := HNB.out; omega)).mono ?_
  rintro e wk7 ⟨rfl, hsp⟩
  clear x14
  have HLN8 := hid' (hsp.ln HLN7.out (fun e => by have := (own_ty HO16.out g e).1; have := HGL.out; omega))
  have HB8 : Hid (Below w.heap.size w wk7) := hid' (hsp.low HB7.out HB7.out.size (fun k hk => by have := (own_ty HO16.out k hk).1; have := HLN8.out; have := HWW.out; omega))
  have HO27 : Hid (wk7.ownsRow wb1.heap.size 42 2 (.slice fo2 nf fc2) nf (fC fs)) := hid' (own_same HO26.out (fun j hj => hsp.block j (own_lt HO26.out j hj) (fun e => by have := (own_ty HO26.out j hj).1; have := HLT1.out j e; have := HSW1.out; omega)))
  have HO37 : Hid (wk7.ownsRow wb2.heap.size 42 2 (.slice fo3 nf fc3) nf (fC fs)) := hid' (own_same HO36.out (fun j hj => hsp.block j (own_lt HO36.out j hj) (fun e => by have := (own_ty HO36.out j hj).1; have := HLT1.out j e; have := HSW1.out; have := HSW2.out; omega)))
  have HA27 : Hid (Ar wk7 b2 25 #[.string m, .string s, .string a, .string p, .slice fo2 nf fc2, .string ⟨#[]⟩, .slice none 0 0]) := hid' (by have h0 := HA26.out; have h1 := h0.lt; have h2 := own_apart HO16.out h0 (by decide); unfold Ar at h0 ⊢; rw [hsp.block b2 h1 (fun e => h2 b2 e rfl)]; exact h0)
  have HA37 : Hid (Ar wk7 b3 25 #[.string m, .string s, .string a, .string p, .slice fo3 nf fc3, .string ⟨#[]⟩, .slice none 0 0]) := hid' (by have h0 := HA36.out; have h1 := h0.lt; have h2 := own_apart HO16.out h0 (by decide); unfold Ar at h0 ⊢; rw [hsp.block b3 h1 (fun e => h2 b3 e rfl)]; exact h0)
  clear hsp HO16 HO26 HO36 HA16 HA26 HA36 HLN7 HB7
  have x20 : wk7.cell? ⟨b2, 0, none⟩ = some (.string m) := HA27.out.cell 0 _ rfl
  have x21 : wk7.cell? ⟨b2, 1, none⟩ = some (.string s) := HA27.out.cell 1 _ rfl
  have x22 : wk7.cell? ⟨b2, 2, none⟩ = some (.string a) := HA27.out.cell 2 _ rfl
  have x23 : wk7.cell? ⟨b2, 3, none⟩ = some (.string p) := HA27.out.cell 3 _ rfl
  have x24 : wk7.cell? ⟨b2, 4, none⟩ = some (.slice fo2 nf fc2) := HA27.out.cell 4 _ rfl
  have x25 : wk7.cell? ⟨b2, 5, none⟩ = some (.string ⟨#[]⟩) := HA27.out.cell 5 _ rfl
  have x26 : wk7.cell? ⟨b2, 6, none⟩ = some (.slice none 0 0) := HA27.out.cell 6 _ rfl
  have x30 : wk7.cell? ⟨b3, 0, none⟩ = some (.string m) := HA37.out.cell 0 _ rfl
  have x31 : wk7.cell? ⟨b3, 1, none⟩ = some (.string s) := HA37.out.cell 1 _ rfl
  have x32 : wk7.cell? ⟨b3, 2, none⟩ = some (.string a) := HA37.out.cell 2 _ rfl
  have x33 : wk7.cell? ⟨b3, 3, none⟩ = some (.string p) := HA37.out.cell 3 _ rfl
  have x34 : wk7.cell? ⟨b3, 4, none⟩ = some (.slice fo3 nf fc3) := HA37.out.cell 4 _ rfl
  have x35 : wk7.cell? ⟨b3, 5, none⟩ = some (.string ⟨#[]⟩) := HA37.out.cell 5 _ rfl
  have x36 : wk7.cell? ⟨b3, 6, none⟩ = some (.slice none 0 0) := HA37.out.cell 6 _ rfl
  go_wp2_with fail
  refine (rsameReq14 m s a p ⟨#[]⟩ (.slice fo2 nf fc2) (.slice fo3 nf fc3) (.slice none 0 0) (.slice none 0 0) fs [] wk7 (FW.of_own (l := fs) (by rw [HNF.out]; exact HO27.out)) (FW.of_own (l := fs) (by rw [HNF.out]; exact HO37.out)) (.inl ⟨rfl, rfl⟩) (.inl ⟨rfl, rfl⟩) (by rw [HNF.out]; have := HNB.out; omega) (by decide)).mono ?_
  rintro e wk8 ⟨rfl, hbk⟩
  clear x20 x21 x22 x23 x24 x25 x26
  clear x30 x31 x32 x33 x34 x35 x36
  have HLN9 := hid' (HLN8.out.keep hbk)
  have HB9 := hid' (below_two HB8.out hbk)
  clear hbk HLN8 HB8
  go_wp2_with fail
  refine (kept14 _ g cap _ l wk8 HLN9.out (H.out.keep HB9.out) HL.out).mono ?_
  rintro e wk9 ⟨rfl, hbk⟩
  have HB10 := hid' (below_two HB9.out hbk)
  clear hbk
  go_wp2_with fail
  refine (awake14 wk9 (HTB.out.keep HB10.out)).mono ?_
  rintro e wk10 ⟨rfl, hbk⟩
  have HB11 := hid' (below_two HB10.out hbk)
  clear hbk
  go_wp2
  go_ret
  exact ⟨rfl, HB11.out⟩

end Go.Proofs.YtkfekopenahmdaaGreatDoor
