/-
  The laws' ask and awake: by their contracts.
-/
import Derived.Test.YtkfekopenahmdaaDoorMcT
import Derived.Test.YtkfekopenahmdaaDoorMsDI
namespace Go.Proofs.YtkfekopenahmdaaDoor
open Go.RowKit

namespace Ms
def bGet : ByteArray := ⟨#[71, 69, 84]⟩
def bA : ByteArray := ⟨#[47, 97]⟩
def bH : ByteArray := ⟨#[104]⟩
def fX : Fd := ⟨⟨#[120]⟩, ⟨#[49]⟩⟩
def askL : List Fd := asTwo bGet bA bH [fX]
def lineL : List Fd := [⟨⟨#[72, 111, 115, 116]⟩, bH⟩, ⟨⟨#[88]⟩, ⟨#[49]⟩⟩, ⟨⟨#[67, 111, 110, 110, 101, 99, 116, 105, 111, 110]⟩, ⟨#[99, 108, 111, 115, 101]⟩⟩]
def awR : Rq := ⟨bGet, bHttp, bH, bA, [fX]⟩
theorem aw_goes : goes bGet bA = true := by decide
theorem aw_two : twoE askL = 0 ∧ twoR askL = awR := by
  obtain ⟨f1, f2, f3, f4⟩ := fnd_four bGet bA bH [fX]
  have hw : walk [] false askL = 0 := by
    unfold askL
    rw [walk_four]
    have p1 : psd fX.n = false := by decide
    have p2 : bad2 [fM bGet, fS, fP bA, fA bH] fX = false := by
      unfold bad2
      rw [show plain fX = true by decide, tl_tx]
      rfl
    simp only [walk, p1, p2, Bool.false_eq_true, if_false]
  have g1 : gd sMethod askL = bGet := by unfold gd askL; rw [f1]; rfl
  have g2 : gd sScheme askL = bHttp := by unfold gd askL; rw [f2]; rfl
  have g3 : gd sPath askL = bA := by unfold gd askL; rw [f3]; rfl
  have g4 : auth askL = bH := by unfold auth gd askL; rw [f4]; rfl
  have hh : fnd sHost askL = none := rfl
  have hl : lines bGet bHttp bA = true := by
    unfold lines
    rw [tl_tx, aw_goes]
    decide
  have hc : clash askL = false := by unfold clash; rw [hh]; simp
  have hle : (lenGo none askL).isNone = false := by unfold askL; rw [lenGo_two]; rfl
  have hE : twoE askL = 0 := by unfold twoE; rw [hw, g1, g2, g3, hl, hc, hle]; rfl
  have hk : keep askL = [fX] := by
    unfold keep askL asTwo
    have k1 : keepB (fM bGet) = false := by unfold keepB; rw [show psd (fM bGet).n = true from rfl]; rfl
    have k2 : keepB fS = false := by unfold keepB; rw [show psd fS.n = true from rfl]; rfl
    have k3 : keepB (fP bA) = false := by unfold keepB; rw [show psd (fP bA).n = true from rfl]; rfl
    have k4 : keepB (fA bH) = false := by unfold keepB; rw [show psd (fA bH).n = true from rfl]; rfl
    have k5 : keepB fX = true := by unfold keepB; rw [tl_tx]; rfl
    simp only [List.cons_append, List.nil_append, List.filter_cons, List.filter_nil, k1, k2, k3, k4, k5, Bool.false_eq_true, if_false, if_true]
  refine ⟨hE, ?_⟩
  unfold twoR
  rw [hE, g1, g2, g3, g4, hk]
  rfl
theorem aw_one : oneE bGet bA lineL = 0 ∧ oneR bGet bA lineL = awR := by
  obtain ⟨b1, b2⟩ := beg_not aw_goes
  have hho : hostOf lineL = bH := rfl
  have hai : aim bGet bA bH = (bHttp, bH, bA, true) := by unfold aim; rw [b1, b2, aw_goes]; rfl
  have h1 : Tx.isTok (tx bGet) = true := by decide
  have h2 : lineL.all sound = true := by decide
  have h3 : ((hosts lineL).length == 1) = true := by decide
  have h4 : (lenGo none lineL).isNone = false := rfl
  have hE : oneE bGet bA lineL = 0 := by unfold oneE; rw [h1, h2, h3, hho, hai, h4]; rfl
  have hp : pass lineL = [fX] := by
    unfold pass
    have e : lineL.filter (passB (nms lineL)) = [⟨⟨#[88]⟩, ⟨#[49]⟩⟩] := by
      have q1 : passB (nms lineL) ⟨⟨#[72, 111, 115, 116]⟩, bH⟩ = false := by decide
      have q2 : passB (nms lineL) ⟨⟨#[88]⟩, ⟨#[49]⟩⟩ = true := by decide
      have q3 : passB (nms lineL) ⟨⟨#[67, 111, 110, 110, 101, 99, 116, 105, 111, 110]⟩, ⟨#[99, 108, 111, 115, 101]⟩⟩ = false := by decide
      show List.filter (passB (nms lineL)) ([⟨⟨#[72, 111, 115, 116]⟩, bH⟩, ⟨⟨#[88]⟩, ⟨#[49]⟩⟩, ⟨⟨#[67, 111, 110, 110, 101, 99, 116, 105, 111, 110]⟩, ⟨#[99, 108, 111, 115, 101]⟩⟩] : List Fd) = _
      simp only [List.filter_cons, List.filter_nil, q1, q2, q3, Bool.false_eq_true, if_false, if_true]
    rw [e]
    rfl
  refine ⟨hE, ?_⟩
  unfold oneR
  rw [hE, hho, hai, hp]
  rfl
theorem aw_none : twoE [] = 140 := by
  have hw : walk [] false [] = 0 := rfl
  have hl : lines (gd sMethod []) (gd sScheme []) (gd sPath []) = false := by
    unfold lines
    rfl
  unfold twoE
  rw [hw, hl]
  rfl
theorem aw_size : size askL = 201 := by decide
end Ms

set_option maxHeartbeats 1000000 in
theorem ask14 (w : World) : Calls Tryd.prog 12 #[] w fun e w' => e = .returned (.slice (some ⟨w.heap.size, 0, none⟩) 5 5) ∧ w' = w.alloc (.cells (fC Ms.askL).toArray 30) := by
  go_enter Tryd.func12, Tryd.ntmps12
  go_wp2
  go_ret
  exact ⟨rfl, rfl⟩
theorem fw_lit (w : World) (l : List Fd) (n : Nat) (hn : l.length = n) (h : n ≤ maxLen) : FW (w.alloc (.cells (fC l).toArray 30)) (.slice (some ⟨w.heap.size, 0, none⟩) n n) l :=
  FW.of_own (B := w.heap.size) (e := 30) (by rw [hn]; exact own_lit w 30 (fC l) n 2 (by rw [fC_length, hn]) h w.heap.size (Nat.le_refl _))

set_option maxHeartbeats 4000000 in
set_option maxRecDepth 20000 in
theorem awake14 (w : World) (hT : TB w) : Calls Tryd.prog 5 #[] w fun e w' => e = .returned (.bool true) ∧ Below w.heap.size w w' := by
  have HTB := hid' hT
  clear hT
  go_enter Tryd.func5, Tryd.ntmps5
  go_wp2_with fail
  refine (ask14 w).mono ?_
  rintro e w1 ⟨rfl, hw1⟩
  have HF1 : Hid (FW w1 (.slice (some ⟨w.heap.size, 0, none⟩) 5 5) Ms.askL) := hid' (by rw [hw1]; exact fw_lit w Ms.askL 5 rfl (by decide))
  have HB1 : Hid (Below w.heap.size w w1) := hid' (by rw [hw1]; exact bl_alloc w _)
  obtain ⟨sb, hsb⟩ : ∃ sb, w.heap.size = sb := ⟨_, rfl⟩
  rw [hsb] at HF1 ⊢
  clear hw1 hsb
  go_wp2_with fail
  refine (ctwo14 _ Ms.askL w1 HF1.out (HTB.out.keep HB1.out) (by decide) (by decide)).mono ?_
  rw [Ms.aw_two.1, Ms.aw_two.2]
  rintro e w2 ⟨⟨fv, rfl, hrow⟩, hb2⟩
  have HB2 := hid' (below_two HB1.out hb2)
  have hF2 : FW w2 fv [Ms.fX] := FW.of_own hrow
  obtain ⟨fo, fc, hfv⟩ := hF2.shape
  subst hfv
  have HF2 := hid' hF2
  clear hb2 hrow hF2 HF1 HB1
  unfold rqV rqC
  simp only [Ms.awR]
  have hb3 := bl_alloc w2 (.cells #[.string Ms.bGet, .string Ms.bHttp, .string Ms.bH, .string Ms.bA, .slice fo 1 fc, .string ⟨#[]⟩, .slice none 0 0] 24)
  have HA3 := hid' (rq_cells w2 #[.string Ms.bGet, .string Ms.bHttp, .string Ms.bH, .string Ms.bA, .slice fo 1 fc, .string ⟨#[]⟩, .slice none 0 0] 24)
  have HB3 := hid' (below_two HB2.out hb3)
  have HF3 := hid' (HF2.out.keep hb3)
  clear hb3 HB2 HF2
  obtain ⟨ab, hab⟩ : ∃ ab, w2.heap.size = ab := ⟨_, rfl⟩
  rw [hab] at HA3
  go_upto_region 2 with fail
  try rw [hab]
  clear hab
  generalize w2.alloc (.cells #[.string Ms.bGet, .string Ms.bHttp, .string Ms.bH, .string Ms.bA, .slice fo 1 fc, .string ⟨#[]⟩, .slice none 0 0] 24) = w3 at *
  have HF4 := hid' (fw_lit w3 Ms.lineL 3 rfl (by decide))
  have hb4 := bl_alloc w3 (.cells (fC Ms.lineL).toArray 30)
  have HB4 := hid' (below_two HB3.out hb4)
  have HA4 := hid' (HA3.out.keep hb4)
  have HF4a := hid' (HF3.out.keep hb4)
  clear hb4 HB3 HA3 HF3
  go_wp2_with fail
  change Calls _ _ _ (w3.alloc (.cells (fC Ms.lineL).toArray 30)) _
  obtain ⟨lb, hlb⟩ : ∃ lb, w3.heap.size = lb := ⟨_, rfl⟩
  rw [hlb] at HF4 ⊢
  clear hlb
  generalize w3.alloc (.cells (fC Ms.lineL).toArray 30) = w4 at *
  refine (cone14 Ms.bGet Ms.bA _ Ms.lineL w4 HF4.out (HTB.out.keep HB4.out) (by decide) (by decide) (by decide) (by decide)).mono ?_
  rw [Ms.aw_one.1, Ms.aw_one.2]
  rintro e w5 ⟨⟨gv, rfl, hrow⟩, hb5⟩
  have HB5 := hid' (below_two HB4.out hb5)
  have HA5 := hid' (HA4.out.keep hb5)
  have HF5a := hid' (HF4a.out.keep hb5)
  have hF5 : FW w5 gv [Ms.fX] := FW.of_own hrow
  obtain ⟨go, gc, hgv⟩ := hF5.shape
  subst hgv
  have HF5 := hid' hF5
  clear hb5 hrow hF5 HF4 HB4 HA4 HF4a
  unfold rqV rqC
  simp only [Ms.awR]
  have hb6 := bl_alloc w5 (.cells #[.string Ms.bGet, .string Ms.bHttp, .string Ms.bH, .string Ms.bA, .slice go 1 gc, .string ⟨#[]⟩, .slice none 0 0] 24)
  have HC6 := hid' (rq_cells w5 #[.string Ms.bGet, .string Ms.bHttp, .string Ms.bH, .string Ms.bA, .slice go 1 gc, .string ⟨#[]⟩, .slice none 0 0] 24)
  have HB6 := hid' (below_two HB5.out hb6)
  have HA6 := hid' (HA5.out.keep hb6)
  have HF6a := hid' (HF5a.out.keep hb6)
  have HF6 := hid' (HF5.out.keep hb6)
  clear hb6 HB5 HA5 HF5a HF5
  obtain ⟨bb, hbb⟩ : ∃ bb, w5.heap.size = bb := ⟨_, rfl⟩
  rw [hbb] at HC6
  go_upto_region 3 with fail
  try rw [hbb]
  clear hbb
  generalize w5.alloc (.cells #[.string Ms.bGet, .string Ms.bHttp, .string Ms.bH, .string Ms.bA, .slice go 1 gc, .string ⟨#[]⟩, .slice none 0 0] 24) = w6 at *
  go_wp2_with fail
  refine (ctwo14 (.slice none 0 0) [] w6 (.inl ⟨rfl, rfl⟩) (HTB.out.keep HB6.out) (by decide) (by simp)).mono ?_
  have hz : Ms.twoR [] = Ms.rq0 := by unfold Ms.twoR; rw [Ms.aw_none]; rfl
  rw [Ms.aw_none, hz]
  rintro e w7 ⟨⟨zv, rfl, hrow⟩, hb7⟩
  have HB7 := hid' (below_two HB6.out hb7)
  have HA7 := hid' (HA6.out.keep hb7)
  have HC7 := hid' (HC6.out.keep hb7)
  have HF7a := hid' (HF6a.out.keep hb7)
  have HF7 := hid' (HF6.out.keep hb7)
  obtain ⟨zo, zc, hzv⟩ := own_shape hrow
  subst hzv
  clear hb7 hrow HB6 HA6 HC6 HF6a HF6 hz
  unfold rqV rqC
  simp only [Ms.rq0, Ms.e0, List.length_nil]
  have hb8 := bl_alloc w7 (.cells #[.string ⟨#[]⟩, .string ⟨#[]⟩, .string ⟨#[]⟩, .string ⟨#[]⟩, .slice zo 0 zc, .string ⟨#[]⟩, .slice none 0 0] 24)
  have HB8 := hid' (below_two HB7.out hb8)
  have HA8 := hid' (HA7.out.keep hb8)
  have HC8 := hid' (HC7.out.keep hb8)
  have HF8a := hid' (HF7a.out.keep hb8)
  have HF8 := hid' (HF7.out.keep hb8)
  clear hb8 HB7 HA7 HC7 HF7a HF7
  go_upto_region 4 with fail
  generalize w7.alloc (.cells #[.string ⟨#[]⟩, .string ⟨#[]⟩, .string ⟨#[]⟩, .string ⟨#[]⟩, .slice zo 0 zc, .string ⟨#[]⟩, .slice none 0 0] 24) = w8 at *
  have a0 := HA8.out.cell 0 _ rfl
  have b0 := HC8.out.cell 0 _ rfl
  have a1 := HA8.out.cell 1 _ rfl
  have b1 := HC8.out.cell 1 _ rfl
  have a2 := HA8.out.cell 2 _ rfl
  have b2 := HC8.out.cell 2 _ rfl
  have a3 := HA8.out.cell 3 _ rfl
  have b3 := HC8.out.cell 3 _ rfl
  have a4 := HA8.out.cell 4 _ rfl
  have b4 := HC8.out.cell 4 _ rfl
  have a5 := HA8.out.cell 5 _ rfl
  have b5 := HC8.out.cell 5 _ rfl
  have a6 := HA8.out.cell 6 _ rfl
  have b6 := HC8.out.cell 6 _ rfl
  go_wp2_with fail
  refine (rsameReq14 Ms.bGet Ms.bHttp Ms.bH Ms.bA ⟨#[]⟩ (.slice fo 1 fc) (.slice go 1 gc) (.slice none 0 0) (.slice none 0 0) [Ms.fX] [] w8 HF8a.out HF8.out (.inl ⟨rfl, rfl⟩) (.inl ⟨rfl, rfl⟩) (by decide) (by decide)).mono ?_
  rintro e w9 ⟨rfl, hb9⟩
  have HB9 := hid' (below_two HB8.out hb9)
  have HA9 := hid' (HA8.out.keep hb9)
  clear a0 b0
  clear a1 b1
  clear a2 b2
  clear a3 b3
  clear a4 b4
  clear a5 b5
  clear a6 b6
  have a2 := HA9.out.cell 2 _ rfl
  have a4 := HA9.out.cell 4 _ rfl
  have eh : (Ms.bH.toList == [104]) = true := by rw [Ms.tl_tx]; rfl
  clear hb9 HB8
  go_wp2_with fail
  refine (ask14 w9).mono ?_
  rintro e w10 ⟨rfl, hw10⟩
  have HF10 : Hid (FW w10 (.slice (some ⟨w9.heap.size, 0, none⟩) 5 5) Ms.askL) := hid' (by rw [hw10]; exact fw_lit w9 Ms.askL 5 rfl (by decide))
  have HB10 := hid' (below_two HB9.out (show Below w9.heap.size w9 w10 by rw [hw10]; exact bl_alloc w9 _))
  clear hw10 a2 a4
  go_wp2_with fail
  refine (csize14 _ Ms.askL 201 Ms.aw_size w10 HF10.out (by decide)).mono ?_
  rintro e w11 ⟨rfl, hb11⟩
  have HB11 := hid' (below_two HB10.out hb11)
  clear hb11
  go_wp2
  go_ret
  exact ⟨rfl, HB11.out⟩

end Go.Proofs.YtkfekopenahmdaaDoor
