/-
  The law HpackBounds: whatever blocks come, a decoder's table stays within its room, a list within its limit, and once a block is refused all others are, alike.
-/
import Derived.Test.YtmkkhfkfjmfdcaaHpWt
import Derived.Test.YtmkkhfkfjmfdcaaHpSc
namespace Go.Proofs.Ytmkkhfkfjmfdcaa
open Go.RowKit

/-- The decoder between two blocks: as it is, or refused. -/
def BInv (w wr : World) (d : Nat) (list : Int) (s7 : Value) : Prop :=
  Below w.heap.size w wr ∧ w.heap.size ≤ d ∧
  ((∃ b v M fs, CD wr w.heap.size d b v list 4096 M fs ∧ M ≤ 4096 ∧ Tb.size fs ≤ M ∧ s7 = .int .i64 0) ∨
   (∃ er left, CX wr d list 4096 er left ∧ 0 < er ∧ er ≤ 60 ∧ left ≤ 4096 ∧ s7 = .int .i64 (er : Int)))

set_option maxHeartbeats 4000000 in
set_option maxRecDepth 20000 in
theorem hpackBounds_true (list : Int) (v : Value) (ss : List ByteArray) (w : World) (hsc : ScrS w v ss) (hlen : ss.length ≤ 1048576) (hss : ∀ s ∈ ss, s.size ≤ 1048576) :
    Calls Try.prog 4 #[.int .i64 list, v] w fun e w' => e = .returned (.bool true) ∧ Below w.heap.size w w' := by
  obtain ⟨n, hn⟩ : ∃ n, ss.length = n := ⟨_, rfl⟩
  obtain ⟨ao, cap, rfl⟩ : ∃ ao cap, v = .slice ao n cap := by
    rcases hsc with ⟨h, h0⟩ | ⟨a, cap, h, _⟩
    · exact ⟨none, 0, by rw [h, ← hn, h0]; rfl⟩
    · exact ⟨some a, cap, by rw [h, hn]⟩
  have hnb : n ≤ 1048576 := by omega
  have HSC := hid' hsc
  have HN := hid' hn
  have HSS := hid' hss
  clear hsc hn hlen hss
  by_cases hl : list < 1
  · go_enter Try.func4, Try.ntmps4
    go_wp2_with fail
    refine (newDec_no list hl _).mono ?_
    rintro e w1 ⟨rfl, hw⟩
    subst w1
    go_wp2_with fail
    refine (awake6 _).mono ?_
    rintro e w6 ⟨rfl, hb6⟩
    have HB6 := hid' hb6
    clear hb6
    go_wp2
    go_ret
    exact ⟨rfl, HB6.out⟩
  · have hl0 : decide (list < 0) = false := decide_eq_false (by omega)
    have HL1 : Hid (1 ≤ list) := hid' (by omega)
    clear hl
    go_enter Try.func4, Try.ntmps4
    go_wp2_with fail
    refine (newDec_yes list HL1.out w.heap.size w (Nat.le_refl _)).mono ?_
    rintro e w1 ⟨d, rfl, b, hD, hb1⟩
    have HI : Hid (BInv w w1 d list (.int .i64 0)) := hid' ⟨hb1, hD.ge, .inl ⟨b, _, 4096, [], hD, Nat.le_refl _, by decide, rfl⟩⟩
    clear hD hb1
    go_wp2
    go_loopw [7, 8] (fun s7 s8 wr => ∃ i : Nat, s8 = .int .i64 (i : Int) ∧ i ≤ n ∧ Hid (BInv w wr d list s7)) (fun _ s8 _ => n - (intOf s8).toNat)
    case atStart => exact ⟨0, rfl, Nat.zero_le _, HI⟩
    case round =>
      clear HI
      obtain ⟨i, rfl, hin, hinv⟩ := hrel
      obtain ⟨hbw, hd, hst⟩ := Hid.out hinv
      clear hinv
      have HBW := hid' hbw
      have HD := hid' hd
      clear hbw hd
      by_cases hlt : i < n
      · have hlt2 : decide ((i : Int) < (n : Int)) = true := decide_eq_true (by omega)
        have hlt3 : decide (i < n) = true := decide_eq_true hlt
        have hltI : (i : Int) < (n : Int) := by omega
        have hil : i < ss.length := by have := HN.out; omega
        obtain ⟨s, hs⟩ : ∃ s, ss[i]? = some s := ⟨_, List.getElem?_eq_getElem hil⟩
        have hsz : s.size ≤ 1048576 := HSS.out s (List.mem_of_getElem? hs)
        obtain ⟨bl, hbl⟩ : ∃ bl : List UInt8, s = ⟨bl.toArray⟩ := ⟨s.data.toList, by cases s; simp⟩
        obtain ⟨a, hao, hcell⟩ : ∃ a, ao = some a ∧ w.cell? (a.add i) = some (.string s) ∧ (a.add i).block < w.heap.size := by
          rcases HSC.out with ⟨h, h0⟩ | ⟨a, cap', h, hc⟩
          · rw [h0] at hil; simp at hil
          · injection h with h1 _ _
            exact ⟨a, h1, (hc i s hs).2, (hc i s hs).1⟩
        subst hao
        subst hbl
        rw [size_l] at hsz
        have HSZ := hid' hsz
        have c0 : wr.cell? (a.add i) = some (.string ⟨bl.toArray⟩) := (HBW.out.cell hcell.2).trans hcell.1
        have HLT := hid' hlt
        have hszr : w.heap.size ≤ wr.heap.size := HBW.out.size
        have HSR := hid' hszr
        clear hil hs hsz hcell hlt hszr
        rcases hst with ⟨b', v', M, fs, hC, hM, hfs, rfl⟩ | ⟨er, left, hX, hpos, hle, hleft, rfl⟩
        · obtain ⟨er, D, hrun⟩ : ∃ er D, Hp.read Hp.rs 4096 ⟨M, fs, []⟩ bl = (er, D) := ⟨_, _, rfl⟩
          have hrl := Hp.run_le 4096 4096 (by decide) (Nat.le_refl _) _ _ _ _ _ (show (Hp.D.mk M fs []).room ≤ 4096 from hM) hfs hrun
          have HC := hid' hC
          have HM := hid' hM
          have HFS := hid' hfs
          have HRUN := hid' hrun
          have HRL := hid' hrl
          clear hC hM hfs hrun hrl
          go_wp2_with fail
          refine (read_any w.heap.size d b' v' list 4096 M fs bl _ HC.out (by have := HSZ.out; omega) (by decide) (by have := HM.out; omega) HFS.out HSR.out er D HRUN.out).mono ?_
          rintro e w2 ⟨hP, hF⟩
          have HB2 : Hid (Below w.heap.size w w2) := hid' (HBW.out.trans (hF.below (by
            rintro k (e | e | e)
            · rw [e]; exact HC.out.ge
            · rw [e]; exact HC.out.tab.ring.ge
            · exact (HC.out.tab.ring.row.lt k e).1) HSR.out))
          clear c0
          rcases hP.out with ⟨hne, rfl, hX⟩ | ⟨he, v2, hC2, hv2, ⟨hbig, rfl⟩ | ⟨hsm, gv, rfl, hsl, hgv⟩⟩
          · have HX := hid' hX
            have HPOS : Hid (0 < er) := hid' (by omega)
            obtain ⟨S, hS⟩ : ∃ S, Tb.size fs = S := ⟨_, rfl⟩
            have hSb : S ≤ 4096 := by rw [← hS]; have := HFS.out; have := HM.out; omega
            rw [hS] at HX
            have g1 : ((er : Int) == 0) = false := beq_false_of_ne (by omega)
            have g2 : (er == 0) = false := beq_false_of_ne hne
            have g3 : ((er : Int) == 61) = false := beq_false_of_ne (by have := HRL.out.1; omega)
            have g4 : (er == 61) = false := beq_false_of_ne (by have := HRL.out.1; omega)
            have g6 : ((er : Int) != 61) = true := by rw [bne, g3]; rfl
            have g7 : ((er : Int) != 0) = true := by rw [bne, g1]; rfl
            have k1 : decide ((S : Int) < 0) = false := decide_eq_false (by omega)
            have k2 : decide (4096 < (S : Int)) = false := decide_eq_false (by omega)
            have k3 : decide (4096 < S) = false := decide_eq_false (by omega)
            have HSB := hid' hSb
            clear hP hF hX hne hS hSb
            go_wp2_with fail
            refine (xsize_at d list 4096 er S (by have := HPOS.out; omega) _ HX.out).mono ?_
            rintro e w3 ⟨rfl, hw⟩
            subst w3
            go_wp2_with fail
            refine (xsize_at d list 4096 er S (by have := HPOS.out; omega) _ HX.out).mono ?_
            rintro e w3 ⟨rfl, hw⟩
            subst w3
            go_wp2_with fail
            refine (wsum_any 0 none 0 [] _ (sl_nil _ _ _ _) 0 rfl (by decide)).mono ?_
            rintro e w4 ⟨rfl, hb4⟩
            have HB4 : Hid (Below w.heap.size w w4) := hid' (HB2.out.trans (hb4.mono HB2.out.size))
            have HI4 : Hid (BInv w w4 d list (.int .i64 (er : Int))) := hid' ⟨HB4.out, HD.out, .inr ⟨er, S, Ar.keep HX.out hb4, HPOS.out, HRL.out.1, HSB.out, rfl⟩⟩
            clear hb4
            go_wp2
            go_roundw
            case rel => exact ⟨i + 1, by simp, by have := HLT.out; omega, HI4⟩
            case measure => have := HLT.out; simp [intOf]; omega
          · subst he
            obtain ⟨S, hS⟩ : ∃ S, Tb.size D.fs = S := ⟨_, rfl⟩
            have hSb : S ≤ 4096 := by rw [← hS]; have := HRL.out.2; omega
            have HSD := hid' hS
            have HC2 := hid' hC2
            have k1 : decide ((S : Int) < 0) = false := decide_eq_false (by omega)
            have k2 : decide (4096 < (S : Int)) = false := decide_eq_false (by omega)
            have k3 : decide (4096 < S) = false := decide_eq_false (by omega)
            clear hP hF hC2 hv2 hbig hS hSb
            go_wp2_with fail
            refine (dsize_at w.heap.size d b' v2 list 4096 D.room D.fs S HSD.out _ HC2.out).mono ?_
            rintro e w3 ⟨rfl, hw⟩
            subst w3
            go_wp2_with fail
            refine (dsize_at w.heap.size d b' v2 list 4096 D.room D.fs S HSD.out _ HC2.out).mono ?_
            rintro e w3 ⟨rfl, hw⟩
            subst w3
            go_wp2_with fail
            refine (wsum_any 0 none 0 [] _ (sl_nil _ _ _ _) 0 rfl (by decide)).mono ?_
            rintro e w4 ⟨rfl, hb4⟩
            have HB4 : Hid (Below w.heap.size w w4) := hid' (HB2.out.trans (hb4.mono HB2.out.size))
            have HI4 : Hid (BInv w w4 d list (.int .i64 0)) := hid' ⟨HB4.out, HD.out, .inl ⟨b', v2, D.room, D.fs, HC2.out.keep hb4, HRL.out.2.1, HRL.out.2.2, rfl⟩⟩
            clear hb4
            go_wp2
            go_roundw
            case rel => exact ⟨i + 1, by simp, by have := HLT.out; omega, HI4⟩
            case measure => have := HLT.out; simp [intOf]; omega
          · subst he
            obtain ⟨S, hS⟩ : ∃ S, Tb.size D.fs = S := ⟨_, rfl⟩
            have hSb : S ≤ 4096 := by rw [← hS]; have := HRL.out.2; omega
            have HSD := hid' hS
            have HC2 := hid' hC2
            have k1 : decide ((S : Int) < 0) = false := decide_eq_false (by omega)
            have k2 : decide (4096 < (S : Int)) = false := decide_eq_false (by omega)
            have k3 : decide (4096 < S) = false := decide_eq_false (by omega)
            obtain ⟨ao2, cap2, rfl, _⟩ := hsl.shape
            obtain ⟨Q, hQ⟩ : ∃ Q, Tb.size D.out = Q := ⟨_, rfl⟩
            have hQb : Q ≤ 35184372088832 := by
              rw [← hQ]
              exact Hp.read_out _ _ _ _ _ HRUN.out (by decide) (by have := HM.out; omega) HFS.out (by have := HSZ.out; omega)
            rw [hQ] at hsm
            have k4 : decide (list < (Q : Int)) = false := decide_eq_false (by omega)
            have HQ := hid' hQ
            have HQB := hid' hQb
            have HSL := hid' hsl
            clear hP hF hC2 hv2 hsm hS hSb hsl hgv hQ hQb
            go_wp2_with fail
            refine (dsize_at w.heap.size d b' v2 list 4096 D.room D.fs S HSD.out _ HC2.out).mono ?_
            rintro e w3 ⟨rfl, hw⟩
            subst w3
            go_wp2_with fail
            refine (dsize_at w.heap.size d b' v2 list 4096 D.room D.fs S HSD.out _ HC2.out).mono ?_
            rintro e w3 ⟨rfl, hw⟩
            subst w3
            go_wp2_with fail
            refine (wsum_any _ ao2 cap2 D.out _ HSL.out Q HQ.out HQB.out).mono ?_
            rintro e w4 ⟨rfl, hb4⟩
            have HB4 : Hid (Below w.heap.size w w4) := hid' (HB2.out.trans (hb4.mono HB2.out.size))
            have HI4 : Hid (BInv w w4 d list (.int .i64 0)) := hid' ⟨HB4.out, HD.out, .inl ⟨b', v2, D.room, D.fs, HC2.out.keep hb4, HRL.out.2.1, HRL.out.2.2, rfl⟩⟩
            clear hb4
            go_wp2
            go_roundw
            case rel => exact ⟨i + 1, by simp, by have := HLT.out; omega, HI4⟩
            case measure => have := HLT.out; simp [intOf]; omega
        · have HX0 := hid' hX
          have HPOS := hid' hpos
          have HLE := hid' hle
          have HLEFT := hid' hleft
          have g1 : ((er : Int) == 0) = false := beq_false_of_ne (by omega)
          have g2 : (er == 0) = false := beq_false_of_ne (by omega)
          have g3 : ((er : Int) == 61) = false := beq_false_of_ne (by omega)
          have g4 : (er == 61) = false := beq_false_of_ne (by omega)
          have g6 : ((er : Int) != 61) = true := by rw [bne, g3]; rfl
          have g7 : ((er : Int) != 0) = true := by rw [bne, g1]; rfl
          have g5 : ((er : Int) == (er : Int)) = true := beq_self_eq_true _
          have k1 : decide ((left : Int) < 0) = false := decide_eq_false (by omega)
          have k2 : decide (4096 < (left : Int)) = false := decide_eq_false (by omega)
          have k3 : decide (4096 < left) = false := decide_eq_false (by omega)
          clear hX hpos hle hleft
          go_wp2_with fail
          refine (readX_any d list 4096 er left (by have := HPOS.out; omega) _ _ HX0.out).mono ?_
          rintro e w2 ⟨rfl, m2, hw2⟩
          have HX : Hid (CX w2 d list 4096 er left) := hid' (by rw [hw2]; exact HX0.out)
          have HB2 : Hid (Below w.heap.size w w2) := hid' (by rw [hw2]; exact ⟨HBW.out.os, HBW.out.tape, HBW.out.output, HBW.out.size, HBW.out.block⟩)
          clear hw2 c0 HX0
          go_wp2_with fail
          refine (xsize_at d list 4096 er left (by have := HPOS.out; omega) _ HX.out).mono ?_
          rintro e w3 ⟨rfl, hw⟩
          subst w3
          go_wp2_with fail
          refine (xsize_at d list 4096 er left (by have := HPOS.out; omega) _ HX.out).mono ?_
          rintro e w3 ⟨rfl, hw⟩
          subst w3
          go_wp2_with fail
          refine (wsum_any 0 none 0 [] _ (sl_nil _ _ _ _) 0 rfl (by decide)).mono ?_
          rintro e w4 ⟨rfl, hb4⟩
          have HB4 : Hid (Below w.heap.size w w4) := hid' (HB2.out.trans (hb4.mono HB2.out.size))
          have HI4 : Hid (BInv w w4 d list (.int .i64 (er : Int))) := hid' ⟨HB4.out, HD.out, .inr ⟨er, left, Ar.keep HX.out hb4, HPOS.out, HLE.out, HLEFT.out, rfl⟩⟩
          clear hb4
          go_wp2
          go_roundw
          case rel => exact ⟨i + 1, by simp, by have := HLT.out; omega, HI4⟩
          case measure => have := HLT.out; simp [intOf]; omega
      · have hlt2 : decide ((i : Int) < (n : Int)) = false := decide_eq_false (by omega)
        have hlt3 : decide (i < n) = false := decide_eq_false hlt
        clear hlt hst
        go_wp2_with fail
        refine (awake6 _).mono ?_
        rintro e w6 ⟨rfl, hb6⟩
        have HB6 := hid' (HBW.out.trans (hb6.mono HBW.out.size))
        clear hb6
        go_wp2
        go_ret
        exact ⟨rfl, HB6.out⟩

end Go.Proofs.Ytmkkhfkfjmfdcaa
