/-
  The law HpackBack: what an encoder writes, block by block, a decoder reads as the same, with limits that both are told between.
-/
import Derived.Test.YtmkkhfkfjmfdcaaHpDd
namespace Go.Proofs.Ytmkkhfkfjmfdcaa
open Go.RowKit

theorem fr_below' {S : Nat → Prop} {w w' : World} (h : Fr S w w') {W : World} (hW : Below W.heap.size W w) (hs : ∀ k, S k → W.heap.size ≤ k) : Below W.heap.size W w' := hW.trans (h.below hs hW.size)
/-- Both ends between two blocks: the same rooms, the same fields. -/
def KInv (w wr : World) (d1 d2 : Nat) (list : Int) : Prop :=
  Below w.heap.size w wr ∧ ∃ b1 v1 b2 v2 M fs, ED wr w.heap.size d1 b1 v1 M M M fs d2 b2 v2 list M M fs ∧ M ≤ 4096 ∧ Tb.size fs ≤ M
theorem head_len (a b c : Nat) (hb : b ≤ 65536) (hc : c ≤ 65536) : (Hp.head a b c).length ≤ 12 := by
  have e1 := (Pm.num_length 32 5 b (by omega)).2
  have e2 := (Pm.num_length 32 5 c (by omega)).2
  unfold Hp.head
  split
  · rw [List.length_append]; omega
  · split
    · omega
    · simp
/-- What a round does: the block, and what it leaves. -/
theorem back_plain (was now : Nat) (fs l : List (List UInt8 × List UInt8)) (hw : was ≤ 4096) (hn : now ≤ 4096) (hs : Tb.size fs ≤ was) (hl : Tb.size l ≤ 11534336) (tot : List UInt8) (fsf : List (List UInt8 × List UInt8)) (ht : Hp.head was (min was now) now ++ (Hp.many Pm.str now (Tb.shr now fs) l).1 = tot) (hf : (Hp.many Pm.str now (Tb.shr now fs) l).2 = fsf) :
    Hp.read Hp.rs now ⟨was, fs, []⟩ tot = (0, ⟨now, fsf, l⟩) ∧ tot.length ≤ 1073741824 ∧ Tb.size fsf ≤ now ∧ ∀ f ∈ l, f.1.length ≤ 134217728 ∧ f.2.length ≤ 134217728 := by
  have hb : ∀ f ∈ l, f.1.length ≤ 134217728 ∧ f.2.length ≤ 134217728 := fun f hf => by
    have := Hp.size_mem l f hf
    unfold Tb.wt at this
    omega
  have hb2 : ∀ f ∈ l, f.1.length < 268435456 ∧ f.2.length < 268435456 := fun f hf => by have := hb f hf; omega
  have h1 := Hp.read_block Hp.rs Pm.str Hp.rs_back now was now fs l (by omega) (by omega) (Nat.le_refl _) hs hb2
  have hsz := Tb.shr_size fs now
  have h2 := Hp.many_len2 now (by omega) l (Tb.shr now fs) hsz hb
  have h3 := head_len was (min was now) now (by omega) (by omega)
  have h4 := Hp.many_size Pm.str now l (Tb.shr now fs) hsz
  rw [hf] at h4 h1
  rw [ht] at h1
  refine ⟨h1, ?_, h4, hb⟩
  rw [← ht, List.length_append]
  omega

set_option maxHeartbeats 8000000 in
set_option maxRecDepth 20000 in
theorem hpackBack_true (list : Int) (v : Value) (ds : List Dd) (w : World) (hsc : DScr w v ds) (hlen : ds.length ≤ 1048576) (hds : ∀ c ∈ ds, Tb.size c.fields ≤ 11534336) :
    Calls Try.prog 3 #[.int .i64 list, v] w fun e w' => e = .returned (.bool true) ∧ Below w.heap.size w w' := by
  obtain ⟨n, hn⟩ : ∃ n, ds.length = n := ⟨_, rfl⟩
  obtain ⟨ao, cap, rfl⟩ : ∃ ao cap, v = .slice ao n cap := by
    rcases hsc with ⟨h, h0⟩ | ⟨a, cap, h, _⟩
    · exact ⟨none, 0, by rw [h, ← hn, h0]; rfl⟩
    · exact ⟨some a, cap, by rw [h, hn]⟩
  have hnb : n ≤ 1048576 := by omega
  have HSC := hid' hsc
  have HN := hid' hn
  have HDS := hid' hds
  clear hsc hn hlen hds
  by_cases hl : list < 1
  · have hd1 : decide (list < 1) = true := decide_eq_true hl
    go_enter Try.func3, Try.ntmps3
    go_wp2_with fail
    refine (newDec_no list hl _).mono ?_
    rintro e w1 ⟨rfl, hw⟩
    subst w1
    go_wp2_with fail
    refine (newEnc_any w.heap.size w (Nat.le_refl _)).mono ?_
    rintro e w2 ⟨d, rfl, b, _, hb2⟩
    have HB2 := hid' hb2
    clear hb2
    go_wp2_with fail
    refine (awake6 _).mono ?_
    rintro e w6 ⟨rfl, hb6⟩
    have HB6 := hid' (below_two HB2.out hb6)
    clear hb6
    go_wp2
    go_ret
    exact ⟨rfl, HB6.out⟩
  · have HL1 : Hid (1 ≤ list) := hid' (by omega)
    clear hl
    go_enter Try.func3, Try.ntmps3
    go_wp2_with fail
    refine (newDec_yes list HL1.out w.heap.size w (Nat.le_refl _)).mono ?_
    rintro e w1 ⟨d2, rfl, b2, hD, hb1⟩
    have HD := hid' hD
    have HB1 := hid' hb1
    clear hD hb1
    go_wp2_with fail
    refine (newEnc_any w1.heap.size w1 (Nat.le_refl _)).mono ?_
    rintro e w2 ⟨d1, rfl, b1, hE, hb2⟩
    have hw1 : w.heap.size ≤ w1.heap.size := HB1.out.size
    have HI : Hid (KInv w w2 d1 d2 list) := hid' ⟨below_two HB1.out hb2, b1, _, b2, _, 4096, [], ⟨⟨Nat.le_trans hw1 hE.ge, hE.obj, ⟨⟨Nat.le_trans hw1 hE.tab.ring.ge, hE.tab.ring.obj, hE.tab.ring.row.le hw1, hE.tab.ring.ne⟩⟩⟩, HD.out.keep hb2, fun e => by have h1 := HD.out.tab.ring.obj.lt; have h2 := hE.tab.ring.ge; omega, fun k hk => by simp [Value.ownBlock] at hk⟩, Nat.le_refl _, by decide⟩
    clear hE hb2 hw1 HD HB1
    go_wp2
    go_loopw [8] (fun s8 wr => ∃ i : Nat, s8 = .int .i64 (i : Int) ∧ i ≤ n ∧ Hid (KInv w wr d1 d2 list)) (fun s8 _ => n - (intOf s8).toNat)
    case atStart => exact ⟨0, rfl, Nat.zero_le _, HI⟩
    case round =>
      clear HI
      obtain ⟨i, rfl, hin, hinv⟩ := hrel
      obtain ⟨hbw, b1', v1, b2', v2, M, fs, hED, hM, hfs⟩ := Hid.out hinv
      clear hinv
      have HBW := hid' hbw
      have HED := hid' hED
      have HM := hid' hM
      have HFS := hid' hfs
      clear hbw hED hM hfs
      by_cases hlt : i < n
      · have hlt2 : decide ((i : Int) < (n : Int)) = true := decide_eq_true (by omega)
        have hlt3 : decide (i < n) = true := decide_eq_true hlt
        have hltI : (i : Int) < (n : Int) := by omega
        have hil : i < ds.length := by have := HN.out; omega
        obtain ⟨c, hc⟩ : ∃ c, ds[i]? = some c := ⟨_, List.getElem?_eq_getElem hil⟩
        have hsz : Tb.size c.fields ≤ 11534336 := HDS.out c (List.mem_of_getElem? hc)
        obtain ⟨set, lim, fv, l⟩ := c
        simp only at hsz
        obtain ⟨a, hao, hcell⟩ : ∃ a, ao = some a ∧ ((a.add (i * 4)).block < w.heap.size ∧ w.cell? (a.add (i * 4)) = some (.bool set) ∧ w.cell? ⟨(a.add (i * 4)).block, (a.add (i * 4)).off + 1, none⟩ = some (.int .i64 lim) ∧ w.cell? ⟨(a.add (i * 4)).block, (a.add (i * 4)).off + 3, none⟩ = some fv ∧ FS w fv l) := by
          rcases HSC.out with ⟨h, h0⟩ | ⟨a, cap', h, hcc⟩
          · rw [h0] at hil; simp at hil
          · injection h with h1 _ _
            exact ⟨a, h1, hcc i _ hc⟩
        subst hao
        obtain ⟨hblk, k0, k1, k3, hFS⟩ := hcell
        obtain ⟨aof, capf, rfl⟩ := hFS.shape
        have HSZ := hid' hsz
        have HFSC := hid' hFS
        have HLT := hid' hlt
        have HCL : Hid (∀ W, Below w.heap.size w W → W.cell? (a.add (i * 4)) = some (.bool set) ∧ W.cell? ⟨(a.add (i * 4)).block, (a.add (i * 4)).off + 1, none⟩ = some (.int .i64 lim) ∧ W.cell? ⟨(a.add (i * 4)).block, (a.add (i * 4)).off + 3, none⟩ = some (.slice aof l.length capf)) := hid' fun W hW => ⟨(hW.cell hblk).trans k0, (hW.cell (p := ⟨(a.add (i * 4)).block, (a.add (i * 4)).off + 1, none⟩) hblk).trans k1, (hW.cell (p := ⟨(a.add (i * 4)).block, (a.add (i * 4)).off + 3, none⟩) hblk).trans k3⟩
        clear hil hc hsz hblk k0 k1 k3 hFS hlt
        obtain ⟨nl, hnl⟩ : ∃ nl, l.length = nl := ⟨_, rfl⟩
        have HNL := hid' hnl
        have hnlb : nl ≤ 1048576 := by rw [← hnl]; have := Tb.size_len l; have := HSZ.out; omega
        rw [hnl] at HCL
        clear hnl
        obtain ⟨Q, hQ⟩ : ∃ Q, Tb.size l = Q := ⟨_, rfl⟩
        have hQb : Q ≤ 11534336 := by rw [← hQ]; exact HSZ.out
        have HQ := hid' hQ
        have HQB := hid' hQb
        clear hQ hQb
        obtain ⟨c0, c1, c3⟩ := HCL.out wr HBW.out
        have HBWR := HBW
        by_cases hset : set = false
        · subst hset
          obtain ⟨tot, htot⟩ : ∃ tot, Hp.head M (min M M) M ++ (Hp.many Pm.str M (Tb.shr M fs) l).1 = tot := ⟨_, rfl⟩
          obtain ⟨fsf, hfsf⟩ : ∃ fsf, (Hp.many Pm.str M (Tb.shr M fs) l).2 = fsf := ⟨_, rfl⟩
          obtain ⟨hread, htl, hsf, hbf⟩ := back_plain M M fs l HM.out HM.out HFS.out HSZ.out tot fsf htot hfsf
          have HTOT := hid' htot
          have HFSF := hid' hfsf
          have HREAD := hid' hread
          have HTL := hid' htl
          have HSF := hid' hsf
          have HBF := hid' hbf
          clear htot hfsf hread htl hsf hbf
          go_wp2_with fail
          rw [← HNL.out]
          refine (lent_any aof capf l _ (HFSC.out.below HBWR.out (Nat.le_refl _)) (by have := HNL.out; omega)).mono ?_
          rintro e wa ⟨g, cp, rfl, hsl, hbl⟩
          rw [HNL.out]
          have HEDa := hid' (HED.out.keep hbl)
          have HSLa := hid' hsl
          have HBWa := hid' (below_two HBWR.out hbl)
          have HVa : Hid (∀ q, (Value.slice (some ⟨g, 0, none⟩) l.length cp).ownBlock = some q → v1.ownBlock ≠ some q) := hid' fun q hq e => by
            have h1 := (hsl.lt q hq).1
            have h2 := (HED.out.enc.tab.ring.row.lt q e).2
            omega
          clear hsl hbl c0 c1 c3
          go_wp2_with fail
          rw [← HNL.out]
          refine (write_any w.heap.size d1 b1' v1 M M M fs wa HEDa.out.enc (by have := HM.out; omega) (by have := HM.out; omega) HFS.out HBWa.out.size _ (some ⟨g, 0, none⟩) cp l HSLa.out HVa.out HBF.out (by have := HSZ.out; omega) tot fsf (by rw [← HTOT.out, Nat.min_self, Tb.shr_all fs M HFS.out]) (by rw [← HFSF.out, Tb.shr_all fs M HFS.out])).mono ?_
          rw [HNL.out]
          rintro e wb ⟨rfl, v1b, hEb, hvb, hFb⟩
          have HEDb := hid' (HEDa.out.ofEnc hEb hFb hvb)
          have HBWb := hid' (fr_below' hFb HBWa.out (fun q hq => by
                      rcases hq with e | e | e
                      · rw [e]; exact HEDa.out.enc.ge
                      · rw [e]; exact HEDa.out.enc.tab.ring.ge
                      · exact (HEDa.out.enc.tab.ring.row.lt q e).1))
          clear hEb hvb hFb HSLa HVa HEDa
          go_wp2_with fail
          refine (read_any w.heap.size d2 b2' v2 list M M fs tot _ HEDb.out.dec HTL.out (by have := HM.out; omega) (by have := HM.out; omega) HFS.out HBWb.out.size 0 ⟨M, fsf, l⟩ HREAD.out).mono ?_
          rintro e wc ⟨hPc, hFc⟩
          have HBWc := hid' (fr_below' hFc HBWb.out (fun q hq => by
                      rcases hq with e | e | e
                      · rw [e]; exact HEDb.out.dec.ge
                      · rw [e]; exact HEDb.out.dec.tab.ring.ge
                      · exact (HEDb.out.dec.tab.ring.row.lt q e).1))
          obtain ⟨S, hS⟩ : ∃ S, Tb.size fsf = S := ⟨_, rfl⟩
          have hSb : S ≤ 4096 := by rw [← hS]; exact Nat.le_trans HSF.out HM.out
          have q1 : ((S : Int) == (S : Int)) = true := beq_self_eq_true _
          have q2 : decide (4096 < (S : Int)) = false := decide_eq_false (by omega)
          have q3 : decide (4096 < S) = false := decide_eq_false (by omega)
          have HSS := hid' hS
          clear hS
          rcases hPc.out with ⟨hne, _⟩ | ⟨_, v2c, hDc, hvc, ⟨hbig, rfl⟩ | ⟨hsm, gv, rfl, hslc, hgvc⟩⟩
          · exact absurd rfl hne
          · simp only at hbig
            rw [HQ.out] at hbig
            have q4 : decide (list < (Q : Int)) = true := decide_eq_true hbig
            have HEDc := hid' (HEDb.out.ofDec hDc hFc hvc)
            clear hPc hFc hDc hvc hbig
            go_wp2_with fail
            refine (esizeE_at w.heap.size d1 b1' v1b _ _ _ fsf S HSS.out _ HEDc.out.enc).mono ?_
            rintro e wx ⟨rfl, hw⟩
            subst wx
            go_wp2_with fail
            refine (dsize_at w.heap.size d2 b2' v2c list _ _ fsf S HSS.out _ HEDc.out.dec).mono ?_
            rintro e wx ⟨rfl, hw⟩
            subst wx
            go_wp2_with fail
            refine (esizeE_at w.heap.size d1 b1' v1b _ _ _ fsf S HSS.out _ HEDc.out.enc).mono ?_
            rintro e wx ⟨rfl, hw⟩
            subst wx
            obtain ⟨z0, z1, z3⟩ := HCL.out wc HBWc.out
            go_wp2_with fail
            rw [← HNL.out]
            refine (wsumF_any aof capf l _ (HFSC.out.below HBWc.out (Nat.le_refl _)) Q HQ.out (by have := HQB.out; omega)).mono ?_
            rw [HNL.out]
            rintro e wd ⟨rfl, hbd⟩
            have HId : Hid (KInv w wd d1 d2 list) := hid' ⟨below_two HBWc.out hbd, b1', v1b, b2', v2c, M, fsf, HEDc.out.keep hbd, HM.out, HSF.out⟩
            clear hbd z0 z1 z3
            go_wp2
            go_roundw
            case rel => exact ⟨i + 1, by simp, by have := HLT.out; omega, HId⟩
            case measure => have := HLT.out; simp [intOf]; omega
          · simp only at hsm
            rw [HQ.out] at hsm
            have q4 : decide (list < (Q : Int)) = false := decide_eq_false (by omega)
            have HEDc := hid' (HEDb.out.ofDec hDc hFc hvc)
            obtain ⟨aog, capg, rfl, _⟩ := hslc.shape
            have HSLc := hid' hslc
            clear hPc hFc hDc hvc hsm hslc hgvc
            go_wp2_with fail
            refine (esizeE_at w.heap.size d1 b1' v1b _ _ _ fsf S HSS.out _ HEDc.out.enc).mono ?_
            rintro e wx ⟨rfl, hw⟩
            subst wx
            go_wp2_with fail
            refine (dsize_at w.heap.size d2 b2' v2c list _ _ fsf S HSS.out _ HEDc.out.dec).mono ?_
            rintro e wx ⟨rfl, hw⟩
            subst wx
            go_wp2_with fail
            refine (esizeE_at w.heap.size d1 b1' v1b _ _ _ fsf S HSS.out _ HEDc.out.enc).mono ?_
            rintro e wx ⟨rfl, hw⟩
            subst wx
            obtain ⟨z0, z1, z3⟩ := HCL.out wc HBWc.out
            go_wp2_with fail
            rw [← HNL.out]
            refine (wsumF_any aof capf l _ (HFSC.out.below HBWc.out (Nat.le_refl _)) Q HQ.out (by have := HQB.out; omega)).mono ?_
            rw [HNL.out]
            rintro e wd ⟨rfl, hbd⟩
            have HBWd := hid' (below_two HBWc.out hbd)
            have HSLd := hid' (HSLc.out.keep hbd)
            have HEDd := hid' (HEDc.out.keep hbd)
            clear hbd z0 z1 z3
            obtain ⟨z0, z1, z3⟩ := HCL.out wd HBWd.out
            go_wp2_with fail
            rw [← HNL.out]
            refine (sameF_any _ aog aof capg capf l l _ HSLd.out (HFSC.out.below HBWd.out (Nat.le_refl _)) (by have := HNL.out; omega) true (decide_eq_true rfl)).mono ?_
            rw [HNL.out]
            rintro e we ⟨rfl, m, hwe⟩
            have HIe : Hid (KInv w we d1 d2 list) := hid' (by
              rw [hwe]
              exact ⟨⟨HBWd.out.os, HBWd.out.tape, HBWd.out.output, HBWd.out.size, HBWd.out.block⟩, b1', v1b, b2', v2c, M, fsf, HEDd.out.keep (below_drewN _ _), HM.out, HSF.out⟩)
            clear hwe z0 z1 z3
            go_wp2
            go_roundw
            case rel => exact ⟨i + 1, by simp, by have := HLT.out; omega, HIe⟩
            case measure => have := HLT.out; simp [intOf]; omega
        · have hset' : set = true := by cases set; exact absurd rfl hset; rfl
          subst hset'
          clear hset
          by_cases hneg : lim < 0
          · have r1 : decide (0 ≤ lim) = false := decide_eq_false (by omega)
            clear hneg
            obtain ⟨tot, htot⟩ : ∃ tot, Hp.head M (min M M) M ++ (Hp.many Pm.str M (Tb.shr M fs) l).1 = tot := ⟨_, rfl⟩
            obtain ⟨fsf, hfsf⟩ : ∃ fsf, (Hp.many Pm.str M (Tb.shr M fs) l).2 = fsf := ⟨_, rfl⟩
            obtain ⟨hread, htl, hsf, hbf⟩ := back_plain M M fs l HM.out HM.out HFS.out HSZ.out tot fsf htot hfsf
            have HTOT := hid' htot
            have HFSF := hid' hfsf
            have HREAD := hid' hread
            have HTL := hid' htl
            have HSF := hid' hsf
            have HBF := hid' hbf
            clear htot hfsf hread htl hsf hbf
            go_wp2_with fail
            rw [← HNL.out]
            refine (lent_any aof capf l _ (HFSC.out.below HBWR.out (Nat.le_refl _)) (by have := HNL.out; omega)).mono ?_
            rintro e wa ⟨g, cp, rfl, hsl, hbl⟩
            rw [HNL.out]
            have HEDa := hid' (HED.out.keep hbl)
            have HSLa := hid' hsl
            have HBWa := hid' (below_two HBWR.out hbl)
            have HVa : Hid (∀ q, (Value.slice (some ⟨g, 0, none⟩) l.length cp).ownBlock = some q → v1.ownBlock ≠ some q) := hid' fun q hq e => by
              have h1 := (hsl.lt q hq).1
              have h2 := (HED.out.enc.tab.ring.row.lt q e).2
              omega
            clear hsl hbl c0 c1 c3
            go_wp2_with fail
            rw [← HNL.out]
            refine (write_any w.heap.size d1 b1' v1 M M M fs wa HEDa.out.enc (by have := HM.out; omega) (by have := HM.out; omega) HFS.out HBWa.out.size _ (some ⟨g, 0, none⟩) cp l HSLa.out HVa.out HBF.out (by have := HSZ.out; omega) tot fsf (by rw [← HTOT.out, Nat.min_self, Tb.shr_all fs M HFS.out]) (by rw [← HFSF.out, Tb.shr_all fs M HFS.out])).mono ?_
            rw [HNL.out]
            rintro e wb ⟨rfl, v1b, hEb, hvb, hFb⟩
            have HEDb := hid' (HEDa.out.ofEnc hEb hFb hvb)
            have HBWb := hid' (fr_below' hFb HBWa.out (fun q hq => by
                        rcases hq with e | e | e
                        · rw [e]; exact HEDa.out.enc.ge
                        · rw [e]; exact HEDa.out.enc.tab.ring.ge
                        · exact (HEDa.out.enc.tab.ring.row.lt q e).1))
            clear hEb hvb hFb HSLa HVa HEDa
            go_wp2_with fail
            refine (read_any w.heap.size d2 b2' v2 list M M fs tot _ HEDb.out.dec HTL.out (by have := HM.out; omega) (by have := HM.out; omega) HFS.out HBWb.out.size 0 ⟨M, fsf, l⟩ HREAD.out).mono ?_
            rintro e wc ⟨hPc, hFc⟩
            have HBWc := hid' (fr_below' hFc HBWb.out (fun q hq => by
                        rcases hq with e | e | e
                        · rw [e]; exact HEDb.out.dec.ge
                        · rw [e]; exact HEDb.out.dec.tab.ring.ge
                        · exact (HEDb.out.dec.tab.ring.row.lt q e).1))
            obtain ⟨S, hS⟩ : ∃ S, Tb.size fsf = S := ⟨_, rfl⟩
            have hSb : S ≤ 4096 := by rw [← hS]; exact Nat.le_trans HSF.out HM.out
            have q1 : ((S : Int) == (S : Int)) = true := beq_self_eq_true _
            have q2 : decide (4096 < (S : Int)) = false := decide_eq_false (by omega)
            have q3 : decide (4096 < S) = false := decide_eq_false (by omega)
            have HSS := hid' hS
            clear hS
            rcases hPc.out with ⟨hne, _⟩ | ⟨_, v2c, hDc, hvc, ⟨hbig, rfl⟩ | ⟨hsm, gv, rfl, hslc, hgvc⟩⟩
            · exact absurd rfl hne
            · simp only at hbig
              rw [HQ.out] at hbig
              have q4 : decide (list < (Q : Int)) = true := decide_eq_true hbig
              have HEDc := hid' (HEDb.out.ofDec hDc hFc hvc)
              clear hPc hFc hDc hvc hbig
              go_wp2_with fail
              refine (esizeE_at w.heap.size d1 b1' v1b _ _ _ fsf S HSS.out _ HEDc.out.enc).mono ?_
              rintro e wx ⟨rfl, hw⟩
              subst wx
              go_wp2_with fail
              refine (dsize_at w.heap.size d2 b2' v2c list _ _ fsf S HSS.out _ HEDc.out.dec).mono ?_
              rintro e wx ⟨rfl, hw⟩
              subst wx
              go_wp2_with fail
              refine (esizeE_at w.heap.size d1 b1' v1b _ _ _ fsf S HSS.out _ HEDc.out.enc).mono ?_
              rintro e wx ⟨rfl, hw⟩
              subst wx
              obtain ⟨z0, z1, z3⟩ := HCL.out wc HBWc.out
              go_wp2_with fail
              rw [← HNL.out]
              refine (wsumF_any aof capf l _ (HFSC.out.below HBWc.out (Nat.le_refl _)) Q HQ.out (by have := HQB.out; omega)).mono ?_
              rw [HNL.out]
              rintro e wd ⟨rfl, hbd⟩
              have HId : Hid (KInv w wd d1 d2 list) := hid' ⟨below_two HBWc.out hbd, b1', v1b, b2', v2c, M, fsf, HEDc.out.keep hbd, HM.out, HSF.out⟩
              clear hbd z0 z1 z3
              go_wp2
              go_roundw
              case rel => exact ⟨i + 1, by simp, by have := HLT.out; omega, HId⟩
              case measure => have := HLT.out; simp [intOf]; omega
            · simp only at hsm
              rw [HQ.out] at hsm
              have q4 : decide (list < (Q : Int)) = false := decide_eq_false (by omega)
              have HEDc := hid' (HEDb.out.ofDec hDc hFc hvc)
              obtain ⟨aog, capg, rfl, _⟩ := hslc.shape
              have HSLc := hid' hslc
              clear hPc hFc hDc hvc hsm hslc hgvc
              go_wp2_with fail
              refine (esizeE_at w.heap.size d1 b1' v1b _ _ _ fsf S HSS.out _ HEDc.out.enc).mono ?_
              rintro e wx ⟨rfl, hw⟩
              subst wx
              go_wp2_with fail
              refine (dsize_at w.heap.size d2 b2' v2c list _ _ fsf S HSS.out _ HEDc.out.dec).mono ?_
              rintro e wx ⟨rfl, hw⟩
              subst wx
              go_wp2_with fail
              refine (esizeE_at w.heap.size d1 b1' v1b _ _ _ fsf S HSS.out _ HEDc.out.enc).mono ?_
              rintro e wx ⟨rfl, hw⟩
              subst wx
              obtain ⟨z0, z1, z3⟩ := HCL.out wc HBWc.out
              go_wp2_with fail
              rw [← HNL.out]
              refine (wsumF_any aof capf l _ (HFSC.out.below HBWc.out (Nat.le_refl _)) Q HQ.out (by have := HQB.out; omega)).mono ?_
              rw [HNL.out]
              rintro e wd ⟨rfl, hbd⟩
              have HBWd := hid' (below_two HBWc.out hbd)
              have HSLd := hid' (HSLc.out.keep hbd)
              have HEDd := hid' (HEDc.out.keep hbd)
              clear hbd z0 z1 z3
              obtain ⟨z0, z1, z3⟩ := HCL.out wd HBWd.out
              go_wp2_with fail
              rw [← HNL.out]
              refine (sameF_any _ aog aof capg capf l l _ HSLd.out (HFSC.out.below HBWd.out (Nat.le_refl _)) (by have := HNL.out; omega) true (decide_eq_true rfl)).mono ?_
              rw [HNL.out]
              rintro e we ⟨rfl, m, hwe⟩
              have HIe : Hid (KInv w we d1 d2 list) := hid' (by
                rw [hwe]
                exact ⟨⟨HBWd.out.os, HBWd.out.tape, HBWd.out.output, HBWd.out.size, HBWd.out.block⟩, b1', v1b, b2', v2c, M, fsf, HEDd.out.keep (below_drewN _ _), HM.out, HSF.out⟩)
              clear hwe z0 z1 z3
              go_wp2
              go_roundw
              case rel => exact ⟨i + 1, by simp, by have := HLT.out; omega, HIe⟩
              case measure => have := HLT.out; simp [intOf]; omega
          · by_cases hbig : 4096 < lim
            · have r1 : decide (0 ≤ lim) = true := decide_eq_true (by omega)
              have r2 : decide (lim ≤ 4096) = false := decide_eq_false (by omega)
              clear hneg hbig
              obtain ⟨tot, htot⟩ : ∃ tot, Hp.head M (min M M) M ++ (Hp.many Pm.str M (Tb.shr M fs) l).1 = tot := ⟨_, rfl⟩
              obtain ⟨fsf, hfsf⟩ : ∃ fsf, (Hp.many Pm.str M (Tb.shr M fs) l).2 = fsf := ⟨_, rfl⟩
              obtain ⟨hread, htl, hsf, hbf⟩ := back_plain M M fs l HM.out HM.out HFS.out HSZ.out tot fsf htot hfsf
              have HTOT := hid' htot
              have HFSF := hid' hfsf
              have HREAD := hid' hread
              have HTL := hid' htl
              have HSF := hid' hsf
              have HBF := hid' hbf
              clear htot hfsf hread htl hsf hbf
              go_wp2_with fail
              rw [← HNL.out]
              refine (lent_any aof capf l _ (HFSC.out.below HBWR.out (Nat.le_refl _)) (by have := HNL.out; omega)).mono ?_
              rintro e wa ⟨g, cp, rfl, hsl, hbl⟩
              rw [HNL.out]
              have HEDa := hid' (HED.out.keep hbl)
              have HSLa := hid' hsl
              have HBWa := hid' (below_two HBWR.out hbl)
              have HVa : Hid (∀ q, (Value.slice (some ⟨g, 0, none⟩) l.length cp).ownBlock = some q → v1.ownBlock ≠ some q) := hid' fun q hq e => by
                have h1 := (hsl.lt q hq).1
                have h2 := (HED.out.enc.tab.ring.row.lt q e).2
                omega
              clear hsl hbl c0 c1 c3
              go_wp2_with fail
              rw [← HNL.out]
              refine (write_any w.heap.size d1 b1' v1 M M M fs wa HEDa.out.enc (by have := HM.out; omega) (by have := HM.out; omega) HFS.out HBWa.out.size _ (some ⟨g, 0, none⟩) cp l HSLa.out HVa.out HBF.out (by have := HSZ.out; omega) tot fsf (by rw [← HTOT.out, Nat.min_self, Tb.shr_all fs M HFS.out]) (by rw [← HFSF.out, Tb.shr_all fs M HFS.out])).mono ?_
              rw [HNL.out]
              rintro e wb ⟨rfl, v1b, hEb, hvb, hFb⟩
              have HEDb := hid' (HEDa.out.ofEnc hEb hFb hvb)
              have HBWb := hid' (fr_below' hFb HBWa.out (fun q hq => by
                          rcases hq with e | e | e
                          · rw [e]; exact HEDa.out.enc.ge
                          · rw [e]; exact HEDa.out.enc.tab.ring.ge
                          · exact (HEDa.out.enc.tab.ring.row.lt q e).1))
              clear hEb hvb hFb HSLa HVa HEDa
              go_wp2_with fail
              refine (read_any w.heap.size d2 b2' v2 list M M fs tot _ HEDb.out.dec HTL.out (by have := HM.out; omega) (by have := HM.out; omega) HFS.out HBWb.out.size 0 ⟨M, fsf, l⟩ HREAD.out).mono ?_
              rintro e wc ⟨hPc, hFc⟩
              have HBWc := hid' (fr_below' hFc HBWb.out (fun q hq => by
                          rcases hq with e | e | e
                          · rw [e]; exact HEDb.out.dec.ge
                          · rw [e]; exact HEDb.out.dec.tab.ring.ge
                          · exact (HEDb.out.dec.tab.ring.row.lt q e).1))
              obtain ⟨S, hS⟩ : ∃ S, Tb.size fsf = S := ⟨_, rfl⟩
              have hSb : S ≤ 4096 := by rw [← hS]; exact Nat.le_trans HSF.out HM.out
              have q1 : ((S : Int) == (S : Int)) = true := beq_self_eq_true _
              have q2 : decide (4096 < (S : Int)) = false := decide_eq_false (by omega)
              have q3 : decide (4096 < S) = false := decide_eq_false (by omega)
              have HSS := hid' hS
              clear hS
              rcases hPc.out with ⟨hne, _⟩ | ⟨_, v2c, hDc, hvc, ⟨hbig, rfl⟩ | ⟨hsm, gv, rfl, hslc, hgvc⟩⟩
              · exact absurd rfl hne
              · simp only at hbig
                rw [HQ.out] at hbig
                have q4 : decide (list < (Q : Int)) = true := decide_eq_true hbig
                have HEDc := hid' (HEDb.out.ofDec hDc hFc hvc)
                clear hPc hFc hDc hvc hbig
                go_wp2_with fail
                refine (esizeE_at w.heap.size d1 b1' v1b _ _ _ fsf S HSS.out _ HEDc.out.enc).mono ?_
                rintro e wx ⟨rfl, hw⟩
                subst wx
                go_wp2_with fail
                refine (dsize_at w.heap.size d2 b2' v2c list _ _ fsf S HSS.out _ HEDc.out.dec).mono ?_
                rintro e wx ⟨rfl, hw⟩
                subst wx
                go_wp2_with fail
                refine (esizeE_at w.heap.size d1 b1' v1b _ _ _ fsf S HSS.out _ HEDc.out.enc).mono ?_
                rintro e wx ⟨rfl, hw⟩
                subst wx
                obtain ⟨z0, z1, z3⟩ := HCL.out wc HBWc.out
                go_wp2_with fail
                rw [← HNL.out]
                refine (wsumF_any aof capf l _ (HFSC.out.below HBWc.out (Nat.le_refl _)) Q HQ.out (by have := HQB.out; omega)).mono ?_
                rw [HNL.out]
                rintro e wd ⟨rfl, hbd⟩
                have HId : Hid (KInv w wd d1 d2 list) := hid' ⟨below_two HBWc.out hbd, b1', v1b, b2', v2c, M, fsf, HEDc.out.keep hbd, HM.out, HSF.out⟩
                clear hbd z0 z1 z3
                go_wp2
                go_roundw
                case rel => exact ⟨i + 1, by simp, by have := HLT.out; omega, HId⟩
                case measure => have := HLT.out; simp [intOf]; omega
              · simp only at hsm
                rw [HQ.out] at hsm
                have q4 : decide (list < (Q : Int)) = false := decide_eq_false (by omega)
                have HEDc := hid' (HEDb.out.ofDec hDc hFc hvc)
                obtain ⟨aog, capg, rfl, _⟩ := hslc.shape
                have HSLc := hid' hslc
                clear hPc hFc hDc hvc hsm hslc hgvc
                go_wp2_with fail
                refine (esizeE_at w.heap.size d1 b1' v1b _ _ _ fsf S HSS.out _ HEDc.out.enc).mono ?_
                rintro e wx ⟨rfl, hw⟩
                subst wx
                go_wp2_with fail
                refine (dsize_at w.heap.size d2 b2' v2c list _ _ fsf S HSS.out _ HEDc.out.dec).mono ?_
                rintro e wx ⟨rfl, hw⟩
                subst wx
                go_wp2_with fail
                refine (esizeE_at w.heap.size d1 b1' v1b _ _ _ fsf S HSS.out _ HEDc.out.enc).mono ?_
                rintro e wx ⟨rfl, hw⟩
                subst wx
                obtain ⟨z0, z1, z3⟩ := HCL.out wc HBWc.out
                go_wp2_with fail
                rw [← HNL.out]
                refine (wsumF_any aof capf l _ (HFSC.out.below HBWc.out (Nat.le_refl _)) Q HQ.out (by have := HQB.out; omega)).mono ?_
                rw [HNL.out]
                rintro e wd ⟨rfl, hbd⟩
                have HBWd := hid' (below_two HBWc.out hbd)
                have HSLd := hid' (HSLc.out.keep hbd)
                have HEDd := hid' (HEDc.out.keep hbd)
                clear hbd z0 z1 z3
                obtain ⟨z0, z1, z3⟩ := HCL.out wd HBWd.out
                go_wp2_with fail
                rw [← HNL.out]
                refine (sameF_any _ aog aof capg capf l l _ HSLd.out (HFSC.out.below HBWd.out (Nat.le_refl _)) (by have := HNL.out; omega) true (decide_eq_true rfl)).mono ?_
                rw [HNL.out]
                rintro e we ⟨rfl, m, hwe⟩
                have HIe : Hid (KInv w we d1 d2 list) := hid' (by
                  rw [hwe]
                  exact ⟨⟨HBWd.out.os, HBWd.out.tape, HBWd.out.output, HBWd.out.size, HBWd.out.block⟩, b1', v1b, b2', v2c, M, fsf, HEDd.out.keep (below_drewN _ _), HM.out, HSF.out⟩)
                clear hwe z0 z1 z3
                go_wp2
                go_roundw
                case rel => exact ⟨i + 1, by simp, by have := HLT.out; omega, HIe⟩
                case measure => have := HLT.out; simp [intOf]; omega
            · obtain ⟨N, rfl⟩ : ∃ N : Nat, lim = (N : Int) := ⟨lim.toNat, by omega⟩
              have hN : N ≤ 4096 := by omega
              have r1 : decide ((0 : Int) ≤ (N : Int)) = true := decide_eq_true (by omega)
              have r2 : decide ((N : Int) ≤ 4096) = true := decide_eq_true (by omega)
              have r3 : decide (N ≤ 4096) = true := decide_eq_true hN
              have HNN := hid' hN
              clear hneg hbig hN
              go_wp2_with fail
              refine (limE_yes w.heap.size d1 b1' v1 M M M fs N (by have := HNN.out; omega) _ HED.out.enc (by have := HFS.out; have := HM.out; omega) N (min M N) (by have := HNN.out; omega) rfl).mono ?_
              rintro e w5 ⟨rfl, v5, hE5, hv5, hF5⟩
              have HED5 := hid' (HED.out.ofEnc hE5 hF5 (fun k hk => .inl (hv5 k hk)))
              have HBW5 := hid' (fr_below' hF5 HBWR.out (fun q hq => by
            rcases hq with e | e | e
            · rw [e]; exact HED.out.enc.ge
            · rw [e]; exact HED.out.enc.tab.ring.ge
            · exact (HED.out.enc.tab.ring.row.lt q e).1))
              clear hE5 hv5 hF5 c0 c1 c3
              obtain ⟨c0, c1, c3⟩ := HCL.out w5 HBW5.out
              go_wp2_with fail
              refine (limD_yes w.heap.size d2 b2' v2 list M M fs N (by have := HNN.out; omega) _ HED5.out.dec).mono ?_
              rintro e w6 ⟨rfl, hD6, hF6⟩
              have hF6' : Fr (RSet d2 b2' v2) w5 w6 := hF6.mono (fun k hk => .inl hk)
              have HED6 := hid' (HED5.out.ofDec hD6 hF6' (fun k hk => .inl hk))
              have HBW6 := hid' (fr_below' hF6' HBW5.out (fun q hq => by
            rcases hq with e | e | e
            · rw [e]; exact HED5.out.dec.ge
            · rw [e]; exact HED5.out.dec.tab.ring.ge
            · exact (HED5.out.dec.tab.ring.row.lt q e).1))
              clear hD6 hF6 hF6' c0 c1 c3
              obtain ⟨c0, c1, c3⟩ := HCL.out w6 HBW6.out
              obtain ⟨tot, htot⟩ : ∃ tot, Hp.head M (min M N) N ++ (Hp.many Pm.str N (Tb.shr N fs) l).1 = tot := ⟨_, rfl⟩
              obtain ⟨fsf, hfsf⟩ : ∃ fsf, (Hp.many Pm.str N (Tb.shr N fs) l).2 = fsf := ⟨_, rfl⟩
              obtain ⟨hread, htl, hsf, hbf⟩ := back_plain M N fs l HM.out HNN.out HFS.out HSZ.out tot fsf htot hfsf
              have HTOT := hid' htot
              have HFSF := hid' hfsf
              have HREAD := hid' hread
              have HTL := hid' htl
              have HSF := hid' hsf
              have HBF := hid' hbf
              clear htot hfsf hread htl hsf hbf
              go_wp2_with fail
              rw [← HNL.out]
              refine (lent_any aof capf l _ (HFSC.out.below HBW6.out (Nat.le_refl _)) (by have := HNL.out; omega)).mono ?_
              rintro e wa ⟨g, cp, rfl, hsl, hbl⟩
              rw [HNL.out]
              have HEDa := hid' (HED6.out.keep hbl)
              have HSLa := hid' hsl
              have HBWa := hid' (below_two HBW6.out hbl)
              have HVa : Hid (∀ q, (Value.slice (some ⟨g, 0, none⟩) l.length cp).ownBlock = some q → v5.ownBlock ≠ some q) := hid' fun q hq e => by
                have h1 := (hsl.lt q hq).1
                have h2 := (HED6.out.enc.tab.ring.row.lt q e).2
                omega
              clear hsl hbl c0 c1 c3
              go_wp2_with fail
              rw [← HNL.out]
              refine (write_any w.heap.size d1 b1' v5 (min M N) M N (Tb.shr N fs) wa HEDa.out.enc (by have := HM.out; omega) (by have := HNN.out; omega) (Tb.shr_size fs N) HBWa.out.size _ (some ⟨g, 0, none⟩) cp l HSLa.out HVa.out HBF.out (by have := HSZ.out; omega) tot fsf HTOT.out HFSF.out).mono ?_
              rw [HNL.out]
              rintro e wb ⟨rfl, v1b, hEb, hvb, hFb⟩
              have HEDb := hid' (HEDa.out.ofEnc hEb hFb hvb)
              have HBWb := hid' (fr_below' hFb HBWa.out (fun q hq => by
                          rcases hq with e | e | e
                          · rw [e]; exact HEDa.out.enc.ge
                          · rw [e]; exact HEDa.out.enc.tab.ring.ge
                          · exact (HEDa.out.enc.tab.ring.row.lt q e).1))
              clear hEb hvb hFb HSLa HVa HEDa
              go_wp2_with fail
              refine (read_any w.heap.size d2 b2' v2 list N M fs tot _ HEDb.out.dec HTL.out (by have := HNN.out; omega) (by have := HM.out; omega) HFS.out HBWb.out.size 0 ⟨N, fsf, l⟩ HREAD.out).mono ?_
              rintro e wc ⟨hPc, hFc⟩
              have HBWc := hid' (fr_below' hFc HBWb.out (fun q hq => by
                          rcases hq with e | e | e
                          · rw [e]; exact HEDb.out.dec.ge
                          · rw [e]; exact HEDb.out.dec.tab.ring.ge
                          · exact (HEDb.out.dec.tab.ring.row.lt q e).1))
              obtain ⟨S, hS⟩ : ∃ S, Tb.size fsf = S := ⟨_, rfl⟩
              have hSb : S ≤ 4096 := by rw [← hS]; exact Nat.le_trans HSF.out HNN.out
              have q1 : ((S : Int) == (S : Int)) = true := beq_self_eq_true _
              have q2 : decide (4096 < (S : Int)) = false := decide_eq_false (by omega)
              have q3 : decide (4096 < S) = false := decide_eq_false (by omega)
              have HSS := hid' hS
              clear hS
              rcases hPc.out with ⟨hne, _⟩ | ⟨_, v2c, hDc, hvc, ⟨hbig, rfl⟩ | ⟨hsm, gv, rfl, hslc, hgvc⟩⟩
              · exact absurd rfl hne
              · simp only at hbig
                rw [HQ.out] at hbig
                have q4 : decide (list < (Q : Int)) = true := decide_eq_true hbig
                have HEDc := hid' (HEDb.out.ofDec hDc hFc hvc)
                clear hPc hFc hDc hvc hbig
                go_wp2_with fail
                refine (esizeE_at w.heap.size d1 b1' v1b _ _ _ fsf S HSS.out _ HEDc.out.enc).mono ?_
                rintro e wx ⟨rfl, hw⟩
                subst wx
                go_wp2_with fail
                refine (dsize_at w.heap.size d2 b2' v2c list _ _ fsf S HSS.out _ HEDc.out.dec).mono ?_
                rintro e wx ⟨rfl, hw⟩
                subst wx
                go_wp2_with fail
                refine (esizeE_at w.heap.size d1 b1' v1b _ _ _ fsf S HSS.out _ HEDc.out.enc).mono ?_
                rintro e wx ⟨rfl, hw⟩
                subst wx
                obtain ⟨z0, z1, z3⟩ := HCL.out wc HBWc.out
                go_wp2_with fail
                rw [← HNL.out]
                refine (wsumF_any aof capf l _ (HFSC.out.below HBWc.out (Nat.le_refl _)) Q HQ.out (by have := HQB.out; omega)).mono ?_
                rw [HNL.out]
                rintro e wd ⟨rfl, hbd⟩
                have HId : Hid (KInv w wd d1 d2 list) := hid' ⟨below_two HBWc.out hbd, b1', v1b, b2', v2c, N, fsf, HEDc.out.keep hbd, HNN.out, HSF.out⟩
                clear hbd z0 z1 z3
                go_wp2
                go_roundw
                case rel => exact ⟨i + 1, by simp, by have := HLT.out; omega, HId⟩
                case measure => have := HLT.out; simp [intOf]; omega
              · simp only at hsm
                rw [HQ.out] at hsm
                have q4 : decide (list < (Q : Int)) = false := decide_eq_false (by omega)
                have HEDc := hid' (HEDb.out.ofDec hDc hFc hvc)
                obtain ⟨aog, capg, rfl, _⟩ := hslc.shape
                have HSLc := hid' hslc
                clear hPc hFc hDc hvc hsm hslc hgvc
                go_wp2_with fail
                refine (esizeE_at w.heap.size d1 b1' v1b _ _ _ fsf S HSS.out _ HEDc.out.enc).mono ?_
                rintro e wx ⟨rfl, hw⟩
                subst wx
                go_wp2_with fail
                refine (dsize_at w.heap.size d2 b2' v2c list _ _ fsf S HSS.out _ HEDc.out.dec).mono ?_
                rintro e wx ⟨rfl, hw⟩
                subst wx
                go_wp2_with fail
                refine (esizeE_at w.heap.size d1 b1' v1b _ _ _ fsf S HSS.out _ HEDc.out.enc).mono ?_
                rintro e wx ⟨rfl, hw⟩
                subst wx
                obtain ⟨z0, z1, z3⟩ := HCL.out wc HBWc.out
                go_wp2_with fail
                rw [← HNL.out]
                refine (wsumF_any aof capf l _ (HFSC.out.below HBWc.out (Nat.le_refl _)) Q HQ.out (by have := HQB.out; omega)).mono ?_
                rw [HNL.out]
                rintro e wd ⟨rfl, hbd⟩
                have HBWd := hid' (below_two HBWc.out hbd)
                have HSLd := hid' (HSLc.out.keep hbd)
                have HEDd := hid' (HEDc.out.keep hbd)
                clear hbd z0 z1 z3
                obtain ⟨z0, z1, z3⟩ := HCL.out wd HBWd.out
                go_wp2_with fail
                rw [← HNL.out]
                refine (sameF_any _ aog aof capg capf l l _ HSLd.out (HFSC.out.below HBWd.out (Nat.le_refl _)) (by have := HNL.out; omega) true (decide_eq_true rfl)).mono ?_
                rw [HNL.out]
                rintro e we ⟨rfl, m, hwe⟩
                have HIe : Hid (KInv w we d1 d2 list) := hid' (by
                  rw [hwe]
                  exact ⟨⟨HBWd.out.os, HBWd.out.tape, HBWd.out.output, HBWd.out.size, HBWd.out.block⟩, b1', v1b, b2', v2c, N, fsf, HEDd.out.keep (below_drewN _ _), HNN.out, HSF.out⟩)
                clear hwe z0 z1 z3
                go_wp2
                go_roundw
                case rel => exact ⟨i + 1, by simp, by have := HLT.out; omega, HIe⟩
                case measure => have := HLT.out; simp [intOf]; omega
      · have hlt2 : decide ((i : Int) < (n : Int)) = false := decide_eq_false (by omega)
        have hlt3 : decide (i < n) = false := decide_eq_false hlt
        clear hlt
        go_wp2_with fail
        refine (awake6 _).mono ?_
        rintro e w6 ⟨rfl, hb6⟩
        have HB6 := hid' (below_two HBW.out hb6)
        clear hb6
        go_wp2
        go_ret
        exact ⟨rfl, HB6.out⟩

end Go.Proofs.Ytmkkhfkfjmfdcaa
