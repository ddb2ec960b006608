/-
  The law HpackWrites: whatever fields are written, the blocks are the document's, with limits set between; what is handed in stays.
-/
import Derived.Test.YtmkkhfkfjmfdcaaGreatHpRw
import Derived.Test.YtmkkhfkfjmfdcaaGreatHpU
import Derived.Test.YtmkkhfkfjmfdcaaGreatHpOK
namespace Go.Proofs.YtmkkhfkfjmfdcaaGreat
open Go.RowKit

theorem fr_below' {S : Nat → Prop} {w w' : World} (h : Fr S w w') {W : World} (hW : Below W.heap.size W w) (hs : ∀ k, S k → W.heap.size ≤ k) : Below W.heap.size W w' := hW.trans (h.below hs hW.size)
/-- The code's encoder and the document's beside each other. -/
structure EE (w : World) (B d1 b1 : Nat) (v1 : Value) (d2 b2 : Nat) (v2 : Value) (least told M : Nat) (fs : List (List UInt8 × List UInt8)) : Prop where
  enc : CE w B d1 b1 v1 least told M fs
  ref : RE w B d2 b2 v2 told least M fs
  vv : ∀ k, v1.ownBlock = some k → v2.ownBlock ≠ some k
section
variable {w w' : World} {B d1 b1 : Nat} {v1 v1' : Value} {d2 b2 : Nat} {v2 v2' : Value} {least told M least' told' M' : Nat} {fs fs' : List (List UInt8 × List UInt8)}
theorem EE.keep (h : EE w B d1 b1 v1 d2 b2 v2 least told M fs) (hb : Below w.heap.size w w') : EE w' B d1 b1 v1 d2 b2 v2 least told M fs := ⟨h.enc.keep hb, h.ref.keep hb, h.vv⟩
theorem EE.refFr (h : EE w B d1 b1 v1 d2 b2 v2 least told M fs) (hf : Fr (RSet d1 b1 v1) w w') : RE w' B d2 b2 v2 told least M fs :=
  h.ref.fr hf (by
    rintro (e | e | e)
    · exact h.ref.obj.ne h.enc.obj (by decide) e
    · exact h.ref.obj.ne h.enc.tab.ring.obj (by decide) e
    · exact h.enc.tab.ring.row.ne h.ref.obj (by decide) e) (by
    rintro (e | e | e)
    · exact h.ref.tab.obj.ne h.enc.obj (by decide) e
    · exact h.ref.tab.obj.ne h.enc.tab.ring.obj (by decide) e
    · exact h.enc.tab.ring.row.ne h.ref.tab.obj (by decide) e) (by
    intro k hk
    rintro (e | e | e)
    · exact own_ne h.ref.tab.row h.enc.obj (by decide) (by rw [hk, e])
    · exact own_ne h.ref.tab.row h.enc.tab.ring.obj (by decide) (by rw [hk, e])
    · exact h.vv k e hk)
theorem EE.encFr (h : EE w B d1 b1 v1 d2 b2 v2 least told M fs) (hf : Fr (fun k => k = d2 ∨ k = b2) w w') : CE w' B d1 b1 v1 least told M fs :=
  h.enc.fr hf (by
    rintro (e | e)
    · exact h.enc.obj.ne h.ref.obj (by decide) e
    · exact h.enc.obj.ne h.ref.tab.obj (by decide) e) (by
    rintro (e | e)
    · exact h.enc.tab.ring.obj.ne h.ref.obj (by decide) e
    · exact h.enc.tab.ring.obj.ne h.ref.tab.obj (by decide) e) (by
    intro k hk
    rintro (e | e)
    · exact h.enc.tab.ring.row.nak h.ref.obj (by decide) k hk e
    · exact h.enc.tab.ring.row.nak h.ref.tab.obj (by decide) k hk e)
end
theorem CE.frR {w w' : World} {B d1 b1 : Nat} {v1 : Value} {d2 b2 : Nat} {v2 : Value} {least told M least' told' M' : Nat} {fs fs' : List (List UInt8 × List UInt8)} (hE : CE w B d1 b1 v1 least told M fs) (hR : RE w B d2 b2 v2 told' least' M' fs') (hf : Fr (fun k => k = d2 ∨ k = b2) w w') : CE w' B d1 b1 v1 least told M fs :=
  hE.fr hf (by
    rintro (e | e)
    · exact hE.obj.ne hR.obj (by decide) e
    · exact hE.obj.ne hR.tab.obj (by decide) e) (by
    rintro (e | e)
    · exact hE.tab.ring.obj.ne hR.obj (by decide) e
    · exact hE.tab.ring.obj.ne hR.tab.obj (by decide) e) (by
    intro k hk
    rintro (e | e)
    · exact hE.tab.ring.row.nak hR.obj (by decide) k hk e
    · exact hE.tab.ring.row.nak hR.tab.obj (by decide) k hk e)
/-- Behind both blocks: both encoders, and what was lent. -/
def EX (B C : Nat) (d1 b1 d2 b2 M : Nat) (fsf l : List (List UInt8 × List UInt8)) (g cp nl : Nat) (W : World) : Prop :=
  ∃ v1 v2, EE W B d1 b1 v1 d2 b2 v2 M M M fsf ∧ Sl W C 54 2 (.slice (some ⟨g, 0, none⟩) nl cp) nl (Tb.cells l) ∧ Sl W C 54 2 (.slice (some ⟨g, 0, none⟩) (nl + 1) cp) (nl + 1) (Tb.cells l ++ [.string ⟨#[45, 109, 97, 114, 107]⟩, .string ⟨#[]⟩])
theorem EX.keep {B C : Nat} {d1 b1 d2 b2 M : Nat} {fsf l : List (List UInt8 × List UInt8)} {g cp nl : Nat} {W W' : World} (h : EX B C d1 b1 d2 b2 M fsf l g cp nl W) (hb : Below W.heap.size W W') : EX B C d1 b1 d2 b2 M fsf l g cp nl W' := by
  obtain ⟨v1, v2, h1, h2, h3⟩ := h
  exact ⟨v1, v2, h1.keep hb, h2.keep hb, h3.keep hb⟩
/-- Both between two blocks. -/
def EInv (w wr : World) (d1 d2 : Nat) : Prop :=
  Below w.heap.size w wr ∧ ∃ b1 v1 b2 v2 least told M fs, EE wr w.heap.size d1 b1 v1 d2 b2 v2 least told M fs ∧ least ≤ 65536 ∧ M ≤ 4096 ∧ Tb.size fs ≤ M

set_option maxHeartbeats 8000000 in
set_option maxRecDepth 20000 in
theorem hpackWrites_true (v : Value) (ds : List Dd) (w : World) (hsc : DScr w v ds) (hlen : ds.length ≤ 1048576) (hds : ∀ c ∈ ds, Tb.size c.fields ≤ 11534336) :
    Calls Tryz.prog 3 #[v] w fun e w' => e = .returned (.bool true) ∧ Below w.heap.size w w' := by
  obtain ⟨n, hn⟩ : ∃ n, ds.length = n := ⟨_, rfl⟩
  obtain ⟨ao, cap, rfl⟩ : ∃ ao cap, v = .slice ao n cap := by
    rcases hsc with ⟨h, h0⟩ | ⟨a, cap, h, _⟩
    · exact ⟨none, 0, by rw [h, ← hn, h0]; rfl⟩
    · exact ⟨some a, cap, by rw [h, hn]⟩
  have hnb : n ≤ 1048576 := by omega
  have HSC := hid' hsc
  have HN := hid' hn
  have HDS := hid' hds
  clear hsc hn hlen hds
  go_enter Tryz.func3, Tryz.ntmps3
  go_wp2_with fail
  refine (newEnc_any w.heap.size w (Nat.le_refl _)).mono ?_
  rintro e w1 ⟨d1, rfl, b1, hE, hb1⟩
  have HE := hid' hE
  have HB1 := hid' hb1
  clear hE hb1
  go_wp2_with fail
  refine (rnewEnc_any w.heap.size w1 HB1.out.size).mono ?_
  rintro e w2 ⟨d2, rfl, b2, hR, hb2⟩
  have HI : Hid (EInv w w2 d1 d2) := hid' ⟨below_two HB1.out hb2, b1, _, b2, _, 4096, 4096, 4096, [], ⟨HE.out.keep hb2, hR, fun k hk => by simp [Value.ownBlock] at hk⟩, by decide, Nat.le_refl _, by decide⟩
  clear hR hb2 HE HB1
  go_wp2
  go_loopw [5] (fun s5 wr => ∃ i : Nat, s5 = .int .i64 (i : Int) ∧ i ≤ n ∧ Hid (EInv w wr d1 d2)) (fun s5 _ => n - (intOf s5).toNat)
  case atStart => exact ⟨0, rfl, Nat.zero_le _, HI⟩
  case round =>
    clear HI
    obtain ⟨i, rfl, hin, hinv⟩ := hrel
    obtain ⟨hbw, b1', v1, b2', v2, least, told, M, fs, hED, hle, hM, hfs⟩ := Hid.out hinv
    clear hinv
    have HBW := hid' hbw
    have HED := hid' hED
    have HLE := hid' hle
    have HM := hid' hM
    have HFS := hid' hfs
    clear hbw hED hle hM hfs
    by_cases hlt : i < n
    · have hlt2 : decide ((i : Int) < (n : Int)) = true := decide_eq_true (by omega)
      have hlt3 : decide (i < n) = true := decide_eq_true hlt
      have hltI : (i : Int) < (n : Int) := by omega
      have hil : i < ds.length := by have := HN.out; omega
      obtain ⟨c, hc⟩ : ∃ c, ds[i]? = some c := ⟨_, List.getElem?_eq_getElem hil⟩
      have hsz : Tb.size c.fields ≤ 11534336 := HDS.out c (List.mem_of_getElem? hc)
      obtain ⟨set, lim, fv, l⟩ := c
      simp only at hsz
      obtain ⟨a, hao, hcell⟩ : ∃ a, ao = some a ∧ ((a.add (i * 4)).block < w.heap.size ∧ w.cell? (a.add (i * 4)) = some (.bool set) ∧ w.cell? ⟨(a.add (i * 4)).block, (a.add (i * 4)).off + 1, none⟩ = some (.int .i64 lim) ∧ w.cell? ⟨(a.add (i * 4)).block, (a.add (i * 4)).off + 3, none⟩ = some fv ∧ FS w fv l) := by
        rcases HSC.out with ⟨h, h0⟩ | ⟨a, cap', h, hcc⟩
        · rw [h0] at hil; simp at hil
        · injection h with h1 _ _
          exact ⟨a, h1, hcc i _ hc⟩
      subst hao
      obtain ⟨hblk, k0, k1, k3, hFS⟩ := hcell
      obtain ⟨aof, capf, rfl⟩ := hFS.shape
      have HSZ := hid' hsz
      have HFSC := hid' hFS
      have HLT := hid' hlt
      obtain ⟨nl, hnl⟩ : ∃ nl, l.length = nl := ⟨_, rfl⟩
      have HNL := hid' hnl
      have hnlb : nl ≤ 1048576 := by rw [← hnl]; have := Tb.size_len l; omega
      rw [hnl] at k3
      have HCL : Hid (∀ W, Below w.heap.size w W → W.cell? (a.add (i * 4)) = some (.bool set) ∧ W.cell? ⟨(a.add (i * 4)).block, (a.add (i * 4)).off + 1, none⟩ = some (.int .i64 lim) ∧ W.cell? ⟨(a.add (i * 4)).block, (a.add (i * 4)).off + 3, none⟩ = some (.slice aof nl capf)) := hid' fun W hW => ⟨(hW.cell hblk).trans k0, (hW.cell (p := ⟨(a.add (i * 4)).block, (a.add (i * 4)).off + 1, none⟩) hblk).trans k1, (hW.cell (p := ⟨(a.add (i * 4)).block, (a.add (i * 4)).off + 3, none⟩) hblk).trans k3⟩
      have HBF : Hid (∀ f ∈ l, f.1.length ≤ 134217728 ∧ f.2.length ≤ 134217728) := hid' fun f hf => by
        have h1 := Hp.size_mem l f hf
        have h2 := HSZ.out
        unfold Tb.wt at h1
        omega
      clear hil hc hsz hblk k0 k1 k3 hFS hlt hnl
      obtain ⟨c0, c1, c3⟩ := HCL.out wr HBW.out
      by_cases hset : set = false
      · subst hset
        go_wp2
        go_quiet ((fail))
        have HEDq := hid' (HED.out.keep (below_drewN wr nq))
        have HBWq : Hid (Below w.heap.size w (wr.drewN nq)) := hid' (below_two HBW.out (below_drewN wr nq))
        generalize wr.drewN nq = wq at *
        clear c0 c1 c3
        obtain ⟨c0, c1, c3⟩ := HCL.out wq HBWq.out
        obtain ⟨tot, htot⟩ : ∃ tot, Hp.head told least M ++ (Hp.many Pm.str M fs l).1 = tot := ⟨_, rfl⟩
        obtain ⟨fsf, hfsf⟩ : ∃ fsf, (Hp.many Pm.str M fs l).2 = fsf := ⟨_, rfl⟩
        have HTOT := hid' htot
        have HFSF := hid' hfsf
        have HSF : Hid (Tb.size fsf ≤ M) := hid' (by rw [← hfsf]; exact Hp.many_size Pm.str M l fs HFS.out)
        clear htot hfsf
        go_wp2_with fail
        rw [← HNL.out]
        refine (lent2_any aof capf l _ (HFSC.out.below HBWq.out (Nat.le_refl _)) (by have := HNL.out; omega)).mono ?_
        rintro e wa ⟨g, cp, rfl, hsl, hsl2, hcp, hbl⟩
        rw [HNL.out]
        have HEDa := hid' (HEDq.out.keep hbl)
        have HSLa := hid' hsl
        have HSLb := hid' hsl2
        have HCP := hid' hcp
        have HBWa := hid' (below_two HBWq.out hbl)
        have HGa : Hid (wq.heap.size ≤ g) := hid' (hsl2.lt g rfl).1
        have HVa : Hid (∀ q, (Value.slice (some ⟨g, 0, none⟩) l.length cp).ownBlock = some q → v1.ownBlock ≠ some q) := hid' fun q hq e => by
          have h1 := (hsl.lt q hq).1
          have h2 := (HEDq.out.enc.tab.ring.row.lt q e).2
          omega
        have HVb : Hid (∀ q, v2.ownBlock = some q → q ≠ g) := hid' fun q hq e => by
          have h1 := (hsl2.lt g rfl).1
          have h2 := own_lt' HEDq.out.ref.tab.row q hq
          omega
        clear hsl hsl2 hcp hbl c0 c1 c3
        obtain ⟨S, hS⟩ : ∃ S, Tb.size fsf = S := ⟨_, rfl⟩
        have hSb : S ≤ 65536 := by rw [← hS]; have := HSF.out; have := HM.out; omega
        have HSS := hid' hS
        have HSSB := hid' hSb
        have q1 : ((S : Int) == (S : Int)) = true := beq_self_eq_true _
        have q2 : (tot == tot) = true := beq_self_eq_true _
        clear hS hSb
        go_wp2
        obtain ⟨z0, z1, z3⟩ := HCL.out wa HBWa.out
        have hS0 : Below w.heap.size w wa ∧ wa.cell? ⟨(a.add (i * 4)).block, (a.add (i * 4)).off + 3, none⟩ = some (.slice aof nl capf) := ⟨HBWa.out, z3⟩
        have sOf : ∀ W, Below w.heap.size w W → Below w.heap.size w W ∧ W.cell? ⟨(a.add (i * 4)).block, (a.add (i * 4)).off + 3, none⟩ = some (.slice aof nl capf) := fun W hW => ⟨hW, (HCL.out W hW).2.2⟩
        have cW : Calls Tryz.prog 9 #[.pointer (some ⟨d1, 0, none⟩), .slice (some ⟨g, 0, none⟩) nl cp] wa.drew fun e w' => e = .returned (.string ⟨tot.toArray⟩) ∧ Below w.heap.size w w' ∧ Hid (∃ v1b, CE w' w.heap.size d1 b1' v1b M M M fsf ∧ RE w' w.heap.size d2 b2' v2 told least M fs ∧ (∀ k, v1b.ownBlock = some k → v2.ownBlock ≠ some k) ∧ Sl w' wq.heap.size 54 2 (.slice (some ⟨g, 0, none⟩) nl cp) nl (Tb.cells l) ∧ Sl w' wq.heap.size 54 2 (.slice (some ⟨g, 0, none⟩) (nl + 1) cp) (nl + 1) (Tb.cells l ++ [.string ⟨#[45, 109, 97, 114, 107]⟩, .string ⟨#[]⟩])) := by
          have hdr : Below wa.heap.size wa wa.drew := (Below.refl _ _).drew
          have hk := HEDa.out.keep hdr
          have hw := write_any w.heap.size d1 b1' v1 least told M fs wa.drew hk.enc HLE.out (by have := HM.out; omega) HFS.out HBWa.out.size _ (some ⟨g, 0, none⟩) cp l (HSLa.out.keep hdr) HVa.out HBF.out (by have := HSZ.out; omega) tot fsf HTOT.out HFSF.out
          rw [HNL.out] at hw
          refine hw.mono ?_
          rintro e wb ⟨rfl, v1b, hEb, hvb, hFb⟩
          have hng : ∀ k, (Value.slice (some ⟨g, 0, none⟩) l.length cp).ownBlock = some k → ¬ RSet d1 b1' v1 k := by
            intro k hk2
            rintro (e | e | e)
            · exact HSLa.out.nak HEDa.out.enc.obj (by decide) k hk2 e
            · exact HSLa.out.nak HEDa.out.enc.tab.ring.obj (by decide) k hk2 e
            · exact HVa.out k hk2 e
          have h1 := hFb.sl (HSLa.out.keep hdr) hng
          have h2 := hFb.sl (HSLb.out.keep hdr) hng
          rw [HNL.out] at h1 h2
          refine ⟨rfl, fr_below' hFb (below_two HBWa.out hdr) (fun q hq => by
                    rcases hq with e | e | e
                    · rw [e]; exact HEDa.out.enc.ge
                    · rw [e]; exact HEDa.out.enc.tab.ring.ge
                    · exact (HEDa.out.enc.tab.ring.row.lt q e).1), hid' ⟨v1b, hEb, hk.refFr hFb, fun k hk2 e => ?_, h1, h2⟩⟩
          rcases hvb k hk2 with h | h
          · exact hk.vv k h e
          · have := own_lt' hk.ref.tab.row k e; omega
        have cR : ∀ W, Below w.heap.size w W → (∃ v1b, CE W w.heap.size d1 b1' v1b M M M fsf ∧ RE W w.heap.size d2 b2' v2 told least M fs ∧ (∀ k, v1b.ownBlock = some k → v2.ownBlock ≠ some k) ∧ Sl W wq.heap.size 54 2 (.slice (some ⟨g, 0, none⟩) nl cp) nl (Tb.cells l) ∧ Sl W wq.heap.size 54 2 (.slice (some ⟨g, 0, none⟩) (nl + 1) cp) (nl + 1) (Tb.cells l ++ [.string ⟨#[45, 109, 97, 114, 107]⟩, .string ⟨#[]⟩])) → Calls Tryz.prog 10 #[.pointer (some ⟨d2, 0, none⟩), .slice aof nl capf] W fun e w' => e = .returned (.string ⟨tot.toArray⟩) ∧ Below w.heap.size w w' ∧ Hid (EX w.heap.size wq.heap.size d1 b1' d2 b2' M fsf l g cp nl w') := by
          rintro W hWb ⟨v1b, hE, hR, hvv, hs1, hs2⟩
          have hw := rwrite_any w.heap.size d2 b2' v2 told least M fs W hR HLE.out (by have := HM.out; omega) HFS.out hWb.size w hWb (Nat.le_refl _) aof capf l HFSC.out HBF.out (by have := HSZ.out; omega) tot fsf HTOT.out HFSF.out
          rw [HNL.out] at hw
          refine hw.mono ?_
          rintro e wc ⟨rfl, v2b, hRc, hvc, hFc⟩
          have hng : ∀ k, (Value.slice (some ⟨g, 0, none⟩) nl cp).ownBlock = some k → ¬ (k = d2 ∨ k = b2') := by
            intro k hk2
            rintro (e | e)
            · exact hs1.nak hR.obj (by decide) k hk2 e
            · exact hs1.nak hR.tab.obj (by decide) k hk2 e
          have hng2 : ∀ k, (Value.slice (some ⟨g, 0, none⟩) (nl + 1) cp).ownBlock = some k → ¬ (k = d2 ∨ k = b2') := fun k hk2 => hng k hk2
          refine ⟨rfl, fr_below' hFc hWb (fun q hq => by
            rcases hq with e | e
            · rw [e]; exact hR.ge
            · rw [e]; exact hR.tab.ge), hid' ⟨v1b, v2b, ⟨hE.frR hR hFc, hRc, fun k hk2 e => ?_⟩, hFc.sl hs1 hng, hFc.sl hs2 hng2⟩⟩
          rcases hvc k e with h | h
          · exact hvv k hk2 h
          · have := (hE.tab.ring.row.lt k hk2).2; omega
        have cS : ∀ W, EX w.heap.size wq.heap.size d1 b1' d2 b2' M fsf l g cp nl W → Calls Tryz.prog 11 #[.pointer (some ⟨d1, 0, none⟩)] W fun e w' => e = .returned (.int .i64 (S : Int)) ∧ w' = W := by
          rintro W ⟨v1b, v2b, hEE, _, _⟩
          exact esizeE_at w.heap.size d1 b1' v1b _ _ _ fsf S HSS.out W hEE.enc
        have cT : ∀ W, Below w.heap.size w W → EX w.heap.size wq.heap.size d1 b1' d2 b2' M fsf l g cp nl W → Calls Tryz.prog 12 #[.pointer (some ⟨d2, 0, none⟩)] W fun e w' => e = .returned (.int .i64 (S : Int)) ∧ Below w.heap.size w w' ∧ Hid (EX w.heap.size wq.heap.size d1 b1' d2 b2' M fsf l g cp nl w') := by
          intro W hWb hX
          have hX' := hX
          obtain ⟨v1b, v2b, hEE, _, _⟩ := hX
          refine (rsizeE_at w.heap.size d2 b2' v2b _ _ _ fsf S HSS.out HSSB.out W hEE.ref).mono ?_
          rintro e wd ⟨rfl, hbd⟩
          exact ⟨rfl, below_two hWb hbd, hid' (hX'.keep hbd)⟩
        have cK : ∀ W, Below w.heap.size w W → EX w.heap.size wq.heap.size d1 b1' d2 b2' M fsf l g cp nl W → Calls Tryz.prog 13 #[.slice (some ⟨g, 0, none⟩) nl cp, .slice aof nl capf] W fun e w' => e = .returned (.bool true) ∧ Below w.heap.size w w' ∧ Hid (EX w.heap.size wq.heap.size d1 b1' d2 b2' M fsf l g cp nl w') := by
          intro W hWb hX
          have hX' := hX
          obtain ⟨v1b, v2b, _, hs1, hs2⟩ := hX
          have hk := kept_any wq.heap.size g cp aof capf l W (by rw [HNL.out]; exact hs1) (by rw [HNL.out]; exact hs2) HCP.out (HFSC.out.below hWb (Nat.le_refl _)) (by rw [HNL.out]; exact hnlb)
          rw [HNL.out] at hk
          refine hk.mono ?_
          rintro e we ⟨rfl, hbe⟩
          exact ⟨rfl, below_two hWb hbe, hid' (hX'.keep hbe)⟩
        go_region_held3 (fun W => Below w.heap.size w W ∧ W.cell? ⟨(a.add (i * 4)).block, (a.add (i * 4)).off + 3, none⟩ = some (.slice aof nl capf))
          (first | assumption | exact sOf _ (by assumption) | exact sOf _ (Below.drew (by assumption)))
          (first
          | (go_at_call 9; refine cW.mono ?_; rintro e wb ⟨rfl, hbb, HXb⟩)
          | (go_at_call 10; refine (cR _ hbb HXb.out).mono ?_; rintro e wc ⟨rfl, hbc, HXc⟩)
          | (go_at_call 11; refine (cS _ HXc.out).mono ?_; rintro e wx ⟨rfl, hw⟩; subst wx)
          | (go_at_call 12; refine (cT _ hbc HXc.out).mono ?_; rintro e wd ⟨rfl, hbd, HXd⟩)
          | (go_at_call 13; refine (cK _ hbd HXd.out).mono ?_; rintro e we ⟨rfl, hbe, HXe⟩))
        have HIe : Hid (EInv w we d1 d2) := hid' (by
          obtain ⟨v1b, v2b, hEE, _, _⟩ := HXe.out
          exact ⟨hbe, b1', v1b, b2', v2b, M, M, M, fsf, hEE, by have := HM.out; omega, HM.out, HSF.out⟩)
        clear hbb hbc hbd hbe z0 z1 z3 hS0 sOf cW cR cS cT cK
        go_wp2
        go_roundw
        case rel => exact ⟨i + 1, by simp, by have := HLT.out; omega, HIe⟩
        case measure => have := HLT.out; simp [intOf]; omega
      · have hset' : set = true := by cases set; exact absurd rfl hset; rfl
        subst hset'
        clear hset
        by_cases hr : lim < 0 ∨ 4294967295 < lim
        · have HRG := hid' hr
          clear hr
          go_wp2
          have hS0 : Below w.heap.size w wr ∧ wr.cell? (a.add (i * 4)) = some (.bool true) ∧ wr.cell? ⟨(a.add (i * 4)).block, (a.add (i * 4)).off + 1, none⟩ = some (.int .i64 lim) := ⟨HBW.out, c0, c1⟩
          have sOf : ∀ W, Below w.heap.size w W → Below w.heap.size w W ∧ W.cell? (a.add (i * 4)) = some (.bool true) ∧ W.cell? ⟨(a.add (i * 4)).block, (a.add (i * 4)).off + 1, none⟩ = some (.int .i64 lim) := fun W hW => ⟨hW, (HCL.out W hW).1, (HCL.out W hW).2.1⟩
          go_region_held3 (fun W => Below w.heap.size w W ∧ W.cell? (a.add (i * 4)) = some (.bool true) ∧ W.cell? ⟨(a.add (i * 4)).block, (a.add (i * 4)).off + 1, none⟩ = some (.int .i64 lim))
            (first | assumption | exact sOf _ (by assumption) | exact sOf _ (Below.drew (by assumption)))
            (first
            | (go_at_call 6; refine (limE_no d1 lim HRG.out _).mono ?_; rintro e wx ⟨rfl, hw⟩; subst wx)
            | (go_at_call 7; refine (rlimE_no d2 lim HRG.out _).mono ?_; rintro e wx ⟨rfl, hw⟩; subst wx))
          have HEDq := hid' (HED.out.keep ((Below.refl _ wr).drew))
          have HBWq : Hid (Below w.heap.size w wr.drew) := hid' HBW.out.drew
          clear c0 c1 c3 hS0 sOf
          generalize wr.drew = wq at *
          obtain ⟨c0, c1, c3⟩ := HCL.out wq HBWq.out
          obtain ⟨tot, htot⟩ : ∃ tot, Hp.head told least M ++ (Hp.many Pm.str M fs l).1 = tot := ⟨_, rfl⟩
          obtain ⟨fsf, hfsf⟩ : ∃ fsf, (Hp.many Pm.str M fs l).2 = fsf := ⟨_, rfl⟩
          have HTOT := hid' htot
          have HFSF := hid' hfsf
          have HSF : Hid (Tb.size fsf ≤ M) := hid' (by rw [← hfsf]; exact Hp.many_size Pm.str M l fs HFS.out)
          clear htot hfsf
          go_wp2_with fail
          rw [← HNL.out]
          refine (lent2_any aof capf l _ (HFSC.out.below HBWq.out (Nat.le_refl _)) (by have := HNL.out; omega)).mono ?_
          rintro e wa ⟨g, cp, rfl, hsl, hsl2, hcp, hbl⟩
          rw [HNL.out]
          have HEDa := hid' (HEDq.out.keep hbl)
          have HSLa := hid' hsl
          have HSLb := hid' hsl2
          have HCP := hid' hcp
          have HBWa := hid' (below_two HBWq.out hbl)
          have HGa : Hid (wq.heap.size ≤ g) := hid' (hsl2.lt g rfl).1
          have HVa : Hid (∀ q, (Value.slice (some ⟨g, 0, none⟩) l.length cp).ownBlock = some q → v1.ownBlock ≠ some q) := hid' fun q hq e => by
            have h1 := (hsl.lt q hq).1
            have h2 := (HEDq.out.enc.tab.ring.row.lt q e).2
            omega
          have HVb : Hid (∀ q, v2.ownBlock = some q → q ≠ g) := hid' fun q hq e => by
            have h1 := (hsl2.lt g rfl).1
            have h2 := own_lt' HEDq.out.ref.tab.row q hq
            omega
          clear hsl hsl2 hcp hbl c0 c1 c3
          obtain ⟨S, hS⟩ : ∃ S, Tb.size fsf = S := ⟨_, rfl⟩
          have hSb : S ≤ 65536 := by rw [← hS]; have := HSF.out; have := HM.out; omega
          have HSS := hid' hS
          have HSSB := hid' hSb
          have q1 : ((S : Int) == (S : Int)) = true := beq_self_eq_true _
          have q2 : (tot == tot) = true := beq_self_eq_true _
          clear hS hSb
          go_wp2
          obtain ⟨z0, z1, z3⟩ := HCL.out wa HBWa.out
          have hS0 : Below w.heap.size w wa ∧ wa.cell? ⟨(a.add (i * 4)).block, (a.add (i * 4)).off + 3, none⟩ = some (.slice aof nl capf) := ⟨HBWa.out, z3⟩
          have sOf : ∀ W, Below w.heap.size w W → Below w.heap.size w W ∧ W.cell? ⟨(a.add (i * 4)).block, (a.add (i * 4)).off + 3, none⟩ = some (.slice aof nl capf) := fun W hW => ⟨hW, (HCL.out W hW).2.2⟩
          have cW : Calls Tryz.prog 9 #[.pointer (some ⟨d1, 0, none⟩), .slice (some ⟨g, 0, none⟩) nl cp] wa.drew fun e w' => e = .returned (.string ⟨tot.toArray⟩) ∧ Below w.heap.size w w' ∧ Hid (∃ v1b, CE w' w.heap.size d1 b1' v1b M M M fsf ∧ RE w' w.heap.size d2 b2' v2 told least M fs ∧ (∀ k, v1b.ownBlock = some k → v2.ownBlock ≠ some k) ∧ Sl w' wq.heap.size 54 2 (.slice (some ⟨g, 0, none⟩) nl cp) nl (Tb.cells l) ∧ Sl w' wq.heap.size 54 2 (.slice (some ⟨g, 0, none⟩) (nl + 1) cp) (nl + 1) (Tb.cells l ++ [.string ⟨#[45, 109, 97, 114, 107]⟩, .string ⟨#[]⟩])) := by
            have hdr : Below wa.heap.size wa wa.drew := (Below.refl _ _).drew
            have hk := HEDa.out.keep hdr
            have hw := write_any w.heap.size d1 b1' v1 least told M fs wa.drew hk.enc HLE.out (by have := HM.out; omega) HFS.out HBWa.out.size _ (some ⟨g, 0, none⟩) cp l (HSLa.out.keep hdr) HVa.out HBF.out (by have := HSZ.out; omega) tot fsf HTOT.out HFSF.out
            rw [HNL.out] at hw
            refine hw.mono ?_
            rintro e wb ⟨rfl, v1b, hEb, hvb, hFb⟩
            have hng : ∀ k, (Value.slice (some ⟨g, 0, none⟩) l.length cp).ownBlock = some k → ¬ RSet d1 b1' v1 k := by
              intro k hk2
              rintro (e | e | e)
              · exact HSLa.out.nak HEDa.out.enc.obj (by decide) k hk2 e
              · exact HSLa.out.nak HEDa.out.enc.tab.ring.obj (by decide) k hk2 e
              · exact HVa.out k hk2 e
            have h1 := hFb.sl (HSLa.out.keep hdr) hng
            have h2 := hFb.sl (HSLb.out.keep hdr) hng
            rw [HNL.out] at h1 h2
            refine ⟨rfl, fr_below' hFb (below_two HBWa.out hdr) (fun q hq => by
                      rcases hq with e | e | e
                      · rw [e]; exact HEDa.out.enc.ge
                      · rw [e]; exact HEDa.out.enc.tab.ring.ge
                      · exact (HEDa.out.enc.tab.ring.row.lt q e).1), hid' ⟨v1b, hEb, hk.refFr hFb, fun k hk2 e => ?_, h1, h2⟩⟩
            rcases hvb k hk2 with h | h
            · exact hk.vv k h e
            · have := own_lt' hk.ref.tab.row k e; omega
          have cR : ∀ W, Below w.heap.size w W → (∃ v1b, CE W w.heap.size d1 b1' v1b M M M fsf ∧ RE W w.heap.size d2 b2' v2 told least M fs ∧ (∀ k, v1b.ownBlock = some k → v2.ownBlock ≠ some k) ∧ Sl W wq.heap.size 54 2 (.slice (some ⟨g, 0, none⟩) nl cp) nl (Tb.cells l) ∧ Sl W wq.heap.size 54 2 (.slice (some ⟨g, 0, none⟩) (nl + 1) cp) (nl + 1) (Tb.cells l ++ [.string ⟨#[45, 109, 97, 114, 107]⟩, .string ⟨#[]⟩])) → Calls Tryz.prog 10 #[.pointer (some ⟨d2, 0, none⟩), .slice aof nl capf] W fun e w' => e = .returned (.string ⟨tot.toArray⟩) ∧ Below w.heap.size w w' ∧ Hid (EX w.heap.size wq.heap.size d1 b1' d2 b2' M fsf l g cp nl w') := by
            rintro W hWb ⟨v1b, hE, hR, hvv, hs1, hs2⟩
            have hw := rwrite_any w.heap.size d2 b2' v2 told least M fs W hR HLE.out (by have := HM.out; omega) HFS.out hWb.size w hWb (Nat.le_refl _) aof capf l HFSC.out HBF.out (by have := HSZ.out; omega) tot fsf HTOT.out HFSF.out
            rw [HNL.out] at hw
            refine hw.mono ?_
            rintro e wc ⟨rfl, v2b, hRc, hvc, hFc⟩
            have hng : ∀ k, (Value.slice (some ⟨g, 0, none⟩) nl cp).ownBlock = some k → ¬ (k = d2 ∨ k = b2') := by
              intro k hk2
              rintro (e | e)
              · exact hs1.nak hR.obj (by decide) k hk2 e
              · exact hs1.nak hR.tab.obj (by decide) k hk2 e
            have hng2 : ∀ k, (Value.slice (some ⟨g, 0, none⟩) (nl + 1) cp).ownBlock = some k → ¬ (k = d2 ∨ k = b2') := fun k hk2 => hng k hk2
            refine ⟨rfl, fr_below' hFc hWb (fun q hq => by
              rcases hq with e | e
              · rw [e]; exact hR.ge
              · rw [e]; exact hR.tab.ge), hid' ⟨v1b, v2b, ⟨hE.frR hR hFc, hRc, fun k hk2 e => ?_⟩, hFc.sl hs1 hng, hFc.sl hs2 hng2⟩⟩
            rcases hvc k e with h | h
            · exact hvv k hk2 h
            · have := (hE.tab.ring.row.lt k hk2).2; omega
          have cS : ∀ W, EX w.heap.size wq.heap.size d1 b1' d2 b2' M fsf l g cp nl W → Calls Tryz.prog 11 #[.pointer (some ⟨d1, 0, none⟩)] W fun e w' => e = .returned (.int .i64 (S : Int)) ∧ w' = W := by
            rintro W ⟨v1b, v2b, hEE, _, _⟩
            exact esizeE_at w.heap.size d1 b1' v1b _ _ _ fsf S HSS.out W hEE.enc
          have cT : ∀ W, Below w.heap.size w W → EX w.heap.size wq.heap.size d1 b1' d2 b2' M fsf l g cp nl W → Calls Tryz.prog 12 #[.pointer (some ⟨d2, 0, none⟩)] W fun e w' => e = .returned (.int .i64 (S : Int)) ∧ Below w.heap.size w w' ∧ Hid (EX w.heap.size wq.heap.size d1 b1' d2 b2' M fsf l g cp nl w') := by
            intro W hWb hX
            have hX' := hX
            obtain ⟨v1b, v2b, hEE, _, _⟩ := hX
            refine (rsizeE_at w.heap.size d2 b2' v2b _ _ _ fsf S HSS.out HSSB.out W hEE.ref).mono ?_
            rintro e wd ⟨rfl, hbd⟩
            exact ⟨rfl, below_two hWb hbd, hid' (hX'.keep hbd)⟩
          have cK : ∀ W, Below w.heap.size w W → EX w.heap.size wq.heap.size d1 b1' d2 b2' M fsf l g cp nl W → Calls Tryz.prog 13 #[.slice (some ⟨g, 0, none⟩) nl cp, .slice aof nl capf] W fun e w' => e = .returned (.bool true) ∧ Below w.heap.size w w' ∧ Hid (EX w.heap.size wq.heap.size d1 b1' d2 b2' M fsf l g cp nl w') := by
            intro W hWb hX
            have hX' := hX
            obtain ⟨v1b, v2b, _, hs1, hs2⟩ := hX
            have hk := kept_any wq.heap.size g cp aof capf l W (by rw [HNL.out]; exact hs1) (by rw [HNL.out]; exact hs2) HCP.out (HFSC.out.below hWb (Nat.le_refl _)) (by rw [HNL.out]; exact hnlb)
            rw [HNL.out] at hk
            refine hk.mono ?_
            rintro e we ⟨rfl, hbe⟩
            exact ⟨rfl, below_two hWb hbe, hid' (hX'.keep hbe)⟩
          go_region_held3 (fun W => Below w.heap.size w W ∧ W.cell? ⟨(a.add (i * 4)).block, (a.add (i * 4)).off + 3, none⟩ = some (.slice aof nl capf))
            (first | assumption | exact sOf _ (by assumption) | exact sOf _ (Below.drew (by assumption)))
            (first
            | (go_at_call 9; refine cW.mono ?_; rintro e wb ⟨rfl, hbb, HXb⟩)
            | (go_at_call 10; refine (cR _ hbb HXb.out).mono ?_; rintro e wc ⟨rfl, hbc, HXc⟩)
            | (go_at_call 11; refine (cS _ HXc.out).mono ?_; rintro e wx ⟨rfl, hw⟩; subst wx)
            | (go_at_call 12; refine (cT _ hbc HXc.out).mono ?_; rintro e wd ⟨rfl, hbd, HXd⟩)
            | (go_at_call 13; refine (cK _ hbd HXd.out).mono ?_; rintro e we ⟨rfl, hbe, HXe⟩))
          have HIe : Hid (EInv w we d1 d2) := hid' (by
            obtain ⟨v1b, v2b, hEE, _, _⟩ := HXe.out
            exact ⟨hbe, b1', v1b, b2', v2b, M, M, M, fsf, hEE, by have := HM.out; omega, HM.out, HSF.out⟩)
          clear hbb hbc hbd hbe z0 z1 z3 hS0 sOf cW cR cS cT cK
          go_wp2
          go_roundw
          case rel => exact ⟨i + 1, by simp, by have := HLT.out; omega, HIe⟩
          case measure => have := HLT.out; simp [intOf]; omega
        · obtain ⟨N, rfl⟩ : ∃ N : Nat, lim = (N : Int) := ⟨lim.toNat, by omega⟩
          have hN : N ≤ 4294967295 := by omega
          obtain ⟨R, hR⟩ : ∃ R, min N 4096 = R := ⟨_, rfl⟩
          obtain ⟨L, hL⟩ : ∃ L, min least R = L := ⟨_, rfl⟩
          have HN4 := hid' hN
          have HR := hid' hR
          have HL := hid' hL
          have HR4 : Hid (R ≤ 4096) := hid' (by omega)
          have HL6 : Hid (L ≤ 65536) := hid' (by have := HLE.out; omega)
          clear hr hN hR hL
          have cL : Calls Tryz.prog 6 #[.pointer (some ⟨d1, 0, none⟩), .int .i64 (N : Int)] wr.drew fun e w' => e = .returned (.int .i64 0) ∧ Below w.heap.size w w' ∧ Hid (∃ v1', CE w' w.heap.size d1 b1' v1' L told R (Tb.shr R fs) ∧ RE w' w.heap.size d2 b2' v2 told least M fs ∧ ∀ k, v1'.ownBlock = some k → v2.ownBlock ≠ some k) := by
            have hdr : Below wr.heap.size wr wr.drew := (Below.refl _ _).drew
            have hk := HED.out.keep hdr
            refine (limE_yes w.heap.size d1 b1' v1 least told M fs N HN4.out wr.drew hk.enc (by have := HFS.out; have := HM.out; omega) R L HR.out HL.out).mono ?_
            rintro e wl ⟨rfl, v1', hE, hv, hF⟩
            exact ⟨rfl, fr_below' hF (below_two HBW.out hdr) (fun q hq => by
            rcases hq with e | e | e
            · rw [e]; exact HED.out.enc.ge
            · rw [e]; exact HED.out.enc.tab.ring.ge
            · exact (HED.out.enc.tab.ring.row.lt q e).1), hid' ⟨v1', hE, hk.refFr hF, fun k hk2 => hk.vv k (hv k hk2)⟩⟩
          have cM : ∀ W, Below w.heap.size w W → (∃ v1', CE W w.heap.size d1 b1' v1' L told R (Tb.shr R fs) ∧ RE W w.heap.size d2 b2' v2 told least M fs ∧ ∀ k, v1'.ownBlock = some k → v2.ownBlock ≠ some k) → Calls Tryz.prog 7 #[.pointer (some ⟨d2, 0, none⟩), .int .i64 (N : Int)] W fun e w' => e = .returned (.int .i64 0) ∧ Below w.heap.size w w' ∧ Hid (∃ v1' v2', EE w' w.heap.size d1 b1' v1' d2 b2' v2' L told R (Tb.shr R fs)) := by
            rintro W hWb ⟨v1', hE, hRE, hvv⟩
            refine (rlimE_yes w.heap.size d2 b2' v2 told least M fs N HN4.out W hRE (by have := HFS.out; have := HM.out; omega) R L HR.out HL.out).mono ?_
            rintro e wm ⟨rfl, v2', hRm, hv, hF⟩
            exact ⟨rfl, fr_below' hF hWb (fun q hq => by
              rcases hq with e | e
              · rw [e]; exact hRE.ge
              · rw [e]; exact hRE.tab.ge), hid' ⟨v1', v2', ⟨hE.frR hRE hF, hRm, fun k hk2 e => hvv k hk2 (by rw [← hv]; exact e)⟩⟩⟩
          go_wp2
          have hS0 : Below w.heap.size w wr ∧ wr.cell? (a.add (i * 4)) = some (.bool true) ∧ wr.cell? ⟨(a.add (i * 4)).block, (a.add (i * 4)).off + 1, none⟩ = some (.int .i64 (N : Int)) := ⟨HBW.out, c0, c1⟩
          have sOf : ∀ W, Below w.heap.size w W → Below w.heap.size w W ∧ W.cell? (a.add (i * 4)) = some (.bool true) ∧ W.cell? ⟨(a.add (i * 4)).block, (a.add (i * 4)).off + 1, none⟩ = some (.int .i64 (N : Int)) := fun W hW => ⟨hW, (HCL.out W hW).1, (HCL.out W hW).2.1⟩
          go_region_held3 (fun W => Below w.heap.size w W ∧ W.cell? (a.add (i * 4)) = some (.bool true) ∧ W.cell? ⟨(a.add (i * 4)).block, (a.add (i * 4)).off + 1, none⟩ = some (.int .i64 (N : Int)))
            (first | assumption | exact sOf _ (by assumption) | exact sOf _ (Below.drew (by assumption)))
            (first
            | (go_at_call 6; refine cL.mono ?_; rintro e wl ⟨rfl, hbl0, HXl⟩)
            | (go_at_call 7; refine (cM _ hbl0 HXl.out).mono ?_; rintro e wq ⟨rfl, hbq, HXq⟩))
          obtain ⟨v1q, v2q, hEEq⟩ := HXq.out
          have HEDq := hid' hEEq
          have HBWq := hid' hbq
          clear c0 c1 c3 hS0 sOf cL cM hbl0 hbq hEEq
          obtain ⟨c0, c1, c3⟩ := HCL.out wq HBWq.out
          obtain ⟨tot, htot⟩ : ∃ tot, Hp.head told L R ++ (Hp.many Pm.str R (Tb.shr R fs) l).1 = tot := ⟨_, rfl⟩
          obtain ⟨fsf, hfsf⟩ : ∃ fsf, (Hp.many Pm.str R (Tb.shr R fs) l).2 = fsf := ⟨_, rfl⟩
          have HTOT := hid' htot
          have HFSF := hid' hfsf
          have HSF : Hid (Tb.size fsf ≤ R) := hid' (by rw [← hfsf]; exact Hp.many_size Pm.str R l (Tb.shr R fs) (Tb.shr_size fs R))
          clear htot hfsf
          go_wp2_with fail
          rw [← HNL.out]
          refine (lent2_any aof capf l _ (HFSC.out.below HBWq.out (Nat.le_refl _)) (by have := HNL.out; omega)).mono ?_
          rintro e wa ⟨g, cp, rfl, hsl, hsl2, hcp, hbl⟩
          rw [HNL.out]
          have HEDa := hid' (HEDq.out.keep hbl)
          have HSLa := hid' hsl
          have HSLb := hid' hsl2
          have HCP := hid' hcp
          have HBWa := hid' (below_two HBWq.out hbl)
          have HGa : Hid (wq.heap.size ≤ g) := hid' (hsl2.lt g rfl).1
          have HVa : Hid (∀ q, (Value.slice (some ⟨g, 0, none⟩) l.length cp).ownBlock = some q → v1q.ownBlock ≠ some q) := hid' fun q hq e => by
            have h1 := (hsl.lt q hq).1
            have h2 := (HEDq.out.enc.tab.ring.row.lt q e).2
            omega
          have HVb : Hid (∀ q, v2q.ownBlock = some q → q ≠ g) := hid' fun q hq e => by
            have h1 := (hsl2.lt g rfl).1
            have h2 := own_lt' HEDq.out.ref.tab.row q hq
            omega
          clear hsl hsl2 hcp hbl c0 c1 c3
          obtain ⟨S, hS⟩ : ∃ S, Tb.size fsf = S := ⟨_, rfl⟩
          have hSb : S ≤ 65536 := by rw [← hS]; have := HSF.out; have := HR4.out; omega
          have HSS := hid' hS
          have HSSB := hid' hSb
          have q1 : ((S : Int) == (S : Int)) = true := beq_self_eq_true _
          have q2 : (tot == tot) = true := beq_self_eq_true _
          clear hS hSb
          go_wp2
          obtain ⟨z0, z1, z3⟩ := HCL.out wa HBWa.out
          have hS0 : Below w.heap.size w wa ∧ wa.cell? ⟨(a.add (i * 4)).block, (a.add (i * 4)).off + 3, none⟩ = some (.slice aof nl capf) := ⟨HBWa.out, z3⟩
          have sOf : ∀ W, Below w.heap.size w W → Below w.heap.size w W ∧ W.cell? ⟨(a.add (i * 4)).block, (a.add (i * 4)).off + 3, none⟩ = some (.slice aof nl capf) := fun W hW => ⟨hW, (HCL.out W hW).2.2⟩
          have cW : Calls Tryz.prog 9 #[.pointer (some ⟨d1, 0, none⟩), .slice (some ⟨g, 0, none⟩) nl cp] wa.drew fun e w' => e = .returned (.string ⟨tot.toArray⟩) ∧ Below w.heap.size w w' ∧ Hid (∃ v1b, CE w' w.heap.size d1 b1' v1b R R R fsf ∧ RE w' w.heap.size d2 b2' v2q told L R (Tb.shr R fs) ∧ (∀ k, v1b.ownBlock = some k → v2q.ownBlock ≠ some k) ∧ Sl w' wq.heap.size 54 2 (.slice (some ⟨g, 0, none⟩) nl cp) nl (Tb.cells l) ∧ Sl w' wq.heap.size 54 2 (.slice (some ⟨g, 0, none⟩) (nl + 1) cp) (nl + 1) (Tb.cells l ++ [.string ⟨#[45, 109, 97, 114, 107]⟩, .string ⟨#[]⟩])) := by
            have hdr : Below wa.heap.size wa wa.drew := (Below.refl _ _).drew
            have hk := HEDa.out.keep hdr
            have hw := write_any w.heap.size d1 b1' v1q L told R (Tb.shr R fs) wa.drew hk.enc HL6.out (by have := HR4.out; omega) (Tb.shr_size fs R) HBWa.out.size _ (some ⟨g, 0, none⟩) cp l (HSLa.out.keep hdr) HVa.out HBF.out (by have := HSZ.out; omega) tot fsf HTOT.out HFSF.out
            rw [HNL.out] at hw
            refine hw.mono ?_
            rintro e wb ⟨rfl, v1b, hEb, hvb, hFb⟩
            have hng : ∀ k, (Value.slice (some ⟨g, 0, none⟩) l.length cp).ownBlock = some k → ¬ RSet d1 b1' v1q k := by
              intro k hk2
              rintro (e | e | e)
              · exact HSLa.out.nak HEDa.out.enc.obj (by decide) k hk2 e
              · exact HSLa.out.nak HEDa.out.enc.tab.ring.obj (by decide) k hk2 e
              · exact HVa.out k hk2 e
            have h1 := hFb.sl (HSLa.out.keep hdr) hng
            have h2 := hFb.sl (HSLb.out.keep hdr) hng
            rw [HNL.out] at h1 h2
            refine ⟨rfl, fr_below' hFb (below_two HBWa.out hdr) (fun q hq => by
                      rcases hq with e | e | e
                      · rw [e]; exact HEDa.out.enc.ge
                      · rw [e]; exact HEDa.out.enc.tab.ring.ge
                      · exact (HEDa.out.enc.tab.ring.row.lt q e).1), hid' ⟨v1b, hEb, hk.refFr hFb, fun k hk2 e => ?_, h1, h2⟩⟩
            rcases hvb k hk2 with h | h
            · exact hk.vv k h e
            · have := own_lt' hk.ref.tab.row k e; omega
          have cR : ∀ W, Below w.heap.size w W → (∃ v1b, CE W w.heap.size d1 b1' v1b R R R fsf ∧ RE W w.heap.size d2 b2' v2q told L R (Tb.shr R fs) ∧ (∀ k, v1b.ownBlock = some k → v2q.ownBlock ≠ some k) ∧ Sl W wq.heap.size 54 2 (.slice (some ⟨g, 0, none⟩) nl cp) nl (Tb.cells l) ∧ Sl W wq.heap.size 54 2 (.slice (some ⟨g, 0, none⟩) (nl + 1) cp) (nl + 1) (Tb.cells l ++ [.string ⟨#[45, 109, 97, 114, 107]⟩, .string ⟨#[]⟩])) → Calls Tryz.prog 10 #[.pointer (some ⟨d2, 0, none⟩), .slice aof nl capf] W fun e w' => e = .returned (.string ⟨tot.toArray⟩) ∧ Below w.heap.size w w' ∧ Hid (EX w.heap.size wq.heap.size d1 b1' d2 b2' R fsf l g cp nl w') := by
            rintro W hWb ⟨v1b, hE, hR, hvv, hs1, hs2⟩
            have hw := rwrite_any w.heap.size d2 b2' v2q told L R (Tb.shr R fs) W hR HL6.out (by have := HR4.out; omega) (Tb.shr_size fs R) hWb.size w hWb (Nat.le_refl _) aof capf l HFSC.out HBF.out (by have := HSZ.out; omega) tot fsf HTOT.out HFSF.out
            rw [HNL.out] at hw
            refine hw.mono ?_
            rintro e wc ⟨rfl, v2b, hRc, hvc, hFc⟩
            have hng : ∀ k, (Value.slice (some ⟨g, 0, none⟩) nl cp).ownBlock = some k → ¬ (k = d2 ∨ k = b2') := by
              intro k hk2
              rintro (e | e)
              · exact hs1.nak hR.obj (by decide) k hk2 e
              · exact hs1.nak hR.tab.obj (by decide) k hk2 e
            have hng2 : ∀ k, (Value.slice (some ⟨g, 0, none⟩) (nl + 1) cp).ownBlock = some k → ¬ (k = d2 ∨ k = b2') := fun k hk2 => hng k hk2
            refine ⟨rfl, fr_below' hFc hWb (fun q hq => by
              rcases hq with e | e
              · rw [e]; exact hR.ge
              · rw [e]; exact hR.tab.ge), hid' ⟨v1b, v2b, ⟨hE.frR hR hFc, hRc, fun k hk2 e => ?_⟩, hFc.sl hs1 hng, hFc.sl hs2 hng2⟩⟩
            rcases hvc k e with h | h
            · exact hvv k hk2 h
            · have := (hE.tab.ring.row.lt k hk2).2; omega
          have cS : ∀ W, EX w.heap.size wq.heap.size d1 b1' d2 b2' R fsf l g cp nl W → Calls Tryz.prog 11 #[.pointer (some ⟨d1, 0, none⟩)] W fun e w' => e = .returned (.int .i64 (S : Int)) ∧ w' = W := by
            rintro W ⟨v1b, v2b, hEE, _, _⟩
            exact esizeE_at w.heap.size d1 b1' v1b _ _ _ fsf S HSS.out W hEE.enc
          have cT : ∀ W, Below w.heap.size w W → EX w.heap.size wq.heap.size d1 b1' d2 b2' R fsf l g cp nl W → Calls Tryz.prog 12 #[.pointer (some ⟨d2, 0, none⟩)] W fun e w' => e = .returned (.int .i64 (S : Int)) ∧ Below w.heap.size w w' ∧ Hid (EX w.heap.size wq.heap.size d1 b1' d2 b2' R fsf l g cp nl w') := by
            intro W hWb hX
            have hX' := hX
            obtain ⟨v1b, v2b, hEE, _, _⟩ := hX
            refine (rsizeE_at w.heap.size d2 b2' v2b _ _ _ fsf S HSS.out HSSB.out W hEE.ref).mono ?_
            rintro e wd ⟨rfl, hbd⟩
            exact ⟨rfl, below_two hWb hbd, hid' (hX'.keep hbd)⟩
          have cK : ∀ W, Below w.heap.size w W → EX w.heap.size wq.heap.size d1 b1' d2 b2' R fsf l g cp nl W → Calls Tryz.prog 13 #[.slice (some ⟨g, 0, none⟩) nl cp, .slice aof nl capf] W fun e w' => e = .returned (.bool true) ∧ Below w.heap.size w w' ∧ Hid (EX w.heap.size wq.heap.size d1 b1' d2 b2' R fsf l g cp nl w') := by
            intro W hWb hX
            have hX' := hX
            obtain ⟨v1b, v2b, _, hs1, hs2⟩ := hX
            have hk := kept_any wq.heap.size g cp aof capf l W (by rw [HNL.out]; exact hs1) (by rw [HNL.out]; exact hs2) HCP.out (HFSC.out.below hWb (Nat.le_refl _)) (by rw [HNL.out]; exact hnlb)
            rw [HNL.out] at hk
            refine hk.mono ?_
            rintro e we ⟨rfl, hbe⟩
            exact ⟨rfl, below_two hWb hbe, hid' (hX'.keep hbe)⟩
          go_region_held3 (fun W => Below w.heap.size w W ∧ W.cell? ⟨(a.add (i * 4)).block, (a.add (i * 4)).off + 3, none⟩ = some (.slice aof nl capf))
            (first | assumption | exact sOf _ (by assumption) | exact sOf _ (Below.drew (by assumption)))
            (first
            | (go_at_call 9; refine cW.mono ?_; rintro e wb ⟨rfl, hbb, HXb⟩)
            | (go_at_call 10; refine (cR _ hbb HXb.out).mono ?_; rintro e wc ⟨rfl, hbc, HXc⟩)
            | (go_at_call 11; refine (cS _ HXc.out).mono ?_; rintro e wx ⟨rfl, hw⟩; subst wx)
            | (go_at_call 12; refine (cT _ hbc HXc.out).mono ?_; rintro e wd ⟨rfl, hbd, HXd⟩)
            | (go_at_call 13; refine (cK _ hbd HXd.out).mono ?_; rintro e we ⟨rfl, hbe, HXe⟩))
          have HIe : Hid (EInv w we d1 d2) := hid' (by
            obtain ⟨v1b, v2b, hEE, _, _⟩ := HXe.out
            exact ⟨hbe, b1', v1b, b2', v2b, R, R, R, fsf, hEE, by have := HR4.out; omega, HR4.out, HSF.out⟩)
          clear hbb hbc hbd hbe z0 z1 z3 hS0 sOf cW cR cS cT cK
          go_wp2
          go_roundw
          case rel => exact ⟨i + 1, by simp, by have := HLT.out; omega, HIe⟩
          case measure => have := HLT.out; simp [intOf]; omega
    · have hlt2 : decide ((i : Int) < (n : Int)) = false := decide_eq_false (by omega)
      have hlt3 : decide (i < n) = false := decide_eq_false hlt
      clear hlt
      go_wp2_with fail
      refine (awake6 _).mono ?_
      rintro e w6 ⟨rfl, hb6⟩
      have HB6 := hid' (below_two HBW.out hb6)
      clear hb6
      go_wp2
      go_ret
      exact ⟨rfl, HB6.out⟩

end Go.Proofs.YtmkkhfkfjmfdcaaGreat
