/-
  The law PrioPlays, by its contract: it returns true for every row of calls.
-/
import Derived.Test.YtekpjbhhbklboaaDoorPrW
import Derived.Test.YtekpjbhhbklboaaDoorPrZ
namespace Go.Proofs.YtekpjbhhbklboaaDoor
open Go.RowKit

theorem bl_drewN {B : Nat} {w w' : World} (h : Below B w w') (q : Nat) : Below B w (w'.drewN q) := ⟨h.os, h.tape, h.output, h.size, h.block⟩

theorem lf_und {S : Nat → Prop} {w w' : World} (h : LF S w.drew w') : LF S w w' := ⟨h.os, h.tape, h.output, h.size, h.block⟩
theorem lf_two' {b bx : Nat} {w w1 w2 : World} (h1 : LF (fun k => k = b) w w1) (h2 : LF (fun k => k = bx) w1 w2) : LF (fun k => k = b ∨ k = bx) w w2 :=
  ⟨h2.os.trans h1.os, h2.tape.trans h1.tape, h2.output.trans h1.output, Nat.le_trans h1.size h2.size, fun k hk hn => (h2.block k (Nat.lt_of_lt_of_le hk h1.size) (fun h => hn (.inr h))).trans (h1.block k hk (fun h => hn (.inl h)))⟩
theorem lf_two2 {b bx : Nat} {w w1 w2 : World} (h1 : LF (fun k => k = bx) w w1) (h2 : LF (fun k => k = b) w1 w2) : LF (fun k => k = b ∨ k = bx) w w2 :=
  ⟨h2.os.trans h1.os, h2.tape.trans h1.tape, h2.output.trans h1.output, Nat.le_trans h1.size h2.size, fun k hk hn => (h2.block k (Nat.lt_of_lt_of_le hk h1.size) (fun h => hn (.inl h))).trans (h1.block k hk (fun h => hn (.inr h)))⟩
theorem Scr10.rr {w : World} {ao : Option Addr} {n cap : Nat} {cs : List C10} (h : Scr10 w (.slice ao n cap) cs) (i : Nat) (c : C10) (hc : cs[i]? = some c) : RR w c.cv c.can.length (nmC c.can) := by
  rcases h with ⟨_, rfl⟩ | ⟨a, cap', hv, hcs⟩
  · simp at hc
  · obtain ⟨_, _, _, _, _, _, hr, _⟩ := hcs i c hc
    exact hr

set_option maxHeartbeats 8000000 in
set_option maxRecDepth 20000 in
theorem prioPlays_any (sv : Value) (cs : List C10) (w : World) (hsc : Scr10 w sv cs) (hlen : cs.length ≤ 2513169434844) (hcan : ∀ c ∈ cs, c.can.length ≤ 17592186044400) :
    Calls Tryd.prog 5 #[sv] w fun e w' => e = .returned (.bool true) ∧ Below w.heap.size w w' := by
  obtain ⟨ao, cap, hsv⟩ := hsc.shape
  subst hsv
  obtain ⟨N, hN⟩ : ∃ N, cs.length = N := ⟨_, rfl⟩
  have HN := hid' hN
  rw [hN] at hsc hlen ⊢
  have HSC := hid' hsc
  have HCAN := hid' hcan
  clear hN hsc hcan
  go_enter Tryd.func5, Tryd.ntmps5
  go_wp2_with fail
  refine (cnew_any _).mono ?_
  rintro e w1 ⟨b, rfl, _, hcm1, hb1⟩
  have HC1 := hid' hcm1
  have HB1 := hid' hb1
  clear hcm1 hb1
  go_wp2_with (refine wpl_alloc 37 rfl rfl _ zeroL ?_)
  intro bx w2 hgx hax hbx
  have HP : Hid (P2 w2 w.heap.size b bx (.map none) (.slice none 0 0) (.slice none 0 0) Pr.ln0) := hid' ⟨HC1.out.keep hbx, ⟨Nat.le_trans HB1.out.size hgx, hax, World.ownsRow_nil _ _ _ _, World.ownsRow_nil _ _ _ _, Pr.ln0_ok⟩⟩
  have HB := hid' (below_two HB1.out hbx)
  clear hgx hax hbx HC1 HB1
  go_wp2
  go_loopw [5] (fun s5 wr => ∃ (i : Nat) (mv v u : Value) (l : Pr.Ln), s5 = .int .i64 (i : Int) ∧ i ≤ N ∧ Hid (P2 wr w.heap.size b bx mv v u l) ∧ Hid (l.ids.length ≤ i) ∧ Hid (Below w.heap.size w wr)) (fun s5 _ => N - (intOf s5).toNat)
  case atStart => exact ⟨0, _, _, _, _, rfl, Nat.zero_le _, HP, hid' (Nat.le_refl _), HB⟩
  case round =>
    clear HP HB
    obtain ⟨i, mv, v, u, l, rfl, hi, HP, HLN, HB⟩ := hrel
    by_cases hlt : i < N
    · have hlt2 : (i : Int) < (N : Int) := by omega
      obtain ⟨c, hc⟩ : ∃ c, cs[i]? = some c := ⟨_, List.getElem?_eq_getElem (by rw [HN.out]; exact hlt)⟩
      have HCN := hid' (HCAN.out c (List.mem_of_getElem? hc))
      obtain ⟨a, hao, x0, x1, x2, x3, x4, hrr, hw256⟩ := HSC.out.at HB.out i c hc
      subst hao
      have hr0 := HSC.out.rr i c hc
      obtain ⟨co, cc, hcv⟩ := hrr.shape
      obtain ⟨q, id, urg, pt, cv, can⟩ := c
      simp only at x0 x1 x2 x3 x4 hrr hw256 hcv HCN hr0
      subst hcv
      obtain ⟨cn, hcn⟩ : ∃ cn, can.length = cn := ⟨_, rfl⟩
      rw [hcn] at x4 hrr HCN hr0
      have HR0 := hid' hr0
      have HCNL := hid' hcn
      have HRR := hid' hrr
      have HSZ := hid' HB.out.size
      clear hc hcn hrr hr0
      go_upto_region 10 with fail
      have HAC : Hid (Ar ((wr.alloc (.cells #[.int .u8 (q : Int), .int .i64 id, .int .i64 urg, .bool pt, .slice co cn cc] 39)).alloc (.cells #[.int .i64 urg, .bool pt] 24)) wr.heap.size 39 #[.int .u8 (q : Int), .int .i64 id, .int .i64 urg, .bool pt, .slice co cn cc]) := hid' (Ar.keep (heap_alloc_last wr _) ((Below.refl _ _).alloc (Nat.le_refl _) _))
      have HAP : Hid (Ar ((wr.alloc (.cells #[.int .u8 (q : Int), .int .i64 id, .int .i64 urg, .bool pt, .slice co cn cc] 39)).alloc (.cells #[.int .i64 urg, .bool pt] 24)) (wr.heap.size + 1) 24 #[.int .i64 urg, .bool pt]) := hid' (by
        have := heap_alloc_last (wr.alloc (.cells #[.int .u8 (q : Int), .int .i64 id, .int .i64 urg, .bool pt, .slice co cn cc] 39)) (.cells #[.int .i64 urg, .bool pt] 24)
        have e : (wr.alloc (.cells #[.int .u8 (q : Int), .int .i64 id, .int .i64 urg, .bool pt, .slice co cn cc] 39)).heap.size = wr.heap.size + 1 := by simp
        rw [e] at this
        exact this)
      have HBC : Hid (Below wr.heap.size wr ((wr.alloc (.cells #[.int .u8 (q : Int), .int .i64 id, .int .i64 urg, .bool pt, .slice co cn cc] 39)).alloc (.cells #[.int .i64 urg, .bool pt] 24))) := hid' (below_two ((Below.refl _ _).alloc (Nat.le_refl _) _) ((Below.refl _ _).alloc (Nat.le_refl _) _))
      obtain ⟨cb, hcb⟩ : ∃ cb, wr.heap.size = cb := ⟨_, rfl⟩
      obtain ⟨pb, hpb⟩ : ∃ pb, wr.heap.size + 1 = pb := ⟨_, rfl⟩
      rw [hpb] at HAP ⊢
      rw [hcb] at HAC ⊢
      generalize (wr.alloc (.cells #[.int .u8 (q : Int), .int .i64 id, .int .i64 urg, .bool pt, .slice co cn cc] 39)).alloc (.cells #[.int .i64 urg, .bool pt] 24) = w3 at *
      have HP3 := hid' (HP.out.keep HBC.out)
      have HB3 := hid' (below_from HB.out HBC.out HB.out.size)
      have HRR3 := hid' (HRR.out.keep HBC.out)
      have y0 := HAC.out.cell 0 _ rfl
      have y1 := HAC.out.cell 1 _ rfl
      have y4 := HAC.out.cell 4 _ rfl
      have p0 := HAP.out.cell 0 _ rfl
      have p1 := HAP.out.cell 1 _ rfl
      have HNC : Hid (¬ CS b mv cb ∧ ¬ CS b mv pb) := hid' ⟨ar_cs HP3.out.cm HAC.out (by decide), ar_cs HP3.out.cm HAP.out (by decide)⟩
      clear x0 x1 x2 x3 x4 hcb hpb HRR
      by_cases q0 : (q : Int).tmod 3 = 0
      · go_wp2_with fail
        refine (cset_any w.heap.size b mv l id urg pt _ HP3.out.cm).mono ?_
        rintro e w4 ⟨rfl, mv2, hcp⟩
        have HCP := hid' hcp
        have HAC4 := hid' (hcp.lf.ar HAC.out HNC.out.1)
        have HAP4 := hid' (hcp.lf.ar HAP.out HNC.out.2)
        have HL4 := hid' (HP3.out.lm.other hcp.lf (ls_cs HP3.out.cm HP3.out.lm))
        clear hcp y0 y1 y4 p0 p1
        have y1 := HAC4.out.cell 1 _ rfl
        have p0 := HAP4.out.cell 0 _ rfl
        have p1 := HAP4.out.cell 1 _ rfl
        go_wp2_with fail
        refine (rset_any w.heap.size bx l v u id urg pt _ HL4.out (by have := HLN.out; omega)).mono ?_
        rintro e w5 ⟨rfl, v2, u2, hlp⟩
        obtain ⟨l2, hl2⟩ : ∃ l2, Pr.set l id (Pr.kept urg, pt) = l2 := ⟨_, rfl⟩
        have HT := hid' (HP3.out.two HCP.out hlp)
        rw [hl2] at HT
        have HP2 := hid' HT.out.1
        have HB2 := hid' (HB3.out.trans HT.out.2)
        have HLN2 : Hid (l2.ids.length ≤ i + 1) := hid' (by
          have h1 := Pr.set_len HP.out.cm.ok id (Pr.kept urg, pt)
          have h2 := HLN.out
          rw [hl2] at h1
          split at h1 <;> omega)
        clear hlp hl2 HT HCP HAC4 HAP4 HL4 y1 p0 p1 HP HP3 HB HB3
        obtain ⟨nn, hnn⟩ : ∃ nn, l2.ids.length = nn := ⟨_, rfl⟩
        obtain ⟨vo, vc, hv2⟩ := own_shape HP2.out.lm.is
        rw [hnn] at hv2
        subst hv2
        have HNN := hid' hnn
        have x0 := HP2.out.lm.hd.cell 0 _ (lnC0 _ _ _ _)
        have hee : ((nn : Int) == (nn : Int)) = true := beq_self_eq_true _
        have hnb : nn ≤ 8796093022208 := by have := HLN2.out; omega
        clear hnn
        go_upto_region 20 with fail
        go_quiet ((go_at_call 23; exact Calls.quiet_of_same (clen_any w.heap.size b mv2 l2 _ (by first | exact HP2.out.cm | exact HP2.out.cm.drew | exact HP2.out.cm.drewN _) nn HNN.out)))
        go_wp2
        go_roundw
        case rel => exact ⟨i + 1, mv2, .slice vo nn vc, u2, l2, by go_num, by omega, hid' (HP2.out.drewN _), hid' (by have := HLN2.out; omega), hid' (bl_drewN HB2.out _)⟩
        case measure => simp [intOf]; omega
      by_cases q1 : (q : Int).tmod 3 = 1
      · go_wp2_with fail
        refine (crem_any w.heap.size b mv l id _ HP3.out.cm).mono ?_
        rintro e w4 ⟨rfl, hcm4, hlf4⟩
        have HCP : Hid (CP w3 w4 w.heap.size b mv (Pr.rem l id) mv) := hid' ⟨hcm4, hlf4, fun k hk => .inl hk⟩
        have HAC4 := hid' (hlf4.ar HAC.out HNC.out.1)
        have HL4 := hid' (HP3.out.lm.other hlf4 (ls_cs HP3.out.cm HP3.out.lm))
        clear hcm4 hlf4 y0 y1 y4 p0 p1
        have y1 := HAC4.out.cell 1 _ rfl
        go_wp2_with fail
        refine (rrem_any w.heap.size bx l v u id _ HL4.out (by have := HLN.out; omega)).mono ?_
        rintro e w5 ⟨rfl, v2, u2, hlp⟩
        obtain ⟨l2, hl2⟩ : ∃ l2, Pr.rem l id = l2 := ⟨_, rfl⟩
        obtain ⟨mv2, hmv2⟩ : ∃ mv2, mv = mv2 := ⟨_, rfl⟩
        have HT := hid' (HP3.out.two HCP.out hlp)
        rw [hl2, hmv2] at HT
        have HP2 := hid' HT.out.1
        have HB2 := hid' (HB3.out.trans HT.out.2)
        have HLN2 : Hid (l2.ids.length ≤ i + 1) := hid' (by
          have h1 := Pr.rem_len HP.out.cm.ok id
          have h2 := HLN.out
          rw [hl2] at h1
          split at h1 <;> omega)
        clear hlp hl2 hmv2 HT HCP HAC4 HL4 y1 HP HP3 HB HB3
        obtain ⟨nn, hnn⟩ : ∃ nn, l2.ids.length = nn := ⟨_, rfl⟩
        obtain ⟨vo, vc, hv2⟩ := own_shape HP2.out.lm.is
        rw [hnn] at hv2
        subst hv2
        have HNN := hid' hnn
        have x0 := HP2.out.lm.hd.cell 0 _ (lnC0 _ _ _ _)
        have hee : ((nn : Int) == (nn : Int)) = true := beq_self_eq_true _
        have hnb : nn ≤ 8796093022208 := by have := HLN2.out; omega
        clear hnn
        go_upto_region 20 with fail
        go_quiet ((go_at_call 23; exact Calls.quiet_of_same (clen_any w.heap.size b mv2 l2 _ (by first | exact HP2.out.cm | exact HP2.out.cm.drew | exact HP2.out.cm.drewN _) nn HNN.out)))
        go_wp2
        go_roundw
        case rel => exact ⟨i + 1, mv2, .slice vo nn vc, u2, l2, by go_num, by omega, hid' (HP2.out.drewN _), hid' (by have := HLN2.out; omega), hid' (bl_drewN HB2.out _)⟩
        case measure => simp [intOf]; omega
      · have q2 : (q : Int).tmod 3 = 2 := by rw [Int.tmod_eq_emod_of_nonneg (by omega)] at *; omega
        go_wp2_with fail
        refine (lent_any co cc cn can HCNL.out _ HRR3.out HCN.out).mono ?_
        rintro e w4 ⟨g, c4, rfl, hown4, hb4⟩
        obtain ⟨z, l2, hz⟩ : ∃ z l2, Pr.next l can = (z, l2) := ⟨_, _, rfl⟩
        have HZ := hid' hz
        have HLN2 : Hid (l2.ids.length ≤ i + 1) := hid' (by
          have h1 := next_len l can
          have h2 := HLN.out
          rw [hz] at h1
          simp only at h1
          omega)
        have HP4 := hid' (HP3.out.keep hb4)
        have HB4 := hid' (below_from HB3.out hb4 HB3.out.size)
        have HAC4 := hid' (HAC.out.keep hb4)
        have HO4 := hid' hown4
        have hzz : (z == z) = true := beq_self_eq_true _
        have HGB : Hid (g ≠ b ∧ g ≠ bx) := hid' (by
          obtain ⟨_, cs', h1⟩ := own_ty hown4 g rfl
          exact ⟨fun e => (Ar.apart' (show Ar w4 g 3 cs' from h1) HP4.out.cm.hd (by decide)) e, fun e => (Ar.apart' (show Ar w4 g 3 cs' from h1) HP4.out.lm.hd (by decide)) e⟩)
        have HCBX : Hid (cb ≠ b ∧ cb ≠ bx) := hid' ⟨HAC4.out.apart' HP4.out.cm.hd (by decide), HAC4.out.apart' HP4.out.lm.hd (by decide)⟩
        have codeC : Hid (∀ W, LF (fun k => k = bx) w4 W → Calls Tryd.prog 20 #[.pointer (some ⟨b, 0, none⟩), .slice (some ⟨g, 0, none⟩) cn c4] W fun e w' => e = .returned (.int .i64 z) ∧ CM w' w.heap.size b mv l2 ∧ LF (fun k => k = b) W w') := hid' (fun W h =>
          cnext_any w.heap.size b mv l l2 (some ⟨g, 0, none⟩) c4 can z cn HCNL.out HZ.out W (HP4.out.cm.other h (fun k hk e => ls_cs HP4.out.cm HP4.out.lm bx (.inl rfl) (e ▸ hk))) (lent_rr (own_same HO4.out (fun k hk => h.block k (own_lt HO4.out k hk) (fun e => by
            have e2 : g = k := by simpa [Value.ownBlock] using hk
            exact HGB.out.2 (e2.trans e))))) (by have := HCN.out; omega))
        have docC : Hid (∀ W, LF (fun k => k = b) w4 W → Calls Tryd.prog 21 #[.pointer (some ⟨bx, 0, none⟩), .slice co cn cc] W fun e w' => e = .returned (.int .i64 z) ∧ LM w' w.heap.size bx l2 v u ∧ LF (fun k => k = bx) W w') := hid' (fun W h => by
          have hbW : Below w.heap.size w W := HB4.out.trans (h.below HB4.out.size (fun k hk => by rw [hk]; exact HP4.out.cm.lo))
          have := rnext_any w.heap.size bx l v u (.slice co cn cc) can W (HP4.out.lm.other h (fun k hk e => ls_cs HP4.out.cm HP4.out.lm k hk (.inl e))) (by rw [HCNL.out]; exact HR0.out.keep hbW) (by have := HLN.out; omega) (by rw [HCNL.out]; have := HCN.out; omega)
          rw [HZ.out] at this
          exact this)
        have keptC : Hid (∀ W, LF (fun k => k = b ∨ k = bx) w4 W → Calls Tryd.prog 22 #[.slice (some ⟨g, 0, none⟩) cn c4, .slice co cn cc] W fun e w' => e = .returned (.bool true) ∧ ∃ m, w' = W.drewN m) := hid' (fun W h => by
          have hbW : Below w.heap.size w W := HB4.out.trans (h.below HB4.out.size (fun k hk => by
            rcases hk with hk | hk
            · rw [hk]; exact HP4.out.cm.lo
            · rw [hk]; exact HP4.out.lm.lo))
          exact kept_any _ g c4 cn co cc can HCNL.out W (own_same HO4.out (fun k hk => h.block k (own_lt HO4.out k hk) (fun e => by
            have e2 : g = k := by simpa [Value.ownBlock] using hk
            rcases e with e | e
            · exact HGB.out.1 (e2.trans e)
            · exact HGB.out.2 (e2.trans e)))) (HR0.out.keep hbW) HCN.out)
        have cellC : Hid (∀ W, LF (fun k => k = b ∨ k = bx) w4 W → W.cell? ⟨cb, 4, none⟩ = some (.slice co cn cc)) := hid' (fun W h => (h.ar HAC4.out (fun e => by
            rcases e with e | e
            · exact HCBX.out.1 e
            · exact HCBX.out.2 e)).cell 4 _ rfl)
        have HLX : Hid (LF (fun k => k = bx) w4 w4.drew) := hid' (LF.of_below ((Below.refl _ _).drew))
        have HLB : Hid (LF (fun k => k = b) w4 w4.drew) := hid' (LF.of_below ((Below.refl _ _).drew))
        clear hz hown4 hb4 y0 y1 y4 p0 p1
        have y4 := HAC4.out.cell 4 _ rfl
        go_upto_region 12 with fail
        go_region_with (first
          | (go_at_call 20; refine (codeC.out _ (by first | exact HLX.out | exact HFD.out)).mono ?_; rintro e wA ⟨rfl, hcA, hfA⟩; have HCA := hid' hcA; have HFA0 := hid' hfA; (try have HFA : Hid (LF (fun k => k = b) w4 wA) := hid' (lf_und hfA)); have y4A := cellC.out wA (by first | exact lf_two' (lf_und hfA) (LF.refl _ _) | exact lf_two2 HFD.out hfA); clear hcA hfA)
          | (go_at_call 21; refine (docC.out _ (by first | exact HLB.out | exact HFA.out)).mono ?_; rintro e wD ⟨rfl, hcD, hfD⟩; have HCD := hid' hcD; have HFD0 := hid' hfD; (try have HFD : Hid (LF (fun k => k = bx) w4 wD) := hid' (lf_und hfD)); have y4D := cellC.out wD (by first | exact lf_two2 (lf_und hfD) (LF.refl _ _) | exact lf_two' HFA.out hfD); clear hcD hfD)
          | (go_at_call 22; refine (keptC.out _ (by first | exact lf_two' HFA.out HFD0.out | exact lf_two2 HFD.out HFA0.out)).mono ?_; rintro e wK ⟨rfl, mK, hwK⟩; have HWK := hid' hwK; clear hwK))
        all_goals
          obtain ⟨mv2, hmv2⟩ : ∃ mv2, mv = mv2 := ⟨_, rfl⟩
          obtain ⟨u2, hu2⟩ : ∃ u2, u = u2 := ⟨_, rfl⟩
          have HP2 : Hid (P2 wK w.heap.size b bx mv2 v u2 l2) := hid' (by
            rw [HWK.out, ← hmv2, ← hu2]
            first
            | exact P2.drewN ⟨HCA.out.other HFD0.out (fun k hk e => ls_cs HP4.out.cm HP4.out.lm bx (.inl rfl) (e ▸ hk)), HCD.out⟩ _
            | exact P2.drewN ⟨HCA.out, HCD.out.other HFA0.out (fun k hk e => ls_cs HP4.out.cm HP4.out.lm k hk (.inl e))⟩ _)
          have HB2 : Hid (Below w.heap.size w wK) := hid' (by
            rw [HWK.out]
            refine bl_drewN (HB4.out.trans (LF.below (S := fun k => k = b ∨ k = bx) ?_ HB4.out.size (fun k hk => by
              rcases hk with hk | hk
              · rw [hk]; exact HP4.out.cm.lo
              · rw [hk]; exact HP4.out.lm.lo))) _
            first
            | exact lf_two' HFA.out HFD0.out
            | exact lf_two2 HFD.out HFA0.out)
          clear hmv2 hu2 y4 y4A y4D HCA HCD HWK HP HP3 HP4 HB HB3 HB4 HAC HAC4 HO4
          obtain ⟨nn, hnn⟩ : ∃ nn, l2.ids.length = nn := ⟨_, rfl⟩
          obtain ⟨vo, vc, hv2⟩ := own_shape HP2.out.lm.is
          rw [hnn] at hv2
          subst hv2
          have HNN := hid' hnn
          have x0 := HP2.out.lm.hd.cell 0 _ (lnC0 _ _ _ _)
          have hee : ((nn : Int) == (nn : Int)) = true := beq_self_eq_true _
          have hnb : nn ≤ 8796093022208 := by have := HLN2.out; omega
          clear hnn
          go_upto_region 20 with fail
          go_quiet ((go_at_call 23; exact Calls.quiet_of_same (clen_any w.heap.size b mv2 l2 _ (by first | exact HP2.out.cm | exact HP2.out.cm.drew | exact HP2.out.cm.drewN _) nn HNN.out)))
          go_wp2
          go_roundw
          case rel => exact ⟨i + 1, mv2, .slice vo nn vc, u2, l2, by go_num, by omega, hid' (HP2.out.drewN _), hid' (by have := HLN2.out; omega), hid' (bl_drewN HB2.out _)⟩
          case measure => simp [intOf]; omega

    · have hlt2 : ¬ (i : Int) < (N : Int) := by omega
      go_wp2_with fail
      refine (awake_any _).mono ?_
      rintro e w9 ⟨rfl, hb9⟩
      have HB9 := hid' (below_from HB.out hb9 HB.out.size)
      clear hb9
      go_wp2
      go_ret
      exact ⟨rfl, HB9.out⟩

end Go.Proofs.YtekpjbhhbklboaaDoor
