/-
  The law QueuePlays, by its contract: it returns true for every size and row of calls.
-/
import Derived.Test.YtdhiaiafdhoeeaaQuW
import Derived.Test.YtdhiaiafdhoeeaaQuPl
import Derived.Test.YtdhiaiafdhoeeaaQuC
import Derived.Deep.CutRange
namespace Go.Proofs.Ytdhiaiafdhoeeaa
open Go.RowKit

theorem lf_cd {c bx : Nat} {v : Value} {w w1 w2 : World} (h1 : LF (· = c) w w1) (h2 : LF (DS bx v) w1 w2) : LF (fun k => k = c ∨ DS bx v k) w w2 :=
  ⟨h2.os.trans h1.os, h2.tape.trans h1.tape, h2.output.trans h1.output, Nat.le_trans h1.size h2.size, fun k hk hn => (h2.block k (Nat.lt_of_lt_of_le hk h1.size) (fun h => hn (.inr h))).trans (h1.block k hk (fun h => hn (.inl h)))⟩
theorem lf_dc {c bx : Nat} {v : Value} {w w1 w2 : World} (h1 : LF (DS bx v) w w1) (h2 : LF (· = c) w1 w2) : LF (fun k => k = c ∨ DS bx v k) w w2 :=
  ⟨h2.os.trans h1.os, h2.tape.trans h1.tape, h2.output.trans h1.output, Nat.le_trans h1.size h2.size, fun k hk hn => (h2.block k (Nat.lt_of_lt_of_le hk h1.size) (fun h => hn (.inl h))).trans (h1.block k hk (fun h => hn (.inr h)))⟩

set_option maxHeartbeats 8000000 in
set_option maxRecDepth 20000 in
theorem queuePlays_no (z : Int) (sv : Value) (hz : z < 1 ∨ 65536 < z) (w : World) :
    Calls Try.prog 3 #[.int .i64 z, sv] w fun e w' => e = .returned (.bool true) ∧ Below w.heap.size w w' := by
  have HZ := hid' hz
  clear hz
  go_enter Try.func3, Try.ntmps3
  go_wp2_with fail
  refine (qnew_no_I z HZ.out _).mono ?_
  rintro _ w1 ⟨rfl, rfl⟩
  go_wp2_with fail
  refine (dnew_no z HZ.out _).mono ?_
  rintro _ w1 ⟨rfl, rfl⟩
  go_wp2_with fail
  refine (qawake _).mono ?_
  rintro _ w9 ⟨rfl, hb9⟩
  have HB9 := hid' hb9
  clear hb9
  go_wp2
  go_ret
  exact ⟨rfl, HB9.out⟩

set_option maxHeartbeats 8000000 in
set_option maxRecDepth 20000 in
theorem queuePlays_yes (size : Nat) (sv : Value) (cs : List Cl11) (hs1 : 1 ≤ size) (hs2 : size ≤ 65536) (w : World) (hsc : Scr11 w sv cs) (hlen : cs.length ≤ 140737488355328) (hw256 : ∀ c ∈ cs, c.what < 256) :
    Calls Try.prog 3 #[.int .i64 (size : Int), sv] w fun e w' => e = .returned (.bool true) ∧ Below w.heap.size w w' := by
  obtain ⟨ao, cap, hsv⟩ := hsc.shape
  subst hsv
  obtain ⟨N, hN⟩ : ∃ N, cs.length = N := ⟨_, rfl⟩
  have HN := hid' hN
  rw [hN] at hsc hlen ⊢
  have HSC := hid' hsc
  have HW := hid' hw256
  have HS1 := hid' hs1
  have HS2 := hid' hs2
  clear hN hsc hw256 hs1 hs2
  go_enter Try.func3, Try.ntmps3
  go_wp2_with fail
  refine (qnew_yes_I (OB (.slice none 0 0)) size HS1.out HS2.out _).mono ?_
  rintro _ w1 ⟨⟨b, c, rfl, hq1⟩, hb1⟩
  have HQ1 := hid' hq1
  have HB1 := hid' hb1
  clear hq1 hb1
  go_wp2_with fail
  refine (dnew_yes size HS1.out HS2.out _).mono ?_
  rintro _ w2 ⟨⟨bx, rfl, hd2⟩, hb2⟩
  have HP : Hid (QP w2 w.heap.size b c bx size (.slice none 0 0) []) := hid' ⟨HQ1.out.keep hb2, ⟨Nat.le_trans HB1.out.size hd2.ge, hd2.obj, sl_nil _ _ _ _⟩, Nat.zero_le _⟩
  have HB := hid' (below_two HB1.out hb2)
  clear hd2 hb2 HQ1 HB1
  go_wp2
  go_loopw [9] (fun s9 wr => ∃ (i : Nat) (v : Value) (xs : List Int), s9 = .int .i64 (i : Int) ∧ i ≤ N ∧ Hid (QP wr w.heap.size b c bx size v xs) ∧ Hid (Below w.heap.size w wr)) (fun s9 _ => N - (intOf s9).toNat)
  case atStart => exact ⟨0, _, _, rfl, Nat.zero_le _, HP, HB⟩
  case round =>
    clear HP HB
    obtain ⟨i, v, xs, rfl, hi, HP, HB⟩ := hrel
    by_cases hlt : i < N
    · have hlt2 : (i : Int) < (N : Int) := by omega
      obtain ⟨cl, hc⟩ : ∃ cl, cs[i]? = some cl := ⟨_, List.getElem?_eq_getElem (by rw [HN.out]; exact hlt)⟩
      have hw := HW.out cl (List.mem_of_getElem? hc)
      obtain ⟨a, hao, x0, x1⟩ := HSC.out.at HB.out i cl hc
      subst hao
      obtain ⟨q, x⟩ := cl
      simp only at x0 x1 hw
      clear hc
      go_upto_region 11 with fail
      have HAC : Hid (Ar (wr.alloc (.cells #[.int .u8 (q : Int), .int .i64 x] 32)) wr.heap.size 32 #[.int .u8 (q : Int), .int .i64 x]) := hid' (heap_alloc_last wr _)
      have HBC : Hid (Below wr.heap.size wr (wr.alloc (.cells #[.int .u8 (q : Int), .int .i64 x] 32))) := hid' ((Below.refl _ _).alloc (Nat.le_refl _) _)
      obtain ⟨cb, hcb⟩ : ∃ cb, wr.heap.size = cb := ⟨_, rfl⟩
      rw [hcb] at HAC ⊢
      generalize wr.alloc (.cells #[.int .u8 (q : Int), .int .i64 x] 32) = w3 at *
      have HP3 := hid' (HP.out.keep HBC.out)
      have HB3 := hid' (below_from HB.out HBC.out HB.out.size)
      have y0 := HAC.out.cell 0 _ rfl
      have y1 := HAC.out.cell 1 _ rfl
      have HNC : Hid (¬ (cb = c ∨ DS bx v cb)) := hid' (by
        rintro (h | h | h)
        · exact (HP3.out.cm.cells_ne HAC.out (by decide)).2 h
        · exact (HAC.out.apart' HP3.out.dm.obj (by decide)) h
        · exact (HP3.out.dm.row.ne HAC.out (by decide)) h)
      clear x0 x1 hcb HP HB HBC
      by_cases q0 : (q : Int).tmod 4 = 0
      · go_wp2_with fail
        obtain ⟨t, ys, hpo⟩ := putOf_ex size xs x
        have HPO := hid' hpo
        have htt : (t == t) = true := beq_self_eq_true _
        have codeC : Hid (∀ W, LF (DS bx v) w3 W → Calls Try.prog 10 #[.pointer (some ⟨b, 0, none⟩), .int .i64 x] W fun e w' => e = .returned (.bool t) ∧ QM 60 3 (OB v) w' w.heap.size b c size (ys.map qI) ∧ LF (· = c) W w') := hid' (fun W h => qput_I HPO.out (OB v) w.heap.size b c W (HP3.out.cmOf h) (HP3.out.hX h.size))
        have docC : Hid (∀ W, LF (· = c) w3 W → Calls Try.prog 11 #[.pointer (some ⟨bx, 0, none⟩), .int .i64 x] W fun e w' => e = .returned (.bool t) ∧ ∃ v', DM w' w.heap.size bx size v' ys.length (ys.map qI) ∧ LF (DS bx v) W w' ∧ ∀ k, v'.ownBlock = some k → v.ownBlock = some k ∨ W.heap.size ≤ k) := hid' (fun W h => dput_I HPO.out HS2.out w.heap.size bx v W (HP3.out.dmOf h))
        have cellC : Hid (∀ W, LF (fun k => k = c ∨ DS bx v k) w3 W → W.cell? ⟨cb, 1, none⟩ = some (.int .i64 x)) := hid' (fun W h => (h.ar HAC.out HNC.out).cell 1 _ rfl)
        have HLX : Hid (LF (DS bx v) w3 w3.drew) := hid' (LF.of_below ((Below.refl _ _).drew))
        have HLB : Hid (LF (· = c) w3 w3.drew) := hid' (LF.of_below ((Below.refl _ _).drew))
        clear hpo
        go_upto_region 16 with fail
        go_region_with (first
          | (go_at_call 10; refine (codeC.out _ (by first | exact HLX.out | exact HFD.out)).mono ?_; rintro e wA ⟨rfl, hcA, hfA⟩; have HCA := hid' hcA; have HFA0 := hid' hfA; (try have HFA : Hid (LF (· = c) w3 wA) := hid' (lf_und11 hfA)); have y1A := cellC.out wA (by first | exact lf_cd (lf_und11 hfA) (LF.refl _ _) | exact lf_dc HFD.out hfA); clear hcA hfA)
          | (go_at_call 11; refine (docC.out _ (by first | exact HLB.out | exact HFA.out)).mono ?_; rintro e wD ⟨rfl, v2, hcD, hfD, hvD⟩; have HVD := hid' hvD; have HCD := hid' hcD; have HFD0 := hid' hfD; (try have HFD : Hid (LF (DS bx v) w3 wD) := hid' (lf_und11 hfD)); have y1D := cellC.out wD (by first | exact lf_dc (lf_und11 hfD) (LF.refl _ _) | exact lf_cd HFA.out hfD); clear hcD hfD hvD))
        all_goals
          have HP2 : Hid (QP wD w.heap.size b c bx size v2 ys) := hid' (HP3.out.made HFA.out HCA.out HFD0.out HCD.out HVD.out (HPO.out.le HP3.out.le))
          have HB2 : Hid (Below w.heap.size w wD) := hid' ((HB3.out.trans (HP3.out.lfc HFA.out)).trans (HFD0.out.below (Nat.le_trans HP3.out.cm.lb (Nat.le_of_lt HCA.out.hd.lt)) HP3.out.dm.ds))
          clear HCA HFA0 HFA y1A HCD HVD HFD0 y1D codeC docC cellC HLX HLB HP3 HB3 HAC HNC y0 y1 HPO
          obtain ⟨nn, hnn⟩ : ∃ nn, ys.length = nn := ⟨_, rfl⟩
          obtain ⟨vo, vc, hv2, _⟩ := HP2.out.dm.row.shape
          rw [hnn] at hv2
          subst hv2
          have HNN := hid' hnn
          have hle : nn ≤ size := by rw [← hnn]; exact HP2.out.le
          obtain ⟨rm, hrm⟩ : ∃ rm : Nat, (size : Int) - (nn : Int) = (rm : Int) := ⟨size - nn, by omega⟩
          have z1 := HP2.out.dm.obj.cell 1 _ rfl
          have hee : ((nn : Int) == (nn : Int)) = true := beq_self_eq_true _
          have hrr : ((rm : Int) == (rm : Int)) = true := beq_self_eq_true _
          have hrw : IntKind.i64.wrap (rm : Int) = (rm : Int) := wrapQ _ (by omega) (by have := HS2.out; omega)
          have HRM := hid' hrm
          have HLE := hid' hle
          have lenC : Hid (∀ W, QM 60 3 (OB (.slice vo nn vc)) W w.heap.size b c size (ys.map qI) → Calls Try.prog 17 #[.pointer (some ⟨b, 0, none⟩)] W fun e w' => e = .returned (.int .i64 (nn : Int)) ∧ w' = W) := hid' (fun W h => by
            have := qlen_I _ w.heap.size b c size _ W h
            rw [List.length_map, HNN.out] at this
            exact this)
          have roomC : Hid (∀ W, QM 60 3 (OB (.slice vo nn vc)) W w.heap.size b c size (ys.map qI) → Calls Try.prog 18 #[.pointer (some ⟨b, 0, none⟩)] W fun e w' => e = .returned (.int .i64 (rm : Int)) ∧ ∃ q, w' = W.drewN q) := hid' (fun W h => by
            have := qroom_I _ w.heap.size b c size _ W h (by rw [List.length_map]; exact HP2.out.le) HS2.out
            rw [List.length_map, HNN.out, HRM.out] at this
            exact this)
          clear hnn hle
          go_upto_region 23 with fail
          go_quiet (first
            | (go_at_call 17; exact Calls.quiet_of_same (lenC.out _ (HP2.out.drewN _).cm))
            | (go_at_call 18; exact Calls.quiet_of (roomC.out _ (HP2.out.drewN _).cm)))
          go_wp2
          go_roundw
          case rel => exact ⟨i + 1, .slice vo nn vc, ys, by go_num, by omega, hid' (HP2.out.drewN _), hid' (bl_drewN11 HB2.out _)⟩
          case measure => simp [intOf]; omega
      by_cases q1 : (q : Int).tmod 4 = 1
      · go_wp2_with fail
        obtain ⟨t, ys, hpo⟩ := putOf_ex size xs x
        have HPO := hid' hpo
        have htt : (t == t) = true := beq_self_eq_true _
        have codeC : Hid (∀ W, LF (DS bx v) w3 W → Calls Try.prog 10 #[.pointer (some ⟨b, 0, none⟩), .int .i64 x] W fun e w' => e = .returned (.bool t) ∧ QM 60 3 (OB v) w' w.heap.size b c size (ys.map qI) ∧ LF (· = c) W w') := hid' (fun W h => qput_I HPO.out (OB v) w.heap.size b c W (HP3.out.cmOf h) (HP3.out.hX h.size))
        have docC : Hid (∀ W, LF (· = c) w3 W → Calls Try.prog 11 #[.pointer (some ⟨bx, 0, none⟩), .int .i64 x] W fun e w' => e = .returned (.bool t) ∧ ∃ v', DM w' w.heap.size bx size v' ys.length (ys.map qI) ∧ LF (DS bx v) W w' ∧ ∀ k, v'.ownBlock = some k → v.ownBlock = some k ∨ W.heap.size ≤ k) := hid' (fun W h => dput_I HPO.out HS2.out w.heap.size bx v W (HP3.out.dmOf h))
        have cellC : Hid (∀ W, LF (fun k => k = c ∨ DS bx v k) w3 W → W.cell? ⟨cb, 1, none⟩ = some (.int .i64 x)) := hid' (fun W h => (h.ar HAC.out HNC.out).cell 1 _ rfl)
        have HLX : Hid (LF (DS bx v) w3 w3.drew) := hid' (LF.of_below ((Below.refl _ _).drew))
        have HLB : Hid (LF (· = c) w3 w3.drew) := hid' (LF.of_below ((Below.refl _ _).drew))
        clear hpo
        go_upto_region 16 with fail
        go_region_with (first
          | (go_at_call 10; refine (codeC.out _ (by first | exact HLX.out | exact HFD.out)).mono ?_; rintro e wA ⟨rfl, hcA, hfA⟩; have HCA := hid' hcA; have HFA0 := hid' hfA; (try have HFA : Hid (LF (· = c) w3 wA) := hid' (lf_und11 hfA)); have y1A := cellC.out wA (by first | exact lf_cd (lf_und11 hfA) (LF.refl _ _) | exact lf_dc HFD.out hfA); clear hcA hfA)
          | (go_at_call 11; refine (docC.out _ (by first | exact HLB.out | exact HFA.out)).mono ?_; rintro e wD ⟨rfl, v2, hcD, hfD, hvD⟩; have HVD := hid' hvD; have HCD := hid' hcD; have HFD0 := hid' hfD; (try have HFD : Hid (LF (DS bx v) w3 wD) := hid' (lf_und11 hfD)); have y1D := cellC.out wD (by first | exact lf_dc (lf_und11 hfD) (LF.refl _ _) | exact lf_cd HFA.out hfD); clear hcD hfD hvD))
        all_goals
          have HP2 : Hid (QP wD w.heap.size b c bx size v2 ys) := hid' (HP3.out.made HFA.out HCA.out HFD0.out HCD.out HVD.out (HPO.out.le HP3.out.le))
          have HB2 : Hid (Below w.heap.size w wD) := hid' ((HB3.out.trans (HP3.out.lfc HFA.out)).trans (HFD0.out.below (Nat.le_trans HP3.out.cm.lb (Nat.le_of_lt HCA.out.hd.lt)) HP3.out.dm.ds))
          clear HCA HFA0 HFA y1A HCD HVD HFD0 y1D codeC docC cellC HLX HLB HP3 HB3 HAC HNC y0 y1 HPO
          obtain ⟨nn, hnn⟩ : ∃ nn, ys.length = nn := ⟨_, rfl⟩
          obtain ⟨vo, vc, hv2, _⟩ := HP2.out.dm.row.shape
          rw [hnn] at hv2
          subst hv2
          have HNN := hid' hnn
          have hle : nn ≤ size := by rw [← hnn]; exact HP2.out.le
          obtain ⟨rm, hrm⟩ : ∃ rm : Nat, (size : Int) - (nn : Int) = (rm : Int) := ⟨size - nn, by omega⟩
          have z1 := HP2.out.dm.obj.cell 1 _ rfl
          have hee : ((nn : Int) == (nn : Int)) = true := beq_self_eq_true _
          have hrr : ((rm : Int) == (rm : Int)) = true := beq_self_eq_true _
          have hrw : IntKind.i64.wrap (rm : Int) = (rm : Int) := wrapQ _ (by omega) (by have := HS2.out; omega)
          have HRM := hid' hrm
          have HLE := hid' hle
          have lenC : Hid (∀ W, QM 60 3 (OB (.slice vo nn vc)) W w.heap.size b c size (ys.map qI) → Calls Try.prog 17 #[.pointer (some ⟨b, 0, none⟩)] W fun e w' => e = .returned (.int .i64 (nn : Int)) ∧ w' = W) := hid' (fun W h => by
            have := qlen_I _ w.heap.size b c size _ W h
            rw [List.length_map, HNN.out] at this
            exact this)
          have roomC : Hid (∀ W, QM 60 3 (OB (.slice vo nn vc)) W w.heap.size b c size (ys.map qI) → Calls Try.prog 18 #[.pointer (some ⟨b, 0, none⟩)] W fun e w' => e = .returned (.int .i64 (rm : Int)) ∧ ∃ q, w' = W.drewN q) := hid' (fun W h => by
            have := qroom_I _ w.heap.size b c size _ W h (by rw [List.length_map]; exact HP2.out.le) HS2.out
            rw [List.length_map, HNN.out, HRM.out] at this
            exact this)
          clear hnn hle
          go_upto_region 23 with fail
          go_quiet (first
            | (go_at_call 17; exact Calls.quiet_of_same (lenC.out _ (HP2.out.drewN _).cm))
            | (go_at_call 18; exact Calls.quiet_of (roomC.out _ (HP2.out.drewN _).cm)))
          go_wp2
          go_roundw
          case rel => exact ⟨i + 1, .slice vo nn vc, ys, by go_num, by omega, hid' (HP2.out.drewN _), hid' (bl_drewN11 HB2.out _)⟩
          case measure => simp [intOf]; omega
      by_cases q2 : (q : Int).tmod 4 = 2
      · skip
        obtain ⟨y, t, ys, hto⟩ := takeOf_ex (0 : Int) xs
        have HTO := hid' hto
        have htt : (t == t) = true := beq_self_eq_true _
        have hyy : (y == y) = true := beq_self_eq_true _
        clear hto
        go_wp2_with fail
        refine (qtake_I HTO.out _ w.heap.size b c w3 HP3.out.cm).mono ?_
        rintro _ wA ⟨rfl, hcA, hfA⟩
        have HDA := hid' (HP3.out.dmOf hfA)
        have HCA := hid' hcA
        have HFA := hid' hfA
        clear hcA hfA
        go_wp2_with fail
        refine (dtake_I HTO.out w.heap.size bx v wA HDA.out).mono ?_
        rintro _ wD ⟨rfl, v2, hcD, hfD, hvD⟩
        have HCD := hid' hcD
        have HFD0 := hid' hfD
        have HP2 : Hid (QP wD w.heap.size b c bx size v2 ys) := hid' (HP3.out.made HFA.out HCA.out HFD0.out HCD.out hvD (HTO.out.le HP3.out.le))
        have HB2 : Hid (Below w.heap.size w wD) := hid' ((HB3.out.trans (HP3.out.lfc HFA.out)).trans (HFD0.out.below (Nat.le_trans HP3.out.cm.lb (Nat.le_of_lt HCA.out.hd.lt)) HP3.out.dm.ds))
        clear hcD hfD hvD HCA HFA HDA HCD HFD0 HP3 HB3 HAC HNC y0 y1 HTO
        obtain ⟨nn, hnn⟩ : ∃ nn, ys.length = nn := ⟨_, rfl⟩
        obtain ⟨vo, vc, hv2, _⟩ := HP2.out.dm.row.shape
        rw [hnn] at hv2
        subst hv2
        have HNN := hid' hnn
        have hle : nn ≤ size := by rw [← hnn]; exact HP2.out.le
        obtain ⟨rm, hrm⟩ : ∃ rm : Nat, (size : Int) - (nn : Int) = (rm : Int) := ⟨size - nn, by omega⟩
        have z1 := HP2.out.dm.obj.cell 1 _ rfl
        have hee : ((nn : Int) == (nn : Int)) = true := beq_self_eq_true _
        have hrr : ((rm : Int) == (rm : Int)) = true := beq_self_eq_true _
        have hrw : IntKind.i64.wrap (rm : Int) = (rm : Int) := wrapQ _ (by omega) (by have := HS2.out; omega)
        have HRM := hid' hrm
        have HLE := hid' hle
        have lenC : Hid (∀ W, QM 60 3 (OB (.slice vo nn vc)) W w.heap.size b c size (ys.map qI) → Calls Try.prog 17 #[.pointer (some ⟨b, 0, none⟩)] W fun e w' => e = .returned (.int .i64 (nn : Int)) ∧ w' = W) := hid' (fun W h => by
          have := qlen_I _ w.heap.size b c size _ W h
          rw [List.length_map, HNN.out] at this
          exact this)
        have roomC : Hid (∀ W, QM 60 3 (OB (.slice vo nn vc)) W w.heap.size b c size (ys.map qI) → Calls Try.prog 18 #[.pointer (some ⟨b, 0, none⟩)] W fun e w' => e = .returned (.int .i64 (rm : Int)) ∧ ∃ q, w' = W.drewN q) := hid' (fun W h => by
          have := qroom_I _ w.heap.size b c size _ W h (by rw [List.length_map]; exact HP2.out.le) HS2.out
          rw [List.length_map, HNN.out, HRM.out] at this
          exact this)
        clear hnn hle
        go_upto_region 23 with fail
        go_quiet (first
          | (go_at_call 17; exact Calls.quiet_of_same (lenC.out _ (HP2.out.drewN _).cm))
          | (go_at_call 18; exact Calls.quiet_of (roomC.out _ (HP2.out.drewN _).cm)))
        go_wp2
        go_roundw
        case rel => exact ⟨i + 1, .slice vo nn vc, ys, by go_num, by omega, hid' (HP2.out.drewN _), hid' (bl_drewN11 HB2.out _)⟩
        case measure => simp [intOf]; omega
      · have q3 : (q : Int).tmod 4 = 3 := by rw [Int.tmod_eq_emod_of_nonneg (by omega)] at *; omega
        obtain ⟨dn, hdn⟩ : ∃ dn, xs.length = dn := ⟨_, rfl⟩
        have HDN := hid' hdn
        obtain ⟨wo, wc, hwv, _⟩ := HP3.out.dm.row.shape
        rw [hdn] at hwv
        subst hwv
        clear hdn
        go_wp2_with fail
        refine (qdrain_I _ w.heap.size b c size xs dn HDN.out (by have := HP3.out.le; have := HS2.out; have := HDN.out; omega) w3 HP3.out.cm).mono ?_
        rintro _ wA ⟨ro, rc, rfl, hrA, hcA, hfA⟩
        have HRA := hid' hrA
        have HDA := hid' (HP3.out.dmOf hfA)
        have HCA := hid' hcA
        have HFA := hid' hfA
        clear hcA hfA hrA
        go_wp2_with fail
        refine (ddrain w.heap.size bx size _ _ _ wA HDA.out).mono ?_
        rintro _ wD ⟨rfl, hcD, hsD, hfD⟩
        have HCD := hid' hcD
        have HFD0 := hid' hfD
        have HSD := hid' hsD
        have HRD : Hid (wD.ownsRow w3.heap.size 3 1 (.slice ro dn rc) dn (xs.map qI)) := hid' (own_same HRA.out (fun k hk => hfD.block k (own_lt HRA.out k hk) (fun hd => by
          have h1 := (own_ty HRA.out k hk).1
          rcases hd with rfl | hd
          · have := HP3.out.dm.obj.lt; omega
          · have := (HP3.out.dm.row.lt k hd).2; omega)))
        clear hcD hfD hsD
        go_wp2_with fail
        refine (qsame ro wo rc wc dn xs HDN.out wD (RQ.of_own HRD.out) (by have h := RQ.of_sl HSD.out; rw [HDN.out] at h; exact h) (by have := HP3.out.le; have := HS2.out; have := HDN.out; omega)).mono ?_
        rintro _ wK ⟨rfl, mK, hwK⟩
        obtain ⟨ys, hys⟩ : ∃ ys : List Int, ys = [] := ⟨_, rfl⟩
        obtain ⟨v2, hv0⟩ : ∃ v2 : Value, v2 = .slice none 0 0 := ⟨_, rfl⟩
        have HP2 : Hid (QP wK w.heap.size b c bx size v2 ys) := hid' (by
          rw [hwK, hys, hv0]
          exact QP.drewN (HP3.out.made (ys := []) HFA.out HCA.out HFD0.out HCD.out (fun k hk => by simp [Value.ownBlock] at hk) (Nat.zero_le _)) _)
        have HB2 : Hid (Below w.heap.size w wK) := hid' (by
          rw [hwK]
          exact bl_drewN11 ((HB3.out.trans (HP3.out.lfc HFA.out)).trans (HFD0.out.below (Nat.le_trans HP3.out.cm.lb (Nat.le_of_lt HCA.out.hd.lt)) HP3.out.dm.ds)) _)
        clear hwK hys hv0 HCA HFA HDA HCD HFD0 HSD HRA HRD HP3 HB3 HAC HNC y0 y1 HDN
        obtain ⟨nn, hnn⟩ : ∃ nn, ys.length = nn := ⟨_, rfl⟩
        obtain ⟨vo, vc, hv2, _⟩ := HP2.out.dm.row.shape
        rw [hnn] at hv2
        subst hv2
        have HNN := hid' hnn
        have hle : nn ≤ size := by rw [← hnn]; exact HP2.out.le
        obtain ⟨rm, hrm⟩ : ∃ rm : Nat, (size : Int) - (nn : Int) = (rm : Int) := ⟨size - nn, by omega⟩
        have z1 := HP2.out.dm.obj.cell 1 _ rfl
        have hee : ((nn : Int) == (nn : Int)) = true := beq_self_eq_true _
        have hrr : ((rm : Int) == (rm : Int)) = true := beq_self_eq_true _
        have hrw : IntKind.i64.wrap (rm : Int) = (rm : Int) := wrapQ _ (by omega) (by have := HS2.out; omega)
        have HRM := hid' hrm
        have HLE := hid' hle
        have lenC : Hid (∀ W, QM 60 3 (OB (.slice vo nn vc)) W w.heap.size b c size (ys.map qI) → Calls Try.prog 17 #[.pointer (some ⟨b, 0, none⟩)] W fun e w' => e = .returned (.int .i64 (nn : Int)) ∧ w' = W) := hid' (fun W h => by
          have := qlen_I _ w.heap.size b c size _ W h
          rw [List.length_map, HNN.out] at this
          exact this)
        have roomC : Hid (∀ W, QM 60 3 (OB (.slice vo nn vc)) W w.heap.size b c size (ys.map qI) → Calls Try.prog 18 #[.pointer (some ⟨b, 0, none⟩)] W fun e w' => e = .returned (.int .i64 (rm : Int)) ∧ ∃ q, w' = W.drewN q) := hid' (fun W h => by
          have := qroom_I _ w.heap.size b c size _ W h (by rw [List.length_map]; exact HP2.out.le) HS2.out
          rw [List.length_map, HNN.out, HRM.out] at this
          exact this)
        clear hnn hle
        go_upto_region 23 with fail
        go_quiet (first
          | (go_at_call 17; exact Calls.quiet_of_same (lenC.out _ (HP2.out.drewN _).cm))
          | (go_at_call 18; exact Calls.quiet_of (roomC.out _ (HP2.out.drewN _).cm)))
        go_wp2
        go_roundw
        case rel => exact ⟨i + 1, .slice vo nn vc, ys, by go_num, by omega, hid' (HP2.out.drewN _), hid' (bl_drewN11 HB2.out _)⟩
        case measure => simp [intOf]; omega
    · have hlt2 : ¬ (i : Int) < (N : Int) := by omega
      go_wp2_with fail
      refine (qawake _).mono ?_
      rintro _ w9 ⟨rfl, hb9⟩
      have HB9 := hid' (below_from HB.out hb9 HB.out.size)
      clear hb9
      go_wp2
      go_ret
      exact ⟨rfl, HB9.out⟩

theorem queuePlays_any (z : Int) (sv : Value) (cs : List Cl11) (w : World) (hsc : Scr11 w sv cs) (hlen : cs.length ≤ 140737488355328) (hw256 : ∀ c ∈ cs, c.what < 256) :
    Calls Try.prog 3 #[.int .i64 z, sv] w fun e w' => e = .returned (.bool true) ∧ Below w.heap.size w w' := by
  by_cases hz : z < 1 ∨ 65536 < z
  · exact queuePlays_no z sv hz w
  · obtain ⟨n, rfl⟩ : ∃ n : Nat, z = (n : Int) := ⟨z.toNat, by omega⟩
    exact queuePlays_yes n sv cs (by omega) (by omega) w hsc hlen hw256

end Go.Proofs.Ytdhiaiafdhoeeaa
