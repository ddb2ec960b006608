/-
  TablePlays answers true.
-/
import Derived.Test.YtjpgnifogacpcaaTabPR
namespace Go.Proofs.Ytjpgnifogacpcaa
open Go.RowKit

theorem scr_shape {w : World} {v : Value} {cs : List Cl} (h : Scr w v cs) : ∃ ao cap, v = .slice ao cs.length cap := by
  rcases h with ⟨hv, h0⟩ | ⟨a, cap, hv, _⟩
  · exact ⟨none, 0, by rw [hv, h0]; rfl⟩
  · exact ⟨_, _, hv⟩

set_option maxHeartbeats 8000000 in
set_option maxRecDepth 20000 in
theorem tablePlays_true (most : Int) (sv : Value) (cs : List Cl) (w : World) (hsc : Scr w sv cs) (hwc : ∀ c ∈ cs, c.what < 256 ∧ (-9223372036854775808 ≤ c.num ∧ c.num ≤ 9223372036854775807)) (hlen : cs.length ≤ 140737488355328) (htx : ∀ c ∈ cs, c.name.length ≤ 140737488355328 ∧ c.val.length ≤ 140737488355328) :
    Calls Try.prog 3 #[.int .i64 most, sv] w fun e w' => e = .returned (.bool true) ∧ Below w.heap.size w w' := by
  have HSC := hid' hsc
  have HWC := hid' hwc
  have HTX := hid' htx
  obtain ⟨ao, cap, rfl⟩ := scr_shape hsc
  clear hsc hwc htx
  by_cases hm : most < 0 ∨ 65536 < most
  · have HM := hid' hm
    clear hm
    go_enter Try.func3, Try.ntmps3
    go_wp2_with fail
    refine (cnew_no most HM.out _).mono ?_
    rintro e w1 ⟨rfl, rfl⟩
    go_wp2_with fail
    refine (rnew_no most HM.out _).mono ?_
    rintro e w2 ⟨rfl, rfl⟩
    go_wp2_with fail
    refine (awake_any _).mono ?_
    rintro e w3 ⟨rfl, hb3⟩
    go_wp2
    go_ret
    exact ⟨rfl, hb3⟩
  · obtain ⟨M0, hM0, hM1⟩ : ∃ M0 : Nat, most = (M0 : Int) ∧ M0 ≤ 65536 := ⟨most.toNat, by omega, by omega⟩
    subst hM0
    clear hm
    have hM2 : (M0 : Int) ≤ 65536 := by omega
    have HM1 := hid' hM1
    go_enter Try.func3, Try.ntmps3
    go_wp2_with fail
    refine (cnew_yes M0 hM1 w.heap.size _ (Nat.le_refl _)).mono ?_
    rintro e w1 ⟨rfl, hC1, hb1⟩
    go_wp2_with fail
    refine (rnew_yes (M0 : Int) (by omega) hM2 w.heap.size _ hb1.size).mono ?_
    rintro e w2 ⟨rfl, hR2, hb2⟩
    obtain ⟨b, hb⟩ : ∃ b, w.heap.size = b := ⟨_, rfl⟩
    obtain ⟨c, hc⟩ : ∃ c, w1.heap.size = c := ⟨_, rfl⟩
    have HP0 : Hid (PR w w2 b c (.slice none 0 0) (.slice none 0 0) M0 M0 [] []) := hid' ⟨by have := hC1.keep hb2; rw [hb] at this ⊢; exact this, by rw [← hc]; exact hR2, by simp [Value.ownBlock], below_two hb1 hb2⟩
    have HBL := hid' (below_two hb1 hb2)
    rw [hb, hc]
    clear hC1 hb1 hb2 hR2
    go_wp2
    go_loopw [9] (fun s9 wr => ∃ i : Nat, s9 = .int .i64 (i : Int) ∧ i ≤ cs.length ∧ Hid (∃ v u M fs, PR w wr b c v u M M fs fs ∧ M ≤ 65536 ∧ Tb.size fs ≤ M)) (fun s9 _ => cs.length - (intOf s9).toNat)
    case atStart => exact ⟨0, rfl, Nat.zero_le _, hid' ⟨_, _, M0, [], HP0.out, HM1.out, by simp [Tb.size]⟩⟩
    case round =>
      clear HP0 HBL
      obtain ⟨i, rfl, hil, HI⟩ := hrel
      obtain ⟨v, u, M, fs, hP, hM, hS⟩ := HI.out
      have HP := hid' hP
      clear hP HI
      by_cases hlt : i < cs.length
      · have hlt2 : decide ((i : Int) < (cs.length : Int)) = true := decide_eq_true (by omega)
        obtain ⟨cl, hcl⟩ : ∃ cl, cs[i]? = some cl := ⟨_, List.getElem?_eq_getElem hlt⟩
        have hmem : cl ∈ cs := List.mem_of_getElem? hcl
        obtain ⟨hw256, hn0, hn1⟩ := HWC.out cl hmem
        obtain ⟨ht0, ht1⟩ := HTX.out cl hmem
        obtain ⟨a, rfl⟩ : ∃ a, ao = some a := by
          rcases HSC.out with ⟨hv, h0⟩ | ⟨a, _, hv, _⟩
          · subst h0; simp at hlt
          · exact ⟨a, by simp at hv; exact hv.1⟩
        have hcell : (a.add (i * 4)).block < w.heap.size ∧ w.cell? (a.add (i * 4)) = some (.int .u8 (cl.what : Int)) ∧ w.cell? ⟨(a.add (i * 4)).block, (a.add (i * 4)).off + 1, none⟩ = some (.int .i64 cl.num) ∧ w.cell? ⟨(a.add (i * 4)).block, (a.add (i * 4)).off + 2, none⟩ = some (.string ⟨cl.name.toArray⟩) ∧ w.cell? ⟨(a.add (i * 4)).block, (a.add (i * 4)).off + 3, none⟩ = some (.string ⟨cl.val.toArray⟩) := by
          rcases HSC.out with ⟨hv, _⟩ | ⟨a', cap', hv, hh⟩
          · cases hv
          · simp at hv
            obtain ⟨rfl, _⟩ := hv
            exact hh i cl hcl
        obtain ⟨kb, k0, k1, k2, k3⟩ := hcell
        have HBW := hid' HP.out.bel
        have c0 := (HBW.out.cell (p := a.add (i * 4)) kb).trans k0
        have c1 := (HBW.out.cell (p := ⟨(a.add (i * 4)).block, (a.add (i * 4)).off + 1, none⟩) kb).trans k1
        have c2 := (HBW.out.cell (p := ⟨(a.add (i * 4)).block, (a.add (i * 4)).off + 2, none⟩) kb).trans k2
        have c3 := (HBW.out.cell (p := ⟨(a.add (i * 4)).block, (a.add (i * 4)).off + 3, none⟩) kb).trans k3
        obtain ⟨what, num, name, val⟩ := cl
        simp only at c0 c1 c2 c3 hw256 hn0 hn1 ht0 ht1
        clear k0 k1 k2 k3 hcl hmem
        have hb0 : Below wr.heap.size wr (wr.alloc (.cells #[.int .u8 (what : Int), .int .i64 num, .string ⟨name.toArray⟩, .string ⟨val.toArray⟩] 34)) := (Below.refl _ _).alloc (Nat.le_refl _) _
        have HX0 : Hid (Ar (wr.alloc (.cells #[.int .u8 (what : Int), .int .i64 num, .string ⟨name.toArray⟩, .string ⟨val.toArray⟩] 34)) wr.heap.size 34 #[.int .u8 (what : Int), .int .i64 num, .string ⟨name.toArray⟩, .string ⟨val.toArray⟩]) := hid' (heap_alloc_last wr _)
        have HP0 := hid' (HP.out.keep hb0)
        have hxb0 : wr.heap.size ≠ b := by have := HP.out.tab.ring.obj.lt; omega
        have hxc0 : wr.heap.size ≠ c := by have := HP.out.ref.obj.lt; omega
        have hSb : Tb.size fs ≤ 1048576 := by omega
        have HSB := hid' hSb
        obtain ⟨k, hk⟩ : ∃ k, Tb.wt (name, val) = k := ⟨_, rfl⟩
        have hkb : k ≤ 562949953421312 := by rw [← hk]; unfold Tb.wt; simp only; omega
        have HK := hid' hk
        have HSM := hid' hS
        have HMB := hid' hM
        clear hb0 hk HP hSb hS
        go_wp2_with fail
        all_goals
          clear c0 c1 c2 c3
          obtain ⟨xb, hxb⟩ : ∃ xb, wr.heap.size = xb := ⟨_, rfl⟩
          rw [hxb] at HX0 hxb0 hxc0 ⊢
          generalize wr.alloc (.cells #[.int .u8 (what : Int), .int .i64 num, .string ⟨name.toArray⟩, .string ⟨val.toArray⟩] 34) = w0 at *
        · -- Add
          have x2 : w0.cell? ⟨xb, 2, none⟩ = some (.string ⟨name.toArray⟩) := HX0.out.cell 2 _ rfl
          have x3 : w0.cell? ⟨xb, 3, none⟩ = some (.string ⟨val.toArray⟩) := HX0.out.cell 3 _ rfl
          refine (cadd_any w.heap.size b v M fs name val _ HP0.out.tab hM HSB.out HP0.out.le ht0 ht1).mono ?_
          rintro e w1 ⟨rfl, v1, hC1, hv1, hT1⟩
          have HP1 := hid' (HP0.out.ofC hT1 hC1 hv1)
          have HX1 := hid' (HP0.out.arC hT1 HX0.out hxb0 (by decide))
          clear hC1 hv1 hT1 x2 x3
          have x2 : w1.cell? ⟨xb, 2, none⟩ = some (.string ⟨name.toArray⟩) := HX1.out.cell 2 _ rfl
          have x3 : w1.cell? ⟨xb, 3, none⟩ = some (.string ⟨val.toArray⟩) := HX1.out.cell 3 _ rfl
          go_wp2_with fail
          refine (radd_any w.heap.size c u M fs name val _ HP1.out.ref hM HSB.out HP1.out.le (by rw [HK.out]; omega)).mono ?_
          rintro e w2 ⟨rfl, u2, hR2, hu2, hg2⟩
          have HP2 := hid' (HP1.out.ofR hg2 hR2 hu2)
          have HX2 := hid' (HP1.out.arR hg2 HX1.out hxc0)
          clear hR2 hu2 hg2 x2 x3 HP1 HX1
          have HPE := HP2
          have HXE := HX2
          have HSE : Hid (Tb.size (Tb.add M fs (name, val)) ≤ M) := hid' (Tb.add_size _ _ _)
          obtain ⟨gsE, hgs⟩ : ∃ gsE, Tb.add M fs (name, val) = gsE := ⟨_, rfl⟩
          obtain ⟨ME, hME⟩ : ∃ ME : Nat, M = ME := ⟨_, rfl⟩
          rw [hgs, hME] at HPE
          rw [hgs, hME] at HSE
          have HMBE : Hid (ME ≤ 65536) := hid' (by rw [← hME]; omega)
          obtain ⟨Z, hZ⟩ : ∃ Z, Tb.size gsE = Z := ⟨_, rfl⟩
          obtain ⟨LE, hLE⟩ : ∃ LE, gsE.length = LE := ⟨_, rfl⟩
          have HZ := hid' hZ
          have HLE := hid' hLE
          have hZb : Z ≤ 65536 := by have := HSE.out; have := HMBE.out; omega
          have HZB := hid' hZb
          have hLb : LE ≤ 65536 := by have := Tb.size_len gsE; omega
          obtain ⟨aoE, capE, hue⟩ := HPE.out.shape
          rw [hLE] at hue
          have HUE := hid' hue
          clear hgs hME hZ hLE hZb hue
          clear HP0 HX0 HSM HSB HMB
          have r0 : w2.cell? ⟨c, 0, none⟩ = some (.int .i64 (ME : Int)) := HPE.out.ref.obj.cell 0 _ rfl
          have r1 : w2.cell? ⟨c, 1, none⟩ = some (.slice aoE LE capE) := by rw [← HUE.out]; exact HPE.out.ref.obj.cell 1 _ rfl
          have x2 : w2.cell? ⟨xb, 2, none⟩ = some (.string ⟨name.toArray⟩) := HXE.out.cell 2 _ rfl
          have x3 : w2.cell? ⟨xb, 3, none⟩ = some (.string ⟨val.toArray⟩) := HXE.out.cell 3 _ rfl
          go_wp2
          have hSS : Below w2.heap.size w2 w2 ∧ w2.cell? ⟨xb, 2, none⟩ = some (.string ⟨name.toArray⟩) ∧ w2.cell? ⟨xb, 3, none⟩ = some (.string ⟨val.toArray⟩) ∧ w2.cell? ⟨c, 0, none⟩ = some (.int .i64 (ME : Int)) ∧ w2.cell? ⟨c, 1, none⟩ = some (.slice aoE LE capE) := ⟨Below.refl _ _, x2, x3, r0, r1⟩
          have sOf : ∀ W W1 : World, (Below w2.heap.size w2 W ∧ W.cell? ⟨xb, 2, none⟩ = some (.string ⟨name.toArray⟩) ∧ W.cell? ⟨xb, 3, none⟩ = some (.string ⟨val.toArray⟩) ∧ W.cell? ⟨c, 0, none⟩ = some (.int .i64 (ME : Int)) ∧ W.cell? ⟨c, 1, none⟩ = some (.slice aoE LE capE)) → Below W.heap.size W W1 → Below w2.heap.size w2 W1 ∧ W1.cell? ⟨xb, 2, none⟩ = some (.string ⟨name.toArray⟩) ∧ W1.cell? ⟨xb, 3, none⟩ = some (.string ⟨val.toArray⟩) ∧ W1.cell? ⟨c, 0, none⟩ = some (.int .i64 (ME : Int)) ∧ W1.cell? ⟨c, 1, none⟩ = some (.slice aoE LE capE) := fun W W1 ⟨h, h0, h1, h2, h3⟩ hb => ⟨below_two h hb, (hb.cell (World.block_lt_of_cell? W _ h0)).trans h0, (hb.cell (World.block_lt_of_cell? W _ h1)).trans h1, (hb.cell (World.block_lt_of_cell? W _ h2)).trans h2, (hb.cell (World.block_lt_of_cell? W _ h3)).trans h3⟩
          have tOf : ∀ W : World, (Below w2.heap.size w2 W ∧ W.cell? ⟨xb, 2, none⟩ = some (.string ⟨name.toArray⟩) ∧ W.cell? ⟨xb, 3, none⟩ = some (.string ⟨val.toArray⟩) ∧ W.cell? ⟨c, 0, none⟩ = some (.int .i64 (ME : Int)) ∧ W.cell? ⟨c, 1, none⟩ = some (.slice aoE LE capE)) → PR w W b c (v1) (u2) ME ME gsE gsE := fun W h => HPE.out.keep h.1
          go_region_held3 (fun W => Below w2.heap.size w2 W ∧ W.cell? ⟨xb, 2, none⟩ = some (.string ⟨name.toArray⟩) ∧ W.cell? ⟨xb, 3, none⟩ = some (.string ⟨val.toArray⟩) ∧ W.cell? ⟨c, 0, none⟩ = some (.int .i64 (ME : Int)) ∧ W.cell? ⟨c, 1, none⟩ = some (.slice aoE LE capE))
            (first | assumption | exact sOf _ _ (by assumption) (by assumption) | exact sOf _ _ (by assumption) ((Below.refl _ _).drew))
            (first
            | (go_at_call 19; refine (csize_at _ b _ ME gsE Z HZ.out _ (tOf _ (by assumption)).tab).mono ?_; rintro e w15 ⟨rfl, rfl⟩)
            | (go_at_call 20; refine (rsize_at _ c _ _ gsE Z HZ.out _ (tOf _ (by assumption)).ref (Nat.le_trans HZB.out (by decide))).mono ?_; rintro e w16 ⟨rfl, hb16⟩)
            | (go_at_call 21; refine (cmost_any _ b _ ME gsE _ (tOf _ (by assumption)).tab).mono ?_; rintro e w15 ⟨rfl, rfl⟩)
            | (go_at_call 22; refine (clen_at _ b _ ME gsE LE HLE.out _ (tOf _ (by assumption)).tab).mono ?_; rintro e w15 ⟨rfl, rfl⟩)
            | (go_at_call 23; refine (cweight_at name val k HK.out (by omega) _).mono ?_; rintro e w17 ⟨rfl, hb17⟩)
            | (go_at_call 24; refine (weight_b name val k HK.out (by omega) _).mono ?_; rintro e w18 ⟨rfl, hb18⟩))
          all_goals
            rename (Below w2.heap.size w2 _ ∧ _) => hHE
            have HFIN := hid' (tOf _ hHE)
            clear hHE hSS sOf tOf x2 x3 r0 r1
            go_wp2
            go_roundw
            case rel => exact ⟨i + 1, by go_num, by omega, hid' ⟨_, _, ME, gsE, HFIN.out, HMBE.out, HSE.out⟩⟩
            case measure => simp [intOf]; omega
        · -- Resize
          have x1 : w0.cell? ⟨xb, 1, none⟩ = some (.int .i64 num) := HX0.out.cell 1 _ rfl
          by_cases hr : num < 0 ∨ 65536 < num
          · have HR := hid' hr
            clear hr
            have hSS : Below w0.heap.size w0 w0 ∧ w0.cell? ⟨xb, 1, none⟩ = some (.int .i64 num) := ⟨Below.refl _ _, x1⟩
            have sOf : ∀ W W1 : World, (Below w0.heap.size w0 W ∧ W.cell? ⟨xb, 1, none⟩ = some (.int .i64 num)) → Below W.heap.size W W1 → Below w0.heap.size w0 W1 ∧ W1.cell? ⟨xb, 1, none⟩ = some (.int .i64 num) := fun W W1 ⟨h, h0⟩ hb => ⟨below_two h hb, (hb.cell (World.block_lt_of_cell? W _ h0)).trans h0⟩
            have tOf : ∀ W : World, (Below w0.heap.size w0 W ∧ W.cell? ⟨xb, 1, none⟩ = some (.int .i64 num)) → PR w W b c v u M M fs fs := fun W h => HP0.out.keep h.1
            go_region_held3 (fun W => Below w0.heap.size w0 W ∧ W.cell? ⟨xb, 1, none⟩ = some (.int .i64 num))
              (first | assumption | exact sOf _ _ (by assumption) (by assumption) | exact sOf _ _ (by assumption) ((Below.refl _ _).drew))
              (first
              | (go_at_call 13; refine (cresize_no _ b _ M fs num _ (tOf _ (by assumption)).tab HR.out).mono ?_; rintro e w15 ⟨rfl, rfl⟩)
              | (go_at_call 14; refine (rresize_no _ c _ _ fs num _ (tOf _ (by assumption)).ref HR.out).mono ?_; rintro e w16 ⟨rfl, rfl⟩))
            rename (Below w0.heap.size w0 _ ∧ _) => hHE
            have HP1 := hid' (tOf _ hHE)
            have HX1 := hid' (HX0.out.keep hHE.1)
            clear hHE sOf tOf x1 hSS
            have HPE := HP1
            have HXE := HX1
            have HSE : Hid (Tb.size (fs) ≤ M) := hid' (HSM.out)
            obtain ⟨gsE, hgs⟩ : ∃ gsE, fs = gsE := ⟨_, rfl⟩
            obtain ⟨ME, hME⟩ : ∃ ME : Nat, M = ME := ⟨_, rfl⟩
            rw [hgs, hME] at HPE
            rw [hgs, hME] at HSE
            have HMBE : Hid (ME ≤ 65536) := hid' (by rw [← hME]; omega)
            obtain ⟨Z, hZ⟩ : ∃ Z, Tb.size gsE = Z := ⟨_, rfl⟩
            obtain ⟨LE, hLE⟩ : ∃ LE, gsE.length = LE := ⟨_, rfl⟩
            have HZ := hid' hZ
            have HLE := hid' hLE
            have hZb : Z ≤ 65536 := by have := HSE.out; have := HMBE.out; omega
            have HZB := hid' hZb
            have hLb : LE ≤ 65536 := by have := Tb.size_len gsE; omega
            obtain ⟨aoE, capE, hue⟩ := HPE.out.shape
            rw [hLE] at hue
            have HUE := hid' hue
            clear hgs hME hZ hLE hZb hue
            clear HP0 HX0 HSM HSB HMB
            have r0 : w0.drew.cell? ⟨c, 0, none⟩ = some (.int .i64 (ME : Int)) := HPE.out.ref.obj.cell 0 _ rfl
            have r1 : w0.drew.cell? ⟨c, 1, none⟩ = some (.slice aoE LE capE) := by rw [← HUE.out]; exact HPE.out.ref.obj.cell 1 _ rfl
            have x2 : w0.drew.cell? ⟨xb, 2, none⟩ = some (.string ⟨name.toArray⟩) := HXE.out.cell 2 _ rfl
            have x3 : w0.drew.cell? ⟨xb, 3, none⟩ = some (.string ⟨val.toArray⟩) := HXE.out.cell 3 _ rfl
            go_wp2
            have hSS : Below w0.drew.heap.size w0.drew w0.drew ∧ w0.drew.cell? ⟨xb, 2, none⟩ = some (.string ⟨name.toArray⟩) ∧ w0.drew.cell? ⟨xb, 3, none⟩ = some (.string ⟨val.toArray⟩) ∧ w0.drew.cell? ⟨c, 0, none⟩ = some (.int .i64 (ME : Int)) ∧ w0.drew.cell? ⟨c, 1, none⟩ = some (.slice aoE LE capE) := ⟨Below.refl _ _, x2, x3, r0, r1⟩
            have sOf : ∀ W W1 : World, (Below w0.drew.heap.size w0.drew W ∧ W.cell? ⟨xb, 2, none⟩ = some (.string ⟨name.toArray⟩) ∧ W.cell? ⟨xb, 3, none⟩ = some (.string ⟨val.toArray⟩) ∧ W.cell? ⟨c, 0, none⟩ = some (.int .i64 (ME : Int)) ∧ W.cell? ⟨c, 1, none⟩ = some (.slice aoE LE capE)) → Below W.heap.size W W1 → Below w0.drew.heap.size w0.drew W1 ∧ W1.cell? ⟨xb, 2, none⟩ = some (.string ⟨name.toArray⟩) ∧ W1.cell? ⟨xb, 3, none⟩ = some (.string ⟨val.toArray⟩) ∧ W1.cell? ⟨c, 0, none⟩ = some (.int .i64 (ME : Int)) ∧ W1.cell? ⟨c, 1, none⟩ = some (.slice aoE LE capE) := fun W W1 ⟨h, h0, h1, h2, h3⟩ hb => ⟨below_two h hb, (hb.cell (World.block_lt_of_cell? W _ h0)).trans h0, (hb.cell (World.block_lt_of_cell? W _ h1)).trans h1, (hb.cell (World.block_lt_of_cell? W _ h2)).trans h2, (hb.cell (World.block_lt_of_cell? W _ h3)).trans h3⟩
            have tOf : ∀ W : World, (Below w0.drew.heap.size w0.drew W ∧ W.cell? ⟨xb, 2, none⟩ = some (.string ⟨name.toArray⟩) ∧ W.cell? ⟨xb, 3, none⟩ = some (.string ⟨val.toArray⟩) ∧ W.cell? ⟨c, 0, none⟩ = some (.int .i64 (ME : Int)) ∧ W.cell? ⟨c, 1, none⟩ = some (.slice aoE LE capE)) → PR w W b c (v) (u) ME ME gsE gsE := fun W h => HPE.out.keep h.1
            go_region_held3 (fun W => Below w0.drew.heap.size w0.drew W ∧ W.cell? ⟨xb, 2, none⟩ = some (.string ⟨name.toArray⟩) ∧ W.cell? ⟨xb, 3, none⟩ = some (.string ⟨val.toArray⟩) ∧ W.cell? ⟨c, 0, none⟩ = some (.int .i64 (ME : Int)) ∧ W.cell? ⟨c, 1, none⟩ = some (.slice aoE LE capE))
              (first | assumption | exact sOf _ _ (by assumption) (by assumption) | exact sOf _ _ (by assumption) ((Below.refl _ _).drew))
              (first
              | (go_at_call 19; refine (csize_at _ b _ ME gsE Z HZ.out _ (tOf _ (by assumption)).tab).mono ?_; rintro e w15 ⟨rfl, rfl⟩)
              | (go_at_call 20; refine (rsize_at _ c _ _ gsE Z HZ.out _ (tOf _ (by assumption)).ref (Nat.le_trans HZB.out (by decide))).mono ?_; rintro e w16 ⟨rfl, hb16⟩)
              | (go_at_call 21; refine (cmost_any _ b _ ME gsE _ (tOf _ (by assumption)).tab).mono ?_; rintro e w15 ⟨rfl, rfl⟩)
              | (go_at_call 22; refine (clen_at _ b _ ME gsE LE HLE.out _ (tOf _ (by assumption)).tab).mono ?_; rintro e w15 ⟨rfl, rfl⟩)
              | (go_at_call 23; refine (cweight_at name val k HK.out (by omega) _).mono ?_; rintro e w17 ⟨rfl, hb17⟩)
              | (go_at_call 24; refine (weight_b name val k HK.out (by omega) _).mono ?_; rintro e w18 ⟨rfl, hb18⟩))
            all_goals
              rename (Below w0.drew.heap.size w0.drew _ ∧ _) => hHE
              have HFIN := hid' (tOf _ hHE)
              clear hHE hSS sOf tOf x2 x3 r0 r1
              go_wp2
              go_roundw
              case rel => exact ⟨i + 1, by go_num, by omega, hid' ⟨_, _, ME, gsE, HFIN.out, HMBE.out, HSE.out⟩⟩
              case measure => simp [intOf]; omega
          · obtain ⟨N, hN0, hN1⟩ : ∃ N : Nat, num = (N : Int) ∧ N ≤ 65536 := ⟨num.toNat, by omega, by omega⟩
            subst hN0
            clear hr
            have HN := hid' hN1
            have HPd : Hid (PR w w0.drew b c v u M M fs fs) := hid' (HP0.out.keep ((Below.refl _ _).drew))
            have HXd : Hid (Ar w0.drew xb 34 #[.int .u8 (what : Int), .int .i64 (N : Int), .string ⟨name.toArray⟩, .string ⟨val.toArray⟩]) := hid' HX0.out.drew
            go_region_held3 (fun W => W.cell? ⟨xb, 1, none⟩ = some (.int .i64 (N : Int)))
              (first | assumption)
              (first
              | (go_at_call 13; refine (cresize_yes _ b _ M fs N _ HPd.out.tab HN.out HSB.out).mono ?_; rintro e w1 ⟨rfl, v1, hC1, hv1, hT1⟩; have HP1 := hid' (HPd.out.ofC hT1 hC1 (fun k h => .inl (hv1 k h))); have HX1 := hid' (HPd.out.arC hT1 HXd.out hxb0 (by decide)); have x1' := HX1.out.cell 1 _ rfl; clear hC1 hv1 hT1)
              | (go_at_call 14; refine (rresize_yes _ c _ _ fs N _ HP1.out.ref HN.out HSB.out).mono ?_; rintro e w2 ⟨rfl, u2, hR2, hu2, hg2⟩; have HP2 := hid' (HP1.out.ofR hg2 hR2 (fun k h => .inl (by rw [← hu2]; exact h))); have HX2 := hid' (HP1.out.arR hg2 HX1.out hxc0); have x1'' := HX2.out.cell 1 _ rfl; clear hR2 hu2 hg2))
            clear x1 x1' x1'' HPd HXd HP1 HX1
            have HPE := HP2
            have HXE := HX2
            have HSE : Hid (Tb.size (Tb.shr N fs) ≤ N) := hid' (Tb.shr_size _ _)
            obtain ⟨gsE, hgs⟩ : ∃ gsE, Tb.shr N fs = gsE := ⟨_, rfl⟩
            obtain ⟨ME, hME⟩ : ∃ ME : Nat, N = ME := ⟨_, rfl⟩
            rw [hgs, hME] at HPE
            rw [hgs, hME] at HSE
            have HMBE : Hid (ME ≤ 65536) := hid' (by rw [← hME]; omega)
            obtain ⟨Z, hZ⟩ : ∃ Z, Tb.size gsE = Z := ⟨_, rfl⟩
            obtain ⟨LE, hLE⟩ : ∃ LE, gsE.length = LE := ⟨_, rfl⟩
            have HZ := hid' hZ
            have HLE := hid' hLE
            have hZb : Z ≤ 65536 := by have := HSE.out; have := HMBE.out; omega
            have HZB := hid' hZb
            have hLb : LE ≤ 65536 := by have := Tb.size_len gsE; omega
            obtain ⟨aoE, capE, hue⟩ := HPE.out.shape
            rw [hLE] at hue
            have HUE := hid' hue
            clear hgs hME hZ hLE hZb hue
            clear HP0 HX0 HSM HSB HMB
            have r0 : w2.cell? ⟨c, 0, none⟩ = some (.int .i64 (ME : Int)) := HPE.out.ref.obj.cell 0 _ rfl
            have r1 : w2.cell? ⟨c, 1, none⟩ = some (.slice aoE LE capE) := by rw [← HUE.out]; exact HPE.out.ref.obj.cell 1 _ rfl
            have x2 : w2.cell? ⟨xb, 2, none⟩ = some (.string ⟨name.toArray⟩) := HXE.out.cell 2 _ rfl
            have x3 : w2.cell? ⟨xb, 3, none⟩ = some (.string ⟨val.toArray⟩) := HXE.out.cell 3 _ rfl
            go_wp2
            have hSS : Below w2.heap.size w2 w2 ∧ w2.cell? ⟨xb, 2, none⟩ = some (.string ⟨name.toArray⟩) ∧ w2.cell? ⟨xb, 3, none⟩ = some (.string ⟨val.toArray⟩) ∧ w2.cell? ⟨c, 0, none⟩ = some (.int .i64 (ME : Int)) ∧ w2.cell? ⟨c, 1, none⟩ = some (.slice aoE LE capE) := ⟨Below.refl _ _, x2, x3, r0, r1⟩
            have sOf : ∀ W W1 : World, (Below w2.heap.size w2 W ∧ W.cell? ⟨xb, 2, none⟩ = some (.string ⟨name.toArray⟩) ∧ W.cell? ⟨xb, 3, none⟩ = some (.string ⟨val.toArray⟩) ∧ W.cell? ⟨c, 0, none⟩ = some (.int .i64 (ME : Int)) ∧ W.cell? ⟨c, 1, none⟩ = some (.slice aoE LE capE)) → Below W.heap.size W W1 → Below w2.heap.size w2 W1 ∧ W1.cell? ⟨xb, 2, none⟩ = some (.string ⟨name.toArray⟩) ∧ W1.cell? ⟨xb, 3, none⟩ = some (.string ⟨val.toArray⟩) ∧ W1.cell? ⟨c, 0, none⟩ = some (.int .i64 (ME : Int)) ∧ W1.cell? ⟨c, 1, none⟩ = some (.slice aoE LE capE) := fun W W1 ⟨h, h0, h1, h2, h3⟩ hb => ⟨below_two h hb, (hb.cell (World.block_lt_of_cell? W _ h0)).trans h0, (hb.cell (World.block_lt_of_cell? W _ h1)).trans h1, (hb.cell (World.block_lt_of_cell? W _ h2)).trans h2, (hb.cell (World.block_lt_of_cell? W _ h3)).trans h3⟩
            have tOf : ∀ W : World, (Below w2.heap.size w2 W ∧ W.cell? ⟨xb, 2, none⟩ = some (.string ⟨name.toArray⟩) ∧ W.cell? ⟨xb, 3, none⟩ = some (.string ⟨val.toArray⟩) ∧ W.cell? ⟨c, 0, none⟩ = some (.int .i64 (ME : Int)) ∧ W.cell? ⟨c, 1, none⟩ = some (.slice aoE LE capE)) → PR w W b c (v1) (u2) ME ME gsE gsE := fun W h => HPE.out.keep h.1
            go_region_held3 (fun W => Below w2.heap.size w2 W ∧ W.cell? ⟨xb, 2, none⟩ = some (.string ⟨name.toArray⟩) ∧ W.cell? ⟨xb, 3, none⟩ = some (.string ⟨val.toArray⟩) ∧ W.cell? ⟨c, 0, none⟩ = some (.int .i64 (ME : Int)) ∧ W.cell? ⟨c, 1, none⟩ = some (.slice aoE LE capE))
              (first | assumption | exact sOf _ _ (by assumption) (by assumption) | exact sOf _ _ (by assumption) ((Below.refl _ _).drew))
              (first
              | (go_at_call 19; refine (csize_at _ b _ ME gsE Z HZ.out _ (tOf _ (by assumption)).tab).mono ?_; rintro e w15 ⟨rfl, rfl⟩)
              | (go_at_call 20; refine (rsize_at _ c _ _ gsE Z HZ.out _ (tOf _ (by assumption)).ref (Nat.le_trans HZB.out (by decide))).mono ?_; rintro e w16 ⟨rfl, hb16⟩)
              | (go_at_call 21; refine (cmost_any _ b _ ME gsE _ (tOf _ (by assumption)).tab).mono ?_; rintro e w15 ⟨rfl, rfl⟩)
              | (go_at_call 22; refine (clen_at _ b _ ME gsE LE HLE.out _ (tOf _ (by assumption)).tab).mono ?_; rintro e w15 ⟨rfl, rfl⟩)
              | (go_at_call 23; refine (cweight_at name val k HK.out (by omega) _).mono ?_; rintro e w17 ⟨rfl, hb17⟩)
              | (go_at_call 24; refine (weight_b name val k HK.out (by omega) _).mono ?_; rintro e w18 ⟨rfl, hb18⟩))
            all_goals
              rename (Below w2.heap.size w2 _ ∧ _) => hHE
              have HFIN := hid' (tOf _ hHE)
              clear hHE hSS sOf tOf x2 x3 r0 r1
              go_wp2
              go_roundw
              case rel => exact ⟨i + 1, by go_num, by omega, hid' ⟨_, _, ME, gsE, HFIN.out, HMBE.out, HSE.out⟩⟩
              case measure => simp [intOf]; omega
        · -- Find
          have x2 : w0.cell? ⟨xb, 2, none⟩ = some (.string ⟨name.toArray⟩) := HX0.out.cell 2 _ rfl
          have x3 : w0.cell? ⟨xb, 3, none⟩ = some (.string ⟨val.toArray⟩) := HX0.out.cell 3 _ rfl
          obtain ⟨⟨fk, fw⟩, hfind⟩ : ∃ r, Tb.find fs (name, val) = r := ⟨_, rfl⟩
          have HFN := hid' hfind
          clear hfind
          refine (cfind_any w.heap.size b v M fs name val _ HP0.out.tab HSB.out fk fw HFN.out).mono ?_
          rintro e w1 ⟨rfl, hb1⟩
          have HP1 := hid' (HP0.out.keep hb1)
          have HX1 := hid' (HX0.out.keep hb1)
          clear hb1 x2 x3
          have x2 : w1.cell? ⟨xb, 2, none⟩ = some (.string ⟨name.toArray⟩) := HX1.out.cell 2 _ rfl
          have x3 : w1.cell? ⟨xb, 3, none⟩ = some (.string ⟨val.toArray⟩) := HX1.out.cell 3 _ rfl
          go_wp2_with fail
          refine (rfind_any w.heap.size c u (M : Int) fs name val _ HP1.out.ref HSB.out fk fw HFN.out).mono ?_
          rintro e w2 ⟨rfl, hb2⟩
          have HP2 := hid' (HP1.out.keep hb2)
          have HX2 := hid' (HX1.out.keep hb2)
          clear hb2 x2 x3 HP1 HX1 HFN
          have HPE := HP2
          have HXE := HX2
          have HSE : Hid (Tb.size (fs) ≤ M) := hid' (HSM.out)
          obtain ⟨gsE, hgs⟩ : ∃ gsE, fs = gsE := ⟨_, rfl⟩
          obtain ⟨ME, hME⟩ : ∃ ME : Nat, M = ME := ⟨_, rfl⟩
          rw [hgs, hME] at HPE
          rw [hgs, hME] at HSE
          have HMBE : Hid (ME ≤ 65536) := hid' (by rw [← hME]; omega)
          obtain ⟨Z, hZ⟩ : ∃ Z, Tb.size gsE = Z := ⟨_, rfl⟩
          obtain ⟨LE, hLE⟩ : ∃ LE, gsE.length = LE := ⟨_, rfl⟩
          have HZ := hid' hZ
          have HLE := hid' hLE
          have hZb : Z ≤ 65536 := by have := HSE.out; have := HMBE.out; omega
          have HZB := hid' hZb
          have hLb : LE ≤ 65536 := by have := Tb.size_len gsE; omega
          obtain ⟨aoE, capE, hue⟩ := HPE.out.shape
          rw [hLE] at hue
          have HUE := hid' hue
          clear hgs hME hZ hLE hZb hue
          clear HP0 HX0 HSM HSB HMB
          have r0 : w2.cell? ⟨c, 0, none⟩ = some (.int .i64 (ME : Int)) := HPE.out.ref.obj.cell 0 _ rfl
          have r1 : w2.cell? ⟨c, 1, none⟩ = some (.slice aoE LE capE) := by rw [← HUE.out]; exact HPE.out.ref.obj.cell 1 _ rfl
          have x2 : w2.cell? ⟨xb, 2, none⟩ = some (.string ⟨name.toArray⟩) := HXE.out.cell 2 _ rfl
          have x3 : w2.cell? ⟨xb, 3, none⟩ = some (.string ⟨val.toArray⟩) := HXE.out.cell 3 _ rfl
          go_wp2
          have hSS : Below w2.heap.size w2 w2 ∧ w2.cell? ⟨xb, 2, none⟩ = some (.string ⟨name.toArray⟩) ∧ w2.cell? ⟨xb, 3, none⟩ = some (.string ⟨val.toArray⟩) ∧ w2.cell? ⟨c, 0, none⟩ = some (.int .i64 (ME : Int)) ∧ w2.cell? ⟨c, 1, none⟩ = some (.slice aoE LE capE) := ⟨Below.refl _ _, x2, x3, r0, r1⟩
          have sOf : ∀ W W1 : World, (Below w2.heap.size w2 W ∧ W.cell? ⟨xb, 2, none⟩ = some (.string ⟨name.toArray⟩) ∧ W.cell? ⟨xb, 3, none⟩ = some (.string ⟨val.toArray⟩) ∧ W.cell? ⟨c, 0, none⟩ = some (.int .i64 (ME : Int)) ∧ W.cell? ⟨c, 1, none⟩ = some (.slice aoE LE capE)) → Below W.heap.size W W1 → Below w2.heap.size w2 W1 ∧ W1.cell? ⟨xb, 2, none⟩ = some (.string ⟨name.toArray⟩) ∧ W1.cell? ⟨xb, 3, none⟩ = some (.string ⟨val.toArray⟩) ∧ W1.cell? ⟨c, 0, none⟩ = some (.int .i64 (ME : Int)) ∧ W1.cell? ⟨c, 1, none⟩ = some (.slice aoE LE capE) := fun W W1 ⟨h, h0, h1, h2, h3⟩ hb => ⟨below_two h hb, (hb.cell (World.block_lt_of_cell? W _ h0)).trans h0, (hb.cell (World.block_lt_of_cell? W _ h1)).trans h1, (hb.cell (World.block_lt_of_cell? W _ h2)).trans h2, (hb.cell (World.block_lt_of_cell? W _ h3)).trans h3⟩
          have tOf : ∀ W : World, (Below w2.heap.size w2 W ∧ W.cell? ⟨xb, 2, none⟩ = some (.string ⟨name.toArray⟩) ∧ W.cell? ⟨xb, 3, none⟩ = some (.string ⟨val.toArray⟩) ∧ W.cell? ⟨c, 0, none⟩ = some (.int .i64 (ME : Int)) ∧ W.cell? ⟨c, 1, none⟩ = some (.slice aoE LE capE)) → PR w W b c (v) (u) ME ME gsE gsE := fun W h => HPE.out.keep h.1
          go_region_held3 (fun W => Below w2.heap.size w2 W ∧ W.cell? ⟨xb, 2, none⟩ = some (.string ⟨name.toArray⟩) ∧ W.cell? ⟨xb, 3, none⟩ = some (.string ⟨val.toArray⟩) ∧ W.cell? ⟨c, 0, none⟩ = some (.int .i64 (ME : Int)) ∧ W.cell? ⟨c, 1, none⟩ = some (.slice aoE LE capE))
            (first | assumption | exact sOf _ _ (by assumption) (by assumption) | exact sOf _ _ (by assumption) ((Below.refl _ _).drew))
            (first
            | (go_at_call 19; refine (csize_at _ b _ ME gsE Z HZ.out _ (tOf _ (by assumption)).tab).mono ?_; rintro e w15 ⟨rfl, rfl⟩)
            | (go_at_call 20; refine (rsize_at _ c _ _ gsE Z HZ.out _ (tOf _ (by assumption)).ref (Nat.le_trans HZB.out (by decide))).mono ?_; rintro e w16 ⟨rfl, hb16⟩)
            | (go_at_call 21; refine (cmost_any _ b _ ME gsE _ (tOf _ (by assumption)).tab).mono ?_; rintro e w15 ⟨rfl, rfl⟩)
            | (go_at_call 22; refine (clen_at _ b _ ME gsE LE HLE.out _ (tOf _ (by assumption)).tab).mono ?_; rintro e w15 ⟨rfl, rfl⟩)
            | (go_at_call 23; refine (cweight_at name val k HK.out (by omega) _).mono ?_; rintro e w17 ⟨rfl, hb17⟩)
            | (go_at_call 24; refine (weight_b name val k HK.out (by omega) _).mono ?_; rintro e w18 ⟨rfl, hb18⟩))
          all_goals
            rename (Below w2.heap.size w2 _ ∧ _) => hHE
            have HFIN := hid' (tOf _ hHE)
            clear hHE hSS sOf tOf x2 x3 r0 r1
            go_wp2
            go_roundw
            case rel => exact ⟨i + 1, by go_num, by omega, hid' ⟨_, _, ME, gsE, HFIN.out, HMBE.out, HSE.out⟩⟩
            case measure => simp [intOf]; omega
        · -- At
          have x1 : w0.cell? ⟨xb, 1, none⟩ = some (.int .i64 num) := HX0.out.cell 1 _ rfl
          cases hf : Tb.at? fs num with
          | none =>
            have HF := hid' hf
            have hng := noGuard
            have heq := neq_field_no [] []
            clear hf
            refine (cat_none w.heap.size b v M fs num _ HP0.out.tab HSB.out HF.out hn1 hn0).mono ?_
            rintro e w1 ⟨rfl, hb1⟩
            have hb2 : Below w1.heap.size w1 (w1.alloc (.cells #[.string ⟨#[]⟩, .string ⟨#[]⟩] 32)) := (Below.refl _ _).alloc (Nat.le_refl _) _
            have HY0 : Hid (Ar (w1.alloc (.cells #[.string ⟨#[]⟩, .string ⟨#[]⟩] 32)) w1.heap.size 32 #[.string ⟨#[]⟩, .string ⟨#[]⟩]) := hid' (heap_alloc_last w1 _)
            have HP1 := hid' ((HP0.out.keep hb1).keep hb2)
            have HX1 := hid' ((HX0.out.keep hb1).keep hb2)
            have x1' := HX1.out.cell 1 _ rfl
            clear x1 hb1 hb2
            go_wp2_with fail
            obtain ⟨yb, hyb⟩ : ∃ yb, w1.heap.size = yb := ⟨_, rfl⟩
            rw [hyb] at HY0 ⊢
            clear x1'
            generalize w1.alloc (.cells #[.string ⟨#[]⟩, .string ⟨#[]⟩] 32) = w2 at *
            refine (rat_none w.heap.size c u (M : Int) fs num _ HP1.out.ref HSB.out HF.out).mono ?_
            rintro e w3 ⟨rfl, hb3⟩
            have hb4 : Below w3.heap.size w3 (w3.alloc (.cells #[.string ⟨#[]⟩, .string ⟨#[]⟩] 32)) := (Below.refl _ _).alloc (Nat.le_refl _) _
            have HP4 := hid' ((HP1.out.keep hb3).keep hb4)
            have HX4 := hid' ((HX1.out.keep hb3).keep hb4)
            have hY4 := (HY0.out.keep hb3).keep hb4
            have y0 := hY4.cell 0 _ rfl
            have y1 := hY4.cell 1 _ rfl
            clear hb3 hb4 hY4 HP1 HX1 HY0 HF
            have HPE := HP4
            have HXE := HX4
            have HSE : Hid (Tb.size (fs) ≤ M) := hid' (HSM.out)
            obtain ⟨gsE, hgs⟩ : ∃ gsE, fs = gsE := ⟨_, rfl⟩
            obtain ⟨ME, hME⟩ : ∃ ME : Nat, M = ME := ⟨_, rfl⟩
            rw [hgs, hME] at HPE
            rw [hgs, hME] at HSE
            have HMBE : Hid (ME ≤ 65536) := hid' (by rw [← hME]; omega)
            obtain ⟨Z, hZ⟩ : ∃ Z, Tb.size gsE = Z := ⟨_, rfl⟩
            obtain ⟨LE, hLE⟩ : ∃ LE, gsE.length = LE := ⟨_, rfl⟩
            have HZ := hid' hZ
            have HLE := hid' hLE
            have hZb : Z ≤ 65536 := by have := HSE.out; have := HMBE.out; omega
            have HZB := hid' hZb
            have hLb : LE ≤ 65536 := by have := Tb.size_len gsE; omega
            obtain ⟨aoE, capE, hue⟩ := HPE.out.shape
            rw [hLE] at hue
            have HUE := hid' hue
            clear hgs hME hZ hLE hZb hue
            clear HP0 HX0 HSM HSB HMB
            have r0 : (w3.alloc (.cells #[.string ⟨#[]⟩, .string ⟨#[]⟩] 32)).cell? ⟨c, 0, none⟩ = some (.int .i64 (ME : Int)) := HPE.out.ref.obj.cell 0 _ rfl
            have r1 : (w3.alloc (.cells #[.string ⟨#[]⟩, .string ⟨#[]⟩] 32)).cell? ⟨c, 1, none⟩ = some (.slice aoE LE capE) := by rw [← HUE.out]; exact HPE.out.ref.obj.cell 1 _ rfl
            have x2 : (w3.alloc (.cells #[.string ⟨#[]⟩, .string ⟨#[]⟩] 32)).cell? ⟨xb, 2, none⟩ = some (.string ⟨name.toArray⟩) := HXE.out.cell 2 _ rfl
            have x3 : (w3.alloc (.cells #[.string ⟨#[]⟩, .string ⟨#[]⟩] 32)).cell? ⟨xb, 3, none⟩ = some (.string ⟨val.toArray⟩) := HXE.out.cell 3 _ rfl
            go_wp2
            have hSS : Below (w3.alloc (.cells #[.string ⟨#[]⟩, .string ⟨#[]⟩] 32)).heap.size (w3.alloc (.cells #[.string ⟨#[]⟩, .string ⟨#[]⟩] 32)) (w3.alloc (.cells #[.string ⟨#[]⟩, .string ⟨#[]⟩] 32)) ∧ (w3.alloc (.cells #[.string ⟨#[]⟩, .string ⟨#[]⟩] 32)).cell? ⟨xb, 2, none⟩ = some (.string ⟨name.toArray⟩) ∧ (w3.alloc (.cells #[.string ⟨#[]⟩, .string ⟨#[]⟩] 32)).cell? ⟨xb, 3, none⟩ = some (.string ⟨val.toArray⟩) ∧ (w3.alloc (.cells #[.string ⟨#[]⟩, .string ⟨#[]⟩] 32)).cell? ⟨c, 0, none⟩ = some (.int .i64 (ME : Int)) ∧ (w3.alloc (.cells #[.string ⟨#[]⟩, .string ⟨#[]⟩] 32)).cell? ⟨c, 1, none⟩ = some (.slice aoE LE capE) := ⟨Below.refl _ _, x2, x3, r0, r1⟩
            have sOf : ∀ W W1 : World, (Below (w3.alloc (.cells #[.string ⟨#[]⟩, .string ⟨#[]⟩] 32)).heap.size (w3.alloc (.cells #[.string ⟨#[]⟩, .string ⟨#[]⟩] 32)) W ∧ W.cell? ⟨xb, 2, none⟩ = some (.string ⟨name.toArray⟩) ∧ W.cell? ⟨xb, 3, none⟩ = some (.string ⟨val.toArray⟩) ∧ W.cell? ⟨c, 0, none⟩ = some (.int .i64 (ME : Int)) ∧ W.cell? ⟨c, 1, none⟩ = some (.slice aoE LE capE)) → Below W.heap.size W W1 → Below (w3.alloc (.cells #[.string ⟨#[]⟩, .string ⟨#[]⟩] 32)).heap.size (w3.alloc (.cells #[.string ⟨#[]⟩, .string ⟨#[]⟩] 32)) W1 ∧ W1.cell? ⟨xb, 2, none⟩ = some (.string ⟨name.toArray⟩) ∧ W1.cell? ⟨xb, 3, none⟩ = some (.string ⟨val.toArray⟩) ∧ W1.cell? ⟨c, 0, none⟩ = some (.int .i64 (ME : Int)) ∧ W1.cell? ⟨c, 1, none⟩ = some (.slice aoE LE capE) := fun W W1 ⟨h, h0, h1, h2, h3⟩ hb => ⟨below_two h hb, (hb.cell (World.block_lt_of_cell? W _ h0)).trans h0, (hb.cell (World.block_lt_of_cell? W _ h1)).trans h1, (hb.cell (World.block_lt_of_cell? W _ h2)).trans h2, (hb.cell (World.block_lt_of_cell? W _ h3)).trans h3⟩
            have tOf : ∀ W : World, (Below (w3.alloc (.cells #[.string ⟨#[]⟩, .string ⟨#[]⟩] 32)).heap.size (w3.alloc (.cells #[.string ⟨#[]⟩, .string ⟨#[]⟩] 32)) W ∧ W.cell? ⟨xb, 2, none⟩ = some (.string ⟨name.toArray⟩) ∧ W.cell? ⟨xb, 3, none⟩ = some (.string ⟨val.toArray⟩) ∧ W.cell? ⟨c, 0, none⟩ = some (.int .i64 (ME : Int)) ∧ W.cell? ⟨c, 1, none⟩ = some (.slice aoE LE capE)) → PR w W b c (v) (u) ME ME gsE gsE := fun W h => HPE.out.keep h.1
            go_region_held3 (fun W => Below (w3.alloc (.cells #[.string ⟨#[]⟩, .string ⟨#[]⟩] 32)).heap.size (w3.alloc (.cells #[.string ⟨#[]⟩, .string ⟨#[]⟩] 32)) W ∧ W.cell? ⟨xb, 2, none⟩ = some (.string ⟨name.toArray⟩) ∧ W.cell? ⟨xb, 3, none⟩ = some (.string ⟨val.toArray⟩) ∧ W.cell? ⟨c, 0, none⟩ = some (.int .i64 (ME : Int)) ∧ W.cell? ⟨c, 1, none⟩ = some (.slice aoE LE capE))
              (first | assumption | exact sOf _ _ (by assumption) (by assumption) | exact sOf _ _ (by assumption) ((Below.refl _ _).drew))
              (first
              | (go_at_call 19; refine (csize_at _ b _ ME gsE Z HZ.out _ (tOf _ (by assumption)).tab).mono ?_; rintro e w15 ⟨rfl, rfl⟩)
              | (go_at_call 20; refine (rsize_at _ c _ _ gsE Z HZ.out _ (tOf _ (by assumption)).ref (Nat.le_trans HZB.out (by decide))).mono ?_; rintro e w16 ⟨rfl, hb16⟩)
              | (go_at_call 21; refine (cmost_any _ b _ ME gsE _ (tOf _ (by assumption)).tab).mono ?_; rintro e w15 ⟨rfl, rfl⟩)
              | (go_at_call 22; refine (clen_at _ b _ ME gsE LE HLE.out _ (tOf _ (by assumption)).tab).mono ?_; rintro e w15 ⟨rfl, rfl⟩)
              | (go_at_call 23; refine (cweight_at name val k HK.out (by omega) _).mono ?_; rintro e w17 ⟨rfl, hb17⟩)
              | (go_at_call 24; refine (weight_b name val k HK.out (by omega) _).mono ?_; rintro e w18 ⟨rfl, hb18⟩))
            all_goals
              rename (Below (w3.alloc (.cells #[.string ⟨#[]⟩, .string ⟨#[]⟩] 32)).heap.size (w3.alloc (.cells #[.string ⟨#[]⟩, .string ⟨#[]⟩] 32)) _ ∧ _) => hHE
              have HFIN := hid' (tOf _ hHE)
              clear hHE hSS sOf tOf x2 x3 r0 r1
              go_wp2
              go_roundw
              case rel => exact ⟨i + 1, by go_num, by omega, hid' ⟨_, _, ME, gsE, HFIN.out, HMBE.out, HSE.out⟩⟩
              case measure => simp [intOf]; omega
          | some f =>
            obtain ⟨fn, fv⟩ := f
            have HF := hid' hf
            have hng := noGuard
            have heq := neq_field_no fn fv
            clear hf
            refine (cat_some w.heap.size b v M fs num (fn, fv) _ HP0.out.tab HSB.out HF.out).mono ?_
            rintro e w1 ⟨rfl, hb1⟩
            have hb2 : Below w1.heap.size w1 (w1.alloc (.cells #[.string ⟨fn.toArray⟩, .string ⟨fv.toArray⟩] 32)) := (Below.refl _ _).alloc (Nat.le_refl _) _
            have HY0 : Hid (Ar (w1.alloc (.cells #[.string ⟨fn.toArray⟩, .string ⟨fv.toArray⟩] 32)) w1.heap.size 32 #[.string ⟨fn.toArray⟩, .string ⟨fv.toArray⟩]) := hid' (heap_alloc_last w1 _)
            have HP1 := hid' ((HP0.out.keep hb1).keep hb2)
            have HX1 := hid' ((HX0.out.keep hb1).keep hb2)
            have x1' := HX1.out.cell 1 _ rfl
            clear x1 hb1 hb2
            go_wp2_with fail
            obtain ⟨yb, hyb⟩ : ∃ yb, w1.heap.size = yb := ⟨_, rfl⟩
            rw [hyb] at HY0 ⊢
            clear x1'
            generalize w1.alloc (.cells #[.string ⟨fn.toArray⟩, .string ⟨fv.toArray⟩] 32) = w2 at *
            refine (rat_some w.heap.size c u (M : Int) fs num (fn, fv) _ HP1.out.ref HSB.out HF.out).mono ?_
            rintro e w3 ⟨rfl, hb3⟩
            have hb4 : Below w3.heap.size w3 (w3.alloc (.cells #[.string ⟨fn.toArray⟩, .string ⟨fv.toArray⟩] 32)) := (Below.refl _ _).alloc (Nat.le_refl _) _
            have HP4 := hid' ((HP1.out.keep hb3).keep hb4)
            have HX4 := hid' ((HX1.out.keep hb3).keep hb4)
            have hY4 := (HY0.out.keep hb3).keep hb4
            have y0 := hY4.cell 0 _ rfl
            have y1 := hY4.cell 1 _ rfl
            clear hb3 hb4 hY4 HP1 HX1 HY0 HF
            have HPE := HP4
            have HXE := HX4
            have HSE : Hid (Tb.size (fs) ≤ M) := hid' (HSM.out)
            obtain ⟨gsE, hgs⟩ : ∃ gsE, fs = gsE := ⟨_, rfl⟩
            obtain ⟨ME, hME⟩ : ∃ ME : Nat, M = ME := ⟨_, rfl⟩
            rw [hgs, hME] at HPE
            rw [hgs, hME] at HSE
            have HMBE : Hid (ME ≤ 65536) := hid' (by rw [← hME]; omega)
            obtain ⟨Z, hZ⟩ : ∃ Z, Tb.size gsE = Z := ⟨_, rfl⟩
            obtain ⟨LE, hLE⟩ : ∃ LE, gsE.length = LE := ⟨_, rfl⟩
            have HZ := hid' hZ
            have HLE := hid' hLE
            have hZb : Z ≤ 65536 := by have := HSE.out; have := HMBE.out; omega
            have HZB := hid' hZb
            have hLb : LE ≤ 65536 := by have := Tb.size_len gsE; omega
            obtain ⟨aoE, capE, hue⟩ := HPE.out.shape
            rw [hLE] at hue
            have HUE := hid' hue
            clear hgs hME hZ hLE hZb hue
            clear HP0 HX0 HSM HSB HMB
            have r0 : (w3.alloc (.cells #[.string ⟨fn.toArray⟩, .string ⟨fv.toArray⟩] 32)).cell? ⟨c, 0, none⟩ = some (.int .i64 (ME : Int)) := HPE.out.ref.obj.cell 0 _ rfl
            have r1 : (w3.alloc (.cells #[.string ⟨fn.toArray⟩, .string ⟨fv.toArray⟩] 32)).cell? ⟨c, 1, none⟩ = some (.slice aoE LE capE) := by rw [← HUE.out]; exact HPE.out.ref.obj.cell 1 _ rfl
            have x2 : (w3.alloc (.cells #[.string ⟨fn.toArray⟩, .string ⟨fv.toArray⟩] 32)).cell? ⟨xb, 2, none⟩ = some (.string ⟨name.toArray⟩) := HXE.out.cell 2 _ rfl
            have x3 : (w3.alloc (.cells #[.string ⟨fn.toArray⟩, .string ⟨fv.toArray⟩] 32)).cell? ⟨xb, 3, none⟩ = some (.string ⟨val.toArray⟩) := HXE.out.cell 3 _ rfl
            go_wp2
            have hSS : Below (w3.alloc (.cells #[.string ⟨fn.toArray⟩, .string ⟨fv.toArray⟩] 32)).heap.size (w3.alloc (.cells #[.string ⟨fn.toArray⟩, .string ⟨fv.toArray⟩] 32)) (w3.alloc (.cells #[.string ⟨fn.toArray⟩, .string ⟨fv.toArray⟩] 32)) ∧ (w3.alloc (.cells #[.string ⟨fn.toArray⟩, .string ⟨fv.toArray⟩] 32)).cell? ⟨xb, 2, none⟩ = some (.string ⟨name.toArray⟩) ∧ (w3.alloc (.cells #[.string ⟨fn.toArray⟩, .string ⟨fv.toArray⟩] 32)).cell? ⟨xb, 3, none⟩ = some (.string ⟨val.toArray⟩) ∧ (w3.alloc (.cells #[.string ⟨fn.toArray⟩, .string ⟨fv.toArray⟩] 32)).cell? ⟨c, 0, none⟩ = some (.int .i64 (ME : Int)) ∧ (w3.alloc (.cells #[.string ⟨fn.toArray⟩, .string ⟨fv.toArray⟩] 32)).cell? ⟨c, 1, none⟩ = some (.slice aoE LE capE) := ⟨Below.refl _ _, x2, x3, r0, r1⟩
            have sOf : ∀ W W1 : World, (Below (w3.alloc (.cells #[.string ⟨fn.toArray⟩, .string ⟨fv.toArray⟩] 32)).heap.size (w3.alloc (.cells #[.string ⟨fn.toArray⟩, .string ⟨fv.toArray⟩] 32)) W ∧ W.cell? ⟨xb, 2, none⟩ = some (.string ⟨name.toArray⟩) ∧ W.cell? ⟨xb, 3, none⟩ = some (.string ⟨val.toArray⟩) ∧ W.cell? ⟨c, 0, none⟩ = some (.int .i64 (ME : Int)) ∧ W.cell? ⟨c, 1, none⟩ = some (.slice aoE LE capE)) → Below W.heap.size W W1 → Below (w3.alloc (.cells #[.string ⟨fn.toArray⟩, .string ⟨fv.toArray⟩] 32)).heap.size (w3.alloc (.cells #[.string ⟨fn.toArray⟩, .string ⟨fv.toArray⟩] 32)) W1 ∧ W1.cell? ⟨xb, 2, none⟩ = some (.string ⟨name.toArray⟩) ∧ W1.cell? ⟨xb, 3, none⟩ = some (.string ⟨val.toArray⟩) ∧ W1.cell? ⟨c, 0, none⟩ = some (.int .i64 (ME : Int)) ∧ W1.cell? ⟨c, 1, none⟩ = some (.slice aoE LE capE) := fun W W1 ⟨h, h0, h1, h2, h3⟩ hb => ⟨below_two h hb, (hb.cell (World.block_lt_of_cell? W _ h0)).trans h0, (hb.cell (World.block_lt_of_cell? W _ h1)).trans h1, (hb.cell (World.block_lt_of_cell? W _ h2)).trans h2, (hb.cell (World.block_lt_of_cell? W _ h3)).trans h3⟩
            have tOf : ∀ W : World, (Below (w3.alloc (.cells #[.string ⟨fn.toArray⟩, .string ⟨fv.toArray⟩] 32)).heap.size (w3.alloc (.cells #[.string ⟨fn.toArray⟩, .string ⟨fv.toArray⟩] 32)) W ∧ W.cell? ⟨xb, 2, none⟩ = some (.string ⟨name.toArray⟩) ∧ W.cell? ⟨xb, 3, none⟩ = some (.string ⟨val.toArray⟩) ∧ W.cell? ⟨c, 0, none⟩ = some (.int .i64 (ME : Int)) ∧ W.cell? ⟨c, 1, none⟩ = some (.slice aoE LE capE)) → PR w W b c (v) (u) ME ME gsE gsE := fun W h => HPE.out.keep h.1
            go_region_held3 (fun W => Below (w3.alloc (.cells #[.string ⟨fn.toArray⟩, .string ⟨fv.toArray⟩] 32)).heap.size (w3.alloc (.cells #[.string ⟨fn.toArray⟩, .string ⟨fv.toArray⟩] 32)) W ∧ W.cell? ⟨xb, 2, none⟩ = some (.string ⟨name.toArray⟩) ∧ W.cell? ⟨xb, 3, none⟩ = some (.string ⟨val.toArray⟩) ∧ W.cell? ⟨c, 0, none⟩ = some (.int .i64 (ME : Int)) ∧ W.cell? ⟨c, 1, none⟩ = some (.slice aoE LE capE))
              (first | assumption | exact sOf _ _ (by assumption) (by assumption) | exact sOf _ _ (by assumption) ((Below.refl _ _).drew))
              (first
              | (go_at_call 19; refine (csize_at _ b _ ME gsE Z HZ.out _ (tOf _ (by assumption)).tab).mono ?_; rintro e w15 ⟨rfl, rfl⟩)
              | (go_at_call 20; refine (rsize_at _ c _ _ gsE Z HZ.out _ (tOf _ (by assumption)).ref (Nat.le_trans HZB.out (by decide))).mono ?_; rintro e w16 ⟨rfl, hb16⟩)
              | (go_at_call 21; refine (cmost_any _ b _ ME gsE _ (tOf _ (by assumption)).tab).mono ?_; rintro e w15 ⟨rfl, rfl⟩)
              | (go_at_call 22; refine (clen_at _ b _ ME gsE LE HLE.out _ (tOf _ (by assumption)).tab).mono ?_; rintro e w15 ⟨rfl, rfl⟩)
              | (go_at_call 23; refine (cweight_at name val k HK.out (by omega) _).mono ?_; rintro e w17 ⟨rfl, hb17⟩)
              | (go_at_call 24; refine (weight_b name val k HK.out (by omega) _).mono ?_; rintro e w18 ⟨rfl, hb18⟩))
            all_goals
              rename (Below (w3.alloc (.cells #[.string ⟨fn.toArray⟩, .string ⟨fv.toArray⟩] 32)).heap.size (w3.alloc (.cells #[.string ⟨fn.toArray⟩, .string ⟨fv.toArray⟩] 32)) _ ∧ _) => hHE
              have HFIN := hid' (tOf _ hHE)
              clear hHE hSS sOf tOf x2 x3 r0 r1
              go_wp2
              go_roundw
              case rel => exact ⟨i + 1, by go_num, by omega, hid' ⟨_, _, ME, gsE, HFIN.out, HMBE.out, HSE.out⟩⟩
              case measure => simp [intOf]; omega
      · have hlt2 : decide ((i : Int) < (cs.length : Int)) = false := decide_eq_false (by omega)
        have hltN : decide (i < cs.length) = false := decide_eq_false hlt
        have HBW := hid' HP.out.bel
        clear HP
        go_wp2_with fail
        refine (awake_any _).mono ?_
        rintro e w3 ⟨rfl, hb3⟩
        go_wp2
        go_ret
        exact ⟨rfl, below_two HBW.out hb3⟩

end Go.Proofs.Ytjpgnifogacpcaa
