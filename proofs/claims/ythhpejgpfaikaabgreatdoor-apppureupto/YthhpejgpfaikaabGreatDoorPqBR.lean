/-
  The law AppPure, over the code's New and Answer.
-/
import Derived.Test.YthhpejgpfaikaabGreatDoorPqBQ
namespace Go.Proofs.YthhpejgpfaikaabGreatDoor
open Go.RowKit

set_option maxHeartbeats 2000000 in
set_option maxRecDepth 20000 in
theorem appPure_any {AP : World → Nat → Nat → Nat → List Fr18 → Prop} (kA : AK20 AP) (hN : NewC20 AP) (hA : AnsC20 AP) (ro : Option Addr) (rn rc : Nat) (lr : List Fr18) (hrl : lr.length = rn) (hrb : rn ≤ 1048577) (hbr : BR20 lr) (v : Value) (l : List Dk.En) (ko : Option Addr) (kn kc : Nat) (ks : List Ap.Rq) (hkl : ks.length = kn) (hks : ∀ r ∈ ks, BQ20 r) (w : World) (hr : RW18 w (.slice ro rn rc) lr) (hw : EW19 w v l) (hl : l.length ≤ 1048576) (hb : ∀ e ∈ l, e.path.size ≤ 1048576 ∧ e.body.size ≤ 1048576) (hq : QW20 w ko ks) (hT : TB19 w) :
    Calls Tryz.prog 4 #[.slice ro rn rc, v, .slice ko kn kc] w fun e w' => e = .returned (.bool true) ∧ Below w.heap.size w w' := by
  obtain ⟨eo, ec, hv⟩ := hw.shape
  obtain ⟨en, hen⟩ : ∃ en, l.length = en := ⟨_, rfl⟩
  rw [hen] at hv
  subst hv
  have HAW := hid' (fun W (h : TB19 W) => awake20 kA hN hA W h)
  have KA := hid' kA
  have HN := hid' (fun W (h : RW18 W (.slice ro rn rc) lr) (h2 : TB19 W) => hN ro rn rc lr W hrl hrb hbr h h2)
  have HA := hid' hA
  have HT := hid' hT
  have HBO := hid' (fun W (h : EW19 W (.slice eo en ec) l) => cboth20 (.slice eo en ec) l W h (by rw [hen]; omega) hb)
  have HW := hid' hw
  have HR := hid' hr
  have HQ := hid' hq
  have HBR0 := hid' hbr
  have HKS := hid' hks
  have HKL := hid' hkl
  clear kA hN hA hT hw hb hr hq hbr hks hkl hrl hrb hen hl
  go_enter Tryz.func4, Tryz.ntmps4
  by_cases h1 : (500 : Int) < (en : Int)
  · go_wp2_with fail
    refine (HAW.out _ HT.out).mono ?_
    rintro _ w1 ⟨rfl, hb1⟩
    go_wp2
    go_ret
    exact ⟨rfl, hb1⟩
  by_cases h2 : (500 : Int) < (kn : Int)
  · go_wp2_with fail
    refine (HAW.out _ HT.out).mono ?_
    rintro _ w1 ⟨rfl, hb1⟩
    go_wp2
    go_ret
    exact ⟨rfl, hb1⟩
  go_wp2_with fail
  refine (HN.out w HR.out HT.out).mono ?_
  rintro _ w1 ⟨hcase, hb1⟩
  generalize Ap.check lr = ce at *
  have HB1 := hid' hb1
  have HR1 := hid' (HR.out.keep hb1)
  clear hb1
  have hk : kn ≤ 500 := by omega
  clear h1 h2
  rcases hcase with ⟨rfl, ab, rfl, hap⟩ | ⟨hce, rfl⟩
  rotate_left
  · go_wp2_with fail
    refine (HN.out w1 HR1.out (tb_below19 HT.out HB1.out)).mono ?_
    rintro _ w2 ⟨⟨h0, _⟩ | ⟨_, rfl⟩, hb2⟩
    · rw [h0] at hce; cases hce
    have HB2 := hid' (below_two HB1.out hb2)
    clear hb2
    go_wp2_with fail
    refine (HAW.out _ (tb_below19 HT.out HB2.out)).mono ?_
    rintro _ w3 ⟨rfl, hb3⟩
    go_wp2
    go_ret
    exact ⟨rfl, below_two HB2.out hb3⟩
  obtain ⟨aB, aE, hap⟩ : ∃ aB aE, AP w1 aB aE ab lr := ⟨_, _, hap⟩
  have HA1 := hid' hap
  clear hap
  go_wp2_with fail
  refine (HN.out w1 HR1.out (tb_below19 HT.out HB1.out)).mono ?_
  rintro _ w2 ⟨⟨_, bb, rfl, hbp⟩ | ⟨h, _⟩, hb2⟩
  rotate_left
  · cases h
  obtain ⟨bB, bE, hbp⟩ : ∃ bB bE, AP w2 bB bE bb lr := ⟨_, _, hbp⟩
  have HP2 := hid' hbp
  have HA2 := hid' (ak_below20 KA.out HA1.out hb2)
  have HB2 := hid' (below_two HB1.out hb2)
  clear hb2 hbp HR1 HA1 HB1
  go_wp2_with fail
  refine (HBO.out w2 (ew_keep20 HW.out HB2.out)).mono ?_
  rintro _ w4 ⟨⟨d, K0, q, es, zo, zn, zc, rfl, hcd, hen, hq0, hq1⟩, hb4⟩
  have HE4 := hid' hen
  have hb5 := bl_alloc19 w4 (.cells #[.slice zo zn zc, .int .i64 q] 34)
  have HC5 := hid' (hcd.keep hb5)
  have HA5 := hid' (ak_below20 KA.out (ak_below20 KA.out HA2.out hb4) hb5)
  have HP5 := hid' (ak_below20 KA.out (ak_below20 KA.out HP2.out hb4) hb5)
  have HB5 := hid' (below_two (below_two HB2.out hb4) hb5)
  clear hcd hen hb4 hb5 HA2 HP2 HB2
  go_upto_region 10 with fail
  generalize w4.alloc (.cells #[.slice zo zn zc, .int .i64 q] 34) = w5 at *
  go_wp2_with fail
  refine (csnap13 _ d K0 q es w5 HC5.out).mono ?_
  rintro _ w6 ⟨⟨sb, Ks, rfl, hsn⟩, hb6⟩
  have HS6 := hid' hsn
  have HC6 := hid' (HC5.out.keep hb6)
  have HA6 := hid' (ak_below20 KA.out HA5.out hb6)
  have HP6 := hid' (ak_below20 KA.out HP5.out hb6)
  have HB6 := hid' (below_two HB5.out hb6)
  clear hsn hb6 HC5 HA5 HP5 HB5
  have hes : Hid (∀ e ∈ es, EN19 e) := hid' HE4.out
  have HST : Hid (∀ (i : Nat) (r : Ap.Rq), ks[i]? = some r → (ks.map (Ap.ans lr es)).take (i + 1) = (ks.map (Ap.ans lr es)).take i ++ [Ap.ans lr es r]) := hid' (fun i r h => by rw [List.take_add_one, List.getElem?_map, h]; rfl)
  have HLN : Hid (∀ i, i ≤ kn → ((ks.map (Ap.ans lr es)).take i).length = i) := hid' (fun i h => by rw [List.length_take, List.length_map, HKL.out]; omega)
  obtain ⟨i0, hi0, hz0, hz1, hz2⟩ := minfo17 infoRp20
  have HI := hid' hi0
  have HZ0 := hid' hz0
  have HZ1 := hid' hz1
  have HZ2 := hid' hz2
  clear hi0 hz0 hz1 hz2
  go_wp2
  go_loopw [14, 15] (fun s14 s15 wr => ∃ (i : Nat) (fo : Option Addr) (fc : Nat), s15 = .int .i64 (i : Int) ∧ s14 = .slice fo i fc ∧ i ≤ kn ∧ Hid (FR20 wr w6.heap.size (.slice fo i fc) ((ks.map (Ap.ans lr es)).take i)) ∧ Hid (Below w6.heap.size w6 wr)) (fun _ s15 _ => kn - (intOf s15).toNat)
  case atStart => exact ⟨0, none, 0, rfl, rfl, Nat.zero_le _, hid' (by rw [List.take_zero]; exact FR20.nil _ _), hid' (Below.refl _ _)⟩
  case round =>
    obtain ⟨i, fo, fc, rfl, rfl, hi, HFR, HBR⟩ := hrel
    by_cases hlt : i < kn
    · have hlt2 : (i : Int) < (kn : Int) := by omega
      obtain ⟨r, hri⟩ : ∃ r, ks[i]? = some r := ⟨_, List.getElem?_eq_getElem (by rw [HKL.out]; exact hlt)⟩
      obtain ⟨a, fv, tv, hko, hblk, ⟨k0, k1, k2, k3, k4, k5, k6⟩, hfr, htr⟩ := (HQ.out.keep (below_two HB6.out HBR.out)) i r hri
      subst hko
      obtain ⟨P, hP⟩ : ∃ P, Ap.ans lr es r = P := ⟨_, rfl⟩
      have hAn := HA.out aB aE ab lr _ sb Ks q es r fv tv wr (ak_below20 KA.out HA6.out HBR.out) (HS6.out.keep HBR.out) hfr htr HBR0.out (HKS.out r (List.mem_of_getElem? hri)) hes.out (tb_below19 HT.out (below_two HB6.out HBR.out))
      rw [hP] at hAn
      have HAN := hid' hAn
      have hst := HST.out i r hri
      rw [hP] at hst
      have HTK := hid' hst
      clear hAn hst hP hblk hfr htr hri
      have hln := HLN.out i hi
      unfold rqC at HAN
      go_wp2_with fail
      refine HAN.out.mono ?_
      rintro _ w7 ⟨⟨vo, n, vc, uo, m, uc, rfl, hf1, hf2⟩, hb7⟩
      unfold rpC
      have hfr8 := (HFR.out.keep hb7).keep (bl_alloc19 w7 (.cells #[.int .i64 P.s, .slice vo n vc, .string ⟨P.b.toArray⟩, .slice uo m uc] 38))
      have hf8 := hid' (ft_below20 hf1 (bl_alloc19 w7 (.cells #[.int .i64 P.s, .slice vo n vc, .string ⟨P.b.toArray⟩, .slice uo m uc] 38)))
      have ht8 := hid' (ft_below20 hf2 (bl_alloc19 w7 (.cells #[.int .i64 P.s, .slice vo n vc, .string ⟨P.b.toArray⟩, .slice uo m uc] 38)))
      obtain ⟨xs, ho, hx⟩ := hfr8
      have HX := hid' hx
      rw [hln] at ho
      have HO := hid' ho
      have HB7 := hid' (below_two HBR.out hb7)
      clear hx ho hf1 hf2 hb7 k0 k1 k2 k3 k4 k5 k6
      go_wp2_with (at_builtin; refine wpList_append_own_at _ rfl _ _ 49 rfl w6.heap.size 38 i0 (.agg #[.int .i64 0, .slice none 0 0, .string ⟨#[]⟩, .slice none 0 0]) 4 72 Tryz.underlying49 HI.out HZ0.out HZ1.out HZ2.out rfl (by decide) (.slice fo i fc) i xs rfl HO.out ⟨w7.heap.size, 0, none⟩ 1 1 [.int .i64 P.s, .slice vo n vc, .string ⟨P.b.toArray⟩, .slice uo m uc] rfl rfl (four_new _ _ _ _ _ _) (by simp [Value.oneCell']) (by unfold maxLen; omega) (by omega) (by simp; have := HB7.out.size; omega) ?_; intro v3 w9 hown3 hgrow3 _ _; refine Hid.out ?_)
      refine hid' ?_
      obtain ⟨v3o, v3c, hv3⟩ := down_shape hown3
      subst hv3
      have HFR9 := hid' (FR20.more (by rw [hln]; exact HO.out) HX.out hf8.out ht8.out (by rw [hln]; exact hown3) hgrow3)
      have HB9 : Hid (Below w6.heap.size w6 w9) := hid' ((HB7.out.alloc HB7.out.size _).grown hgrow3 (by simp; have := HB7.out.size; omega) (fun k hk => (HO.out.lt k hk).1))
      clear hown3 hgrow3
      go_wp2
      go_roundw
      case rel => exact ⟨i + 1, v3o, v3c, by go_num, rfl, by omega, hid' (by rw [HTK.out]; exact HFR9.out), HB9⟩
      case measure => simp [intOf]; omega
    · obtain rfl : i = kn := by omega
      have hlt2 : ¬ (i : Int) < (i : Int) := by omega
      clear hlt
      have hfa := HFR.out
      rw [List.take_of_length_le (by rw [List.length_map, HKL.out]; exact Nat.le_refl _)] at hfa
      have HFA := hid' hfa
      have HBL := hid' (below_two HB6.out HBR.out)
      have HAL := hid' (ak_below20 KA.out HA6.out HBR.out)
      have HPL := hid' (ak_below20 KA.out HP6.out HBR.out)
      have HSL := hid' (HS6.out.keep HBR.out)
      have HCL := hid' (HC6.out.keep HBR.out)
      clear hfa HFR HBR HA6 HP6 HS6 HC6 HB6 HLN HST HI HZ0 HZ1 HZ2 HR hlt2
      generalize wr = wl at *
      go_wp2
      go_loopw [16] (fun s16 wr => ∃ t : Nat, s16 = .int .i64 ((t : Int) - 1) ∧ t ≤ i ∧ Hid (Below wl.heap.size wl wr)) (fun s16 _ => (intOf s16 + 1).toNat)
      case atStart => exact ⟨i, by go_num, Nat.le_refl _, hid' (Below.refl _ _)⟩
      case round =>
        obtain ⟨t, rfl, ht, HBR⟩ := hrel
        by_cases h0 : t = 0
        · subst h0
          go_wp2_with fail
          refine (HAW.out _ (tb_below19 HT.out (below_two HBL.out HBR.out))).mono ?_
          rintro _ wz ⟨rfl, hbz⟩
          go_wp2
          go_ret
          exact ⟨rfl, below_two (below_two HBL.out HBR.out) hbz⟩
        obtain ⟨k, rfl⟩ : ∃ k, t = k + 1 := ⟨t - 1, by omega⟩
        rw [show (((k + 1 : Nat) : Int) - 1) = (k : Int) by omega]
        have hk0 : (0 : Int) ≤ (k : Int) := by omega
        have hk1 : (k : Int) < (i : Int) := by omega
        obtain ⟨r, hri⟩ : ∃ r, ks[k]? = some r := ⟨_, List.getElem?_eq_getElem (by rw [HKL.out]; omega)⟩
        obtain ⟨a, fv, tv, hko, hblk, hat, hfr, htr⟩ := (HQ.out.keep (below_two HBL.out HBR.out)) k r hri
        subst hko
        have HRQ := hid' (fun W (h : Below wr.heap.size wr W) => hat.keep h hblk)
        obtain ⟨P, hP⟩ : ∃ P, Ap.ans lr es r = P := ⟨_, rfl⟩
        have hsm := ans_small20 lr es r HBR0.out (HKS.out r (List.mem_of_getElem? hri)) HE4.out
        have hpi : (ks.map (Ap.ans lr es))[k]? = some P := by rw [List.getElem?_map, hri]; exact congrArg some hP
        rw [hP] at hsm
        have HSM := hid' hsm
        have HA1 := hid' (fun W (h : Below wr.heap.size wr W) => HA.out aB aE ab lr _ sb Ks q es r fv tv W (ak_below20 KA.out HAL.out (below_two HBR.out h)) (HSL.out.keep (below_two HBR.out h)) (hfr.keep h) (htr.keep h) HBR0.out (HKS.out r (List.mem_of_getElem? hri)) HE4.out (tb_below19 HT.out (below_two HBL.out (below_two HBR.out h))))
        have HA2 := hid' (fun W B' sc Kc (hs : CS W B' sc Kc q es) (h : Below wr.heap.size wr W) => HA.out bB bE bb lr B' sc Kc q es r fv tv W (ak_below20 KA.out HPL.out (below_two HBR.out h)) hs (hfr.keep h) (htr.keep h) HBR0.out (HKS.out r (List.mem_of_getElem? hri)) HE4.out (tb_below19 HT.out (below_two HBL.out (below_two HBR.out h))))
        rw [hP] at HA1 HA2
        unfold rqC at HA1 HA2
        obtain ⟨g, vo, n, vc, uo, m, uc, hfo, hgb, c0, c1, c2, c3, hf1, hf2⟩ := (HFA.out.keep HBR.out).four k P hpi
        subst hfo
        have HRP := hid' (fun W (h : Below wr.heap.size wr W) => show W.cell? (g.add (k * 4)) = some (.int .i64 P.s) ∧ W.cell? ⟨(g.add (k * 4)).block, (g.add (k * 4)).off + 1, none⟩ = some (.slice vo n vc) ∧ W.cell? ⟨(g.add (k * 4)).block, (g.add (k * 4)).off + 2, none⟩ = some (.string ⟨P.b.toArray⟩) ∧ W.cell? ⟨(g.add (k * 4)).block, (g.add (k * 4)).off + 3, none⟩ = some (.slice uo m uc) from ⟨(h.cell hgb).trans c0, (h.cell (p := ⟨(g.add (k * 4)).block, (g.add (k * 4)).off + 1, none⟩) hgb).trans c1, (h.cell (p := ⟨(g.add (k * 4)).block, (g.add (k * 4)).off + 2, none⟩) hgb).trans c2, (h.cell (p := ⟨(g.add (k * 4)).block, (g.add (k * 4)).off + 3, none⟩) hgb).trans c3⟩)
        have HF1 := hid' hf1
        have HF2 := hid' hf2
        clear hat hfr htr hsm hpi hP c0 c1 c2 c3 hf1 hf2 hblk hgb hri h0
        go_upto_region 19 with fail
        refine wp_region_held_drew (S := fun W => Below wr.heap.size wr W) (by kernel_rfl) ((Below.refl wr.heap.size wr).drew) (fun hHeld => ?_)
        refine take_d19 (i := 0) (d := some 86) (v := ?_) rfl rfl (by kernel_rfl) (by kernel_rfl) (by kernel_rfl) (fun _ _ _ h => h) (Or.inl ⟨by rfl, ?_⟩) (by assumption) ?_
        rotate_left
        · intro w hSw
          (try dsimp only at hSw)
          go_simp
          try with_reducible rfl
        try simp only [Act.put, List.setIfInBounds_toArray, List.set_cons_zero, List.set_cons_succ]
        refine take_d19 (i := 1) (d := some 87) (v := ?_) rfl rfl (by kernel_rfl) (by kernel_rfl) (by kernel_rfl) (fun _ _ _ h => h) (Or.inl ⟨by rfl, ?_⟩) (by assumption) ?_
        rotate_left
        · intro w hSw
          (try dsimp only at hSw)
          go_simp
          try with_reducible rfl
        try simp only [Act.put, List.setIfInBounds_toArray, List.set_cons_zero, List.set_cons_succ]
        refine take_d19 (i := 2) (d := some 88) (v := ?_) rfl rfl (by kernel_rfl) (by kernel_rfl) (by kernel_rfl) (fun _ _ _ h => h) (Or.inl ⟨by rfl, ?_⟩) (by assumption) ?_
        rotate_left
        · intro w hSw
          (try dsimp only at hSw)
          go_simp
          try with_reducible rfl
        try simp only [Act.put, List.setIfInBounds_toArray, List.set_cons_zero, List.set_cons_succ]
        refine take_d19 (i := 3) (d := some 89) (v := ?_) rfl rfl (by kernel_rfl) (by kernel_rfl) (by kernel_rfl) (fun _ _ _ h => h) (Or.inl ⟨by rfl, ?_⟩) (by assumption) ?_
        rotate_left
        · intro w hSw
          (try dsimp only at hSw)
          go_simp
          try with_reducible rfl
        try simp only [Act.put, List.setIfInBounds_toArray, List.set_cons_zero, List.set_cons_succ]
        refine take_d19 (i := 4) (d := some 90) (v := ?_) rfl rfl (by kernel_rfl) (by kernel_rfl) (by kernel_rfl) (fun _ _ _ h => h) (Or.inl ⟨by rfl, ?_⟩) (by assumption) ?_
        rotate_left
        · intro w hSw
          (try dsimp only at hSw)
          obtain ⟨k0, k1, k2, k3, k4, k5, k6⟩ := HRQ.out w hSw
          go_simp
          try with_reducible rfl
        try simp only [Act.put, List.setIfInBounds_toArray, List.set_cons_zero, List.set_cons_succ]
        refine take_d19 (i := 5) (d := some 91) (v := ?_) rfl rfl (by kernel_rfl) (by kernel_rfl) (by kernel_rfl) (fun _ _ _ h => h) (Or.inl ⟨by rfl, ?_⟩) (by assumption) ?_
        rotate_left
        · intro w hSw
          (try dsimp only at hSw)
          obtain ⟨k0, k1, k2, k3, k4, k5, k6⟩ := HRQ.out w hSw
          go_simp
          try with_reducible rfl
        try simp only [Act.put, List.setIfInBounds_toArray, List.set_cons_zero, List.set_cons_succ]
        refine take_d19 (i := 7) (d := some 93) (v := ?_) rfl rfl (by kernel_rfl) (by kernel_rfl) (by kernel_rfl) (fun _ _ _ h => h) (Or.inl ⟨by rfl, ?_⟩) (by assumption) ?_
        rotate_left
        · intro w hSw
          (try dsimp only at hSw)
          go_simp
          try with_reducible rfl
        try simp only [Act.put, List.setIfInBounds_toArray, List.set_cons_zero, List.set_cons_succ]
        refine take_d19 (i := 8) (d := some 94) (v := ?_) rfl rfl (by kernel_rfl) (by kernel_rfl) (by kernel_rfl) (fun _ _ _ h => h) (Or.inl ⟨by rfl, ?_⟩) (by assumption) ?_
        rotate_left
        · intro w hSw
          (try dsimp only at hSw)
          go_simp
          try with_reducible rfl
        try simp only [Act.put, List.setIfInBounds_toArray, List.set_cons_zero, List.set_cons_succ]
        refine take_d19 (i := 9) (d := some 95) (v := ?_) rfl rfl (by kernel_rfl) (by kernel_rfl) (by kernel_rfl) (fun _ _ _ h => h) (Or.inl ⟨by rfl, ?_⟩) (by assumption) ?_
        rotate_left
        · intro w hSw
          (try dsimp only at hSw)
          obtain ⟨c0, c1, c2, c3⟩ := HRP.out w hSw
          go_simp
          try with_reducible rfl
        try simp only [Act.put, List.setIfInBounds_toArray, List.set_cons_zero, List.set_cons_succ]
        refine take_d19 (i := 10) (d := some 96) (v := ?_) rfl rfl (by kernel_rfl) (by kernel_rfl) (by kernel_rfl) (fun _ _ _ h => h) (Or.inl ⟨by rfl, ?_⟩) (by assumption) ?_
        rotate_left
        · intro w hSw
          (try dsimp only at hSw)
          obtain ⟨c0, c1, c2, c3⟩ := HRP.out w hSw
          go_simp
          try with_reducible rfl
        try simp only [Act.put, List.setIfInBounds_toArray, List.set_cons_zero, List.set_cons_succ]
        refine wpAnyH_ready (rs := [6]) (by kernel_rfl) (by simp) ?_
        refine AllReadyH.cons rfl (fun K hK => ?_) AllReadyH.nil
        go_simp
        refine (HA1.out _ hHeld).mono ?_
        rintro _ wa ⟨⟨vao, na, vac, uao, ma, uac, rfl, hfa, hta⟩, hbwa⟩
        unfold rpC
        go_wp2_with fail
        refine hK.out _ _ (below_two hHeld hbwa) (fun h1 => ?_)
        clear hK K
        try simp only [Act.put, List.setIfInBounds_toArray, List.set_cons_zero, List.set_cons_succ]
        refine wpAnyH_ready (rs := [11]) (by kernel_rfl) (by simp) ?_
        refine AllReadyH.cons rfl (fun K hK => ?_) AllReadyH.nil
        go_simp
        refine (rsameRes19 P.s ⟨P.b.toArray⟩ (.slice vao na vac) (.slice vo n vc) (.slice uao ma uac) (.slice uo m uc) P.fs P.ts wa hfa.1 (HF1.out.1.keep h1) hta.1 (HF2.out.1.keep h1) (by have := HSM.out.1; omega) (by have := HSM.out.2; omega)).mono ?_
        rintro _ wb ⟨rfl, hbwb⟩
        go_wp2_with fail
        refine hK.out _ _ (below_two h1 hbwb) (fun h2 => ?_)
        clear hK K
        try simp only [Act.put, List.setIfInBounds_toArray, List.set_cons_zero, List.set_cons_succ]
        refine take_d19 (i := 12) (d := some 98) (v := ?_) rfl rfl (by kernel_rfl) (by kernel_rfl) (by kernel_rfl) (fun _ _ _ h => h) (Or.inl ⟨by rfl, ?_⟩) (by assumption) ?_
        rotate_left
        · intro w hSw
          (try dsimp only at hSw)
          go_simp
          try with_reducible rfl
        try simp only [Act.put, List.setIfInBounds_toArray, List.set_cons_zero, List.set_cons_succ]
        refine take_d19 (i := 13) (d := some 99) (v := ?_) rfl rfl (by kernel_rfl) (by kernel_rfl) (by kernel_rfl) (fun _ _ _ h => h) (Or.inl ⟨by rfl, ?_⟩) (by assumption) ?_
        rotate_left
        · intro w hSw
          (try dsimp only at hSw)
          go_simp
          try with_reducible rfl
        try simp only [Act.put, List.setIfInBounds_toArray, List.set_cons_zero, List.set_cons_succ]
        refine take_d19 (i := 14) (d := some 100) (v := ?_) rfl rfl (by kernel_rfl) (by kernel_rfl) (by kernel_rfl) (fun _ _ _ h => h) (Or.inl ⟨by rfl, ?_⟩) (by assumption) ?_
        rotate_left
        · intro w hSw
          (try dsimp only at hSw)
          go_simp
          try with_reducible rfl
        try simp only [Act.put, List.setIfInBounds_toArray, List.set_cons_zero, List.set_cons_succ]
        refine take_d19 (i := 15) (d := some 101) (v := ?_) rfl rfl (by kernel_rfl) (by kernel_rfl) (by kernel_rfl) (fun _ _ _ h => h) (Or.inl ⟨by rfl, ?_⟩) (by assumption) ?_
        rotate_left
        · intro w hSw
          (try dsimp only at hSw)
          go_simp
          try with_reducible rfl
        try simp only [Act.put, List.setIfInBounds_toArray, List.set_cons_zero, List.set_cons_succ]
        refine take_d19 (i := 17) (d := some 103) (v := ?_) rfl rfl (by kernel_rfl) (by kernel_rfl) (by kernel_rfl) (fun _ _ _ h => h) (Or.inl ⟨by rfl, ?_⟩) (by assumption) ?_
        rotate_left
        · intro w hSw
          (try dsimp only at hSw)
          go_simp
          try with_reducible rfl
        try simp only [Act.put, List.setIfInBounds_toArray, List.set_cons_zero, List.set_cons_succ]
        refine take_d19 (i := 18) (d := some 104) (v := ?_) rfl rfl (by kernel_rfl) (by kernel_rfl) (by kernel_rfl) (fun _ _ _ h => h) (Or.inl ⟨by rfl, ?_⟩) (by assumption) ?_
        rotate_left
        · intro w hSw
          (try dsimp only at hSw)
          go_simp
          try with_reducible rfl
        try simp only [Act.put, List.setIfInBounds_toArray, List.set_cons_zero, List.set_cons_succ]
        refine take_d19 (i := 19) (d := some 105) (v := ?_) rfl rfl (by kernel_rfl) (by kernel_rfl) (by kernel_rfl) (fun _ _ _ h => h) (Or.inl ⟨by rfl, ?_⟩) (by assumption) ?_
        rotate_left
        · intro w hSw
          (try dsimp only at hSw)
          obtain ⟨k0, k1, k2, k3, k4, k5, k6⟩ := HRQ.out w hSw
          go_simp
          try with_reducible rfl
        try simp only [Act.put, List.setIfInBounds_toArray, List.set_cons_zero, List.set_cons_succ]
        refine take_d19 (i := 20) (d := some 106) (v := ?_) rfl rfl (by kernel_rfl) (by kernel_rfl) (by kernel_rfl) (fun _ _ _ h => h) (Or.inl ⟨by rfl, ?_⟩) (by assumption) ?_
        rotate_left
        · intro w hSw
          (try dsimp only at hSw)
          obtain ⟨k0, k1, k2, k3, k4, k5, k6⟩ := HRQ.out w hSw
          go_simp
          try with_reducible rfl
        try simp only [Act.put, List.setIfInBounds_toArray, List.set_cons_zero, List.set_cons_succ]
        refine take_d19 (i := 22) (d := some 108) (v := ?_) rfl rfl (by kernel_rfl) (by kernel_rfl) (by kernel_rfl) (fun _ _ _ h => h) (Or.inl ⟨by rfl, ?_⟩) (by assumption) ?_
        rotate_left
        · intro w hSw
          (try dsimp only at hSw)
          go_simp
          try with_reducible rfl
        try simp only [Act.put, List.setIfInBounds_toArray, List.set_cons_zero, List.set_cons_succ]
        refine take_d19 (i := 23) (d := some 109) (v := ?_) rfl rfl (by kernel_rfl) (by kernel_rfl) (by kernel_rfl) (fun _ _ _ h => h) (Or.inl ⟨by rfl, ?_⟩) (by assumption) ?_
        rotate_left
        · intro w hSw
          (try dsimp only at hSw)
          go_simp
          try with_reducible rfl
        try simp only [Act.put, List.setIfInBounds_toArray, List.set_cons_zero, List.set_cons_succ]
        refine take_d19 (i := 24) (d := some 110) (v := ?_) rfl rfl (by kernel_rfl) (by kernel_rfl) (by kernel_rfl) (fun _ _ _ h => h) (Or.inl ⟨by rfl, ?_⟩) (by assumption) ?_
        rotate_left
        · intro w hSw
          (try dsimp only at hSw)
          obtain ⟨c0, c1, c2, c3⟩ := HRP.out w hSw
          go_simp
          try with_reducible rfl
        try simp only [Act.put, List.setIfInBounds_toArray, List.set_cons_zero, List.set_cons_succ]
        refine take_d19 (i := 25) (d := some 111) (v := ?_) rfl rfl (by kernel_rfl) (by kernel_rfl) (by kernel_rfl) (fun _ _ _ h => h) (Or.inl ⟨by rfl, ?_⟩) (by assumption) ?_
        rotate_left
        · intro w hSw
          (try dsimp only at hSw)
          obtain ⟨c0, c1, c2, c3⟩ := HRP.out w hSw
          go_simp
          try with_reducible rfl
        try simp only [Act.put, List.setIfInBounds_toArray, List.set_cons_zero, List.set_cons_succ]
        refine wpAnyH_ready (rs := [16]) (by kernel_rfl) (by simp) ?_
        refine AllReadyH.cons rfl (fun K hK => ?_) AllReadyH.nil
        go_simp
        refine (csnap13 _ d K0 q es wb (HCL.out.keep (below_two HBR.out h2))).mono ?_
        rintro _ wc ⟨⟨sc, Kc, rfl, hsn⟩, hbwc⟩
        go_wp2_with fail
        refine hK.out _ _ (below_two h2 hbwc) (fun h3 => ?_)
        clear hK
        try simp only [Act.put, List.setIfInBounds_toArray, List.set_cons_zero, List.set_cons_succ]
        refine wpAnyH_ready (rs := [21]) (by kernel_rfl) (by simp) ?_
        refine AllReadyH.cons rfl (fun K hK => ?_) AllReadyH.nil
        go_simp
        refine (HA2.out _ _ sc Kc hsn h3).mono ?_
        rintro _ wd ⟨⟨vbo, nb, vbc, ubo, mb, ubc, rfl, hfb, htb⟩, hbwd⟩
        unfold rpC
        go_wp2_with fail
        refine hK.out _ _ (below_two h3 hbwd) (fun h4 => ?_)
        clear hK K
        try simp only [Act.put, List.setIfInBounds_toArray, List.set_cons_zero, List.set_cons_succ]
        refine wpAnyH_ready (rs := [26]) (by kernel_rfl) (by simp) ?_
        refine AllReadyH.cons rfl (fun K hK => ?_) AllReadyH.nil
        go_simp
        refine (rsameRes19 P.s ⟨P.b.toArray⟩ (.slice vbo nb vbc) (.slice vo n vc) (.slice ubo mb ubc) (.slice uo m uc) P.fs P.ts wd hfb.1 (HF1.out.1.keep h4) htb.1 (HF2.out.1.keep h4) (by have := HSM.out.1; omega) (by have := HSM.out.2; omega)).mono ?_
        rintro _ we ⟨rfl, hbwe⟩
        go_wp2_with fail
        refine hK.out _ _ (below_two h4 hbwe) (fun h5 => ?_)
        clear hK K
        try simp only [Act.put, List.setIfInBounds_toArray, List.set_cons_zero, List.set_cons_succ]
        refine take_d19 (i := 27) (d := some 113) (v := ?_) rfl rfl (by kernel_rfl) (by kernel_rfl) (by kernel_rfl) (fun _ _ _ h => h) (Or.inl ⟨by rfl, ?_⟩) (by assumption) ?_
        rotate_left
        · intro w hSw
          (try dsimp only at hSw)
          go_simp
          try with_reducible rfl
        try simp only [Act.put, List.setIfInBounds_toArray, List.set_cons_zero, List.set_cons_succ]
        refine take_d19 (i := 28) (d := some 114) (v := ?_) rfl rfl (by kernel_rfl) (by kernel_rfl) (by kernel_rfl) (fun _ _ _ h => h) (Or.inl ⟨by rfl, ?_⟩) (by assumption) ?_
        rotate_left
        · intro w hSw
          (try dsimp only at hSw)
          go_simp
          try with_reducible rfl
        try simp only [Act.put, List.setIfInBounds_toArray, List.set_cons_zero, List.set_cons_succ]
        try simp only [Act.put]
        refine wpAnyH_done (by kernel_rfl) ?_ _
        go_wp2
        go_roundw
        case rel => exact ⟨k, by go_num, by omega, hid' (below_two HBR.out h5)⟩
        case measure => simp [intOf]

end Go.Proofs.YthhpejgpfaikaabGreatDoor
