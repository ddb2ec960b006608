/-
  H1readCuts: in what pieces bytes come does not matter: by its contract.
-/
import Derived.Test.YtbpdhcfmdkmoiaaGreatDoorPnBO
namespace Go.Proofs.YtbpdhcfmdkmoiaaGreatDoor
open Go.RowKit

theorem Hq.cutr21 (x : ByteArray) (k : Nat) : (x.extract k x.size).data.toList = x.data.toList.drop k := by
  rw [Lib.extract_data, List.take_of_length_le]
  rw [List.length_drop, ← Lib.size_eq]; exact Nat.le_refl _

set_option maxHeartbeats 32000000 in
set_option maxRecDepth 20000 in
theorem h1readCuts_any (L M : Int) (d : ByteArray) (cut : Int) (w : World) (hT : TB w) (hd : d.size ≤ 1048576) (hL : -9223372036854775808 ≤ L) (hL2 : L ≤ 9223372036854775807) (hM : -9223372036854775808 ≤ M) (hM2 : M ≤ 9223372036854775807) :
    Calls Tryz.prog 3 #[.agg #[.int .i64 L, .int .i64 M], .string d, .int .i64 cut] w fun e w' => e = .returned (.bool true) ∧ Below w.heap.size w w' := by
  have HT := hid' hT
  clear hT
  by_cases hbad : L < 1 ∨ M < 0
  · have HNW := hid' (fun W => cnew21_no L M 0 0 0 0 0 0 0 hbad W)
    clear hbad
    go_enter Tryz.func3, Tryz.ntmps3
    go_wp2_with (refine wpl_box 23 _ rfl rfl #[.int .i64 L, .int .i64 M] (by kernel_rfl) ?_)
    intro xz w1 hgz haz hbz
    have HB1 := hid' hbz
    have HAZ1 := hid' haz
    clear hgz haz hbz
    have z0 : w1.cell? ⟨xz, 0, none⟩ = some (.int .i64 L) := HAZ1.out.cell 0 _ rfl
    have z1 : w1.cell? ⟨xz, 1, none⟩ = some (.int .i64 M) := HAZ1.out.cell 1 _ rfl
    go_wp2_with (go_at_call 7; refine (climits21 L M _).mono ?_; rintro e w2 ⟨rfl, hb2⟩; refine Hid.out ?_)
    refine hid' ?_
    have HB2 := hid' (below_two HB1.out hb2)
    have HAZ2 := hid' (HAZ1.out.keep hb2)
    have HS2 : Hid (w1.heap.size ≤ w2.heap.size) := hid' hb2.size
    have HK2 := hid' hb2
    clear hb2 z0 z1
    go_wp2_with (go_at_call 6; refine (HNW.out _).mono ?_; rintro e w3 ⟨rfl, hb3⟩; refine Hid.out ?_)
    refine hid' ?_
    have HB3 := hid' (below_two HB2.out hb3)
    have HAZ3 := hid' (HAZ2.out.keep hb3)
    clear hb3
    have z0 : w3.cell? ⟨xz, 0, none⟩ = some (.int .i64 L) := HAZ3.out.cell 0 _ rfl
    have z1 : w3.cell? ⟨xz, 1, none⟩ = some (.int .i64 M) := HAZ3.out.cell 1 _ rfl
    go_wp2_with (go_at_call 7; refine (climits21 L M _).mono ?_; rintro e w4 ⟨rfl, hb4⟩; refine Hid.out ?_)
    refine hid' ?_
    have HB4 := hid' (below_two HB3.out hb4)
    have HAZ4 := hid' (HAZ3.out.keep hb4)
    have HS4 : Hid (w3.heap.size ≤ w4.heap.size) := hid' hb4.size
    have HK4 := hid' hb4
    clear hb4 z0 z1
    go_wp2_with (go_at_call 6; refine (HNW.out _).mono ?_; rintro e w5 ⟨rfl, hb5⟩; refine Hid.out ?_)
    refine hid' ?_
    have HB5 := hid' (below_two HB4.out hb5)
    have HAZ5 := hid' (HAZ4.out.keep hb5)
    clear hb5
    have z0 : w5.cell? ⟨xz, 0, none⟩ = some (.int .i64 L) := HAZ5.out.cell 0 _ rfl
    have z1 : w5.cell? ⟨xz, 1, none⟩ = some (.int .i64 M) := HAZ5.out.cell 1 _ rfl
    go_wp2_with (go_at_call 7; refine (climits21 L M _).mono ?_; rintro e w6 ⟨rfl, hb6⟩; refine Hid.out ?_)
    refine hid' ?_
    have HB6 := hid' (below_two HB5.out hb6)
    have HAZ6 := hid' (HAZ5.out.keep hb6)
    have HS6 : Hid (w5.heap.size ≤ w6.heap.size) := hid' hb6.size
    have HK6 := hid' hb6
    clear hb6 z0 z1
    go_wp2_with (go_at_call 6; refine (HNW.out _).mono ?_; rintro e w7 ⟨rfl, hb7⟩; refine Hid.out ?_)
    refine hid' ?_
    have HB7 := hid' (below_two HB6.out hb7)
    have HAZ7 := hid' (HAZ6.out.keep hb7)
    clear hb7
    go_wp2_with (go_at_call 8; refine (awake21 _ (HT.out.keep HB7.out)).mono ?_; rintro e w8 ⟨rfl, hb8⟩; refine Hid.out ?_)
    refine hid' ?_
    have HB8 := hid' (below_two HB7.out hb8)
    clear hb8
    go_wp2
    go_ret
    exact ⟨rfl, HB8.out⟩
  · obtain ⟨Ln, hLn⟩ : ∃ n : Nat, L = (n : Int) := ⟨L.toNat, by omega⟩
    obtain ⟨Mn, hMn⟩ : ∃ n : Nat, M = (n : Int) := ⟨M.toNat, by omega⟩
    have hL1 : 1 ≤ Ln := by omega
    have HNW := hid' (fun W (h : TB W) => cnewT21 Ln Mn hL1 (by omega) (by omega) W h)
    rw [← hLn, ← hMn] at HNW
    obtain ⟨S, hS⟩ : ∃ S, Hr.zero Ln Mn (.inl false) = S := ⟨_, rfl⟩
    rw [hS] at HNW
    have hg : Hr.Good S := by rw [← hS]; exact Hr.good_zero _ _
    have hdd : Hr.isDead S = false := by rw [← hS]; rfl
    have HC0 : Hid (Hr.cost S = 0) := hid' (by rw [← hS]; rfl)
    have HG := hid' hg
    have HDD := hid' hdd
    obtain ⟨m, hm⟩ : ∃ m, 2 * d.size + 8 = m := ⟨_, rfl⟩
    have HM : Hid (m ≤ 4194304) := hid' (by omega)
    have HMD : Hid (2 * d.size + 8 = m) := hid' hm
    have hmi : 2 * (d.size : Int) + 8 = (m : Int) := by omega
    obtain ⟨kk, hkk⟩ : ∃ kk : Nat, min (max cut 0) (d.size : Int) = (kk : Int) := ⟨(min (max cut 0) (d.size : Int)).toNat, by omega⟩
    have hkd : kk ≤ d.size := by omega
    have HTD0 := Hr.told_good S hg hdd m d.data.toList (by rw [← Lib.size_eq]; omega)
    obtain ⟨PP, hPP⟩ : ∃ PP, Hr.put [] (Hr.evs S d.data.toList).1 = PP := ⟨_, rfl⟩
    obtain ⟨FS, hFS⟩ : ∃ FS, (Hr.evs S d.data.toList).2 = FS := ⟨_, rfl⟩
    rw [hPP, hFS] at HTD0
    obtain ⟨tF, htF⟩ : ∃ tF, Hr.stat FS = tF := ⟨_, rfl⟩
    rw [htF] at HTD0
    have HTD := hid' HTD0.1
    have HTF := hid' htF
    have HPP := hid' hPP
    have HFS := hid' hFS
    clear hbad hMn hLn hL1 hS hg hdd hm HTD0 hPP hFS htF
    go_enter Tryz.func3, Tryz.ntmps3
    go_wp2_with (refine wpl_box 23 _ rfl rfl #[.int .i64 L, .int .i64 M] (by kernel_rfl) ?_)
    intro xz w1 hgz haz hbz
    have HB1 := hid' hbz
    have HAZ1 := hid' haz
    clear hgz haz hbz
    have z0 : w1.cell? ⟨xz, 0, none⟩ = some (.int .i64 L) := HAZ1.out.cell 0 _ rfl
    have z1 : w1.cell? ⟨xz, 1, none⟩ = some (.int .i64 M) := HAZ1.out.cell 1 _ rfl
    go_wp2_with (go_at_call 7; refine (climits21 L M _).mono ?_; rintro e w2 ⟨rfl, hb2⟩; refine Hid.out ?_)
    refine hid' ?_
    have HB2 := hid' (below_two HB1.out hb2)
    have HAZ2 := hid' (HAZ1.out.keep hb2)
    have HS2 : Hid (w1.heap.size ≤ w2.heap.size) := hid' hb2.size
    have HK2 := hid' hb2
    clear hb2 z0 z1
    go_wp2_with (go_at_call 6; refine (HNW.out _ (HT.out.keep HB2.out)).mono ?_; rintro e w3 ⟨⟨b1, rfl, hr3⟩, hb3⟩; refine Hid.out ?_)
    refine hid' ?_
    have HB3 := hid' (below_two HB2.out hb3)
    have HAZ3 := hid' (HAZ2.out.keep hb3)
    have HR3 := hid' (hr3.rebase HT.out HB3.out (by have h1 := HB2.out.size; omega))
    have HLO3 : Hid (w2.heap.size ≤ b1 ∧ b1 < w3.heap.size) := hid' ⟨hr3.rn.lo, hr3.rn.obj.lt⟩
    have HK3 := hid' hb3
    clear hb3 hr3
    have z0 : w3.cell? ⟨xz, 0, none⟩ = some (.int .i64 L) := HAZ3.out.cell 0 _ rfl
    have z1 : w3.cell? ⟨xz, 1, none⟩ = some (.int .i64 M) := HAZ3.out.cell 1 _ rfl
    go_wp2_with (go_at_call 7; refine (climits21 L M _).mono ?_; rintro e w4 ⟨rfl, hb4⟩; refine Hid.out ?_)
    refine hid' ?_
    have HB4 := hid' (below_two HB3.out hb4)
    have HAZ4 := hid' (HAZ3.out.keep hb4)
    have HS4 : Hid (w3.heap.size ≤ w4.heap.size) := hid' hb4.size
    have HK4 := hid' hb4
    clear hb4 z0 z1
    go_wp2_with (go_at_call 6; refine (HNW.out _ (HT.out.keep HB4.out)).mono ?_; rintro e w5 ⟨⟨b2, rfl, hr5⟩, hb5⟩; refine Hid.out ?_)
    refine hid' ?_
    have HB5 := hid' (below_two HB4.out hb5)
    have HAZ5 := hid' (HAZ4.out.keep hb5)
    have HR5 := hid' (hr5.rebase HT.out HB5.out (by have h1 := HB4.out.size; omega))
    have HLO5 : Hid (w4.heap.size ≤ b2 ∧ b2 < w5.heap.size) := hid' ⟨hr5.rn.lo, hr5.rn.obj.lt⟩
    have HK5 := hid' hb5
    clear hb5 hr5
    have z0 : w5.cell? ⟨xz, 0, none⟩ = some (.int .i64 L) := HAZ5.out.cell 0 _ rfl
    have z1 : w5.cell? ⟨xz, 1, none⟩ = some (.int .i64 M) := HAZ5.out.cell 1 _ rfl
    go_wp2_with (go_at_call 7; refine (climits21 L M _).mono ?_; rintro e w6 ⟨rfl, hb6⟩; refine Hid.out ?_)
    refine hid' ?_
    have HB6 := hid' (below_two HB5.out hb6)
    have HAZ6 := hid' (HAZ5.out.keep hb6)
    have HS6 : Hid (w5.heap.size ≤ w6.heap.size) := hid' hb6.size
    have HK6 := hid' hb6
    clear hb6 z0 z1
    go_wp2_with (go_at_call 6; refine (HNW.out _ (HT.out.keep HB6.out)).mono ?_; rintro e w7 ⟨⟨b3, rfl, hr7⟩, hb7⟩; refine Hid.out ?_)
    refine hid' ?_
    have HB7 := hid' (below_two HB6.out hb7)
    have HAZ7 := hid' (HAZ6.out.keep hb7)
    have HR7 := hid' (hr7.rebase HT.out HB7.out (by have h1 := HB6.out.size; omega))
    have HLO7 : Hid (w6.heap.size ≤ b3 ∧ b3 < w7.heap.size) := hid' ⟨hr7.rn.lo, hr7.rn.obj.lt⟩
    have HK7 := hid' hb7
    clear hb7 hr7
    have HR1 := hid' (HR3.out.keep (below_two HK4.out (below_two HK5.out (below_two HK6.out HK7.out))))
    have HR2 := hid' (HR5.out.keep (below_two HK6.out HK7.out))
    have HN12 : Hid (b2 ≠ b1 ∧ b3 ≠ b1 ∧ b3 ≠ b2) := hid' (by
      have h1 := HLO3.out; have h2 := HLO5.out; have h3 := HLO7.out; have h4 := HK4.out.size; have h5 := HK6.out.size; have h6 := HK5.out.size
      omega)
    clear HR3 HR5 HLO3 HLO5 HLO7 HK4 HK5 HK6 HK7 HK2 HAZ1 HAZ2 HAZ3 HAZ4 HAZ5 HAZ6 HAZ7 HB1 HB2 HB3 HB4 HB5 HB6 HS2 HS4 HS6 HNW
    go_upto_region 9 with fail
    have HTA := hid' (ctold21 w.heap.size b1 m (.slice none 0 0) (.slice none 0 0) S d w7 HR1.out (by rw [HC0.out]; omega) HM.out)
    rw [HTD.out] at HTA
    go_wp2_with (go_at_call 9; refine HTA.out.mono ?_; rintro e w8 ⟨vA, rfl, lvA, fvA, ht8⟩; refine Hid.out ?_)
    refine hid' ?_
    have HQ8 := hid' (HR2.out.beside HR1.out (fun h => HN12.out.1 (rs_nil21 h)) ht8.lf)
    have HO8 := hid' (HR7.out.beside HR1.out (fun h => HN12.out.2.1 (rs_nil21 h)) ht8.lf)
    have HB8 : Hid (Below w.heap.size w w8) := hid' (HB7.out.trans (ht8.lf.below HB7.out.size (fun k hk => (HR1.out.rn.rs k hk).1)))
    have HPA8 := hid' (((ht8.ps.apart HQ8.out.rn.obj (by decide) (by decide)).apart HO8.out.rn.obj (by decide) (by decide)).weak (X' := fun k => k = b2 ∨ k = b3) (fun k _ h => h.elim (fun e => .inl (.inr e)) (fun e => .inr e)))
    have HLA8 : Hid (PP.length ≤ m) := hid' ht8.len
    have HBA8 : Hid (∀ x ∈ PP, x.bd.size ≤ 1048576) := hid' (fun x hx => by have := ht8.bd x hx; rw [HC0.out] at this; omega)
    have HVA : Hid (∀ k, vA.ownBlock = some k → k < w8.heap.size) := hid' ht8.ps.lt
    obtain ⟨aA, cA, hvA⟩ := ht8.ps.shape
    subst hvA
    clear ht8 HTA HR1 HR2 HR7 HB7
    obtain ⟨a, ha⟩ : ∃ a, d.extract 0 kk = a := ⟨_, rfl⟩
    obtain ⟨c, hc⟩ : ∃ c, d.extract kk d.size = c := ⟨_, rfl⟩
    have hac : a.data.toList ++ c.data.toList = d.data.toList := by
      rw [← ha, ← hc, Lib.extract_data, Hq.cutr21, List.drop_zero, Nat.sub_zero, List.take_append_drop]
    have has : a.size = kk := by rw [← ha, ByteArray.size_extract]; omega
    have hcs : c.size + kk = d.size := by rw [← hc, ByteArray.size_extract]; omega
    have hk0 : (0 : Int) ≤ (kk : Int) := by omega
    have hk1 : (kk : Int) ≤ (d.size : Int) := by omega
    have HAC := hid' hac
    have HAS := hid' has
    have HCS := hid' hcs
    have HA0 := hid' ha
    have HC1 := hid' hc
    have HT1 := Hr.told_good S HG.out HDD.out m a.data.toList (by rw [← Lib.size_eq]; have := HMD.out; omega)
    obtain ⟨PA, hPA⟩ : ∃ PA, Hr.put [] (Hr.evs S a.data.toList).1 = PA := ⟨_, rfl⟩
    obtain ⟨FA, hFA⟩ : ∃ FA, (Hr.evs S a.data.toList).2 = FA := ⟨_, rfl⟩
    rw [hPA, hFA] at HT1
    obtain ⟨t1, ht1⟩ : ∃ t1, Hr.stat FA = t1 := ⟨_, rfl⟩
    rw [ht1] at HT1
    have HT1L := hid' HT1.2
    have HTO := hid' (ctold21 w.heap.size b2 m (.slice none 0 0) (.slice none 0 0) S a w8 HQ8.out (by rw [HC0.out]; omega) HM.out)
    rw [HT1.1] at HTO
    have HPA' := hid' hPA
    have HFA' := hid' hFA
    have HT1S := hid' ht1
    have HA8 := hid' (And.intro HPA8.out HVA.out)
    clear HT1 hac ha hc hPA hFA ht1 HPA8 HVA
    go_wp2_with (go_at_call 9; (try rw [HA0.out]); refine HTO.out.mono ?_; rintro e w9 ⟨vO, rfl, lvO, fvO, ht9⟩; refine Hid.out ?_)
    refine hid' ?_
    have HQ9 := hid' ht9.rt
    have HO9 := hid' (HO8.out.beside HQ8.out (fun h => HN12.out.2.2 (rs_nil21 h)) ht9.lf)
    have HB9 : Hid (Below w.heap.size w w9) := hid' (HB8.out.trans (ht9.lf.below HB8.out.size (fun k hk => (HQ8.out.rn.rs k hk).1)))
    have HPA9 := hid' (HA8.out.1.told ht9.lf ht9.rw (fun k h => .inl (rs_nil21 h)))
    have HPO9 := hid' (ht9.ps.apart HO9.out.rn.obj (by decide) (by decide))
    have HFR9 : Hid (∀ k, vO.ownBlock = some k → w8.heap.size ≤ k) := hid' ht9.fr
    have HLO9 : Hid (PA.length ≤ m) := hid' ht9.len
    have HBO9 : Hid (∀ x ∈ PA, x.bd.size ≤ 1048576) := hid' (fun x hx => by have h1 := ht9.bd x hx; rw [HC0.out, HAS.out] at h1; omega)
    have HCO9 : Hid (Hr.cost FA ≤ kk) := hid' (by have h1 := ht9.cost; rw [HC0.out, HAS.out] at h1; simpa using h1)
    obtain ⟨aO, cO, hvO⟩ := ht9.ps.shape
    subst hvO
    clear ht9 HTO HQ8 HO8 HB8
    cases hda : Hr.isDead FA
    rotate_left
    · have hst := HT1L.out.2 hda
      have ht0 : (t1 == 0) = false := beq_false_of_ne hst
      have ht0' : ¬ t1 = 0 := hst
      have HEV := hid' (Hr.cut_dead S a.data.toList c.data.toList (by rw [HFA'.out]; exact hda))
      have HPE : Hid (PA = PP ∧ FA = FS) := hid' (by
        have h1 := HEV.out
        rw [HAC.out] at h1
        exact ⟨by rw [← HPA'.out, ← HPP.out, h1], by rw [← HFA'.out, ← HFS.out, h1]⟩)
      obtain ⟨e1, e2⟩ := HPE.out
      subst e1 e2
      have HLA : Hid (PS21 w9 w.heap.size (fun k => k = b3) (.slice aA PA.length cA) PA) := hid' (HPA9.out.weak (fun k _ h => .inl (.inr h)))
      have HLO : Hid (PS21 w9 w.heap.size (fun k => k = b3) (.slice aO PA.length cO) PA) := hid' (HPO9.out.weak (fun k _ h => .inr h))
      have HVB : Hid ((∀ k, (Value.slice aA PA.length cA).ownBlock = some k → k < w9.heap.size) ∧ ∀ k, (Value.slice aO PA.length cO).ownBlock = some k → k < w9.heap.size) := hid' ⟨HPA9.out.lt, HPO9.out.lt⟩
      obtain rfl : t1 = tF := HT1S.out.symm.trans HTF.out
      clear hst hda HPA9 HPO9 HPE HA8 HQ9 HFR9 HCO9 HT1S HEV HFA' HPA' HT1L
      have HCU0 : Hid (CU21 w w.heap.size b3 w9.heap.size d.data.toList S (.slice aA PA.length cA) (.slice aO PA.length cO) PA PA 0 0 (.slice none 0 0) (.slice none 0 0) (.slice none 0 0) w9) := hid' (by
        have e0 : Hr.evs S (d.data.toList.take 0) = ([], S) := by rw [List.take_zero]; rfl
        refine ⟨by rw [e0]; exact HO9.out, HLA.out.weak (fun k _ h => rs_nil21 h), HLO.out.weak (fun k _ h => rs_nil21 h), by rw [e0]; exact PS21.nil _ _ _, fun k hk => by simp [Value.ownBlock] at hk, by rw [e0]; exact Nat.le_of_eq HC0.out, fun x hx => by rw [e0] at hx; simp [Hr.put] at hx, by rw [e0]; simp [Hr.put], fun _ => by rw [e0]; exact HG.out, fun h => by rw [e0] at h; rw [show Hr.isDead S = true from h] at HDD; exact absurd HDD.out (by decide), by rw [e0]; exact (Hr.stat_live HDD.out).symm, HB9.out, Nat.le_refl _⟩)
      go_wp2
      go_loopw [24, 25, 26, 27, 28, 29] (fun s24 s25 s26 s27 s28 s29 wr => ∃ (i : Nat) (t : Int) (so : Option Addr) (sn sc : Nat) (lv fv : Value), s26 = .int .i64 (i : Int) ∧ s25 = .int .i64 t ∧ s24 = .slice so sn sc ∧ i ≤ d.size ∧ Hid (CU21 w w.heap.size b3 w9.heap.size d.data.toList S (.slice aA PA.length cA) (.slice aO PA.length cO) PA PA i t (.slice so sn sc) lv fv wr)) (fun _ _ s26 _ _ _ _ => d.size - (intOf s26).toNat)
      case atStart => exact ⟨0, 0, none, 0, 0, _, _, rfl, rfl, rfl, Nat.zero_le _, HCU0⟩
      case round =>
        obtain ⟨i, t, so, sn, sc, lv, fv, rfl, rfl, rfl, hi, HK⟩ := hrel
        by_cases hlt : i < d.size
        · have hlt2 : (i : Int) < (d.size : Int) := by omega
          have HLT := hid' hlt
          by_cases ht0 : t = 0
          · subst ht0
            have hi2 : (i : Int) + 1 ≤ (d.size : Int) := by omega
            obtain ⟨x, hx⟩ : ∃ x, d.extract i (i + 1) = x := ⟨_, rfl⟩
            have hxs : x.size = 1 := by rw [← hx, ByteArray.size_extract]; omega
            have HTK : Hid (d.data.toList.take (i + 1) = d.data.toList.take i ++ x.data.toList) := hid' (by rw [← hx, Lib.extract_data, Nat.add_sub_cancel_left, List.take_add])
            obtain ⟨si, hsi⟩ : ∃ si, (Hr.evs S (d.data.toList.take i)).2 = si := ⟨_, rfl⟩
            have hlv : Hr.isDead si = false := by
              cases hq : Hr.isDead si
              · rfl
              · exact absurd HK.out.st.symm (HK.out.dead (by rw [hsi]; exact hq))
            have hgd : Hr.Good si := by have := HK.out.live (by rw [hsi]; exact hlv); rwa [hsi] at this
            have HTX := Hr.told_good si hgd hlv 8 x.data.toList (by rw [← Lib.size_eq]; omega)
            have HEV := Hr.evs_app (d.data.toList.take i) x.data.toList S
            have HJN := Hr.cut_join S (d.data.toList.take i) x.data.toList
            rw [← HTK.out, hsi] at HEV HJN
            have hes : (Hr.evs si x.data.toList).2 = (Hr.evs S (d.data.toList.take (i + 1))).2 := by rw [HEV]
            rw [hes] at HTX
            obtain ⟨sj, hsj⟩ : ∃ sj, (Hr.evs S (d.data.toList.take (i + 1))).2 = sj := ⟨_, rfl⟩
            obtain ⟨Pr, hPr⟩ : ∃ Pr, Hr.put [] (Hr.evs si x.data.toList).1 = Pr := ⟨_, rfl⟩
            obtain ⟨Pi, hPi⟩ : ∃ Pi, Hr.put [] (Hr.evs S (d.data.toList.take i)).1 = Pi := ⟨_, rfl⟩
            obtain ⟨tj, htj⟩ : ∃ tj, Hr.stat sj = tj := ⟨_, rfl⟩
            rw [hsj, hPr, htj] at HTX
            rw [hPr, hPi] at HJN
            have HRT : Hid (RT21 w.heap.size b3 si lv fv wr) := hid' (by have := HK.out.rt; rwa [hsi] at this)
            have HCOS : Hid (Hr.cost si ≤ i) := hid' (by have := HK.out.cost; rwa [hsi] at this)
            have HPSI : Hid (PS21 wr w.heap.size (RS b3 lv fv) (.slice so sn sc) Pi) := hid' (by have := HK.out.ps; rwa [hPi] at this)
            have HBDI : Hid (∀ y ∈ Pi, y.bd.size ≤ i * 1048577) := hid' (by have := HK.out.bd; rwa [hPi] at this)
            have HLNI : Hid (Pi.length ≤ 8 * i) := hid' (by have := HK.out.len; rwa [hPi] at this)
            have HSN : Hid (Pi.length = sn) := hid' (by
              obtain ⟨a', c', hv⟩ := HPSI.out.shape
              injection hv with _ v2 _
              exact v2.symm)
            have HTX2 := hid' HTX.2
            have HXE := hid' hx
            have HXS := hid' hxs
            have HJ := hid' HJN
            have HSJ := hid' hsj
            have HTJ := hid' htj
            have HTL := hid' (ctold21 w.heap.size b3 8 lv fv si x wr HRT.out (by have := HCOS.out; omega) (by decide))
            rw [HTX.1] at HTL
            clear HTX HEV HJN hes hsj hPr hPi htj hsi hlv hgd hxs hx
            go_wp2_with (go_at_call 9; (try rw [HXE.out]); refine HTL.out.mono ?_; rintro e wp ⟨vT, rfl, lvT, fvT, htp⟩; refine Hid.out ?_)
            refine hid' ?_
            have HPA' := hid' ((HK.out.pa.told htp.lf htp.rw (fun k h => h)).weak (X' := RS b3 lvT fvT) (fun k _ h => .inr h))
            have HPO' := hid' ((HK.out.po.told htp.lf htp.rw (fun k h => h)).weak (X' := RS b3 lvT fvT) (fun k _ h => .inr h))
            have HPS' := hid' ((HPSI.out.told htp.lf htp.rw (fun k h => h)).weak (X' := RS b3 lvT fvT) (fun k _ h => .inr h))
            have HPT' := hid' htp.ps
            have HRT' := hid' htp.rt
            have HBP : Hid (Below w.heap.size w wp) := hid' (HK.out.below.trans (htp.lf.below HK.out.below.size (fun k hk => (HRT.out.rn.rs k hk).1)))
            have HSP : Hid (wr.heap.size ≤ wp.heap.size) := hid' htp.lf.size
            have HFRT : Hid (∀ k, vT.ownBlock = some k → wr.heap.size ≤ k) := hid' htp.fr
            have HLNT : Hid (Pr.length ≤ 8) := hid' htp.len
            have HBDT : Hid (∀ y ∈ Pr, y.bd.size ≤ 1048577) := hid' (fun y hy => by have h1 := htp.bd y hy; have h2 := HCOS.out; have h3 := HXS.out; have h4 := HLT.out; omega)
            have HCOJ : Hid (Hr.cost sj ≤ i + 1) := hid' (by have h1 := htp.cost; have h2 := HCOS.out; have h3 := HXS.out; simp only at h1; omega)
            obtain ⟨aT, cT, hvT⟩ := htp.ps.shape
            subst hvT
            clear htp HTL
            have HNE : Hid (∀ k, (Value.slice so sn sc).ownBlock = some k → (Value.slice aT Pr.length cT).ownBlock ≠ some k) := hid' (fun k h1 h2 => by have h3 := HPSI.out.lt k h1; have h4 := HFRT.out k h2; omega)
            have HJO := hid' (cjoined21 w.heap.size (RS b3 lvT fvT) so aT sn Pr.length sc cT Pi Pr wp HPS'.out HPT'.out HSN.out rfl (by have h1 := HLNI.out; have h2 := HLNT.out; have h3 := HSN.out; have h4 := HLT.out; omega) (fun k hk => (HRT'.out.rn.rs k hk).2) HBP.out.size HNE.out (fun y hy => by
              rcases List.mem_append.1 hy with h | h
              · have h1 := HBDI.out y h; have h4 := HLT.out; omega
              · have := HBDT.out y h; omega))
            rw [HJ.out] at HJO
            have hlt := HLT.out
            go_wp2_with (go_at_call 10; refine HJO.out.mono ?_; rintro e wj ⟨vJ, rfl, hj⟩; refine Hid.out ?_)
            refine hid' ?_
            obtain ⟨aJ2, cJ2, hvJ⟩ := hj.ps.shape
            subst hvJ
            have HN9 := hid' (show CU21 w w.heap.size b3 w9.heap.size d.data.toList S (.slice aA PA.length cA) (.slice aO PA.length cO) PA PA (i + 1) tj _ lvT fvT wj from ⟨by rw [HSJ.out]; exact HRT'.out.joined HPS'.out (fun k h => h) hj, HPA'.out.joined HPS'.out (fun k h1 h2 => by have h3 := HVB.out.1 k h1; have h4 := HK.out.fr k h2; omega) hj, HPO'.out.joined HPS'.out (fun k h1 h2 => by have h3 := HVB.out.2 k h1; have h4 := HK.out.fr k h2; omega) hj, hj.ps, fun k hk => by
              rcases hj.fr k hk with h | h
              · exact HK.out.fr k h
              · have h1 := HK.out.sz; have h2 := HSP.out; omega, by rw [HSJ.out]; exact HCOJ.out, fun y hy => by
              rw [← HJ.out] at hy
              have := Hr.joinP_bd HBDI.out HBDT.out y hy
              omega, by rw [← HJ.out]; have h1 := Hr.joinP_len Pi Pr; have h2 := HLNI.out; have h3 := HLNT.out; omega, fun h => by rw [HSJ.out] at h ⊢; exact HTX2.out.1 h, fun h => by rw [HSJ.out] at h ⊢; rw [HTJ.out]; exact HTX2.out.2 h, by rw [HSJ.out, HTJ.out], HBP.out.trans (hj.lf.below HBP.out.size (fun k hk => by
              obtain ⟨⟨xs, ho, _⟩, _⟩ := HPS'.out
              exact (own_ty ho k hk).1)), Nat.le_trans HK.out.sz (Nat.le_trans HSP.out hj.lf.size)⟩)
            clear hj HJO
            go_wp2
            go_roundw
            case rel => exact ⟨i + 1, tj, aJ2, _, cJ2, lvT, fvT, by go_num, rfl, rfl, by have := HLT.out; omega, HN9⟩
            case measure => have := HLT.out; simp [intOf]; omega
          · have ht0b : (t == 0) = false := beq_false_of_ne ht0
            have HEX : Hid (Hr.put [] (Hr.evs S (d.data.toList.take i)).1 = PA ∧ t = t1) := hid' (by
              have hdd : Hr.isDead (Hr.evs S (d.data.toList.take i)).2 = true := by
                cases hq : Hr.isDead (Hr.evs S (d.data.toList.take i)).2
                · exact absurd (by rw [HK.out.st]; exact Hr.stat_live hq) ht0
                · rfl
              have he : Hr.evs S (d.data.toList.take i) = Hr.evs S d.data.toList := by
                have := Hr.cut_dead S (d.data.toList.take i) (d.data.toList.drop i) hdd
                rw [List.take_append_drop] at this
                exact this.symm
              exact ⟨by rw [he]; exact HPP.out, by rw [HK.out.st, he, HFS.out]; exact HTF.out⟩)
            obtain ⟨_, e2⟩ := HEX.out
            subst e2
            obtain ⟨a', c', hv⟩ := HK.out.ps.shape
            rw [HEX.out.1] at hv
            injection hv with v1 v2 v3
            subst v1 v2 v3
            have HPS : Hid (PS21 wr w.heap.size (RS b3 lv fv) (.slice so PA.length sc) PA) := hid' (by have := HK.out.ps; rwa [HEX.out.1] at this)
            have HSM1 := hid' (fun W (hw : Below wr.heap.size wr W) => csameRow21 w.heap.size w.heap.size _ _ aA aO PA.length cA cO PA W (HK.out.pa.keep hw) (HK.out.po.keep hw) rfl HLA.out.small (by have h1 := HLA8.out; have h2 := HM.out; omega))
            have HSM2 := hid' (fun W (hw : Below wr.heap.size wr W) => csameRow21 w.heap.size w.heap.size _ _ aA so PA.length cA sc PA W (HK.out.pa.keep hw) (HPS.out.keep hw) rfl HLA.out.small (by have h1 := HLA8.out; have h2 := HM.out; omega))
            have htt : (t == t) = true := by simp
            go_wp2_with (go_at_call 8; refine (awake21 _ (HT.out.keep HK.out.below)).mono ?_; rintro e u1 ⟨rfl, hu1⟩; refine Hid.out ?_)
            refine hid' ?_
            have HU1 := hid' hu1
            clear hu1
            go_wp2_with (go_at_call 11; refine (HSM1.out _ HU1.out).mono ?_; rintro e u2 ⟨rfl, hu2⟩; refine Hid.out ?_)
            refine hid' ?_
            have HU2 := hid' (below_two HU1.out hu2)
            clear hu2
            go_wp2_with (go_at_call 11; refine (HSM2.out _ HU2.out).mono ?_; rintro e u3 ⟨rfl, hu3⟩; refine Hid.out ?_)
            refine hid' ?_
            have HU3 := hid' (below_two HK.out.below (below_two HU2.out hu3))
            clear hu3
            go_wp2
            go_ret
            exact ⟨rfl, HU3.out⟩
        · have hlt2 : ¬ (i : Int) < (d.size : Int) := by omega
          have HEX : Hid (Hr.put [] (Hr.evs S (d.data.toList.take i)).1 = PA ∧ t = t1) := hid' (by
            have he : Hr.evs S (d.data.toList.take i) = Hr.evs S d.data.toList := by rw [List.take_of_length_le (by rw [← Lib.size_eq]; omega)]
            exact ⟨by rw [he]; exact HPP.out, by rw [HK.out.st, he, HFS.out]; exact HTF.out⟩)
          obtain ⟨_, e2⟩ := HEX.out
          subst e2
          obtain ⟨a', c', hv⟩ := HK.out.ps.shape
          rw [HEX.out.1] at hv
          injection hv with v1 v2 v3
          subst v1 v2 v3
          have HPS : Hid (PS21 wr w.heap.size (RS b3 lv fv) (.slice so PA.length sc) PA) := hid' (by have := HK.out.ps; rwa [HEX.out.1] at this)
          have HSM1 := hid' (fun W (hw : Below wr.heap.size wr W) => csameRow21 w.heap.size w.heap.size _ _ aA aO PA.length cA cO PA W (HK.out.pa.keep hw) (HK.out.po.keep hw) rfl HLA.out.small (by have h1 := HLA8.out; have h2 := HM.out; omega))
          have HSM2 := hid' (fun W (hw : Below wr.heap.size wr W) => csameRow21 w.heap.size w.heap.size _ _ aA so PA.length cA sc PA W (HK.out.pa.keep hw) (HPS.out.keep hw) rfl HLA.out.small (by have h1 := HLA8.out; have h2 := HM.out; omega))
          have htt : (t == t) = true := by simp
          go_wp2_with (go_at_call 8; refine (awake21 _ (HT.out.keep HK.out.below)).mono ?_; rintro e u1 ⟨rfl, hu1⟩; refine Hid.out ?_)
          refine hid' ?_
          have HU1 := hid' hu1
          clear hu1
          go_wp2_with (go_at_call 11; refine (HSM1.out _ HU1.out).mono ?_; rintro e u2 ⟨rfl, hu2⟩; refine Hid.out ?_)
          refine hid' ?_
          have HU2 := hid' (below_two HU1.out hu2)
          clear hu2
          go_wp2_with (go_at_call 11; refine (HSM2.out _ HU2.out).mono ?_; rintro e u3 ⟨rfl, hu3⟩; refine Hid.out ?_)
          refine hid' ?_
          have HU3 := hid' (below_two HK.out.below (below_two HU2.out hu3))
          clear hu3
          go_wp2
          go_ret
          exact ⟨rfl, HU3.out⟩
    · have ht1 : t1 = 0 := by rw [← HT1S.out]; exact Hr.stat_live hda
      subst ht1
      have HGA := hid' (HT1L.out.1 hda)
      have HT2 := Hr.told_good FA HGA.out hda m c.data.toList (by rw [← Lib.size_eq]; have := HMD.out; omega)
      have HJ := Hr.cut_join S a.data.toList c.data.toList
      have hev := Hr.evs_app a.data.toList c.data.toList S
      rw [HAC.out] at HJ hev
      rw [HFA'.out] at hev
      have HF2 : (Hr.evs FA c.data.toList).2 = FS := by rw [← HFS.out, hev]
      rw [HFA'.out, HPA'.out, HPP.out] at HJ
      obtain ⟨PC, hPC⟩ : ∃ PC, Hr.put [] (Hr.evs FA c.data.toList).1 = PC := ⟨_, rfl⟩
      rw [hPC] at HJ HT2
      rw [HF2] at HT2
      rw [HTF.out] at HT2
      have HJN := hid' HJ
      have HTT := hid' (ctold21 w.heap.size b2 m lvO fvO FA c w9 HQ9.out (by have := HCO9.out; omega) HM.out)
      rw [HT2.1] at HTT
      clear HT2 HJ hev HF2 hPC hda
      go_wp2_with (go_at_call 9; (try rw [HC1.out]); refine HTT.out.mono ?_; rintro e wA ⟨vT, rfl, lvT, fvT, htA⟩; refine Hid.out ?_)
      refine hid' ?_
      have HOA := hid' (HO9.out.beside HQ9.out (HQ9.out.notin HO9.out.rn.obj HN12.out.2.2) htA.lf)
      have HBA : Hid (Below w.heap.size w wA) := hid' (HB9.out.trans (htA.lf.below HB9.out.size (fun k hk => (HQ9.out.rn.rs k hk).1)))
      have HPAA := hid' (HPA9.out.told htA.lf htA.rw (fun k h => .inr h))
      have HPOA := hid' ((HPO9.out.told htA.lf htA.rw (fun k h => .inl h)).weak (X' := fun k => RS b2 lvT fvT k ∨ k = b3) (fun k _ h => h.elim .inr (fun e => .inl (.inr e))))
      have HPTA := hid' (htA.ps.apart HOA.out.rn.obj (by decide) (by decide))
      have HFRA : Hid (∀ k, vT.ownBlock = some k → w9.heap.size ≤ k) := hid' htA.fr
      have HLTA : Hid (PC.length ≤ m) := hid' htA.len
      have HBTA : Hid (∀ x ∈ PC, x.bd.size ≤ 1048576) := hid' (fun x hx => by have h1 := htA.bd x hx; have h2 := HCO9.out; have h3 := HCS.out; omega)
      have HRSA : Hid (∀ k, RS b2 lvT fvT k ∨ k = b3 → k < wA.heap.size) := hid' (fun k h => h.elim (fun e => (htA.rt.rn.rs k e).2) (fun e => by rw [e]; exact HOA.out.rn.obj.lt))
      have HOL9 : Hid (∀ k, (Value.slice aO PA.length cO).ownBlock = some k → k < w9.heap.size) := hid' HPO9.out.lt
      obtain ⟨aT, cT, hvT⟩ := htA.ps.shape
      subst hvT
      clear htA HTT HQ9 HO9 HB9
      have HNE : Hid (∀ k, (Value.slice aO PA.length cO).ownBlock = some k → (Value.slice aT PC.length cT).ownBlock ≠ some k) := hid' (fun k h1 h2 => by have h3 := HOL9.out k h1; have h4 := HFRA.out k h2; omega)
      have HJO := hid' (cjoined21 w.heap.size (fun k => RS b2 lvT fvT k ∨ k = b3) aO aT PA.length PC.length cO cT PA PC wA HPOA.out HPTA.out rfl rfl (by have h1 := HLO9.out; have h2 := HLTA.out; have h3 := HM.out; omega) HRSA.out HBA.out.size HNE.out (fun x hx => by
        rcases List.mem_append.1 hx with h | h
        · have := HBO9.out x h; omega
        · have := HBTA.out x h; omega))
      rw [HJN.out] at HJO
      go_wp2_with (go_at_call 10; refine HJO.out.mono ?_; rintro e wB ⟨vJ, rfl, hjB⟩; refine Hid.out ?_)
      refine hid' ?_
      have HVAO : Hid (∀ k, (Value.slice aA PP.length cA).ownBlock = some k → (Value.slice aO PA.length cO).ownBlock ≠ some k) := hid' (fun k h1 h2 => by have h3 := HA8.out.2 k h1; have h4 := HFR9.out k h2; omega)
      have HPAB := hid' (HPAA.out.joined HPOA.out HVAO.out hjB)
      have HOB := hid' (HOA.out.joined HPOA.out (fun k h => .inr (rs_nil21 h)) hjB)
      have HBB : Hid (Below w.heap.size w wB) := hid' (HBA.out.trans (hjB.lf.below HBA.out.size (fun k hk => by
        obtain ⟨⟨xs, ho, _⟩, _⟩ := HPOA.out
        exact (own_ty ho k hk).1)))
      have HLA : Hid (PS21 wB w.heap.size (fun k => k = b3) (.slice aA PP.length cA) PP) := hid' (HPAB.out.weak (fun k _ h => .inl (.inl (.inr h))))
      have HLO := hid' (hjB.ps.weak (X' := fun k => k = b3) (fun k _ h => .inr h))
      obtain ⟨aJ, cJ, hvJ⟩ := hjB.ps.shape
      subst hvJ
      have HVB : Hid ((∀ k, (Value.slice aA PP.length cA).ownBlock = some k → k < wB.heap.size) ∧ ∀ k, (Value.slice aJ PP.length cJ).ownBlock = some k → k < wB.heap.size) := hid' ⟨HLA.out.lt, HLO.out.lt⟩
      clear hjB HJO HPAA HPOA HPTA HOA HBA HPAB HPA9 HPO9
      have HCU0 : Hid (CU21 w w.heap.size b3 wB.heap.size d.data.toList S (.slice aA PP.length cA) (.slice aJ PP.length cJ) PP PP 0 0 (.slice none 0 0) (.slice none 0 0) (.slice none 0 0) wB) := hid' (by
        have e0 : Hr.evs S (d.data.toList.take 0) = ([], S) := by rw [List.take_zero]; rfl
        refine ⟨by rw [e0]; exact HOB.out, HLA.out.weak (fun k _ h => rs_nil21 h), HLO.out.weak (fun k _ h => rs_nil21 h), by rw [e0]; exact PS21.nil _ _ _, fun k hk => by simp [Value.ownBlock] at hk, by rw [e0]; exact Nat.le_of_eq HC0.out, fun x hx => by rw [e0] at hx; simp [Hr.put] at hx, by rw [e0]; simp [Hr.put], fun _ => by rw [e0]; exact HG.out, fun h => by rw [e0] at h; rw [show Hr.isDead S = true from h] at HDD; exact absurd HDD.out (by decide), by rw [e0]; exact (Hr.stat_live HDD.out).symm, HBB.out, Nat.le_refl _⟩)
      go_wp2
      go_loopw [24, 25, 26, 27, 28, 29] (fun s24 s25 s26 s27 s28 s29 wr => ∃ (i : Nat) (t : Int) (so : Option Addr) (sn sc : Nat) (lv fv : Value), s26 = .int .i64 (i : Int) ∧ s25 = .int .i64 t ∧ s24 = .slice so sn sc ∧ i ≤ d.size ∧ Hid (CU21 w w.heap.size b3 wB.heap.size d.data.toList S (.slice aA PP.length cA) (.slice aJ PP.length cJ) PP PP i t (.slice so sn sc) lv fv wr)) (fun _ _ s26 _ _ _ _ => d.size - (intOf s26).toNat)
      case atStart => exact ⟨0, 0, none, 0, 0, _, _, rfl, rfl, rfl, Nat.zero_le _, HCU0⟩
      case round =>
        obtain ⟨i, t, so, sn, sc, lv, fv, rfl, rfl, rfl, hi, HK⟩ := hrel
        by_cases hlt : i < d.size
        · have hlt2 : (i : Int) < (d.size : Int) := by omega
          have HLT := hid' hlt
          by_cases ht0 : t = 0
          · subst ht0
            have hi2 : (i : Int) + 1 ≤ (d.size : Int) := by omega
            obtain ⟨x, hx⟩ : ∃ x, d.extract i (i + 1) = x := ⟨_, rfl⟩
            have hxs : x.size = 1 := by rw [← hx, ByteArray.size_extract]; omega
            have HTK : Hid (d.data.toList.take (i + 1) = d.data.toList.take i ++ x.data.toList) := hid' (by rw [← hx, Lib.extract_data, Nat.add_sub_cancel_left, List.take_add])
            obtain ⟨si, hsi⟩ : ∃ si, (Hr.evs S (d.data.toList.take i)).2 = si := ⟨_, rfl⟩
            have hlv : Hr.isDead si = false := by
              cases hq : Hr.isDead si
              · rfl
              · exact absurd HK.out.st.symm (HK.out.dead (by rw [hsi]; exact hq))
            have hgd : Hr.Good si := by have := HK.out.live (by rw [hsi]; exact hlv); rwa [hsi] at this
            have HTX := Hr.told_good si hgd hlv 8 x.data.toList (by rw [← Lib.size_eq]; omega)
            have HEV := Hr.evs_app (d.data.toList.take i) x.data.toList S
            have HJN := Hr.cut_join S (d.data.toList.take i) x.data.toList
            rw [← HTK.out, hsi] at HEV HJN
            have hes : (Hr.evs si x.data.toList).2 = (Hr.evs S (d.data.toList.take (i + 1))).2 := by rw [HEV]
            rw [hes] at HTX
            obtain ⟨sj, hsj⟩ : ∃ sj, (Hr.evs S (d.data.toList.take (i + 1))).2 = sj := ⟨_, rfl⟩
            obtain ⟨Pr, hPr⟩ : ∃ Pr, Hr.put [] (Hr.evs si x.data.toList).1 = Pr := ⟨_, rfl⟩
            obtain ⟨Pi, hPi⟩ : ∃ Pi, Hr.put [] (Hr.evs S (d.data.toList.take i)).1 = Pi := ⟨_, rfl⟩
            obtain ⟨tj, htj⟩ : ∃ tj, Hr.stat sj = tj := ⟨_, rfl⟩
            rw [hsj, hPr, htj] at HTX
            rw [hPr, hPi] at HJN
            have HRT : Hid (RT21 w.heap.size b3 si lv fv wr) := hid' (by have := HK.out.rt; rwa [hsi] at this)
            have HCOS : Hid (Hr.cost si ≤ i) := hid' (by have := HK.out.cost; rwa [hsi] at this)
            have HPSI : Hid (PS21 wr w.heap.size (RS b3 lv fv) (.slice so sn sc) Pi) := hid' (by have := HK.out.ps; rwa [hPi] at this)
            have HBDI : Hid (∀ y ∈ Pi, y.bd.size ≤ i * 1048577) := hid' (by have := HK.out.bd; rwa [hPi] at this)
            have HLNI : Hid (Pi.length ≤ 8 * i) := hid' (by have := HK.out.len; rwa [hPi] at this)
            have HSN : Hid (Pi.length = sn) := hid' (by
              obtain ⟨a', c', hv⟩ := HPSI.out.shape
              injection hv with _ v2 _
              exact v2.symm)
            have HTX2 := hid' HTX.2
            have HXE := hid' hx
            have HXS := hid' hxs
            have HJ := hid' HJN
            have HSJ := hid' hsj
            have HTJ := hid' htj
            have HTL := hid' (ctold21 w.heap.size b3 8 lv fv si x wr HRT.out (by have := HCOS.out; omega) (by decide))
            rw [HTX.1] at HTL
            clear HTX HEV HJN hes hsj hPr hPi htj hsi hlv hgd hxs hx
            go_wp2_with (go_at_call 9; (try rw [HXE.out]); refine HTL.out.mono ?_; rintro e wp ⟨vT, rfl, lvT, fvT, htp⟩; refine Hid.out ?_)
            refine hid' ?_
            have HPA' := hid' ((HK.out.pa.told htp.lf htp.rw (fun k h => h)).weak (X' := RS b3 lvT fvT) (fun k _ h => .inr h))
            have HPO' := hid' ((HK.out.po.told htp.lf htp.rw (fun k h => h)).weak (X' := RS b3 lvT fvT) (fun k _ h => .inr h))
            have HPS' := hid' ((HPSI.out.told htp.lf htp.rw (fun k h => h)).weak (X' := RS b3 lvT fvT) (fun k _ h => .inr h))
            have HPT' := hid' htp.ps
            have HRT' := hid' htp.rt
            have HBP : Hid (Below w.heap.size w wp) := hid' (HK.out.below.trans (htp.lf.below HK.out.below.size (fun k hk => (HRT.out.rn.rs k hk).1)))
            have HSP : Hid (wr.heap.size ≤ wp.heap.size) := hid' htp.lf.size
            have HFRT : Hid (∀ k, vT.ownBlock = some k → wr.heap.size ≤ k) := hid' htp.fr
            have HLNT : Hid (Pr.length ≤ 8) := hid' htp.len
            have HBDT : Hid (∀ y ∈ Pr, y.bd.size ≤ 1048577) := hid' (fun y hy => by have h1 := htp.bd y hy; have h2 := HCOS.out; have h3 := HXS.out; have h4 := HLT.out; omega)
            have HCOJ : Hid (Hr.cost sj ≤ i + 1) := hid' (by have h1 := htp.cost; have h2 := HCOS.out; have h3 := HXS.out; simp only at h1; omega)
            obtain ⟨aT, cT, hvT⟩ := htp.ps.shape
            subst hvT
            clear htp HTL
            have HNE : Hid (∀ k, (Value.slice so sn sc).ownBlock = some k → (Value.slice aT Pr.length cT).ownBlock ≠ some k) := hid' (fun k h1 h2 => by have h3 := HPSI.out.lt k h1; have h4 := HFRT.out k h2; omega)
            have HJO := hid' (cjoined21 w.heap.size (RS b3 lvT fvT) so aT sn Pr.length sc cT Pi Pr wp HPS'.out HPT'.out HSN.out rfl (by have h1 := HLNI.out; have h2 := HLNT.out; have h3 := HSN.out; have h4 := HLT.out; omega) (fun k hk => (HRT'.out.rn.rs k hk).2) HBP.out.size HNE.out (fun y hy => by
              rcases List.mem_append.1 hy with h | h
              · have h1 := HBDI.out y h; have h4 := HLT.out; omega
              · have := HBDT.out y h; omega))
            rw [HJ.out] at HJO
            have hlt := HLT.out
            go_wp2_with (go_at_call 10; refine HJO.out.mono ?_; rintro e wj ⟨vJ, rfl, hj⟩; refine Hid.out ?_)
            refine hid' ?_
            obtain ⟨aJ2, cJ2, hvJ⟩ := hj.ps.shape
            subst hvJ
            have HN9 := hid' (show CU21 w w.heap.size b3 wB.heap.size d.data.toList S (.slice aA PP.length cA) (.slice aJ PP.length cJ) PP PP (i + 1) tj _ lvT fvT wj from ⟨by rw [HSJ.out]; exact HRT'.out.joined HPS'.out (fun k h => h) hj, HPA'.out.joined HPS'.out (fun k h1 h2 => by have h3 := HVB.out.1 k h1; have h4 := HK.out.fr k h2; omega) hj, HPO'.out.joined HPS'.out (fun k h1 h2 => by have h3 := HVB.out.2 k h1; have h4 := HK.out.fr k h2; omega) hj, hj.ps, fun k hk => by
              rcases hj.fr k hk with h | h
              · exact HK.out.fr k h
              · have h1 := HK.out.sz; have h2 := HSP.out; omega, by rw [HSJ.out]; exact HCOJ.out, fun y hy => by
              rw [← HJ.out] at hy
              have := Hr.joinP_bd HBDI.out HBDT.out y hy
              omega, by rw [← HJ.out]; have h1 := Hr.joinP_len Pi Pr; have h2 := HLNI.out; have h3 := HLNT.out; omega, fun h => by rw [HSJ.out] at h ⊢; exact HTX2.out.1 h, fun h => by rw [HSJ.out] at h ⊢; rw [HTJ.out]; exact HTX2.out.2 h, by rw [HSJ.out, HTJ.out], HBP.out.trans (hj.lf.below HBP.out.size (fun k hk => by
              obtain ⟨⟨xs, ho, _⟩, _⟩ := HPS'.out
              exact (own_ty ho k hk).1)), Nat.le_trans HK.out.sz (Nat.le_trans HSP.out hj.lf.size)⟩)
            clear hj HJO
            go_wp2
            go_roundw
            case rel => exact ⟨i + 1, tj, aJ2, _, cJ2, lvT, fvT, by go_num, rfl, rfl, by have := HLT.out; omega, HN9⟩
            case measure => have := HLT.out; simp [intOf]; omega
          · have ht0b : (t == 0) = false := beq_false_of_ne ht0
            have HEX : Hid (Hr.put [] (Hr.evs S (d.data.toList.take i)).1 = PP ∧ t = tF) := hid' (by
              have hdd : Hr.isDead (Hr.evs S (d.data.toList.take i)).2 = true := by
                cases hq : Hr.isDead (Hr.evs S (d.data.toList.take i)).2
                · exact absurd (by rw [HK.out.st]; exact Hr.stat_live hq) ht0
                · rfl
              have he : Hr.evs S (d.data.toList.take i) = Hr.evs S d.data.toList := by
                have := Hr.cut_dead S (d.data.toList.take i) (d.data.toList.drop i) hdd
                rw [List.take_append_drop] at this
                exact this.symm
              exact ⟨by rw [he]; exact HPP.out, by rw [HK.out.st, he, HFS.out]; exact HTF.out⟩)
            obtain ⟨_, e2⟩ := HEX.out
            subst e2
            obtain ⟨a', c', hv⟩ := HK.out.ps.shape
            rw [HEX.out.1] at hv
            injection hv with v1 v2 v3
            subst v1 v2 v3
            have HPS : Hid (PS21 wr w.heap.size (RS b3 lv fv) (.slice so PP.length sc) PP) := hid' (by have := HK.out.ps; rwa [HEX.out.1] at this)
            have HSM1 := hid' (fun W (hw : Below wr.heap.size wr W) => csameRow21 w.heap.size w.heap.size _ _ aA aJ PP.length cA cJ PP W (HK.out.pa.keep hw) (HK.out.po.keep hw) rfl HLA.out.small (by have h1 := HLA8.out; have h2 := HM.out; omega))
            have HSM2 := hid' (fun W (hw : Below wr.heap.size wr W) => csameRow21 w.heap.size w.heap.size _ _ aA so PP.length cA sc PP W (HK.out.pa.keep hw) (HPS.out.keep hw) rfl HLA.out.small (by have h1 := HLA8.out; have h2 := HM.out; omega))
            have htt : (t == t) = true := by simp
            go_wp2_with (go_at_call 8; refine (awake21 _ (HT.out.keep HK.out.below)).mono ?_; rintro e u1 ⟨rfl, hu1⟩; refine Hid.out ?_)
            refine hid' ?_
            have HU1 := hid' hu1
            clear hu1
            go_wp2_with (go_at_call 11; refine (HSM1.out _ HU1.out).mono ?_; rintro e u2 ⟨rfl, hu2⟩; refine Hid.out ?_)
            refine hid' ?_
            have HU2 := hid' (below_two HU1.out hu2)
            clear hu2
            go_wp2_with (go_at_call 11; refine (HSM2.out _ HU2.out).mono ?_; rintro e u3 ⟨rfl, hu3⟩; refine Hid.out ?_)
            refine hid' ?_
            have HU3 := hid' (below_two HK.out.below (below_two HU2.out hu3))
            clear hu3
            go_wp2
            go_ret
            exact ⟨rfl, HU3.out⟩
        · have hlt2 : ¬ (i : Int) < (d.size : Int) := by omega
          have HEX : Hid (Hr.put [] (Hr.evs S (d.data.toList.take i)).1 = PP ∧ t = tF) := hid' (by
            have he : Hr.evs S (d.data.toList.take i) = Hr.evs S d.data.toList := by rw [List.take_of_length_le (by rw [← Lib.size_eq]; omega)]
            exact ⟨by rw [he]; exact HPP.out, by rw [HK.out.st, he, HFS.out]; exact HTF.out⟩)
          obtain ⟨_, e2⟩ := HEX.out
          subst e2
          obtain ⟨a', c', hv⟩ := HK.out.ps.shape
          rw [HEX.out.1] at hv
          injection hv with v1 v2 v3
          subst v1 v2 v3
          have HPS : Hid (PS21 wr w.heap.size (RS b3 lv fv) (.slice so PP.length sc) PP) := hid' (by have := HK.out.ps; rwa [HEX.out.1] at this)
          have HSM1 := hid' (fun W (hw : Below wr.heap.size wr W) => csameRow21 w.heap.size w.heap.size _ _ aA aJ PP.length cA cJ PP W (HK.out.pa.keep hw) (HK.out.po.keep hw) rfl HLA.out.small (by have h1 := HLA8.out; have h2 := HM.out; omega))
          have HSM2 := hid' (fun W (hw : Below wr.heap.size wr W) => csameRow21 w.heap.size w.heap.size _ _ aA so PP.length cA sc PP W (HK.out.pa.keep hw) (HPS.out.keep hw) rfl HLA.out.small (by have h1 := HLA8.out; have h2 := HM.out; omega))
          have htt : (t == t) = true := by simp
          go_wp2_with (go_at_call 8; refine (awake21 _ (HT.out.keep HK.out.below)).mono ?_; rintro e u1 ⟨rfl, hu1⟩; refine Hid.out ?_)
          refine hid' ?_
          have HU1 := hid' hu1
          clear hu1
          go_wp2_with (go_at_call 11; refine (HSM1.out _ HU1.out).mono ?_; rintro e u2 ⟨rfl, hu2⟩; refine Hid.out ?_)
          refine hid' ?_
          have HU2 := hid' (below_two HU1.out hu2)
          clear hu2
          go_wp2_with (go_at_call 11; refine (HSM2.out _ HU2.out).mono ?_; rintro e u3 ⟨rfl, hu3⟩; refine Hid.out ?_)
          refine hid' ?_
          have HU3 := hid' (below_two HK.out.below (below_two HU2.out hu3))
          clear hu3
          go_wp2
          go_ret
          exact ⟨rfl, HU3.out⟩

end Go.Proofs.YtbpdhcfmdkmoiaaGreatDoor
