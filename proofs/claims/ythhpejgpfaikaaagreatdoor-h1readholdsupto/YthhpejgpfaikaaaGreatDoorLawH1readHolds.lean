/-
  The law H1readHolds.
-/
import Derived.Test.YthhpejgpfaikaaaGreatDoorPnHo
namespace Go.Proofs.YthhpejgpfaikaaaGreatDoor
open Go.RowKit

/-- What the law's loops keep. -/
structure HL21 (w w2 : World) (B b xz : Nat) (L M : Int) (Ln : Nat) (i : Nat) (s : Hr.St) (lv fv : Value) (wr : World) : Prop where
  rt : RT21 B b s lv fv wr
  inv : Hr.Inv s
  cost : Hr.cost s ≤ i
  lim : s.L = Ln
  below : Below w.heap.size w wr
  z : Ar wr xz 23 #[.int .i64 L, .int .i64 M]
  zn : ¬ RS b lv fv xz
  hB : w.heap.size ≤ B ∧ w2.heap.size ≤ B

theorem HL21.keep {w w2 wr wr' : World} {B b xz Ln i : Nat} {L M : Int} {s : Hr.St} {lv fv : Value} (h : HL21 w w2 B b xz L M Ln i s lv fv wr) (hb : Below wr.heap.size wr wr') : HL21 w w2 B b xz L M Ln i s lv fv wr' :=
  ⟨h.rt.keep hb, h.inv, h.cost, h.lim, below_two h.below hb, h.z.keep hb, h.zn, h.hB⟩
theorem HL21.up {w w2 wr : World} {B b xz Ln i : Nat} {L M : Int} {s : Hr.St} {lv fv : Value} (h : HL21 w w2 B b xz L M Ln i s lv fv wr) : HL21 w w2 B b xz L M Ln (i + 1) s lv fv wr :=
  ⟨h.rt, h.inv, by have := h.cost; omega, h.lim, h.below, h.z, h.zn, h.hB⟩

set_option maxHeartbeats 8000000 in
set_option maxRecDepth 20000 in
theorem h1readHolds_any (L M : Int) (d : ByteArray) (w : World) (hT : TB w) (hd : d.size ≤ 1048576) (hL : -9223372036854775808 ≤ L) (hL2 : L ≤ 9223372036854775807) (hM : -9223372036854775808 ≤ M) (hM2 : M ≤ 9223372036854775807) :
    Calls Tryz.prog 5 #[.agg #[.int .i64 L, .int .i64 M], .string d] w fun e w' => e = .returned (.bool true) ∧ Below w.heap.size w w' := by
  have HT := hid' hT
  clear hT
  by_cases hbad : L < 1 ∨ M < 0
  · have HNW := hid' (fun W => cnew21_no L M 0 0 0 0 0 0 0 hbad W)
    have HBAD := hid' hbad
    clear hbad
    go_enter Tryz.func5, Tryz.ntmps5
    go_wp2_with (refine wpl_box 23 _ rfl rfl #[.int .i64 L, .int .i64 M] (by kernel_rfl) ?_)
    intro xz w1 hgz haz hbz
    have HBZ := hid' hbz
    have HAZ := hid' haz
    have z0 : w1.cell? ⟨xz, 0, none⟩ = some (.int .i64 L) := haz.cell 0 _ rfl
    have z1 : w1.cell? ⟨xz, 1, none⟩ = some (.int .i64 M) := haz.cell 1 _ rfl
    clear hgz haz hbz
    go_wp2_with (go_at_call 10; refine (climits21 L M _).mono ?_; rintro e w2 ⟨rfl, hb2⟩; refine Hid.out ?_)
    refine hid' ?_
    have HB2 := hid' (below_two HBZ.out hb2)
    have HAZ2 := hid' (HAZ.out.keep hb2)
    have HBB : Hid (w1.heap.size ≤ w2.heap.size) := hid' hb2.size
    clear hb2 z0 z1
    go_wp2_with (go_at_call 9; refine (HNW.out _).mono ?_; rintro e w3 ⟨rfl, hb3⟩; refine Hid.out ?_)
    refine hid' ?_
    have HB3 := hid' (below_two HB2.out hb3)
    have HAZ3 := hid' (HAZ2.out.keep hb3)
    clear hb3
    go_wp2_with (go_at_call 12; refine (awake21 _ (HT.out.keep HB3.out)).mono ?_; rintro e w4 ⟨rfl, hb4⟩; refine Hid.out ?_)
    refine hid' ?_
    have HB4 := hid' (below_two HB3.out hb4)
    have HAZ4 := hid' (HAZ3.out.keep hb4)
    clear hb4
    have z0 : w4.cell? ⟨xz, 0, none⟩ = some (.int .i64 L) := HAZ4.out.cell 0 _ rfl
    have z1 : w4.cell? ⟨xz, 1, none⟩ = some (.int .i64 M) := HAZ4.out.cell 1 _ rfl
    by_cases h1 : L < 1
    · go_wp2_with fail
      go_ret
      exact ⟨rfl, HB4.out⟩
    · have h2 : M < 0 := HBAD.out.resolve_left h1
      go_wp2_with fail
      go_ret
      exact ⟨rfl, HB4.out⟩
  · obtain ⟨Ln, hLn⟩ : ∃ n : Nat, L = (n : Int) := ⟨L.toNat, by omega⟩
    obtain ⟨Mn, hMn⟩ : ∃ n : Nat, M = (n : Int) := ⟨M.toNat, by omega⟩
    have hL1 : 1 ≤ Ln := by omega
    have HNW := hid' (fun W (h : TB W) => cnewT21 Ln Mn hL1 (by omega) (by omega) W h)
    rw [← hLn, ← hMn] at HNW
    have HLn := hid' hLn
    obtain ⟨n, hn⟩ : ∃ n, d.size = n := ⟨_, rfl⟩
    rw [hn] at hd
    have HN := hid' hn
    clear hbad hMn hLn hL1 hn
    go_enter Tryz.func5, Tryz.ntmps5
    go_wp2_with (refine wpl_box 23 _ rfl rfl #[.int .i64 L, .int .i64 M] (by kernel_rfl) ?_)
    intro xz w1 hgz haz hbz
    have HBZ := hid' hbz
    have HAZ := hid' haz
    have z0 : w1.cell? ⟨xz, 0, none⟩ = some (.int .i64 L) := haz.cell 0 _ rfl
    have z1 : w1.cell? ⟨xz, 1, none⟩ = some (.int .i64 M) := haz.cell 1 _ rfl
    clear hgz haz hbz
    go_wp2_with (go_at_call 10; refine (climits21 L M _).mono ?_; rintro e w2 ⟨rfl, hb2⟩; refine Hid.out ?_)
    refine hid' ?_
    have HB2 := hid' (below_two HBZ.out hb2)
    have HAZ2 := hid' (HAZ.out.keep hb2)
    have HBB : Hid (w1.heap.size ≤ w2.heap.size) := hid' hb2.size
    clear hb2 z0 z1
    go_wp2_with (go_at_call 9; refine (HNW.out _ (HT.out.keep HB2.out)).mono ?_; rintro e w3 ⟨⟨b, rfl, h3⟩, hb3⟩; refine Hid.out ?_)
    refine hid' ?_
    have HI0 : Hid (HL21 w w2 w2.heap.size b xz L M Ln 0 (Hr.zero Ln Mn (.inl false)) (.slice none 0 0) (.slice none 0 0) w3) := hid' ⟨h3, Hr.inv_zero _ _, Nat.le_refl _, rfl, below_two HB2.out hb3, HAZ2.out.keep hb3, fun hk => by have h1 := (h3.rn.rs _ hk).1; have h2 := HAZ2.out.lt; omega, ⟨HB2.out.size, Nat.le_refl _⟩⟩
    clear h3 hb3
    go_wp2
    go_loopw [7] (fun s7 wr => ∃ (i : Nat) (s : Hr.St) (lv fv : Value), s7 = .int .i64 (i : Int) ∧ i ≤ n ∧ Hid (HL21 w w2 w2.heap.size b xz L M Ln i s lv fv wr)) (fun s7 _ => n - (intOf s7).toNat)
    case atStart => exact ⟨0, _, _, _, rfl, Nat.zero_le _, HI0⟩
    case round =>
      obtain ⟨i, s, lv, fv, rfl, hi, HI⟩ := hrel
      by_cases hlt : i < n
      · have hlt2 : (i : Int) < (d.size : Int) := by rw [HN.out]; omega
        have HLT := hid' hlt
        go_wp2
        go_loopw [8] (fun s8 wx => ∃ (k : Nat) (s : Hr.St) (lv fv : Value), s8 = .int .i64 (k : Int) ∧ k ≤ 8 ∧ Hid (HL21 w w2 w2.heap.size b xz L M Ln i s lv fv wx)) (fun s8 _ => 8 - (intOf s8).toNat)
        case atStart => exact ⟨0, s, lv, fv, rfl, Nat.zero_le _, HI⟩
        case round =>
          obtain ⟨k, s, lv, fv, rfl, hk, HK⟩ := hrel
          by_cases hk8 : k < 8
          · have hk8i : (k : Int) < 8 := by omega
            have hi1 : i + 1 ≤ d.size := by rw [HN.out]; have := HLT.out; omega
            have hi2 : (i : Int) + 1 ≤ (d.size : Int) := by omega
            obtain ⟨x, hx⟩ : ∃ x, d.extract i (i + 1) = x := ⟨_, rfl⟩
            have hxs : x.size = 1 := by rw [← hx, ByteArray.size_extract]; omega
            obtain ⟨qn, p, s', hq⟩ : ∃ qn p s', Hr.read s x.data.toList = (qn, p, s') := ⟨_, _, _, rfl⟩
            have o1 := Hr.read_ok s HK.out.rt.ok x.data.toList
            have o2 := Hr.read_n s x.data.toList
            have o3 := Hr.read_inv s HK.out.inv x.data.toList
            have HRD := hid' (creadT21 _ b lv fv s x _ HK.out.rt (by have h1 := HK.out.cost; have h2 := HLT.out; omega))
            rw [hq] at o1 o2 o3 HRD
            rw [← Lib.size_eq, hxs] at o2
            simp only at o1 o2 o3
            have HO1 := hid' o1
            have HO3 := hid' o3
            have hqn : qn = 0 ∨ qn = 1 := by omega
            have HH : Hid (Hr.held s' ≤ 3 * Ln + 257 ∧ (p.mark = 4 → Hr.held s' = 0) ∧ (Hr.within s' = false → Hr.held s' = 0) ∧ Hr.cost s' ≤ 1048576) := hid' ⟨by have h1 := Hr.held_le o1.1; rw [o1.2.2.1, HK.out.lim] at h1; exact h1, fun h => Hr.held_dead o1.1 (o3.2 h), fun h => Hr.held_within o1.1 h, by have h1 := HK.out.cost; have h2 := HLT.out; have h3 := o1.2.1; omega⟩
            clear o1 o2 o3 hxs hq
            go_wp2_with (go_at_call 13; (try rw [hx]); refine HRD.out.mono ?_; rintro e v1 ⟨rv, tv, lv1, fv1, rfl, ho⟩; refine Hid.out ?_)
            refine hid' ?_
            have HO := hid' ho
            obtain ⟨ro, rc, hrv⟩ := own_shape ho.k1
            obtain ⟨tq, tc, htv⟩ := own_shape ho.k2
            subst hrv htv
            have HZ1 := hid' (ho.lf.ar HK.out.z HK.out.zn)
            have HV1 : Hid (Below w.heap.size w v1) := hid' (HK.out.below.trans (ho.lf.below HK.out.below.size (fun k hk => Nat.le_trans HK.out.hB.1 (HK.out.rt.rn.rs k hk).1)))
            have HZN := hid' (nrs_step21 HK.out.zn HK.out.z.lt ho.rw)
            clear ho
            go_wp2_with (refine wpl_alloc 41 rfl rfl _ zeroPc21 ?_)
            intro xa u hxa hax hlx
            have HRU := hid' (HO.out.rt.keep hlx)
            have HNX := hid' (nrs_lt21 HO.out.rt hxa)
            have HAX := hid' hax
            have HVU := hid' (HV1.out.trans (hlx.mono HV1.out.size))
            have HZU := hid' (HZ1.out.keep hlx)
            have HXG : Hid (w2.heap.size ≤ xa ∧ w.heap.size ≤ xa ∧ xz ≠ xa) := hid' ⟨by have h1 := HO.out.rt.tb.lb; omega, by have h1 := HV1.out.size; omega, fun e => by have h1 := HZ1.out.lt; omega⟩
            clear hax hlx hxa
            go_wp2_with (refine wpl_store 41 _ _ rfl rfl xa (pcC p (.slice ro p.rq.fs.length rc) (.slice tq p.fs.length tc)) (by kernel_rfl) (by kernel_rfl) _ _ HAX.out sizePc21 rfl (by simp [Value.oneCell', pcC]) ?_)
            intro y hay huy
            have HKY : Hid (HL21 w w2 w2.heap.size b xz L M Ln (i + qn) s' lv1 fv1 y) := hid' ⟨HRU.out.upd huy HNX.out HXG.out.1, HO3.out.1, by have h1 := HO1.out.2.1; have h2 := HK.out.cost; omega, by rw [← HK.out.lim]; exact HO1.out.2.2.1, HVU.out.trans (huy.below HXG.out.2.1), ar_upd HZU.out huy HXG.out.2.2, HZN.out, HK.out.hB⟩
            have HY := hid' hay
            clear hay huy
            have HHE := hid' (cheldT21 _ b lv1 fv1 s' y HKY.out.rt HH.out.2.2.2)
            obtain ⟨hv, hhv⟩ : ∃ hv, Hr.held s' = hv := ⟨_, rfl⟩
            rw [hhv] at HHE HH
            go_wp2_with (go_at_call 18; refine HHE.out.mono ?_; rintro e y2 ⟨rfl, hy2⟩; refine Hid.out ?_)
            refine hid' ?_
            have HK2 := hid' (HKY.out.keep hy2)
            have m0 : y2.cell? ⟨xa, 0, none⟩ = some (.int .u8 p.mark) := (HY.out.keep hy2).cell 0 _ rfl
            have z0 : y2.cell? ⟨xz, 0, none⟩ = some (.int .i64 L) := HK2.out.z.cell 0 _ rfl
            have HY2 := hid' (HY.out.keep hy2)
            have hv0 : ¬ ((hv : Int) < 0) := by omega
            have hv1 : (hv : Int) ≤ 3 * L + 257 := by have h1 := HH.out.1; have h2 := HLn.out; omega
            have hqi : (qn : Int) ≤ 1 := by omega
            have hwn := HH.out.2.2.1
            have hm4 := HH.out.2.1
            clear hy2 hhv
            have hL40 : L < 1099511627776 ∨ ¬ L < 1099511627776 := by omega
            rcases hL40 with h40 | h40
            · by_cases hm : p.mark = 4
              · have hmb : (p.mark == 4) = true := by rw [beq_iff_eq]; exact hm
                have hvz : hv = 0 := hm4 hm
                subst hvz
                rcases hqn with rfl | rfl
                · go_wp2_with fail
                  go_roundw
                  case rel => exact ⟨i + 1, s', lv1, fv1, by go_num, by have := HLT.out; omega, hid' HK2.out.up⟩
                  case measure => have := HLT.out; simp [intOf]; omega
                · go_wp2_with fail
                  go_roundw
                  case rel => exact ⟨i + 1, s', lv1, fv1, by go_num, by have := HLT.out; omega, HK2⟩
                  case measure => have := HLT.out; simp [intOf]; omega
              · have hmb : (p.mark == 4) = false := by rw [beq_eq_false_iff_ne]; exact hm
                by_cases hvp : 0 < hv
                · have hvpi : (0 : Int) < (hv : Int) := by omega
                  have HWI := hid' (cwithT21 _ b lv1 fv1 s' y2 HK2.out.rt HH.out.2.2.2)
                  rw [show Hr.within s' = true from by cases hw : Hr.within s' with | true => rfl | false => exact absurd (hwn hw) (by omega)] at HWI
                  go_wp2_with (go_at_call 16; refine HWI.out.mono ?_; rintro e y3 ⟨rfl, hy3⟩; refine Hid.out ?_)
                  refine hid' ?_
                  have HK3 := hid' (HK2.out.keep hy3)
                  have m1 : y3.cell? ⟨xa, 0, none⟩ = some (.int .u8 p.mark) := (HY2.out.keep hy3).cell 0 _ rfl
                  clear hy3
                  rcases hqn with rfl | rfl
                  · go_wp2_with fail
                    go_roundw
                    case rel => exact ⟨k + 1, s', lv1, fv1, by go_num, by omega, HK3⟩
                    case measure => simp [intOf]; omega
                  · go_wp2_with fail
                    go_roundw
                    case rel => exact ⟨i + 1, s', lv1, fv1, by go_num, by have := HLT.out; omega, HK3⟩
                    case measure => have := HLT.out; simp [intOf]; omega
                · obtain rfl : hv = 0 := by omega
                  rcases hqn with rfl | rfl
                  · go_wp2_with fail
                    go_roundw
                    case rel => exact ⟨k + 1, s', lv1, fv1, by go_num, by omega, HK2⟩
                    case measure => simp [intOf]; omega
                  · go_wp2_with fail
                    go_roundw
                    case rel => exact ⟨i + 1, s', lv1, fv1, by go_num, by have := HLT.out; omega, HK2⟩
                    case measure => have := HLT.out; simp [intOf]; omega
            · by_cases hm : p.mark = 4
              · have hmb : (p.mark == 4) = true := by rw [beq_iff_eq]; exact hm
                have hvz : hv = 0 := hm4 hm
                subst hvz
                rcases hqn with rfl | rfl
                · go_wp2_with fail
                  go_roundw
                  case rel => exact ⟨i + 1, s', lv1, fv1, by go_num, by have := HLT.out; omega, hid' HK2.out.up⟩
                  case measure => have := HLT.out; simp [intOf]; omega
                · go_wp2_with fail
                  go_roundw
                  case rel => exact ⟨i + 1, s', lv1, fv1, by go_num, by have := HLT.out; omega, HK2⟩
                  case measure => have := HLT.out; simp [intOf]; omega
              · have hmb : (p.mark == 4) = false := by rw [beq_eq_false_iff_ne]; exact hm
                by_cases hvp : 0 < hv
                · have hvpi : (0 : Int) < (hv : Int) := by omega
                  have HWI := hid' (cwithT21 _ b lv1 fv1 s' y2 HK2.out.rt HH.out.2.2.2)
                  rw [show Hr.within s' = true from by cases hw : Hr.within s' with | true => rfl | false => exact absurd (hwn hw) (by omega)] at HWI
                  go_wp2_with (go_at_call 16; refine HWI.out.mono ?_; rintro e y3 ⟨rfl, hy3⟩; refine Hid.out ?_)
                  refine hid' ?_
                  have HK3 := hid' (HK2.out.keep hy3)
                  have m1 : y3.cell? ⟨xa, 0, none⟩ = some (.int .u8 p.mark) := (HY2.out.keep hy3).cell 0 _ rfl
                  clear hy3
                  rcases hqn with rfl | rfl
                  · go_wp2_with fail
                    go_roundw
                    case rel => exact ⟨k + 1, s', lv1, fv1, by go_num, by omega, HK3⟩
                    case measure => simp [intOf]; omega
                  · go_wp2_with fail
                    go_roundw
                    case rel => exact ⟨i + 1, s', lv1, fv1, by go_num, by have := HLT.out; omega, HK3⟩
                    case measure => have := HLT.out; simp [intOf]; omega
                · obtain rfl : hv = 0 := by omega
                  rcases hqn with rfl | rfl
                  · go_wp2_with fail
                    go_roundw
                    case rel => exact ⟨k + 1, s', lv1, fv1, by go_num, by omega, HK2⟩
                    case measure => simp [intOf]; omega
                  · go_wp2_with fail
                    go_roundw
                    case rel => exact ⟨i + 1, s', lv1, fv1, by go_num, by have := HLT.out; omega, HK2⟩
                    case measure => have := HLT.out; simp [intOf]; omega
          · obtain rfl : k = 8 := by omega
            have hk8i : ¬ (((8 : Nat) : Int) < 8) := by decide
            go_wp2_with fail
            go_roundw
            case rel => exact ⟨i + 1, s, lv, fv, by go_num, by have := HLT.out; omega, hid' HK.out.up⟩
            case measure => have := HLT.out; simp [intOf]; omega
      · have hlt2 : ¬ (i : Int) < (d.size : Int) := by rw [HN.out]; omega
        go_wp2_with (go_at_call 12; refine (awake21 _ (HT.out.keep HI.out.below)).mono ?_; rintro e w4 ⟨rfl, hb4⟩; refine Hid.out ?_)
        refine hid' ?_
        have HB4 := hid' (below_two HI.out.below hb4)
        clear hb4
        go_wp2_with fail
        go_ret
        exact ⟨rfl, HB4.out⟩

end Go.Proofs.YthhpejgpfaikaaaGreatDoor
