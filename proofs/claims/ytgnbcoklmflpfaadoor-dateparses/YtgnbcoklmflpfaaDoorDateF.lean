/-
  The document's Format, by its contract.
-/
import Derived.Test.YtgnbcoklmflpfaaDoorDateR
namespace Go.Proofs.YtgnbcoklmflpfaaDoor
open Go.RowKit

theorem rwk_cut : ∀ i : Fin 7, (⟨#[84, 104, 117, 70, 114, 105, 83, 97, 116, 83, 117, 110, 77, 111, 110, 84, 117, 101, 87, 101, 100]⟩ : ByteArray).extract (i.val * 3) (i.val * 3 + 3) = ⟨(Dt.wk (((i.val : Int) + 3) % 7)).toArray⟩ := by decide +kernel
theorem rcat_a (a b c d e : List UInt8) : ((((((((⟨a.toArray⟩ : ByteArray) ++ ⟨#[44, 32]⟩) ++ ⟨b.toArray⟩) ++ ⟨#[32]⟩) ++ ⟨c.toArray⟩) ++ ⟨#[32]⟩) ++ ⟨d.toArray⟩) ++ ⟨e.toArray⟩) = ⟨(a ++ [44, 32] ++ (b ++ [32] ++ c ++ [32] ++ (d ++ e))).toArray⟩ := by
  apply ByteArray.ext; simp
theorem rcat_b (a b c d : List UInt8) : ((((((((⟨a.toArray⟩ : ByteArray) ++ ⟨#[32]⟩) ++ ⟨b.toArray⟩) ++ ⟨#[58]⟩) ++ ⟨c.toArray⟩) ++ ⟨#[58]⟩) ++ ⟨d.toArray⟩) ++ ⟨#[32, 71, 77, 84]⟩) = ⟨(a ++ [32] ++ (b ++ [58] ++ c ++ [58] ++ d) ++ [32, 71, 77, 84]).toArray⟩ := by
  apply ByteArray.ext; simp

set_option maxRecDepth 20000 in
set_option maxHeartbeats 2000000 in
theorem rformat_any (n : Int) (l : List UInt8) (h : Dt.Dated n l) (w : World) :
    Calls Tryd.prog 15 #[.int .i64 n] w fun e w' => e = .returned (.tuple #[.string ⟨l.toArray⟩, .int .i64 0]) ∧ Below w.heap.size w w' := by
  obtain ⟨y, m, d, ho, hl⟩ := h
  have HL := hid' hl
  have H := hid' ho
  have n0 := ho.n0
  have n1 := ho.n1
  have y0 := ho.y0
  have y1 := ho.y1
  obtain ⟨d0, d1⟩ := ho.d_bd
  obtain ⟨mi, rfl⟩ : ∃ mi : Nat, m = mi := ⟨m.toNat, by have := ho.m0; omega⟩
  have m1 : mi ≤ 11 := by have := ho.m1; omega
  have l3 := Dt.mon_len mi (by omega) (by omega)
  obtain ⟨q, hq⟩ : ∃ q, n / 86400 = q := ⟨_, rfl⟩
  have q0 : 0 ≤ q := by omega
  have q1 : q ≤ 2932896 := by omega
  obtain ⟨k7, hk7⟩ : ∃ k : Nat, q % 7 = k := ⟨(q % 7).toNat, by omega⟩
  have hk7b : k7 < 7 := by omega
  have HW := hid' (rwk_cut ⟨k7, hk7b⟩)
  have HK7 : Hid ((((k7 : Nat) : Int) + 3) % 7 = (q + 3) % 7) := hid' (by omega)
  obtain ⟨a, ha⟩ : ∃ a, Dt.wk (((k7 : Int) + 3) % 7) = a := ⟨_, rfl⟩
  have la : a.length = 3 := by rw [← ha]; exact Dt.wk_len _ (by omega) (by omega)
  have HA := hid' ha
  have HQ := hid' hq
  clear ho hl ha
  go_enter Tryd.func15, Tryd.ntmps15
  go_wp2
  rw [HW.out, HA.out]
  obtain ⟨rq, hrq⟩ : ∃ rq, n % 86400 = rq := ⟨_, rfl⟩
  have r0 : 0 ≤ rq := by omega
  have r1 : rq < 86400 := by omega
  have HRQ := hid' hrq
  rw [hrq]
  clear hrq hq
  go_loop [4, 8] (fun dv yv => ∃ k : Int, 1970 ≤ k ∧ k ≤ y ∧ yv = .int .i64 k ∧ dv = .int .i64 (q - Dt.dY k)) (fun _ yv => (y - intOf yv).toNat)
  case atStart => exact ⟨1970, by decide, y0, rfl, by rw [Dt.dY_first, Int.sub_zero]⟩
  case round =>
    obtain ⟨k, k0, k1, rfl, rfl⟩ := hrel
    have HS := hid' (Dt.dY_succ k)
    have hyl := Dt.yl_cases k
    have hy0 : 365 ≤ Dt.yl k := by omega
    have hy1 : Dt.yl k ≤ 366 := by omega
    have hdb := Dt.dY_bd k (by omega) (by omega)
    obtain ⟨hdb0, hdb1⟩ := hdb
    clear hyl
    by_cases hlt : k < y
    · have hge : Dt.yl k ≤ q - Dt.dY k := by have := Dt.dY_mono (k + 1) y (by omega); have := H.out.ylo; have := HS.out; have := HQ.out; omega
      go_wp2_with (go_at_call 31; refine (ryear_any _ (by omega) _).mono ?_; rintro e w' ⟨rfl, rfl⟩)
      go_round
      case rel => exact ⟨k + 1, by omega, by omega, rfl, by rw [HS.out]; congr 1; omega⟩
      case measure => simp [intOf]; omega
    · obtain rfl : k = y := by omega
      have hge : q - Dt.dY k < Dt.yl k := by have := H.out.yhi; have := HS.out; have := HQ.out; omega
      have hnn : 0 ≤ q - Dt.dY k := by have := H.out.ylo; have := HQ.out; omega
      go_wp2_with (go_at_call 31; refine (ryear_any _ (by omega) _).mono ?_; rintro e w' ⟨rfl, rfl⟩)
      clear hlt HS hy0 k1
      obtain ⟨o, ho⟩ : ∃ o, q - Dt.dY k = o := ⟨_, rfl⟩
      have HO := hid' ho
      rw [ho] at hge hnn ⊢
      have o1 : o < 366 := by omega
      clear ho hge hdb0 hdb1 hy1
      go_loop [4, 9] (fun dv mv => ∃ j : Nat, j ≤ mi ∧ mv = .int .i64 ((j : Int) + 1) ∧ dv = .int .i64 (o - Dt.dM j k)) (fun _ mv => (mi + 1 - intOf mv).toNat)
      case atStart => exact ⟨0, by omega, rfl, by rw [show Dt.dM ((0 : Nat) : Int) k = 0 from Dt.dM_first k, Int.sub_zero]⟩
      case round =>
        obtain ⟨j, j1, rfl, rfl⟩ := hrel
        have HS := hid' (Dt.dM_succ j k (by omega) (by omega))
        obtain ⟨hm0, hm1⟩ := Dt.ml_bd j k
        obtain ⟨hd0, hd1⟩ := Dt.dM_bd j k (by omega) (by omega)
        by_cases hlt : j < mi
        · have hge : Dt.ml j k ≤ o - Dt.dM j k := by have := Dt.dM_mono (j + 1) mi k (by omega) (by omega) (by omega); have := H.out.mlo; have := HS.out; have := HQ.out; have := HO.out; omega
          go_wp2_with (go_at_call 32; refine (rmonth_any _ _ (by omega) (by omega) (by omega) _).mono ?_; rintro e w' ⟨rfl, rfl⟩)
          go_round
          case rel => exact ⟨j + 1, by omega, by go_num, by rw [show (((j + 1 : Nat)) : Int) = (j : Int) + 1 by omega, HS.out]; congr 1; omega⟩
          case measure => simp [intOf]; omega
        · obtain rfl : j = mi := by omega
          have hge : o - Dt.dM j k < Dt.ml j k := by have := H.out.mhi; have := HS.out; have := HQ.out; have := HO.out; omega
          have hde : o - Dt.dM j k + 1 = d := by have := H.out.deq; have := HQ.out; have := HO.out; omega
          go_wp2_with (go_at_call 32; refine (rmonth_any _ _ (by omega) (by omega) (by omega) _).mono ?_; rintro e w' ⟨rfl, rfl⟩)
          have hS : Below w'.heap.size w' w' := Below.refl _ _
          obtain ⟨p, hp⟩ : ∃ p : Nat, j * 3 = p := ⟨_, rfl⟩
          obtain ⟨r, hr⟩ : ∃ r : Nat, j * 3 + 3 = r := ⟨_, rfl⟩
          have hpr : p ≤ r := by omega
          have hrm : r ≤ 36 := by omega
          have hp0 : (0 : Int) ≤ (p : Int) := by omega
          have hpi : (p : Int) ≤ (r : Int) := by omega
          have hri : (r : Int) ≤ 36 := by omega
          have hr0 : (0 : Int) ≤ (r : Int) := by omega
          obtain ⟨b, hb⟩ : ∃ b, Dt.two d = b := ⟨_, rfl⟩
          obtain ⟨c, hc⟩ : ∃ c, Dt.mon j = c := ⟨_, rfl⟩
          obtain ⟨e1, he1⟩ : ∃ e1, Dt.two (k / 100) = e1 := ⟨_, rfl⟩
          obtain ⟨e2, he2⟩ : ∃ e2, Dt.two (k % 100) = e2 := ⟨_, rfl⟩
          have lb : b.length = 2 := by rw [← hb]; rfl
          have lc : c.length = 3 := by rw [← hc]; exact l3
          have le1 : e1.length = 2 := by rw [← he1]; rfl
          have le2 : e2.length = 2 := by rw [← he2]; rfl
          have hcut : (⟨#[74, 97, 110, 70, 101, 98, 77, 97, 114, 65, 112, 114, 77, 97, 121, 74, 117, 110, 74, 117, 108, 65, 117, 103, 83, 101, 112, 79, 99, 116, 78, 111, 118, 68, 101, 99]⟩ : ByteArray).extract p r = ⟨c.toArray⟩ := by
            rw [← hp, ← hr, ← hc]; exact mon_cut ⟨j, by omega⟩
          have w1 : IntKind.i64.wrap (o - Dt.dM j k + 1) = d := by rw [wrap_id' _ (by omega) (by omega)]; exact hde
          have w2 : IntKind.i64.wrap (3 * ((j : Int) + 1)) = (r : Int) := by rw [wrap_id' _ (by omega) (by omega)]; omega
          have w3 : IntKind.i64.wrap ((r : Int) - 3) = (p : Int) := by rw [wrap_id' _ (by omega) (by omega)]; omega
          have t1 : k.tdiv 100 = k / 100 := Int.tdiv_eq_ediv_of_nonneg (by omega)
          have w4 : IntKind.i64.wrap (k.tdiv 100) = k / 100 := by rw [t1, wrap_id' _ (by omega) (by omega)]
          have w5 : k.tmod 100 = k % 100 := Int.tmod_eq_emod_of_nonneg (by omega)
          have HB := hid' hb
          have HC := hid' hc
          have HE1 := hid' he1
          have HE2 := hid' he2
          clear hb hc he1 he2 hp hr hde hge hd0 hd1 hm0 hm1 HS l3 hlt t1
          go_region_held3 (fun W => Below w'.heap.size w' W) (first | assumption | exact below_two (by assumption) (by assumption) | exact Below.drew (by assumption))
            (first
            | (go_at_call 33; with_reducible refine (rtwo_any d (by omega) (by omega) _).mono ?_; rintro e wa ⟨rfl, hba⟩; rw [HB.out])
            | (go_at_call 33; with_reducible refine (rtwo_any (k / 100) (by omega) (by omega) _).mono ?_; rintro e wb ⟨rfl, hbb⟩; rw [HE1.out])
            | (go_at_call 33; with_reducible refine (rtwo_any (k % 100) (by omega) (by omega) _).mono ?_; rintro e wc ⟨rfl, hbc⟩; rw [HE2.out]))
          have HBS : Hid (Below w'.heap.size w' wc) := hid' (by assumption)
          obtain ⟨s, hs⟩ : ∃ s, a ++ [44, 32] ++ (b ++ [32] ++ c ++ [32] ++ (e1 ++ e2)) = s := ⟨_, rfl⟩
          have ls : s.length = 16 := by rw [← hs]; simp [la, lb, lc, le1, le2]
          rw [rcat_a, hs]
          have HSS := hid' hs
          clear hs lb lc le1 le2 hcut w1 w2 w3 w4 w5
          have l5 := Dt.two_len (rq / 3600)
          have l6 := Dt.two_len (rq / 60 % 60)
          have l7 := Dt.two_len (rq % 60)
          go_wp2_with fail
          refine (rtwo_any (rq / 3600) (by omega) (by omega) _).mono ?_
          rintro e w4 ⟨rfl, hb4⟩
          have HB4 := hid' (below_two HBS.out hb4)
          clear hb4
          go_wp2_with fail
          refine (rtwo_any (rq / 60 % 60) (by omega) (by omega) _).mono ?_
          rintro e w5 ⟨rfl, hb5⟩
          have HB5 := hid' (below_two HB4.out hb5)
          clear hb5
          go_wp2_with fail
          refine (rtwo_any (rq % 60) (by omega) (by omega) _).mono ?_
          rintro e w6 ⟨rfl, hb6⟩
          have HB6 := hid' (below_two HB5.out hb6)
          clear hb6
          go_wp2
          go_ret2
          refine ⟨ret_se ((rcat_b _ _ _ _).trans ?_), HB6.out⟩
          rw [HL.out, ← HSS.out, ← HA.out, ← HB.out, ← HC.out, ← HE1.out, ← HE2.out, HK7.out, ← HQ.out, ← HRQ.out]
          rfl

set_option maxHeartbeats 400000 in
theorem rformat_none (n : Int) (h : n < 0 ∨ 253402300799 < n) (w : World) :
    Calls Tryd.prog 15 #[.int .i64 n] w fun e w' => e = .returned (.tuple #[.string ⟨#[]⟩, .int .i64 5]) ∧ w' = w := by
  go_enter Tryd.func15, Tryd.ntmps15
  rcases h with h | h
  · go_wp2
    go_ret2
    exact ⟨rfl, rfl⟩
  · go_wp2
    go_ret2
    exact ⟨rfl, rfl⟩

end Go.Proofs.YtgnbcoklmflpfaaDoor
