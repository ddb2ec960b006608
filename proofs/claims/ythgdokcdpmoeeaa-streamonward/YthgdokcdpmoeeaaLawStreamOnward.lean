/-
  StreamOnward: a stream only goes on.
-/
import Derived.Test.YthgdokcdpmoeeaaStW
namespace Go.Proofs.Ythgdokcdpmoeeaa
open Go.RowKit

set_option maxHeartbeats 4000000 in
set_option maxRecDepth 20000 in
theorem streamOnward_no (most : Int) (hm : most < 1 ∨ 65536 < most) (sv : Value) (id : Int) (w : World) :
    Calls Try.prog 6 #[.int .i64 most, sv, .int .i64 id] w fun e w' => e = .returned (.bool true) ∧ Below w.heap.size w w' := by
  have HN := hid' (snew_no most hm w)
  clear hm
  go_enter Try.func6, Try.ntmps6
  go_wp2_with fail
  refine HN.out.mono ?_
  rintro e w1 ⟨rfl, hw1⟩
  subst w1
  go_wp2_with fail
  refine (awake8 _).mono ?_
  rintro e w2 ⟨rfl, hb2⟩
  go_wp2
  go_ret
  exact ⟨rfl, hb2⟩

set_option maxHeartbeats 8000000 in
set_option maxRecDepth 20000 in
theorem streamOnward_yes (m : Nat) (h1 : 1 ≤ m) (h2 : m ≤ 65536) (sv : Value) (cs : List Cl) (id : Int) (w : World) (hsc : Scr w sv cs) (hlen : cs.length ≤ 140737488355328) :
    Calls Try.prog 6 #[.int .i64 (m : Int), sv, .int .i64 id] w fun e w' => e = .returned (.bool true) ∧ Below w.heap.size w w' := by
  obtain ⟨ao, cap, hsv⟩ := hsc.shape
  subst hsv
  obtain ⟨N, hN⟩ : ∃ N, cs.length = N := ⟨_, rfl⟩
  have HN := hid' hN
  rw [hN] at hsc hlen ⊢
  have HSC := hid' hsc
  have HNEW := hid' (snew_yes m h1 h2 w)
  clear hN hsc h1 h2
  go_enter Try.func6, Try.ntmps6
  go_wp2_with fail
  refine HNEW.out.mono ?_
  rintro e w1 ⟨⟨b, rfl, v1, u1, hk1⟩, hb1⟩
  have HK1 := hid' hk1
  have HB1 := hid' hb1
  clear hk1 hb1
  go_wp2_with fail
  refine (sphase_any w.heap.size b _ _ _ id 0 (phaseI_new m id) _ HK1.out).mono ?_
  rintro e w2 ⟨rfl, hb2⟩
  have HK2 := hid' (HK1.out.keep hb2)
  have HB2 := hid' (below_two HB1.out hb2)
  clear hb2 HK1 HB1
  have HS2 : Hid (∃ k v u, BK w2 w.heap.size b k v u ∧ Sm.phaseI k id = 0 ∧ Below w.heap.size w w2) := hid' ⟨_, _, _, HK2.out, phaseI_new m id, HB2.out⟩
  clear HK2 HB2 HNEW
  go_wp2
  go_loopw [9, 10, 11] (fun s9 s10 _ wr => ∃ (i p : Nat), s10 = .int .i64 (i : Int) ∧ s9 = .int .u8 (p : Int) ∧ i ≤ N ∧ Hid (∃ k v u, BK wr w.heap.size b k v u ∧ Sm.phaseI k id = p ∧ Below w.heap.size w wr)) (fun _ s10 _ _ => N - (intOf s10).toNat)
  case atStart => exact ⟨0, 0, rfl, rfl, Nat.zero_le _, HS2⟩
  case round =>
    clear HS2
    obtain ⟨i, p, rfl, rfl, hi, HX⟩ := hrel
    by_cases hlt : i < N
    · have hlt2 : (i : Int) < (N : Int) := by omega
      obtain ⟨k, v, u, HK, HP, HB⟩ : ∃ k v u, Hid (BK wr w.heap.size b k v u) ∧ Hid (Sm.phaseI k id = p) ∧ Hid (Below w.heap.size w wr) := by
        obtain ⟨k, v, u, h1, h2, h3⟩ := HX.out
        exact ⟨k, v, u, h1, h2, h3⟩
      obtain ⟨c, hc⟩ : ∃ c, cs[i]? = some c := ⟨_, List.getElem?_eq_getElem (by rw [HN.out]; exact hlt)⟩
      obtain ⟨a, hao, x0, x1, x2⟩ := HSC.out.at HB.out i c hc
      subst hao
      clear HX hc
      go_wp2_with fail
      refine (sdoL_any w.heap.size b k v u c _ HK.out).mono ?_
      rintro e w3 ⟨⟨r3, rfl⟩, ⟨v3, u3, hk3⟩, hf3⟩
      have HK3 := hid' hk3
      have HB3 := hid' (HB.out.trans hf3.bel)
      clear hk3 hf3 x0 x1 x2
      obtain ⟨q, hq⟩ : ∃ q, Sm.phaseI (stp k c) id = q := ⟨_, rfl⟩
      have hp5 : p ≤ 5 := by rw [← HP.out]; exact phaseI_le HK.out.ok id
      have hq5 : q ≤ 5 := by rw [← hq]; exact phaseI_le HK3.out.ok id
      have hgo : Sm.Goes p q := by rw [← HP.out, ← hq]; exact goes_stp HK.out.ok c id
      have HQ := hid' hq
      go_wp2_with fail
      refine (sphase_any w.heap.size b _ _ _ id q HQ.out _ HK3.out).mono ?_
      rintro e w4 ⟨rfl, hb4⟩
      have HK4 := hid' (HK3.out.keep hb4)
      have HB4 := hid' (HB3.out.trans (hb4.mono HK3.out.size))
      have HS4 : Hid (∃ k v u, BK w4 w.heap.size b k v u ∧ Sm.phaseI k id = q ∧ Below w.heap.size w w4) := hid' ⟨_, _, _, HK4.out, HQ.out, HB4.out⟩
      clear hb4 hq
      obtain ⟨rp, hrp⟩ : ∃ rp, Sm.rank p = rp := ⟨_, rfl⟩
      obtain ⟨rq, hrq⟩ : ∃ rq, Sm.rank q = rq := ⟨_, rfl⟩
      have hle : rp ≤ rq := by rw [← hrp, ← hrq]; exact hgo.1
      have hnl : ¬ (rq : Int) < (rp : Int) := by omega
      have hnl2 : ¬ rq < rp := by omega
      have HRP := hid' (srank_to p rp hp5 hrp)
      have HRQ := hid' (srank_to q rq hq5 hrq)
      have HEQ : Hid (rq = 2 → rp = 2 → q = p) := hid' (fun a b => hgo.2 (by rw [hrq]; exact a) (by rw [hrp]; exact b))
      clear hgo hrp hrq hp5 hq5 HP HK HB HK3 HB3 HQ hle
      go_wp2_with fail
      refine (HRQ.out _).mono ?_
      rintro e w5 ⟨rfl, hw5⟩
      subst w5
      go_wp2_with fail
      refine (HRP.out _).mono ?_
      rintro e w5 ⟨rfl, hw5⟩
      subst w5
      go_wp2_with fail
      refine (HRQ.out _).mono ?_
      rintro e w5 ⟨rfl, hw5⟩
      subst w5
      by_cases g2 : rq = 2
      · subst g2
        go_wp2_with fail
        refine (HRP.out _).mono ?_
        rintro e w5 ⟨rfl, hw5⟩
        subst w5
        by_cases g3 : rp = 2
        · obtain rfl : q = p := HEQ.out (by trivial) g3
          subst g3
          clear HRP HRQ HEQ
          go_wp2
          go_roundw
          case rel => exact ⟨i + 1, q, by go_num, rfl, by omega, HS4⟩
          case measure => simp [intOf]; omega
        · have t1 : ((rp : Int) == 2) = false := by simp; omega
          have t2 : (rp == 2) = false := by simp; omega
          clear HRP HRQ HEQ
          go_wp2
          go_roundw
          case rel => exact ⟨i + 1, q, by go_num, rfl, by omega, HS4⟩
          case measure => simp [intOf]; omega
      · have t1 : ((rq : Int) == 2) = false := by simp; omega
        have t2 : (rq == 2) = false := by simp; omega
        clear HRP HRQ HEQ
        go_wp2
        go_roundw
        case rel => exact ⟨i + 1, q, by go_num, rfl, by omega, HS4⟩
        case measure => simp [intOf]; omega
    · have hlt2 : ¬ (i : Int) < (N : Int) := by omega
      have HB : Hid (Below w.heap.size w wr) := hid' (by obtain ⟨_, _, _, _, _, h⟩ := HX.out; exact h)
      have HSZ : Hid (w.heap.size ≤ wr.heap.size) := hid' HB.out.size
      clear HX
      go_wp2_with fail
      refine (awake8 _).mono ?_
      rintro e w9 ⟨rfl, hb9⟩
      have HB9 := hid' (HB.out.trans (hb9.mono HSZ.out))
      clear hb9
      go_wp2
      go_ret
      exact ⟨rfl, HB9.out⟩

theorem streamOnward_true (most : Int) (sv : Value) (cs : List Cl) (id : Int) (w : World) (hsc : Scr w sv cs) (hlen : cs.length ≤ 140737488355328) :
    Calls Try.prog 6 #[.int .i64 most, sv, .int .i64 id] w fun e w' => e = .returned (.bool true) ∧ Below w.heap.size w w' := by
  by_cases h : most < 1 ∨ 65536 < most
  · exact streamOnward_no most h sv id w
  · obtain ⟨m, rfl⟩ : ∃ m : Nat, most = m := ⟨most.toNat, by omega⟩
    exact streamOnward_yes m (by omega) (by omega) sv cs id w hsc hlen

end Go.Proofs.Ythgdokcdpmoeeaa
