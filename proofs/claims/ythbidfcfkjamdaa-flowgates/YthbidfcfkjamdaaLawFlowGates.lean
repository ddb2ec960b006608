/-
  FlowGates: a gate is as the document says.
-/
import Derived.Test.YthbidfcfkjamdaaLawFlowPlays
namespace Go.Proofs.Ythbidfcfkjamdaa
open Go.RowKit

theorem flowGates_no (n : Int) (h : n < 1 ∨ 2147483647 < n) (sv : Value) (w : World) :
    Calls Try.prog 6 #[.int .i64 n, sv] w fun e w' => e = .returned (.bool true) ∧ Below w.heap.size w w' := by
  have H := hid' h
  clear h
  go_enter Try.func6, Try.ntmps6
  go_wp2_with fail
  refine (gnew_no n H.out _).mono ?_
  rintro e w1 ⟨rfl, hw1⟩
  subst w1
  go_wp2_with fail
  refine (dgnew_no n H.out _).mono ?_
  rintro e w1 ⟨rfl, hw1⟩
  subst w1
  go_wp2_with fail
  refine (awake9 _).mono ?_
  rintro e w2 ⟨rfl, hb2⟩
  go_wp2
  go_ret
  exact ⟨rfl, hb2⟩

set_option maxHeartbeats 4000000 in
set_option maxRecDepth 20000 in
theorem flowGates_yes (n : Int) (h1 : ¬ n < 1) (h2 : ¬ 2147483647 < n) (sv : Value) (cs : List Cl) (w : World) (hsc : Scr w sv cs) (hlen : cs.length ≤ 140737488355328) :
    Calls Try.prog 6 #[.int .i64 n, sv] w fun e w' => e = .returned (.bool true) ∧ Below w.heap.size w w' := by
  obtain ⟨ao, cap, hsv⟩ := hsc.shape
  subst hsv
  obtain ⟨N, hN⟩ : ∃ N, cs.length = N := ⟨_, rfl⟩
  have HN := hid' hN
  rw [hN] at hsc hlen ⊢
  have HSC := hid' hsc
  have HI : Hid (Fw.Ok ⟨n, n, 0⟩) := hid' (Fw.ok_new (by omega) (by omega))
  have H1 := hid' (fun W => gnew_yes n h1 h2 W)
  have H2 := hid' (fun W => dgnew_yes n h1 h2 W)
  clear hN hsc h1 h2
  go_enter Try.func6, Try.ntmps6
  go_wp2_with fail
  refine (H1.out _).mono ?_
  rintro e w1 ⟨⟨b, rfl, hlb, ha1⟩, hb1⟩
  have HLB := hid' hlb
  have HA1 := hid' ha1
  have HB1 := hid' hb1
  clear hlb ha1 hb1
  go_wp2_with fail
  refine (H2.out _).mono ?_
  rintro e w2 ⟨⟨x, rfl, hlx, hx2⟩, hb2⟩
  have HLX := hid' (Nat.le_trans HB1.out.size hlx)
  have HBX : Hid (b ≠ x) := hid' (Ar.apart (Ar.keep HA1.out hb2) hx2 (by decide))
  have HS2 : Hid (∃ g, Fw.Ok g ∧ CG w2 b g ∧ DG w2 x g ∧ Below w.heap.size w w2) := hid' ⟨_, HI.out, Ar.keep HA1.out hb2, hx2, below_two HB1.out hb2⟩
  clear hlx hx2 hb2 HA1 HB1 HI H1 H2
  go_wp2
  go_loopw [9, 10] (fun s9 _ wr => ∃ i : Nat, s9 = .int .i64 (i : Int) ∧ i ≤ N ∧ Hid (∃ g, Fw.Ok g ∧ CG wr b g ∧ DG wr x g ∧ Below w.heap.size w wr)) (fun s9 _ _ => N - (intOf s9).toNat)
  case atStart => exact ⟨0, rfl, Nat.zero_le _, HS2⟩
  case round =>
    clear HS2
    obtain ⟨i, rfl, hi, HX⟩ := hrel
    by_cases hlt : i < N
    · have hlt2 : (i : Int) < (N : Int) := by omega
      obtain ⟨g, HI, HA, HD, HB⟩ : ∃ g, Hid (Fw.Ok g) ∧ Hid (CG wr b g) ∧ Hid (DG wr x g) ∧ Hid (Below w.heap.size w wr) := by
        obtain ⟨s, g1, g2, g3, g4⟩ := HX.out
        exact ⟨s, g1, g2, g3, g4⟩
      obtain ⟨c, hc⟩ : ∃ c, cs[i]? = some c := ⟨_, List.getElem?_eq_getElem (by rw [HN.out]; exact hlt)⟩
      obtain ⟨a, hao, x0, x1⟩ := HSC.out.at HB.out i c hc
      subst hao
      obtain ⟨m, hm⟩ : ∃ m, c.num = m := ⟨_, rfl⟩
      obtain ⟨q, hq⟩ : ∃ q, c.what = q := ⟨_, rfl⟩
      rw [hm] at x1
      rw [hq] at x0
      clear HX hc hm hq
      by_cases q0 : (q : Int).tmod 3 = 0
      · obtain ⟨r, g', hp⟩ : ∃ r g', Fw.got g m = (r, g') := ⟨_, _, rfl⟩
        have HP := hid' hp
        clear hp
        go_wp2_with fail
        refine (ggot_any b g g' m r HP.out HI.out _ HA.out).mono ?_
        rintro e w3 ⟨rfl, ha3, hu3⟩
        have HA3 := hid' ha3
        have HD3 : Hid (DG w3 x g) := hid' (hu3.keep HD.out (Ne.symm HBX.out))
        have HB3 := hid' (HB.out.trans (hu3.below HLB.out))
        clear ha3 hu3 x0 x1 HA HD HB
        go_wp2_with fail
        refine (dggot_any x g g' m r HP.out HI.out _ HD3.out).mono ?_
        rintro e w4 ⟨rfl, hd4, hu4⟩
        have HA4 : Hid (CG w4 b g') := hid' (hu4.keep HA3.out HBX.out)
        have HB4 := hid' (HB3.out.trans (hu4.below HLX.out))
        have HD4 := hid' hd4
        have HI4 := hid' (Fw.got_ok HP.out HI.out)
        have y1 := hd4.cell 1 _ rfl
        clear hd4 hu4 HA3 HD3 HB3
        go_wp2_with fail
        go_quiet ((go_at_call 33; exact Calls.quiet_of_same (gleft_any b g' _ (by exact HA4.out))))
        go_wp2
        go_roundw
        case rel => exact ⟨i + 1, by go_num, by omega, hid' ⟨g', HI4.out, HA4.out, HD4.out, Below.drewN HB4.out _⟩⟩
        case measure => simp [intOf]; omega
      by_cases q1 : (q : Int).tmod 3 = 1
      · obtain ⟨r, g', hp⟩ : ∃ r g', Fw.used g m = (r, g') := ⟨_, _, rfl⟩
        have HP := hid' hp
        clear hp
        go_wp2_with fail
        refine (gused_any b g g' m r HP.out HI.out _ HA.out).mono ?_
        rintro e w3 ⟨rfl, ha3, hu3⟩
        have HA3 := hid' ha3
        have HD3 : Hid (DG w3 x g) := hid' (hu3.keep HD.out (Ne.symm HBX.out))
        have HB3 := hid' (HB.out.trans (hu3.below HLB.out))
        clear ha3 hu3 x0 x1 HA HD HB
        go_wp2_with fail
        refine (dgused_any x g g' m r HP.out HI.out _ HD3.out).mono ?_
        rintro e w4 ⟨rfl, hd4, hu4⟩
        have HA4 : Hid (CG w4 b g') := hid' (hu4.keep HA3.out HBX.out)
        have HB4 := hid' (HB3.out.trans (hu4.below HLX.out))
        have HD4 := hid' hd4
        have HI4 := hid' (Fw.used_ok HP.out HI.out)
        have y1 := hd4.cell 1 _ rfl
        clear hd4 hu4 HA3 HD3 HB3
        go_wp2_with fail
        go_quiet ((go_at_call 33; exact Calls.quiet_of_same (gleft_any b g' _ (by exact HA4.out))))
        go_wp2
        go_roundw
        case rel => exact ⟨i + 1, by go_num, by omega, hid' ⟨g', HI4.out, HA4.out, HD4.out, Below.drewN HB4.out _⟩⟩
        case measure => simp [intOf]; omega
      · have q2 : (q : Int).tmod 3 = 2 := tmod3 q q0 q1
        clear q0 q1
        obtain ⟨r, g', hp⟩ : ∃ r g', Fw.grant g = (r, g') := ⟨_, _, rfl⟩
        have HP := hid' hp
        clear hp
        go_wp2_with fail
        refine (ggrant_any b g g' r HP.out HI.out _ HA.out).mono ?_
        rintro e w3 ⟨rfl, ha3, hu3⟩
        have HA3 := hid' ha3
        have HD3 : Hid (DG w3 x g) := hid' (hu3.keep HD.out (Ne.symm HBX.out))
        have HB3 := hid' (HB.out.trans (hu3.below HLB.out))
        clear ha3 hu3 x0 x1 HA HD HB
        go_wp2_with fail
        refine (dggrant_any x g g' r HP.out HI.out _ HD3.out).mono ?_
        rintro e w4 ⟨rfl, hd4, hu4⟩
        have HA4 : Hid (CG w4 b g') := hid' (hu4.keep HA3.out HBX.out)
        have HB4 := hid' (HB3.out.trans (hu4.below HLX.out))
        have HD4 := hid' hd4
        have HI4 := hid' (Fw.grant_ok HP.out HI.out)
        have y1 := hd4.cell 1 _ rfl
        clear hd4 hu4 HA3 HD3 HB3
        go_wp2_with fail
        go_quiet ((go_at_call 33; exact Calls.quiet_of_same (gleft_any b g' _ (by exact HA4.out))))
        go_wp2
        go_roundw
        case rel => exact ⟨i + 1, by go_num, by omega, hid' ⟨g', HI4.out, HA4.out, HD4.out, Below.drewN HB4.out _⟩⟩
        case measure => simp [intOf]; omega
    · have hlt2 : ¬ (i : Int) < (N : Int) := by omega
      have HB : Hid (Below w.heap.size w wr) := hid' (by obtain ⟨_, _, _, _, h⟩ := HX.out; exact h)
      clear HX
      go_wp2_with fail
      refine (awake9 _).mono ?_
      rintro e w9 ⟨rfl, hb9⟩
      have HB9 := hid' (below_two HB.out hb9)
      clear hb9
      go_wp2
      go_ret
      exact ⟨rfl, HB9.out⟩

theorem flowGates_true (n : Int) (sv : Value) (cs : List Cl) (w : World) (hsc : Scr w sv cs) (hlen : cs.length ≤ 140737488355328) :
    Calls Try.prog 6 #[.int .i64 n, sv] w fun e w' => e = .returned (.bool true) ∧ Below w.heap.size w w' := by
  by_cases h : n < 1 ∨ 2147483647 < n
  · exact flowGates_no n h sv w
  · exact flowGates_yes n (by omega) (by omega) sv cs w hsc hlen

end Go.Proofs.Ythbidfcfkjamdaa
