/-
  FlowPlays: a window is as the document says.
-/
import Derived.Test.YthbidfcfkjamdaaFlW
import Derived.Test.YthbidfcfkjamdaaFlC
import Derived.Deep.RegionWith
namespace Go.Proofs.Ythbidfcfkjamdaa
open Go.RowKit

theorem tmod3 (q : Nat) (h0 : ¬ (q : Int).tmod 3 = 0) (h1 : ¬ (q : Int).tmod 3 = 1) : (q : Int).tmod 3 = 2 := by
  rw [Int.tmod_eq_emod_of_nonneg (by omega)] at *
  omega
theorem Below.drewN {B : Nat} {w w' : World} (h : Below B w w') (n : Nat) : Below B w (w'.drewN n) := ⟨h.os, h.tape, h.output, h.size, h.block⟩
theorem Scr.shape {w : World} {v : Value} {cs : List Cl} (h : Scr w v cs) : ∃ ao cap, v = .slice ao cs.length cap := by
  rcases h with ⟨h, rfl⟩ | ⟨a, cap, h, _⟩
  · exact ⟨none, 0, h⟩
  · exact ⟨some a, cap, h⟩
theorem Scr.at {w w' : World} {ao : Option Addr} {n cap : Nat} {cs : List Cl} (h : Scr w (.slice ao n cap) cs) (hb : Below w.heap.size w w') (i : Nat) (c : Cl) (hc : cs[i]? = some c) : ∃ a, ao = some a ∧ w'.cell? (a.add (i * 2)) = some (.int .u8 (c.what : Int)) ∧ w'.cell? ⟨(a.add (i * 2)).block, (a.add (i * 2)).off + 1, none⟩ = some (.int .i64 c.num) := by
  rcases h with ⟨_, rfl⟩ | ⟨a, cap', hv, hcs⟩
  · simp at hc
  · injection hv with h1 _ _
    obtain ⟨hl, c0, c1⟩ := hcs i c hc
    exact ⟨a, h1, (hb.cell hl).trans c0, (hb.cell (p := ⟨(a.add (i * 2)).block, _, none⟩) hl).trans c1⟩

theorem flowPlays_no (n : Int) (h : n < 0 ∨ 2147483647 < n) (sv : Value) (w : World) :
    Calls Try.prog 4 #[.int .i64 n, sv] w fun e w' => e = .returned (.bool true) ∧ Below w.heap.size w w' := by
  have H := hid' h
  clear h
  go_enter Try.func4, Try.ntmps4
  go_wp2_with fail
  refine (wnew_no n H.out _).mono ?_
  rintro e w1 ⟨rfl, hw1⟩
  subst w1
  go_wp2_with fail
  refine (dnew_no n H.out _).mono ?_
  rintro e w1 ⟨rfl, hw1⟩
  subst w1
  go_wp2_with fail
  refine (awake9 _).mono ?_
  rintro e w2 ⟨rfl, hb2⟩
  go_wp2
  go_ret
  exact ⟨rfl, hb2⟩

set_option maxHeartbeats 4000000 in
set_option maxRecDepth 20000 in
theorem flowPlays_yes (n : Int) (h1 : ¬ n < 0) (h2 : ¬ 2147483647 < n) (sv : Value) (cs : List Cl) (w : World) (hsc : Scr w sv cs) (hlen : cs.length ≤ 140737488355328) :
    Calls Try.prog 4 #[.int .i64 n, sv] w fun e w' => e = .returned (.bool true) ∧ Below w.heap.size w w' := by
  obtain ⟨ao, cap, hsv⟩ := hsc.shape
  subst hsv
  obtain ⟨N, hN⟩ : ∃ N, cs.length = N := ⟨_, rfl⟩
  have HN := hid' hN
  rw [hN] at hsc hlen ⊢
  have HSC := hid' hsc
  have HI : Hid (Fw.In n) := hid' (by unfold Fw.In; omega)
  have H1 := hid' (fun W => wnew_yes n h1 h2 W)
  have H2 := hid' (fun W => dnew_yes n h1 h2 W)
  clear hN hsc h1 h2
  go_enter Try.func4, Try.ntmps4
  go_wp2_with fail
  refine (H1.out _).mono ?_
  rintro e w1 ⟨⟨b, rfl, hlb, ha1⟩, hb1⟩
  have HLB := hid' hlb
  have HA1 := hid' ha1
  have HB1 := hid' hb1
  clear hlb ha1 hb1
  go_wp2_with fail
  refine (H2.out _).mono ?_
  rintro e w2 ⟨⟨x, rfl, hlx, hx2⟩, hb2⟩
  have HLX := hid' (Nat.le_trans HB1.out.size hlx)
  have HBX : Hid (b ≠ x) := hid' ((HA1.out.keep hb2).apart hx2 (by decide))
  have HS2 : Hid (∃ s, Fw.In s ∧ Ar w2 b 80 #[.int .i64 s] ∧ Ar w2 x 50 #[.int .i64 s] ∧ Below w.heap.size w w2) := hid' ⟨n, HI.out, HA1.out.keep hb2, hx2, below_two HB1.out hb2⟩
  clear hlx hx2 hb2 HA1 HB1 HI H1 H2
  go_wp2
  go_loopw [9, 10, 11, 12] (fun s9 _ _ _ wr => ∃ i : Nat, s9 = .int .i64 (i : Int) ∧ i ≤ N ∧ Hid (∃ s, Fw.In s ∧ Ar wr b 80 #[.int .i64 s] ∧ Ar wr x 50 #[.int .i64 s] ∧ Below w.heap.size w wr)) (fun s9 _ _ _ _ => N - (intOf s9).toNat)
  case atStart => exact ⟨0, rfl, Nat.zero_le _, HS2⟩
  case round =>
    clear HS2
    obtain ⟨i, rfl, hi, HX⟩ := hrel
    by_cases hlt : i < N
    · have hlt2 : (i : Int) < (N : Int) := by omega
      obtain ⟨s, HI, HA, HD, HB⟩ : ∃ s, Hid (Fw.In s) ∧ Hid (Ar wr b 80 #[.int .i64 s]) ∧ Hid (Ar wr x 50 #[.int .i64 s]) ∧ Hid (Below w.heap.size w wr) := by
        obtain ⟨s, g1, g2, g3, g4⟩ := HX.out
        exact ⟨s, g1, g2, g3, g4⟩
      obtain ⟨c, hc⟩ : ∃ c, cs[i]? = some c := ⟨_, List.getElem?_eq_getElem (by rw [HN.out]; exact hlt)⟩
      obtain ⟨a, hao, x0, x1⟩ := HSC.out.at HB.out i c hc
      subst hao
      obtain ⟨m, hm⟩ : ∃ m, c.num = m := ⟨_, rfl⟩
      obtain ⟨q, hq⟩ : ∃ q, c.what = q := ⟨_, rfl⟩
      rw [hm] at x1
      rw [hq] at x0
      clear HX hc hm hq
      by_cases q0 : (q : Int).tmod 3 = 0
      · obtain ⟨r, s', hp⟩ : ∃ r s', Fw.add s m = (r, s') := ⟨_, _, rfl⟩
        have HP := hid' hp
        clear hp
        go_wp2_with fail
        refine (wadd_any b s m r s' HP.out HI.out _ HA.out).mono ?_
        rintro e w3 ⟨rfl, ha3, hu3⟩
        have HA3 := hid' ha3
        have HD3 := hid' (hu3.keep HD.out (Ne.symm HBX.out))
        have HB3 := hid' (HB.out.trans (hu3.below HLB.out))
        clear ha3 hu3 x0 x1 HA HD HB
        go_wp2_with fail
        refine (dadd_any x s m r s' HP.out HI.out _ HD3.out).mono ?_
        rintro e w4 ⟨rfl, hd4, hu4⟩
        have HA4 := hid' (hu4.keep HA3.out HBX.out)
        have HB4 := hid' (HB3.out.trans (hu4.below HLX.out))
        have HD4 := hid' hd4
        have HI4 := hid' (Fw.add_in HP.out HI.out)
        have y0 := hd4.cell 0 _ rfl
        clear hd4 hu4 HA3 HD3 HB3
        go_wp2_with fail
        go_quiet ((go_at_call 22; exact Calls.quiet_of_same (wsize_any b s' _ (by exact HA4.out))))
        go_wp2
        go_roundw
        case rel => exact ⟨i + 1, by go_num, by omega, hid' ⟨s', HI4.out, HA4.out, HD4.out, Below.drewN HB4.out _⟩⟩
        case measure => simp [intOf]; omega
      by_cases q1 : (q : Int).tmod 3 = 1
      · obtain ⟨r, s', hp⟩ : ∃ r s', Fw.shift s m = (r, s') := ⟨_, _, rfl⟩
        have HP := hid' hp
        clear hp
        go_wp2_with fail
        refine (wshift_any b s m r s' HP.out HI.out _ HA.out).mono ?_
        rintro e w3 ⟨rfl, ha3, hu3⟩
        have HA3 := hid' ha3
        have HD3 := hid' (hu3.keep HD.out (Ne.symm HBX.out))
        have HB3 := hid' (HB.out.trans (hu3.below HLB.out))
        clear ha3 hu3 x0 x1 HA HD HB
        go_wp2_with fail
        refine (dshift_any x s m r s' HP.out HI.out _ HD3.out).mono ?_
        rintro e w4 ⟨rfl, hd4, hu4⟩
        have HA4 := hid' (hu4.keep HA3.out HBX.out)
        have HB4 := hid' (HB3.out.trans (hu4.below HLX.out))
        have HD4 := hid' hd4
        have HI4 := hid' (Fw.shift_in HP.out HI.out)
        have y0 := hd4.cell 0 _ rfl
        clear hd4 hu4 HA3 HD3 HB3
        go_wp2_with fail
        go_quiet ((go_at_call 22; exact Calls.quiet_of_same (wsize_any b s' _ (by exact HA4.out))))
        go_wp2
        go_roundw
        case rel => exact ⟨i + 1, by go_num, by omega, hid' ⟨s', HI4.out, HA4.out, HD4.out, Below.drewN HB4.out _⟩⟩
        case measure => simp [intOf]; omega
      · have q2 : (q : Int).tmod 3 = 2 := tmod3 q q0 q1
        clear q0 q1
        obtain ⟨r, s', hp⟩ : ∃ r s', Fw.take s m = (r, s') := ⟨_, _, rfl⟩
        have HP := hid' hp
        clear hp
        go_wp2_with fail
        refine (wtake_any b s m r s' HP.out HI.out _ HA.out).mono ?_
        rintro e w3 ⟨rfl, ha3, hu3⟩
        have HA3 := hid' ha3
        have HD3 := hid' (hu3.keep HD.out (Ne.symm HBX.out))
        have HB3 := hid' (HB.out.trans (hu3.below HLB.out))
        clear ha3 hu3 x0 x1 HA HD HB
        go_wp2_with fail
        refine (dtake_any x s m r s' HP.out HI.out _ HD3.out).mono ?_
        rintro e w4 ⟨rfl, hd4, hu4⟩
        have HA4 := hid' (hu4.keep HA3.out HBX.out)
        have HB4 := hid' (HB3.out.trans (hu4.below HLX.out))
        have HD4 := hid' hd4
        have HI4 := hid' (Fw.take_in HP.out HI.out)
        have y0 := hd4.cell 0 _ rfl
        clear hd4 hu4 HA3 HD3 HB3
        go_wp2_with fail
        go_quiet ((go_at_call 22; exact Calls.quiet_of_same (wsize_any b s' _ (by exact HA4.out))))
        go_wp2
        go_roundw
        case rel => exact ⟨i + 1, by go_num, by omega, hid' ⟨s', HI4.out, HA4.out, HD4.out, Below.drewN HB4.out _⟩⟩
        case measure => simp [intOf]; omega
    · have hlt2 : ¬ (i : Int) < (N : Int) := by omega
      have HB : Hid (Below w.heap.size w wr) := hid' (by obtain ⟨_, _, _, _, h⟩ := HX.out; exact h)
      clear HX
      go_wp2_with fail
      refine (awake9 _).mono ?_
      rintro e w9 ⟨rfl, hb9⟩
      have HB9 := hid' (below_two HB.out hb9)
      clear hb9
      go_wp2
      go_ret
      exact ⟨rfl, HB9.out⟩

theorem flowPlays_true (n : Int) (sv : Value) (cs : List Cl) (w : World) (hsc : Scr w sv cs) (hlen : cs.length ≤ 140737488355328) :
    Calls Try.prog 4 #[.int .i64 n, sv] w fun e w' => e = .returned (.bool true) ∧ Below w.heap.size w w' := by
  by_cases h : n < 0 ∨ 2147483647 < n
  · exact flowPlays_no n h sv w
  · exact flowPlays_yes n (by omega) (by omega) sv cs w hsc hlen

end Go.Proofs.Ythbidfcfkjamdaa
