/-
  frame.ofPriority, ofAway, ofUpdate: by their contracts.
-/
import Derived.Test.YthbidfcfkjamdaaFrB
import Derived.Deep.RegionHeld3
namespace Go.Proofs.Ythbidfcfkjamdaa
open Go.RowKit

set_option maxHeartbeats 2000000 in
set_option maxRecDepth 20000 in
theorem cofPrio_any (l : List UInt8) (h : 5 ≤ l.length) (w : World) : Calls Try.prog 69 #[.string ⟨l.toArray⟩] w fun e w' => e = .returned (.agg (ptC (Fm.prio l []) (.slice none 0 0))) ∧ Below w.heap.size w w' := by
  obtain ⟨n, hn⟩ : ∃ n, Fm.idn l = n := ⟨_, rfl⟩
  have HN := hid' hn
  have hcut := cut_ends l 4
  obtain ⟨y, hy⟩ : ∃ y, l.take 4 = y := ⟨_, rfl⟩
  have hl : y.length = 4 := by rw [← hy, List.length_take]; omega
  rw [hy] at hcut
  have HL := hid' hl
  obtain ⟨q, hq⟩ : ∃ q, Fm.num y = q := ⟨_, rfl⟩
  have HQ := hid' hq
  have hq4 := Fm.num_lt4 hl
  rw [hq] at hq4
  obtain ⟨r, hr⟩ : ∃ r, decide (2147483648 ≤ q) = r := ⟨_, rfl⟩
  have htop := top_bit q hq4
  rw [hr] at htop
  have HR := hid' hr
  have h5 : (5 : Int) ≤ (l.length : Int) := by omega
  have h4 : (4 : Int) < (l.length : Int) := by omega
  have h4' : (4 : Int) ≤ (l.length : Int) := by omega
  have hsz : 4 < (⟨l.toArray⟩ : ByteArray).size := by show 4 < l.length; omega
  obtain ⟨c, hc⟩ : ∃ c, (⟨l.toArray⟩ : ByteArray)[4] = c := ⟨_, rfl⟩
  have c256 := UInt8.toNat_lt c
  have HP : Hid (Fm.prio l [] = ⟨[], 0, 0, (n : Int), (c.toNat : Int) + 1, r, 0, []⟩) := hid' (by
    unfold Fm.prio
    have : l.getD 4 0 = c := by rw [← hc, List.getD_eq_getElem?_getD, List.getElem?_eq_getElem (by omega)]; rfl
    rw [hn, hy, hq, hr, this])
  rw [HP.out]
  clear hn hy hl hq hq4 hr HP
  go_enter Try.func69, Try.ntmps69
  go_wp2_with (refine wpl_alloc 27 rfl rfl _ zeroParts ?_)
  intro b0 w0 hg0 ha0 hb0
  obtain ⟨⟨e0, e1, e2, e3, e4, e5, e6, e7⟩, f0, f1, f2, f3, f4, f5, f6, f7⟩ := ptZ_cells ha0
  have HA := hid' ha0
  have HB := hid' hb0
  clear ha0 hb0
  go_wp2_with fail
  go_region_with (first
    | (go_at_call 62; refine (cstream_any l n (by omega) HN.out _).mono ?_; rintro e w1 ⟨rfl, hw⟩; subst w1)
    | (go_at_call 61; refine (cnumber_any y (by rw [HL.out]; decide) _).mono ?_; rintro e w1 ⟨rfl, hw⟩; subst w1; rw [HQ.out]))
  all_goals go_wp2
  all_goals
    rw [wrap_byte, wrap_byte1]
    obtain ⟨hA1, hU1⟩ := st8 HA.out (.string ⟨#[]⟩) (.int .i64 0) (.int .i64 0) (.int .i64 (n : Int)) (.int .i64 ((c.toNat : Int) + 1)) (.bool r) (.int .i64 0) (.slice none 0 0)
    have hld := ld_parts hA1.drew
    refine bodyPost_ret (v := .agg (ptC ⟨[], 0, 0, (n : Int), (c.toNat : Int) + 1, r, 0, []⟩ (.slice none 0 0))) (by simp [results, Try.results69, asAddr, hld, ptC]) rfl ⟨rfl, (HB.out.trans (hU1.below hg0)).drew⟩

set_option maxHeartbeats 2000000 in
set_option maxRecDepth 20000 in
theorem cofAway_any (l : List UInt8) (h : 8 ≤ l.length) (w : World) : Calls Try.prog 72 #[.string ⟨l.toArray⟩] w fun e w' => e = .returned (.agg (ptC ⟨l.drop 8, 0, (Fm.num ((l.drop 4).take 4) : Nat), (Fm.idn l : Nat), 0, false, 0, []⟩ (.slice none 0 0))) ∧ Below w.heap.size w w' := by
  obtain ⟨n, hn⟩ : ∃ n, Fm.idn l = n := ⟨_, rfl⟩
  have HN := hid' hn
  have hcut := cut_rest l 4
  obtain ⟨d, hd⟩ : ∃ d, l.drop 4 = d := ⟨_, rfl⟩
  have hdl : d.length = l.length - 4 := by rw [← hd, List.length_drop]
  rw [hd] at hcut
  have hcut2 := cut_rest d 4
  obtain ⟨q, hq⟩ : ∃ q, d.drop 4 = q := ⟨_, rfl⟩
  rw [hq] at hcut2
  have hq8 : l.drop 8 = q := by rw [← hq, ← hd, List.drop_drop]
  obtain ⟨m, hm⟩ : ∃ m, Fm.num (d.take 4) = m := ⟨_, rfl⟩
  have HM := hid' hm
  rw [hq8, hd, hm, hn]
  have hl4 : (4 : Int) ≤ (l.length : Int) := by omega
  have hd4 : (4 : Int) ≤ (d.length : Int) := by omega
  have hd4n : 4 ≤ d.length := by omega
  clear hn hd hdl hq hq8 hm
  go_enter Try.func72, Try.ntmps72
  go_wp2_with (refine wpl_alloc 27 rfl rfl _ zeroParts ?_)
  intro b0 w0 hg0 ha0 hb0
  obtain ⟨⟨e0, e1, e2, e3, e4, e5, e6, e7⟩, f0, f1, f2, f3, f4, f5, f6, f7⟩ := ptZ_cells ha0
  have HA := hid' ha0
  have HB := hid' hb0
  clear ha0 hb0
  go_wp2_with fail
  go_region_with (first
    | (go_at_call 62; refine (cstream_any l n (by omega) HN.out _).mono ?_; rintro e w1 ⟨rfl, hw⟩; subst w1)
    | (go_at_call 70; refine (ccode_any d hd4n _).mono ?_; rintro e w1 ⟨rfl, hw⟩; subst w1; rw [HM.out]))
  all_goals go_wp2
  all_goals
    obtain ⟨hA1, hU1⟩ := st8 HA.out (.string ⟨q.toArray⟩) (.int .i64 0) (.int .i64 (m : Int)) (.int .i64 (n : Int)) (.int .i64 0) (.bool false) (.int .i64 0) (.slice none 0 0)
    have hld := ld_parts hA1.drew
    refine bodyPost_ret (v := .agg (ptC ⟨q, 0, (m : Int), (n : Int), 0, false, 0, []⟩ (.slice none 0 0))) (by simp [results, Try.results72, asAddr, hld, ptC]) rfl ⟨rfl, (HB.out.trans (hU1.below hg0)).drew⟩

set_option maxHeartbeats 2000000 in
set_option maxRecDepth 20000 in
theorem cofUpdate_any (l : List UInt8) (r : Fm.Rd) (h : 4 ≤ l.length) (hr : (if Fm.idn l = 0 then .bad true 1 else .ok ⟨l.drop 4, 0, 0, (Fm.idn l : Nat), 0, false, 0, []⟩) = r) (w : World) : Calls Try.prog 74 #[.string ⟨l.toArray⟩] w fun e w' => e = .returned (rdV r (.slice none 0 0)) ∧ Below w.heap.size w w' := by
  obtain ⟨n, hn⟩ : ∃ n, Fm.idn l = n := ⟨_, rfl⟩
  have HN := hid' hn
  have hcut := cut_rest l 4
  obtain ⟨d, hd⟩ : ∃ d, l.drop 4 = d := ⟨_, rfl⟩
  rw [hd] at hcut hr
  rw [hn] at hr
  have hl4 : (4 : Int) ≤ (l.length : Int) := by omega
  clear hn hd
  by_cases h0 : n = 0
  · obtain rfl : r = .bad true 1 := by rw [← hr, if_pos h0]
    have hn0 : ((n : Int) == 0) = true := by simp [h0]
    clear h0 hr
    go_enter Try.func74, Try.ntmps74
    go_wp2_with (refine wpl_open2 rfl rfl rfl rfl ?_)
    intro b2 b3 w0 hg2 hg3 ha2 ha3 hb0
    have HA2 := hid' ha2
    have HA3 := hid' ha3
    have HB := hid' hb0
    clear ha2 ha3 hb0
    go_wp2_with fail
    refine (cstream_any l n (by omega) HN.out _).mono ?_
    rintro e w1 ⟨rfl, hw⟩
    subst w1
    go_wp2_with fail
    refine (cofConn_any 1 _).mono ?_
    rintro e w2 ⟨rfl, hb2⟩
    have HA2' := hid' (HA2.out.keep hb2)
    have HA3' := hid' (HA3.out.keep hb2)
    have HB' := hid' (below_two HB.out hb2)
    clear hb2
    go_wp2_with (refine wpl_st2 _ _ _ _ rfl rfl rfl rfl w.heap.size b2 b3 Fm.none' none 0 0 true true 1 (by kernel_rfl) (by kernel_rfl) (by kernel_rfl) (by kernel_rfl) HA2'.out HA3'.out hg2 hg3 ?_)
    intro w3 hp3 hw3 hb3
    go_wp2
    refine bodyPost_ret (v := rdV (.bad true 1) (.slice none 0 0)) (by simp [results, Try.results74, asAddr, ldp hp3, ldw hw3]; rfl) rfl ⟨rfl, HB'.out.trans hb3⟩
  · obtain rfl : r = .ok ⟨d, 0, 0, (n : Int), 0, false, 0, []⟩ := by rw [← hr, if_neg h0]
    have hn0 : ((n : Int) == 0) = false := beq_false_of_ne (by omega)
    clear h0 hr
    go_enter Try.func74, Try.ntmps74
    go_wp2_with (refine wpl_open2 rfl rfl rfl rfl ?_)
    intro b2 b3 w0 hg2 hg3 ha2 ha3 hb0
    have HA2 := hid' ha2
    have HA3 := hid' ha3
    have HB := hid' hb0
    clear ha2 ha3 hb0
    go_wp2_with fail
    refine (cstream_any l n (by omega) HN.out _).mono ?_
    rintro e w1 ⟨rfl, hw⟩
    subst w1
    go_wp2_with (refine wpl_st2 _ _ _ _ rfl rfl rfl rfl w.heap.size b2 b3 ⟨d, 0, 0, (n : Int), 0, false, 0, []⟩ none 0 0 false false 0 (by kernel_rfl) (by kernel_rfl) (by kernel_rfl) (by kernel_rfl) HA2.out HA3.out hg2 hg3 ?_)
    intro w3 hp3 hw3 hb3
    go_wp2
    refine bodyPost_ret (v := rdV (.ok ⟨d, 0, 0, (n : Int), 0, false, 0, []⟩) (.slice none 0 0)) (by simp [results, Try.results74, asAddr, ldp hp3, ldw hw3]; rfl) rfl ⟨rfl, HB.out.trans hb3⟩

end Go.Proofs.Ythbidfcfkjamdaa
