/-
  The law DateNext, by its contract: it returns true for every number.
-/
import Derived.Test.YtgnbcoklmflpfaaDoorDateAw
namespace Go.Proofs.YtgnbcoklmflpfaaDoor
open Go.RowKit

namespace Dt
theorem On.parts {n y m d : Int} (h : On n y m d) : (line n y m d).take 3 = wk ((n / 86400 + 3) % 7) ∧ (line n y m d).drop 17 = clockText (n % 86400) ++ [32, 71, 77, 84] ∧ ((line n y m d).drop 5).take 11 = dayText d m y ∧ ((line n y m d).drop 12).take 4 = four y := by
  obtain ⟨a, b, c, e1⟩ := three (wk_len ((n / 86400 + 3) % 7) (by omega) (by omega))
  obtain ⟨f, g, i, e2⟩ := three (mon_len m h.m0 (by have := h.m1; omega))
  refine ⟨?_, ?_, ?_, ?_⟩ <;> simp [line, dayText, clockText, e1, e2, two, four]
theorem On.rday {n y m d : Int} (h : On n y m d) : rday (dayText d m y) = n / 86400 := by
  obtain ⟨f, g, i, e2⟩ := three (mon_len m h.m0 (by have := h.m1; omega))
  have hd := h.d_bd
  have q1 : ((dayText d m y).drop 7).take 4 = four y := by simp [dayText, e2, two, four]
  have q2 : ((dayText d m y).drop 3).take 3 = mon m := by simp [dayText, e2, two, four]
  have q3 : (dayText d m y).take 2 = two d := by simp [dayText, e2, two, four]
  have hy := h.y0
  have hy1 := h.y1
  unfold Dt.rday
  rw [q1, q2, q3, nmb_four y (by omega) (by omega), nmb_two d (by omega) (by omega), mth_mon m h.m0 h.m1]
  have := h.deq
  rw [show dYz y = dY y by unfold dYz; rw [if_neg (by omega)]]
  omega
theorem wk_ne : ∀ i j : Fin 7, i ≠ j → wk (i.val : Int) ≠ wk (j.val : Int) := by decide +kernel
theorem ch_lt (x y : Int) (hx : 0 ≤ x ∧ x ≤ 255) (hy : 0 ≤ y ∧ y ≤ 255) : ch x < ch y ↔ x < y := by
  have a := ch_toNat x hx.1 hx.2
  have b := ch_toNat y hy.1 hy.2
  rw [UInt8.lt_iff_toNat_lt]; omega
theorem ch_eq (x y : Int) (hx : 0 ≤ x ∧ x ≤ 255) (hy : 0 ≤ y ∧ y ≤ 255) : ch x = ch y ↔ x = y := by
  have a := ch_toNat x hx.1 hx.2
  have b := ch_toNat y hy.1 hy.2
  constructor
  · intro h; rw [h] at a; omega
  · intro h; rw [h]
theorem four_less (y k : Int) (h0 : 0 ≤ y) (h : y < k) (h1 : k ≤ 9999) : Op.bytesLess (four y) (four k) = true := by
  simp only [four, two, List.cons_append, List.nil_append, Op.bytesLess, Bool.or_eq_true, Bool.and_eq_true, decide_eq_true_eq, beq_iff_eq]
  rw [ch_lt _ _ (by omega) (by omega), ch_lt _ _ (by omega) (by omega), ch_lt _ _ (by omega) (by omega), ch_lt _ _ (by omega) (by omega), ch_eq _ _ (by omega) (by omega), ch_eq _ _ (by omega) (by omega), ch_eq _ _ (by omega) (by omega), ch_eq _ _ (by omega) (by omega)]
  omega
theorem four_le (y k : Int) (h0 : 0 ≤ y) (h : y ≤ k) (h1 : k ≤ 9999) : (Op.bytesLess (four y) (four k) || four y == four k) = true := by
  by_cases e : y = k
  · subst e; simp
  · rw [four_less y k h0 (by omega) h1]; rfl
end Dt
theorem leq_true (t : TypeId) (f g : List UInt8) (h : (Op.bytesLess f g || f == g) = true) : binOp .leq t (.string ⟨f.toArray⟩) (.string ⟨g.toArray⟩) = (pure (.bool true) : Sem Value) := by
  simp only [binOp, Op.stringOp, Lib.toList_data]
  rw [h]
theorem week_cut : ∀ i : Fin 7, (⟨#[77, 111, 110, 84, 117, 101, 87, 101, 100, 84, 104, 117, 70, 114, 105, 83, 97, 116, 83, 117, 110, 77, 111, 110]⟩ : ByteArray).extract (i.val * 3) (i.val * 3 + 3) = ⟨(Dt.wk (i.val : Int)).toArray⟩ ∧ (⟨#[77, 111, 110, 84, 117, 101, 87, 101, 100, 84, 104, 117, 70, 114, 105, 83, 97, 116, 83, 117, 110, 77, 111, 110]⟩ : ByteArray).extract (i.val * 3 + 3) (i.val * 3 + 6) = ⟨(Dt.wk (((i.val : Int) + 1) % 7)).toArray⟩ := by decide +kernel
theorem cut_ba (l : List UInt8) (a b : Nat) : (⟨l.toArray⟩ : ByteArray).extract a b = ⟨((l.drop a).take (b - a)).toArray⟩ := by
  have h := cut_list ⟨l.toArray⟩ a b
  rw [ba_of ((⟨l.toArray⟩ : ByteArray).extract a b), h]

set_option maxRecDepth 20000 in
set_option maxHeartbeats 2000000 in
theorem dateNext_in (n : Int) (w : World) (n0 : 0 ≤ n) (n1 : n ≤ 253402214399) (htab : Lib.TabIs Tryd.prog w "internal/strconv.uint64pow10" .u64 Lib.pow10Tab) :
    Calls Tryd.prog 8 #[.int .i64 n] w fun e w' => e = .returned (.bool true) ∧ Below w.heap.size w w' := by
  have HT := hid' htab
  clear htab
  obtain ⟨y, m, d, ho⟩ := Dt.on_ex n n0 (by omega)
  obtain ⟨y', m', d', ho'⟩ := Dt.on_ex (n + 86400) (by omega) (by omega)
  obtain ⟨p1, p2, p3, p4⟩ := ho.parts
  obtain ⟨p1', p2', p3', p4'⟩ := ho'.parts
  obtain ⟨l, hl⟩ : ∃ l, Dt.line n y m d = l := ⟨_, rfl⟩
  obtain ⟨l', hl'⟩ : ∃ l', Dt.line (n + 86400) y' m' d' = l' := ⟨_, rfl⟩
  have HD : Hid (Dt.Dated n l) := hid' ⟨y, m, d, ho, hl.symm⟩
  have HD' : Hid (Dt.Dated (n + 86400) l') := hid' ⟨y', m', d', ho', hl'.symm⟩
  have ll := HD.out.len
  have ll' := HD'.out.len
  rw [hl] at p1 p2 p3 p4
  rw [hl'] at p1' p2' p3' p4'
  obtain ⟨s, hs⟩ : ∃ s : ByteArray, ⟨l.toArray⟩ = s := ⟨_, rfl⟩
  obtain ⟨t, ht⟩ : ∃ t : ByteArray, ⟨l'.toArray⟩ = t := ⟨_, rfl⟩
  obtain ⟨j, hj⟩ : ∃ j : Nat, (n / 86400 + 3) % 7 = (j : Int) := ⟨((n / 86400 + 3) % 7).toNat, by omega⟩
  have hj7 : j < 7 := by omega
  have ss : s.size = 29 := by rw [← hs, Lib.size_eq]; exact ll
  have st : t.size = 29 := by rw [← ht, Lib.size_eq]; exact ll'
  obtain ⟨a, ha⟩ : ∃ a, Dt.wk (j : Int) = a := ⟨_, rfl⟩
  obtain ⟨a', ha'⟩ : ∃ a', Dt.wk (((j : Int) + 1) % 7) = a' := ⟨_, rfl⟩
  obtain ⟨c, hc⟩ : ∃ c, Dt.clockText (n % 86400) ++ [32, 71, 77, 84] = c := ⟨_, rfl⟩
  obtain ⟨b, hb⟩ : ∃ b, Dt.dayText d m y = b := ⟨_, rfl⟩
  obtain ⟨b', hb'⟩ : ∃ b', Dt.dayText d' m' y' = b' := ⟨_, rfl⟩
  obtain ⟨f, hf⟩ : ∃ f, Dt.four y = f := ⟨_, rfl⟩
  obtain ⟨f', hf'⟩ : ∃ f', Dt.four y' = f' := ⟨_, rfl⟩
  have x1 : s.extract 0 3 = ⟨a.toArray⟩ := by rw [← hs, cut_ba, ← ha, ← hj, ← p1]; rfl
  have x1' : t.extract 0 3 = ⟨a'.toArray⟩ := by
    rw [← ht, cut_ba, ← ha', show ((j : Int) + 1) % 7 = ((n + 86400) / 86400 + 3) % 7 by omega, ← p1']; rfl
  have x2 : s.extract 17 29 = ⟨c.toArray⟩ := by rw [← hs, cut_ba, ← hc, ← p2, List.take_of_length_le (by simp [ll])]
  have x2' : t.extract 17 29 = ⟨c.toArray⟩ := by
    rw [← ht, cut_ba, ← hc, show n % 86400 = (n + 86400) % 86400 by omega, ← p2', List.take_of_length_le (by simp [ll'])]
  have x3 : s.extract 5 16 = ⟨b.toArray⟩ := by rw [← hs, cut_ba, ← hb, ← p3]
  have x3' : t.extract 5 16 = ⟨b'.toArray⟩ := by rw [← ht, cut_ba, ← hb', ← p3']
  have x4 : s.extract 12 16 = ⟨f.toArray⟩ := by rw [← hs, cut_ba, ← hf, ← p4]
  have x4' : t.extract 12 16 = ⟨f'.toArray⟩ := by rw [← ht, cut_ba, ← hf', ← p4']
  have hcc : (c == c) = true := by simp
  have hbb : (b == b') = false := by
    refine beq_eq_false_iff_ne.2 fun e => ?_
    have r1 := ho.rday
    have r2 := ho'.rday
    rw [hb] at r1
    rw [hb', ← e] at r2
    omega
  have HY : Hid (y ≤ y') := hid' (by
    rcases Int.lt_or_le y' y with h | h
    · have := Dt.dY_mono (y' + 1) y (by omega); have := ho.ylo; have := ho'.yhi; omega
    · exact h)
  have hle : binOp .leq 9 (.string ⟨f.toArray⟩) (.string ⟨f'.toArray⟩) = (pure (.bool true) : Sem Value) := leq_true _ _ _ (by rw [← hf, ← hf']; exact Dt.four_le y y' (by have := ho.y0; omega) HY.out ho'.y1)
  have HS := hid' hs
  have HTT := hid' ht
  have HO := hid' ho
  have HO' := hid' ho'
  have HA := hid' ha
  have HA' := hid' ha'
  clear p1 p2 p3 p4 p1' p2' p3' p4' hl hl' hc hb hb' hf hf' hs ht ho ho' ha ha' hj ll ll'
  go_enter Tryd.func8, Tryd.ntmps8
  go_wp2_with fail
  refine (format_any n l HD.out _ HT.out).mono ?_
  rintro e w1 ⟨rfl, hb1⟩
  have HB1 := hid' hb1
  clear hb1
  rw [HS.out]
  go_wp2_with fail
  refine (format_any (n + 86400) l' HD'.out _ (tab_below HT.out HB1.out)).mono ?_
  rintro e w2 ⟨rfl, hb2⟩
  have HB2 := hid' (below_two HB1.out hb2)
  clear hb2 HB1
  rw [HTT.out]
  go_wp2
  go_loopw [8, 9] (fun nv iv wr => ∃ i : Nat, i ≤ 7 ∧ iv = .int .i64 i ∧ nv = .bool (decide (j < i)) ∧ Below w.heap.size w wr) (fun _ iv _ => (7 - intOf iv).toNat)
  case atStart => exact ⟨0, by decide, rfl, rfl, HB2.out⟩
  case round =>
    obtain ⟨i, i7, rfl, rfl, hbw⟩ := hrel
    have HBW := hid' hbw
    clear hbw HB2
    by_cases hi : i < 7
    · have hw := week_cut ⟨i, hi⟩
      obtain ⟨hw1, hw2⟩ := hw
      obtain ⟨p, hp⟩ : ∃ p : Nat, i * 3 = p := ⟨_, rfl⟩
      obtain ⟨q, hq⟩ : ∃ q : Nat, i * 3 + 3 = q := ⟨_, rfl⟩
      obtain ⟨r, hr⟩ : ∃ r : Nat, i * 3 + 6 = r := ⟨_, rfl⟩
      obtain ⟨u, hu⟩ : ∃ u, Dt.wk (i : Int) = u := ⟨_, rfl⟩
      obtain ⟨v, hv⟩ : ∃ v, Dt.wk (((i : Int) + 1) % 7) = v := ⟨_, rfl⟩
      have z1 : (⟨#[77, 111, 110, 84, 117, 101, 87, 101, 100, 84, 104, 117, 70, 114, 105, 83, 97, 116, 83, 117, 110, 77, 111, 110]⟩ : ByteArray).extract p q = ⟨u.toArray⟩ := by rw [← hp, ← hq, ← hu]; exact hw1
      have z2 : (⟨#[77, 111, 110, 84, 117, 101, 87, 101, 100, 84, 104, 117, 70, 114, 105, 83, 97, 116, 83, 117, 110, 77, 111, 110]⟩ : ByteArray).extract q r = ⟨v.toArray⟩ := by rw [← hq, ← hr, ← hv]; exact hw2
      have w1 : IntKind.i64.wrap (3 * (i : Int)) = (p : Int) := by rw [wrap_id' _ (by omega) (by omega)]; omega
      have w2 : IntKind.i64.wrap ((p : Int) + 3) = (q : Int) := by rw [wrap_id' _ (by omega) (by omega)]; omega
      have w3 : IntKind.i64.wrap ((p : Int) + 6) = (r : Int) := by rw [wrap_id' _ (by omega) (by omega)]; omega
      have g1 : (0 : Int) ≤ (p : Int) := by omega
      have g2 : (p : Int) ≤ (q : Int) := by omega
      have g3 : (q : Int) ≤ (r : Int) := by omega
      have g4 : (r : Int) ≤ 24 := by omega
      have g5 : (q : Int) ≤ 24 := by omega
      have g6 : (0 : Int) ≤ (q : Int) := by omega
      have g7 : (0 : Int) ≤ (r : Int) := by omega
      have hS : Below w.heap.size w wr := HBW.out
      rcases Nat.lt_trichotomy i j with hij | hij | hij
      · have hua : (u == a) = false := beq_eq_false_iff_ne.2 fun e => Dt.wk_ne ⟨i, hi⟩ ⟨j, hj7⟩ (by simp; omega) (by rw [hu, HA.out]; exact e)
        have hn1 : decide (j < i) = false := decide_eq_false (by omega)
        have hn2 : decide (j < i + 1) = false := decide_eq_false (by omega)
        clear hp hq hr hu hv hw1 hw2
        rw [hn1]
        go_wp2
        go_quiet ((fail))
        go_wp2
        go_roundw
        case rel => exact ⟨i + 1, by omega, by go_num, by rw [hn2], below_two hS (below_drewN _ _)⟩
        case measure => simp [intOf]; omega
      · subst hij
        have hua : (u == a) = true := by rw [← hu, HA.out]; simp
        have hva : (v == a') = true := by rw [← hv, HA'.out]; simp
        have hn1 : decide (i < i) = false := decide_eq_false (by omega)
        have hn2 : decide (i < i + 1) = true := decide_eq_true (by omega)
        clear hp hq hr hu hv hw1 hw2
        rw [hn1]
        go_wp2
        go_quiet ((fail))
        go_wp2
        go_roundw
        case rel => exact ⟨i + 1, by omega, by go_num, by rw [hn2], below_two hS (below_drewN _ _)⟩
        case measure => simp [intOf]; omega
      · have hn1 : decide (j < i) = true := decide_eq_true (by omega)
        have hn2 : decide (j < i + 1) = true := decide_eq_true (by omega)
        clear hp hq hr hu hv hw1 hw2 z1 z2
        rw [hn1]
        go_wp2
        go_quiet ((fail))
        go_wp2
        go_roundw
        case rel => exact ⟨i + 1, by omega, by go_num, by rw [hn2], below_two hS (below_drewN _ _)⟩
        case measure => simp [intOf]; omega
    · obtain rfl : i = 7 := by omega
      have hn1 : decide (j < 7) = true := decide_eq_true (by omega)
      have hS : Below w.heap.size w wr := HBW.out
      rw [hn1]
      go_wp2
      go_region_held3 (fun W => Below w.heap.size w W) (first | assumption | exact below_two (by assumption) (by assumption) | exact Below.drew (by assumption))
        (first | (go_at_call 16; refine (awake2_any _ (tab_below HT.out (by assumption))).mono ?_; rintro e w3 ⟨rfl, hb3⟩))
      go_wp2
      go_ret
      exact ⟨rfl, by assumption⟩

set_option maxHeartbeats 400000 in
theorem dateNext_any (n : Int) (w : World) (_h0 : -9223372036854775808 ≤ n) (_h1 : n ≤ 9223372036854775807) (htab : Lib.TabIs Tryd.prog w "internal/strconv.uint64pow10" .u64 Lib.pow10Tab) :
    Calls Tryd.prog 8 #[.int .i64 n] w fun e w' => e = .returned (.bool true) ∧ Below w.heap.size w w' := by
  by_cases h : 0 ≤ n ∧ n ≤ 253402214399
  · exact dateNext_in n w h.1 h.2 htab
  · have ho : n < 0 ∨ 253402214399 < n := by omega
    have HT := hid' htab
    clear h htab
    rcases ho with h | h
    all_goals
      go_enter Tryd.func8, Tryd.ntmps8
      go_wp2_with fail
      refine (awake2_any _ HT.out).mono ?_
      rintro e w1 ⟨rfl, hb1⟩
      go_wp2
      go_ret
      exact ⟨rfl, hb1⟩

end Go.Proofs.YtgnbcoklmflpfaaDoor
