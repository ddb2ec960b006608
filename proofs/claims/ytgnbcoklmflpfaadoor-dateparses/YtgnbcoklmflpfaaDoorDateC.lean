/-
  Package date: what Format writes, by its contract.
-/
import Derived.Test.YtgnbcoklmflpfaaDoorDateB
namespace Go.Proofs.YtgnbcoklmflpfaaDoor
open Go.RowKit

theorem cat4 (a b c : List UInt8) : (((((⟨a.toArray⟩ : ByteArray) ++ ⟨#[58]⟩) ++ ⟨b.toArray⟩) ++ ⟨#[58]⟩) ++ ⟨c.toArray⟩) = ⟨(a ++ [58] ++ b ++ [58] ++ c).toArray⟩ := by
  apply ByteArray.ext; simp
theorem cat7 (a b c d : List UInt8) : (((((((⟨a.toArray⟩ : ByteArray) ++ ⟨#[44, 32]⟩) ++ ⟨b.toArray⟩) ++ ⟨#[32]⟩) ++ ⟨c.toArray⟩) ++ ⟨#[32]⟩) ++ ⟨d.toArray⟩) = ⟨(a ++ [44, 32] ++ (b ++ [32] ++ c ++ [32] ++ d)).toArray⟩ := by
  apply ByteArray.ext; simp
theorem cat_gmt (a b : List UInt8) : ((((⟨a.toArray⟩ : ByteArray) ++ ⟨#[32]⟩) ++ ⟨b.toArray⟩) ++ ⟨#[32, 71, 77, 84]⟩) = ⟨(a ++ [32] ++ b ++ [32, 71, 77, 84]).toArray⟩ := by
  apply ByteArray.ext; simp

set_option maxHeartbeats 1000000 in
theorem writeClock_any (r : Int) (h0 : 0 ≤ r) (h1 : r < 86400) (w : World) (htab : Lib.TabIs Tryd.prog w "internal/strconv.uint64pow10" .u64 Lib.pow10Tab) :
    Calls Tryd.prog 30 #[.int .i64 r] w fun e w' => e = .returned (.string ⟨(Dt.clockText r).toArray⟩) ∧ Below w.heap.size w w' := by
  have HT := hid' htab
  have l1 := Dt.two_len (r / 3600)
  have l2 := Dt.two_len (r / 60 % 60)
  have l3 := Dt.two_len (r % 60)
  clear htab
  go_enter Tryd.func30, Tryd.ntmps30
  go_wp2_with fail
  refine (twoDigits_any (r / 3600) (by omega) (by omega) _ HT.out).mono ?_
  rintro e w1 ⟨rfl, hb1⟩
  have HB1 := hid' hb1
  clear hb1
  go_wp2_with fail
  refine (twoDigits_any (r / 60 % 60) (by omega) (by omega) _ (tab_below HT.out HB1.out)).mono ?_
  rintro e w2 ⟨rfl, hb2⟩
  have HB2 := hid' (below_two HB1.out hb2)
  clear hb2 HB1
  go_wp2_with fail
  refine (twoDigits_any (r % 60) (by omega) (by omega) _ (tab_below HT.out HB2.out)).mono ?_
  rintro e w3 ⟨rfl, hb3⟩
  have HB3 := hid' (below_two HB2.out hb3)
  clear hb3 HB2
  go_wp2
  go_ret
  exact ⟨ret_str (cat4 _ _ _), HB3.out⟩

set_option maxHeartbeats 1000000 in
theorem writeDay_any (n y m d : Int) (h : Dt.On n y m d) (w : World) (htab : Lib.TabIs Tryd.prog w "internal/strconv.uint64pow10" .u64 Lib.pow10Tab) :
    Calls Tryd.prog 29 #[.int .i64 (n / 86400)] w fun e w' => e = .returned (.string ⟨(Dt.wk ((n / 86400 + 3) % 7) ++ [44, 32] ++ Dt.dayText d m y).toArray⟩) ∧ Below w.heap.size w w' := by
  have HT := hid' htab
  have H := hid' h
  obtain ⟨d0, d1⟩ := h.d_bd
  have n0 := h.n0
  have n1 := h.n1
  have y0 := h.y0
  have y1 := h.y1
  have m0 := h.m0
  have m1 := h.m1
  have hde := hid' h.deq
  obtain ⟨yb0, yb1⟩ := Dt.dY_bd y (by omega) (by omega)
  obtain ⟨mb0, mb1⟩ := Dt.dM_bd m y (by omega) (by omega)
  have hd1 : n / 86400 - Dt.dY y - Dt.dM m y + 1 = d := h.deq.symm
  have l1 := Dt.wk_len ((n / 86400 + 3) % 7) (by omega) (by omega)
  have l2 := Dt.two_len d
  have l3 := Dt.mon_len m m0 (by omega)
  have l4 : (Lib.itoa y).length = 4 := by rw [Dt.itoa_four y (by omega) (by omega)]; rfl
  have HI := hid' (Dt.itoa_four y (by omega) (by omega))
  obtain ⟨q, hq⟩ : ∃ q, n / 86400 = q := ⟨_, rfl⟩
  have q0 : 0 ≤ q := by omega
  have q1 : q ≤ 2932896 := by omega
  have HQ := hid' hq
  rw [hq] at hd1 l1 ⊢
  clear htab h n0 n1 hq
  go_enter Tryd.func29, Tryd.ntmps29
  go_wp2_with fail
  refine (yearOf_any q y q0 q1 y1 (by rw [← HQ.out]; exact H.out.ylo) (by rw [← HQ.out]; exact H.out.yhi) _).mono ?_
  rintro e w1 ⟨rfl, rfl⟩
  go_wp2_with fail
  refine (aheadYear_pos y (by omega) (by omega) _).mono ?_
  rintro e w1 ⟨rfl, rfl⟩
  go_wp2_with fail
  refine (monthOf_any (q - Dt.dY y) y m (by omega) m0 m1 (by rw [← HQ.out]; exact H.out.mlo) (by rw [← HQ.out]; exact H.out.mhi) _).mono ?_
  rintro e w2 ⟨rfl, hb2⟩
  have HB2 := hid' hb2
  clear hb2
  go_wp2_with fail
  refine (aheadMonth_any m y m0 m1 (by omega) _).mono ?_
  rintro e w3 ⟨rfl, hb3⟩
  have HB3 := hid' (below_two HB2.out hb3)
  clear hb3 HB2
  go_wp2_with fail
  refine (name_wk ((q + 3) % 7) (by omega) (by omega) _).mono ?_
  rintro e w4 ⟨rfl, rfl⟩
  go_wp2_with fail
  refine (twoDigits_any d (by omega) (by omega) _ (tab_below HT.out HB3.out)).mono ?_
  rintro e w5 ⟨rfl, hb5⟩
  have HB5 := hid' (below_two HB3.out hb5)
  clear hb5 HB3
  go_wp2_with fail
  refine (name_mon m m0 (by omega) _).mono ?_
  rintro e w6 ⟨rfl, rfl⟩
  go_wp2_with fail
  refine (decimal_any y (by omega) (by omega) _ (tab_below HT.out HB5.out)).mono ?_
  rintro e w7 ⟨rfl, hb7⟩
  have HB7 := hid' (below_two HB5.out hb7)
  clear hb7 HB5
  go_wp2
  go_ret
  exact ⟨ret_str ((cat7 _ _ _ _).trans (by rw [HI.out]; rfl)), HB7.out⟩

theorem ret_se {a b : ByteArray} {k : IntKind} {n : Int} (h : a = b) : Ending.returned (.tuple #[.string a, .int k n]) = .returned (.tuple #[.string b, .int k n]) := by rw [h]

set_option maxHeartbeats 1000000 in
theorem format_any (n : Int) (l : List UInt8) (h : Dt.Dated n l) (w : World) (htab : Lib.TabIs Tryd.prog w "internal/strconv.uint64pow10" .u64 Lib.pow10Tab) :
    Calls Tryd.prog 14 #[.int .i64 n] w fun e w' => e = .returned (.tuple #[.string ⟨l.toArray⟩, .int .i64 0]) ∧ Below w.heap.size w w' := by
  have HT := hid' htab
  obtain ⟨y, m, d, ho, hl⟩ := h
  have HL := hid' hl
  have H := hid' ho
  have n0 := ho.n0
  have n1 := ho.n1
  have l1 := Dt.wk_len ((n / 86400 + 3) % 7) (by omega) (by omega)
  have l3 := Dt.mon_len m ho.m0 (by have := ho.m1; omega)
  obtain ⟨a, ha⟩ : ∃ a, Dt.wk ((n / 86400 + 3) % 7) ++ [44, 32] ++ Dt.dayText d m y = a := ⟨_, rfl⟩
  have la : a.length = 16 := by rw [← ha]; simp [Dt.dayText, l1, l3, Dt.two_len, Dt.four_len]
  obtain ⟨b, hb⟩ : ∃ b, Dt.clockText (n % 86400) = b := ⟨_, rfl⟩
  have lb : b.length = 8 := by rw [← hb]; rfl
  have hA := hid' ha
  have hB := hid' hb
  clear htab ho hl l1 l3 ha hb
  go_enter Tryd.func14, Tryd.ntmps14
  go_wp2_with fail
  refine (writeDay_any n y m d H.out _ HT.out).mono ?_
  rintro e w1 ⟨rfl, hb1⟩
  have HB1 := hid' hb1
  clear hb1
  rw [hA.out]
  go_wp2_with fail
  refine (writeClock_any (n % 86400) (by omega) (by omega) _ (tab_below HT.out HB1.out)).mono ?_
  rintro e w2 ⟨rfl, hb2⟩
  have HB2 := hid' (below_two HB1.out hb2)
  clear hb2 HB1
  rw [hB.out]
  go_wp2
  go_ret2
  exact ⟨ret_se ((cat_gmt _ _).trans (by rw [HL.out, ← hA.out, ← hB.out]; rfl)), HB2.out⟩

set_option maxHeartbeats 400000 in
theorem format_none (n : Int) (h : n < 0 ∨ 253402300799 < n) (w : World) :
    Calls Tryd.prog 14 #[.int .i64 n] w fun e w' => e = .returned (.tuple #[.string ⟨#[]⟩, .int .i64 5]) ∧ w' = w := by
  go_enter Tryd.func14, Tryd.ntmps14
  rcases h with h | h
  · go_wp2
    go_ret2
    exact ⟨rfl, rfl⟩
  · go_wp2
    go_ret2
    exact ⟨rfl, rfl⟩

end Go.Proofs.YtgnbcoklmflpfaaDoor
