/-
  The law PrimIntBack, by its contract.
-/
import Derived.Test.YthldbhpkkcoafaaPrimW
namespace Go.Proofs.Ythldbhpkkcoafaa
open Go.RowKit

/-- The number's block. -/
def NumAt (w : World) (k : Nat) (h b n : Int) : Prop := Ar w k 35 #[.int .u8 h, .int .i64 b, .int .i64 n]
theorem NumAt.cells {w : World} {k : Nat} {h b n : Int} (a : NumAt w k h b n) : w.cell? ⟨k, 0, none⟩ = some (.int .u8 h) ∧ w.cell? ⟨k, 1, none⟩ = some (.int .i64 b) ∧ w.cell? ⟨k, 2, none⟩ = some (.int .i64 n) :=
  ⟨Ar.cell a 0 _ rfl, Ar.cell a 1 _ rfl, Ar.cell a 2 _ rfl⟩

set_option maxHeartbeats 1000000 in
set_option maxRecDepth 20000 in
theorem primIntBack_any (h b n : Int) (s : ByteArray) (cut : Int) (w : World) (h0 : 0 ≤ h) (h1 : h ≤ 255) (hs : s.size ≤ 140737488355328) :
    Calls Try.prog 7 #[.agg #[.int .u8 h, .int .i64 b, .int .i64 n], .string s, .int .i64 cut] w fun e w' => e = .returned (.bool true) ∧ Below w.heap.size w w' := by
  obtain ⟨hN, rfl⟩ : ∃ hN : Nat, h = (hN : Int) := ⟨h.toNat, by omega⟩
  have hh : hN < 256 := by omega
  by_cases hok : 1 ≤ b ∧ b ≤ 8 ∧ 0 ≤ n ∧ n ≤ 2147483647 ∧ hN % 2 ^ b.toNat = 0
  · obtain ⟨bN, rfl⟩ : ∃ bN : Nat, b = (bN : Int) := ⟨b.toNat, by omega⟩
    obtain ⟨nN, rfl⟩ : ∃ nN : Nat, n = (nN : Int) := ⟨n.toNat, by omega⟩
    rw [Int.toNat_natCast] at hok
    obtain ⟨k1, k2, k3, k4, hm⟩ := hok
    have b1 : 1 ≤ bN := by omega
    have b8 : bN ≤ 8 := by omega
    have n31 : nN ≤ 2147483647 := by omega
    obtain ⟨l, hl⟩ : ∃ l, s.data.toList = l := ⟨_, rfl⟩
    obtain rfl : s = ⟨l.toArray⟩ := by rw [← hl]
    clear hl
    rw [size_l] at hs
    obtain ⟨a, ha⟩ : ∃ a, Pm.num hN bN nN = a := ⟨_, rfl⟩
    have HA := hid' ha
    have HM := hid' hm
    have hal := Pm.num_length hN bN nN n31
    rw [ha] at hal
    obtain ⟨al1, al6⟩ := hal
    have hcat : (⟨a.toArray⟩ : ByteArray) ++ ⟨l.toArray⟩ = ⟨(a ++ l).toArray⟩ := Pm.str_cat a l
    have HR : Hid (Pm.rd bN (a ++ l) = .ok nN a.length) := hid' (by rw [← ha]; exact Pm.back hN bN nN l b1 b8 hh hm n31)
    obtain ⟨c, hc⟩ : ∃ c : Nat, min (max cut 0) ((a.length : Int) - 1) = (c : Int) := ⟨(min (max cut 0) ((a.length : Int) - 1)).toNat, by omega⟩
    have hca : c < a.length := by omega
    have hca2 : (c : Int) ≤ (a.length : Int) := by omega
    obtain ⟨t, ht⟩ : ∃ t, a.take c = t := ⟨_, rfl⟩
    have hcut : (⟨a.toArray⟩ : ByteArray).extract 0 c = ⟨t.toArray⟩ := by rw [Pm.cut_ends, ht]
    have HT : Hid (Pm.rd bN t = .short) := hid' (by
      have := Pm.torn hN bN nN c b1 b8 hh hm n31 (by rw [ha]; exact hca)
      rw [ha, ht] at this; exact this)
    have al1' : (1 : Int) ≤ (a.length : Int) := by omega
    have al6' : (a.length : Int) ≤ 6 := by omega
    clear ha hm ht
    go_enter Try.func7, Try.ntmps7
    go_wp2_with fail
    refine (int_at hN bN nN a HA.out hh b1 b8 HM.out n31 _).mono ?_
    rintro e w1 ⟨rfl, hb1⟩
    have HN1 : Hid (NumAt w1 w.heap.size (hN : Int) (bN : Int) (nN : Int)) := hid' (Ar.keep (w := w.alloc (.cells #[.int .u8 (hN : Int), .int .i64 (bN : Int), .int .i64 (nN : Int)] 35)) (heap_alloc_last w _) hb1)
    have HB1 : Hid (Below w.heap.size w w1) := hid' (below_two ((Below.refl _ _).alloc (Nat.le_refl _) _) hb1)
    clear hb1
    obtain ⟨c0, c1, c2⟩ := HN1.out.cells
    go_wp2_with fail
    refine (readInt_ok (a ++ l) bN nN a.length b1 b8 HR.out _).mono ?_
    rintro e w2 ⟨rfl, hb2⟩
    have HN2 := hid' (Ar.keep HN1.out hb2)
    have HB2 := hid' (below_two HB1.out hb2)
    clear hb2 HB1 c0 c1 c2
    obtain ⟨c0, c1, c2⟩ := NumAt.cells HN2.out
    go_wp2
    go_quiet ((go_at_call 12; exact Calls.quiet_of (readInt_short_q t bN b1 b8 HT.out _)))
    have HB3 := hid' (below_two HB2.out (below_drewN _ nq))
    clear HB2
    go_wp2_with fail
    refine (awake_any _).mono ?_
    rintro e w4 ⟨rfl, hb4⟩
    have HB4 := hid' (below_two HB3.out hb4)
    clear hb4 HB3
    go_wp2
    go_ret
    exact ⟨rfl, HB4.out⟩
  · have HOK := hid' hok
    clear hok
    go_enter Try.func7, Try.ntmps7
    go_wp2_with fail
    refine (int_arg hN b n hh HOK.out _).mono ?_
    rintro e w1 ⟨rfl, rfl⟩
    go_wp2_with fail
    refine (awake_any _).mono ?_
    rintro e w2 ⟨rfl, hb2⟩
    have HB2 := hid' (below_two (w1 := w.alloc (.cells #[.int .u8 (hN : Int), .int .i64 b, .int .i64 n] 35)) ((Below.refl _ _).alloc (Nat.le_refl _) _) hb2)
    clear hb2
    go_wp2
    go_ret
    exact ⟨rfl, HB2.out⟩

end Go.Proofs.Ythldbhpkkcoafaa
