/-
  The law TextNumbers, by its contract: it returns true for every text.
-/
import Derived.Test.YtgnbcoklmflpfaaDoorAwake
import Derived.Test.YtgnbcoklmflpfaaDoorNumR
import Derived.Test.YtgnbcoklmflpfaaDoorNumT
namespace Go.Proofs.YtgnbcoklmflpfaaDoor
open Go.RowKit

set_option maxHeartbeats 400000 in
theorem rNumber_any (s : ByteArray) (w : World) (hs : s.size ≤ maxLen) :
    Calls Tryd.prog 10 #[.string s] w fun e w' => e = .returned (.tuple #[.int .i64 (Tx.num 10 s.data.toList).1, .int .i64 (Tx.num 10 s.data.toList).2]) ∧ Below w.heap.size w w' := by
  go_enter Tryd.func10, Tryd.ntmps10
  go_wp2_with fail
  refine (rnumber_10 s _ hs).mono ?_
  rintro e w1 ⟨rfl, hb1⟩
  go_wp2
  go_ret2
  exact ⟨rfl, hb1⟩

set_option maxHeartbeats 400000 in
theorem rHex_any (s : ByteArray) (w : World) (hs : s.size ≤ maxLen) :
    Calls Tryd.prog 12 #[.string s] w fun e w' => e = .returned (.tuple #[.int .i64 (Tx.num 16 s.data.toList).1, .int .i64 (Tx.num 16 s.data.toList).2]) ∧ Below w.heap.size w w' := by
  go_enter Tryd.func12, Tryd.ntmps12
  go_wp2_with fail
  refine (rnumber_16 s _ hs).mono ?_
  rintro e w1 ⟨rfl, hb1⟩
  go_wp2
  go_ret2
  exact ⟨rfl, hb1⟩

set_option maxHeartbeats 1000000 in
theorem textNumbers_any (s : ByteArray) (w : World) (hs : s.size ≤ maxLen) (htab : Lib.TabIs Tryd.prog w "internal/strconv.uint64pow10" .u64 Lib.pow10Tab) :
    Calls Tryd.prog 3 #[.string s] w fun e w' => e = .returned (.bool true) ∧ Below w.heap.size w w' := by
  have HT := hid htab
  have HS := hid hs
  clear htab hs
  obtain ⟨n, hn⟩ : ∃ n, (Tx.num 10 s.data.toList).1 = n := ⟨_, rfl⟩
  obtain ⟨e1, he1⟩ : ∃ e1, (Tx.num 10 s.data.toList).2 = e1 := ⟨_, rfl⟩
  obtain ⟨m, hm⟩ : ∃ m, (Tx.num 16 s.data.toList).1 = m := ⟨_, rfl⟩
  obtain ⟨e2, he2⟩ : ∃ e2, (Tx.num 16 s.data.toList).2 = e2 := ⟨_, rfl⟩
  have HN := hid hn
  have HE1 := hid he1
  have HM := hid hm
  have HE2 := hid he2
  clear hn he1 hm he2
  have q1 : (n == n) = true := by simp
  have q2 : (e1 == e1) = true := by simp
  have q3 : (m == m) = true := by simp
  have q4 : (e2 == e2) = true := by simp
  go_enter Tryd.func3, Tryd.ntmps3
  go_wp2_with fail
  refine (number_any s _ HS.out).mono ?_
  rintro e w1 ⟨rfl, rfl⟩
  rw [HN.out, HE1.out]
  go_wp2_with fail
  refine (rNumber_any s _ HS.out).mono ?_
  rintro e w2 ⟨rfl, hb2⟩
  have HB2 := hid hb2
  clear hb2
  rw [HN.out, HE1.out]
  go_wp2_with fail
  refine (hex_any s _ HS.out).mono ?_
  rintro e w3 ⟨rfl, rfl⟩
  rw [HM.out, HE2.out]
  go_wp2_with fail
  refine (rHex_any s _ HS.out).mono ?_
  rintro e w4 ⟨rfl, hb4⟩
  have HB4 := hid (below_two HB2.out hb4)
  clear hb4 HB2
  rw [HM.out, HE2.out]
  go_wp2_with fail
  refine (awake_any _ (tab_below HT.out HB4.out)).mono ?_
  rintro e w5 ⟨rfl, hb5⟩
  have HB5 := hid (below_two HB4.out hb5)
  clear hb5 HB4
  go_wp2
  go_ret
  exact ⟨rfl, HB5.out⟩

end Go.Proofs.YtgnbcoklmflpfaaDoor
