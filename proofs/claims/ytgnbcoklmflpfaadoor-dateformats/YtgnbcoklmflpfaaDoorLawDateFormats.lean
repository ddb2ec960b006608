/-
  The law DateFormats, by its contract: it returns true for every number.
-/
import Derived.Test.YtgnbcoklmflpfaaDoorDateAw
import Derived.Test.YtgnbcoklmflpfaaDoorDateF
namespace Go.Proofs.YtgnbcoklmflpfaaDoor
open Go.RowKit

set_option maxHeartbeats 1000000 in
theorem dateFormats_any (n : Int) (w : World) (_h0 : -9223372036854775808 ≤ n) (_h1 : n ≤ 9223372036854775807) (htab : Lib.TabIs Tryd.prog w "internal/strconv.uint64pow10" .u64 Lib.pow10Tab) :
    Calls Tryd.prog 4 #[.int .i64 n] w fun e w' => e = .returned (.bool true) ∧ Below w.heap.size w w' := by
  have HT := hid' htab
  clear htab
  by_cases h : 0 ≤ n ∧ n ≤ 253402300799
  · obtain ⟨a0, a1⟩ := h
    obtain ⟨l, hl⟩ := Dt.dated_ex n a0 a1
    have HN := hid' hl
    have hll : (l == l) = true := by simp
    clear hl
    go_enter Tryd.func4, Tryd.ntmps4
    go_wp2_with fail
    refine (format_any n l HN.out _ HT.out).mono ?_
    rintro e w1 ⟨rfl, hb1⟩
    have HB1 := hid' hb1
    clear hb1
    go_wp2_with fail
    refine (rformat_any n l HN.out _).mono ?_
    rintro e w2 ⟨rfl, hb2⟩
    have HB2 := hid' (below_two HB1.out hb2)
    clear hb2 HB1
    go_wp2_with fail
    refine (awake2_any _ (tab_below HT.out HB2.out)).mono ?_
    rintro e w3 ⟨rfl, hb3⟩
    have HB3 := hid' (below_two HB2.out hb3)
    clear hb3 HB2
    go_wp2
    go_ret
    exact ⟨rfl, HB3.out⟩
  · have ho : n < 0 ∨ 253402300799 < n := by omega
    clear h
    go_enter Tryd.func4, Tryd.ntmps4
    go_wp2_with fail
    refine (format_none n ho _).mono ?_
    rintro e w1 ⟨rfl, rfl⟩
    go_wp2_with fail
    refine (rformat_none n ho _).mono ?_
    rintro e w2 ⟨rfl, rfl⟩
    go_wp2_with fail
    refine (awake2_any _ HT.out).mono ?_
    rintro e w3 ⟨rfl, hb3⟩
    have HB3 := hid' hb3
    clear hb3
    go_wp2
    go_ret
    exact ⟨rfl, HB3.out⟩

end Go.Proofs.YtgnbcoklmflpfaaDoor
