/-
  The law DateBack, by its contract: it returns true for every number.
-/
import Derived.Test.YtgnbcoklmflpfaaDoorDateAw
namespace Go.Proofs.YtgnbcoklmflpfaaDoor
open Go.RowKit

theorem dated_nil (n : Int) : ¬ Dt.Dated n [] := fun h => absurd h.len (by decide)

set_option maxHeartbeats 1000000 in
theorem dateBack_any (n : Int) (w : World) (_h0 : -9223372036854775808 ≤ n) (_h1 : n ≤ 9223372036854775807) (htab : Lib.TabIs Tryd.prog w "internal/strconv.uint64pow10" .u64 Lib.pow10Tab) :
    Calls Tryd.prog 6 #[.int .i64 n] w fun e w' => e = .returned (.bool true) ∧ Below w.heap.size w w' := by
  have HT := hid' htab
  clear htab
  by_cases h : 0 ≤ n ∧ n ≤ 253402300799
  · obtain ⟨a0, a1⟩ := h
    obtain ⟨l, hl⟩ := Dt.dated_ex n a0 a1
    have ll := hl.len
    have HN := hid' hl
    have hnn : (n == n) = true := by simp
    clear hl
    go_enter Tryd.func6, Tryd.ntmps6
    go_wp2_with fail
    refine (format_any n l HN.out _ HT.out).mono ?_
    rintro e w1 ⟨rfl, hb1⟩
    have HB1 := hid' hb1
    clear hb1
    go_wp2_with fail
    refine (parse_yes n l HN.out _ (tab_below HT.out HB1.out)).mono ?_
    rintro e w2 ⟨rfl, hb2⟩
    have HB2 := hid' (below_two HB1.out hb2)
    clear hb2 HB1
    go_wp2_with fail
    refine (awake2_any _ (tab_below HT.out HB2.out)).mono ?_
    rintro e w3 ⟨rfl, hb3⟩
    have HB3 := hid' (below_two HB2.out hb3)
    clear hb3 HB2
    go_wp2
    go_ret
    exact ⟨rfl, HB3.out⟩
  · have ho : n < 0 ∨ 253402300799 < n := by omega
    clear h
    rcases ho with h | h
    all_goals
      go_enter Tryd.func6, Tryd.ntmps6
      go_wp2_with fail
      refine (format_none n (by omega) _).mono ?_
      rintro e w1 ⟨rfl, rfl⟩
      go_wp2_with fail
      refine (parse_no ⟨#[]⟩ dated_nil _ HT.out).mono ?_
      rintro e w2 ⟨rfl, hb2⟩
      have HB2 := hid' hb2
      clear hb2
      go_wp2_with fail
      refine (awake2_any _ (tab_below HT.out HB2.out)).mono ?_
      rintro e w3 ⟨rfl, hb3⟩
      have HB3 := hid' (below_two HB2.out hb3)
      clear hb3 HB2
      go_wp2
      go_ret
      exact ⟨rfl, HB3.out⟩

end Go.Proofs.YtgnbcoklmflpfaaDoor
