/-
  The law DateParses, by its contract: it returns true for every text.
-/
import Derived.Test.YtgnbcoklmflpfaaDoorDateAw
import Derived.Test.YtgnbcoklmflpfaaDoorDateH
namespace Go.Proofs.YtgnbcoklmflpfaaDoor
open Go.RowKit

set_option maxHeartbeats 1000000 in
theorem dateParses_any (s : ByteArray) (w : World) (_hs : s.size ≤ maxLen) (htab : Lib.TabIs Tryd.prog w "internal/strconv.uint64pow10" .u64 Lib.pow10Tab) :
    Calls Tryd.prog 5 #[.string s] w fun e w' => e = .returned (.bool true) ∧ Below w.heap.size w w' := by
  have HT := hid' htab
  clear htab
  by_cases h : ∃ n, Dt.Dated n s.data.toList
  · obtain ⟨n, hn⟩ := h
    obtain ⟨l, hl⟩ : ∃ l, s.data.toList = l := ⟨_, rfl⟩
    obtain rfl : s = ⟨l.toArray⟩ := by rw [← hl]
    have HN : Hid (Dt.Dated n l) := hid' (by rw [← hl]; exact hn)
    have hq : (n == n) = true := by simp
    clear hn hl _hs
    go_enter Tryd.func5, Tryd.ntmps5
    go_wp2_with fail
    refine (parse_yes n l HN.out _ HT.out).mono ?_
    rintro e w1 ⟨rfl, hb1⟩
    have HB1 := hid' hb1
    clear hb1
    go_wp2_with fail
    refine (rparse_yes n l HN.out _).mono ?_
    rintro e w2 ⟨rfl, hb2⟩
    have HB2 := hid' (below_two HB1.out hb2)
    clear hb2 HB1
    go_wp2_with fail
    refine (awake2_any _ (tab_below HT.out HB2.out)).mono ?_
    rintro e w3 ⟨rfl, hb3⟩
    have HB3 := hid' (below_two HB2.out hb3)
    clear hb3 HB2
    go_wp2
    go_ret
    exact ⟨rfl, HB3.out⟩
  · have HN : Hid (∀ n, ¬ Dt.Dated n s.data.toList) := hid' fun n hn => h ⟨n, hn⟩
    clear h
    go_enter Tryd.func5, Tryd.ntmps5
    go_wp2_with fail
    refine (parse_no s HN.out _ HT.out).mono ?_
    rintro e w1 ⟨rfl, hb1⟩
    have HB1 := hid' hb1
    clear hb1
    go_wp2_with fail
    refine (rparse_no s HN.out _).mono ?_
    rintro e w2 ⟨rfl, hb2⟩
    have HB2 := hid' (below_two HB1.out hb2)
    clear hb2 HB1
    go_wp2_with fail
    refine (awake2_any _ (tab_below HT.out HB2.out)).mono ?_
    rintro e w3 ⟨rfl, hb3⟩
    have HB3 := hid' (below_two HB2.out hb3)
    clear hb3 HB2
    go_wp2
    go_ret
    exact ⟨rfl, HB3.out⟩

end Go.Proofs.YtgnbcoklmflpfaaDoor
