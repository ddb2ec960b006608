/-
  The law TextLists, by its contract: it returns true for every text that is not too long for the slices of its members.
-/
import Derived.Test.YtpngddfehaonhaaDoorAwake
import Derived.Test.YtpngddfehaonhaaDoorListR
namespace Go.Proofs.YtpngddfehaonhaaDoor
open Go.RowKit

theorem strs_below {w w' : World} {v : Value} {l : List (List UInt8)} (h : Strs w v l) (hb : Below w.heap.size w w') : Strs w' v l := by
  obtain ⟨a, cap, rfl, hc⟩ := h
  refine ⟨a, cap, rfl, fun j hj => ?_⟩
  obtain ⟨b, o, e, h'⟩ := hc j hj
  exact ⟨b, o, e, (hb.cell (World.block_lt_of_cell? w _ h')).trans h'⟩
theorem mems_le (r : List UInt8) : ∀ (cur : List UInt8) (q e : Bool), (Tx.mems cur q e r).length ≤ r.length + 1 := by
  have ha : ∀ p : List UInt8, (Tx.addm p).length ≤ 1 := fun p => by unfold Tx.addm; split <;> simp
  induction r with
  | nil => intro cur q e; exact ha cur
  | cons c r ih =>
    intro cur q e
    rw [Tx.mems, List.length_cons]
    repeat' split
    · have := ih (cur ++ [c]) q false; omega
    · have := ih (cur ++ [c]) (!q) false; omega
    · have := ih (cur ++ [c]) q true; omega
    · have h1 := ih [] q false
      have h2 := ha cur
      rw [List.length_append]; omega
    · have := ih (cur ++ [c]) q false; omega
theorem list_le (l : List UInt8) : (Tx.list l).length ≤ l.length + 1 := mems_le l [] false false

set_option maxHeartbeats 1000000 in
theorem textLists_any (s : ByteArray) (w : World) (hs : s.size + 2 ≤ 8796093022208) (htab : Lib.TabIs Tryd.prog w "internal/strconv.uint64pow10" .u64 Lib.pow10Tab) :
    Calls Tryd.prog 7 #[.string s] w fun e w' => e = .returned (.bool true) ∧ Below w.heap.size w w' := by
  have HT := hid htab
  clear htab
  have hlen : (Tx.list s.data.toList).length ≤ maxLen := by have := list_le s.data.toList; rw [← Lib.size_eq] at this; unfold maxLen; omega
  go_enter Tryd.func7, Tryd.ntmps7
  go_wp2_with fail
  refine (awake_any _ HT.out).mono ?_
  rintro e w1 ⟨rfl, hb1⟩
  have HB1 := hid hb1
  clear hb1
  go_wp2_with fail
  refine (list_any s _ hs).mono ?_
  rintro e w2 ⟨v, rfl, hown2, hb2⟩
  have HV2 := hid (strs_own hown2)
  have HB2 := hid (below_two HB1.out hb2)
  clear hown2 hb2 HB1
  go_wp2_with fail
  refine (rList_any s _ hs).mono ?_
  rintro e w3 ⟨v', rfl, hown3, hb3⟩
  have HV3 := hid (strs_own hown3)
  have HB3 := hid (below_two HB2.out hb3)
  have HV2' := hid (strs_below HV2.out hb3)
  clear hown3 hb3 HB2 HV2
  go_wp2_with fail
  refine (sameTexts_any v v' _ _ _ HV2'.out HV3.out hlen hlen).mono ?_
  rintro e w4 ⟨rfl, n4, hw4⟩
  have HB4 : Hid (Below w.heap.size w w4) := hid (by rw [hw4]; exact below_two HB3.out (below_drewN _ _))
  clear hw4
  have heq : (Tx.list s.data.toList == Tx.list s.data.toList) = true := by simp
  go_wp2
  go_ret
  exact ⟨rfl, HB4.out⟩

end Go.Proofs.YtpngddfehaonhaaDoor
