/-
  List, by its contract.
-/
import Derived.Test.YtdbldompjhienaaDoorLsts
namespace Go.Proofs.YtdbldompjhienaaDoor
open Go.RowKit

theorem ext_size (s : ByteArray) (a b : Nat) : (s.extract a b).size ≤ s.size := by simp; omega
theorem u8_eq {c : UInt8} {n : Nat} (h : ((c.toNat : Int) == (n : Int)) = true) (hn : n < 256) : c = UInt8.ofNat n := by
  rw [beq_iff_eq] at h
  apply UInt8.toNat_inj.1
  rw [UInt8.toNat_ofNat', Nat.mod_eq_of_lt hn]; omega
theorem u8_ne {c : UInt8} {n : Nat} (h : ((c.toNat : Int) == (n : Int)) = false) (hn : n < 256) : c ≠ UInt8.ofNat n := by
  rw [beq_eq_false_iff_ne] at h
  intro e; apply h; rw [e, UInt8.toNat_ofNat', Nat.mod_eq_of_lt hn]

set_option maxHeartbeats 2000000 in
theorem list_any (s : ByteArray) (w : World) (hs : s.size + 2 ≤ 8796093022208) :
    Calls Tryd.prog 24 #[.string s] w fun e w' => ∃ v, e = .returned v ∧ w'.ownsRow w.heap.size 9 1 v (Tx.list s.data.toList).length (strCells (Tx.list s.data.toList)) ∧ Below w.heap.size w w' := by
  go_enter Tryd.func24, Tryd.ntmps24
  go_wp2
  go_loopw [3, 4, 5, 6] (fun m st q i wr => ∃ (k sn : Nat) (qv : Bool) (ms : List (List UInt8)), k ≤ s.size + 1 ∧ i = .int .i64 k ∧ st = .int .i64 sn ∧ q = .bool qv ∧ wr.ownsRow w.heap.size 9 1 m ms.length (strCells ms) ∧ Below w.heap.size w wr ∧ Tx.ListRel s.data.toList ms sn k qv) (fun _ _ _ i _ => s.size + 1 - (intOf i).toNat)
  case atStart => exact ⟨0, 0, false, [], Nat.zero_le _, rfl, rfl, rfl, World.ownsRow_nil _ _ _ _, Below.refl _ _, Tx.ListRel.start _⟩
  case round =>
    obtain ⟨k, sn, qv, ms, hk, rfl, rfl, rfl, hown, hbel, hlr⟩ := hrel
    have hsk := hlr.stk
    have hle : sn ≤ s.size := by have := hlr.le; rw [← Lib.size_eq] at this; exact this
    have hmany := hlr.many
    have hsz := hbel.size
    have HL := hid hlr
    have HB := hid hbel
    clear hlr hbel
    by_cases hlt : k < s.size
    · have hl : k < s.data.toList.length := by rw [← Lib.size_eq]; exact hlt
      have HC : Hid (s.data.toList[k] = s[k]) := hid rfl
      by_cases c34 : ((s[k].toNat : Int) == 34) = true
      · have HN : Hid (Tx.ListRel s.data.toList ms sn (k + 1) (!qv)) := HL.out.quote hl (by rw [HC.out]; exact u8_eq c34 (by decide))
        go_wp2
        go_roundw
        case rel => exact ⟨k + 1, sn, !qv, ms, by omega, by go_num, rfl, rfl, hown, HB.out, HN.out⟩
        case measure => simp [intOf]; omega
      · replace c34 : ((s[k].toNat : Int) == 34) = false := by simpa using c34
        cases qv
        · by_cases c44 : ((s[k].toNat : Int) == 44) = true
          · have HN : Hid (Tx.ListRel s.data.toList (ms ++ Tx.addm (s.extract sn k).data.toList) (k + 1) (k + 1) false) := by
              rw [Lib.extract_data]
              exact HL.out.comma hl (by rw [HC.out]; exact u8_eq c44 (by decide))
            have hes := ext_size s sn k
            have hesm : (s.extract sn k).size ≤ maxLen := by unfold maxLen; omega
            go_wp2_with (go_at_call 35; refine (addMember_any w.heap.size _ ms (s.extract sn k) _ hesm hown hsz (by omega)).mono ?_; rintro e w1 ⟨v', rfl, hown', hb'⟩)
            go_roundw
            case rel => exact ⟨k + 1, k + 1, false, _, by omega, by go_num, by go_num, rfl, hown', HB.out.trans hb', HN.out⟩
            case measure => simp [intOf]; omega
          · replace c44 : ((s[k].toNat : Int) == 44) = false := by simpa using c44
            have HN : Hid (Tx.ListRel s.data.toList ms sn (k + 1) false) := HL.out.plain hl (by rw [HC.out]; exact u8_ne c34 (by decide)) rfl (by rw [HC.out]; simpa using u8_ne c44 (by decide))
            go_wp2
            go_roundw
            case rel => exact ⟨k + 1, sn, false, ms, by omega, by go_num, rfl, rfl, hown, HB.out, HN.out⟩
            case measure => simp [intOf]; omega
        · by_cases c92 : ((s[k].toNat : Int) == 92) = true
          · have HN : Hid (Tx.ListRel s.data.toList ms sn (k + 2) true) := HL.out.slash hl (by rw [HC.out]; exact u8_eq c92 (by decide))
            go_wp2
            go_roundw
            case rel => exact ⟨k + 2, sn, true, ms, by omega, by go_num, rfl, rfl, hown, HB.out, HN.out⟩
            case measure => simp [intOf]; omega
          · replace c92 : ((s[k].toNat : Int) == 92) = false := by simpa using c92
            have HN : Hid (Tx.ListRel s.data.toList ms sn (k + 1) true) := HL.out.plain hl (by rw [HC.out]; exact u8_ne c34 (by decide)) (by rw [HC.out]; simpa using u8_ne c92 (by decide)) rfl
            go_wp2
            go_roundw
            case rel => exact ⟨k + 1, sn, true, ms, by omega, by go_num, rfl, rfl, hown, HB.out, HN.out⟩
            case measure => simp [intOf]; omega
    · have HN : Hid (Tx.list s.data.toList = ms ++ Tx.addm (s.extract sn s.size).data.toList) := by
        rw [Lib.extract_data, List.take_of_length_le (by rw [List.length_drop, ← Lib.size_eq]; omega)]
        exact HL.out.stop (by rw [← Lib.size_eq]; omega)
      have hes := ext_size s sn s.size
      have hesm : (s.extract sn s.size).size ≤ maxLen := by unfold maxLen; omega
      go_wp2_with (go_at_call 35; refine (addMember_any w.heap.size _ ms (s.extract sn s.size) _ hesm hown hsz (by omega)).mono ?_; rintro e w1 ⟨v', rfl, hown', hb'⟩)
      go_ret
      exact ⟨v', rfl, by rw [HN.out]; exact hown', HB.out.trans hb'⟩

end Go.Proofs.YtdbldompjhienaaDoor
