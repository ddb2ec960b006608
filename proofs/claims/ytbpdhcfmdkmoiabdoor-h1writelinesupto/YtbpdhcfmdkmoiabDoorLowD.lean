/-
  The document's Lower, by its contract.
-/
import Derived.Test.YtbpdhcfmdkmoiabDoorTrims
import Derived.Test.YtbpdhcfmdkmoiabDoorLowers
import Derived.Test.YtbpdhcfmdkmoiabDoorHuffM
import Derived.Deep.QuietTactic
import Derived.BigQuiet
namespace Go.Proofs.YtbpdhcfmdkmoiabDoor
open Go.RowKit

set_option maxHeartbeats 1000000 in
theorem rLower_any (s : ByteArray) (w : World) (hs : s.size ≤ maxLen) :
    Calls Tryd.prog 18 #[.string s] w fun e w' => e = .returned (.string ⟨(Tx.lower s.data.toList).toArray⟩) ∧ Below w.heap.size w w' := by
  unfold maxLen at hs
  have hconv := run_bytes_of_string (P := Tryd.prog) w 9 55 5 s Tryd.underlying9 Tryd.underlying55 Tryd.underlying5
  go_enter Tryd.func18, Tryd.ntmps18
  go_wp2
  clear hconv
  go_loopw [4] (fun i wr => ∃ k : Nat, k ≤ s.size ∧ i = .int .i64 k ∧ Tx.Row wr w.heap.size (Tx.lowTo s.data.toList k) ∧ Below w.heap.size w wr) (fun i _ => s.size - (intOf i).toNat)
  case atStart => exact ⟨0, Nat.zero_le _, rfl, by rw [Tx.lowTo_zero]; exact Tx.Row.conv w s _ _, ((Below.refl _ _).alloc (Nat.le_refl _) _).drew⟩
  case round =>
    obtain ⟨k, hk, rfl, hrow, hbel⟩ := hrel
    by_cases hlt : k < s.size
    · have hl : k < s.data.toList.length := by rw [← Lib.size_eq]; exact hlt
      have hat := hrow k (by rw [Tx.lowTo_length]; exact hl)
      rw [Tx.lowTo_at _ k hl] at hat
      obtain ⟨hcell, hfr⟩ := hat
      replace hcell : wr.cell? ⟨w.heap.size, k, none⟩ = some (.int .u8 (s[k].toNat : Int)) := hcell
      have HR : Hid (Tx.Row wr w.heap.size (Tx.lowTo s.data.toList k)) := hrow
      have HB : Hid (Below w.heap.size w wr) := hbel
      clear hrow hbel
      by_cases hc : (65 : Int) ≤ (s[k].toNat : Int) ∧ (s[k].toNat : Int) ≤ 90
      · obtain ⟨hc1, hc2⟩ := hc
        go_wp2
        go_roundw
        case rel =>
          refine ⟨k + 1, by omega, by go_num, ?_, HB.out.setCell (Nat.le_refl _) _⟩
          rw [Tx.lowTo_step _ k hl]
          exact HR.out.set k _ _ (by rw [show s.data.toList[k] = s[k] from rfl, Tx.lowC_up _ (by omega) (by omega)]; omega)
        case measure => simp [intOf]; omega
      · by_cases hc1 : (65 : Int) ≤ (s[k].toNat : Int)
        all_goals
          go_wp2
          go_roundw
          case rel => exact ⟨k + 1, by omega, by go_num, by rw [Tx.lowTo_stay _ k hl (by rw [show s.data.toList[k] = s[k] from rfl]; omega)]; exact HR.out, HB.out⟩
          case measure => simp [intOf]; omega
    · have hback := hrow.back (P := Tryd.prog) 55 9 5 s.size (grownCap w s.size 0 5) (by rw [Tx.lowTo_length, Lib.size_eq]) Tryd.underlying55 Tryd.underlying5 Tryd.underlying9
      have HF : Hid (Tx.lowTo s.data.toList k = Tx.lower s.data.toList) := Tx.lowTo_all _ k (by rw [← Lib.size_eq]; omega)
      have HB : Hid (Below w.heap.size w wr) := hbel
      clear hrow hbel
      go_wp2
      go_ret
      exact ⟨ret_str' (by rw [HF.out]), HB.out⟩

end Go.Proofs.YtbpdhcfmdkmoiabDoor
