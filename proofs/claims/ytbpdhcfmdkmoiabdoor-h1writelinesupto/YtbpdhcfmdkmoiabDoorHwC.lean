/-
  The status that counts, the status line, Bare and Continue, of the code and of the document: by their contracts.
-/
import Derived.Test.YtbpdhcfmdkmoiabDoorHwA
import Derived.Test.YtbpdhcfmdkmoiabDoorMcB
import Derived.Test.YtbpdhcfmdkmoiabDoorDecs
namespace Go.Proofs.YtbpdhcfmdkmoiabDoor
open Go.RowKit

namespace Hw
theorem reason_len (s : Int) : (reason s).length ≤ 31 := by
  unfold reason
  split
  · rename_i p h
    have : ∀ p ∈ reasons, p.2.length ≤ 31 := by decide
    exact this p (List.mem_of_find?_eq_some h)
  · decide
theorem line1_len (s : Int) : (line1 s).length ≤ 64 := by
  have h1 := stat_bd s
  have h2 := reason_len (stat s)
  have h3 : (Lib.itoa (stat s)).length ≤ 21 := Tx.itoa_le _ 19 (by omega)
  unfold line1
  simp only [List.length_append, ver, crlf, List.length_cons, List.length_nil]
  omega
theorem sl_cat (a b : T8) : ((((⟨#[72, 84, 84, 80, 47, 49, 46, 49, 32]⟩ : ByteArray) ++ ⟨a.toArray⟩) ++ ⟨#[32]⟩) ++ ⟨b.toArray⟩) ++ ⟨#[13, 10]⟩ = ⟨(ver ++ a ++ [32] ++ b ++ crlf).toArray⟩ := by
  apply ByteArray.ext; simp [ByteArray.data_append, ver, crlf]
end Hw

set_option maxHeartbeats 1000000 in
theorem cstat22 (s : Int) (w : World) : Calls Tryd.prog 10 #[.int .i64 s] w fun e w' => e = .returned (.int .i64 (Hw.stat s)) ∧ w' = w := by
  by_cases d1 : s < 100
  · have HF : Hid (Hw.stat s = 500) := hid' (if_pos (.inl d1))
    go_enter Tryd.func10, Tryd.ntmps10
    go_wp2
    go_ret
    exact ⟨by rw [HF.out]; rfl, rfl⟩
  by_cases d2 : 999 < s
  · have HF : Hid (Hw.stat s = 500) := hid' (if_pos (.inr d2))
    go_enter Tryd.func10, Tryd.ntmps10
    go_wp2
    go_ret
    exact ⟨by rw [HF.out]; rfl, rfl⟩
  have HF : Hid (Hw.stat s = s) := hid' (if_neg (by omega))
  go_enter Tryd.func10, Tryd.ntmps10
  go_wp2
  go_ret
  exact ⟨by rw [HF.out]; rfl, rfl⟩

set_option maxHeartbeats 1000000 in
/-- The status line, of a status that counts. -/
theorem cline22 (s : Int) (w : World) (h : Hw.stat s = s) (hT : TB w) : Calls Tryd.prog 23 #[.int .i64 s] w fun e w' => e = .returned (.string ⟨(Hw.line1 s).toArray⟩) ∧ Below w.heap.size w w' := by
  have hb := Hw.stat_bd s
  obtain ⟨a, ha⟩ : ∃ a, Lib.itoa s = a := ⟨_, rfl⟩
  obtain ⟨b, hbb⟩ : ∃ b, Hw.reason s = b := ⟨_, rfl⟩
  have la : a.length ≤ 21 := by rw [← ha]; exact Tx.itoa_le _ 19 (by omega)
  have lb : b.length ≤ 31 := by rw [← hbb]; exact Hw.reason_len s
  have HL : Hid (Hw.line1 s = Hw.ver ++ a ++ [32] ++ b ++ Hw.crlf) := hid' (by unfold Hw.line1; rw [h, ha, hbb])
  have HD := hid' (fun W (h : Below w.heap.size w W) => decimal_any s (by omega) (by omega) W (hT.keep h).1)
  have HR := hid' (fun W => creason22 s W)
  rw [ha] at HD
  rw [hbb] at HR
  have k1 : ¬ 9223372036854775807 < 9 + a.length := by omega
  have k2 : ¬ 9223372036854775807 < 9 + a.length + 1 := by omega
  have k3 : ¬ 9223372036854775807 < 9 + a.length + 1 + b.length := by omega
  have k4 : ¬ 9223372036854775807 < 9 + a.length + 1 + b.length + 2 := by omega
  clear ha hbb hT h hb la lb
  go_enter Tryd.func23, Tryd.ntmps23
  go_wp2_with fail
  refine (HD.out _ (Below.refl _ _)).mono ?_
  rintro e w1 ⟨rfl, hb1⟩
  have HB1 := hid' hb1
  clear hb1
  go_wp2_with fail
  refine (HR.out _).mono ?_
  rintro e w2 ⟨rfl, hw2⟩
  subst hw2
  go_wp2
  go_ret
  refine ⟨?_, HB1.out⟩
  rw [HL.out, ← Hw.sl_cat]
  rfl

namespace Hw
theorem stat_stat (s : Int) : stat (stat s) = stat s := by
  have := stat_bd s
  exact if_neg (by omega)
theorem line1_stat (s : Int) : line1 (stat s) = line1 s := by unfold line1; rw [stat_stat]
theorem bare_cat (a : T8) : (((((⟨a.toArray⟩ : ByteArray) ++ ⟨#[99, 111, 110, 116, 101, 110, 116, 45, 108, 101, 110, 103, 116, 104, 58, 32, 48]⟩) ++ ⟨#[13, 10]⟩) ++ ⟨#[99, 111, 110, 110, 101, 99, 116, 105, 111, 110, 58, 32, 99, 108, 111, 115, 101, 13, 10]⟩) ++ ⟨#[13, 10]⟩) = ⟨(a ++ ([99, 111, 110, 116, 101, 110, 116, 45, 108, 101, 110, 103, 116, 104, 58, 32, 48, 13, 10] ++ (clo ++ crlf))).toArray⟩ := by
  apply ByteArray.ext; simp [ByteArray.data_append, clo, crlf]
theorem bare_cat2 (a : T8) : ((⟨a.toArray⟩ : ByteArray) ++ ⟨#[99, 111, 110, 116, 101, 110, 116, 45, 108, 101, 110, 103, 116, 104, 58, 32, 48, 13, 10, 99, 111, 110, 110, 101, 99, 116, 105, 111, 110, 58, 32, 99, 108, 111, 115, 101, 13, 10, 13, 10]⟩) = ⟨(a ++ ([99, 111, 110, 116, 101, 110, 116, 45, 108, 101, 110, 103, 116, 104, 58, 32, 48, 13, 10] ++ (clo ++ crlf))).toArray⟩ := by
  apply ByteArray.ext; simp [ByteArray.data_append, clo, crlf]
theorem cont_cat (a : T8) : ((⟨a.toArray⟩ : ByteArray) ++ ⟨#[13, 10]⟩) = ⟨(a ++ crlf).toArray⟩ := by
  apply ByteArray.ext; simp [ByteArray.data_append, crlf]
end Hw

set_option maxHeartbeats 1000000 in
theorem ccont22 (w : World) (hT : TB w) : Calls Tryd.prog 16 #[] w fun e w' => e = .returned (.string ⟨(Hw.line1 100 ++ Hw.crlf).toArray⟩) ∧ Below w.heap.size w w' := by
  obtain ⟨a, ha⟩ : ∃ a, Hw.line1 100 = a := ⟨_, rfl⟩
  have la : a.length ≤ 64 := by rw [← ha]; exact Hw.line1_len 100
  have HL := hid' (cline22 100 w rfl hT)
  rw [ha] at HL ⊢
  have k1 : ¬ 9223372036854775807 < a.length + 2 := by omega
  clear ha la hT
  go_enter Tryd.func16, Tryd.ntmps16
  go_wp2_with fail
  refine HL.out.mono ?_
  rintro e w1 ⟨rfl, hb1⟩
  have HB1 := hid' hb1
  clear hb1
  go_wp2
  go_ret
  refine ⟨?_, HB1.out⟩
  rw [← Hw.cont_cat]
  rfl

end Go.Proofs.YtbpdhcfmdkmoiabDoor
