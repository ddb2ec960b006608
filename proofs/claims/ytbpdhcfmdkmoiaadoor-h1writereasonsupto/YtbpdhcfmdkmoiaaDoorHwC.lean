/-
  The status that counts, the status line, Bare and Continue, of the code and of the document: by their contracts.
-/
import Derived.Test.YtbpdhcfmdkmoiaaDoorHwA
import Derived.Test.YtbpdhcfmdkmoiaaDoorMcB
import Derived.Test.YtbpdhcfmdkmoiaaDoorDecs
namespace Go.Proofs.YtbpdhcfmdkmoiaaDoor
open Go.RowKit

namespace Hw
theorem reason_len (s : Int) : (reason s).length ≤ 31 := by
  unfold reason
  split
  · rename_i p h
    have : ∀ p ∈ reasons, p.2.length ≤ 31 := by decide
    exact this p (List.mem_of_find?_eq_some h)
  · decide
theorem line1_len (s : Int) : (line1 s).length ≤ 64 := by
  have h1 := stat_bd s
  have h2 := reason_len (stat s)
  have h3 : (Lib.itoa (stat s)).length ≤ 21 := Tx.itoa_le _ 19 (by omega)
  unfold line1
  simp only [List.length_append, ver, crlf, List.length_cons, List.length_nil]
  omega
theorem sl_cat (a b : T8) : ((((⟨#[72, 84, 84, 80, 47, 49, 46, 49, 32]⟩ : ByteArray) ++ ⟨a.toArray⟩) ++ ⟨#[32]⟩) ++ ⟨b.toArray⟩) ++ ⟨#[13, 10]⟩ = ⟨(ver ++ a ++ [32] ++ b ++ crlf).toArray⟩ := by
  apply ByteArray.ext; simp [ByteArray.data_append, ver, crlf]
end Hw

set_option maxHeartbeats 1000000 in
theorem cstat22 (s : Int) (w : World) : Calls Tryd.prog 26 #[.int .i64 s] w fun e w' => e = .returned (.int .i64 (Hw.stat s)) ∧ w' = w := by
  by_cases d1 : s < 100
  · have HF : Hid (Hw.stat s = 500) := hid' (if_pos (.inl d1))
    go_enter Tryd.func26, Tryd.ntmps26
    go_wp2
    go_ret
    exact ⟨by rw [HF.out]; rfl, rfl⟩
  by_cases d2 : 999 < s
  · have HF : Hid (Hw.stat s = 500) := hid' (if_pos (.inr d2))
    go_enter Tryd.func26, Tryd.ntmps26
    go_wp2
    go_ret
    exact ⟨by rw [HF.out]; rfl, rfl⟩
  have HF : Hid (Hw.stat s = s) := hid' (if_neg (by omega))
  go_enter Tryd.func26, Tryd.ntmps26
  go_wp2
  go_ret
  exact ⟨by rw [HF.out]; rfl, rfl⟩

set_option maxHeartbeats 1000000 in
theorem rstat22 (s : Int) (w : World) : Calls Tryd.prog 32 #[.int .i64 s] w fun e w' => e = .returned (.int .i64 (Hw.stat s)) ∧ w' = w := by
  by_cases d1 : s < 100
  · have HF : Hid (Hw.stat s = 500) := hid' (if_pos (.inl d1))
    go_enter Tryd.func32, Tryd.ntmps32
    go_wp2
    go_ret
    exact ⟨by rw [HF.out]; rfl, rfl⟩
  by_cases d2 : 999 < s
  · have HF : Hid (Hw.stat s = 500) := hid' (if_pos (.inr d2))
    go_enter Tryd.func32, Tryd.ntmps32
    go_wp2
    go_ret
    exact ⟨by rw [HF.out]; rfl, rfl⟩
  have HF : Hid (Hw.stat s = s) := hid' (if_neg (by omega))
  go_enter Tryd.func32, Tryd.ntmps32
  go_wp2
  go_ret
  exact ⟨by rw [HF.out]; rfl, rfl⟩

set_option maxHeartbeats 1000000 in
/-- The status line, of a status that counts. -/
theorem cline22 (s : Int) (w : World) (h : Hw.stat s = s) (hT : TB w) : Calls Tryd.prog 37 #[.int .i64 s] w fun e w' => e = .returned (.string ⟨(Hw.line1 s).toArray⟩) ∧ Below w.heap.size w w' := by
  have hb := Hw.stat_bd s
  obtain ⟨a, ha⟩ : ∃ a, Lib.itoa s = a := ⟨_, rfl⟩
  obtain ⟨b, hbb⟩ : ∃ b, Hw.reason s = b := ⟨_, rfl⟩
  have la : a.length ≤ 21 := by rw [← ha]; exact Tx.itoa_le _ 19 (by omega)
  have lb : b.length ≤ 31 := by rw [← hbb]; exact Hw.reason_len s
  have HL : Hid (Hw.line1 s = Hw.ver ++ a ++ [32] ++ b ++ Hw.crlf) := hid' (by unfold Hw.line1; rw [h, ha, hbb])
  have HD := hid' (fun W (h : Below w.heap.size w W) => decimal_any s (by omega) (by omega) W (hT.keep h).1)
  have HR := hid' (fun W => creason22 s W)
  rw [ha] at HD
  rw [hbb] at HR
  have k1 : ¬ 9223372036854775807 < 9 + a.length := by omega
  have k2 : ¬ 9223372036854775807 < 9 + a.length + 1 := by omega
  have k3 : ¬ 9223372036854775807 < 9 + a.length + 1 + b.length := by omega
  have k4 : ¬ 9223372036854775807 < 9 + a.length + 1 + b.length + 2 := by omega
  clear ha hbb hT h hb la lb
  go_enter Tryd.func37, Tryd.ntmps37
  go_wp2_with fail
  refine (HD.out _ (Below.refl _ _)).mono ?_
  rintro e w1 ⟨rfl, hb1⟩
  have HB1 := hid' hb1
  clear hb1
  go_wp2_with fail
  refine (HR.out _).mono ?_
  rintro e w2 ⟨rfl, hw2⟩
  subst hw2
  go_wp2
  go_ret
  refine ⟨?_, HB1.out⟩
  rw [HL.out, ← Hw.sl_cat]
  rfl

set_option maxHeartbeats 1000000 in
theorem rline22 (s : Int) (w : World) : Calls Tryd.prog 33 #[.int .i64 s] w fun e w' => e = .returned (.string ⟨(Hw.line1 s).toArray⟩) ∧ Below w.heap.size w w' := by
  have hb := Hw.stat_bd s
  obtain ⟨t, ht⟩ : ∃ t, Hw.stat s = t := ⟨_, rfl⟩
  rw [ht] at hb
  obtain ⟨a, ha⟩ : ∃ a, Lib.itoa t = a := ⟨_, rfl⟩
  obtain ⟨b, hbb⟩ : ∃ b, Hw.reason t = b := ⟨_, rfl⟩
  have la : a.length ≤ 21 := by rw [← ha]; exact Tx.itoa_le _ 19 (by omega)
  have lb : b.length ≤ 31 := by rw [← hbb]; exact Hw.reason_len t
  have HL : Hid (Hw.line1 s = Hw.ver ++ a ++ [32] ++ b ++ Hw.crlf) := hid' (by unfold Hw.line1; rw [ht, ha, hbb])
  have HD := hid' (fun W => rDecimal_any t (by omega) (by omega) W)
  have HR := hid' (fun W => rreason22 t W)
  have HS := hid' (rstat22 s w)
  rw [ha] at HD
  rw [hbb] at HR
  rw [ht] at HS
  have k1 : ¬ 9223372036854775807 < 9 + a.length := by omega
  have k2 : ¬ 9223372036854775807 < 9 + a.length + 1 := by omega
  have k3 : ¬ 9223372036854775807 < 9 + a.length + 1 + b.length := by omega
  have k4 : ¬ 9223372036854775807 < 9 + a.length + 1 + b.length + 2 := by omega
  clear ha hbb ht hb la lb
  go_enter Tryd.func33, Tryd.ntmps33
  go_wp2_with fail
  refine HS.out.mono ?_
  rintro e w0 ⟨rfl, hw0⟩
  subst hw0
  go_wp2_with fail
  refine (HD.out _).mono ?_
  rintro e w1 ⟨rfl, hb1⟩
  have HB1 := hid' hb1
  clear hb1
  go_wp2_with fail
  refine (HR.out _).mono ?_
  rintro e w2 ⟨rfl, hw2⟩
  subst hw2
  go_wp2
  go_ret
  refine ⟨?_, HB1.out⟩
  rw [HL.out, ← Hw.sl_cat]
  rfl

namespace Hw
theorem stat_stat (s : Int) : stat (stat s) = stat s := by
  have := stat_bd s
  exact if_neg (by omega)
theorem line1_stat (s : Int) : line1 (stat s) = line1 s := by unfold line1; rw [stat_stat]
theorem bare_cat (a : T8) : (((((⟨a.toArray⟩ : ByteArray) ++ ⟨#[99, 111, 110, 116, 101, 110, 116, 45, 108, 101, 110, 103, 116, 104, 58, 32, 48]⟩) ++ ⟨#[13, 10]⟩) ++ ⟨#[99, 111, 110, 110, 101, 99, 116, 105, 111, 110, 58, 32, 99, 108, 111, 115, 101, 13, 10]⟩) ++ ⟨#[13, 10]⟩) = ⟨(a ++ ([99, 111, 110, 116, 101, 110, 116, 45, 108, 101, 110, 103, 116, 104, 58, 32, 48, 13, 10] ++ (clo ++ crlf))).toArray⟩ := by
  apply ByteArray.ext; simp [ByteArray.data_append, clo, crlf]
theorem bare_cat2 (a : T8) : ((⟨a.toArray⟩ : ByteArray) ++ ⟨#[99, 111, 110, 116, 101, 110, 116, 45, 108, 101, 110, 103, 116, 104, 58, 32, 48, 13, 10, 99, 111, 110, 110, 101, 99, 116, 105, 111, 110, 58, 32, 99, 108, 111, 115, 101, 13, 10, 13, 10]⟩) = ⟨(a ++ ([99, 111, 110, 116, 101, 110, 116, 45, 108, 101, 110, 103, 116, 104, 58, 32, 48, 13, 10] ++ (clo ++ crlf))).toArray⟩ := by
  apply ByteArray.ext; simp [ByteArray.data_append, clo, crlf]
theorem cont_cat (a : T8) : ((⟨a.toArray⟩ : ByteArray) ++ ⟨#[13, 10]⟩) = ⟨(a ++ crlf).toArray⟩ := by
  apply ByteArray.ext; simp [ByteArray.data_append, crlf]
end Hw

set_option maxHeartbeats 1000000 in
theorem cbare22 (s : Int) (w : World) (hT : TB w) : Calls Tryd.prog 14 #[.int .i64 s] w fun e w' => e = .returned (.string ⟨(Hw.bareT s).toArray⟩) ∧ Below w.heap.size w w' := by
  obtain ⟨a, ha⟩ : ∃ a, Hw.line1 s = a := ⟨_, rfl⟩
  have la : a.length ≤ 64 := by rw [← ha]; exact Hw.line1_len s
  have HS := hid' (cstat22 s w)
  have HL := hid' (cline22 (Hw.stat s) w (Hw.stat_stat s) hT)
  rw [Hw.line1_stat, ha] at HL
  have HF : Hid (Hw.bareT s = a ++ ([99, 111, 110, 116, 101, 110, 116, 45, 108, 101, 110, 103, 116, 104, 58, 32, 48, 13, 10] ++ (Hw.clo ++ Hw.crlf))) := hid' (by unfold Hw.bareT; rw [ha]; simp)
  have k1 : ¬ 9223372036854775807 < a.length + 17 := by omega
  have k2 : ¬ 9223372036854775807 < a.length + 17 + 2 := by omega
  have k3 : ¬ 9223372036854775807 < a.length + 17 + 2 + 19 := by omega
  have k4 : ¬ 9223372036854775807 < a.length + 17 + 2 + 19 + 2 := by omega
  clear ha la hT
  go_enter Tryd.func14, Tryd.ntmps14
  go_wp2_with fail
  refine HS.out.mono ?_
  rintro e w0 ⟨rfl, hw0⟩
  subst hw0
  go_wp2_with fail
  refine HL.out.mono ?_
  rintro e w1 ⟨rfl, hb1⟩
  have HB1 := hid' hb1
  clear hb1
  go_wp2
  go_ret
  refine ⟨?_, HB1.out⟩
  rw [HF.out, ← Hw.bare_cat]
  rfl

set_option maxHeartbeats 1000000 in
theorem rbare22 (s : Int) (w : World) : Calls Tryd.prog 15 #[.int .i64 s] w fun e w' => e = .returned (.string ⟨(Hw.bareT s).toArray⟩) ∧ Below w.heap.size w w' := by
  obtain ⟨a, ha⟩ : ∃ a, Hw.line1 s = a := ⟨_, rfl⟩
  have la : a.length ≤ 64 := by rw [← ha]; exact Hw.line1_len s
  have HL := hid' (rline22 s w)
  rw [ha] at HL
  have HF : Hid (Hw.bareT s = a ++ ([99, 111, 110, 116, 101, 110, 116, 45, 108, 101, 110, 103, 116, 104, 58, 32, 48, 13, 10] ++ (Hw.clo ++ Hw.crlf))) := hid' (by unfold Hw.bareT; rw [ha]; simp)
  have k1 : ¬ 9223372036854775807 < a.length + 40 := by omega
  clear ha la
  go_enter Tryd.func15, Tryd.ntmps15
  go_wp2_with fail
  refine HL.out.mono ?_
  rintro e w1 ⟨rfl, hb1⟩
  have HB1 := hid' hb1
  clear hb1
  go_wp2
  go_ret
  refine ⟨?_, HB1.out⟩
  rw [HF.out, ← Hw.bare_cat2]
  rfl

set_option maxHeartbeats 1000000 in
theorem ccont22 (w : World) (hT : TB w) : Calls Tryd.prog 36 #[] w fun e w' => e = .returned (.string ⟨(Hw.line1 100 ++ Hw.crlf).toArray⟩) ∧ Below w.heap.size w w' := by
  obtain ⟨a, ha⟩ : ∃ a, Hw.line1 100 = a := ⟨_, rfl⟩
  have la : a.length ≤ 64 := by rw [← ha]; exact Hw.line1_len 100
  have HL := hid' (cline22 100 w rfl hT)
  rw [ha] at HL ⊢
  have k1 : ¬ 9223372036854775807 < a.length + 2 := by omega
  clear ha la hT
  go_enter Tryd.func36, Tryd.ntmps36
  go_wp2_with fail
  refine HL.out.mono ?_
  rintro e w1 ⟨rfl, hb1⟩
  have HB1 := hid' hb1
  clear hb1
  go_wp2
  go_ret
  refine ⟨?_, HB1.out⟩
  rw [← Hw.cont_cat]
  rfl

end Go.Proofs.YtbpdhcfmdkmoiaaDoor
