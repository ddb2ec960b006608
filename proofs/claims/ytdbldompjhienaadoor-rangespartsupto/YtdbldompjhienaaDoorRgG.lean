/-
  The document's Line: by its contract.
-/
import Derived.Test.YtdbldompjhienaaDoorRgF
import Derived.Test.YtdbldompjhienaaDoorRgD
namespace Go.Proofs.YtdbldompjhienaaDoor
open Go.RowKit

theorem line_cat16 (c : List UInt8) : (⟨#[112, 97, 114, 116]⟩ : ByteArray) ++ ⟨c.toArray⟩ = ⟨(Rg.sPart ++ c).toArray⟩ := by
  apply ByteArray.ext; simp [Rg.sPart]

set_option maxHeartbeats 1600000 in
theorem rline16 (x : ByteArray) (q : Nat) (hqb : q ≤ 4503599627370560) (hq : Rg.stands (Rg.line q) x.data.toList = false) (hall : ∀ m, m < q → Rg.stands (Rg.line m) x.data.toList = true) (w : World) (hx : x.size ≤ 140737488355328) :
    Calls Tryd.prog 20 #[.string x] w fun e w' => e = .returned (.string ⟨(Rg.line q).toArray⟩) ∧ Below w.heap.size w w' := by
  have HQ := hid' hq
  have HALL := hid' hall
  clear hq hall
  go_enter Tryd.func20, Tryd.ntmps20
  go_wp2
  go_loopw [3] (fun s3 wr => ∃ k : Nat, s3 = .int .i64 (k : Int) ∧ k ≤ q ∧ Hid (Below w.heap.size w wr)) (fun s3 _ => q - (intOf s3).toNat)
  case atStart => exact ⟨0, rfl, Nat.zero_le _, hid' (Below.refl _ _)⟩
  case round =>
    obtain ⟨k, rfl, hk, HB⟩ := hrel
    obtain ⟨c, hc⟩ : ∃ c, Lib.itoa (k : Int) = c := ⟨_, rfl⟩
    have lc : c.length ≤ 21 := by rw [← hc]; exact Tx.itoa_le _ 19 (by omega)
    have HD := hid' (fun W => rDecimal_any (k : Int) (by omega) (by omega) W)
    rw [hc] at HD
    have k1 : ¬ 9223372036854775807 < 4 + c.length := by omega
    obtain ⟨y, hy⟩ : ∃ y : ByteArray, (⟨#[112, 97, 114, 116]⟩ : ByteArray) ++ ⟨c.toArray⟩ = y := ⟨_, rfl⟩
    have HYL : Hid (y.data.toList = Rg.line k) := hid' (by rw [← hy, line_cat16]; unfold Rg.line; rw [hc])
    have HYE : Hid (y = ⟨(Rg.line k).toArray⟩) := hid' (by rw [← hy, line_cat16]; unfold Rg.line; rw [hc])
    have HYS : Hid (y.size ≤ 140737488355328) := hid' (by rw [Lib.size_eq, HYL.out]; have := Rg.line_len k (by omega); omega)
    have HY := hid' hy
    clear hc
    by_cases hlt : k < q
    · have HST := hid' (fun W => rstands16 y x true (by rw [HYL.out]; exact HALL.out k hlt) W HYS.out hx)
      rw [← hy] at HST
      clear hy
      go_wp2_with fail
      refine (HD.out _).mono ?_
      rintro e w1 ⟨rfl, hb1⟩
      have HB1 := hid' (below_two HB.out hb1)
      clear hb1
      go_wp2_with fail
      refine (HST.out _).mono ?_
      rintro e w2 ⟨rfl, hw2⟩
      subst w2
      go_wp2
      go_roundw
      case rel => exact ⟨k + 1, by go_num, by omega, HB1⟩
      case measure => simp [intOf]; omega
    · obtain rfl : k = q := by omega
      have HST := hid' (fun W => rstands16 y x false (by rw [HYL.out]; exact HQ.out) W HYS.out hx)
      rw [← hy] at HST
      clear hy hlt
      go_wp2_with fail
      refine (HD.out _).mono ?_
      rintro e w1 ⟨rfl, hb1⟩
      have HB1 := hid' (below_two HB.out hb1)
      clear hb1
      go_wp2_with fail
      refine (HST.out _).mono ?_
      rintro e w2 ⟨rfl, hw2⟩
      subst w2
      go_wp2_with fail
      refine (HD.out _).mono ?_
      rintro e w3 ⟨rfl, hb3⟩
      have HB3 := hid' (below_two HB1.out hb3)
      clear hb3
      go_wp2
      go_ret
      exact ⟨by rw [← HYE.out, ← HY.out]; rfl, HB3.out⟩

end Go.Proofs.YtdbldompjhienaaDoor
