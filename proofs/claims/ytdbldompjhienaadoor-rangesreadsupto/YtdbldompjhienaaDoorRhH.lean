/-
  The code's Told and Unmet: by their contracts.
-/
import Derived.Test.YtdbldompjhienaaDoorRhAC
import Derived.Test.YtdbldompjhienaaDoorRgD
namespace Go.Proofs.YtdbldompjhienaaDoor
open Go.RowKit

set_option maxHeartbeats 4000000 in
set_option maxRecDepth 20000 in
theorem ctold16 (r : Rg.Rn) (n : Int) (w : World) (a0 : -9223372036854775808 ≤ r.a) (a1 : r.a ≤ 9223372036854775807) (b0 : -9223372036854775808 ≤ r.b) (b1 : r.b ≤ 9223372036854775807) (n0 : -9223372036854775808 ≤ n) (n1 : n ≤ 9223372036854775807) (hT : TB16 w) :
    Calls Tryd.prog 12 #[.agg #[.int .i64 r.a, .int .i64 r.b], .int .i64 n] w fun e w' => e = .returned (.string ⟨(Rg.told r n).toArray⟩) ∧ Below w.heap.size w w' := by
  obtain ⟨ra, rb⟩ := r
  simp only at *
  have HX : Hid (Ar (w.alloc (.cells #[.int .i64 ra, .int .i64 rb] 23)) w.heap.size 23 #[.int .i64 ra, .int .i64 rb]) := hid' (heap_alloc_last w _)
  have HB1 := hid' (bl_alloc w (.cells #[.int .i64 ra, .int .i64 rb] 23))
  obtain ⟨a, ha⟩ : ∃ a, Lib.itoa ra = a := ⟨_, rfl⟩
  obtain ⟨b, hb⟩ : ∃ b, Lib.itoa rb = b := ⟨_, rfl⟩
  obtain ⟨c, hc⟩ : ∃ c, Lib.itoa n = c := ⟨_, rfl⟩
  have la : a.length ≤ 21 := by rw [← ha]; exact Tx.itoa_le _ 19 (by omega)
  have lb : b.length ≤ 21 := by rw [← hb]; exact Tx.itoa_le _ 19 (by omega)
  have lc : c.length ≤ 21 := by rw [← hc]; exact Tx.itoa_le _ 19 (by omega)
  have HAB : Hid (Rg.told ⟨ra, rb⟩ n = Rg.sBytes ++ (a ++ 45 :: (b ++ 47 :: c))) := hid' (by unfold Rg.told; rw [ha, hb, hc])
  have HD1 := hid' (fun W (h : Below w.heap.size w W) => decimal_any ra a0 a1 W (hT.keep h).1)
  have HD2 := hid' (fun W (h : Below w.heap.size w W) => decimal_any rb b0 b1 W (hT.keep h).1)
  have HD3 := hid' (fun W (h : Below w.heap.size w W) => decimal_any n n0 n1 W (hT.keep h).1)
  rw [ha] at HD1
  rw [hb] at HD2
  rw [hc] at HD3
  have k1 : ¬ 9223372036854775807 < 6 + a.length := by omega
  have k2 : ¬ 9223372036854775807 < 6 + a.length + 1 := by omega
  have k3 : ¬ 9223372036854775807 < 6 + a.length + 1 + b.length := by omega
  have k4 : ¬ 9223372036854775807 < 6 + a.length + 1 + b.length + 1 := by omega
  have k5 : ¬ 9223372036854775807 < 6 + a.length + 1 + b.length + 1 + c.length := by omega
  clear ha hb hc hT
  go_enter Tryd.func12, Tryd.ntmps12
  go_upto_region 1 with fail
  obtain ⟨xb, hxb⟩ : ∃ xb, w.heap.size = xb := ⟨_, rfl⟩
  rw [hxb] at HX ⊢
  generalize w.alloc (.cells #[.int .i64 ra, .int .i64 rb] 23) = w1 at *
  clear hxb
  have sOf : ∀ W W1 : World, (Below w1.heap.size w1 W ∧ W.cell? ⟨xb, 0, none⟩ = some (.int .i64 ra) ∧ W.cell? ⟨xb, 1, none⟩ = some (.int .i64 rb)) → Below W.heap.size W W1 → (Below w1.heap.size w1 W1 ∧ W1.cell? ⟨xb, 0, none⟩ = some (.int .i64 ra) ∧ W1.cell? ⟨xb, 1, none⟩ = some (.int .i64 rb)) := fun W W1 h hb => ⟨below_two h.1 hb, (HX.out.keep (below_two h.1 hb)).cell 0 _ rfl, (HX.out.keep (below_two h.1 hb)).cell 1 _ rfl⟩
  have hS : Below w1.heap.size w1 w1 ∧ w1.cell? ⟨xb, 0, none⟩ = some (.int .i64 ra) ∧ w1.cell? ⟨xb, 1, none⟩ = some (.int .i64 rb) := ⟨Below.refl _ _, HX.out.cell 0 _ rfl, HX.out.cell 1 _ rfl⟩
  go_region_held3 (fun W => Below w1.heap.size w1 W ∧ W.cell? ⟨xb, 0, none⟩ = some (.int .i64 ra) ∧ W.cell? ⟨xb, 1, none⟩ = some (.int .i64 rb))
    (first | assumption | exact sOf _ _ (by assumption) (by assumption) | exact sOf _ _ (by assumption) ((Below.refl _ _).drew))
    (first
      | (go_at_call 29; with_reducible refine (HD1.out _ ?_).mono ?_; exact below_two HB1.out (And.left (by assumption)); rintro e wz ⟨rfl, hbz⟩)
      | (go_at_call 29; with_reducible refine (HD2.out _ ?_).mono ?_; exact below_two HB1.out (And.left (by assumption)); rintro e wz ⟨rfl, hbz⟩)
      | (go_at_call 29; with_reducible refine (HD3.out _ ?_).mono ?_; exact below_two HB1.out (And.left (by assumption)); rintro e wz ⟨rfl, hbz⟩))
  have hz : Below w1.heap.size w1 wz := And.left (by assumption : Below w1.heap.size w1 wz ∧ wz.cell? ⟨xb, 0, none⟩ = some (.int .i64 ra) ∧ wz.cell? ⟨xb, 1, none⟩ = some (.int .i64 rb))
  have HBB := hid' (below_two HB1.out hz)
  clear sOf hS hz
  go_wp2
  go_ret
  refine ⟨?_, HBB.out⟩
  rw [HAB.out, ← told_cat16]
  rfl

set_option maxHeartbeats 1000000 in
theorem cunmet16 (n : Int) (w : World) (n0 : -9223372036854775808 ≤ n) (n1 : n ≤ 9223372036854775807) (hT : TB16 w) :
    Calls Tryd.prog 14 #[.int .i64 n] w fun e w' => e = .returned (.string ⟨(Rg.unmet n).toArray⟩) ∧ Below w.heap.size w w' := by
  obtain ⟨c, hc⟩ : ∃ c, Lib.itoa n = c := ⟨_, rfl⟩
  have lc : c.length ≤ 21 := by rw [← hc]; exact Tx.itoa_le _ 19 (by omega)
  have HD := hid' (decimal_any n n0 n1 w hT.1)
  rw [hc] at HD
  have HU : Hid ((⟨(Rg.unmet n).toArray⟩ : ByteArray) = (⟨#[98, 121, 116, 101, 115, 32, 42, 47]⟩ : ByteArray) ++ ⟨c.toArray⟩) := hid' (by unfold Rg.unmet; rw [hc]; apply ByteArray.ext; simp)
  have k1 : ¬ 9223372036854775807 < 8 + c.length := by omega
  clear hc hT
  go_enter Tryd.func14, Tryd.ntmps14
  go_wp2_with fail
  refine HD.out.mono ?_
  rintro e w1 ⟨rfl, hb1⟩
  go_wp2
  go_ret
  exact ⟨by rw [HU.out]; rfl, hb1⟩

end Go.Proofs.YtdbldompjhienaaDoor
