/-
  Make, the code's and the document's: by their contracts.
-/
import Derived.Test.YtbnldneejbbhhaaDoorTgD
import Derived.Test.YtbnldneejbbhhaaDoorDecs
import Derived.Deep.RegionHeld3
namespace Go.Proofs.YtbnldneejbbhhaaDoor
open Go.RowKit

namespace Tg
/-- A file's tag. -/
def mk (q : Int) (n : Nat) : List UInt8 := 34 :: (Lib.itoa (max q 0) ++ 45 :: (Lib.itoa (n : Int) ++ [34]))
def mkB (q : Int) (n : Nat) : ByteArray := ⟨(mk q n).toArray⟩
theorem mk_cat (a b : List UInt8) : ((((⟨#[34]⟩ : ByteArray) ++ ⟨a.toArray⟩) ++ ⟨#[45]⟩) ++ ⟨b.toArray⟩) ++ ⟨#[34]⟩ = ⟨(34 :: (a ++ 45 :: (b ++ [34]))).toArray⟩ := by
  apply ByteArray.ext; simp
end Tg
def flC (y : ByteArray) (t q : Int) : Array Value := #[.string y, .int .i64 t, .int .i64 q]

set_option maxHeartbeats 4000000 in
set_option maxRecDepth 20000 in
theorem cmake15 (y : ByteArray) (t q : Int) (w : World) (hy : y.size ≤ 9223372036854775807) (q0 : -9223372036854775808 ≤ q) (q1 : q ≤ 9223372036854775807) (hT : Lib.TabIs Tryd.prog w "internal/strconv.uint64pow10" .u64 Lib.pow10Tab) :
    Calls Tryd.prog 14 #[.agg (flC y t q)] w fun e w' => e = .returned (.string (Tg.mkB q y.size)) ∧ Below w.heap.size w w' := by
  have HT := hid' hT
  unfold flC
  have HX : Hid (Ar (w.alloc (.cells #[.string y, .int .i64 t, .int .i64 q] 35)) w.heap.size 35 #[.string y, .int .i64 t, .int .i64 q]) := hid' (heap_alloc_last w _)
  have HB1 := hid' (bl_alloc w (.cells #[.string y, .int .i64 t, .int .i64 q] 35))
  clear hT
  obtain ⟨a, ha⟩ : ∃ a, Lib.itoa (max q 0) = a := ⟨_, rfl⟩
  obtain ⟨b, hb⟩ : ∃ b, Lib.itoa (y.size : Int) = b := ⟨_, rfl⟩
  have la : a.length ≤ 21 := by rw [← ha]; exact Tx.itoa_le _ 19 (by omega)
  have lb : b.length ≤ 21 := by rw [← hb]; exact Tx.itoa_le _ 19 (by omega)
  have HAB : Hid (Tg.mkB q y.size = ⟨(34 :: (a ++ 45 :: (b ++ [34]))).toArray⟩) := hid' (by unfold Tg.mkB Tg.mk; rw [ha, hb])
  have HA := hid' ha
  have HBB := hid' hb
  have k1 : ¬ 9223372036854775807 < 1 + a.length := by omega
  have k2 : ¬ 9223372036854775807 < 1 + a.length + 1 := by omega
  have k3 : ¬ 9223372036854775807 < 1 + a.length + 1 + b.length := by omega
  have k4 : ¬ 9223372036854775807 < 1 + a.length + 1 + b.length + 1 := by omega
  clear ha hb
  go_enter Tryd.func14, Tryd.ntmps14
  go_upto_region 1 with fail
  obtain ⟨xb, hxb⟩ : ∃ xb, w.heap.size = xb := ⟨_, rfl⟩
  rw [hxb] at HX ⊢
  generalize w.alloc (.cells #[.string y, .int .i64 t, .int .i64 q] 35) = w1 at *
  have hS : w1.cell? ⟨xb, 0, none⟩ = some (.string y) ∧ w1.cell? ⟨xb, 2, none⟩ = some (.int .i64 q) := ⟨HX.out.cell 0 _ rfl, HX.out.cell 2 _ rfl⟩
  clear hxb
  go_region_held3 (fun W => W.cell? ⟨xb, 0, none⟩ = some (.string y) ∧ W.cell? ⟨xb, 2, none⟩ = some (.int .i64 q)) (first | assumption) (first
    | (go_at_call 26; refine (decimal_any (max q 0) (by omega) (by omega) _ (tab_below HT.out HB1.out.drew)).mono ?_; rw [HA.out]; rintro e wa ⟨rfl, hba⟩; have hba2 : Below w1.heap.size w1 wa := ⟨hba.os, hba.tape, hba.output, hba.size, hba.block⟩; have HBa := hid' hba2; have hxa := HX.out.keep hba2; have hSa := And.intro (hxa.cell 0 _ rfl) (hxa.cell 2 _ rfl); have HXa := hid' hxa; clear hba hba2 hxa)
    | (go_at_call 26; refine (decimal_any (y.size : Int) (by omega) (by omega) _ (tab_below HT.out (below_two HB1.out HBa.out))).mono ?_; rw [HBB.out]; rintro e wb ⟨rfl, hbb⟩; have hxb := HXa.out.keep hbb; have hSb := And.intro (hxb.cell 0 _ rfl) (hxb.cell 2 _ rfl); have HBb := hid' (below_two HBa.out hbb); clear hbb hxb))
  go_wp2
  go_ret
  refine ⟨?_, below_two HB1.out HBb.out⟩
  rw [HAB.out, ← Tg.mk_cat]
  rfl

set_option maxHeartbeats 4000000 in
set_option maxRecDepth 20000 in
theorem rmake15 (y : ByteArray) (t q : Int) (w : World) (hy : y.size ≤ 9223372036854775807) (q0 : -9223372036854775808 ≤ q) (q1 : q ≤ 9223372036854775807) :
    Calls Tryd.prog 15 #[.agg (flC y t q)] w fun e w' => e = .returned (.string (Tg.mkB q y.size)) ∧ Below w.heap.size w w' := by
  unfold flC
  have HX : Hid (Ar (w.alloc (.cells #[.string y, .int .i64 t, .int .i64 q] 35)) w.heap.size 35 #[.string y, .int .i64 t, .int .i64 q]) := hid' (heap_alloc_last w _)
  have HB1 := hid' (bl_alloc w (.cells #[.string y, .int .i64 t, .int .i64 q] 35))
  obtain ⟨a, ha⟩ : ∃ a, Lib.itoa (max q 0) = a := ⟨_, rfl⟩
  obtain ⟨b, hb⟩ : ∃ b, Lib.itoa (y.size : Int) = b := ⟨_, rfl⟩
  have la : a.length ≤ 21 := by rw [← ha]; exact Tx.itoa_le _ 19 (by omega)
  have lb : b.length ≤ 21 := by rw [← hb]; exact Tx.itoa_le _ 19 (by omega)
  have HAB : Hid (Tg.mkB q y.size = ⟨(34 :: (a ++ 45 :: (b ++ [34]))).toArray⟩) := hid' (by unfold Tg.mkB Tg.mk; rw [ha, hb])
  have HD1 := hid' (fun W => rDecimal_any (max q 0) (by omega) (by omega) W)
  have HD2 := hid' (fun W => rDecimal_any (y.size : Int) (by omega) (by omega) W)
  rw [ha] at HD1
  rw [hb] at HD2
  have k1 : ¬ 9223372036854775807 < 1 + a.length := by omega
  have k2 : ¬ 9223372036854775807 < 1 + a.length + 1 := by omega
  have k3 : ¬ 9223372036854775807 < 1 + a.length + 1 + b.length := by omega
  have k4 : ¬ 9223372036854775807 < 1 + a.length + 1 + b.length + 1 := by omega
  clear ha hb
  go_enter Tryd.func15, Tryd.ntmps15
  go_upto_region 1 with fail
  obtain ⟨xb, hxb⟩ : ∃ xb, w.heap.size = xb := ⟨_, rfl⟩
  rw [hxb] at HX ⊢
  generalize w.alloc (.cells #[.string y, .int .i64 t, .int .i64 q] 35) = w1 at *
  have hS : w1.cell? ⟨xb, 0, none⟩ = some (.string y) ∧ w1.cell? ⟨xb, 2, none⟩ = some (.int .i64 q) := ⟨HX.out.cell 0 _ rfl, HX.out.cell 2 _ rfl⟩
  clear hxb
  go_region_held3 (fun W => W.cell? ⟨xb, 0, none⟩ = some (.string y) ∧ W.cell? ⟨xb, 2, none⟩ = some (.int .i64 q)) (first | assumption) (first
    | (go_at_call 27; with_reducible refine (HD2.out _).mono ?_; rintro e wb ⟨rfl, hbb⟩; have hxb := HXa.out.keep hbb; have hSb := And.intro (hxb.cell 0 _ rfl) (hxb.cell 2 _ rfl); have HBb := hid' (below_two HBa.out hbb); clear hbb hxb)
    | (go_at_call 27; refine (HD1.out _).mono ?_; rintro e wa ⟨rfl, hba⟩; have hba2 : Below w1.heap.size w1 wa := ⟨hba.os, hba.tape, hba.output, hba.size, hba.block⟩; have HBa := hid' hba2; have hxa := HX.out.keep hba2; have hSa := And.intro (hxa.cell 0 _ rfl) (hxa.cell 2 _ rfl); have HXa := hid' hxa; clear hba hba2 hxa))
  go_wp2
  go_ret
  refine ⟨?_, below_two HB1.out HBb.out⟩
  rw [HAB.out, ← Tg.mk_cat]
  rfl

end Go.Proofs.YtbnldneejbbhhaaDoor
