/-
  The code's parts, a response's end, its head: by their contracts.
-/
import Derived.Test.YtbpdhcfmdkmoiaaDoorPwAP
namespace Go.Proofs.YtbpdhcfmdkmoiaaDoor
open Go.RowKit

namespace Hw
theorem cut0 (x : ByteArray) (k : Nat) : x.extract 0 k = ⟨(x.data.toList.take k).toArray⟩ := by
  apply ByteArray.ext
  apply Array.ext'
  rw [Lib.extract_data]; simp
theorem cutr (x : ByteArray) (k : Nat) : (x.extract k x.size).data.toList = x.data.toList.drop k := by
  rw [Lib.extract_data, List.take_of_length_le]
  rw [List.length_drop, ← Lib.size_eq]; omega
theorem drop_step (B : T8) (j P : Nat) : (B.drop (j * P)).drop P = B.drop ((j + 1) * P) := by rw [List.drop_drop, Nat.add_mul, Nat.one_mul]
theorem sC_app (l m : List T8) : sC (l ++ m) = sC l ++ sC m := by unfold sC; rw [List.map_append]
end Hw
theorem infoS22 : (Tryd.prog.info? 9).map (fun i => (i.zero, i.size, i.bytes)) = some (some (.string ⟨#[]⟩), 1, 16) := by kernel_rfl
theorem new_s22 (w : World) (x : Value) : ∀ j u, [x][j]? = some u → (w.alloc (.cells #[x] 9)).cell? ((⟨w.heap.size, 0, none⟩ : Addr).add j) = some u := cell_one_new w x _

set_option maxHeartbeats 4000000 in
set_option maxRecDepth 20000 in
theorem cparts22 (x : ByteArray) (B : List UInt8) (hB : x.data.toList = B) (w : World) (hx : B.length ≤ 1073741824) :
    Calls Tryd.prog 30 #[.string x] w fun e w' => (∃ ao cap, e = .returned (.slice ao (Hw.parts B).length cap) ∧ w'.ownsRow w.heap.size 9 1 (.slice ao (Hw.parts B).length cap) (Hw.parts B).length (sC (Hw.parts B))) ∧ Below w.heap.size w w' := by
  obtain ⟨i0, hi0, hz0, hz1, hz2⟩ := minfo_parts infoS22
  have HI := hid' hi0
  have HZ0 := hid' hz0
  have HZ1 := hid' hz1
  have HZ2 := hid' hz2
  have HXB : Hid (x.data.toList = B.drop (0 * 16384)) := hid' (by rw [Nat.zero_mul, List.drop_zero]; exact hB)
  have hxs : x.size = B.length := by rw [Lib.size_eq, hB]
  have HXS := hid' hxs
  have HZZ : Hid (0 * 16384 ≤ B.length ∧ x.size + 0 * 16384 = B.length) := hid' (by rw [Nat.zero_mul]; exact ⟨Nat.zero_le _, hxs⟩)
  clear hi0 hz0 hz1 hz2 hB
  go_enter Tryd.func30, Tryd.ntmps30
  go_wp2
  go_loopw [0, 3] (fun s0 s3 wr => ∃ (j : Nat) (y : ByteArray) (ao : Option Addr) (cap : Nat), s0 = .string y ∧ s3 = .slice ao j cap ∧ j * 16384 ≤ B.length ∧ y.size + j * 16384 = B.length ∧ Hid (y.data.toList = B.drop (j * 16384)) ∧ Hid (wr.ownsRow w.heap.size 9 1 (.slice ao j cap) j (sC ((List.range j).map (Hw.part B)))) ∧ Hid (Below w.heap.size w wr)) (fun s0 _ _ => match s0 with | .string y => y.size | _ => 0)
  case atStart => exact ⟨0, x, none, 0, rfl, rfl, HZZ.out.1, HZZ.out.2, HXB, hid' (World.ownsRow_nil _ _ _ _), hid' (Below.refl _ _)⟩
  case round =>
    obtain ⟨j, y, ao, cap, rfl, rfl, hj, hy, HY, HO, HB⟩ := hrel
    have HJN := hid' hy
    by_cases hlt : 16384 < y.size
    · have hlt2 : (y.size : Int) > 16384 := by omega
      have HLT := hid' hlt
      have h16 : (16384 : Int) ≤ (y.size : Int) := by omega
      have HC : Hid (y.extract 0 16384 = ⟨(Hw.part B j).toArray⟩) := hid' (by rw [Hw.cut0, HY.out]; rfl)
      go_wp2_with (at_builtin; refine wpl_appk21 rfl _ _ 28 rfl w.heap.size 9 i0 (.string ⟨#[]⟩) 1 16 Tryd.underlying28 HI.out HZ0.out HZ1.out HZ2.out rfl (by decide) (.slice ao j cap) j _ rfl (HO.out.alloc _) ⟨wr.heap.size, 0, none⟩ 1 1 [.string (y.extract 0 16384)] rfl rfl (new_s22 _ _) (fun u hu => by rw [List.mem_singleton.1 hu]; rfl) (by unfold maxLen; have := HJN.out; omega) (by have := HJN.out; omega) (by simp; have := HB.out.size; omega) ?_; intro v3 w9 hown3 _ hgrow3 hblk3; refine Hid.out ?_)
      refine hid' ?_
      have HB9 : Hid (Below w.heap.size w w9) := hid' ((HB.out.alloc HB.out.size _).grown hgrow3 (by simp; have := HB.out.size; omega) (fun k hk => (HO.out.lt k hk).1))
      obtain ⟨v3o, v3c, hv3⟩ := own_shape hown3
      subst hv3
      rw [HC.out, show ([Value.string ⟨(Hw.part B j).toArray⟩] : List Value) = sC [Hw.part B j] from rfl, ← Hw.sC_app, ← Hw.range_snoc] at hown3
      have HO9 := hid' hown3
      have HY9 : Hid ((y.extract 16384 y.size).data.toList = B.drop ((j + 1) * 16384)) := hid' (by
        have e2 : (y.extract 16384 y.size).data.toList = (B.drop (j * 16384)).drop 16384 := by rw [Hw.cutr, HY.out]
        exact e2.trans (Hw.drop_step B j 16384))
      have HE9 : Hid ((y.extract 16384 y.size).size + 16384 = y.size) := hid' (by rw [ByteArray.size_extract]; have := HLT.out; omega)
      have HJ2 : Hid ((y.extract 16384 y.size).size + (j + 1) * 16384 = B.length) := hid' (by have h1 := HJN.out; have h2 := HE9.out; omega)
      have HJ1 : Hid ((j + 1) * 16384 ≤ B.length) := hid' (Nat.le_trans (Nat.le_add_left ((j + 1) * 16384) _) (Nat.le_of_eq HJ2.out))
      clear hown3 hgrow3 hblk3
      go_wp2
      go_roundw
      case rel => exact ⟨j + 1, y.extract 16384 y.size, v3o, v3c, rfl, rfl, HJ1.out, HJ2.out, HY9, HO9, HB9⟩
      case measure => show (y.extract 16384 y.size).size < y.size; have h2 := HE9.out; omega
    · have hlt2 : ¬ (y.size : Int) > 16384 := by omega
      by_cases he : y.size = 0
      · have hyn : (!y.toList.isEmpty) = false := by
          have : y.toList = [] := List.eq_nil_of_length_eq_zero (by rw [Lib.toList_data, ← Lib.size_eq]; exact he)
          rw [this]; rfl
        have HP : Hid (Hw.parts B = (List.range j).map (Hw.part B)) := hid' (by
          unfold Hw.parts
          congr 2
          unfold Hw.pn; omega)
        have HL : Hid ((Hw.parts B).length = j) := hid' (by rw [HP.out]; simp)
        go_wp2_with fail
        go_ret
        refine ⟨⟨ao, cap, ?_, ?_⟩, HB.out⟩
        · rw [HL.out]; rfl
        · rw [HL.out, HP.out]; exact HO.out
      · have hyn : (!y.toList.isEmpty) = true := by
          have : y.toList ≠ [] := fun e => he (by rw [Lib.size_eq, ← Lib.toList_data, e]; rfl)
          cases hq : y.toList with
          | nil => exact absurd hq this
          | cons a r => rfl
        have HC : Hid (y = ⟨(Hw.part B j).toArray⟩) := hid' (by
          apply ByteArray.ext
          apply Array.ext'
          unfold Hw.part
          rw [← HY.out, List.take_of_length_le (by rw [← Lib.size_eq]; omega)])
        have HP : Hid (Hw.parts B = (List.range (j + 1)).map (Hw.part B)) := hid' (by
          unfold Hw.parts
          congr 2
          unfold Hw.pn; omega)
        have HL : Hid ((Hw.parts B).length = j + 1) := hid' (by rw [HP.out]; simp)
        have h2 := HJN.out
        go_wp2_with (at_builtin; refine wpl_appk21 rfl _ _ 28 rfl w.heap.size 9 i0 (.string ⟨#[]⟩) 1 16 Tryd.underlying28 HI.out HZ0.out HZ1.out HZ2.out rfl (by decide) (.slice ao j cap) j _ rfl (HO.out.alloc _) ⟨wr.heap.size, 0, none⟩ 1 1 [.string y] rfl rfl (new_s22 _ _) (fun u hu => by rw [List.mem_singleton.1 hu]; rfl) (by unfold maxLen; have := HJN.out; omega) (by have := HJN.out; omega) (by simp; have := HB.out.size; omega) ?_; intro v3 w9 hown3 _ hgrow3 hblk3; refine Hid.out ?_)
        refine hid' ?_
        have HB9 : Hid (Below w.heap.size w w9) := hid' ((HB.out.alloc HB.out.size _).grown hgrow3 (by simp; have := HB.out.size; omega) (fun k hk => (HO.out.lt k hk).1))
        obtain ⟨v3o, v3c, hv3⟩ := own_shape hown3
        subst hv3
        rw [HC.out, show ([Value.string ⟨(Hw.part B j).toArray⟩] : List Value) = sC [Hw.part B j] from rfl, ← Hw.sC_app, ← Hw.range_snoc] at hown3
        have HO9 := hid' hown3
        clear hown3 hgrow3 hblk3
        go_wp2
        go_ret
        refine ⟨⟨v3o, v3c, ?_, ?_⟩, HB9.out⟩
        · rw [HL.out]; rfl
        · rw [HL.out, HP.out]; exact HO9.out

end Go.Proofs.YtbpdhcfmdkmoiaaDoor
