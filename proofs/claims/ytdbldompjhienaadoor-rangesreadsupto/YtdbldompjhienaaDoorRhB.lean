/-
  The code's taken: by its contract.
-/
import Derived.Test.YtdbldompjhienaaDoorRhA
import Derived.Test.YtdbldompjhienaaDoorShelf
import Derived.Test.YtdbldompjhienaaDoorShCut
import Derived.Test.YtdbldompjhienaaDoorLsts
namespace Go.Proofs.YtdbldompjhienaaDoor
open Go.RowKit

theorem size_l16 (l : List UInt8) : (⟨l.toArray⟩ : ByteArray).size = l.length := by simp [ByteArray.size]
/-- What a world holds for the library: the table of powers, and MaxLen's cell. -/
def TB16 (w : World) : Prop := Lib.TabIs Tryd.prog w "internal/strconv.uint64pow10" .u64 Lib.pow10Tab ∧ ∃ m, w.cell? ⟨0, 0, none⟩ = some (.int .i64 m)
theorem cell_lt16 {w : World} {k : Nat} {v : Value} (h : w.cell? ⟨k, 0, none⟩ = some v) : k < w.heap.size := by
  rcases Nat.lt_or_ge k w.heap.size with h1 | h1
  · exact h1
  · simp [World.cell?, Array.getElem?_eq_none h1] at h
theorem TB16.keep {w w' : World} (h : TB16 w) (hb : Below w.heap.size w w') : TB16 w' := by
  obtain ⟨h1, m, h2⟩ := h
  exact ⟨tab_below h1 hb, m, (hb.cell (p := ⟨0, 0, none⟩) (cell_lt16 h2)).trans h2⟩
/-- strings.Cut at any text. -/
theorem scut16 (s p : ByteArray) (w : World) (hs : s.size ≤ 1048576) (hT : TB16 w) :
    Calls Tryd.prog 36 #[.string s, .string p] w fun e w' => e = .returned (.tuple #[.string ⟨(Lib.cut s.data.toList p.data.toList).1.toArray⟩, .string ⟨(Lib.cut s.data.toList p.data.toList).2.1.toArray⟩, .bool (Lib.cut s.data.toList p.data.toList).2.2]) ∧ Below w.heap.size w w' := by
  obtain ⟨_, m, hm⟩ := hT
  refine Calls.mono (show Calls Tryd.prog 36 _ _ _ from Any.strings_Cut Tryd.lcut s p m w (by omega) hm) ?_
  rintro e w' ⟨rfl, n, rfl⟩
  exact ⟨rfl, below_drewN w n⟩
namespace Rg
/-- What is left to gather of a text behind 'part'. -/
def left (most : Nat) (b : Bool) (t : T8) : List Nat := if b then nums most 0 t ++ taken most t else []
theorem cut_le (l p : T8) : (Lib.cut l p).2.1.length ≤ l.length := by
  unfold Lib.cut
  split
  · simp only [List.length_drop]; omega
  · simp
theorem taken_cut (most : Nat) (l : T8) : taken most l = left most (Lib.cut l sPart).2.2 (Lib.cut l sPart).2.1 ∧ ((Lib.cut l sPart).2.2 = true → (Lib.cut l sPart).2.1.length < l.length) := by
  unfold left
  rcases afters_cut l with ⟨h1, h2⟩ | ⟨h1, h2, h3⟩
  · rw [h1]; exact ⟨by unfold taken; rw [h2]; rfl, fun h => by cases h⟩
  · rw [h1, if_pos rfl]
    exact ⟨by conv => lhs; unfold taken; rw [h2]
              rfl, fun _ => h3⟩
end Rg

set_option maxHeartbeats 1600000 in
set_option maxRecDepth 20000 in
theorem ctaken16 (s : ByteArray) (l : List UInt8) (hl : s.data.toList = l) (w : World) (hs : s.size ≤ 1048576) (hT : TB16 w) :
    Calls Tryd.prog 31 #[.string s] w fun e w' => (∃ m ro rc, e = .returned (.slice ro m rc) ∧ (Rg.taken l.length l).length = m ∧ w'.ownsRow w.heap.size 3 1 (.slice ro m rc) m (nC16 (Rg.taken l.length l))) ∧ Below w.heap.size w w' := by
  have HSL : Hid (l.length = s.size) := hid' (by rw [Lib.size_eq, hl])
  have HLL : Hid (l.length ≤ 1048576) := hid' (by rw [HSL.out]; omega)
  have HC0 := hid' (scut16 s ⟨#[112, 97, 114, 116]⟩ w hs hT)
  have HT := hid' hT
  rw [hl] at HC0
  rw [HSL.out]
  obtain ⟨x0, hx0⟩ : ∃ x : ByteArray, (⟨(Lib.cut l (⟨#[112, 97, 114, 116]⟩ : ByteArray).data.toList).1.toArray⟩ : ByteArray) = x := ⟨_, rfl⟩
  obtain ⟨y0, hy0⟩ : ∃ y : ByteArray, (⟨(Lib.cut l (⟨#[112, 97, 114, 116]⟩ : ByteArray).data.toList).2.1.toArray⟩ : ByteArray) = y := ⟨_, rfl⟩
  obtain ⟨b0, hb0⟩ : ∃ b, (Lib.cut l (⟨#[112, 97, 114, 116]⟩ : ByteArray).data.toList).2.2 = b := ⟨_, rfl⟩
  rw [hx0, hy0, hb0] at HC0
  have HTK := hid' (Rg.taken_cut s.size l)
  have HYS0 : Hid (y0.size ≤ s.size) := hid' (by rw [← hy0, size_l16, ← HSL.out]; exact Rg.cut_le _ _)
  have HY0 : Hid (Rg.taken s.size l = Rg.left s.size b0 y0.data.toList ∧ (b0 = true → y0.data.toList.length < l.length)) := hid' (by
    rw [← hy0, ← hb0]; exact HTK.out)
  clear hT hl hx0 hy0 hb0 HTK
  go_enter Tryd.func31, Tryd.ntmps31
  go_wp2_with fail
  refine HC0.out.mono ?_
  rintro e w1 ⟨rfl, hb1⟩
  have HB1 := hid' hb1
  clear hb1 HC0
  go_wp2
  go_loopw [0, 3, 6] (fun s0 s3 s6 wr => ∃ (y : ByteArray) (c : Nat) (b : Bool) (ds : List Nat) (ro : Option Addr) (rc : Nat), s0 = .string y ∧ s6 = .bool b ∧ s3 = .slice ro c rc ∧ y.size ≤ s.size ∧ Hid (ds.length = c) ∧ Hid (Rg.taken s.size l = ds ++ Rg.left s.size b y.data.toList) ∧ Hid (wr.ownsRow w.heap.size 3 1 (.slice ro c rc) c (nC16 ds)) ∧ Hid (Below w.heap.size w wr) ) (fun s0 _ s6 _ => match s0, s6 with | .string y, .bool true => y.size + 1 | _, _ => 0)
  case atStart => exact ⟨y0, 0, b0, [], none, 0, rfl, rfl, rfl, HYS0.out, hid' rfl, hid' (by rw [List.nil_append]; exact HY0.out.1), hid' (World.ownsRow_nil _ _ _ _), HB1⟩
  case round =>
    obtain ⟨y, c, b, ds, ro, rc, rfl, rfl, rfl, hy, HCL, HTK, HO, HB⟩ := hrel
    cases b
    · have HE : Hid (Rg.taken s.size l = ds) := hid' (by rw [HTK.out]; unfold Rg.left; simp)
      go_wp2
      go_ret
      exact ⟨⟨c, ro, rc, rfl, by rw [HE.out]; exact HCL.out, by rw [HE.out]; exact HO.out⟩, HB.out⟩
    · have HE : Hid (Rg.taken s.size l = (ds ++ Rg.nums s.size 0 y.data.toList) ++ Rg.taken s.size y.data.toList) := hid' (by rw [HTK.out, List.append_assoc]; unfold Rg.left; simp)
      have hcb : c ≤ s.size := by
        have h1 := (Rg.taken_bound s.size l.length l (Nat.le_refl _)).1
        rw [HE.out, List.length_append, List.length_append, HCL.out, HSL.out] at h1
        omega
      have HAP := hid' (fun W (h : W.ownsRow w.heap.size 3 1 (.slice ro c rc) c (nC16 ds)) (hb : w.heap.size ≤ W.heap.size) => capp16 w.heap.size c rc ro ds HCL.out y y.data.toList rfl s.size (by omega) W h hb (by omega) (by omega))
      have HCT := hid' (fun W (h : TB16 W) => scut16 y ⟨#[112, 97, 114, 116]⟩ W (by omega) h)
      obtain ⟨x2, hx2⟩ : ∃ x : ByteArray, (⟨(Lib.cut y.data.toList (⟨#[112, 97, 114, 116]⟩ : ByteArray).data.toList).1.toArray⟩ : ByteArray) = x := ⟨_, rfl⟩
      obtain ⟨y2, hy2⟩ : ∃ y' : ByteArray, (⟨(Lib.cut y.data.toList (⟨#[112, 97, 114, 116]⟩ : ByteArray).data.toList).2.1.toArray⟩ : ByteArray) = y' := ⟨_, rfl⟩
      obtain ⟨b2, hb2⟩ : ∃ b, (Lib.cut y.data.toList (⟨#[112, 97, 114, 116]⟩ : ByteArray).data.toList).2.2 = b := ⟨_, rfl⟩
      rw [hx2, hy2, hb2] at HCT
      have HTK2 : Hid (Rg.taken s.size y.data.toList = Rg.left s.size b2 y2.data.toList ∧ (b2 = true → y2.size < y.size)) := hid' (by
        rw [← hy2, ← hb2, Lib.size_eq y, size_l16]; exact Rg.taken_cut s.size y.data.toList)
      have HYS : Hid (y2.size ≤ y.size) := hid' (by rw [← hy2, Lib.size_eq y, size_l16]; exact Rg.cut_le _ _)
      clear hx2 hy2 hb2
      go_wp2_with fail
      refine (HAP.out _ HO.out HB.out.size).mono ?_
      rintro e w2 ⟨⟨m, po, pc, rfl, hm, hown⟩, hbl⟩
      have HB2 := hid' (HB.out.trans hbl)
      have HO2 := hid' hown
      have HM2 := hid' hm
      have HT2 := hid' (HT.out.keep HB2.out)
      clear hbl hown hm
      go_wp2_with fail
      refine (HCT.out _ HT2.out).mono ?_
      rintro e w3 ⟨rfl, hb3⟩
      have HB3 := hid' (below_two HB2.out hb3)
      have HO3 := hid' (own_kp16 HO2.out hb3)
      clear hb3
      go_wp2
      go_roundw
      case rel => exact ⟨y2, m, b2, ds ++ Rg.nums s.size 0 y.data.toList, po, pc, rfl, rfl, rfl, by have := HYS.out; omega, HM2, hid' (by rw [HE.out, HTK2.out.1]), HO3, HB3⟩
      case measure =>
        cases b2
        · simp
        · have := HTK2.out.2 rfl
          simp; omega

end Go.Proofs.YtdbldompjhienaaDoor
