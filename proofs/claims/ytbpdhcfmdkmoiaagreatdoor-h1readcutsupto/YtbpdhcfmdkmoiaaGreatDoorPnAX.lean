/-
  A text's parts about its spaces; isVersion, strings.SplitN: by their contracts.
-/
import Derived.Shelf.Strings.Split
import Derived.Test.YtbpdhcfmdkmoiaaGreatDoorPnAW
namespace Go.Proofs.YtbpdhcfmdkmoiaaGreatDoor
open Go.RowKit

namespace Hr
theorem splitK_cut (c : UInt8) (k : Nat) (l : T8) : Lib.splitK [c] 0 (k + 1) l = if (Lib.cut l [c]).2.2 then (Lib.cut l [c]).1 :: Lib.splitK [c] 0 k (Lib.cut l [c]).2.1 else [l] := by
  rw [Lib.splitK, Lib.index_one]
  rcases cut_form c l with ⟨h, hc⟩ | ⟨a, b, hl, ha, hc⟩
  · rw [hc, idx_none h]; rfl
  · rw [hc, hl, idx_some ha]
    have h0 : (((a.length : Int) == -1)) = false := by rw [beq_eq_false_iff_ne]; omega
    rw [h0]
    simp
theorem splitK_more (c : UInt8) : ∀ (k : Nat) (l : T8), l.length ≤ k → ∀ j, Lib.splitK [c] 0 (k + j) l = Lib.splitK [c] 0 k l
  | 0, l, h, j => by
    have hl : l = [] := List.eq_nil_of_length_eq_zero (by omega)
    subst hl
    cases j with
    | zero => rfl
    | succ j =>
      rw [Nat.zero_add, splitK_cut, cut_no1 (by simp)]
      rfl
  | k + 1, l, h, j => by
    rw [Nat.add_right_comm, splitK_cut, splitK_cut]
    have h1 := cut_len c l
    split
    · rename_i ht
      rw [ht, if_pos rfl] at h1
      rw [splitK_more c k _ (by omega) j]
    · rfl
/-- The parts as SplitN makes them. -/
theorem three_split (l : T8) : match three l with
    | none => (Lib.splitK [32] 0 3 l).length ≠ 3
    | some (a, b, c) => Lib.splitK [32] 0 3 l = [a, b, c] := by
  unfold three
  rw [splitK_cut, splitK_cut, splitK_cut]
  generalize (Lib.cut l [32]) = p
  generalize (Lib.cut p.2.1 [32]) = q
  generalize (Lib.cut q.2.1 [32]) = r
  obtain ⟨p1, p2, p3⟩ := p
  obtain ⟨q1, q2, q3⟩ := q
  obtain ⟨r1, r2, r3⟩ := r
  cases p3 <;> cases q3 <;> cases r3 <;> simp [Lib.splitK]
theorem isV_eq (s : ByteArray) (h : s.size = 8) : isV s.data.toList = ((s.extract 0 5).toList == [72, 84, 84, 80, 47] && Tx.digC ((s[5]'(by omega)).toNat : Int) && (((s[6]'(by omega)).toNat : Int) == 46) && Tx.digC ((s[7]'(by omega)).toNat : Int)) := by
  have hl : s.data.toList.length = 8 := by rw [← Lib.size_eq]; exact h
  have g5 : s.data.toList.getD 5 0 = s[5]'(by omega) := by rw [List.getD_eq_getElem?_getD, Lib.data_getElem? s 5 (by omega)]; rfl
  have g6 : s.data.toList.getD 6 0 = s[6]'(by omega) := by rw [List.getD_eq_getElem?_getD, Lib.data_getElem? s 6 (by omega)]; rfl
  have g7 : s.data.toList.getD 7 0 = s[7]'(by omega) := by rw [List.getD_eq_getElem?_getD, Lib.data_getElem? s 7 (by omega)]; rfl
  have e6 : (s[6]'(by omega) == 46) = (((s[6]'(by omega)).toNat : Int) == 46) := by
    rw [Bool.eq_iff_iff, beq_iff_eq, beq_iff_eq]
    constructor
    · intro e; rw [e]; rfl
    · intro e; apply UInt8.toNat_inj.1; have : (46 : UInt8).toNat = 46 := rfl; omega
  have et : (s.extract 0 5).toList = s.data.toList.take 5 := by rw [← Lib.extract_from_zero, Lib.toList_data]
  unfold isV
  rw [g5, g6, g7, e6, et, hl]
  simp
theorem isV_no (s : ByteArray) (h : s.size ≠ 8) : isV s.data.toList = false := by
  have hl : (s.data.toList.length == 8) = false := by rw [beq_eq_false_iff_ne, ← Lib.size_eq]; exact h
  unfold isV
  rw [hl]
  rfl
end Hr

set_option maxHeartbeats 2000000 in
set_option maxRecDepth 20000 in
theorem civ21 (s : ByteArray) (w : World) : Calls Tryz.prog 36 #[.string s] w fun e w' => e = .returned (.bool (Hr.isV s.data.toList)) ∧ w' = w := by
  by_cases h8 : s.size = 8
  · have HE := hid' (Hr.isV_eq s h8)
    have i5 : 5 < s.size := by omega
    have i6 : 6 < s.size := by omega
    have i7 : 7 < s.size := by omega
    have hz : (s.size : Int) = 8 := by omega
    have H5 : Hid (∀ W, Calls Tryz.prog 44 #[.int .u8 ((s[5]'i5).toNat : Int)] W fun e w' => e = .returned (.bool (Tx.digC ((s[5]'i5).toNat : Int))) ∧ w' = W) := hid' (fun W => cdig21 _ W)
    have H7 : Hid (∀ W, Calls Tryz.prog 44 #[.int .u8 ((s[7]'i7).toNat : Int)] W fun e w' => e = .returned (.bool (Tx.digC ((s[7]'i7).toNat : Int))) ∧ w' = W) := hid' (fun W => cdig21 _ W)
    obtain ⟨d5, e5⟩ : ∃ d, Tx.digC ((s[5]'i5).toNat : Int) = d := ⟨_, rfl⟩
    obtain ⟨d7, e7⟩ : ∃ d, Tx.digC ((s[7]'i7).toNat : Int) = d := ⟨_, rfl⟩
    rw [e5] at HE H5
    rw [e7] at HE H7
    clear e5 e7
    cases c1 : ((s.extract 0 5).toList == [72, 84, 84, 80, 47])
    · have HR : Hid (Hr.isV s.data.toList = false) := hid' (by rw [HE.out, c1]; rfl)
      rw [HR.out]
      go_enter Tryz.func36, Tryz.ntmps36
      go_wp2
      go_ret
      exact ⟨rfl, rfl⟩
    cases d5
    · have HR : Hid (Hr.isV s.data.toList = false) := hid' (by rw [HE.out, c1]; rfl)
      rw [HR.out]
      go_enter Tryz.func36, Tryz.ntmps36
      go_wp2_with (first | (refine (H5.out _).mono ?_; rintro e w1 ⟨rfl, hw1⟩; subst w1))
      go_ret
      exact ⟨rfl, rfl⟩
    cases c6 : (((s[6]'i6).toNat : Int) == 46)
    · have HR : Hid (Hr.isV s.data.toList = false) := hid' (by rw [HE.out, c1, c6]; rfl)
      rw [HR.out]
      go_enter Tryz.func36, Tryz.ntmps36
      go_wp2_with (first | (refine (H5.out _).mono ?_; rintro e w1 ⟨rfl, hw1⟩; subst w1))
      go_ret
      exact ⟨rfl, rfl⟩
    have HR : Hid (Hr.isV s.data.toList = d7) := hid' (by rw [HE.out, c1, c6]; rfl)
    rw [HR.out]
    go_enter Tryz.func36, Tryz.ntmps36
    go_wp2_with (refine (H5.out _).mono ?_; rintro e w1 ⟨rfl, hw1⟩; subst w1; refine Hid.out ?_)
    refine hid' ?_
    go_wp2_with (refine (H7.out _).mono ?_; rintro e w1 ⟨rfl, hw1⟩; subst w1)
    go_ret
    exact ⟨rfl, rfl⟩
  · have HR := hid' (Hr.isV_no s h8)
    have hz : ((s.size : Int) == 8) = false := by rw [beq_eq_false_iff_ne]; omega
    rw [HR.out]
    clear h8
    go_enter Tryz.func36, Tryz.ntmps36
    go_wp2
    go_ret
    exact ⟨rfl, rfl⟩

/-- What SplitN hands back. -/
def Spl21 (l : List UInt8) (w' : World) (g n : Nat) : Prop :=
  match Hr.three l with
  | none => n ≠ 3
  | some (a, b, c) => n = 3 ∧ w'.cell? ⟨g, 0, none⟩ = some (.string (Hr.ba a)) ∧ w'.cell? ⟨g, 1, none⟩ = some (.string (Hr.ba b)) ∧ w'.cell? ⟨g, 2, none⟩ = some (.string (Hr.ba c))
theorem csplit21 (s : ByteArray) (w : World) (hT : TB w) (hs : s.size ≤ 1048576) :
    Calls Tryz.prog 34 #[.string s, .string ⟨#[32]⟩, .int .i64 4] w fun e w' => (∃ n cap, e = .returned (.slice (some ⟨w.heap.size, 0, none⟩) n cap) ∧ n ≤ 4 ∧ Spl21 s.data.toList w' w.heap.size n) ∧ Below w.heap.size w w' := by
  obtain ⟨mm, hmm⟩ := hT.2
  refine (Tryz.strings_SplitN s ⟨#[32]⟩ 4 mm w (by omega) hmm (by decide) (by decide) (by decide)).mono ?_
  rintro e w' ⟨rfl, rfl⟩
  have hd := Lib.splitB_data ⟨#[32]⟩ 0 (min 4 (s.size + 1) - 1) s
  have hk : Lib.splitK [32] 0 (min 4 (s.size + 1) - 1) s.data.toList = Lib.splitK [32] 0 3 s.data.toList := by
    by_cases h : s.data.toList.length ≤ 3
    · have := Hr.splitK_more 32 s.data.toList.length s.data.toList (Nat.le_refl _) (3 - s.data.toList.length)
      rw [show s.data.toList.length + (3 - s.data.toList.length) = 3 by omega] at this
      rw [this, show min 4 (s.size + 1) - 1 = s.data.toList.length by rw [← Lib.size_eq] at h ⊢; omega]
    · rw [show min 4 (s.size + 1) - 1 = 3 by rw [← Lib.size_eq] at h; omega]
  have hd2 : (Lib.splitB ⟨#[32]⟩ 0 (min 4 (s.size + 1) - 1) s).map (·.data.toList) = Lib.splitK [32] 0 3 s.data.toList := hd.trans hk
  have hn := Lib.splitB_length_le ⟨#[32]⟩ 0 (min 4 (s.size + 1) - 1) s
  obtain ⟨ps, hps⟩ : ∃ ps, Lib.splitB ⟨#[32]⟩ 0 (min 4 (s.size + 1) - 1) s = ps := ⟨_, rfl⟩
  rw [hps] at hd2 hn ⊢
  refine ⟨⟨_, _, rfl, by omega, ?_⟩, bl_alloc w _⟩
  have h3 := Hr.three_split s.data.toList
  unfold Spl21
  cases ht : Hr.three s.data.toList with
  | none =>
    rw [ht] at h3
    simp only at h3 ⊢
    rw [← hd2, List.length_map] at h3
    exact h3
  | some t =>
    obtain ⟨a, b, c⟩ := t
    rw [ht] at h3
    simp only at h3 ⊢
    rw [h3] at hd2
    obtain ⟨x0, x1, x2, hx⟩ : ∃ x0 x1 x2, ps = [x0, x1, x2] := by
      match ps, congrArg List.length hd2 with
      | [x0, x1, x2], _ => exact ⟨x0, x1, x2, rfl⟩
    subst hx
    simp only [List.map_cons, List.map_nil, List.cons.injEq, and_true] at hd2
    obtain ⟨e0, e1, e2⟩ := hd2
    have hb : ∀ (x : ByteArray) (l : List UInt8), x.data.toList = l → x = Hr.ba l := fun x l e => by rw [← e]; rfl
    have hA : Ar (w.alloc (.cells (Lib.cellsOf [x0, x1, x2] (min 4 (s.size + 1))) 9)) w.heap.size 9 (Lib.cellsOf [x0, x1, x2] (min 4 (s.size + 1))) := heap_alloc_last w _
    refine ⟨rfl, ?_, ?_, ?_⟩
    · rw [← hb x0 a e0]; exact hA.cell 0 _ (by simp [Lib.cellsOf])
    · rw [← hb x1 b e1]; exact hA.cell 1 _ (by simp [Lib.cellsOf])
    · rw [← hb x2 c e2]; exact hA.cell 2 _ (by simp [Lib.cellsOf])

end Go.Proofs.YtbpdhcfmdkmoiaaGreatDoor
