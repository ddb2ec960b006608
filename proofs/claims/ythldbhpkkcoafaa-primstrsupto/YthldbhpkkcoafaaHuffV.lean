/-
  ostlerref03's place, by its contract.
-/
import Derived.Test.YthldbhpkkcoafaaHuffU
namespace Go.Proofs.Ythldbhpkkcoafaa
namespace Hf
/-- A symbol's place in the order. -/
def pos (x : Nat) : Nat := ordsL.idxOf (x : Int)
theorem pos_ok : (List.range 257).all (fun x => decide (ordsL[pos x]? = some (x : Int)) && decide (oL (pos x) = lenN x) && decide (oC (pos x) = codL x) && decide (pos x < 257)) = true := by decide +kernel
theorem pos_at (x : Nat) (h : x < 257) : ordsL[pos x]? = some (x : Int) ∧ oL (pos x) = lenN x ∧ oC (pos x) = codN x ∧ pos x < 257 := by
  have := List.all_eq_true.1 pos_ok x (List.mem_range.2 h)
  simp only [Bool.and_eq_true, decide_eq_true_eq] at this
  rw [cod_eq]
  exact ⟨this.1.1.1, this.1.1.2, this.1.2, this.2⟩
theorem pos_first (l : List Int) (x : Int) : ∀ (i : Nat) (z : Int), i < l.idxOf x → l[i]? = some z → z ≠ x := by
  induction l with
  | nil => intro i z _ hz; simp at hz
  | cons a r ih =>
    intro i z h hz
    rw [List.idxOf_cons] at h
    by_cases ha : a = x
    · simp [ha] at h
    · cases i with
      | zero => simp at hz; subst hz; exact ha
      | succ i =>
        have : (a == x) = false := by simpa using ha
        simp [this] at h
        exact ih i z h (by simpa using hz)
end Hf
open Go.RowKit

set_option maxHeartbeats 1000000 in
theorem rplace_any (v0 v1 v2 : Value) (x : Nat) (hx : x < 257) (w : World) (B : Nat) (h0 : Own w B v0 Hf.ordsL) :
    Calls Try.prog 43 #[.agg #[v0, v1, v2], .int .i64 (x : Int)] w fun e w' => e = .returned (.int .i64 (Hf.pos x : Int)) ∧ Below w.heap.size w w' := by
  obtain ⟨g, cap, rfl⟩ := h0.at (fun e => by have := Hf.ordsL_length; rw [e] at this; simp at this)
  rw [Hf.ordsL_length]
  rw [Hf.ordsL_length] at h0
  obtain ⟨p1, _, _, p4⟩ := Hf.pos_at x hx
  obtain ⟨p, hp⟩ : ∃ p, Hf.pos x = p := ⟨_, rfl⟩
  have HP := hid' hp
  have HO := hid' h0
  rw [hp] at p1 p4
  have HP1 := hid' p1
  clear hp p1 h0
  go_enter Try.func43, Try.ntmps43
  go_wp2_with (refine wpl_box 67 _ rfl rfl #[.slice (some ⟨g, 0, none⟩) 257 cap, v1, v2] (by kernel_rfl) ?_)
  intro b w1 hb ha hl
  have HO1 := hid' (HO.out.below hl)
  have HB := hid' hl
  have hc0 : w1.cell? ⟨b, 0, none⟩ = some (.slice (some ⟨g, 0, none⟩) 257 cap) := ha.cell 0 _ rfl
  clear hb ha hl HO
  go_wp2
  go_loopw [5] (fun s wr => ∃ k : Nat, s = .int .i64 (k : Int) ∧ k ≤ p ∧ w1 = wr) (fun s _ => 257 - (intOf s).toNat)
  case atStart => exact ⟨0, rfl, Nat.zero_le _, rfl⟩
  case round =>
    obtain ⟨k, rfl, hk, rfl⟩ := hrel
    have hk2 : (k : Int) < 257 := by omega
    by_cases hkp : k = p
    · subst hkp
      have hc1 := HO1.out.val k _ HP1.out
      go_wp2
      go_ret
      refine ⟨?_, HB.out⟩
      rw [HP.out]; rfl
    · obtain ⟨z, hz⟩ : ∃ z, Hf.ordsL[k]? = some z := ⟨_, List.getElem?_eq_getElem (by rw [Hf.ordsL_length]; omega)⟩
      have hzx := Hf.pos_first Hf.ordsL (x : Int) k z (by have := HP.out; unfold Hf.pos at this; omega) hz
      have hc1 := HO1.out.val k _ hz
      have hzx2 : (z == (x : Int)) = false := by simpa using hzx
      clear hz hzx
      go_wp2
      go_roundw
      case rel => exact ⟨k + 1, by go_num, by omega, by first | rfl | trivial⟩
      case measure => simp [intOf]; omega

end Go.Proofs.Ythldbhpkkcoafaa
