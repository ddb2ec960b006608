/-
  What a reader is between calls, on lists.
-/
import Derived.Test.YthhpejgpfaikaaaGreatDoorPnBP
namespace Go.Proofs.YthhpejgpfaikaaaGreatDoor
namespace Hr
/-- Between calls: broken, at a body's end, or with bytes left of a body. -/
def Inv (s : St) : Prop := isDead s = true ∨ isFin s = true ∨ Good s
theorem read_dead {s : St} (h : isDead s = true) (d : T8) : read s d = (0, brk s.st, s) := by
  have hm : s.md = (.inr .u64) := by unfold isDead at h; rcases hm : s.md with ((_ | _) | (_ | _ | _ | _ | _ | _ | _ | _)) <;> rw [hm] at h <;> first | rfl | (exact absurd h (by decide))
  unfold read
  rw [rd, show nx s d = (0, brk s.st, s) from by unfold nx; rw [hm]]
  rfl
theorem read_fin {s : St} (h : isFin s = true) (d : T8) : read s d = (0, allP [], fresh s) := by
  have hm : s.md = (.inr .u32) := by unfold isFin at h; rcases hm : s.md with ((_ | _) | (_ | _ | _ | _ | _ | _ | _ | _)) <;> rw [hm] at h <;> first | rfl | (exact absurd h (by decide))
  unfold read
  rw [rd, show nx s d = (0, allP [], fresh s) from by unfold nx; rw [hm]]
  rfl
theorem read_inv (s : St) (h : Inv s) (d : T8) : Inv (read s d).2.2 ∧ ((read s d).2.1.mark = 4 → isDead (read s d).2.2 = true) := by
  cases hd : isDead s with
  | true => rw [read_dead hd]; exact ⟨.inl hd, fun _ => hd⟩
  | false =>
    rcases h with h | h | h
    · rw [h] at hd; cases hd
    · rw [read_fin h]; exact ⟨.inr (.inr (Good.fresh s)), fun h => by simp [allP, pc0] at h⟩
    · have ht := told_feed d s h hd
      rw [← read_feed] at ht
      refine ⟨?_, fun h4 => (ht.bad h4).2.1⟩
      by_cases h0 : (read s d).2.1.mark = 0
      · exact .inr (.inr (ht.nil h0).2.2.1)
      · by_cases h4 : (read s d).2.1.mark = 4
        · exact .inl (ht.bad h4).2.1
        · by_cases h2 : (read s d).2.1.mark = 2
          · rcases (ht.body h2).2.2.2.1 with k | k
            · exact .inr (.inl k)
            · exact .inr (.inr k)
          · exact .inr (.inr (ht.pc h0 h4 h2).2.2.1)
theorem inv_zero (L M : Nat) : Inv (zero L M (.inl false)) := .inr (.inr (good_zero L M))
end Hr

end Go.Proofs.YthhpejgpfaikaaaGreatDoor
