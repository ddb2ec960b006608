/-
  A piece's body is no longer than the bytes that a call takes: what is of no program.
-/
import Derived.Test.YtbpdhcfmdkmoiaaGreatDoorPnBI
namespace Go.Proofs.YtbpdhcfmdkmoiaaGreatDoor
namespace Hr

theorem bd_addF (s : St) (l : T8) : (addF s l).1.bd.size = 0 := by
  unfold addF; split
  · split <;> rfl
  · rfl
theorem bd_start (s : St) (l : T8) : (useStart s l).1.bd.size = 0 := by
  unfold useStart; split
  · rfl
  · split <;> rfl
theorem bd_field (s : St) (l : T8) : (useField s l).1.bd.size = 0 := by
  unfold useField; split
  · split <;> rfl
  · exact bd_addF _ _
theorem bd_size (s : St) (l : T8) : (useSize s l).1.bd.size = 0 := by
  unfold useSize; split
  · rfl
  · split
    · rfl
    · split <;> rfl
theorem bd_trailer (s : St) (l : T8) : (useTrailer s l).1.bd.size = 0 := by
  unfold useTrailer; split
  · split <;> rfl
  · exact bd_addF _ _
theorem bd_useL (s : St) (l : T8) : (useL s l).1.bd.size = 0 := by
  unfold useL; split
  · exact bd_start _ _
  · exact bd_field _ _
  · exact bd_size _ _
  · exact bd_trailer _ _
theorem bd_takeB (s : St) (b : UInt8) : (takeB s b).1.bd.size = 0 := by
  unfold takeB; split
  · rfl
  · split
    · exact bd_useL _ _
    · split
      · rfl
      · split <;> rfl
theorem bd_rl : ∀ (d : T8) (s : St), (rl s d).2.1.bd.size = 0
  | [], _ => rfl
  | b :: r, s => by
    rw [rl]
    split
    · exact bd_takeB _ _
    · exact bd_rl r _
theorem bd_one (s : St) (c : UInt8) (md : Md) (d : T8) : (oneB s c md d).2.1.bd.size = 0 := by
  cases d with
  | nil => rfl
  | cons b r => rw [oneB]; split <;> rfl
theorem bd_part (s : St) (md : Md) (d : T8) : (part s md d).2.1.bd.size ≤ (part s md d).1 := by
  unfold part; split
  · exact Nat.zero_le _
  · show (ba (d.take (min s.left d.length))).size ≤ min s.left d.length
    unfold ba
    rw [Lib.size_eq]
    simp
theorem bd_nx (s : St) (d : T8) : (nx s d).2.1.bd.size ≤ (nx s d).1 := by
  unfold nx; split
  · exact bd_part _ _ _
  · exact bd_part _ _ _
  · rw [bd_one]; exact Nat.zero_le _
  · rw [bd_one]; exact Nat.zero_le _
  · exact Nat.zero_le _
  · exact Nat.zero_le _
  · rw [bd_rl]; exact Nat.zero_le _
theorem bd_rd : ∀ (k : Nat) (s : St) (d : T8), (rd k s d).2.1.bd.size ≤ (rd k s d).1
  | 0, _, _ => Nat.zero_le _
  | k + 1, s, d => by
    rw [rd]
    split
    · exact bd_nx s d
    · have ih := bd_rd k (nx s d).2.2 (d.drop (nx s d).1)
      simp only
      omega
theorem read_bd (s : St) (d : T8) : (read s d).2.1.bd.size ≤ (read s d).1 := bd_rd _ s d

end Hr

end Go.Proofs.YtbpdhcfmdkmoiaaGreatDoor
