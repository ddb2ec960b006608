/-
  The document's lines and hex: by their contracts.
-/
import Derived.Test.YtbpdhcfmdkmoiabDoorHwF
import Derived.Test.YtbpdhcfmdkmoiabDoorDkZ
import Derived.Test.YtbpdhcfmdkmoiabDoorHwD
import Derived.BigQuiet
namespace Go.Proofs.YtbpdhcfmdkmoiabDoor
open Go.RowKit

namespace Hw
theorem ln_cat (T N V : T8) : ((((⟨T.toArray⟩ : ByteArray) ++ ⟨N.toArray⟩) ++ ⟨#[58, 32]⟩) ++ ⟨V.toArray⟩) ++ ⟨#[13, 10]⟩ = ⟨(T ++ N ++ [58, 32] ++ V ++ [13, 10]).toArray⟩ := by
  apply ByteArray.ext; simp [ByteArray.data_append]
end Hw

namespace Hw
theorem dig_cut (a : Nat) (h : a < 16) : (⟨#[48, 49, 50, 51, 52, 53, 54, 55, 56, 57, 97, 98, 99, 100, 101, 102]⟩ : ByteArray).extract a (a + 1) = ⟨[hexD a].toArray⟩ := by
  have : ∀ a : Nat, a < 16 → (⟨#[48, 49, 50, 51, 52, 53, 54, 55, 56, 57, 97, 98, 99, 100, 101, 102]⟩ : ByteArray).extract a (a + 1) = ⟨[hexD a].toArray⟩ := by decide
  exact this a h
end Hw

end Go.Proofs.YtbpdhcfmdkmoiabDoor
