/-
  The document's Decimal, by its contract.
-/
import Derived.Test.YtbpdhcfmdkmoiabDoorLsts
import Derived.Test.YtbpdhcfmdkmoiabDoorPureDec
import Derived.Deep.RegionWith
import Derived.Deep.DeepFit
namespace Go.Proofs.YtbpdhcfmdkmoiabDoor
open Go.RowKit

theorem str_snoc (q : List UInt8) (c : UInt8) : (⟨q.toArray⟩ : ByteArray) ++ ⟨#[c]⟩ = ⟨(q ++ [c]).toArray⟩ := by
  apply ByteArray.ext; simp
theorem bcell {W w1 : World} (hb : Below W.heap.size W w1) : ∀ b o, b < W.heap.size → w1.cell? ⟨b, o, none⟩ = W.cell? ⟨b, o, none⟩ := fun b o h => hb.cell (p := ⟨b, o, none⟩) h
theorem one_back (x : Int) (h0 : 0 ≤ x) (h1 : x ≤ 255) (W : World) (b : Nat) (h : W.cell? ⟨b, 0, none⟩ = some (.int .u8 x)) :
    (convert 55 9 (.slice (some ⟨b, 0, none⟩) 1 1)).run Tryd.prog W = .ok (.string ⟨#[UInt8.ofNat x.toNat]⟩) W := by
  have hx : x = ((UInt8.ofNat x.toNat).toNat : Int) := by simp; omega
  refine run_convert_bytes_back W _ _ 5 ⟨b, 0, none⟩ 1 [UInt8.ofNat x.toNat] Tryd.underlying55 Tryd.underlying5 Tryd.underlying9 ?_
  intro j hj
  obtain rfl : j = 0 := by simpa using hj
  rw [show (⟨b, 0, none⟩ : Addr).add 0 = ⟨b, 0, none⟩ by simp [Addr.add], h]
  simp only [List.getElem_cons_zero]
  rw [← hx]
theorem one_new (x : Int) (h0 : 0 ≤ x) (h1 : x ≤ 255) (W : World) :
    (convert 55 9 (.slice (some ⟨W.heap.size, 0, none⟩) 1 1)).run Tryd.prog (W.alloc (.cells #[.int .u8 x] 5)) = .ok (.string ⟨#[UInt8.ofNat x.toNat]⟩) (W.alloc (.cells #[.int .u8 x] 5)) :=
  one_back x h0 h1 _ _ (by rw [World.cell?_alloc_mark]; rfl)

end Go.Proofs.YtbpdhcfmdkmoiabDoor
