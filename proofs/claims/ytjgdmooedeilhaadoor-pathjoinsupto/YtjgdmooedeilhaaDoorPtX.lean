/-
  The code's Clean, Parts and Escape, as the laws call them: by their contracts.
-/
import Derived.Test.YtjgdmooedeilhaaDoorPxC
import Derived.Test.YtjgdmooedeilhaaDoorPxE
namespace Go.Proofs.YtjgdmooedeilhaaDoor
open Go.RowKit

/-- What a world holds for the library: nothing is asked of it. -/
def CT17 (_w : World) : Prop := True
theorem CT17.keep {w w' : World} (_h : CT17 w) (_hb : Below w.heap.size w w') : CT17 w' := trivial

theorem cclean17 (s : ByteArray) (l : List UInt8) (hl : s.data.toList = l) (w : World) (hs : s.size ≤ 4194304) (_hT : CT17 w) :
    Calls Tryd.prog 8 #[.string s] w fun e w' => e = .returned (clV17 (Pt.clean l)) ∧ Below w.heap.size w w' := xclean17 s l hl w hs

theorem cparts17 (s : ByteArray) (l : List UInt8) (hl : s.data.toList = l) (w : World) (hs : s.size ≤ 4194304) (_hT : CT17 w) :
    Calls Tryd.prog 10 #[.string s] w fun e w' => (∃ m ro rc, e = .returned (.slice ro m rc) ∧ (Pt.parts l).length = m ∧ w'.ownsRow w.heap.size 9 1 (.slice ro m rc) m (sC17 (Pt.parts l))) ∧ Below w.heap.size w w' := xparts17 s l hl w hs

theorem cesc17 (s : ByteArray) (l : List UInt8) (hl : s.data.toList = l) (w : World) (hs : s.size ≤ 4194304) (_hT : CT17 w) :
    Calls Tryd.prog 12 #[.string s] w fun e w' => e = .returned (.string ⟨(Pt.esc l).toArray⟩) ∧ Below w.heap.size w w' := xesc17 s l hl w hs

end Go.Proofs.YtjgdmooedeilhaaDoor
