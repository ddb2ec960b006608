/-
  Scripts that are read, and what a book of a script says.
-/
import Derived.Test.YthgdokcdpmoeeaaStV
namespace Go.Proofs.Ythgdokcdpmoeeaa
open Go.RowKit

theorem Scr.shape {w : World} {v : Value} {cs : List Cl} (h : Scr w v cs) : ∃ ao cap, v = .slice ao cs.length cap := by
  rcases h with ⟨h, rfl⟩ | ⟨a, cap, h, _⟩
  · exact ⟨none, 0, h⟩
  · exact ⟨some a, cap, h⟩
theorem Scr.at {w w' : World} {ao : Option Addr} {n cap : Nat} {cs : List Cl} (h : Scr w (.slice ao n cap) cs) (hb : Below w.heap.size w w') (i : Nat) (c : Cl) (hc : cs[i]? = some c) : ∃ a, ao = some a ∧ w'.cell? (a.add (i * 3)) = some (.int .u8 (c.what : Int)) ∧ w'.cell? ⟨(a.add (i * 3)).block, (a.add (i * 3)).off + 1, none⟩ = some (.int .i64 c.id) ∧ w'.cell? ⟨(a.add (i * 3)).block, (a.add (i * 3)).off + 2, none⟩ = some (.bool c.fin) := by
  rcases h with ⟨_, rfl⟩ | ⟨a, cap', hv, hcs⟩
  · simp at hc
  · injection hv with h1 _ _
    obtain ⟨hl, c0, c1, c2⟩ := hcs i c hc
    exact ⟨a, h1, (hb.cell hl).trans c0, (hb.cell (p := ⟨(a.add (i * 3)).block, _, none⟩) hl).trans c1, (hb.cell (p := ⟨(a.add (i * 3)).block, _, none⟩) hl).trans c2⟩
theorem phaseI_new (m : Nat) (id : Int) : Sm.phaseI ⟨m, 0, [], [], false, 0⟩ id = 0 := by
  unfold Sm.phaseI
  split
  · unfold Sm.phase
    rw [if_neg (by simp only; omega)]
  · rfl
theorem phaseI_le {k : Sm.Bk} (h : Sm.Ok k) (id : Int) : Sm.phaseI k id ≤ 5 := by
  unfold Sm.phaseI
  split
  · exact Sm.phase_le h _
  · omega
theorem srank_to (p r : Nat) (hp : p ≤ 5) (hr : Sm.rank p = r) (w : World) : Calls Try.prog 21 #[.int .u8 (p : Int)] w fun e w' => e = .returned (.int .i64 (r : Int)) ∧ w' = w := by
  have := srank_any p hp w
  rwa [hr] at this

end Go.Proofs.Ythgdokcdpmoeeaa
