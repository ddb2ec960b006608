/-
  Fields that are laid behind a row of one's own.
-/
import Derived.Test.YtkfekopenahmdaaGreatDoorMcDE
import Derived.Laws.AppendOwnNone
namespace Go.Proofs.YtkfekopenahmdaaGreatDoor
open Go.RowKit

theorem fC_one (l : List Fd) : ∀ u ∈ fC l, u.oneCell' = true := by
  intro u hu
  unfold fC at hu
  obtain ⟨f, _, hf⟩ := List.mem_flatMap.1 hu
  simp [fV] at hf
  rcases hf with rfl | rfl <;> rfl
theorem wpl_appL {w : World} {ops : Array Oper} {rest : List Oper} {o : Oper} {a : Act} {Q : Exit → Act → World → Prop} (hgd : o.guard = none) (s x : Operand)
    (ho : o.op = .call { callee := .builtin .append, args := #[s, x], argTypes := #[22, 22] })
    (B : Nat) (v : Value) (n : Nat) (xs : List Value) (hs : a.eval s = v) (hown : w.ownsRow B 42 2 v n xs) (y : Value) (l : List Fd) (hx : a.eval x = y) (hy : FW w y l)
    (h63 : n + l.length ≤ 4398046511103) (hB : B ≤ w.heap.size)
    (h : ∀ v' w', w'.ownsRow B 42 2 v' (n + l.length) (xs ++ fC l) → w.grownBy w' v.ownBlock → (v'.ownBlock = v.ownBlock ∨ v'.ownBlock = some w.heap.size) → wpList Tryz.prog ops Q rest (a.put o.dst v') w') :
    wpList Tryz.prog ops Q (o :: rest) a w := by
  obtain ⟨i0, hi0, hz0, hz1, hz2⟩ := minfo_parts infoF14
  rcases hy with ⟨rfl, rfl⟩ | ⟨ad, cap, rfl, hc, hcells⟩
  · refine wpList_append_own_none hgd s x 22 ho B 42 i0 2 Tryz.underlying22 hi0 v n xs hs hown hx ?_
    refine h v w ?_ ⟨rfl, rfl, rfl, Nat.le_refl _, fun _ _ _ => rfl⟩ (.inl rfl)
    simpa [fC] using hown
  · refine wpList_append_own_at w hgd s x 22 ho B 42 i0 (.agg #[.string ⟨#[]⟩, .string ⟨#[]⟩]) 2 32 Tryz.underlying22 hi0 hz0 hz1 hz2 rfl (by decide) v n xs hs hown ad l.length cap (fC l) hx (fC_length l) (fun j u hj => (hcells j u hj).2) (fC_one l) (by unfold maxLen; omega) (by omega) hB ?_
    intro v' w' h1 h2 _ h4
    exact h v' w' h1 h2 h4
theorem below_grown {B : Nat} {w0 w w' : World} {v : Value} {n : Nat} {xs : List Value} (hb : Below B w0 w) (hB : B ≤ w.heap.size) (ho : w.ownsRow B 42 2 v n xs) (hg : w.grownBy w' v.ownBlock) : Below B w0 w' :=
  hb.grown hg hB (fun k hk => (own_ty ho k hk).1)

end Go.Proofs.YtkfekopenahmdaaGreatDoor
