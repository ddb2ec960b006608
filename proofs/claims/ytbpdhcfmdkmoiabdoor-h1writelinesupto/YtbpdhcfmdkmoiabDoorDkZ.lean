/-
  A region that draws its order, walked once in the order of the text, where operations are passed by: what is of no program.
-/
import Derived.Test.YtbpdhcfmdkmoiabDoorDkY
namespace Go.Proofs.YtbpdhcfmdkmoiabDoor
open Go.RowKit

/-- What is left of the walk, shut: else the elaborator runs on through the operations that are passed by. -/
structure QS (P : Program) (ops : Array Oper) (C : World → Prop) (Q : Act → Prop) (l : List Oper) (a : Act) : Prop where
  out : wpQuiet P ops C Q l a
theorem QS.nil {P : Program} {ops : Array Oper} {C : World → Prop} {Q : Act → Prop} {a : Act} (h : Q a) : QS P ops C Q [] a := ⟨wpQuiet_nil h⟩
theorem QS.step {P : Program} {ops : Array Oper} {C : World → Prop} {Q : Act → Prop} {a : Act} {o : Oper} {rest : List Oper}
    (h : ∀ K : Act → Prop, (∀ a, QS P ops C Q rest a → K a) → if Region.wanted o (yielded ops a.tmps) then o.quiet P a C K else K (a.put o.dst undef)) : QS P ops C Q (o :: rest) a :=
  ⟨wpQuiet_step (fun K hK => h K (fun a hq => hK a hq.out))⟩
theorem wp_region_below_s {P : Program} {id : Nat} {Q : Exit → Act → World → Prop} {a : Act} {w : World} {l : List Oper} (hm : P.follows .mixedOrders = true) (hB : Region.lexB .any l.toArray = true)
    (h : QS P l.toArray (fun w' => ∃ p : BW w, w' = p.W) (fun a' => ∀ w', (∃ p : BW w, w' = p.W) → Q .normal a' w') l a) : (Code.region id l.toArray true).wp P Q a w :=
  wp_region_below hm hB h.out

end Go.Proofs.YtbpdhcfmdkmoiabDoor
