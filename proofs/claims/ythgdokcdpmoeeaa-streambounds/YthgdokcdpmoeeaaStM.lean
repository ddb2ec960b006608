/-
  Streams in memory: what is wrong, verdicts, entries, a book.
-/
import Derived.Test.YthgdokcdpmoeeaaProg
import Derived.Test.YthgdokcdpmoeeaaHuffM
import Derived.Test.YthgdokcdpmoeeaaStQ
import Derived.Laws.OwnMore
import Derived.Laws.MakeOwn
import Derived.Great.BuildSlice
import Derived.Laws.StructEq
import Derived.BigRegion
import Derived.BigQuiet
import Derived.Deep.RegionLaw
import Derived.Deep.Cut
import Derived.Lib.SliceRun
namespace Go.Proofs.Ythgdokcdpmoeeaa
open Go.RowKit

theorem szeroW : (Try.prog.info? 29).map (fun i => i.zero) = some (some (.agg #[.bool false, .bool false, .int .i64 0])) := by kernel_rfl
theorem ssizeW : (Try.prog.info? 29).map (·.size) = some 3 := by kernel_rfl
theorem szeroV : (Try.prog.info? 90).map (fun i => i.zero) = some (some (.agg #[.int .u8 0, .bool false, .bool false, .int .i64 0, .bool false])) := by kernel_rfl
theorem ssizeV : (Try.prog.info? 90).map (·.size) = some 5 := by kernel_rfl
theorem szeroE : (Try.prog.info? 81).map (fun i => i.zero) = some (some (.agg #[.int .i64 0, .int .u8 0])) := by kernel_rfl
theorem ssizeE : (Try.prog.info? 81).map (·.size) = some 2 := by kernel_rfl
theorem sinfoE : (Try.prog.info? 81).map (fun i => (i.zero, i.size, i.bytes)) = some (some (.agg #[.int .i64 0, .int .u8 0]), 2, 16) := by kernel_rfl
theorem sinfoI : (Try.prog.info? 3).map (fun i => (i.zero, i.size, i.bytes)) = some (some (.int .i64 0), 1, 8) := by kernel_rfl
theorem szeroB : (Try.prog.info? 79).map (fun i => i.zero) = some (some (.agg #[.int .i64 0, .int .i64 0, .slice none 0 0, .slice none 0 0, .bool false, .int .i64 0])) := by kernel_rfl
theorem ssizeB : (Try.prog.info? 79).map (·.size) = some 6 := by kernel_rfl
theorem sinfo_parts {P : Program} {t : TypeId} {z : Option Value} {s b : Nat} (h : (P.info? t).map (fun i => (i.zero, i.size, i.bytes)) = some (z, s, b)) : ∃ i, P.info? t = some i ∧ i.zero = z ∧ i.size = s ∧ i.bytes = b := by
  cases hq : P.info? t with
  | none => simp [hq] at h
  | some i => simp [hq] at h; exact ⟨i, rfl, h.1, h.2.1, h.2.2⟩

theorem sldW {w : World} {b : Nat} {x0 x1 x2 : Value} (h : Ar w b 29 #[x0, x1, x2]) : (loadVar 29 ⟨b, 0, none⟩).run Try.prog w = .ok (.agg #[x0, x1, x2]) w :=
  run_loadVar_row (P := Try.prog) w b 29 29 _ (0, 0) _ h Try.underlying29 rfl ssizeW
theorem sldV {w : World} {b : Nat} {x0 x1 x2 x3 x4 : Value} (h : Ar w b 90 #[x0, x1, x2, x3, x4]) : (loadVar 90 ⟨b, 0, none⟩).run Try.prog w = .ok (.agg #[x0, x1, x2, x3, x4]) w :=
  run_loadVar_row (P := Try.prog) w b 90 90 _ (0, 0) _ h Try.underlying90 rfl ssizeV

theorem Ar.apart {w : World} {a b : Nat} {T T' : TypeId} {cs cs' : Array Value} (h : Ar w a T cs) (h' : Ar w b T' cs') (hne : T ≠ T') : a ≠ b := by
  rintro rfl
  unfold Ar at h h'
  rw [h] at h'
  injection h' with h'
  injection h' with _ h2 _
  exact hne h2
theorem Below.of_grown {w w' : World} {row : Option Nat} {B : Nat} (hg : w.grownBy w' row) (hr : ∀ k, row = some k → B ≤ k) (hB : B ≤ w.heap.size) : Below B w w' := (Below.refl B w).grown hg hB hr
theorem own_keep {w w' : World} {B : Nat} {e : TypeId} {s : Nat} {v : Value} {n : Nat} {xs : List Value} (h : w.ownsRow B e s v n xs) (hb : Below w.heap.size w w') : w'.ownsRow B e s v n xs := by
  refine ⟨h.1, ?_⟩
  rcases h.2 with h2 | ⟨g, cap, cur, h1, h2, h3, h4⟩
  · exact .inl h2
  · exact .inr ⟨g, cap, cur, h1, h2, (hb.block g (Array.getElem?_eq_some_iff.1 h3).1).trans h3, h4⟩
theorem own_apart {w : World} {B : Nat} {e T : TypeId} {s : Nat} {v : Value} {n : Nat} {xs : List Value} {b : Nat} {c : Array Value} (h : w.ownsRow B e s v n xs) (ha : Ar w b T c) (hne : T ≠ e) : ∀ k, v.ownBlock = some k → k ≠ b := by
  intro k hk e'
  subst e'
  rcases h.2 with ⟨rfl, _⟩ | ⟨g, cap, cur, rfl, _, h3, _⟩
  · simp [Value.ownBlock] at hk
  · simp [Value.ownBlock] at hk
    subst hk
    unfold Ar at ha
    rw [ha] at h3
    injection h3 with h3
    injection h3 with _ h4 _
    exact hne h4
theorem own_same {w w' : World} {B : Nat} {e : TypeId} {s : Nat} {v : Value} {n : Nat} {xs : List Value} (h : w.ownsRow B e s v n xs) (hb : ∀ k, v.ownBlock = some k → w'.heap[k]? = w.heap[k]?) : w'.ownsRow B e s v n xs := by
  refine ⟨h.1, ?_⟩
  rcases h.2 with h2 | ⟨g, cap, cur, h1, h2, h3, h4⟩
  · exact .inl h2
  · exact .inr ⟨g, cap, cur, h1, h2, (hb g (by rw [h1]; rfl)).trans h3, h4⟩
theorem own_shape {w : World} {B : Nat} {e : TypeId} {s : Nat} {v : Value} {n : Nat} {xs : List Value} (h : w.ownsRow B e s v n xs) : ∃ ao cap, v = .slice ao n cap := by
  rcases h.2 with ⟨h, h0⟩ | ⟨g, cap, cur, h, _⟩
  · exact ⟨none, 0, by rw [h, h0]⟩
  · exact ⟨_, _, h⟩
theorem own_ty {w : World} {B : Nat} {e : TypeId} {s : Nat} {v : Value} {n : Nat} {xs : List Value} (h : w.ownsRow B e s v n xs) : ∀ k, v.ownBlock = some k → B ≤ k ∧ ∃ cs, w.heap[k]? = some (.cells cs e (0, 0)) := by
  intro k hk
  rcases h.2 with ⟨rfl, _⟩ | ⟨g, cap, cur, rfl, h1, h3, _⟩
  · simp [Value.ownBlock] at hk
  · simp [Value.ownBlock] at hk
    subst hk
    exact ⟨h1, _, h3⟩

theorem six {p : Nat} (h : p ≤ 5) : p = 0 ∨ p = 1 ∨ p = 2 ∨ p = 3 ∨ p = 4 ∨ p = 5 := by omega
/-- A verdict's cells. -/
def vdC (v : Sm.Vd) : Array Value := #[.int .u8 (v.to : Int), .bool v.is, .bool v.conn, .int .i64 v.code, .bool v.counts]

end Go.Proofs.Ythgdokcdpmoeeaa
