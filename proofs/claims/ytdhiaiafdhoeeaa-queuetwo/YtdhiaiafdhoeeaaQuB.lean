/-
  What the queue's Drain needs, of no program.
-/
import Derived.Test.YtdhiaiafdhoeeaaQuA
import Derived.Laws.MakeOwn
namespace Go.Proofs.Ytdhiaiafdhoeeaa
open Go.RowKit Go.Conc

theorem qinfo_parts {P : Program} {t : TypeId} {z : Option Value} {s b : Nat} (h : (P.info? t).map (fun i => (i.zero, i.size, i.bytes)) = some (z, s, b)) : ∃ i, P.info? t = some i ∧ i.zero = z ∧ i.size = s ∧ i.bytes = b := by
  cases hq : P.info? t with
  | none => simp [hq] at h
  | some i => simp [hq] at h; exact ⟨i, rfl, h.1, h.2.1, h.2.2⟩
theorem qown_shape {w : World} {B : Nat} {e : TypeId} {s : Nat} {v : Value} {n : Nat} {xs : List Value} (h : w.ownsRow B e s v n xs) : ∃ ao cap, v = .slice ao n cap := by
  rcases h.2 with ⟨h, h0⟩ | ⟨g, cap, cur, h, _⟩
  · exact ⟨none, 0, by rw [h, h0]⟩
  · exact ⟨_, _, h⟩
/-- The length of a slice, for a measure. -/
def slLen : Value → Nat | .slice _ n _ => n | _ => 0
/-- Half drained: the first i lie in a row, the one behind them is in hand, the others wait. -/
structure QD (T E : TypeId) (X : Nat → Prop) (w : World) (B b c cap : Nat) (xs : List Value) (v : Value) (i : Nat) (wr : World) : Prop where
  row : wr.ownsRow w.heap.size E 1 v i (xs.take i)
  q : QM T E (fun k => X k ∨ w.heap.size ≤ k) wr B b c cap (xs.drop (i + 1))
  lf : LF (· = c) w wr
  lb : b < w.heap.size
  lc : c < w.heap.size
theorem QM.wide {T E : TypeId} {X : Nat → Prop} {w : World} {B b c cap : Nat} {xs : List Value} (h : QM T E X w B b c cap xs) : QM T E (fun k => X k ∨ w.heap.size ≤ k) w B b c cap xs :=
  h.re (fun k hk h => h.elim id (fun h => by omega))
/-- All is taken. -/
theorem QD.end_ {T E : TypeId} {X : Nat → Prop} {w : World} {B b c cap : Nat} {xs : List Value} {v : Value} {i : Nat} {wr : World} (h : QD T E X w B b c cap xs v i wr) (hi : xs.length = i) : wr.ownsRow w.heap.size E 1 v i xs ∧ QM T E X wr B b c cap [] ∧ LF (· = c) w wr := by
  subst hi
  have h1 := h.row
  have h2 := h.q
  rw [List.take_length] at h1
  rw [List.drop_of_length_le (by omega)] at h2
  exact ⟨h1, h2.re (fun k _ h => .inl h), h.lf⟩
/-- One more is taken. -/
theorem QD.take {T E : TypeId} {X : Nat → Prop} {w : World} {B b c cap : Nat} {xs : List Value} {v : Value} {i j : Nat} {wr w1 : World} (hr : wr.ownsRow w.heap.size E 1 v i (xs.take i)) (hl : LF (· = c) w wr) (lb : b < w.heap.size) (lc : c < w.heap.size) (hq : QM T E (fun k => X k ∨ w.heap.size ≤ k) w1 B b c cap (xs.drop j)) (hj : j = i + 1) (hf : LF (· = c) wr w1) : QD T E X w B b c cap xs v i w1 :=
  ⟨own_same hr (fun k hk => hf.block k (own_lt hr k hk) (fun e => by have := (own_ty hr k hk).1; omega)), by rw [← hj]; exact hq, hl.trans hf (fun _ _ h => h), lb, lc⟩
/-- The one in hand is laid in the row. -/
theorem QD.put {T E : TypeId} {X : Nat → Prop} {w : World} {B b c cap : Nat} {xs : List Value} {v v' x : Value} {i : Nat} {w1 w2 : World} (h : QD T E X w B b c cap xs v i w1) (hx : xs[i]? = some x)
    (ho : w2.ownsRow w.heap.size E 1 v' (i + 1) (xs.take i ++ [x])) (hg : w1.grownBy w2 v.ownBlock) : w2.ownsRow w.heap.size E 1 v' (i + 1) (xs.take (i + 1)) ∧ QM T E (fun k => X k ∨ w.heap.size ≤ k) w2 B b c cap (xs.drop (i + 1)) ∧ LF (· = c) w w2 ∧ b < w.heap.size ∧ c < w.heap.size := by
  have hl : LF (fun k => v.ownBlock = some k) w1 w2 := LF.of_grown hg (fun k hk => hk)
  have hn : ∀ k, v.ownBlock = some k → w.heap.size ≤ k := fun k hk => (own_ty h.row k hk).1
  have hb := h.lb
  have hc := h.lc
  refine ⟨?_, h.q.other hl (fun h => by have := hn _ h; omega) (fun h => by have := hn _ h; omega) (fun k _ h _ => .inr (hn k h)), h.lf.trans hl (fun k hk h => by have := hn k h; omega), hb, hc⟩
  rw [List.take_add_one, hx]
  exact ho

section
variable {ops : Array Oper} {rest : List Oper} {o : Oper} {a : Act} {w : World} {Q : Exit → Act → World → Prop}
/-- make of no element, with room. -/
theorem wpl_make0 (t e : TypeId) (x y : Operand) (ho : o.op = .makeSlice t x y) (hgd : o.guard = none) (base : Nat) (i : TypeInfo) (z : Value) (size : Nat) (ht : Try.prog.underlying t = some (.slice e)) (hi : Try.prog.info? e = some i) (hz : i.zero = some z) (hsize : i.size = size)
    (c : Nat) (hbytes : i.bytes * c ≤ 281474976710656) (h63 : c ≤ maxLen) (hbase : base ≤ w.heap.size) (hx : a.eval x = .int .i64 0) (hy : a.eval y = .int .i64 (c : Int))
    (h : ∀ v w', w'.ownsRow base e size v 0 [] → Below w.heap.size w w' → wpList Try.prog ops Q rest (a.put o.dst v) w') : wpList Try.prog ops Q (o :: rest) a w := by
  refine wpList_plain hgd fun _ hK => ?_
  obtain ⟨w', hr, h1, h2⟩ := run_make_own (P := Try.prog) w base t e i z size ht hi hz hsize .i64 .i64 c hbytes h63 hbase
  unfold Oper.wp execOp
  simp only [ho, hx, hy, Sem.run_bind, Sem.run_pure, hr, Result.andThen_ok]
  exact hK _ _ (h _ _ h1 ((Below.refl _ _).grown h2 (Nat.le_refl _) (fun k hk => by cases hk)))
end

/-- What a put makes of what waits. -/
def PutOf {α : Type} (size : Nat) (xs : List α) (x : α) (t : Bool) (ys : List α) : Prop := (t = true ∧ xs.length < size ∧ ys = xs ++ [x]) ∨ (t = false ∧ size ≤ xs.length ∧ ys = xs)
theorem putOf_ex {α : Type} (size : Nat) (xs : List α) (x : α) : ∃ t ys, PutOf size xs x t ys := by
  by_cases h : xs.length < size
  · exact ⟨true, _, .inl ⟨rfl, h, rfl⟩⟩
  · exact ⟨false, _, .inr ⟨rfl, by omega, rfl⟩⟩
theorem PutOf.le {α : Type} {size : Nat} {xs ys : List α} {x : α} {t : Bool} (h : PutOf size xs x t ys) (hl : xs.length ≤ size) : ys.length ≤ size := by
  rcases h with ⟨_, h, rfl⟩ | ⟨_, h, rfl⟩
  · simp; omega
  · exact hl
/-- What a take makes of it. -/
def TakeOf {α : Type} (z : α) (xs : List α) (x : α) (t : Bool) (ys : List α) : Prop := (t = true ∧ xs = x :: ys) ∨ (t = false ∧ xs = [] ∧ x = z ∧ ys = [])
theorem takeOf_ex {α : Type} (z : α) (xs : List α) : ∃ x t ys, TakeOf z xs x t ys := by
  cases xs with
  | nil => exact ⟨z, false, [], .inr ⟨rfl, rfl, rfl, rfl⟩⟩
  | cons x ys => exact ⟨x, true, ys, .inl ⟨rfl, rfl⟩⟩
theorem TakeOf.le {α : Type} {z : α} {size : Nat} {xs ys : List α} {x : α} {t : Bool} (h : TakeOf z xs x t ys) (hl : xs.length ≤ size) : ys.length ≤ size := by
  rcases h with ⟨_, rfl⟩ | ⟨_, _, _, rfl⟩
  · simp at hl; omega
  · simp

end Go.Proofs.Ytdhiaiafdhoeeaa
