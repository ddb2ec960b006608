/-
  table.Ring[int]: by its contracts.
-/
import Derived.Test.YtmkkhfkfjmfdcaaRingM
import Derived.Great.BuildSlice
import Derived.Deep.QuietTactic
namespace Go.Proofs.Ytmkkhfkfjmfdcaa
open Go.RowKit

/-- A ring at the head of an object: the row, and what else the object holds. -/
structure RG (w : World) (B b : Nat) (T e : TypeId) (s : Nat) (v : Value) (tl : List Value) (n : Nat) (xs : List Value) : Prop where
  ge : B ≤ b
  obj : Ar w b T (v :: tl).toArray
  row : Sl w B e s v n xs
  ne : v.ownBlock ≠ some b
theorem RG.keep {w w' : World} {B b : Nat} {T e : TypeId} {s : Nat} {v : Value} {tl : List Value} {n : Nat} {xs : List Value} (h : RG w B b T e s v tl n xs) (hb : Below w.heap.size w w') : RG w' B b T e s v tl n xs := ⟨h.ge, h.obj.keep hb, h.row.keep hb, h.ne⟩
theorem RG.drew {w : World} {B b : Nat} {T e : TypeId} {s : Nat} {v : Value} {tl : List Value} {n : Nat} {xs : List Value} (h : RG w B b T e s v tl n xs) : RG w.drew B b T e s v tl n xs := ⟨h.ge, h.obj, h.row, h.ne⟩
theorem RG.two {w w' : World} {B b c : Nat} {T e : TypeId} {s : Nat} {v : Value} {tl : List Value} {n : Nat} {xs : List Value} {row : Option Nat} (h : RG w B b T e s v tl n xs) (ht : Two c row w w') (h0 : b ≠ c) (h0' : row ≠ some b) (h1 : v.ownBlock ≠ some c) (h2 : ∀ k, v.ownBlock = some k → row ≠ some k) : RG w' B b T e s v tl n xs :=
  ⟨h.ge, ht.ar h.obj h0 h0', ht.sl h.row h1 h2, h.ne⟩
theorem RG.other {w : World} {B b c : Nat} {T e : TypeId} {s : Nat} {v : Value} {tl : List Value} {n : Nat} {xs : List Value} (h : RG w B b T e s v tl n xs) (i : Nat) (u : Value) (h0 : c ≠ b) (h1 : v.ownBlock ≠ some c) : RG (w.setCell ⟨c, i, none⟩ u) B b T e s v tl n xs :=
  ⟨h.ge, h.obj.other h0 i u, h.row.same fun k hk => (upd_setCell w c i u).block k (fun e => h1 (by rw [hk, e])), h.ne⟩
/-- Another row is laid into the object. -/
theorem RG.put {w : World} {B b : Nat} {T e : TypeId} {s : Nat} {v v' : Value} {tl : List Value} {n' : Nat} {xs' : List Value} (hb : B ≤ b) (ho : Ar w b T (v :: tl).toArray) (hr : Sl w B e s v' n' xs') (hne : v'.ownBlock ≠ some b) : RG (w.setCell ⟨b, 0, none⟩ v') B b T e s v' tl n' xs' :=
  ⟨hb, by have := ho.set 0 v'; simpa using this, hr.same fun k hk => (upd_setCell w b 0 v').block k (fun e => hne (by rw [hk, e])), hne⟩
/-- What else it holds is changed. -/
theorem RG.tail {w : World} {B b : Nat} {T e : TypeId} {s : Nat} {v : Value} {tl : List Value} {n : Nat} {xs : List Value} (h : RG w B b T e s v tl n xs) (i : Nat) (u : Value) : RG (w.setCell ⟨b, i + 1, none⟩ u) B b T e s v (tl.set i u) n xs :=
  ⟨h.ge, by have := h.obj.set (i + 1) u; simpa using this, h.row.same fun k hk => (upd_setCell w b (i + 1) u).block k (fun e => h.ne (by rw [hk, e])), h.ne⟩

theorem infoInt : (Try.prog.info? 3).map (fun i => (i.zero, i.size, i.bytes)) = some (some (.int .i64 0), 1, 8) := by kernel_rfl

end Go.Proofs.Ytmkkhfkfjmfdcaa
