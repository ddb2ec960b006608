/-
  Fields in memory; the document's Size, in, pseudo: by their contracts.
  The document's in, Bound, pseudo, find: by their contracts.
  The document's Strip, goes, decimal: by their contracts.
-/
import Derived.Test.YtkfekopenahmdaaDoorMsPl
import Derived.Test.YtkfekopenahmdaaDoorProg
import Derived.WalkKit
import Derived.Test.YtkfekopenahmdaaDoorLf
import Derived.Laws.Cover1
import Derived.Laws.OwnMore
import Derived.Great.BuildSlice
import Derived.Deep.QuietTactic
import Derived.Test.YtkfekopenahmdaaDoorToks
import Derived.Test.YtkfekopenahmdaaDoorLowD
import Derived.Maps.AppendAt
namespace Go.Proofs.YtkfekopenahmdaaDoor
open Go.RowKit

theorem wrp (x : Int) (h0 : 0 ≤ x) (h1 : x ≤ 9223372036854775807) : IntKind.i64.wrap x = x := by rw [IntKind.wrap_i64]; omega
def fV (f : Fd) : List Value := [.string f.n, .string f.v]
def fC (l : List Fd) : List Value := l.flatMap fV
theorem fC_append (l m : List Fd) : fC (l ++ m) = fC l ++ fC m := by simp [fC]
theorem fC_length (l : List Fd) : (fC l).length = l.length * 2 := by
  induction l with
  | nil => rfl
  | cons a r ih => simp only [fC, List.flatMap_cons, List.length_append, List.length_cons] at *; simp [fV] at *; omega
theorem f_at (l : List Fd) (i : Nat) (p : Fd) (h : l[i]? = some p) : ∀ j, j < 2 → (fC l)[i * 2 + j]? = (fV p)[j]? := by
  induction l generalizing i with
  | nil => simp at h
  | cons a r ih =>
    intro j hj
    rw [show fC (a :: r) = fV a ++ fC r from rfl]
    cases i with
    | zero => simp at h; subst h; rw [List.getElem?_append_left (by simp [fV]; omega)]; congr 1; omega
    | succ i =>
      rw [List.getElem?_append_right (by simp [fV]; omega), show (i + 1) * 2 + j - (fV a).length = i * 2 + j by simp [fV]; omega]
      exact ih i (by simpa using h) j hj
/-- Fields that can be read, wherever they lie. -/
def FW (w : World) (v : Value) (l : List Fd) : Prop :=
  (v = .slice none 0 0 ∧ l = []) ∨ ∃ a cap, v = .slice (some a) l.length cap ∧ l.length ≤ cap ∧ ∀ j u, (fC l)[j]? = some u → (a.add j).block < w.heap.size ∧ w.cell? (a.add j) = some u
theorem FW.keep {w w' : World} {v : Value} {l : List Fd} (h : FW w v l) (hb : Below w.heap.size w w') : FW w' v l := by
  rcases h with h | ⟨a, cap, hv, hcp, hc⟩
  · exact .inl h
  · exact .inr ⟨a, cap, hv, hcp, fun j u hj => ⟨Nat.lt_of_lt_of_le (hc j u hj).1 hb.size, (hb.cell (hc j u hj).1).trans (hc j u hj).2⟩⟩
theorem FW.below {B : Nat} {w w' : World} {v : Value} {l : List Fd} (h : FW w v l) (hb : Below B w w') (hB : w.heap.size ≤ B) : FW w' v l := h.keep (hb.mono hB)
theorem FW.shape {w : World} {v : Value} {l : List Fd} (h : FW w v l) : ∃ ao cap, v = .slice ao l.length cap := by
  rcases h with ⟨h, rfl⟩ | ⟨a, cap, h, _⟩
  · exact ⟨none, 0, h⟩
  · exact ⟨some a, cap, h⟩
theorem FW.two {w : World} {ao : Option Addr} {n cap : Nat} {l : List Fd} (h : FW w (.slice ao n cap) l) (i : Nat) (p : Fd) (hp : l[i]? = some p) : ∃ a, ao = some a ∧ w.cell? (a.add (i * 2)) = some (.string p.n) ∧ w.cell? ⟨(a.add (i * 2)).block, (a.add (i * 2)).off + 1, none⟩ = some (.string p.v) := by
  rcases h with ⟨_, rfl⟩ | ⟨a, cap', hv, hcp, hc⟩
  · simp at hp
  · injection hv with h1 _ _
    have key : ∀ j u, j < 2 → (fV p)[j]? = some u → w.cell? (a.add (i * 2 + j)) = some u := fun j u hj hu => (hc _ _ ((f_at l i p hp j hj).trans hu)).2
    have k0 := key 0 _ (by omega) rfl
    have k1 := key 1 _ (by omega) rfl
    rw [← Addr.add_add] at k0 k1
    refine ⟨a, h1, ?_, ?_⟩
    · simpa [Addr.add] using k0
    · simpa [Addr.add] using k1
theorem FW.cap {w : World} {a : Addr} {n cap : Nat} {l : List Fd} (h : FW w (.slice (some a) n cap) l) : l.length ≤ cap := by
  rcases h with ⟨h, _⟩ | ⟨a', cap', hv, hcp, _⟩
  · cases h
  · injection hv with _ _ h3
    rw [h3]; exact hcp
theorem fC_take (l : List Fd) (i : Nat) : fC (l.take i) = (fC l).take (i * 2) := by
  induction l generalizing i with
  | nil => simp [fC]
  | cons a r ih =>
    cases i with
    | zero => simp [fC]
    | succ i =>
      have : (i + 1) * 2 = (fV a).length + i * 2 := by simp [fV]; omega
      rw [List.take_succ_cons, show fC (a :: r.take i) = fV a ++ fC (r.take i) from rfl, show fC (a :: r) = fV a ++ fC r from rfl, ih, this, List.take_append, List.take_of_length_le (l := fV a) (by omega), Nat.add_sub_cancel_left]
theorem FW.take {w : World} {a : Addr} {n cap : Nat} {l : List Fd} (h : FW w (.slice (some a) n cap) l) {k : Nat} (hk : k ≤ l.length) : FW w (.slice (some a) k cap) (l.take k) := by
  rcases h with ⟨h, _⟩ | ⟨a', cap', hv, hcp, hc⟩
  · cases h
  · injection hv with h1 _ h3
    injection h1 with h1
    subst h1 h3
    refine .inr ⟨a, cap, by rw [List.length_take, Nat.min_eq_left hk], by rw [List.length_take]; omega, fun j u hj => hc j u ?_⟩
    rw [fC_take, List.getElem?_take] at hj
    split at hj
    · exact hj
    · cases hj
theorem FW.of_own {w : World} {B : Nat} {e : TypeId} {v : Value} {l : List Fd} (h : w.ownsRow B e 2 v l.length (fC l)) : FW w v l := by
  rcases h.2 with ⟨hv, hn⟩ | ⟨g, cap, cur, hv, _, h3, h4, _⟩
  · exact .inl ⟨hv, List.eq_nil_of_length_eq_zero hn⟩
  · refine .inr ⟨⟨g, 0, none⟩, cap, hv, h4, fun j u hj => ⟨?_, ?_⟩⟩
    · have := (Array.getElem?_eq_some_iff.1 h3).1
      unfold Addr.add
      split <;> exact this
    · exact h.cells (g := g) (by rw [hv]; rfl) j u hj

end Go.Proofs.YtkfekopenahmdaaDoor

namespace Go.Proofs.YtkfekopenahmdaaDoor
open Go.RowKit

def sC (l : List (List UInt8)) : List Value := l.map fun t => .string ⟨t.toArray⟩
theorem ba_list (l : List UInt8) : (⟨l.toArray⟩ : ByteArray).toList = l := by rw [Lib.toList_data]
theorem mret_bool {a b : Bool} (h : a = b) : Ending.returned (.bool a) = .returned (.bool b) := by rw [h]
theorem has_drop {l : List (List UInt8)} {i : Nat} {t : List UInt8} (h : l[i]? = some t) (x : List UInt8) : (l.drop i).contains x = (t == x || (l.drop (i + 1)).contains x) := by
  obtain ⟨h1, h2⟩ := List.getElem?_eq_some_iff.1 h
  rw [List.drop_eq_getElem_cons h1, h2, List.contains_cons, show (x == t) = (t == x) from Bool.eq_iff_iff.2 (by rw [beq_iff_eq, beq_iff_eq]; exact eq_comm)]

theorem psd_yes {x : ByteArray} (h : 0 < x.size) : Ms.psd x = (((x[0].toNat : Int)) == 58) := by
  have h1 : (Ms.tx x).head? = some x[0] := by
    unfold Ms.tx
    rw [List.head?_eq_getElem?, List.getElem?_eq_getElem (by rw [← Lib.size_eq]; exact h)]
    rfl
  unfold Ms.psd
  rw [h1, Bool.eq_iff_iff, beq_iff_eq, beq_iff_eq]
  constructor
  · intro e; injection e with e; rw [e]; rfl
  · intro e
    congr 1
    apply UInt8.toNat_inj.1
    have : (58 : UInt8).toNat = 58 := rfl
    omega
theorem psd_no {x : ByteArray} (h : ¬ 0 < x.size) : Ms.psd x = false := by
  have : Ms.tx x = [] := List.eq_nil_of_length_eq_zero (by unfold Ms.tx; rw [← Lib.size_eq]; omega)
  unfold Ms.psd
  rw [this]
  rfl

theorem fnd_drop {l : List Fd} {i : Nat} {f : Fd} (h : l[i]? = some f) (x : List UInt8) : Ms.fnd x (l.drop i) = if f.n.toList == x then some f.v else Ms.fnd x (l.drop (i + 1)) := by
  obtain ⟨h1, h2⟩ := List.getElem?_eq_some_iff.1 h
  rw [List.drop_eq_getElem_cons h1, h2, Ms.fnd, Ms.tx, Lib.toList_data]
def fndV (o : Option ByteArray) : Value := .tuple #[.string (o.getD ⟨#[]⟩), .bool o.isSome]

end Go.Proofs.YtkfekopenahmdaaDoor

namespace Go.Proofs.YtkfekopenahmdaaDoor
open Go.RowKit

theorem minfo_parts {P : Program} {t : TypeId} {z : Option Value} {s b : Nat} (h : (P.info? t).map (fun i => (i.zero, i.size, i.bytes)) = some (z, s, b)) : ∃ i, P.info? t = some i ∧ i.zero = z ∧ i.size = s ∧ i.bytes = b := by
  cases hq : P.info? t with
  | none => simp [hq] at h
  | some i => simp [hq] at h; exact ⟨i, rfl, h.1, h.2.1, h.2.2⟩
theorem infoF14 : (Tryd.prog.info? 30).map (fun i => (i.zero, i.size, i.bytes)) = some (some (.agg #[.string ⟨#[]⟩, .string ⟨#[]⟩]), 2, 32) := by kernel_rfl
theorem own_shape {w : World} {B : Nat} {e : TypeId} {s : Nat} {v : Value} {n : Nat} {xs : List Value} (h : w.ownsRow B e s v n xs) : ∃ ao cap, v = .slice ao n cap := by
  rcases h.2 with ⟨h1, rfl⟩ | ⟨g, cap, cur, h1, _⟩
  · exact ⟨none, 0, h1⟩
  · exact ⟨_, cap, h1⟩
theorem two_new (w : World) (T : TypeId) (x0 x1 : Value) : ∀ j v, [x0, x1][j]? = some v → (w.alloc (.cells #[x0, x1] T)).cell? ((⟨w.heap.size, 0, none⟩ : Addr).add j) = some v := by
  intro j v h
  rw [Addr.add_mid, Nat.zero_add]
  have hA : Ar (w.alloc (.cells #[x0, x1] T)) w.heap.size T #[x0, x1] := heap_alloc_last w _
  exact hA.cell j v (by simpa using h)

theorem drop1 (L : List UInt8) (k : Nat) (c : UInt8) (hc : L[k]? = some c) : L.drop k = c :: L.drop (k + 1) := by
  obtain ⟨h1, h2⟩ := List.getElem?_eq_some_iff.1 hc
  rw [List.drop_eq_getElem_cons h1, h2]
theorem u8_is {c : UInt8} {n : Nat} (hn : n < 256) : (c == UInt8.ofNat n) = ((c.toNat : Int) == (n : Int)) := by
  rw [Bool.eq_iff_iff, beq_iff_eq, beq_iff_eq]
  constructor
  · rintro rfl; rw [UInt8.toNat_ofNat', Nat.mod_eq_of_lt hn]
  · intro h
    apply UInt8.toNat_inj.1
    rw [UInt8.toNat_ofNat', Nat.mod_eq_of_lt hn]; omega
theorem head_at {x : ByteArray} (h : 0 < x.size) (n : Nat) (hn : n < 256) : ((Ms.tx x).head? == some (UInt8.ofNat n)) = ((x[0].toNat : Int) == (n : Int)) := by
  have h1 : (Ms.tx x).head? = some x[0] := by
    unfold Ms.tx
    rw [List.head?_eq_getElem?, List.getElem?_eq_getElem (by rw [← Lib.size_eq]; exact h)]
    rfl
  rw [h1, ← u8_is hn]
  rfl

end Go.Proofs.YtkfekopenahmdaaDoor
