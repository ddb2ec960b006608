/-
  Rows of bytes in memory: what a block's first cells hold, as a list; what a store does to it.
-/
import Derived.Test.YtbpdhcfmdkmoiabDoorLists
import Derived.Laws.IdiomStrings
namespace Go.Proofs.YtbpdhcfmdkmoiabDoor
namespace Tx

/-- Block b's first cells hold the bytes l, and may be written. -/
def Row (w : World) (b : Nat) (l : List UInt8) : Prop := ∀ j (hj : j < l.length), w.cell? ⟨b, j, none⟩ = some (.int .u8 (l[j].toNat : Int)) ∧ w.frozen? ⟨b, j, none⟩ = false

theorem Row.set {w : World} {b : Nat} {l : List UInt8} (h : Row w b l) (k : Nat) (c : UInt8) (v : Int) (hv : v = (c.toNat : Int)) : Row (w.setCell ⟨b, k, none⟩ (.int .u8 v)) b (l.set k c) := by
  subst hv
  intro j hj
  rw [List.length_set] at hj
  refine ⟨?_, by rw [World.frozen?_setCell]; exact (h j hj).2⟩
  by_cases e : k = j
  · subst e
    rw [World.cell?_setCell_same w _ _ (h k hj).1, List.getElem_set_self]
  · rw [World.cell?_setCell_other w _ _ _ (by intro h; exact e (by cases h; rfl)), List.getElem_set_ne e]
    exact (h j hj).1

/-- What '[]byte(s)' lays. -/
theorem Row.conv (w : World) (s : ByteArray) (e : TypeId) (cap : Nat) : Row ((w.alloc (.cells (bytesRow s cap) e ((bytesRow s cap).size, (bytesRow s cap).size + 1))).drew) w.heap.size s.data.toList := by
  intro j hj
  have hj' : j < s.data.size := by simpa using hj
  refine ⟨?_, ?_⟩
  · show (w.alloc _).cell? _ = _
    rw [World.cell?_alloc_mark, bytesRow_at s cap j hj']
    rfl
  · show (w.alloc _).frozen? _ = _
    rw [World.frozen?_alloc_mark]
    have : s.data.size ≤ (bytesRow s cap).size := by unfold bytesRow; simp
    simp; omega

/-- 'string(b)'. -/
theorem Row.back {P : Program} {w : World} {b : Nat} {l : List UInt8} (h : Row w b l) (src dst e : TypeId) (n cap : Nat) (hn : l.length = n) (hs : P.underlying src = some (.slice e)) (he : P.underlying e = some (.int .u8)) (hd : P.underlying dst = some .string) :
    (convert src dst (.slice (some ⟨b, 0, none⟩) n cap)).run P w = .ok (.string ⟨l.toArray⟩) w := by
  subst hn
  exact run_convert_bytes_back w src dst e ⟨b, 0, none⟩ cap l hs he hd fun j hj => by
    have : (⟨b, 0, none⟩ : Addr).add j = ⟨b, j, none⟩ := by unfold Addr.add; split <;> simp_all
    rw [this]; exact (h j hj).1

/-- The first k bytes small, the others as they were. -/
def lowTo (l : List UInt8) (k : Nat) : List UInt8 := lower (l.take k) ++ l.drop k
theorem lowTo_zero (l : List UInt8) : lowTo l 0 = l := by simp [lowTo, lower]
theorem lowTo_length (l : List UInt8) (k : Nat) : (lowTo l k).length = l.length := by simp [lowTo, lower]; omega
theorem lowTo_all (l : List UInt8) (k : Nat) (h : l.length ≤ k) : lowTo l k = lower l := by
  simp [lowTo, List.take_of_length_le h, List.drop_eq_nil_of_le h]
theorem lowTo_at (l : List UInt8) (k : Nat) (h : k < l.length) (h' : k < (lowTo l k).length) : (lowTo l k)[k] = l[k] := by
  have e : (lowTo l k)[k]? = l[k]? := by
    unfold lowTo
    rw [List.getElem?_append_right (by simp [lower]; omega)]
    simp [lower, Nat.min_eq_left (Nat.le_of_lt h)]
  rw [List.getElem?_eq_getElem h', List.getElem?_eq_getElem h, Option.some.injEq] at e
  exact e
theorem lowTo_step (l : List UInt8) (k : Nat) (h : k < l.length) : lowTo l (k + 1) = (lowTo l k).set k (lowC l[k]) := by
  unfold lowTo
  rw [List.set_append_right _ _ (by simp [lower]; omega), List.take_succ_eq_append_getElem h, lower, List.map_append, List.append_assoc]
  congr 1
  have e : k - (lower (l.take k)).length = 0 := by simp [lower]; omega
  rw [e, List.drop_eq_getElem_cons h]
  rfl
theorem lowTo_stay (l : List UInt8) (k : Nat) (h : k < l.length) (hc : ¬ (65 ≤ l[k].toNat ∧ l[k].toNat ≤ 90)) : lowTo l (k + 1) = lowTo l k := by
  rw [lowTo_step l k h, lowC_no _ hc]
  refine List.ext_getElem (by simp) fun j h1 h2 => ?_
  rw [List.getElem_set]
  split
  · subst_vars; exact (lowTo_at l _ h _).symm
  · rfl

end Tx
end Go.Proofs.YtbpdhcfmdkmoiabDoor
