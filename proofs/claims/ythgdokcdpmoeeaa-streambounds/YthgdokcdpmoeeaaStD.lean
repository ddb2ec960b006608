/-
  Rows that are read: slices.Index, Contains, BinarySearchFunc, (*Book).find: by their contracts.
-/
import Derived.Test.YthgdokcdpmoeeaaStC
namespace Go.Proofs.Ythgdokcdpmoeeaa
open Go.RowKit

def idCells (l : List Nat) : List Value := l.map fun n : Nat => .int .i64 (n : Int)
def enCells (l : List (Nat × Nat)) : List Value := l.flatMap fun p : Nat × Nat => [.int .i64 (p.1 : Int), .int .u8 (p.2 : Int)]
theorem idCells_length (l : List Nat) : (idCells l).length = l.length := by simp [idCells]
theorem idCells_append (l m : List Nat) : idCells (l ++ m) = idCells l ++ idCells m := by simp [idCells]
theorem enCells_append (l m : List (Nat × Nat)) : enCells (l ++ m) = enCells l ++ enCells m := by simp [enCells]
theorem enCells_length (l : List (Nat × Nat)) : (enCells l).length = l.length * 2 := by
  induction l with
  | nil => rfl
  | cons a r ih => simp [enCells] at *; omega
theorem en_at (l : List (Nat × Nat)) (i : Nat) (p : Nat × Nat) (h : l[i]? = some p) : (enCells l)[i * 2]? = some (.int .i64 (p.1 : Int)) ∧ (enCells l)[i * 2 + 1]? = some (.int .u8 (p.2 : Int)) := by
  induction l generalizing i with
  | nil => simp at h
  | cons a r ih =>
    have e : enCells (a :: r) = [.int .i64 (a.1 : Int), .int .u8 (a.2 : Int)] ++ enCells r := rfl
    cases i with
    | zero => simp at h; subst h; rw [e]; simp
    | succ i =>
      have := ih i (by simpa using h)
      rw [e]
      constructor
      · rw [List.getElem?_append_right (by simp; omega)]; simpa [show (i + 1) * 2 - 2 = i * 2 by omega] using this.1
      · rw [List.getElem?_append_right (by simp; omega)]; simpa [show (i + 1) * 2 + 1 - 2 = i * 2 + 1 by omega] using this.2
theorem id_at (l : List Nat) (i n : Nat) (h : l[i]? = some n) : (idCells l)[i]? = some (.int .i64 (n : Int)) := by simp [idCells, h]

/-- A row that can be read. -/
def RR (w : World) (v : Value) (n : Nat) (xs : List Value) : Prop :=
  (v = .slice none 0 0 ∧ n = 0) ∨ ∃ a cap, v = .slice (some a) n cap ∧ ∀ j u, xs[j]? = some u → (a.add j).block < w.heap.size ∧ w.cell? (a.add j) = some u
theorem RR.keep {w w' : World} {v : Value} {n : Nat} {xs : List Value} (h : RR w v n xs) (hb : Below w.heap.size w w') : RR w' v n xs := by
  rcases h with h | ⟨a, cap, hv, hc⟩
  · exact .inl h
  · exact .inr ⟨a, cap, hv, fun j u hj => ⟨Nat.lt_of_lt_of_le (hc j u hj).1 hb.size, (hb.cell (hc j u hj).1).trans (hc j u hj).2⟩⟩
theorem RR.shape {w : World} {v : Value} {n : Nat} {xs : List Value} (h : RR w v n xs) : ∃ ao cap, v = .slice ao n cap := by
  rcases h with ⟨h, rfl⟩ | ⟨a, cap, h, _⟩
  · exact ⟨none, 0, h⟩
  · exact ⟨some a, cap, h⟩
theorem RR.of_own {w : World} {B : Nat} {e : TypeId} {s : Nat} {v : Value} {n : Nat} {xs : List Value} (h : w.ownsRow B e s v n xs) : RR w v n xs := by
  rcases h.2 with ⟨hv, hn⟩ | ⟨g, cap, cur, hv, _, h3, _⟩
  · exact .inl ⟨hv, hn⟩
  · refine .inr ⟨⟨g, 0, none⟩, cap, hv, fun j u hj => ⟨?_, ?_⟩⟩
    · have := (Array.getElem?_eq_some_iff.1 h3).1
      unfold Addr.add
      split <;> exact this
    · exact h.cells (g := g) (by rw [hv]; rfl) j u hj
theorem RR.one {w : World} {ao : Option Addr} {n n' cap : Nat} {l : List Nat} (h : RR w (.slice ao n cap) n' (idCells l)) (hn : n' = l.length) (i y : Nat) (hp : l[i]? = some y) : ∃ a, ao = some a ∧ w.cell? (a.add i) = some (.int .i64 (y : Int)) := by
  rcases h with ⟨_, rfl⟩ | ⟨a, cap', hv, hc⟩
  · have := (List.getElem?_eq_some_iff.1 hp).1; omega
  · injection hv with h1 _ _
    exact ⟨a, h1, (hc _ _ (id_at l i y hp)).2⟩
theorem RR.two {w : World} {ao : Option Addr} {n n' cap : Nat} {l : List (Nat × Nat)} (h : RR w (.slice ao n cap) n' (enCells l)) (hn : n' = l.length) (i : Nat) (p : Nat × Nat) (hp : l[i]? = some p) : ∃ a, ao = some a ∧ w.cell? (a.add (i * 2)) = some (.int .i64 (p.1 : Int)) ∧ w.cell? ⟨(a.add (i * 2)).block, (a.add (i * 2)).off + 1, none⟩ = some (.int .u8 (p.2 : Int)) := by
  rcases h with ⟨_, rfl⟩ | ⟨a, cap', hv, hc⟩
  · have := (List.getElem?_eq_some_iff.1 hp).1; omega
  · injection hv with h1 _ _
    obtain ⟨e0, e1⟩ := en_at _ _ _ hp
    refine ⟨a, h1, (hc _ _ e0).2, ?_⟩
    have := (hc _ _ e1).2
    rw [← Addr.add_add] at this
    simpa [Addr.add] using this

set_option maxHeartbeats 4000000 in
/-- slices.Index of a row of streams. -/
theorem sindex_any (v : Value) (l : List Nat) (n : Nat) (r : Int) (hr : (match l.findIdx? (· == n) with | some i => (i : Int) | none => -1) = r) (w : World) (h : RR w v l.length (idCells l)) (hl : l.length ≤ 65536) :
    Calls Try.prog 77 #[v, .int .i64 (n : Int)] w fun e w' => e = .returned (.int .i64 r) ∧ w' = w := by
  obtain ⟨ao, cap, rfl⟩ := h.shape
  obtain ⟨m, hm⟩ : ∃ m, l.length = m := ⟨_, rfl⟩
  have HM := hid' hm
  have H := hid' h
  have HR := hid' hr
  rw [hm] at H hl ⊢
  clear h hr hm
  go_enter Try.func77, Try.ntmps77
  go_wp2
  go_loopw [5, 8] (fun _ i wr => ∃ k : Nat, k ≤ m ∧ i = .int .i64 k ∧ Hid (∀ j, j < k → l[j]? ≠ some n) ∧ wr = w) (fun _ i _ => m - (intOf i).toNat)
  case atStart => exact ⟨0, Nat.zero_le _, rfl, hid' fun j hj => absurd hj (Nat.not_lt_zero _), rfl⟩
  case round =>
    obtain ⟨k, hk, rfl, HN, hwr⟩ := hrel
    subst wr
    by_cases hlt : k < m
    · have hlt2 : (k : Int) < (m : Int) := by omega
      obtain ⟨y, hy⟩ : ∃ y, l[k]? = some y := ⟨_, List.getElem?_eq_getElem (by rw [HM.out]; exact hlt)⟩
      obtain ⟨a, hao, hc⟩ := H.out.one HM.out.symm k y hy
      subst hao
      have HY := hid' hy
      clear hy
      by_cases hny : n = y
      · have HF : Hid (r = (k : Int)) := hid' (by
          rw [← HR.out]
          have : l.findIdx? (· == n) = some k := by
            rw [List.findIdx?_eq_some_iff_getElem]
            have hk' : k < l.length := by rw [HM.out]; exact hlt
            refine ⟨hk', ?_, fun j hj => ?_⟩
            · have := HY.out
              rw [List.getElem?_eq_getElem hk'] at this
              injection this with this
              simp [this, hny]
            · have h1 := HN.out j hj
              rw [List.getElem?_eq_getElem (by omega)] at h1
              simp at h1 ⊢
              exact h1
          rw [this])
        subst hny
        go_wp2
        go_ret
        exact ⟨by rw [HF.out]; rfl, rfl⟩
      · have ht1 : ((n : Int) == (y : Int)) = false := by simp; omega
        have HN2 : Hid (∀ j, j < k + 1 → l[j]? ≠ some n) := hid' (fun j hj => by
          by_cases e : j = k
          · subst e; rw [HY.out]; simp; omega
          · exact HN.out j (by omega))
        have ht2 : (n == y) = false := by simp [hny]
        go_wp2
        go_roundw
        case rel => exact ⟨k + 1, by omega, by go_num, HN2, trivial⟩
        case measure => simp [intOf]; omega
    · have hkm : k = m := by omega
      have HF : Hid (r = -1) := hid' (by
        rw [← HR.out]
        have : l.findIdx? (· == n) = none := by
          rw [List.findIdx?_eq_none_iff]
          intro x hx
          obtain ⟨j, hj, rfl⟩ := List.getElem_of_mem hx
          have h1 := HN.out j (by have := HM.out; omega)
          rw [List.getElem?_eq_getElem hj] at h1
          simp at h1 ⊢
          exact h1
        rw [this])
      have hlt2 : decide ((k : Int) < (m : Int)) = false := decide_eq_false (by omega)
      clear hlt
      go_wp2
      go_ret
      exact ⟨by rw [HF.out]; rfl, rfl⟩

end Go.Proofs.Ythgdokcdpmoeeaa
