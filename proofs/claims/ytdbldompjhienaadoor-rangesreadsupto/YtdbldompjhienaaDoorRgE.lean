/-
  The document's Stands and Same: by their contracts.
-/
import Derived.Test.YtdbldompjhienaaDoorRgC
import Derived.Laws.StructEq
namespace Go.Proofs.YtdbldompjhienaaDoor
open Go.RowKit

namespace Rg
def atP (s b : T8) (i : Nat) : Bool := (b.drop i).take s.length == s
theorem stands_yes {s b : T8} {k : Nat} (h : atP s b k = true) (hk : k + s.length ≤ b.length) : stands s b = true := by
  unfold stands
  rw [List.any_eq_true]
  exact ⟨k, List.mem_range.2 (by omega), h⟩
theorem stands_no {s b : T8} {k : Nat} (h : ∀ i, i < k → atP s b i = false) (hk : b.length < k + s.length) : stands s b = false := by
  unfold stands
  rw [List.any_eq_false]
  intro i hi
  have := h i (by have := List.mem_range.1 hi; omega)
  unfold atP at this
  rw [this]; decide
end Rg

set_option maxHeartbeats 1600000 in
theorem rstands16 (s x : ByteArray) (r : Bool) (hr : Rg.stands s.data.toList x.data.toList = r) (w : World) (hs : s.size ≤ 140737488355328) (hx : x.size ≤ 140737488355328) :
    Calls Tryd.prog 22 #[.string s, .string x] w fun e w' => e = .returned (.bool r) ∧ w' = w := by
  have HLS : Hid (s.data.toList.length = s.size ∧ x.data.toList.length = x.size) := hid' ⟨(Lib.size_eq s).symm, (Lib.size_eq x).symm⟩
  have HM : Hid (∀ k, ((x.extract k (k + s.size)).toList == s.toList) = Rg.atP s.data.toList x.data.toList k) := hid' (fun k => by
    unfold Rg.atP
    rw [ext_td16, Lib.toList_data, Lib.toList_data, HLS.out.1, show k + s.size - k = s.size by omega])
  have HR := hid' hr
  clear hr
  go_enter Tryd.func22, Tryd.ntmps22
  go_wp2
  go_loopw [5] (fun s5 wr => ∃ k : Nat, s5 = .int .i64 (k : Int) ∧ k ≤ x.size + 1 ∧ Hid (∀ i, i < k → Rg.atP s.data.toList x.data.toList i = false) ∧ wr = w) (fun s5 _ => x.size + 1 - (intOf s5).toNat)
  case atStart => exact ⟨0, rfl, Nat.zero_le _, hid' (fun i hi => absurd hi (Nat.not_lt_zero _)), rfl⟩
  case round =>
    obtain ⟨k, rfl, hk, HA, hw⟩ := hrel
    subst wr
    by_cases hle : k + s.size ≤ x.size
    · have hle2 : (k : Int) + (s.size : Int) ≤ (x.size : Int) := by omega
      have hle3 : (k : Int) ≤ (k : Int) + (s.size : Int) := by omega
      cases hm : ((x.extract k (k + s.size)).toList == s.toList)
      · have HA2 : Hid (∀ i, i < k + 1 → Rg.atP s.data.toList x.data.toList i = false) := hid' (fun i hi => by
          by_cases h : i = k
          · rw [h, ← HM.out]; exact hm
          · exact HA.out i (by omega))
        go_wp2
        go_roundw
        case rel => exact ⟨k + 1, by go_num, by omega, HA2, by trivial⟩
        case measure => simp [intOf]; omega
      · have HT : Hid (r = true) := hid' (by rw [← HR.out]; exact Rg.stands_yes (by rw [← HM.out]; exact hm) (by rw [HLS.out.1, HLS.out.2]; exact hle))
        go_wp2
        go_ret
        exact ⟨by rw [HT.out]; rfl, rfl⟩
    · have hle2 : ¬ (k : Int) + (s.size : Int) ≤ (x.size : Int) := by omega
      have HT : Hid (r = false) := hid' (by rw [← HR.out]; exact Rg.stands_no HA.out (by rw [HLS.out.1, HLS.out.2]; omega))
      go_wp2
      go_ret
      exact ⟨by rw [HT.out]; rfl, rfl⟩

theorem noStand16 : Tryd.prog.stoodInHeld 23 = false := by kernel_rfl
theorem fieldsOf16 : Tryd.prog.underlying 23 = some (.struct (Tryd.prog.fieldsOf 23)) := by kernel_rfl
set_option maxRecDepth 20000 in
theorem neqRg16 (a b : Int) (w : World) : (binOp .neq 23 (.agg #[.int .i64 a, .int .i64 b]) (.agg #[.int .i64 a, .int .i64 b])).run Tryd.prog w = .ok (.bool false) w := by
  rw [run_neq_struct, show (10000 : Nat) = 9999 + 1 by rfl, run_equalIn_agg w 9999 23 _ _ fieldsOf16 noStand16]
  simp only [Program.fieldsOf, Tryd.underlying23]
  go_simp

theorem rgC_length (l : List Rg.Rn) : (rgC l).length = l.length * 2 := by
  induction l with
  | nil => rfl
  | cons a r ih => simp only [rgC, List.flatMap_cons, List.length_append, List.length_cons] at *; simp [rgV] at *; omega
theorem rg_at (l : List Rg.Rn) (i : Nat) (p : Rg.Rn) (h : l[i]? = some p) : ∀ j, j < 2 → (rgC l)[i * 2 + j]? = (rgV p)[j]? := by
  induction l generalizing i with
  | nil => simp at h
  | cons a r ih =>
    intro j hj
    rw [show rgC (a :: r) = rgV a ++ rgC r from rfl]
    cases i with
    | zero => simp at h; subst h; rw [List.getElem?_append_left (by simp [rgV]; omega)]; congr 1; omega
    | succ i =>
      rw [List.getElem?_append_right (by simp [rgV]; omega), show (i + 1) * 2 + j - (rgV a).length = i * 2 + j by simp [rgV]; omega]
      exact ih i (by simpa using h) j hj
theorem own_two16 {w : World} {B : Nat} {e : TypeId} {ao : Option Addr} {n m cap : Nat} {l : List Rg.Rn} (h : w.ownsRow B e 2 (.slice ao n cap) m (rgC l)) (i : Nat) (p : Rg.Rn) (hp : l[i]? = some p) : ∃ g, ao = some ⟨g, 0, none⟩ ∧ w.cell? ⟨g, i * 2, none⟩ = some (.int .i64 p.a) ∧ w.cell? ⟨g, i * 2 + 1, none⟩ = some (.int .i64 p.b) := by
  have hlt : i * 2 < (rgC l).length := by rw [rgC_length]; have := (List.getElem?_eq_some_iff.1 hp).1; omega
  rcases h.2 with ⟨_, h0⟩ | ⟨g, cap', cur, h1, h2⟩
  · rw [h.1, h0] at hlt; omega
  · injection h1 with h1 h3 h4
    subst h1
    have key : ∀ j u, j < 2 → (rgV p)[j]? = some u → w.cell? ⟨g, i * 2 + j, none⟩ = some u := fun j u hj hu => by
      have := h.cells (g := g) rfl _ u ((rg_at l i p hp j hj).trans hu)
      rwa [Addr.add_mid, Nat.zero_add] at this
    exact ⟨g, rfl, key 0 _ (by omega) rfl, key 1 _ (by omega) rfl⟩

/-- Ranges that can be read, wherever they lie. -/
def RW16 (w : World) (ao : Option Addr) (rs : List Rg.Rn) : Prop := ∀ (i : Nat) (p : Rg.Rn), rs[i]? = some p → ∃ a : Addr, ao = some a ∧ (a.add (i * 2)).block < w.heap.size ∧ w.cell? (a.add (i * 2)) = some (.int .i64 p.a) ∧ w.cell? ⟨(a.add (i * 2)).block, (a.add (i * 2)).off + 1, none⟩ = some (.int .i64 p.b)
theorem RW16.nil (w : World) (ao : Option Addr) : RW16 w ao [] := fun i p h => by simp at h
theorem RW16.below {w w' : World} {ao : Option Addr} {rs : List Rg.Rn} (h : RW16 w ao rs) (hb : Below w.heap.size w w') : RW16 w' ao rs := fun i p hp => by
  obtain ⟨a, ha, hl, c0, c1⟩ := h i p hp
  exact ⟨a, ha, Nat.lt_of_lt_of_le hl hb.size, (hb.cell hl).trans c0, (hb.cell (p := ⟨(a.add (i * 2)).block, (a.add (i * 2)).off + 1, none⟩) hl).trans c1⟩
theorem RW16.own {w : World} {B : Nat} {e : TypeId} {ao : Option Addr} {n m cap : Nat} {l : List Rg.Rn} (h : w.ownsRow B e 2 (.slice ao n cap) m (rgC l)) : RW16 w ao l := fun i p hp => by
  obtain ⟨g, rfl, h0, h1⟩ := own_two16 h i p hp
  have e : (⟨g, 0, none⟩ : Addr).add (i * 2) = ⟨g, i * 2, none⟩ := by rw [Addr.add_mid, Nat.zero_add]
  refine ⟨⟨g, 0, none⟩, rfl, ?_, by rw [e]; exact h0, by rw [e]; exact h1⟩
  rw [e]
  exact own_lt h g rfl
theorem RW16.take {w : World} {ao : Option Addr} {rs rs' : List Rg.Rn} (h : RW16 w ao (rs ++ rs')) : RW16 w ao rs := fun i p hp => h i p (by rw [List.getElem?_append_left (List.getElem?_eq_some_iff.1 hp).1]; exact hp)
/-- A literal of one or of two ranges. -/
theorem RW16.lit {w : World} {g : Nat} {T : TypeId} {l : List Rg.Rn} (h : Ar w g T (rgC l).toArray) : RW16 w (some ⟨g, 0, none⟩) l := fun i p hp => by
  have e : (⟨g, 0, none⟩ : Addr).add (i * 2) = ⟨g, i * 2, none⟩ := by rw [Addr.add_mid, Nat.zero_add]
  refine ⟨⟨g, 0, none⟩, rfl, by rw [e]; exact h.lt, ?_, ?_⟩
  · rw [e]
    exact h.cell (i * 2) _ (by rw [List.getElem?_toArray]; exact rg_at l i p hp 0 (by omega))
  · rw [e]
    exact h.cell (i * 2 + 1) _ (by rw [List.getElem?_toArray]; exact rg_at l i p hp 1 (by omega))

set_option maxHeartbeats 4000000 in
set_option maxRecDepth 20000 in
theorem rsame16 (ao bo : Option Addr) (n ac bc : Nat) (ts : List Rg.Rn) (hn : ts.length = n) (hnb : n ≤ 9223372036854775807) (w : World) (h1 : RW16 w ao ts) (h2 : RW16 w bo ts) :
    Calls Tryd.prog 11 #[.slice ao n ac, .slice bo n bc] w fun e w' => e = .returned (.bool true) ∧ Below w.heap.size w w' := by
  have H1 := hid' h1
  have H2 := hid' h2
  have HN := hid' hn
  have hee : ((n : Int) == (n : Int)) = true := beq_self_eq_true _
  clear h1 h2 hn
  go_enter Tryd.func11, Tryd.ntmps11
  go_wp2
  go_loopw [5] (fun s5 wr => ∃ i q : Nat, s5 = .int .i64 (i : Int) ∧ i ≤ n ∧ wr = w.drewN q) (fun s5 _ => n - (intOf s5).toNat)
  case atStart => exact ⟨0, 0, rfl, Nat.zero_le _, rfl⟩
  case round =>
    obtain ⟨i, q, rfl, hi, hwr⟩ := hrel
    subst hwr
    by_cases hlt : i < n
    · have hlt2 : (i : Int) < (n : Int) := by omega
      obtain ⟨p, hp⟩ : ∃ p, ts[i]? = some p := ⟨_, List.getElem?_eq_getElem (by rw [HN.out]; exact hlt)⟩
      obtain ⟨a1, rfl, _, x0, x1⟩ := H1.out i p hp
      obtain ⟨a2, rfl, _, y0, y1⟩ := H2.out i p hp
      have hne := neqRg16 p.a p.b
      have HLT := hid' hlt
      clear hp hlt
      go_wp2
      go_quiet (fail)
      go_wp2
      go_roundw
      case rel => exact ⟨i + 1, _, by go_num, by have := HLT.out; omega, by first | rfl | simp⟩
      case measure => have := HLT.out; simp [intOf]; omega
    · have hlt2 : ¬ (i : Int) < (n : Int) := by omega
      clear hlt
      go_wp2
      go_ret
      exact ⟨rfl, ⟨rfl, rfl, rfl, Nat.le_refl _, fun _ _ => rfl⟩⟩

end Go.Proofs.YtdbldompjhienaaDoor
