/-
  Rows that can be read; the laws' SameInts of rows that are the same.
-/
import Derived.Test.YtpgfnhfjkplmaaaProg
import Derived.Test.YtpgfnhfjkplmaaaRingM
import Derived.BigQuiet
import Derived.Deep.QuietTactic
namespace Go.Proofs.Ytpgfnhfjkplmaaa
open Go.RowKit

/-- A row that can be read. -/
def RQ (w : World) (v : Value) (n : Nat) (xs : List Value) : Prop :=
  (v = .slice none 0 0 ∧ n = 0) ∨ ∃ a cap, v = .slice (some a) n cap ∧ ∀ j u, xs[j]? = some u → (a.add j).block < w.heap.size ∧ w.cell? (a.add j) = some u
theorem RQ.keep {w w' : World} {v : Value} {n : Nat} {xs : List Value} (h : RQ w v n xs) (hb : Below w.heap.size w w') : RQ w' v n xs := by
  rcases h with h | ⟨a, cap, hv, hc⟩
  · exact .inl h
  · exact .inr ⟨a, cap, hv, fun j u hj => ⟨Nat.lt_of_lt_of_le (hc j u hj).1 hb.size, (hb.cell (hc j u hj).1).trans (hc j u hj).2⟩⟩
theorem RQ.of_sl {w : World} {B : Nat} {e : TypeId} {v : Value} {n : Nat} {xs : List Value} (h : Sl w B e 1 v n xs) : RQ w v n xs := by
  rcases h.2 with ⟨hv, hn⟩ | ⟨g, q, cap, cur, hv, _, h3, _⟩
  · exact .inl ⟨hv, hn⟩
  · refine .inr ⟨⟨g, q, none⟩, cap, hv, fun j u hj => ⟨?_, ?_⟩⟩
    · have := (Array.getElem?_eq_some_iff.1 h3).1
      unfold Addr.add
      split <;> exact this
    · subst hv
      have hj2 : j < n * 1 := by have := (List.getElem?_eq_some_iff.1 hj).1; rw [h.1] at this; exact this
      have := (h.cellAt j hj2).trans hj
      unfold Addr.add
      split
      · rename_i h0
        subst h0
        exact this
      · exact this
theorem RQ.of_own {w : World} {B : Nat} {e : TypeId} {v : Value} {n : Nat} {xs : List Value} (h : w.ownsRow B e 1 v n xs) : RQ w v n xs := RQ.of_sl (sl_of_own h)
theorem RQ.at {w : World} {ao : Option Addr} {n n' cap : Nat} {xs : List Value} (h : RQ w (.slice ao n cap) n' xs) (hn : 0 < n') (i : Nat) (y : Value) (hp : xs[i]? = some y) : ∃ a, ao = some a ∧ w.cell? (a.add i) = some y := by
  rcases h with ⟨_, rfl⟩ | ⟨a, cap', hv, hc⟩
  · omega
  · injection hv with h1 _ _
    exact ⟨a, h1, (hc _ _ hp).2⟩

set_option maxHeartbeats 2000000 in
set_option maxRecDepth 20000 in
theorem qsame (ao bo : Option Addr) (ca cb n : Nat) (l : List Int) (hn : l.length = n) (w : World) (h1 : RQ w (.slice ao n ca) n (l.map (Value.int .i64))) (h2 : RQ w (.slice bo n cb) n (l.map (Value.int .i64))) (hb : n ≤ 17592186044400) :
    Calls Try.prog 17 #[.slice ao n ca, .slice bo n cb] w fun e w' => e = .returned (.bool true) ∧ ∃ m, w' = w.drewN m := by
  have H1 := hid' h1
  have H2 := hid' h2
  have HN := hid' hn
  have hee : ((n : Int) == (n : Int)) = true := beq_self_eq_true _
  clear h1 h2 hn
  go_enter Try.func17, Try.ntmps17
  go_wp2
  go_loopw [5] (fun s5 wr => ∃ i q : Nat, s5 = .int .i64 (i : Int) ∧ i ≤ n ∧ wr = w.drewN q) (fun s5 _ => n - (intOf s5).toNat)
  case atStart => exact ⟨0, 0, rfl, Nat.zero_le _, rfl⟩
  case round =>
    obtain ⟨i, q, rfl, hi, rfl⟩ := hrel
    by_cases hlt : i < n
    · have hlt2 : (i : Int) < (n : Int) := by omega
      obtain ⟨x, hx⟩ : ∃ x, l[i]? = some x := ⟨_, List.getElem?_eq_getElem (by rw [HN.out]; exact hlt)⟩
      obtain ⟨a, hao, hc1⟩ := H1.out.at (by omega) i (.int .i64 x) (by rw [List.getElem?_map, hx]; rfl)
      obtain ⟨b, hbo, hc2⟩ := H2.out.at (by omega) i (.int .i64 x) (by rw [List.getElem?_map, hx]; rfl)
      subst hao hbo
      have hxx : (x == x) = true := beq_self_eq_true _
      have HLT := hid' hlt
      clear hx hlt
      go_wp2
      go_quiet (fail)
      go_wp2
      go_roundw
      case rel => exact ⟨i + 1, _, by go_num, by have := HLT.out; omega, by first | rfl | simp⟩
      case measure => have := HLT.out; simp [intOf]; omega
    · have hlt2 : ¬ (i : Int) < (n : Int) := by omega
      clear hlt
      go_wp2
      go_ret
      exact ⟨rfl, _, rfl⟩

end Go.Proofs.Ytpgfnhfjkplmaaa
