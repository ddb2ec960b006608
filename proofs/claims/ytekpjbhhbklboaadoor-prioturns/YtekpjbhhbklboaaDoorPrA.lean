/-
  The document's line in memory: place, Kept: by their contracts.
-/
import Derived.Test.YtekpjbhhbklboaaDoorProg
import Derived.Test.YtekpjbhhbklboaaDoorHuffM
import Derived.Test.YtekpjbhhbklboaaDoorPrQ
import Derived.Laws.OwnMore
import Derived.Laws.MakeOwn
import Derived.BigQuiet
import Derived.Deep.RegionHeld3
import Derived.Great.BuildSlice
import Derived.Deep.Cut
namespace Go.Proofs.YtekpjbhhbklboaaDoor
open Go.RowKit

/-- Numbers, and ways to wait, as cells. -/
def nmC (l : List Int) : List Value := l.map (Value.int .i64)
def hwC (l : List (Nat × Bool)) : List Value := l.flatMap fun p => [.int .i64 (p.1 : Int), .bool p.2]
theorem nmC_length (l : List Int) : (nmC l).length = l.length := by simp [nmC]
theorem hwC_length (l : List (Nat × Bool)) : (hwC l).length = l.length * 2 := by
  induction l with
  | nil => rfl
  | cons a r ih => simp [hwC] at *; omega
theorem nm_at {l : List Int} {i : Nat} {x : Int} (h : l[i]? = some x) : (nmC l)[i]? = some (.int .i64 x) := by simp [nmC, h]
theorem hw_at (l : List (Nat × Bool)) (i : Nat) (p : Nat × Bool) (h : l[i]? = some p) : (hwC l)[i * 2]? = some (.int .i64 (p.1 : Int)) ∧ (hwC l)[i * 2 + 1]? = some (.bool p.2) := by
  induction l generalizing i with
  | nil => simp at h
  | cons a r ih =>
    have e : hwC (a :: r) = [.int .i64 (a.1 : Int), .bool a.2] ++ hwC r := rfl
    cases i with
    | zero => simp at h; subst h; rw [e]; simp
    | succ i =>
      have := ih i (by simpa using h)
      rw [e]
      constructor
      · rw [List.getElem?_append_right (by simp; omega)]; simpa [show (i + 1) * 2 - 2 = i * 2 by omega] using this.1
      · rw [List.getElem?_append_right (by simp; omega)]; simpa [show (i + 1) * 2 + 1 - 2 = i * 2 + 1 by omega] using this.2

/-- A row that can be read. -/
def RR (w : World) (v : Value) (n : Nat) (xs : List Value) : Prop :=
  (v = .slice none 0 0 ∧ n = 0) ∨ ∃ a cap, v = .slice (some a) n cap ∧ ∀ j u, xs[j]? = some u → (a.add j).block < w.heap.size ∧ w.cell? (a.add j) = some u
theorem RR.keep {w w' : World} {v : Value} {n : Nat} {xs : List Value} (h : RR w v n xs) (hb : Below w.heap.size w w') : RR w' v n xs := by
  rcases h with h | ⟨a, cap, hv, hc⟩
  · exact .inl h
  · exact .inr ⟨a, cap, hv, fun j u hj => ⟨Nat.lt_of_lt_of_le (hc j u hj).1 hb.size, (hb.cell (hc j u hj).1).trans (hc j u hj).2⟩⟩
theorem RR.shape {w : World} {v : Value} {n : Nat} {xs : List Value} (h : RR w v n xs) : ∃ ao cap, v = .slice ao n cap := by
  rcases h with ⟨h, rfl⟩ | ⟨a, cap, h, _⟩
  · exact ⟨none, 0, h⟩
  · exact ⟨some a, cap, h⟩
theorem RR.of_own {w : World} {B : Nat} {e : TypeId} {s : Nat} {v : Value} {n : Nat} {xs : List Value} (h : w.ownsRow B e s v n xs) : RR w v n xs := by
  rcases h.2 with ⟨hv, hn⟩ | ⟨g, cap, cur, hv, _, h3, _⟩
  · exact .inl ⟨hv, hn⟩
  · refine .inr ⟨⟨g, 0, none⟩, cap, hv, fun j u hj => ⟨?_, ?_⟩⟩
    · have := (Array.getElem?_eq_some_iff.1 h3).1
      unfold Addr.add
      split <;> exact this
    · exact h.cells (g := g) (by rw [hv]; rfl) j u hj
theorem RR.at {w : World} {ao : Option Addr} {n n' cap : Nat} {xs : List Value} (h : RR w (.slice ao n cap) n' xs) (hn : 0 < n') (i : Nat) (y : Value) (hp : xs[i]? = some y) : ∃ a, ao = some a ∧ w.cell? (a.add i) = some y := by
  rcases h with ⟨_, rfl⟩ | ⟨a, cap', hv, hc⟩
  · omega
  · injection hv with h1 _ _
    exact ⟨a, h1, (hc _ _ hp).2⟩
theorem RR.two {w : World} {ao : Option Addr} {n n' cap : Nat} {l : List (Nat × Bool)} (h : RR w (.slice ao n cap) n' (hwC l)) (hn : 0 < n') (i : Nat) (p : Nat × Bool) (hp : l[i]? = some p) : ∃ a, ao = some a ∧ w.cell? (a.add (i * 2)) = some (.int .i64 (p.1 : Int)) ∧ w.cell? ⟨(a.add (i * 2)).block, (a.add (i * 2)).off + 1, none⟩ = some (.bool p.2) := by
  rcases h with ⟨_, rfl⟩ | ⟨a, cap', hv, hc⟩
  · omega
  · injection hv with h1 _ _
    obtain ⟨e0, e1⟩ := hw_at _ _ _ hp
    refine ⟨a, h1, (hc _ _ e0).2, ?_⟩
    have := (hc _ _ e1).2
    rw [← Addr.add_add] at this
    simpa [Addr.add] using this

/-- A line's cells. -/
def lnC (v u : Value) (was : List Bool) (last : List Int) : Array Value := (v :: u :: (was.map Value.bool ++ nmC last)).toArray
theorem lnC0 (v u : Value) (was : List Bool) (last : List Int) : (lnC v u was last)[0]? = some v := by simp [lnC]
theorem lnC1 (v u : Value) (was : List Bool) (last : List Int) : (lnC v u was last)[1]? = some u := by simp [lnC]
theorem lnCw {v u : Value} {was : List Bool} {last : List Int} {i : Nat} {x : Bool} (h : was[i]? = some x) : (lnC v u was last)[2 + i]? = some (.bool x) := by
  have := (List.getElem?_eq_some_iff.1 h).1
  simp only [lnC, List.getElem?_toArray]
  rw [show 2 + i = i + 1 + 1 by omega, List.getElem?_cons_succ, List.getElem?_cons_succ, List.getElem?_append_left (by simpa using this)]
  simp [h]
theorem lnCl {v u : Value} {was : List Bool} {last : List Int} {i : Nat} {x : Int} (hw : was.length = 8) (h : last[i]? = some x) : (lnC v u was last)[10 + i]? = some (.int .i64 x) := by
  simp only [lnC, List.getElem?_toArray]
  rw [show 10 + i = (8 + i) + 1 + 1 by omega, List.getElem?_cons_succ, List.getElem?_cons_succ, List.getElem?_append_right (by simp [hw]), nmC]
  simp [hw, h]

/-- The document's line in memory. -/
structure LM (w : World) (B b : Nat) (l : Pr.Ln) (v u : Value) : Prop where
  lo : B ≤ b
  hd : Ar w b 37 (lnC v u l.was l.last)
  is : w.ownsRow B 3 1 v l.ids.length (nmC l.ids)
  hw : w.ownsRow B 24 2 u l.ids.length (hwC l.how)
  ok : Pr.Ok l
theorem own_keep {w w' : World} {B : Nat} {e : TypeId} {s : Nat} {v : Value} {n : Nat} {xs : List Value} (h : w.ownsRow B e s v n xs) (hb : Below w.heap.size w w') : w'.ownsRow B e s v n xs := by
  refine ⟨h.1, ?_⟩
  rcases h.2 with h2 | ⟨g, cap, cur, h1, h2, h3, h4⟩
  · exact .inl h2
  · exact .inr ⟨g, cap, cur, h1, h2, (hb.block g (Array.getElem?_eq_some_iff.1 h3).1).trans h3, h4⟩
theorem own_shape {w : World} {B : Nat} {e : TypeId} {s : Nat} {v : Value} {n : Nat} {xs : List Value} (h : w.ownsRow B e s v n xs) : ∃ ao cap, v = .slice ao n cap := by
  rcases h.2 with ⟨h, h0⟩ | ⟨g, cap, cur, h, _⟩
  · exact ⟨none, 0, by rw [h, h0]⟩
  · exact ⟨_, _, h⟩
theorem LM.keep {w w' : World} {B b : Nat} {l : Pr.Ln} {v u : Value} (h : LM w B b l v u) (hb : Below w.heap.size w w') : LM w' B b l v u :=
  ⟨h.lo, h.hd.keep hb, own_keep h.is hb, own_keep h.hw hb, h.ok⟩
theorem LM.size {w : World} {B b : Nat} {l : Pr.Ln} {v u : Value} (h : LM w B b l v u) : B ≤ w.heap.size := Nat.le_of_lt (Nat.lt_of_le_of_lt h.lo h.hd.lt)

set_option maxHeartbeats 2000000 in
theorem rplace_any (B b : Nat) (l : Pr.Ln) (v u : Value) (id r : Int) (hr : Pr.plI l.ids id = r) (w : World) (h : LM w B b l v u) (hn : l.ids.length ≤ 8796093022208) :
    Calls Tryd.prog 34 #[.pointer (some ⟨b, 0, none⟩), .int .i64 id] w fun e w' => e = .returned (.int .i64 r) ∧ w' = w := by
  have c0 := h.hd.cell 0 _ (lnC0 _ _ _ _)
  obtain ⟨ao, cap, hv⟩ := own_shape h.is
  have HRR := hid' (RR.of_own h.is)
  obtain ⟨n, hnn⟩ : ∃ n, l.ids.length = n := ⟨_, rfl⟩
  have HN := hid' hnn
  have HR := hid' hr
  rw [hnn] at hv hn HRR
  subst hv
  clear h hnn hr
  go_enter Tryd.func34, Tryd.ntmps34
  go_wp2
  go_loopw [5] (fun s5 wr => ∃ i : Nat, s5 = .int .i64 (i : Int) ∧ i ≤ n ∧ Hid (∀ j, j < i → l.ids[j]? ≠ some id) ∧ wr = w) (fun s5 _ => n - (intOf s5).toNat)
  case atStart => exact ⟨0, rfl, Nat.zero_le _, hid' fun j hj => absurd hj (Nat.not_lt_zero _), rfl⟩
  case round =>
    obtain ⟨i, rfl, hi, HE, hwr⟩ := hrel
    subst wr
    by_cases hlt : i < n
    · have hlt2 : (i : Int) < (n : Int) := by omega
      obtain ⟨y, hy⟩ : ∃ y, l.ids[i]? = some y := ⟨_, List.getElem?_eq_getElem (by rw [HN.out]; exact hlt)⟩
      obtain ⟨a, hao, hc⟩ := HRR.out.at (by omega) i _ (nm_at hy)
      subst hao
      by_cases hyi : y = id
      · have HF : Hid (r = (i : Int)) := hid' (by
          rw [← HR.out]
          unfold Pr.plI
          have : Pr.pl l.ids id = some i := by
            unfold Pr.pl
            rw [List.findIdx?_eq_some_iff_getElem]
            have hk : i < l.ids.length := by rw [HN.out]; exact hlt
            refine ⟨hk, ?_, fun j hj => ?_⟩
            · have := hy
              rw [List.getElem?_eq_getElem hk] at this
              injection this with this
              simp [this, hyi]
            · have h1 := HE.out j hj
              rw [List.getElem?_eq_getElem (by omega)] at h1
              simp at h1 ⊢
              exact h1
          rw [this])
        subst hyi
        clear hy
        go_wp2
        go_ret
        exact ⟨by rw [HF.out]; rfl, rfl⟩
      · have hne : (y == id) = false := beq_false_of_ne hyi
        have HE2 : Hid (∀ j, j < i + 1 → l.ids[j]? ≠ some id) := hid' (fun j hj => by
          by_cases h1 : j < i
          · exact HE.out j h1
          · obtain rfl : j = i := by omega
            rw [hy]
            intro e
            injection e with e
            exact hyi e)
        clear hy hyi
        go_wp2
        go_roundw
        case rel => exact ⟨i + 1, by go_num, by omega, HE2, trivial⟩
        case measure => simp [intOf]; omega
    · have hlt2 : ¬ (i : Int) < (n : Int) := by omega
      obtain rfl : -1 = r := by
        rw [← HR.out]
        unfold Pr.plI
        have : Pr.pl l.ids id = none := Pr.pl_none (fun hm => by
          obtain ⟨j, hj⟩ := List.getElem?_of_mem hm
          have := (List.getElem?_eq_some_iff.1 hj).1
          exact HE.out j (by rw [HN.out] at this; omega) hj)
        rw [this]
      go_wp2
      go_ret
      exact ⟨rfl, rfl⟩

theorem zeroPri : (Tryd.prog.info? 24).map (fun i => i.zero) = some (some (.agg #[.int .i64 0, .bool false])) := by kernel_rfl
theorem sizePri : (Tryd.prog.info? 24).map (·.size) = some 2 := by kernel_rfl
theorem ldPri {w : World} {b : Nat} {x0 x1 : Value} (h : Ar w b 24 #[x0, x1]) : (loadVar 24 ⟨b, 0, none⟩).run Tryd.prog w = .ok (.agg #[x0, x1]) w :=
  run_loadVar_row (P := Tryd.prog) w b 24 24 _ (0, 0) _ h Tryd.underlying24 rfl sizePri

set_option maxHeartbeats 2000000 in
theorem rkept_any (x : Int) (q : Bool) (w : World) :
    Calls Tryd.prog 33 #[.agg #[.int .i64 x, .bool q]] w fun e w' => e = .returned (.agg #[.int .i64 ((Pr.kept x : Nat) : Int), .bool q]) ∧ Below w.heap.size w w' := by
  have hk := Pr.kept_int x
  obtain ⟨m, hm⟩ : ∃ m : Nat, Pr.kept x = m := ⟨_, rfl⟩
  rw [hm] at hk ⊢
  clear hm
  by_cases h0 : x < 0
  · obtain rfl : m = 0 := by omega
    clear hk
    go_enter Tryd.func33, Tryd.ntmps33
    go_wp2
    have ha : Ar ((w.alloc (Obj.cells #[Value.int IntKind.i64 0, Value.bool q] 24)).alloc (Obj.cells #[Value.int IntKind.i64 0, Value.bool q] 24)) (w.heap.size + 1) 24 #[.int .i64 0, .bool q] := by
      have := heap_alloc_last (w.alloc (Obj.cells #[Value.int IntKind.i64 0, Value.bool q] 24)) (Obj.cells #[Value.int IntKind.i64 0, Value.bool q] 24)
      simpa [Ar] using this
    have hld := ldPri ha
    refine bodyPost_ret (v := .agg #[.int .i64 0, .bool q]) (by simp [results, Tryd.results33, asAddr, hld]) rfl ⟨rfl, ?_⟩
    exact below_two ((Below.refl _ _).alloc (Nat.le_refl _) _) ((Below.refl _ _).alloc (Nat.le_refl _) _)
  by_cases h7 : 7 < x
  · obtain rfl : m = 7 := by omega
    clear hk
    go_enter Tryd.func33, Tryd.ntmps33
    go_wp2
    have ha : Ar ((w.alloc (Obj.cells #[Value.int IntKind.i64 7, Value.bool q] 24)).alloc (Obj.cells #[Value.int IntKind.i64 7, Value.bool q] 24)) (w.heap.size + 1) 24 #[.int .i64 7, .bool q] := by
      have := heap_alloc_last (w.alloc (Obj.cells #[Value.int IntKind.i64 7, Value.bool q] 24)) (Obj.cells #[Value.int IntKind.i64 7, Value.bool q] 24)
      simpa [Ar] using this
    have hld := ldPri ha
    refine bodyPost_ret (v := .agg #[.int .i64 7, .bool q]) (by simp [results, Tryd.results33, asAddr, hld]) rfl ⟨rfl, ?_⟩
    exact below_two ((Below.refl _ _).alloc (Nat.le_refl _) _) ((Below.refl _ _).alloc (Nat.le_refl _) _)
  · obtain rfl : x = (m : Int) := by omega
    clear hk
    go_enter Tryd.func33, Tryd.ntmps33
    go_wp2
    have ha : Ar ((w.alloc (Obj.cells #[Value.int IntKind.i64 (m : Int), Value.bool q] 24)).alloc (Obj.cells #[Value.int IntKind.i64 (m : Int), Value.bool q] 24)) (w.heap.size + 1) 24 #[.int .i64 (m : Int), .bool q] := by
      have := heap_alloc_last (w.alloc (Obj.cells #[Value.int IntKind.i64 (m : Int), Value.bool q] 24)) (Obj.cells #[Value.int IntKind.i64 (m : Int), Value.bool q] 24)
      simpa [Ar] using this
    have hld := ldPri ha
    refine bodyPost_ret (v := .agg #[.int .i64 (m : Int), .bool q]) (by simp [results, Tryd.results33, asAddr, hld]) rfl ⟨rfl, ?_⟩
    exact below_two ((Below.refl _ _).alloc (Nat.le_refl _) _) ((Below.refl _ _).alloc (Nat.le_refl _) _)

end Go.Proofs.YtekpjbhhbklboaaDoor
