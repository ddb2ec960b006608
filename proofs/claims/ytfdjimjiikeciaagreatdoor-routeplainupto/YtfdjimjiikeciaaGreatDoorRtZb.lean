/-
  Rows that are written over; routes compared.
-/
import Derived.Test.YtfdjimjiikeciaaGreatDoorRtZ
import Derived.Deep.MidRow
namespace Go.Proofs.YtfdjimjiikeciaaGreatDoor
open Go.RowKit

theorem upd_cells18 {b : Nat} {t : TypeId} (vs : List Value) : ∀ {w : World} {c : Array Value} (i : Nat), Ar w b t c → ∃ c', c'.size = c.size ∧ (∀ j, (j < i ∨ i + vs.length ≤ j) → c'[j]? = c[j]?) ∧ Ar (w.setCells b i vs) b t c' ∧ Upd b w (w.setCells b i vs) := by
  induction vs with
  | nil => intro w c i h; exact ⟨c, rfl, fun _ _ => rfl, h, ⟨rfl, rfl, rfl, rfl, fun _ _ => rfl⟩⟩
  | cons v r ih =>
    intro w c i h
    have h1 := upd_setCell w b i v
    obtain ⟨c', hs, hc, ha, h2⟩ := ih (i + 1) (h.set i v)
    refine ⟨c', by simpa using hs, fun j hj => ?_, ha, ⟨h2.os.trans h1.os, h2.tape.trans h1.tape, h2.output.trans h1.output, h2.size.trans h1.size, fun k hk => (h2.block k hk).trans (h1.block k hk)⟩⟩
    rw [List.length_cons] at hj
    rw [hc j (by omega), Array.getElem?_setIfInBounds_ne (by omega)]
theorem wpl_put18 {P : Program} {ops : Array Oper} {rest : List Oper} {o : Oper} {a : Act} {w : World} {Q : Exit → Act → World → Prop} (ty : TypeId) (x y : Operand) (ho : o.op = .store ty x y) (hgd : o.guard = none) (b i : Nat) (vs : List Value) (hx : a.eval x = .pointer (some ⟨b, i, none⟩)) (hy : a.eval y = .agg vs.toArray)
    (t : TypeId) (c : Array Value) (hg : Ar w b t c) (hi : (P.info? ty).map (·.size) = some vs.length) (hin : i + vs.length ≤ c.size) (h1 : ∀ v ∈ vs, v.oneCell' = true)
    (h : ∀ w' c', c'.size = c.size → (∀ j, (j < i ∨ i + vs.length ≤ j) → c'[j]? = c[j]?) → Ar w' b t c' → Upd b w w' → wpList P ops Q rest (a.put o.dst undef) w') : wpList P ops Q (o :: rest) a w := by
  obtain ⟨c', hs, hc, ha, hu⟩ := upd_cells18 vs i hg
  refine wpList_store_mid hgd ty x y ho b i vs.toArray hx hy ?_ (by simpa using hi) (all_oneCell_toArray h1) (by simpa using h _ c' hs hc ha hu)
  intro j hj
  have hj' : i + j < c.size := by have : j < vs.length := by simpa using hj
                                  omega
  exact ⟨by rw [Lib.cell_of_heap hg, Array.getElem?_eq_getElem hj']; rfl, Lib.frozen_of_heap hg _⟩
theorem noStandR18 : Tryz.prog.stoodInHeld 26 = false := by kernel_rfl
theorem fieldsR18 : Tryz.prog.underlying 26 = some (.struct (Tryz.prog.fieldsOf 26)) := by kernel_rfl
set_option maxRecDepth 20000 in
theorem neqR18 (a b d : ByteArray) (c : Int) (w : World) : (binOp .neq 26 (.agg #[.string a, .string b, .int .u8 c, .string d]) (.agg #[.string a, .string b, .int .u8 c, .string d])).run Tryz.prog w = .ok (.bool false) w := by
  rw [run_neq_struct, show (10000 : Nat) = 9999 + 1 by rfl, run_equalIn_agg w 9999 26 _ _ fieldsR18 noStandR18]
  simp only [Program.fieldsOf, Tryz.underlying26]
  go_simp
theorem RW18.init {w : World} {a : Addr} {n m cap : Nat} {l : List Fr18} {x : Fr18} (h : RW18 w (.slice (some a) m cap) (l ++ [x])) (hn : l.length = n) : RW18 w (.slice (some a) n cap) l ∧ n + 1 ≤ cap := by
  rcases h with ⟨h, _⟩ | ⟨a', cap', hv, hcp, hc⟩
  · cases h
  · injection hv with h1 _ h3
    injection h1 with h1
    subst h1 h3
    rw [List.length_append] at hcp
    refine ⟨.inr ⟨a, cap, by rw [hn], by simp at hcp; omega, fun j u hj => hc j u ?_⟩, by simp at hcp; omega⟩
    rw [rC18_app, List.getElem?_append_left (List.getElem?_eq_some_iff.1 hj).1]
    exact hj
/-- A row of one's own of routes, from its i-th one on as it was. -/
def OW18 (w : World) (g i : Nat) (l : List Fr18) : Prop := ∃ cs, Ar w g 26 cs ∧ (l.length + 1) * 4 ≤ cs.size ∧ ∀ j u, i * 4 ≤ j → (rC18 l)[j]? = some u → cs[j]? = some u
theorem OW18.of_own {w : World} {B g m cap : Nat} {l : List Fr18} {x : Fr18} (h : w.ownsRow B 26 4 (.slice (some ⟨g, 0, none⟩) m cap) m (rC18 (l ++ [x]))) : OW18 w g 0 l := by
  have hl := h.1
  rw [rC18_len, List.length_append] at hl
  rcases h.2 with ⟨h1, _⟩ | ⟨g', cap', cur, h1, _, h3, h4, _, h6, h7⟩
  · cases h1
  · injection h1 with h1 h8 h9
    injection h1 with h1
    injection h1 with h1
    subst h1
    refine ⟨cur, h3, ?_, fun j u _ hj => ?_⟩
    · simp at hl
      have : m * 4 ≤ cur.size := by rw [h6]; exact Nat.mul_le_mul_right 4 h4
      omega
    · have hjl := (List.getElem?_eq_some_iff.1 hj).1
      have h10 : (rC18 (l ++ [x]))[j]? = some u := by rw [rC18_app, List.getElem?_append_left hjl]; exact hj
      rw [← h7, List.getElem?_take] at h10
      split at h10
      · simpa using h10
      · cases h10
theorem OW18.keep {w w' : World} {g i : Nat} {l : List Fr18} (h : OW18 w g i l) (hb : Below w.heap.size w w') : OW18 w' g i l := by
  obtain ⟨cs, h1, h2, h3⟩ := h
  exact ⟨cs, h1.keep hb, h2, h3⟩
theorem OW18.four {w : World} {g i : Nat} {l : List Fr18} (h : OW18 w g i l) (x : Fr18) (hx : l[i]? = some x) : w.cell? ⟨g, i * 4, none⟩ = some (.string ⟨x.1.m.toArray⟩) ∧ w.cell? ⟨g, i * 4 + 1, none⟩ = some (.string ⟨x.1.p.toArray⟩) ∧ w.cell? ⟨g, i * 4 + 2, none⟩ = some (.int .u8 x.1.h) ∧ w.cell? ⟨g, i * 4 + 3, none⟩ = some (.string x.2) := by
  obtain ⟨cs, h1, _, h3⟩ := h
  have key : ∀ j u, j < 4 → (rV18 x)[j]? = some u → w.cell? ⟨g, i * 4 + j, none⟩ = some u := fun j u hj hu => h1.cell _ _ (h3 _ _ (by omega) ((rC18_at l i x hx j hj).trans hu))
  exact ⟨key 0 _ (by omega) rfl, key 1 _ (by omega) rfl, key 2 _ (by omega) rfl, key 3 _ (by omega) rfl⟩
/-- A row of parameters that is written over: its block, whatever it holds. -/
def PW18 (w : World) (ro : Option Addr) (m B : Nat) : Prop := m = 0 ∨ ∃ g cs, ro = some ⟨g, 0, none⟩ ∧ B ≤ g ∧ Ar w g 42 cs ∧ m * 2 ≤ cs.size
theorem PW18.of_own {w : World} {ro : Option Addr} {B m cap : Nat} {xs : List Value} (h : w.ownsRow B 42 2 (.slice ro m cap) m xs) : PW18 w ro m B := by
  rcases h.2 with ⟨hv, hn⟩ | ⟨g, cap, cur, hv, hb, hg, hn, hm, hs, ht⟩
  · exact .inl hn
  · injection hv with hv _ _
    exact .inr ⟨g, cur, hv, hb, hg, by rw [hs]; exact Nat.mul_le_mul_right 2 hn⟩

end Go.Proofs.YtfdjimjiikeciaaGreatDoor
