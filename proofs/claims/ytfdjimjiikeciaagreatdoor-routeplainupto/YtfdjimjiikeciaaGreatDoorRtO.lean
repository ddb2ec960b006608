/-
  Rows of routes and of asks, wherever they lie; routes appended to a row of one's own.
-/
import Derived.Test.YtfdjimjiikeciaaGreatDoorRtN
import Derived.Laws.OwnMore
import Derived.Laws.AppendOwnNone
namespace Go.Proofs.YtfdjimjiikeciaaGreatDoor
open Go.RowKit

abbrev Fr18 := Rt.Ro × ByteArray
def rV18 (x : Fr18) : List Value := [.string ⟨x.1.m.toArray⟩, .string ⟨x.1.p.toArray⟩, .int .u8 x.1.h, .string x.2]
def rC18 (l : List Fr18) : List Value := l.flatMap rV18
theorem rC18_app (l m : List Fr18) : rC18 (l ++ m) = rC18 l ++ rC18 m := by simp [rC18]
theorem rC18_len (l : List Fr18) : (rC18 l).length = l.length * 4 := by
  induction l with
  | nil => rfl
  | cons a r ih => simp only [rC18, List.flatMap_cons, List.length_append, List.length_cons] at *; simp [rV18] at *; omega
theorem rC18_at (l : List Fr18) (i : Nat) (p : Fr18) (h : l[i]? = some p) : ∀ j, j < 4 → (rC18 l)[i * 4 + j]? = (rV18 p)[j]? := by
  induction l generalizing i with
  | nil => simp at h
  | cons a r ih =>
    intro j hj
    rw [show rC18 (a :: r) = rV18 a ++ rC18 r from rfl]
    cases i with
    | zero => simp at h; subst h; rw [List.getElem?_append_left (by simp [rV18]; omega)]; congr 1; omega
    | succ i =>
      rw [List.getElem?_append_right (by simp [rV18]; omega), show (i + 1) * 4 + j - (rV18 a).length = i * 4 + j by simp [rV18]; omega]
      exact ih i (by simpa using h) j hj
theorem rC18_one (l : List Fr18) : ∀ u ∈ rC18 l, u.oneCell' = true := by
  intro u hu
  unfold rC18 at hu
  rw [List.mem_flatMap] at hu
  obtain ⟨x, _, hx⟩ := hu
  simp only [rV18, List.mem_cons, List.not_mem_nil, or_false] at hx
  rcases hx with rfl | rfl | rfl | rfl <;> rfl
/-- Routes that can be read, wherever they lie. -/
def RW18 (w : World) (v : Value) (l : List Fr18) : Prop :=
  (v = .slice none 0 0 ∧ l = []) ∨ ∃ a cap, v = .slice (some a) l.length cap ∧ l.length ≤ cap ∧ ∀ j u, (rC18 l)[j]? = some u → (a.add j).block < w.heap.size ∧ w.cell? (a.add j) = some u
theorem RW18.keep {w w' : World} {v : Value} {l : List Fr18} (h : RW18 w v l) (hb : Below w.heap.size w w') : RW18 w' v l := by
  rcases h with h | ⟨a, cap, hv, hcp, hc⟩
  · exact .inl h
  · exact .inr ⟨a, cap, hv, hcp, fun j u hj => ⟨Nat.lt_of_lt_of_le (hc j u hj).1 hb.size, (hb.cell (hc j u hj).1).trans (hc j u hj).2⟩⟩
theorem RW18.shape {w : World} {v : Value} {l : List Fr18} (h : RW18 w v l) : ∃ ao cap, v = .slice ao l.length cap := by
  rcases h with ⟨h, rfl⟩ | ⟨a, cap, h, _⟩
  · exact ⟨none, 0, h⟩
  · exact ⟨some a, cap, h⟩
theorem RW18.four {w : World} {ao : Option Addr} {n cap : Nat} {l : List Fr18} (h : RW18 w (.slice ao n cap) l) (i : Nat) (p : Fr18) (hp : l[i]? = some p) : ∃ a, ao = some a ∧ (a.add (i * 4)).block < w.heap.size ∧ w.cell? (a.add (i * 4)) = some (.string ⟨p.1.m.toArray⟩) ∧ w.cell? ⟨(a.add (i * 4)).block, (a.add (i * 4)).off + 1, none⟩ = some (.string ⟨p.1.p.toArray⟩) ∧ w.cell? ⟨(a.add (i * 4)).block, (a.add (i * 4)).off + 2, none⟩ = some (.int .u8 p.1.h) ∧ w.cell? ⟨(a.add (i * 4)).block, (a.add (i * 4)).off + 3, none⟩ = some (.string p.2) := by
  rcases h with ⟨_, rfl⟩ | ⟨a, cap', hv, hcp, hc⟩
  · simp at hp
  · injection hv with h1 _ _
    have key : ∀ j u, j < 4 → (rV18 p)[j]? = some u → (a.add (i * 4 + j)).block < w.heap.size ∧ w.cell? (a.add (i * 4 + j)) = some u := fun j u hj hu => hc _ _ ((rC18_at l i p hp j hj).trans hu)
    have k0 := key 0 _ (by omega) rfl
    have k1 := (key 1 _ (by omega) rfl).2
    have k2 := (key 2 _ (by omega) rfl).2
    have k3 := (key 3 _ (by omega) rfl).2
    rw [← Addr.add_add] at k0 k1 k2 k3
    refine ⟨a, h1, ?_, ?_, ?_, ?_, ?_⟩
    · simpa [Addr.add] using k0.1
    · simpa [Addr.add] using k0.2
    · simpa [Addr.add] using k1
    · simpa [Addr.add] using k2
    · simpa [Addr.add] using k3
theorem RW18.of_own {w : World} {B : Nat} {e : TypeId} {v : Value} {l : List Fr18} (h : w.ownsRow B e 4 v l.length (rC18 l)) : RW18 w v l := by
  rcases h.2 with ⟨hv, hn⟩ | ⟨g, cap, cur, hv, _, h3, h4, _⟩
  · exact .inl ⟨hv, List.eq_nil_of_length_eq_zero hn⟩
  · refine .inr ⟨⟨g, 0, none⟩, cap, hv, h4, fun j u hj => ⟨?_, ?_⟩⟩
    · have := (Array.getElem?_eq_some_iff.1 h3).1
      unfold Addr.add
      split <;> exact this
    · exact h.cells (g := g) (by rw [hv]; rfl) j u hj
/-- No text of a route is too long to be looked at. -/
def BD18 (l : List Fr18) : Prop := ∀ x ∈ l, x.1.p.length ≤ 4194304 ∧ x.1.m.length ≤ 4194304
theorem RW18.rr {w : World} {ao : Option Addr} {n cap : Nat} {l : List Fr18} (h : RW18 w (.slice ao n cap) l) (hb : BD18 l) : RR18 w ao (l.map (·.1)) := fun i r hr => by
  rw [List.getElem?_map] at hr
  obtain ⟨p, hp, rfl⟩ := Option.map_eq_some_iff.1 hr
  obtain ⟨a, h1, h2, h3, h4, h5, h6⟩ := h.four i p hp
  have hq := hb p (List.mem_of_getElem? hp)
  exact ⟨a, h1, h2, h3, h4, h5, hq.1, hq.2, p.2, h6⟩
theorem infoR18 : (Tryz.prog.info? 26).map (fun i => (i.zero, i.size, i.bytes)) = some (some (.agg #[.string ⟨#[]⟩, .string ⟨#[]⟩, .int .u8 0, .string ⟨#[]⟩]), 4, 56) := by kernel_rfl
theorem wpl_appR18 {w : World} {ops : Array Oper} {rest : List Oper} {o : Oper} {a : Act} {Q : Exit → Act → World → Prop} (hgd : o.guard = none) (s x : Operand)
    (ho : o.op = .call { callee := .builtin .append, args := #[s, x], argTypes := #[22, 22] })
    (B : Nat) (v : Value) (n : Nat) (xs : List Value) (hs : a.eval s = v) (hown : w.ownsRow B 26 4 v n xs) (y : Value) (l : List Fr18) (hx : a.eval x = y) (hy : RW18 w y l)
    (h63 : n + l.length ≤ 4194306) (hB : B ≤ w.heap.size)
    (h : ∀ v' w', w'.ownsRow B 26 4 v' (n + l.length) (xs ++ rC18 l) → w.grownBy w' v.ownBlock → (v'.ownBlock = v.ownBlock ∨ v'.ownBlock = some w.heap.size) → wpList Tryz.prog ops Q rest (a.put o.dst v') w') :
    wpList Tryz.prog ops Q (o :: rest) a w := by
  obtain ⟨i0, hi0, hz0, hz1, hz2⟩ := minfo17 infoR18
  rcases hy with ⟨rfl, rfl⟩ | ⟨ad, cap, rfl, hc, hcells⟩
  · refine wpList_append_own_none hgd s x 22 ho B 26 i0 4 Tryz.underlying22 hi0 v n xs hs hown hx ?_
    refine h v w ?_ ⟨rfl, rfl, rfl, Nat.le_refl _, fun _ _ _ => rfl⟩ (.inl rfl)
    simpa [rC18] using hown
  · refine wpList_append_own_at w hgd s x 22 ho B 26 i0 (.agg #[.string ⟨#[]⟩, .string ⟨#[]⟩, .int .u8 0, .string ⟨#[]⟩]) 4 56 Tryz.underlying22 hi0 hz0 hz1 hz2 rfl (by decide) v n xs hs hown ad l.length cap (rC18 l) hx (rC18_len l) (fun j u hj => (hcells j u hj).2) (rC18_one l) (by unfold maxLen; omega) (by omega) hB ?_
    intro v' w' h1 h2 _ h4
    exact h v' w' h1 h2 h4
theorem below_gr18 {B : Nat} {w0 w w' : World} {e : TypeId} {s : Nat} {v : Value} {n : Nat} {xs : List Value} (hb : Below B w0 w) (hB : B ≤ w.heap.size) (ho : w.ownsRow B e s v n xs) (hg : w.grownBy w' v.ownBlock) : Below B w0 w' :=
  hb.grown hg hB (fun k hk => (ho.lt k hk).1)
/-- Asks that can be read. -/
structure Ak18 where
  m : ByteArray
  p : ByteArray
def KW18 (w : World) (ao : Option Addr) (l : List Ak18) : Prop := ∀ (i : Nat) (k : Ak18), l[i]? = some k → ∃ a : Addr, ao = some a ∧ (a.add (i * 2)).block < w.heap.size ∧ w.cell? (a.add (i * 2)) = some (.string k.m) ∧ w.cell? ⟨(a.add (i * 2)).block, (a.add (i * 2)).off + 1, none⟩ = some (.string k.p) ∧ k.p.size ≤ 4194304
theorem KW18.below {w w' : World} {ao : Option Addr} {l : List Ak18} (h : KW18 w ao l) (hb : Below w.heap.size w w') : KW18 w' ao l := fun i k hk => by
  obtain ⟨a, h1, h2, h3, h4, h5⟩ := h i k hk
  exact ⟨a, h1, Nat.lt_of_lt_of_le h2 hb.size, (hb.cell h2).trans h3, (hb.cell (p := ⟨(a.add (i * 2)).block, (a.add (i * 2)).off + 1, none⟩) h2).trans h4, h5⟩

end Go.Proofs.YtfdjimjiikeciaaGreatDoor
