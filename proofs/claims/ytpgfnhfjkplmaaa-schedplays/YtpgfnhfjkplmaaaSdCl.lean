/-
  A script of calls that came in: each is two numbers.
-/
import Derived.Test.YtpgfnhfjkplmaaaProg
import Derived.Deep.Slices
import Derived.Deep.Strs
import Derived.SizedLaws
import Derived.RowKit
import Derived.ProofKit
import Derived.OpenShut
namespace Go.Proofs.Ytpgfnhfjkplmaaa
open Go.RowKit Go.ChangeShapes Go.WideShapes Go.ChangeAt Go.Deep

/-- One thing that happens. -/
structure Cl12 where
  what : Int
  num : Int
/-- A script in memory. -/
def Scr12 (w : World) (v : Value) (cs : List Cl12) : Prop :=
  (v = .slice none 0 0 ∧ cs = []) ∨ ∃ a cap, v = .slice (some a) cs.length cap ∧ ∀ i c, cs[i]? = some c →
    (a.add (i * 2)).block < w.heap.size ∧ w.cell? (a.add (i * 2)) = some (.int .i64 c.what) ∧ w.cell? ⟨(a.add (i * 2)).block, (a.add (i * 2)).off + 1, none⟩ = some (.int .i64 c.num)
/-- What a step reads as. -/
def clD12 {H : Type} (c : Cl12) : DataW H := .agg [.lit (.int .i64 c.what), .lit (.int .i64 c.num)]

theorem cells212 {w : World} {p : Addr} {cs : List Value} (h : w.cells? 0 p 2 = some cs) : ∃ v0 v1, cs = [v0, v1] ∧ w.cell? p = some v0 ∧ w.cell? ⟨p.block, p.off + 1, none⟩ = some v1 := by
  obtain ⟨_, hl, hc⟩ := World.cells?_some h
  match cs, hl with
  | [v0, v1], _ =>
    refine ⟨v0, v1, rfl, ?_, ?_⟩
    · simpa [Addr.add] using hc 0 (by omega)
    · simpa [Addr.add] using hc 1 (by omega)

set_option maxRecDepth 20000 in
theorem open_call12 {H : Type} {enc : TypeId × Value → H} {W : World} {n : Nat} {v0 v1 : Value} {x : DataW H × List MemPlace} (h : DataW.trod enc Try.prog W 0 (fun _ => true) true n 29 [v0, v1] = some x) :
    ∃ c : Cl12, v0 = .int .i64 c.what ∧ v1 = .int .i64 c.num ∧ x = (clD12 c, []) := by
  obtain ⟨y0, y1, m, rfl, _, h0, h1⟩ := trod_struct2 Try.underlying29 h
  have c1 : Try.prog.cellsOf 3 = 1 := by kernel_rfl
  simp only [c1, List.drop_zero, List.take_succ_cons, List.take_zero, List.drop_succ_cons] at h0 h1
  obtain ⟨i0, e0, rfl, w0⟩ := DataW.trod_int Try.underlying3 h0
  obtain ⟨i1, e1, rfl, w1⟩ := DataW.trod_int Try.underlying3 h1
  simp only [List.cons.injEq, and_true] at e0 e1
  subst e0 e1
  exact ⟨⟨i0, i1⟩, rfl, rfl, rfl⟩

set_option maxRecDepth 20000 in
theorem open_calls12 {H : Type} {enc : TypeId × Value → H} {W : World} {base : Nat} {v : Value} {d : DataW H} {p : List MemPlace} (hval : Value.okWide Try.prog W .any base 22 v) (h : DataW.Trod enc Try.prog W 0 (fun _ => true) true 22 v d p) :
    ∃ cs : List Cl12, Scr12 W v cs ∧ cs.length ≤ maxLen ∧ ((d = .nil ∧ cs = []) ∨ ∃ spare, d = .slice (cs.map clD12) spare) := by
  obtain ⟨a, len, cap, rfl⟩ := okWide_slice Try.underlying22 hval
  obtain ⟨fuel, hf⟩ := h
  have c4 : Try.prog.cellsOf 29 = 2 := by kernel_rfl
  rcases open_slice Try.underlying22 hf with ⟨h1, h2⟩ | ⟨a', len', cap', m, n, D, Pl, h1, _, hlc, hcm, hm, hx, hel⟩
  · simp [Value.cells] at h1 h2
    obtain ⟨rfl, rfl, rfl⟩ := h1
    exact ⟨[], .inl ⟨rfl, rfl⟩, by simp, .inl ⟨h2.1, rfl⟩⟩
  · simp [Value.cells] at h1
    obtain ⟨rfl, rfl, rfl⟩ := h1
    simp only [if_true] at hm
    rw [hm] at hel hx
    have hch : ∀ i, ∃ c : Cl12, i < len → ((a'.add (i * 2)).block < W.heap.size ∧ W.cell? (a'.add (i * 2)) = some (.int .i64 c.what) ∧ W.cell? ⟨(a'.add (i * 2)).block, (a'.add (i * 2)).off + 1, none⟩ = some (.int .i64 c.num)) ∧ D i = clD12 c := by
      intro i
      by_cases hi : i < len
      · obtain ⟨cs', hc, ht⟩ := hel i (by omega)
        rw [c4] at hc
        obtain ⟨v0, v1, rfl, k0, k1⟩ := cells212 hc
        obtain ⟨c, rfl, rfl, e⟩ := open_call12 ht
        exact ⟨c, fun _ => ⟨⟨World.cells?_block hc (by omega), k0, k1⟩, (Prod.mk.inj e).1⟩⟩
      · exact ⟨⟨0, 0⟩, fun h => absurd h hi⟩
    obtain ⟨f, hf'⟩ := Classical.axiomOfChoice hch
    refine ⟨(List.range len).map f, .inr ⟨a', cap, by simp, ?_⟩, by simp; omega, .inr ⟨((List.range (cap - len)).map fun j => D (len + j)), ?_⟩⟩
    · intro i c hc
      have hi : i < len := by
        have := (List.getElem?_eq_some_iff.1 hc).1
        simpa using this
      have e : f i = c := by simpa [List.getElem?_map, List.getElem?_range hi] using hc
      rw [← e]
      exact (hf' i hi).1
    · rw [(Prod.mk.inj hx).1]
      congr 1
      rw [List.map_map]
      apply List.map_congr_left
      intro i hi
      exact (hf' i (by simpa using hi)).2

/-- How great a script can be. -/
theorem calls_reach12 {H : Type} {ts : List TypeId} {ds : List (DataW H)} {d : DataW H} {cs : List Cl12} (hsz : (DataW.weightsEach Try.prog ts ds).all (· ≤ reachBytes) = true) {j : Nat} (ht : ts[j]? = some 22) (hd : ds[j]? = some d) (hc : (d = .nil ∧ cs = []) ∨ ∃ spare, d = .slice (cs.map clD12) spare) :
    cs.length ≤ 140737488355328 := by
  have hr := reachBytes_lt
  rcases hc with ⟨_, rfl⟩ | ⟨spare, rfl⟩
  · simp
  · have hm : ∀ n ∈ (DataW.slice (cs.map clD12) spare : DataW H).weights Try.prog 22, n ≤ reachBytes := fun n hn => by
      have := List.all_eq_true.1 hsz _ (DataW.weights_mem_each ht hd n hn)
      simpa using this
    have hw : (DataW.slice (cs.map clD12) spare : DataW H).weights Try.prog 22 = ((cs.map clD12 : List (DataW H)).length + spare.length) * Try.prog.bytesOf 29 :: (DataW.weightsAll Try.prog 29 (cs.map clD12 : List (DataW H)) ++ DataW.weightsAll Try.prog 29 spare) := by
      simp [DataW.weights, Try.underlying22]
    rw [hw] at hm
    have hb : Try.prog.bytesOf 29 = 16 := by kernel_rfl
    have := hm _ (List.mem_cons_self ..)
    rw [hb, List.length_map] at this
    omega

theorem Scr12.shape {w : World} {v : Value} {cs : List Cl12} (h : Scr12 w v cs) : ∃ ao cap, v = .slice ao cs.length cap := by
  rcases h with ⟨h, rfl⟩ | ⟨a, cap, h, _⟩
  · exact ⟨none, 0, h⟩
  · exact ⟨some a, cap, h⟩
theorem Scr12.at {w w' : World} {ao : Option Addr} {n cap : Nat} {cs : List Cl12} (h : Scr12 w (.slice ao n cap) cs) (hb : Below w.heap.size w w') (i : Nat) (c : Cl12) (hc : cs[i]? = some c) : ∃ a, ao = some a ∧ w'.cell? (a.add (i * 2)) = some (.int .i64 c.what) ∧ w'.cell? ⟨(a.add (i * 2)).block, (a.add (i * 2)).off + 1, none⟩ = some (.int .i64 c.num) := by
  rcases h with ⟨_, rfl⟩ | ⟨a, cap', hv, hcs⟩
  · simp at hc
  · injection hv with h1 _ _
    obtain ⟨hl, c0, c1⟩ := hcs i c hc
    exact ⟨a, h1, (hb.cell hl).trans c0, (hb.cell (p := ⟨(a.add (i * 2)).block, (a.add (i * 2)).off + 1, none⟩) hl).trans c1⟩

end Go.Proofs.Ytpgfnhfjkplmaaa
