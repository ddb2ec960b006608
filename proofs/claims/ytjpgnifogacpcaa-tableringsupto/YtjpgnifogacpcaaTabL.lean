/-
  A script of calls that came in.
-/
import Derived.Test.YtjpgnifogacpcaaProg
import Derived.Deep.Slices
import Derived.Deep.Strs
import Derived.SizedLaws
import Derived.RowKit
import Derived.ProofKit
import Derived.OpenShut
namespace Go.Proofs.Ytjpgnifogacpcaa
open Go.RowKit Go.ChangeShapes Go.WideShapes Go.ChangeAt Go.Deep

/-- One thing that is done with a table. -/
structure Cl where
  what : Nat
  num : Int
  name : List UInt8
  val : List UInt8
/-- A script in memory. -/
def Scr (w : World) (v : Value) (cs : List Cl) : Prop :=
  (v = .slice none 0 0 ∧ cs = []) ∨ ∃ a cap, v = .slice (some a) cs.length cap ∧ ∀ i c, cs[i]? = some c →
    (a.add (i * 4)).block < w.heap.size ∧ w.cell? (a.add (i * 4)) = some (.int .u8 (c.what : Int)) ∧ w.cell? ⟨(a.add (i * 4)).block, (a.add (i * 4)).off + 1, none⟩ = some (.int .i64 c.num) ∧ w.cell? ⟨(a.add (i * 4)).block, (a.add (i * 4)).off + 2, none⟩ = some (.string ⟨c.name.toArray⟩) ∧ w.cell? ⟨(a.add (i * 4)).block, (a.add (i * 4)).off + 3, none⟩ = some (.string ⟨c.val.toArray⟩)
/-- What a call reads as. -/
def clD {H : Type} (c : Cl) : DataW H := .agg [.lit (.int .u8 (c.what : Int)), .lit (.int .i64 c.num), .agg [.lit (.string c.name), .lit (.string c.val)]]

theorem cells4 {w : World} {p : Addr} {cs : List Value} (h : w.cells? 0 p 4 = some cs) : ∃ v0 v1 v2 v3, cs = [v0, v1, v2, v3] ∧ w.cell? p = some v0 ∧ w.cell? ⟨p.block, p.off + 1, none⟩ = some v1 ∧ w.cell? ⟨p.block, p.off + 2, none⟩ = some v2 ∧ w.cell? ⟨p.block, p.off + 3, none⟩ = some v3 := by
  obtain ⟨_, hl, hc⟩ := World.cells?_some h
  match cs, hl with
  | [v0, v1, v2, v3], _ =>
    refine ⟨v0, v1, v2, v3, rfl, ?_, ?_, ?_, ?_⟩
    · simpa [Addr.add] using hc 0 (by omega)
    · simpa [Addr.add] using hc 1 (by omega)
    · simpa [Addr.add] using hc 2 (by omega)
    · simpa [Addr.add] using hc 3 (by omega)

theorem open_call {H : Type} {enc : TypeId × Value → H} {W : World} {n : Nat} {v0 v1 v2 v3 : Value} {x : DataW H × List MemPlace} (h : DataW.trod enc Try.prog W 0 (fun _ => true) true n 34 [v0, v1, v2, v3] = some x) :
    ∃ c : Cl, v0 = .int .u8 (c.what : Int) ∧ v1 = .int .i64 c.num ∧ v2 = .string ⟨c.name.toArray⟩ ∧ v3 = .string ⟨c.val.toArray⟩ ∧ c.what < 256 ∧ (-9223372036854775808 ≤ c.num ∧ c.num ≤ 9223372036854775807) ∧ x = (clD c, []) := by
  obtain ⟨y0, y1, y2, m, rfl, _, h0, h1, h2⟩ := trod_struct3 Try.underlying34 h
  have c0 : Try.prog.cellsOf 5 = 1 := by kernel_rfl
  have c1 : Try.prog.cellsOf 3 = 1 := by kernel_rfl
  have c2 : Try.prog.cellsOf 32 = 2 := by kernel_rfl
  have c3 : Try.prog.cellsOf 9 = 1 := by kernel_rfl
  simp only [c0, c1, c2, List.drop_zero, List.take_succ_cons, List.take_zero, List.drop_succ_cons] at h0 h1 h2
  obtain ⟨i0, e0, rfl, w0⟩ := DataW.trod_int Try.underlying5 h0
  obtain ⟨i1, e1, rfl, w1⟩ := DataW.trod_int Try.underlying3 h1
  obtain ⟨z0, z1, m2, rfl, _, g0, g1⟩ := trod_struct2 Try.underlying32 h2
  simp only [c3, List.drop_zero, List.take_succ_cons, List.take_zero, List.drop_succ_cons] at g0 g1
  obtain ⟨s0, f0, rfl, _⟩ := DataW.trod_string Try.underlying9 g0
  obtain ⟨s1, f1, rfl, _⟩ := DataW.trod_string Try.underlying9 g1
  simp only [List.cons.injEq, and_true] at e0 e1 f0 f1
  subst e0 e1 f0 f1
  have b0 := bounds_u8 w0
  have b1 := bounds_i64 w1
  refine ⟨⟨i0.toNat, i1, s0.data.toList, s1.data.toList⟩, ?_, rfl, rfl, rfl, ?_, ?_, ?_⟩
  · simp only; congr 1; omega
  · simp only; omega
  · simp only; omega
  · simp only [clD]
    congr 2
    congr 2
    congr 2
    omega

theorem open_calls {H : Type} {enc : TypeId × Value → H} {W : World} {base : Nat} {v : Value} {d : DataW H} {p : List MemPlace} (hval : Value.okWide Try.prog W .any base 22 v) (h : DataW.Trod enc Try.prog W 0 (fun _ => true) true 22 v d p) :
    ∃ cs : List Cl, Scr W v cs ∧ (∀ c ∈ cs, c.what < 256 ∧ (-9223372036854775808 ≤ c.num ∧ c.num ≤ 9223372036854775807)) ∧ cs.length ≤ maxLen ∧ ((d = .nil ∧ cs = []) ∨ ∃ spare, d = .slice (cs.map clD) spare) := by
  obtain ⟨a, len, cap, rfl⟩ := okWide_slice Try.underlying22 hval
  obtain ⟨fuel, hf⟩ := h
  have c4 : Try.prog.cellsOf 34 = 4 := by kernel_rfl
  rcases open_slice Try.underlying22 hf with ⟨h1, h2⟩ | ⟨a', len', cap', m, n, D, Pl, h1, _, hlc, hcm, hm, hx, hel⟩
  · simp [Value.cells] at h1 h2
    obtain ⟨rfl, rfl, rfl⟩ := h1
    exact ⟨[], .inl ⟨rfl, rfl⟩, fun c hc => by simp at hc, by simp, .inl ⟨h2.1, rfl⟩⟩
  · simp [Value.cells] at h1
    obtain ⟨rfl, rfl, rfl⟩ := h1
    simp only [if_true] at hm
    rw [hm] at hel hx
    have hch : ∀ i, ∃ c : Cl, i < len → ((a'.add (i * 4)).block < W.heap.size ∧ W.cell? (a'.add (i * 4)) = some (.int .u8 (c.what : Int)) ∧ W.cell? ⟨(a'.add (i * 4)).block, (a'.add (i * 4)).off + 1, none⟩ = some (.int .i64 c.num) ∧ W.cell? ⟨(a'.add (i * 4)).block, (a'.add (i * 4)).off + 2, none⟩ = some (.string ⟨c.name.toArray⟩) ∧ W.cell? ⟨(a'.add (i * 4)).block, (a'.add (i * 4)).off + 3, none⟩ = some (.string ⟨c.val.toArray⟩)) ∧ (c.what < 256 ∧ (-9223372036854775808 ≤ c.num ∧ c.num ≤ 9223372036854775807)) ∧ D i = clD c := by
      intro i
      by_cases hi : i < len
      · obtain ⟨cs', hc, ht⟩ := hel i (by omega)
        rw [c4] at hc
        obtain ⟨v0, v1, v2, v3, rfl, k0, k1, k2, k3⟩ := cells4 hc
        obtain ⟨c, rfl, rfl, rfl, rfl, w0, w1, e⟩ := open_call ht
        exact ⟨c, fun _ => ⟨⟨World.cells?_block hc (by omega), k0, k1, k2, k3⟩, ⟨w0, w1⟩, (Prod.mk.inj e).1⟩⟩
      · exact ⟨⟨0, 0, [], []⟩, fun h => absurd h hi⟩
    obtain ⟨f, hf'⟩ := Classical.axiomOfChoice hch
    refine ⟨(List.range len).map f, .inr ⟨a', cap, by simp, ?_⟩, ?_, by simp; omega, .inr ⟨((List.range (cap - len)).map fun j => D (len + j)), ?_⟩⟩
    · intro i c hc
      have hi : i < len := by
        have := (List.getElem?_eq_some_iff.1 hc).1
        simpa using this
      have e : f i = c := by simpa [List.getElem?_map, List.getElem?_range hi] using hc
      rw [← e]
      exact (hf' i hi).1
    · intro c hc
      obtain ⟨i, hi, rfl⟩ := List.mem_map.1 hc
      exact (hf' i (by simpa using hi)).2.1
    · rw [(Prod.mk.inj hx).1]
      congr 1
      rw [List.map_map]
      apply List.map_congr_left
      intro i hi
      exact (hf' i (by simpa using hi)).2.2

theorem mem_weightsAll {H : Type} {P : Program} {e : TypeId} {d : DataW H} {n : Nat} : ∀ {ds : List (DataW H)}, d ∈ ds → n ∈ d.weights P e → n ∈ DataW.weightsAll P e ds := by
  intro ds
  induction ds with
  | nil => intro h; simp at h
  | cons d0 r ih =>
    intro h hn
    unfold DataW.weightsAll
    rcases List.mem_cons.1 h with rfl | h
    · exact List.mem_append.2 (.inl hn)
    · exact List.mem_append.2 (.inr (ih h hn))
theorem weights_cl {H : Type} (c : Cl) : (clD c : DataW H).weights Try.prog 34 = [c.name.length, c.val.length] := by
  simp [clD, DataW.weights, DataW.weightsEach, Try.underlying34, Try.underlying32]
/-- How great a script can be. -/
theorem calls_reach {H : Type} {ts : List TypeId} {ds : List (DataW H)} {d : DataW H} {cs : List Cl} (hsz : (DataW.weightsEach Try.prog ts ds).all (· ≤ reachBytes) = true) {j : Nat} (ht : ts[j]? = some 22) (hd : ds[j]? = some d) (hc : (d = .nil ∧ cs = []) ∨ ∃ spare, d = .slice (cs.map clD) spare) :
    cs.length ≤ 140737488355328 ∧ ∀ c ∈ cs, c.name.length ≤ 140737488355328 ∧ c.val.length ≤ 140737488355328 := by
  have hr := reachBytes_lt
  rcases hc with ⟨_, rfl⟩ | ⟨spare, rfl⟩
  · exact ⟨by simp, fun c hc => by simp at hc⟩
  · have hm : ∀ n ∈ (DataW.slice (cs.map clD) spare : DataW H).weights Try.prog 22, n ≤ reachBytes := fun n hn => by
      have := List.all_eq_true.1 hsz _ (DataW.weights_mem_each ht hd n hn)
      simpa using this
    have hw : (DataW.slice (cs.map clD) spare : DataW H).weights Try.prog 22 = ((cs.map clD : List (DataW H)).length + spare.length) * Try.prog.bytesOf 34 :: (DataW.weightsAll Try.prog 34 (cs.map clD : List (DataW H)) ++ DataW.weightsAll Try.prog 34 spare) := by
      simp [DataW.weights, Try.underlying22]
    rw [hw] at hm
    have hb : Try.prog.bytesOf 34 = 48 := by kernel_rfl
    refine ⟨?_, fun c hc => ?_⟩
    · have := hm _ (List.mem_cons_self ..)
      rw [hb, List.length_map] at this
      omega
    · have key : ∀ n ∈ [c.name.length, c.val.length], n ≤ reachBytes := fun n hn => hm n (List.mem_cons_of_mem _ (List.mem_append.2 (.inl (mem_weightsAll (List.mem_map.2 ⟨c, hc, rfl⟩) (by rw [weights_cl]; exact hn)))))
      have k1 := key c.name.length (by simp)
      have k2 := key c.val.length (by simp)
      omega

end Go.Proofs.Ytjpgnifogacpcaa
