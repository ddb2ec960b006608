/-
  A script of calls that came in: each is a change of a disk.
-/
import Derived.Test.YtnggablpkgbpaaaDoorProg
import Derived.Deep.Slices
import Derived.Deep.Strs
import Derived.SizedLaws
import Derived.RowKit
import Derived.ProofKit
import Derived.OpenShut
import Derived.Lib.Strings
namespace Go.Proofs.YtnggablpkgbpaaaDoor
open Go.RowKit Go.ChangeShapes Go.WideShapes Go.ChangeAt Go.Deep

/-- One thing that happens. -/
structure Cl13 where
  take : Bool
  path : ByteArray
  body : ByteArray
  time : Int
  long : Int
/-- One change's cells. -/
def Op13At (w : World) (p : Addr) (c : Cl13) : Prop :=
  w.cell? p = some (.bool c.take) ∧ w.cell? ⟨p.block, p.off + 1, none⟩ = some (.string c.path) ∧ w.cell? ⟨p.block, p.off + 2, none⟩ = some (.string c.body) ∧ w.cell? ⟨p.block, p.off + 3, none⟩ = some (.int .i64 c.time) ∧ w.cell? ⟨p.block, p.off + 4, none⟩ = some (.int .i64 c.long)
/-- A script in memory. -/
def Scr13 (w : World) (v : Value) (cs : List Cl13) : Prop :=
  (v = .slice none 0 0 ∧ cs = []) ∨ ∃ a cap, v = .slice (some a) cs.length cap ∧ ∀ i c, cs[i]? = some c → (a.add (i * 5)).block < w.heap.size ∧ Op13At w (a.add (i * 5)) c
/-- What a step reads as. -/
def clD13 {H : Type} (c : Cl13) : DataW H := .agg [.lit (.bool c.take), .lit (.string c.path.data.toList), .lit (.string c.body.data.toList), .lit (.int .i64 c.time), .lit (.int .i64 c.long)]

theorem cells513 {w : World} {p : Addr} {cs : List Value} (h : w.cells? 0 p 5 = some cs) : ∃ v0 v1 v2 v3 v4, cs = [v0, v1, v2, v3, v4] ∧ w.cell? p = some v0 ∧ w.cell? ⟨p.block, p.off + 1, none⟩ = some v1 ∧ w.cell? ⟨p.block, p.off + 2, none⟩ = some v2 ∧ w.cell? ⟨p.block, p.off + 3, none⟩ = some v3 ∧ w.cell? ⟨p.block, p.off + 4, none⟩ = some v4 := by
  obtain ⟨_, hl, hc⟩ := World.cells?_some h
  match cs, hl with
  | [v0, v1, v2, v3, v4], _ =>
    refine ⟨v0, v1, v2, v3, v4, rfl, ?_, ?_, ?_, ?_, ?_⟩
    · simpa [Addr.add] using hc 0 (by omega)
    · simpa [Addr.add] using hc 1 (by omega)
    · simpa [Addr.add] using hc 2 (by omega)
    · simpa [Addr.add] using hc 3 (by omega)
    · simpa [Addr.add] using hc 4 (by omega)
theorem trod_struct5 {H : Type} {enc : TypeId × Value → H} {P : Program} {w : World} {base : Nat} {spare : Nat → Bool} {held : Bool} {t : TypeId} {f0 f1 f2 f3 f4 : Field} {fuel : Nat} {cs : List Value} {x : DataW H × List MemPlace} (ht : P.underlying t = some (.struct #[f0, f1, f2, f3, f4])) (h : DataW.trod enc P w base spare held fuel t cs = some x) :
    ∃ y0 y1 y2 y3 y4 n, x.1 = .agg [y0.1, y1.1, y2.1, y3.1, y4.1] ∧ DataW.trod enc P w base spare held n f0.type ((cs.drop f0.offset).take (P.cellsOf f0.type)) = some y0 ∧ DataW.trod enc P w base spare held n f1.type ((cs.drop f1.offset).take (P.cellsOf f1.type)) = some y1 ∧
      DataW.trod enc P w base spare held n f2.type ((cs.drop f2.offset).take (P.cellsOf f2.type)) = some y2 ∧ DataW.trod enc P w base spare held n f3.type ((cs.drop f3.offset).take (P.cellsOf f3.type)) = some y3 ∧ DataW.trod enc P w base spare held n f4.type ((cs.drop f4.offset).take (P.cellsOf f4.type)) = some y4 := by
  obtain ⟨xs, n, _, rfl, hl, hlen, hf⟩ := DataW.trod_struct ht h
  match xs, hlen with
  | [y0, y1, y2, y3, y4], _ => exact ⟨y0, y1, y2, y3, y4, n, by simp, by simpa using hf 0 f0 rfl, by simpa using hf 1 f1 rfl, by simpa using hf 2 f2 rfl, by simpa using hf 3 f3 rfl, by simpa using hf 4 f4 rfl⟩

set_option maxRecDepth 20000 in
theorem open_call13 {H : Type} {enc : TypeId × Value → H} {W : World} {n : Nat} {v0 v1 v2 v3 v4 : Value} {x : DataW H × List MemPlace} (h : DataW.trod enc Tryd.prog W 0 (fun _ => true) true n 31 [v0, v1, v2, v3, v4] = some x) :
    ∃ c : Cl13, v0 = .bool c.take ∧ v1 = .string c.path ∧ v2 = .string c.body ∧ v3 = .int .i64 c.time ∧ v4 = .int .i64 c.long ∧ x.1 = clD13 c := by
  obtain ⟨y0, y1, y2, y3, y4, m, hx, h0, h1, h2, h3, h4⟩ := trod_struct5 Tryd.underlying31 h
  have c0 : Tryd.prog.cellsOf 4 = 1 := by kernel_rfl
  have c1 : Tryd.prog.cellsOf 9 = 1 := by kernel_rfl
  have c2 : Tryd.prog.cellsOf 3 = 1 := by kernel_rfl
  simp only [c0, c1, c2, List.drop_zero, List.take_succ_cons, List.take_zero, List.drop_succ_cons] at h0 h1 h2 h3 h4
  obtain ⟨b0, e0, r0⟩ := DataW.trod_bool Tryd.underlying4 h0
  obtain ⟨s1, e1, r1, _⟩ := DataW.trod_string Tryd.underlying9 h1
  obtain ⟨s2, e2, r2, _⟩ := DataW.trod_string Tryd.underlying9 h2
  obtain ⟨i3, e3, r3, _⟩ := DataW.trod_int Tryd.underlying3 h3
  obtain ⟨i4, e4, r4, _⟩ := DataW.trod_int Tryd.underlying3 h4
  simp only [List.cons.injEq, and_true] at e0 e1 e2 e3 e4
  subst e0 e1 e2 e3 e4
  refine ⟨⟨b0, s1, s2, i3, i4⟩, rfl, rfl, rfl, rfl, rfl, ?_⟩
  rw [hx, r0, r1, r2, r3, r4]
  rfl

set_option maxRecDepth 20000 in
theorem open_calls13 {H : Type} {enc : TypeId × Value → H} {W : World} {base : Nat} {v : Value} {d : DataW H} {p : List MemPlace} (hval : Value.okWide Tryd.prog W .any base 24 v) (h : DataW.Trod enc Tryd.prog W 0 (fun _ => true) true 24 v d p) :
    ∃ cs : List Cl13, Scr13 W v cs ∧ cs.length ≤ maxLen ∧ ((d = .nil ∧ cs = []) ∨ ∃ spare, d = .slice (cs.map clD13) spare) := by
  obtain ⟨a, len, cap, rfl⟩ := okWide_slice Tryd.underlying24 hval
  obtain ⟨fuel, hf⟩ := h
  have c4 : Tryd.prog.cellsOf 31 = 5 := by kernel_rfl
  rcases open_slice Tryd.underlying24 hf with ⟨h1, h2⟩ | ⟨a', len', cap', m, n, D, Pl, h1, _, hlc, hcm, hm, hx, hel⟩
  · simp [Value.cells] at h1 h2
    obtain ⟨rfl, rfl, rfl⟩ := h1
    exact ⟨[], .inl ⟨rfl, rfl⟩, by simp, .inl ⟨h2.1, rfl⟩⟩
  · simp [Value.cells] at h1
    obtain ⟨rfl, rfl, rfl⟩ := h1
    simp only [if_true] at hm
    rw [hm] at hel hx
    have hch : ∀ i, ∃ c : Cl13, i < len → ((a'.add (i * 5)).block < W.heap.size ∧ Op13At W (a'.add (i * 5)) c) ∧ D i = clD13 c := by
      intro i
      by_cases hi : i < len
      · obtain ⟨cs', hc, ht⟩ := hel i (by omega)
        rw [c4] at hc
        obtain ⟨v0, v1, v2, v3, v4, rfl, k0, k1, k2, k3, k4⟩ := cells513 hc
        obtain ⟨c, rfl, rfl, rfl, rfl, rfl, e⟩ := open_call13 ht
        exact ⟨c, fun _ => ⟨⟨World.cells?_block hc (by omega), k0, k1, k2, k3, k4⟩, e⟩⟩
      · exact ⟨⟨false, ⟨#[]⟩, ⟨#[]⟩, 0, 0⟩, fun h => absurd h hi⟩
    obtain ⟨f, hf'⟩ := Classical.axiomOfChoice hch
    refine ⟨(List.range len).map f, .inr ⟨a', cap, by simp, ?_⟩, by simp; omega, .inr ⟨((List.range (cap - len)).map fun j => D (len + j)), ?_⟩⟩
    · intro i c hc
      have hi : i < len := by
        have := (List.getElem?_eq_some_iff.1 hc).1
        simpa using this
      have e : f i = c := by simpa [List.getElem?_map, List.getElem?_range hi] using hc
      rw [← e]
      exact (hf' i hi).1
    · rw [(Prod.mk.inj hx).1]
      congr 1
      rw [List.map_map]
      apply List.map_congr_left
      intro i hi
      exact (hf' i (by simpa using hi)).2

theorem mem_weightsAll13 {H : Type} {P : Program} {t : TypeId} {d : DataW H} {ds : List (DataW H)} {n : Nat} (h : d ∈ ds) (hn : n ∈ d.weights P t) : n ∈ DataW.weightsAll P t ds := by
  induction ds with
  | nil => simp at h
  | cons a r ih =>
    rcases List.mem_cons.1 h with rfl | h
    · simp [DataW.weightsAll, hn]
    · simp [DataW.weightsAll, ih h]
theorem weights_cl13 {H : Type} (c : Cl13) : (clD13 c : DataW H).weights Tryd.prog 31 = [c.path.size, c.body.size] := by
  simp [clD13, DataW.weights, DataW.weightsEach, Tryd.underlying31]
/-- How great a script can be. -/
theorem calls_reach13 {H : Type} {ts : List TypeId} {ds : List (DataW H)} {d : DataW H} {cs : List Cl13} (hsz : (DataW.weightsEach Tryd.prog ts ds).all (· ≤ reachBytes) = true) {j : Nat} (ht : ts[j]? = some 24) (hd : ds[j]? = some d) (hc : (d = .nil ∧ cs = []) ∨ ∃ spare, d = .slice (cs.map clD13) spare) :
    cs.length ≤ 140737488355328 ∧ ∀ c ∈ cs, c.path.size ≤ 140737488355328 ∧ c.body.size ≤ 140737488355328 := by
  have hr := reachBytes_lt
  rcases hc with ⟨_, rfl⟩ | ⟨spare, rfl⟩
  · exact ⟨by simp, fun c hc => by simp at hc⟩
  · have hm : ∀ n ∈ (DataW.slice (cs.map clD13) spare : DataW H).weights Tryd.prog 24, n ≤ reachBytes := fun n hn => by
      have := List.all_eq_true.1 hsz _ (DataW.weights_mem_each ht hd n hn)
      simpa using this
    have hw : (DataW.slice (cs.map clD13) spare : DataW H).weights Tryd.prog 24 = ((cs.map clD13 : List (DataW H)).length + spare.length) * Tryd.prog.bytesOf 31 :: (DataW.weightsAll Tryd.prog 31 (cs.map clD13 : List (DataW H)) ++ DataW.weightsAll Tryd.prog 31 spare) := by
      simp [DataW.weights, Tryd.underlying24]
    rw [hw] at hm
    have hb : Tryd.prog.bytesOf 31 = 56 := by kernel_rfl
    refine ⟨?_, fun c hc => ?_⟩
    · have := hm _ (List.mem_cons_self ..)
      rw [hb, List.length_map] at this
      omega
    · have key : ∀ n ∈ [c.path.size, c.body.size], n ≤ reachBytes := fun n hn => hm n (List.mem_cons_of_mem _ (List.mem_append.2 (.inl (mem_weightsAll13 (List.mem_map.2 ⟨c, hc, rfl⟩) (by rw [weights_cl13]; exact hn)))))
      have k1 := key c.path.size (by simp)
      have k2 := key c.body.size (by simp)
      omega

theorem Scr13.shape {w : World} {v : Value} {cs : List Cl13} (h : Scr13 w v cs) : ∃ ao cap, v = .slice ao cs.length cap := by
  rcases h with ⟨h, rfl⟩ | ⟨a, cap, h, _⟩
  · exact ⟨none, 0, h⟩
  · exact ⟨some a, cap, h⟩
theorem Scr13.at {w w' : World} {ao : Option Addr} {n cap : Nat} {cs : List Cl13} (h : Scr13 w (.slice ao n cap) cs) (hb : Below w.heap.size w w') (i : Nat) (c : Cl13) (hc : cs[i]? = some c) : ∃ a, ao = some a ∧ Op13At w' (a.add (i * 5)) c := by
  rcases h with ⟨_, rfl⟩ | ⟨a, cap', hv, hcs⟩
  · simp at hc
  · injection hv with h1 _ _
    obtain ⟨hl, c0, c1, c2, c3, c4⟩ := hcs i c hc
    refine ⟨a, h1, (hb.cell hl).trans c0, (hb.cell (p := ⟨(a.add (i * 5)).block, (a.add (i * 5)).off + 1, none⟩) hl).trans c1, (hb.cell (p := ⟨(a.add (i * 5)).block, (a.add (i * 5)).off + 2, none⟩) hl).trans c2, (hb.cell (p := ⟨(a.add (i * 5)).block, (a.add (i * 5)).off + 3, none⟩) hl).trans c3, (hb.cell (p := ⟨(a.add (i * 5)).block, (a.add (i * 5)).off + 4, none⟩) hl).trans c4⟩

end Go.Proofs.YtnggablpkgbpaaaDoor
