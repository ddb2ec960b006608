/-
  Numbers that came in, and a script of calls that came in, with numbers of their own.
-/
import Derived.Test.YtekpjbhhbklboaaDoorPrA
import Derived.Deep.Slices
import Derived.Deep.Strs
import Derived.SizedLaws
import Derived.RowKit
import Derived.ProofKit
import Derived.OpenShut
namespace Go.Proofs.YtekpjbhhbklboaaDoor
open Go.RowKit Go.ChangeShapes Go.WideShapes Go.ChangeAt Go.Deep

/-- What numbers read as: how many. -/
def NmD {H : Type} (d : DataW H) (xs : List Int) : Prop := (d = .nil ∧ xs = []) ∨ ∃ elems spare, d = .slice elems spare ∧ elems.length = xs.length
set_option maxRecDepth 20000 in
theorem open_numsAt {H : Type} {enc : TypeId × Value → H} {W : World} {fuel : Nat} {v : Value} {x : DataW H × List MemPlace} (hf : DataW.trod enc Tryd.prog W 0 (fun _ => true) true fuel 32 [v] = some x) :
    ∃ xs : List Int, RR W v xs.length (nmC xs) ∧ NmD x.1 xs := by
  have c1 : Tryd.prog.cellsOf 3 = 1 := by kernel_rfl
  rcases open_slice Tryd.underlying32 hf with ⟨h1, h2⟩ | ⟨a', len, cap, m, n, D, Pl, h1, _, hlc, hcm, hm, hx, hel⟩
  · simp only [List.cons.injEq, and_true] at h1
    refine ⟨[], .inl ⟨h1, rfl⟩, .inl ⟨by rw [h2], rfl⟩⟩
  · simp only [List.cons.injEq, and_true] at h1
    subst h1
    simp only [if_true] at hm
    rw [hm] at hel hx
    have hch : ∀ i, ∃ f : Int, i < len → ((a'.add i).block < W.heap.size ∧ W.cell? (a'.add i) = some (.int .i64 f)) := by
      intro i
      by_cases hi : i < len
      · obtain ⟨cs', hc, ht⟩ := hel i (by omega)
        rw [c1, Nat.mul_one] at hc
        obtain ⟨_, hl, hcc⟩ := World.cells?_some hc
        match cs', hl with
        | [v0], _ =>
          obtain ⟨i0, f0, _, _⟩ := DataW.trod_int Tryd.underlying3 ht
          simp only [List.cons.injEq, and_true] at f0
          subst f0
          have e := hcc 0 (by omega)
          have e2 : W.cell? (a'.add i) = some (.int .i64 i0) := by simpa [Addr.add] using e
          exact ⟨i0, fun _ => ⟨World.block_lt_of_cell? W _ e2, e2⟩⟩
      · exact ⟨0, fun h => absurd h hi⟩
    obtain ⟨f, hf'⟩ := Classical.axiomOfChoice hch
    refine ⟨(List.range len).map f, .inr ⟨a', cap, by simp, ?_⟩, .inr ⟨_, _, (Prod.mk.inj hx).1, by simp⟩⟩
    intro j u hj
    have hjl : j < len := by
      have := (List.getElem?_eq_some_iff.1 hj).1
      rw [nmC_length] at this
      simpa using this
    have e : u = .int .i64 (f j) := by
      simp [nmC, List.getElem?_range hjl] at hj
      exact hj.symm
    rw [e]
    exact hf' j hjl
theorem open_numsb {H : Type} {enc : TypeId × Value → H} {W : World} {base : Nat} {v : Value} {d : DataW H} {p : List MemPlace} (hval : Value.okWide Tryd.prog W .any base 32 v) (h : DataW.Trod enc Tryd.prog W 0 (fun _ => true) true 32 v d p) :
    ∃ xs : List Int, RR W v xs.length (nmC xs) ∧ NmD d xs := by
  obtain ⟨a, len, cap, rfl⟩ := okWide_slice Tryd.underlying32 hval
  obtain ⟨fuel, hf⟩ := h
  exact open_numsAt (x := (d, p)) (by simpa [Value.cells] using hf)
theorem nums_reach {H : Type} {ts : List TypeId} {ds : List (DataW H)} {d : DataW H} {xs : List Int} (hsz : (DataW.weightsEach Tryd.prog ts ds).all (· ≤ reachBytes) = true) {j : Nat} (ht : ts[j]? = some 32) (hd : ds[j]? = some d) (hc : NmD d xs) : xs.length ≤ 17592186044400 := by
  rcases hc with ⟨_, rfl⟩ | ⟨elems, spare, rfl, hl⟩
  · simp
  · have hz := sized_slice hsz ht hd Tryd.underlying32
    have hb : Tryd.prog.bytesOf 3 = 8 := by kernel_rfl
    rw [hb] at hz
    have hr : reachBytes = 140737488351232 := rfl
    omega

/-- One thing that is done. -/
structure C10 where
  what : Nat
  id : Int
  urg : Int
  parts : Bool
  cv : Value
  can : List Int
/-- A script in memory. -/
def Scr10 (w : World) (v : Value) (cs : List C10) : Prop :=
  (v = .slice none 0 0 ∧ cs = []) ∨ ∃ a cap, v = .slice (some a) cs.length cap ∧ ∀ i c, cs[i]? = some c →
    (a.add (i * 5)).block < w.heap.size ∧ w.cell? (a.add (i * 5)) = some (.int .u8 (c.what : Int)) ∧ w.cell? ⟨(a.add (i * 5)).block, (a.add (i * 5)).off + 1, none⟩ = some (.int .i64 c.id) ∧ w.cell? ⟨(a.add (i * 5)).block, (a.add (i * 5)).off + 2, none⟩ = some (.int .i64 c.urg) ∧
    w.cell? ⟨(a.add (i * 5)).block, (a.add (i * 5)).off + 3, none⟩ = some (.bool c.parts) ∧ w.cell? ⟨(a.add (i * 5)).block, (a.add (i * 5)).off + 4, none⟩ = some c.cv ∧ RR w c.cv c.can.length (nmC c.can) ∧ c.what < 256
def ClD {H : Type} (d : DataW H) (cs : List C10) : Prop := (d = .nil ∧ cs = []) ∨ ∃ elems spare : List (DataW H), d = .slice elems spare ∧ elems.length = cs.length ∧ ∀ (i : Nat) (c : C10), cs[i]? = some c → ∃ d0 d1 d2 d3 d4 : DataW H, elems[i]? = some (.agg [d0, d1, d2, d3, d4]) ∧ NmD d4 c.can

theorem cells5 {w : World} {p : Addr} {cs : List Value} (h : w.cells? 0 p 5 = some cs) : ∃ v0 v1 v2 v3 v4, cs = [v0, v1, v2, v3, v4] ∧ w.cell? p = some v0 ∧ w.cell? ⟨p.block, p.off + 1, none⟩ = some v1 ∧ w.cell? ⟨p.block, p.off + 2, none⟩ = some v2 ∧ w.cell? ⟨p.block, p.off + 3, none⟩ = some v3 ∧ w.cell? ⟨p.block, p.off + 4, none⟩ = some v4 := by
  obtain ⟨_, hl, hc⟩ := World.cells?_some h
  match cs, hl with
  | [v0, v1, v2, v3, v4], _ =>
    refine ⟨v0, v1, v2, v3, v4, rfl, ?_, ?_, ?_, ?_, ?_⟩
    · simpa [Addr.add] using hc 0 (by omega)
    · simpa [Addr.add] using hc 1 (by omega)
    · simpa [Addr.add] using hc 2 (by omega)
    · simpa [Addr.add] using hc 3 (by omega)
    · simpa [Addr.add] using hc 4 (by omega)
theorem trod_struct5 {H : Type} {enc : TypeId × Value → H} {P : Program} {w : World} {base : Nat} {spare : Nat → Bool} {held : Bool} {t : TypeId} {f0 f1 f2 f3 f4 : Field} {fuel : Nat} {cs : List Value} {x : DataW H × List MemPlace} (ht : P.underlying t = some (.struct #[f0, f1, f2, f3, f4])) (h : DataW.trod enc P w base spare held fuel t cs = some x) :
    ∃ y0 y1 y2 y3 y4 n, x.1 = .agg [y0.1, y1.1, y2.1, y3.1, y4.1] ∧ DataW.trod enc P w base spare held n f0.type ((cs.drop f0.offset).take (P.cellsOf f0.type)) = some y0 ∧ DataW.trod enc P w base spare held n f1.type ((cs.drop f1.offset).take (P.cellsOf f1.type)) = some y1 ∧
      DataW.trod enc P w base spare held n f2.type ((cs.drop f2.offset).take (P.cellsOf f2.type)) = some y2 ∧ DataW.trod enc P w base spare held n f3.type ((cs.drop f3.offset).take (P.cellsOf f3.type)) = some y3 ∧ DataW.trod enc P w base spare held n f4.type ((cs.drop f4.offset).take (P.cellsOf f4.type)) = some y4 := by
  obtain ⟨xs, n, _, rfl, hl, hlen, hf⟩ := DataW.trod_struct ht h
  match xs, hlen with
  | [y0, y1, y2, y3, y4], _ => exact ⟨y0, y1, y2, y3, y4, n, by simp, by simpa using hf 0 f0 rfl, by simpa using hf 1 f1 rfl, by simpa using hf 2 f2 rfl, by simpa using hf 3 f3 rfl, by simpa using hf 4 f4 rfl⟩

set_option maxRecDepth 20000 in
theorem open_calls10 {H : Type} {enc : TypeId × Value → H} {W : World} {base : Nat} {v : Value} {d : DataW H} {p : List MemPlace} (hval : Value.okWide Tryd.prog W .any base 29 v) (h : DataW.Trod enc Tryd.prog W 0 (fun _ => true) true 29 v d p) :
    ∃ cs : List C10, Scr10 W v cs ∧ ClD d cs := by
  obtain ⟨a, len, cap, rfl⟩ := okWide_slice Tryd.underlying29 hval
  obtain ⟨fuel, hf⟩ := h
  have k5 : Tryd.prog.cellsOf 39 = 5 := by kernel_rfl
  have k0 : Tryd.prog.cellsOf 5 = 1 := by kernel_rfl
  have ki : Tryd.prog.cellsOf 3 = 1 := by kernel_rfl
  have kb : Tryd.prog.cellsOf 4 = 1 := by kernel_rfl
  have kf : Tryd.prog.cellsOf 32 = 1 := by kernel_rfl
  rcases open_slice Tryd.underlying29 hf with ⟨h1, h2⟩ | ⟨a', len', cap', m, n, D, Pl, h1, _, hlc, hcm, hm, hx, hel⟩
  · simp [Value.cells] at h1 h2
    obtain ⟨rfl, rfl, rfl⟩ := h1
    exact ⟨[], .inl ⟨rfl, rfl⟩, .inl ⟨h2.1, rfl⟩⟩
  · simp [Value.cells] at h1
    obtain ⟨rfl, rfl, rfl⟩ := h1
    simp only [if_true] at hm
    rw [hm] at hel hx
    have hch : ∀ i, ∃ c : C10, i < len → ((a'.add (i * 5)).block < W.heap.size ∧ W.cell? (a'.add (i * 5)) = some (.int .u8 (c.what : Int)) ∧ W.cell? ⟨(a'.add (i * 5)).block, (a'.add (i * 5)).off + 1, none⟩ = some (.int .i64 c.id) ∧ W.cell? ⟨(a'.add (i * 5)).block, (a'.add (i * 5)).off + 2, none⟩ = some (.int .i64 c.urg) ∧
        W.cell? ⟨(a'.add (i * 5)).block, (a'.add (i * 5)).off + 3, none⟩ = some (.bool c.parts) ∧ W.cell? ⟨(a'.add (i * 5)).block, (a'.add (i * 5)).off + 4, none⟩ = some c.cv ∧ RR W c.cv c.can.length (nmC c.can) ∧ c.what < 256) ∧ ∃ d0 d1 d2 d3 d4, D i = .agg [d0, d1, d2, d3, d4] ∧ NmD d4 c.can := by
      intro i
      by_cases hi : i < len
      · obtain ⟨cs', hc, ht⟩ := hel i (by omega)
        rw [k5] at hc
        obtain ⟨v0, v1, v2, v3, v4, rfl, c0, c1, c2, c3, c4⟩ := cells5 hc
        obtain ⟨y0, y1, y2, y3, y4, m2, e, g0, g1, g2, g3, g4⟩ := trod_struct5 Tryd.underlying39 ht
        simp only [k0, ki, kb, kf, List.drop_zero, List.take_succ_cons, List.take_zero, List.drop_succ_cons] at g0 g1 g2 g3 g4
        obtain ⟨i0, f0, _, w0⟩ := DataW.trod_int Tryd.underlying5 g0
        obtain ⟨i1, f1, _, _⟩ := DataW.trod_int Tryd.underlying3 g1
        obtain ⟨i2, f2, _, _⟩ := DataW.trod_int Tryd.underlying3 g2
        obtain ⟨b3, f3, _⟩ := DataW.trod_bool Tryd.underlying4 g3
        simp only [List.cons.injEq, and_true] at f0 f1 f2 f3
        subst f0 f1 f2 f3
        obtain ⟨xs, hrr, hnd⟩ := open_numsAt g4
        have b0 := bounds_u8 w0
        refine ⟨⟨i0.toNat, i1, i2, b3, v4, xs⟩, fun _ => ⟨⟨World.cells?_block hc (by omega), ?_, c1, c2, c3, c4, hrr, by simp only; omega⟩, _, _, _, _, _, e, hnd⟩⟩
        rw [c0]
        simp only
        congr 2
        omega
      · exact ⟨⟨0, 0, 0, false, .slice none 0 0, []⟩, fun h => absurd h hi⟩
    obtain ⟨f, hf'⟩ := Classical.axiomOfChoice hch
    refine ⟨(List.range len).map f, .inr ⟨a', cap, by simp, ?_⟩, .inr ⟨_, _, (Prod.mk.inj hx).1, by simp, ?_⟩⟩
    · intro i c hc
      have hi : i < len := by
        have := (List.getElem?_eq_some_iff.1 hc).1
        simpa using this
      have e : f i = c := by simpa [List.getElem?_map, List.getElem?_range hi] using hc
      rw [← e]
      exact (hf' i hi).1
    · intro i c hc
      have hi : i < len := by
        have := (List.getElem?_eq_some_iff.1 hc).1
        simpa using this
      have e : f i = c := by simpa [List.getElem?_map, List.getElem?_range hi] using hc
      rw [← e]
      obtain ⟨d0, d1, d2, d3, d4, e1, e2⟩ := (hf' i hi).2
      exact ⟨d0, d1, d2, d3, d4, by simp [List.getElem?_map, List.getElem?_range hi, e1], e2⟩
theorem weights_all {H : Type} {P : Program} {e : TypeId} {d : DataW H} {n : Nat} : ∀ {l : List (DataW H)}, d ∈ l → n ∈ d.weights P e → n ∈ DataW.weightsAll P e l
  | x :: r, hd, hn => by
    simp only [DataW.weightsAll, List.mem_append]
    rcases List.mem_cons.1 hd with rfl | hd
    · exact .inl hn
    · exact .inr (weights_all hd hn)
/-- How great a script can be. -/
theorem calls10_reach {H : Type} {ts : List TypeId} {ds : List (DataW H)} {d : DataW H} {cs : List C10} (hsz : (DataW.weightsEach Tryd.prog ts ds).all (· ≤ reachBytes) = true) {j : Nat} (ht : ts[j]? = some 29) (hd : ds[j]? = some d) (hc : ClD d cs) :
    cs.length ≤ 2513169434844 ∧ ∀ c ∈ cs, c.can.length ≤ 17592186044400 := by
  have hr : reachBytes = 140737488351232 := rfl
  rcases hc with ⟨_, rfl⟩ | ⟨elems, spare, rfl, hl, hel⟩
  · exact ⟨by simp, fun c hc => by cases hc⟩
  · have hz := sized_slice hsz ht hd Tryd.underlying29
    have hb : Tryd.prog.bytesOf 39 = 56 := by kernel_rfl
    rw [hb] at hz
    refine ⟨by omega, fun c hc => ?_⟩
    obtain ⟨i, hi⟩ := List.getElem?_of_mem hc
    obtain ⟨d0, d1, d2, d3, d4, e1, e2⟩ := hel i c hi
    rcases e2 with ⟨_, h⟩ | ⟨es, sp, rfl, h⟩
    · rw [h]; simp
    · have hb8 : Tryd.prog.bytesOf 3 = 8 := by kernel_rfl
      have hm : (es.length + sp.length) * Tryd.prog.bytesOf 3 ∈ (DataW.slice elems spare : DataW H).weights Tryd.prog 29 := by
        rw [DataW.weights, Tryd.underlying29]
        refine List.mem_cons_of_mem _ (List.mem_append_left _ (weights_all (List.mem_of_getElem? e1) ?_))
        rw [DataW.weights, Tryd.underlying39]
        refine DataW.weights_mem_each (j := 4) (t := 32) (d := .slice es sp) rfl rfl _ ?_
        rw [DataW.weights, Tryd.underlying32]
        exact List.mem_cons_self ..
      have := List.all_eq_true.1 hsz _ (DataW.weights_mem_each ht hd _ hm)
      rw [hb8] at this
      have := of_decide_eq_true this
      omega

end Go.Proofs.YtekpjbhhbklboaaDoor
