/-
  Fields that came in: as a row hands them, with the bounds that their reach gives.
-/
import Derived.Test.YtkfekopenahmdaaDoorMcV
import Derived.SizedLaws
namespace Go.Proofs.YtkfekopenahmdaaDoor
open Go.RowKit Go.ChangeShapes Go.WideShapes Go.ChangeAt Go.Deep

set_option maxRecDepth 100000 in
theorem open_fieldsD14 {H : Type} {enc : TypeId × Value → H} {W : World} {base : Nat} {v : Value} {d : DataW H} {p : List MemPlace} (hval : Value.okWide Tryd.prog W .any base 22 v) (h : DataW.Trod enc Tryd.prog W 0 (fun _ => true) true 22 v d p) :
    ∃ l : List Fd, FW W v l ∧ ((d = .nil ∧ l = []) ∨ ∃ spare, d = .slice (l.map fdD) spare) := by
  obtain ⟨ao, len, cap, rfl⟩ := okWide_slice Tryd.underlying22 hval
  obtain ⟨fuel, hf0⟩ := h
  have hf : DataW.trod enc Tryd.prog W 0 (fun _ => true) true fuel 22 [.slice ao len cap] = some (d, p) := by simpa [Value.cells] using hf0
  have c2 : Tryd.prog.cellsOf 30 = 2 := by kernel_rfl
  have c3 : Tryd.prog.cellsOf 9 = 1 := by kernel_rfl
  rcases open_slice Tryd.underlying22 hf with ⟨h1, h2⟩ | ⟨a', len', cap', m, n, D, Pl, h1, _, hlc, hcm, hm, hx, hel⟩
  · simp only [List.cons.injEq, and_true] at h1
    injection h1 with e1 e2 e3
    subst e1 e2 e3
    exact ⟨[], .inl ⟨rfl, rfl⟩, .inl ⟨(Prod.mk.inj h2).1, rfl⟩⟩
  · simp only [List.cons.injEq, and_true] at h1
    injection h1 with e1 e2 e3
    subst e1 e2 e3
    simp only [if_true] at hm
    rw [hm] at hel hx
    have hch : ∀ i, ∃ f : Fd, i < len → (((a'.add (i * 2)).block < W.heap.size ∧ W.cell? (a'.add (i * 2)) = some (.string f.n)) ∧ W.cell? ((a'.add (i * 2)).add 1) = some (.string f.v)) ∧ D i = fdD f := by
      intro i
      by_cases hi : i < len
      · obtain ⟨cs', hc, ht⟩ := hel i (by omega)
        rw [c2] at hc
        obtain ⟨v0, v1, rfl, k0, k1⟩ := cells2 hc
        obtain ⟨z0, z1, m2, e, _, g0, g1⟩ := trod_struct2 Tryd.underlying30 ht
        simp only [c3, List.drop_zero, List.take_succ_cons, List.take_zero, List.drop_succ_cons] at g0 g1
        obtain ⟨s0, f0, rfl, _⟩ := DataW.trod_string Tryd.underlying9 g0
        obtain ⟨s1, f1, rfl, _⟩ := DataW.trod_string Tryd.underlying9 g1
        simp only [List.cons.injEq, and_true] at f0 f1
        subst f0 f1
        exact ⟨⟨s0, s1⟩, fun _ => ⟨⟨⟨World.cells?_block hc (by omega), k0⟩, k1⟩, (Prod.mk.inj e).1⟩⟩
      · exact ⟨⟨⟨#[]⟩, ⟨#[]⟩⟩, fun h => absurd h hi⟩
    obtain ⟨f, hf'⟩ := Classical.axiomOfChoice hch
    have hd : d = .slice (((List.range len).map f).map fdD) ((List.range (cap - len)).map fun j => D (len + j)) := by
      rw [(Prod.mk.inj hx).1]
      congr 1
      rw [List.map_map]
      apply List.map_congr_left
      intro i hi
      exact (hf' i (by simpa using hi)).2
    refine ⟨(List.range len).map f, .inr ⟨a', cap, by simp, by simpa using hlc, ?_⟩, .inr ⟨_, hd⟩⟩
    intro j u hj
    have hjl : j < len * 2 := by
      have := (List.getElem?_eq_some_iff.1 hj).1
      rw [fC_length] at this
      simpa using this
    have hi : j / 2 < len := by omega
    have hfi : ((List.range len).map f)[j / 2]? = some (f (j / 2)) := by simp [List.getElem?_map, List.getElem?_range hi]
    have e0 := f_at _ _ _ hfi 0 (by omega)
    have e1 := f_at _ _ _ hfi 1 (by omega)
    obtain ⟨⟨⟨p0, p1⟩, p2⟩, _⟩ := hf' (j / 2) hi
    rcases Nat.mod_two_eq_zero_or_one j with hm2 | hm2
    · have ej : j = j / 2 * 2 := by omega
      rw [ej] at hj ⊢
      rw [Nat.add_zero] at e0
      rw [e0] at hj
      rw [← Option.some.inj hj]
      exact ⟨p0, p1⟩
    · have ej : j = j / 2 * 2 + 1 := by omega
      rw [ej] at hj ⊢
      rw [e1] at hj
      rw [← Option.some.inj hj, ← Addr.add_add]
      exact ⟨World.block_lt_of_cell? W _ p2, p2⟩
theorem weights_fd {H : Type} (f : Fd) : (fdD f : DataW H).weights Tryd.prog 30 = [f.n.size, f.v.size] := by
  simp [fdD, DataW.weights, DataW.weightsEach, Tryd.underlying30]
theorem mem_weightsAll14 {H : Type} {P : Program} {t : TypeId} {n : Nat} : ∀ {xs : List (DataW H)} {x : DataW H}, x ∈ xs → n ∈ x.weights P t → n ∈ DataW.weightsAll P t xs
  | y :: ys, x, hx, hn => by
    simp only [DataW.weightsAll, List.mem_append]
    rcases List.mem_cons.1 hx with rfl | hx
    · exact .inl hn
    · exact .inr (mem_weightsAll14 hx hn)
theorem fields_reach14 {H : Type} {ts : List TypeId} {ds : List (DataW H)} {d : DataW H} {l : List Fd} (hsz : (DataW.weightsEach Tryd.prog ts ds).all (· ≤ reachBytes) = true) {j : Nat} (ht : ts[j]? = some 22) (hd : ds[j]? = some d) (hc : (d = .nil ∧ l = []) ∨ ∃ spare, d = .slice (l.map fdD) spare) :
    l.length ≤ 4398046510976 ∧ ∀ f ∈ l, f.n.size ≤ 140737488355328 ∧ f.v.size ≤ 140737488355328 := by
  have hr : reachBytes = 140737488351232 := by decide
  rcases hc with ⟨_, rfl⟩ | ⟨spare, rfl⟩
  · exact ⟨by simp, fun c hc => by simp at hc⟩
  · have hm : ∀ n ∈ (DataW.slice (l.map fdD) spare : DataW H).weights Tryd.prog 22, n ≤ reachBytes := fun n hn => by
      have := List.all_eq_true.1 hsz _ (DataW.weights_mem_each ht hd n hn)
      simpa using this
    have hw : (DataW.slice (l.map fdD) spare : DataW H).weights Tryd.prog 22 = ((l.map fdD : List (DataW H)).length + spare.length) * Tryd.prog.bytesOf 30 :: (DataW.weightsAll Tryd.prog 30 (l.map fdD : List (DataW H)) ++ DataW.weightsAll Tryd.prog 30 spare) := by
      simp [DataW.weights, Tryd.underlying22]
    rw [hw] at hm
    have hb : Tryd.prog.bytesOf 30 = 32 := by kernel_rfl
    refine ⟨?_, fun f hf => ?_⟩
    · have := hm _ (List.mem_cons_self ..)
      rw [hb, List.length_map] at this
      omega
    · have key : ∀ n ∈ [f.n.size, f.v.size], n ≤ reachBytes := fun n hn => hm n (List.mem_cons_of_mem _ (List.mem_append.2 (.inl (mem_weightsAll14 (List.mem_map.2 ⟨f, hf, rfl⟩) (by rw [weights_fd]; exact hn)))))
      have k1 := key f.n.size (by simp)
      have k2 := key f.v.size (by simp)
      omega

end Go.Proofs.YtkfekopenahmdaaDoor
