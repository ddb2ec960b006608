/-
  slices.SortFunc of a row of files of one's own: by its contract.
-/
import Derived.Test.YtnggablpkgbpaaaDoorDkS
namespace Go.Proofs.YtnggablpkgbpaaaDoor
open Go.RowKit Go.Sort

theorem map_block {w : World} {g : Nat} {cur : Array Value} {T : TypeId} (f : Array Value → Array Value) (hh : w.heap[g]? = some (.cells cur T (0, 0))) : (mapBlock w g f).heap[g]? = some (.cells (f cur) T (0, 0)) := by
  unfold mapBlock
  simp only [Array.getElem?_modify, if_true, hh, Option.map_some, onCells]
theorem map_other {w : World} {g k : Nat} (f : Array Value → Array Value) (hk : k ≠ g) : (mapBlock w g f).heap[k]? = w.heap[k]? := by
  unfold mapBlock
  simp only [Array.getElem?_modify]
  rw [if_neg (fun e => hk e.symm)]
theorem map_size {w : World} {g : Nat} (f : Array Value → Array Value) : (mapBlock w g f).heap.size = w.heap.size := by simp [mapBlock]

section
variable [Inhabited Dk.En]
theorem holds_own {w : World} {g m : Nat} {cur : Array Value} {T : TypeId} {l : List Dk.En} (hl : l.length = m) (hh : w.heap[g]? = some (.cells cur T (0, 0))) (hc : cur.toList.take (m * 4) = enC l) : HoldsK enV 4 w g 0 l.toArray := by
  intro j hj
  have hj2 : j < m * 4 := by simp at hj; omega
  have hA : Ar w g T cur := hh
  rw [Nat.zero_add]
  refine ⟨hA.cell j _ ?_, hA.free j⟩
  have h1 : (enC l)[j]? = cur[j]? := by rw [← hc, List.getElem?_take, if_pos hj2, Array.getElem?_toList]
  rw [← h1, ← flat_en, Array.getElem?_toList, Array.getElem?_eq_getElem hj, getElem!_pos _ j hj]
  rfl
theorem csort_some (B g m cap : Nat) (cur : Array Value) (l : List Dk.En) (hl : l.length = m) (w : World) (hB : B ≤ g) (hh : w.heap[g]? = some (.cells cur 45 (0, 0))) (h1 : m ≤ cap) (h2 : cap ≤ maxLen) (h3 : cur.size = cap * 4) (hc : cur.toList.take (m * 4) = enC l) (hm : m ≤ 1048576) :
    Calls Tryd.prog 33 #[.slice (some ⟨g, 0, none⟩) m cap, .func (.func 34) #[] #[]] w fun e w' => e = .returned (.tuple #[]) ∧ (∃ l', l'.Perm l ∧ l'.Pairwise (fun a b => ¬ Dk.key b < Dk.key a) ∧ w'.ownsRow B 45 4 (.slice (some ⟨g, 0, none⟩) m cap) m (enC l')) ∧ LF (fun k => k = g) w w' := by
  have hg : g < w.heap.size := (Array.getElem?_eq_some_iff.1 hh).1
  have eg : ∀ args w, (callFunc 34 args).run Tryd.prog w = .ok (.enter 34 args) w := enters_of Tryd.func34 (by kernel_rfl) rfl
  have hcon := AnyQ.slices_SortFunc Tryd.lsort 4 Tryd.isAgg45 Tryd.sizeOf45 enV (fun _ => rfl) (fun x v hv => by simp only [enV, List.mem_cons, List.not_mem_nil, or_false] at hv; rcases hv with rfl | rfl | rfl | rfl <;> rfl) cfP swoP 34 #[] g 0 cap l.toArray w eg (cmpLaysP g 0 l.toArray.size w) (holds_own hl hh hc) hg (by simp; omega)
  have e0 : l.toArray.size = m := by simpa using hl
  rw [e0] at hcon
  refine Calls.mono (show Calls Tryd.prog 33 _ _ _ from hcon) ?_
  rintro e w' ⟨he, d', n, os, hp, hs, hw⟩
  have hds : d'.size = m := hp.1.trans e0
  have hdl : d'.toList.length = m := by simpa using hds
  have hpm : d'.toList.Perm l := by
    have := hp.2.2
    rw [← e0, show (l.toArray.extract 0 l.toArray.size) = l.toArray by simp, show d'.extract 0 l.toArray.size = d' by rw [e0, ← hds]; simp] at this
    simpa using this
  have hw1 : (putRowK enV 4 (Sort.ahead w n) g 0 d').heap[g]? = some (.cells (putCells id 0 (flatK enV 4 d') cur) 45 (0, 0)) := map_block _ hh
  have hsz : (putRowK enV 4 (Sort.ahead w n) g 0 d').heap.size = w.heap.size := map_size _
  have hw2 : w'.heap[g]? = some (.cells (putCells id 0 (flatK enV 4 d') cur) 45 (0, 0)) := by
    rw [hw]
    unfold sortWorldK
    rw [heap_grow_old _ _ (by rw [hsz]; exact hg)]
    exact hw1
  refine ⟨he, ⟨d'.toList, hpm, ?_, by rw [enC_length, hdl], .inr ⟨g, cap, _, rfl, hB, hw2, h1, h2, ?_, ?_⟩⟩, ?_⟩
  · rw [List.pairwise_iff_getElem]
    intro i j hi hj hij
    have := hs i j (Nat.zero_le _) hij (by simpa [hds] using hj)
    rw [lt_cf, getElem!_pos d' i (by simpa using hi), getElem!_pos d' j (by simpa using hj)] at this
    simpa using of_decide_eq_false this
  · simp [putCells, h3]
  · have := put_take m d'.toList cur hdl (by omega)
    simpa using this
  · have hsw : w'.heap.size = w.heap.size + os.size := by rw [hw]; unfold sortWorldK; rw [size_grow, hsz]
    refine ⟨by rw [hw]; rfl, by rw [hw]; rfl, by rw [hw]; rfl, by omega, ?_⟩
    intro k hk hne
    rw [hw]
    unfold sortWorldK
    rw [heap_grow_old _ _ (by rw [hsz]; exact hk)]
    exact map_other _ hne
end

theorem csort13 (B m rc : Nat) (ro : Option Addr) (l : List Dk.En) (hl : l.length = m) (w : World) (h : w.ownsRow B 45 4 (.slice ro m rc) m (enC l)) (hm : m ≤ 1048576) :
    Calls Tryd.prog 33 #[.slice ro m rc, .func (.func 34) #[] #[]] w fun e w' => e = .returned (.tuple #[]) ∧ (∃ l', l'.Perm l ∧ l'.Pairwise (fun a b => ¬ Dk.key b < Dk.key a) ∧ w'.ownsRow B 45 4 (.slice ro m rc) m (enC l')) ∧ LF (fun k => (Value.slice ro m rc).ownBlock = some k) w w' := by
  rcases h.2 with ⟨h1, rfl⟩ | ⟨g, cap, cur, h1, hB, hh, h2, h3, h4, h5⟩
  · obtain rfl : l = [] := List.eq_nil_of_length_eq_zero hl
    refine (AnyF.slices_SortFunc_none Tryd.lsort ro rc (.func (.func 34) #[] #[]) w).mono ?_
    rintro e w' ⟨he, rfl⟩
    exact ⟨he, ⟨[], List.Perm.refl _, List.Pairwise.nil, h⟩, LF.refl _ _⟩
  · injection h1 with h1 _ h6
    subst h1 h6
    refine (@csort_some ⟨en0⟩ B g m rc cur l hl w hB hh h2 h3 h4 h5 hm).mono ?_
    rintro e w' ⟨he, h7, h8⟩
    exact ⟨he, h7, ⟨h8.os, h8.tape, h8.output, h8.size, fun k hk hn => h8.block k hk (fun e => hn (by rw [e]; rfl))⟩⟩

end Go.Proofs.YtnggablpkgbpaaaDoor
