/-
  slices.Sort of a row of numbers of one's own, and the code's leastFree: by their contracts.
-/
import Derived.Test.YtdbldompjhienaaDoorRhB
import Derived.Test.YtdbldompjhienaaDoorShSortI
import Derived.Deep.QuietTactic
namespace Go.Proofs.YtdbldompjhienaaDoor
open Go.RowKit Go.Sort

def zC16 (l : List Int) : List Value := l.map fun n => .int .i64 n
theorem nz16 (l : List Nat) : nC16 l = zC16 (l.map fun (n : Nat) => (n : Int)) := by unfold nC16 zC16; rw [List.map_map]; rfl
theorem map_block16 {w : World} {g : Nat} {cur : Array Value} {T : TypeId} (f : Array Value → Array Value) (hh : w.heap[g]? = some (.cells cur T (0, 0))) : (mapBlock w g f).heap[g]? = some (.cells (f cur) T (0, 0)) := by
  unfold mapBlock
  simp only [Array.getElem?_modify, if_true, hh, Option.map_some, onCells]
theorem map_other16 {w : World} {g k : Nat} (f : Array Value → Array Value) (hk : k ≠ g) : (mapBlock w g f).heap[k]? = w.heap[k]? := by
  unfold mapBlock
  simp only [Array.getElem?_modify]
  rw [if_neg (fun e => hk e.symm)]
theorem map_size16 {w : World} {g : Nat} (f : Array Value → Array Value) : (mapBlock w g f).heap.size = w.heap.size := by simp [mapBlock]
theorem holds_own16 {w : World} {g m : Nat} {cur : Array Value} {T : TypeId} {l : List Int} (hl : l.length = m) (hh : w.heap[g]? = some (.cells cur T (0, 0))) (hc : cur.toList.take m = zC16 l) : Holds (Value.int .i64) w g 0 l.toArray := by
  intro j hj
  have hj2 : j < m := by simp at hj; omega
  have hA : Ar w g T cur := hh
  rw [Nat.zero_add]
  refine ⟨hA.cell j _ ?_, hA.free j⟩
  have h1 : (zC16 l)[j]? = cur[j]? := by rw [← hc, List.getElem?_take, if_pos hj2, Array.getElem?_toList]
  rw [← h1, getElem!_pos l.toArray j hj]
  unfold zC16
  rw [List.getElem?_map, List.getElem?_eq_getElem (by simpa using hj)]
  rfl
theorem put_take16 (n : Nat) (l : List Int) (c : Array Value) (hl : l.length = n) (hc : n ≤ c.size) : (putCells (Value.int .i64) 0 l.toArray c).toList.take n = zC16 l := by
  apply List.ext_getElem?
  intro t
  rw [List.getElem?_take]
  by_cases ht : t < n
  · rw [if_pos ht]
    have hs : t < l.toArray.size := by simp; omega
    rw [Array.getElem?_toList]
    unfold putCells zC16
    rw [Array.getElem?_mapIdx, Array.getElem?_eq_getElem (by omega), Option.map_some, if_pos ⟨Nat.zero_le _, by omega⟩, Nat.sub_zero, getElem!_pos _ t hs, List.getElem?_map, List.getElem?_eq_getElem (by simpa using hs)]
    rfl
  · rw [if_neg ht, List.getElem?_eq_none (by simp [zC16]; omega)]
theorem sort_back16 (xs : List Nat) (s : List Int) (hs : s.Pairwise (· ≤ ·)) (hp : s.Perm (xs.map fun (n : Nat) => (n : Int))) : ∃ t : List Nat, s = t.map (fun (n : Nat) => (n : Int)) ∧ t.Pairwise (· ≤ ·) ∧ t.Perm xs := by
  have h0 : ∀ z ∈ s, 0 ≤ z := fun z hz => by
    obtain ⟨n, _, rfl⟩ := List.mem_map.1 (hp.mem_iff.1 hz)
    omega
  have e : s = (s.map Int.toNat).map (fun (n : Nat) => (n : Int)) := by
    rw [List.map_map]
    conv => lhs; rw [← List.map_id s]
    apply List.map_congr_left
    intro z hz
    simp only [id, Function.comp]
    have := h0 z hz
    omega
  refine ⟨s.map Int.toNat, e, ?_, ?_⟩
  · rw [List.pairwise_map]
    exact hs.imp (fun h => by omega)
  · have := hp.map Int.toNat
    rw [List.map_map] at this
    have e2 : xs.map (Int.toNat ∘ fun (n : Nat) => (n : Int)) = xs := by
      conv => rhs; rw [← List.map_id xs]
      apply List.map_congr_left
      intro z _
      simp
    rwa [e2] at this

theorem csort16 (B n cap : Nat) (ao : Option Addr) (xs : List Nat) (hn : xs.length = n) (w : World) (h : w.ownsRow B 3 1 (.slice ao n cap) n (nC16 xs)) (hnb : n ≤ 1048576) (hB : B ≤ w.heap.size) :
    Calls Tryd.prog 41 #[.slice ao n cap] w fun e w' => e = .returned (.tuple #[]) ∧ (∃ t : List Nat, t.Pairwise (· ≤ ·) ∧ t.Perm xs ∧ w'.ownsRow B 3 1 (.slice ao n cap) n (nC16 t)) ∧ Below B w w' := by
  rcases h.2 with ⟨h1, h0⟩ | ⟨g, cap', cur, h1, hB1, hh, h2, h3, h4, h5⟩
  · obtain rfl : xs = [] := List.eq_nil_of_length_eq_zero (hn.trans h0)
    obtain rfl : n = 0 := h0
    refine Calls.mono (show Calls Tryd.prog 41 _ _ _ from Any.slices_Sort_int_none Tryd.lsorti ao cap w) ?_
    rintro e w' ⟨he, rfl⟩
    exact ⟨he, ⟨[], List.Pairwise.nil, List.Perm.refl _, h⟩, Below.refl _ _⟩
  · injection h1 with h1 _ h6
    subst h1 h6
    rw [Nat.mul_one] at h4 h5
    have hg : g < w.heap.size := (Array.getElem?_eq_some_iff.1 hh).1
    have hzl : (xs.map fun (n : Nat) => (n : Int)).length = n := by rw [List.length_map, hn]
    rw [nz16] at h5
    have hcon := Any.slices_Sort_int Tryd.lsorti g 0 cap (xs.map fun (n : Nat) => (n : Int)) w (holds_own16 hzl hh h5) hg (by omega)
    rw [hzl] at hcon
    refine Calls.mono (show Calls Tryd.prog 41 _ _ _ from hcon) ?_
    rintro e w' ⟨he, k, os, hw⟩
    have hp := List.mergeSort_perm (xs.map fun (n : Nat) => (n : Int)) (fun x y => decide (x ≤ y))
    have hs := List.pairwise_mergeSort (le := fun (x y : Int) => decide (x ≤ y)) (fun a b c h1 h2 => by simp at *; omega) (fun a b => by simp; omega) (xs.map fun (n : Nat) => (n : Int))
    obtain ⟨sl, hsl⟩ : ∃ sl, (xs.map fun (n : Nat) => (n : Int)).mergeSort (fun x y => decide (x ≤ y)) = sl := ⟨_, rfl⟩
    rw [hsl] at hw hp hs
    obtain ⟨t, rfl, ht1, ht2⟩ := sort_back16 xs sl (hs.imp (fun h => of_decide_eq_true h)) hp
    have htl : t.length = n := ht2.length_eq.trans hn
    have hsz : (putRow (Value.int .i64) (Sort.ahead w k) g 0 (t.map fun (n : Nat) => (n : Int)).toArray).heap.size = w.heap.size := map_size16 _
    have hw2 : w'.heap[g]? = some (.cells (putCells (Value.int .i64) 0 (t.map fun (n : Nat) => (n : Int)).toArray cur) 3 (0, 0)) := by
      rw [hw, heap_grow_old _ _ (by rw [hsz]; exact hg)]
      exact map_block16 _ hh
    refine ⟨he, ⟨t, ht1, ht2, by rw [show (nC16 t).length = t.length by simp [nC16], htl, Nat.mul_one], .inr ⟨g, cap, _, rfl, hB1, hw2, h2, h3, ?_, ?_⟩⟩, ?_⟩
    · simp [putCells, h4]
    · rw [nz16, Nat.mul_one]
      exact put_take16 n _ cur (by rw [List.length_map]; exact htl) (by omega)
    · have hsw : w'.heap.size = w.heap.size + os.size := by rw [hw, size_grow, hsz]
      refine ⟨by rw [hw]; rfl, by rw [hw]; rfl, by rw [hw]; rfl, by omega, ?_⟩
      intro j hj
      have hjw : j < w.heap.size := by omega
      rw [hw, heap_grow_old _ _ (by rw [hsz]; exact hjw)]
      exact map_other16 _ (by omega)

theorem own_num16 {w : World} {B : Nat} {e : TypeId} {ao : Option Addr} {n m cap : Nat} {l : List Nat} (h : w.ownsRow B e 1 (.slice ao n cap) m (nC16 l)) (i p : Nat) (hp : l[i]? = some p) : ∃ g, ao = some ⟨g, 0, none⟩ ∧ w.cell? ⟨g, i, none⟩ = some (.int .i64 (p : Int)) := by
  have hx : (nC16 l)[i]? = some (.int .i64 (p : Int)) := by unfold nC16; rw [List.getElem?_map, hp]; rfl
  have hlt := (List.getElem?_eq_some_iff.1 hx).1
  rcases h.2 with ⟨_, h0⟩ | ⟨g, cap', cur, h1, h2⟩
  · rw [h.1, h0] at hlt; omega
  · injection h1 with h1 h3 h4
    subst h1
    have := h.cells (g := g) rfl i _ hx
    rw [Addr.add_mid, Nat.zero_add] at this
    exact ⟨g, rfl, this⟩

set_option maxHeartbeats 1600000 in
set_option maxRecDepth 20000 in
theorem cfree16 (B n cap : Nat) (ao : Option Addr) (xs : List Nat) (hn : xs.length = n) (w : World) (h : w.ownsRow B 3 1 (.slice ao n cap) n (nC16 xs)) (hnb : n ≤ 1048576) (hB : B ≤ w.heap.size) :
    Calls Tryd.prog 30 #[.slice ao n cap] w fun e w' => (∃ t : List Nat, t.Pairwise (· ≤ ·) ∧ t.Perm xs ∧ e = .returned (.int .i64 (Rg.lf t 0 : Int))) ∧ Below B w w' := by
  have HS := hid' (csort16 B n cap ao xs hn w h hnb hB)
  have HN := hid' hn
  clear h hB hn
  go_enter Tryd.func30, Tryd.ntmps30
  go_wp2_with fail
  refine HS.out.mono ?_
  rintro e w1 ⟨rfl, ⟨t, ht1, ht2, hown⟩, hb1⟩
  have HO := hid' hown
  have HB := hid' hb1
  have HT1 := hid' ht1
  have HT2 := hid' ht2
  have HTL : Hid (t.length = n) := hid' (ht2.length_eq.trans HN.out)
  clear HS ht1 ht2 hown hb1
  go_wp2
  go_loopw [3, 5, 10] (fun s3 s5 s10 wr => ∃ (f i : Nat), s3 = .int .i64 (f : Int) ∧ s10 = .int .i64 (i : Int) ∧ i ≤ n ∧ f ≤ i ∧ Hid (Rg.lf t 0 = Rg.lf (t.drop i) f) ∧ wr = w1) (fun _ _ s10 _ => n - (intOf s10).toNat)
  case atStart => exact ⟨0, 0, rfl, rfl, Nat.zero_le _, Nat.le_refl _, hid' (by rw [List.drop_zero]), rfl⟩
  case round =>
    obtain ⟨f, i, rfl, rfl, hi, hf, HL, hwr⟩ := hrel
    subst hwr
    by_cases hlt : i < n
    · have hlt2 : (i : Int) < (n : Int) := by omega
      obtain ⟨p, hp⟩ : ∃ p, t[i]? = some p := ⟨_, List.getElem?_eq_getElem (by rw [HTL.out]; exact hlt)⟩
      obtain ⟨g, rfl, y0⟩ := own_num16 HO.out i p hp
      have HD : Hid (t.drop i = p :: t.drop (i + 1)) := hid' (by
        obtain ⟨h1, h2⟩ := List.getElem?_eq_some_iff.1 hp
        rw [List.drop_eq_getElem_cons h1, h2])
      rw [HD.out, Rg.lf] at HL
      clear hp
      by_cases hpf : p = f
      · have hpB : ((p : Int) == (f : Int)) = true := by rw [beq_iff_eq]; omega
        rw [if_pos hpf] at HL
        clear hpf
        go_wp2
        go_roundw
        case rel => exact ⟨f + 1, i + 1, by go_num, by go_num, by omega, by omega, HL, by trivial⟩
        case measure => simp [intOf]; omega
      · have hpB : ((p : Int) == (f : Int)) = false := by rw [beq_eq_false_iff_ne]; omega
        rw [if_neg hpf] at HL
        clear hpf
        go_wp2
        go_roundw
        case rel => exact ⟨f, i + 1, by go_num, by go_num, by omega, by omega, HL, by trivial⟩
        case measure => simp [intOf]; omega
    · have hlt2 : ¬ (i : Int) < (n : Int) := by omega
      have HE : Hid (Rg.lf t 0 = f) := hid' (by rw [HL.out, List.drop_eq_nil_of_le (by have := HTL.out; omega)]; rfl)
      clear hlt
      go_wp2
      go_ret
      exact ⟨⟨t, HT1.out, HT2.out, by rw [HE.out]; rfl⟩, HB.out⟩

end Go.Proofs.YtdbldompjhienaaDoor
