/-
  Maps in memory, key by key: looked up, written, cut, counted.
-/
import Derived.Maps.Keyed
import Derived.Maps.OwnSet
import Derived.Test.YtbpdhcfmdkmoiaaGreatDoorPnAG
namespace Go.Proofs.YtbpdhcfmdkmoiaaGreatDoor
open Go.RowKit Go.MapKept
open Go.ChangeMaps (setBlock heap_setBlock_same heap_setBlock_other modify_eq_set)

section
variable {κ α : Type} {kv : κ → Value} {vv : α → Value}

/-- Block b is a map of n entries that holds f. -/
structure Mp (kv : κ → Value) (vv : α → Value) (w : World) (b : Nat) (f : κ → Option α) (n : Nat) (es : Array MapEntry) (clock : Nat) : Prop where
  hd : w.heap[b]? = some (.map es clock)
  sz : es.size = n
  all : ∀ e ∈ es.toList, ∃ k x, e.key = kv k ∧ e.val = vv x ∧ f k = some x
  nd : es.toList.Pairwise (fun x y => x.key ≠ y.key)
  has : ∀ k x, f k = some x → ∃ e ∈ es.toList, e.key = kv k
/-- The key's type. -/
structure Ky (P : Program) (kt : TypeId) (kv : κ → Value) (d : TypeDesc) : Prop where
  ty : P.underlying kt = some d
  is : ∀ k, IsKey d (kv k)
  inj : ∀ a b, kv a = kv b → a = b

variable {P : Program} {kt et t : TypeId} {d : TypeDesc} {w : World} {b n : Nat} {f : κ → Option α} {es : Array MapEntry} {clock : Nat}
theorem Mp.lt (h : Mp kv vv w b f n es clock) : b < w.heap.size := (Array.getElem?_eq_some_iff.1 h.hd).1
theorem Mp.val (K : Ky P kt kv d) (h : Mp kv vv w b f n es clock) {e : MapEntry} (he : e ∈ es.toList) {k : κ} (hk : e.key = kv k) : ∃ x, f k = some x ∧ e.val = vv x := by
  obtain ⟨k', x, h1, h2, h3⟩ := h.all e he
  obtain rfl := K.inj _ _ (h1.symm.trans hk)
  exact ⟨x, h3, h2⟩
theorem Mp.find (K : Ky P kt kv d) (h : Mp kv vv w b f n es clock) (k : κ) :
    (f k = none ∧ (∀ W : World, (Instr.findKey kt (kv k) es.toList).run P W = .ok none W) ∧ ∀ e ∈ es.toList, e.key ≠ kv k) ∨
    ∃ x j e, f k = some x ∧ (∀ W : World, (Instr.findKey kt (kv k) es.toList).run P W = .ok (some (j, vv x)) W) ∧ es.toList[j]? = some e ∧ e.key = kv k := by
  have hks : ∀ y ∈ es.toList, IsKey d y.key := fun y hy => by
    obtain ⟨k', x, h1, _⟩ := h.all y hy
    rw [h1]; exact K.is k'
  rcases findNow_spec (K.is k) es.toList 0 hks with ⟨h1, h2⟩ | ⟨j, e, h1, h2, h3⟩
  · refine .inl ⟨?_, fun W => run_findKey K.ty h1, h2⟩
    cases hf : f k with
    | none => rfl
    | some x =>
      obtain ⟨e, he, hk⟩ := h.has k x hf
      exact absurd hk (h2 e he)
  · obtain ⟨x, hx, hv⟩ := h.val K (List.mem_of_getElem? h2) h3
    rw [hv] at h1
    exact .inr ⟨x, j, e, hx, fun W => by simpa using run_findKey (w := W) K.ty h1, h2, h3⟩
theorem Mp.look_no (K : Ky P kt kv d) (h : Mp kv vv w b f n es clock) (ht : P.underlying t = some (.map kt et)) {z : Value} (hz : ∀ W : World, (zeroValue et).run P W = .ok z W) (c : Bool) {k : κ} (hk : f k = none) :
    (Instr.lookup t (.map (some b)) (kv k) c).run P w = .ok (if c = true then .tuple #[z, .bool false] else z) w := by
  rcases h.find K k with ⟨_, h1, _⟩ | ⟨x, _, _, h1, _⟩
  · simp [Instr.lookup, run_underlying ht, MapKept.run_getObj_map h.hd, run_checkKey K.ty (K.is k) _ 9999, h1, hz, Result.andThen]
  · rw [hk] at h1; cases h1
theorem Mp.look_yes (K : Ky P kt kv d) (h : Mp kv vv w b f n es clock) (ht : P.underlying t = some (.map kt et)) (c : Bool) {k : κ} {x : α} (hk : f k = some x) :
    (Instr.lookup t (.map (some b)) (kv k) c).run P w = .ok (if c = true then .tuple #[vv x, .bool true] else vv x) w := by
  rcases h.find K k with ⟨h0, _⟩ | ⟨x', j, e, h0, h1, _⟩
  · rw [hk] at h0; cases h0
  · rw [hk] at h0
    injection h0 with h0
    subst h0
    simp [Instr.lookup, run_underlying ht, MapKept.run_getObj_map h.hd, run_checkKey K.ty (K.is k) _ 9999, h1, Result.andThen]
theorem Mp.len (h : Mp kv vv w b f n es clock) (ht : P.underlying t = some (.map kt et)) (ty : TypeId) : (Builtin.len_ #[t] ty #[.map (some b)]).run P w = .ok (.int .i64 (n : Int)) w := by
  simp [Builtin.len_, run_underlying ht, MapKept.run_getObj_map h.hd, goInt, Result.andThen, h.sz]
/-- The map stays while other blocks turn. -/
theorem Mp.other {w' : World} (h : Mp kv vv w b f n es clock) (hb : w'.heap[b]? = w.heap[b]?) : Mp kv vv w' b f n es clock := ⟨hb.trans h.hd, h.sz, h.all, h.nd, h.has⟩

/-- A map that was just made. -/
theorem Mp.made (w : World) (kv : κ → Value) (vv : α → Value) : Mp kv vv (w.alloc (.map #[] 0)) w.heap.size (fun _ => none) 0 #[] 0 :=
  ⟨(MapKept.heap_alloc w _).1, rfl, fun e he => by simp at he, by simp, fun k x h => by cases h⟩
variable [DecidableEq κ]
/-- A map with one more. -/
def mput (f : κ → Option α) (k : κ) (x : α) : κ → Option α := fun k' => if k' = k then some x else f k'
def mdel (f : κ → Option α) (k : κ) : κ → Option α := fun k' => if k' = k then none else f k'
theorem Mp.store (K : Ky P kt kv d) (h : Mp kv vv w b f n es clock) (ht : P.underlying t = some (.map kt et)) (k : κ) (x : α) :
    ∃ es' clock', (Instr.mapUpdate t (.map (some b)) (kv k) (vv x)).run P w = .ok () (setBlock w b (.map es' clock')) ∧ Mp kv vv (setBlock w b (.map es' clock')) b (mput f k x) (if (f k).isSome = true then n else n + 1) es' clock' := by
  rcases h.find K k with ⟨h0, h1, h2⟩ | ⟨x', j, e0, h0, h1, h2, h3⟩
  · refine ⟨es.push ⟨kv k, vv x, clock⟩, clock + 1, ?_, heap_setBlock_same h.hd _, by simp [h.sz, h0], ?_, ?_, ?_⟩
    · simp [Instr.mapUpdate, run_underlying ht, MapKept.run_getObj_map h.hd, run_checkKey K.ty (K.is k) _ 9999, h1, run_setObj_map _ h.hd, Result.andThen, setBlock]
    · intro e he
      simp only [Array.toList_push, List.mem_append, List.mem_singleton] at he
      rcases he with he | rfl
      · obtain ⟨k', x', e1, e2, e3⟩ := h.all e he
        refine ⟨k', x', e1, e2, ?_⟩
        unfold mput
        rw [if_neg (fun ek => h2 e he (by rw [e1, ek]))]
        exact e3
      · exact ⟨k, x, rfl, rfl, by simp [mput]⟩
    · rw [Array.toList_push]
      refine List.pairwise_append.2 ⟨h.nd, by simp, ?_⟩
      intro a ha c hc
      obtain rfl : c = _ := by simpa using hc
      exact h2 a ha
    · intro k' x' hk'
      simp only [Array.toList_push, List.mem_append, List.mem_singleton]
      unfold mput at hk'
      by_cases e : k' = k
      · subst e; exact ⟨_, .inr rfl, rfl⟩
      · rw [if_neg e] at hk'
        obtain ⟨e', he', hk2⟩ := h.has k' x' hk'
        exact ⟨e', .inl he', hk2⟩
  · have hj : es[j]? = some e0 := by simpa using h2
    have hjl : j < es.toList.length := (List.getElem?_eq_some_iff.1 h2).1
    have hlist : (es.modify j (fun e' => { e' with key := kv k, val := vv x })).toList = es.toList.set j { e0 with key := kv k, val := vv x } := by rw [Array.toList_modify, modify_eq_set _ _ _ _ h2]
    have other : ∀ i e, es.toList[i]? = some e → i ≠ j → e.key ≠ kv k := by
      intro i e hi hne hk
      have hp := List.pairwise_iff_getElem.1 h.nd
      obtain ⟨a1, a2⟩ := List.getElem?_eq_some_iff.1 hi
      obtain ⟨b1, b2⟩ := List.getElem?_eq_some_iff.1 h2
      rcases Nat.lt_or_gt_of_ne hne with hlt | hlt
      · have := hp i j a1 b1 hlt
        rw [a2, b2, hk, h3] at this
        exact this rfl
      · have := hp j i b1 a1 hlt
        rw [a2, b2, hk, h3] at this
        exact this rfl
    refine ⟨es.modify j (fun e' => { e' with key := kv k, val := vv x }), clock, ?_, heap_setBlock_same h.hd _, by simp [h.sz, h0], ?_, ?_, ?_⟩
    · simp [Instr.mapUpdate, run_underlying ht, MapKept.run_getObj_map h.hd, run_checkKey K.ty (K.is k) _ 9999, h1, hj, h3, run_keyThatStays (K.is k), run_setObj_map _ h.hd, Result.andThen, setBlock]
    · intro e he
      rw [hlist] at he
      obtain ⟨i, hi⟩ := List.getElem?_of_mem he
      rw [List.getElem?_set] at hi
      split at hi
      · injection hi with hi
        subst hi
        exact ⟨k, x, rfl, rfl, by simp [mput]⟩
      · rename_i hne
        obtain ⟨k', x', e1, e2, e3⟩ := h.all e (List.mem_of_getElem? hi)
        refine ⟨k', x', e1, e2, ?_⟩
        unfold mput
        rw [if_neg (fun ek => other i e hi (fun e => hne e.symm) (by rw [e1, ek]))]
        exact e3
    · rw [hlist, List.pairwise_iff_getElem]
      intro i i' hi hi' hlt
      rw [List.length_set] at hi hi'
      rw [List.getElem_set, List.getElem_set]
      split
      · rename_i e1
        rw [if_neg (by omega)]
        simp only
        exact fun e => other i' _ (List.getElem?_eq_getElem hi') (by omega) e.symm
      · split
        · rename_i e1 e2
          simp only
          exact other i _ (List.getElem?_eq_getElem hi) (by omega)
        · exact List.pairwise_iff_getElem.1 h.nd i i' hi hi' hlt
    · intro k' x'' hk'
      rw [hlist]
      unfold mput at hk'
      by_cases e : k' = k
      · subst e
        exact ⟨{ e0 with key := kv k', val := vv x }, List.mem_iff_getElem.2 ⟨j, by simpa using hjl, by simp⟩, rfl⟩
      · rw [if_neg e] at hk'
        obtain ⟨e', he', hk2⟩ := h.has k' x'' hk'
        obtain ⟨i, hi⟩ := List.getElem?_of_mem he'
        refine ⟨e', List.mem_of_getElem? (i := i) ?_, hk2⟩
        rw [List.getElem?_set_ne]
        · exact hi
        · rintro rfl
          rw [h2] at hi
          injection hi with hi
          subst hi
          exact e (K.inj _ _ (hk2.symm.trans h3))
theorem Mp.drop (K : Ky P kt kv d) (h : Mp kv vv w b f n es clock) (ht : P.underlying t = some (.map kt et)) (k : κ) (ty : TypeId) :
    ∃ es', (Builtin.delete_ #[t, kt] ty #[.map (some b), kv k]).run P w = .ok (.tuple #[]) (setBlock w b (.map es' clock)) ∧ Mp kv vv (setBlock w b (.map es' clock)) b (mdel f k) (if (f k).isSome = true then n - 1 else n) es' clock := by
  rcases h.find K k with ⟨h0, h1, h2⟩ | ⟨x', j, e0, h0, h1, h2, h3⟩
  · refine ⟨es, ?_, heap_setBlock_same h.hd _, by simp [h.sz, h0], ?_, h.nd, ?_⟩
    · simp [Builtin.delete_, run_underlying ht, MapKept.run_getObj_map h.hd, run_checkKey K.ty (K.is k) _ 9999, h1, run_setObj_map _ h.hd, Result.andThen, setBlock]
    · intro e he
      obtain ⟨k', x', e1, e2, e3⟩ := h.all e he
      refine ⟨k', x', e1, e2, ?_⟩
      unfold mdel
      rw [if_neg (fun ek => h2 e he (by rw [e1, ek]))]
      exact e3
    · intro k' x' hk'
      unfold mdel at hk'
      by_cases e : k' = k
      · rw [if_pos e] at hk'; cases hk'
      · rw [if_neg e] at hk'; exact h.has k' x' hk'
  · have hjl : j < es.toList.length := (List.getElem?_eq_some_iff.1 h2).1
    have hjs : j < es.size := by simpa using hjl
    have hsub : (es.eraseIdxIfInBounds j).toList = es.toList.eraseIdx j := by
      unfold Array.eraseIdxIfInBounds
      rw [dif_pos hjs]
      simp
    have hsz : (es.eraseIdxIfInBounds j).size = es.size - 1 := by
      rw [← Array.length_toList, hsub, List.length_eraseIdx, if_pos hjl, Array.length_toList]
    have other : ∀ i e, es.toList[i]? = some e → i ≠ j → e.key ≠ kv k := by
      intro i e hi hne hk
      have hp := List.pairwise_iff_getElem.1 h.nd
      obtain ⟨a1, a2⟩ := List.getElem?_eq_some_iff.1 hi
      obtain ⟨b1, b2⟩ := List.getElem?_eq_some_iff.1 h2
      rcases Nat.lt_or_gt_of_ne hne with hlt | hlt
      · have := hp i j a1 b1 hlt
        rw [a2, b2, hk, h3] at this
        exact this rfl
      · have := hp j i b1 a1 hlt
        rw [a2, b2, hk, h3] at this
        exact this rfl
    refine ⟨es.eraseIdxIfInBounds j, ?_, heap_setBlock_same h.hd _, by simp [hsz, h.sz, h0], ?_, ?_, ?_⟩
    · simp [Builtin.delete_, run_underlying ht, MapKept.run_getObj_map h.hd, run_checkKey K.ty (K.is k) _ 9999, h1, run_setObj_map _ h.hd, Result.andThen, setBlock]
    · intro e he
      rw [hsub] at he
      obtain ⟨i, hne, hi⟩ := List.mem_eraseIdx_iff_getElem?.1 he
      obtain ⟨k', x', e1, e2, e3⟩ := h.all e (List.mem_of_getElem? hi)
      refine ⟨k', x', e1, e2, ?_⟩
      unfold mdel
      rw [if_neg (fun ek => other i e hi hne (by rw [e1, ek]))]
      exact e3
    · rw [hsub]; exact h.nd.sublist (List.eraseIdx_sublist _ _)
    · intro k' x'' hk'
      unfold mdel at hk'
      by_cases e : k' = k
      · rw [if_pos e] at hk'; cases hk'
      · rw [if_neg e] at hk'
        obtain ⟨e', he', hk2⟩ := h.has k' x'' hk'
        obtain ⟨i, hi⟩ := List.getElem?_of_mem he'
        refine ⟨e', ?_, hk2⟩
        rw [hsub]
        refine List.mem_eraseIdx_iff_getElem?.2 ⟨i, ?_, hi⟩
        rintro rfl
        rw [h2] at hi
        injection hi with hi
        subst hi
        exact e (K.inj _ _ (hk2.symm.trans h3))
end

end Go.Proofs.YtbpdhcfmdkmoiaaGreatDoor
