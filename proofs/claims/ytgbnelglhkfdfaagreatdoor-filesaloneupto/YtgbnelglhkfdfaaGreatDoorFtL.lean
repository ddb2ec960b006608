/-
  Maps in memory, key by key, with their entries' stamps: looked up, written, cut, counted, copied.
  The code's disk in memory: New, has, Seq, Snap, Get, Remove, and of none: by their contracts.
  What the laws of files ask of the code, as contracts; FilesPlain over them.
  What awake asks: plain.
-/
import Derived.Test.YtgbnelglhkfdfaaGreatDoorFtA
import Derived.Maps.Keyed
import Derived.Maps.OwnSet
import Derived.Maps.RangeRun
import Derived.Test.YtgbnelglhkfdfaaGreatDoorFtK
import Derived.Test.YtgbnelglhkfdfaaGreatDoorFtG
import Derived.Shelf.SlMaps.Clone
import Derived.Shelf.SlGeneric
import Derived.Ground.SlmcProg
import Derived.Deep.RegionWith
import Derived.Test.YtgbnelglhkfdfaaGreatDoorFtC
import Derived.Test.YtgbnelglhkfdfaaGreatDoorFtJ
namespace Go.Proofs.YtgbnelglhkfdfaaGreatDoor
open Go.RowKit Go.MapKept
open Go.ChangeMaps (setBlock heap_setBlock_same heap_setBlock_other modify_eq_set)

section
variable {κ α : Type} {kv : κ → Value} {vv : α → Value}

/-- Block b is a map of n entries that holds f. -/
structure Mp (kv : κ → Value) (vv : α → Value) (w : World) (b : Nat) (f : κ → Option α) (n : Nat) (es : Array MapEntry) (clock : Nat) : Prop where
  hd : w.heap[b]? = some (.map es clock)
  sz : es.size = n
  all : ∀ e ∈ es.toList, ∃ k x, e.key = kv k ∧ e.val = vv x ∧ f k = some x
  nd : es.toList.Pairwise (fun x y => x.key ≠ y.key)
  has : ∀ k x, f k = some x → ∃ e ∈ es.toList, e.key = kv k
  st : ∀ e ∈ es.toList, e.born < clock
  nb : (es.toList.map (·.born)).Nodup
/-- The key's type. -/
structure Ky (P : Program) (kt : TypeId) (kv : κ → Value) (d : TypeDesc) : Prop where
  ty : P.underlying kt = some d
  is : ∀ k, IsKey d (kv k)
  inj : ∀ a b, kv a = kv b → a = b

variable {P : Program} {kt et t : TypeId} {d : TypeDesc} {w : World} {b n : Nat} {f : κ → Option α} {es : Array MapEntry} {clock : Nat}
theorem Mp.lt (h : Mp kv vv w b f n es clock) : b < w.heap.size := (Array.getElem?_eq_some_iff.1 h.hd).1
theorem Mp.val (K : Ky P kt kv d) (h : Mp kv vv w b f n es clock) {e : MapEntry} (he : e ∈ es.toList) {k : κ} (hk : e.key = kv k) : ∃ x, f k = some x ∧ e.val = vv x := by
  obtain ⟨k', x, h1, h2, h3⟩ := h.all e he
  obtain rfl := K.inj _ _ (h1.symm.trans hk)
  exact ⟨x, h3, h2⟩
theorem Mp.find (K : Ky P kt kv d) (h : Mp kv vv w b f n es clock) (k : κ) :
    (f k = none ∧ (∀ W : World, (Instr.findKey kt (kv k) es.toList).run P W = .ok none W) ∧ ∀ e ∈ es.toList, e.key ≠ kv k) ∨
    ∃ x j e, f k = some x ∧ (∀ W : World, (Instr.findKey kt (kv k) es.toList).run P W = .ok (some (j, vv x)) W) ∧ es.toList[j]? = some e ∧ e.key = kv k := by
  have hks : ∀ y ∈ es.toList, IsKey d y.key := fun y hy => by
    obtain ⟨k', x, h1, _⟩ := h.all y hy
    rw [h1]; exact K.is k'
  rcases findNow_spec (K.is k) es.toList 0 hks with ⟨h1, h2⟩ | ⟨j, e, h1, h2, h3⟩
  · refine .inl ⟨?_, fun W => run_findKey K.ty h1, h2⟩
    cases hf : f k with
    | none => rfl
    | some x =>
      obtain ⟨e, he, hk⟩ := h.has k x hf
      exact absurd hk (h2 e he)
  · obtain ⟨x, hx, hv⟩ := h.val K (List.mem_of_getElem? h2) h3
    rw [hv] at h1
    exact .inr ⟨x, j, e, hx, fun W => by simpa using run_findKey (w := W) K.ty h1, h2, h3⟩
theorem Mp.look_no (K : Ky P kt kv d) (h : Mp kv vv w b f n es clock) (ht : P.underlying t = some (.map kt et)) {z : Value} (hz : ∀ W : World, (zeroValue et).run P W = .ok z W) (c : Bool) {k : κ} (hk : f k = none) :
    (Instr.lookup t (.map (some b)) (kv k) c).run P w = .ok (if c = true then .tuple #[z, .bool false] else z) w := by
  rcases h.find K k with ⟨_, h1, _⟩ | ⟨x, _, _, h1, _⟩
  · simp [Instr.lookup, run_underlying ht, MapKept.run_getObj_map h.hd, run_checkKey K.ty (K.is k) _ 9999, h1, hz, Result.andThen]
  · rw [hk] at h1; cases h1
theorem Mp.look_yes (K : Ky P kt kv d) (h : Mp kv vv w b f n es clock) (ht : P.underlying t = some (.map kt et)) (c : Bool) {k : κ} {x : α} (hk : f k = some x) :
    (Instr.lookup t (.map (some b)) (kv k) c).run P w = .ok (if c = true then .tuple #[vv x, .bool true] else vv x) w := by
  rcases h.find K k with ⟨h0, _⟩ | ⟨x', j, e, h0, h1, _⟩
  · rw [hk] at h0; cases h0
  · rw [hk] at h0
    injection h0 with h0
    subst h0
    simp [Instr.lookup, run_underlying ht, MapKept.run_getObj_map h.hd, run_checkKey K.ty (K.is k) _ 9999, h1, Result.andThen]
theorem Mp.len (h : Mp kv vv w b f n es clock) (ht : P.underlying t = some (.map kt et)) (ty : TypeId) : (Builtin.len_ #[t] ty #[.map (some b)]).run P w = .ok (.int .i64 (n : Int)) w := by
  simp [Builtin.len_, run_underlying ht, MapKept.run_getObj_map h.hd, goInt, Result.andThen, h.sz]
/-- The map stays while other blocks turn. -/
theorem Mp.other {w' : World} (h : Mp kv vv w b f n es clock) (hb : w'.heap[b]? = w.heap[b]?) : Mp kv vv w' b f n es clock := ⟨hb.trans h.hd, h.sz, h.all, h.nd, h.has, h.st, h.nb⟩

/-- A map that was just made. -/
theorem Mp.made (w : World) (kv : κ → Value) (vv : α → Value) : Mp kv vv (w.alloc (.map #[] 0)) w.heap.size (fun _ => none) 0 #[] 0 :=
  ⟨(MapKept.heap_alloc w _).1, rfl, fun e he => by simp at he, by simp, (fun k x h => by cases h), (fun e he => by simp at he), by simp⟩
variable [DecidableEq κ]
/-- A map with one more. -/
def mput (f : κ → Option α) (k : κ) (x : α) : κ → Option α := fun k' => if k' = k then some x else f k'
def mdel (f : κ → Option α) (k : κ) : κ → Option α := fun k' => if k' = k then none else f k'
theorem Mp.store (K : Ky P kt kv d) (h : Mp kv vv w b f n es clock) (ht : P.underlying t = some (.map kt et)) (k : κ) (x : α) :
    ∃ es' clock', (Instr.mapUpdate t (.map (some b)) (kv k) (vv x)).run P w = .ok () (setBlock w b (.map es' clock')) ∧ Mp kv vv (setBlock w b (.map es' clock')) b (mput f k x) (if (f k).isSome = true then n else n + 1) es' clock' := by
  rcases h.find K k with ⟨h0, h1, h2⟩ | ⟨x', j, e0, h0, h1, h2, h3⟩
  · refine ⟨es.push ⟨kv k, vv x, clock⟩, clock + 1, ?_, heap_setBlock_same h.hd _, by simp [h.sz, h0], ?_, ?_, ?_, ?_, ?_⟩
    · simp [Instr.mapUpdate, run_underlying ht, MapKept.run_getObj_map h.hd, run_checkKey K.ty (K.is k) _ 9999, h1, run_setObj_map _ h.hd, Result.andThen, setBlock]
    · intro e he
      simp only [Array.toList_push, List.mem_append, List.mem_singleton] at he
      rcases he with he | rfl
      · obtain ⟨k', x', e1, e2, e3⟩ := h.all e he
        refine ⟨k', x', e1, e2, ?_⟩
        unfold mput
        rw [if_neg (fun ek => h2 e he (by rw [e1, ek]))]
        exact e3
      · exact ⟨k, x, rfl, rfl, by simp [mput]⟩
    · rw [Array.toList_push]
      refine List.pairwise_append.2 ⟨h.nd, by simp, ?_⟩
      intro a ha c hc
      obtain rfl : c = _ := by simpa using hc
      exact h2 a ha
    · intro k' x' hk'
      simp only [Array.toList_push, List.mem_append, List.mem_singleton]
      unfold mput at hk'
      by_cases e : k' = k
      · subst e; exact ⟨_, .inr rfl, rfl⟩
      · rw [if_neg e] at hk'
        obtain ⟨e', he', hk2⟩ := h.has k' x' hk'
        exact ⟨e', .inl he', hk2⟩
    · intro e he
      simp only [Array.toList_push, List.mem_append, List.mem_singleton] at he
      rcases he with he | rfl
      · have := h.st e he; omega
      · exact Nat.lt_succ_self _
    · rw [Array.toList_push, List.map_append, List.nodup_append]
      refine ⟨h.nb, by simp, ?_⟩
      intro a ha b hb
      obtain ⟨e, he, rfl⟩ := List.mem_map.1 ha
      simp only [List.map_cons, List.map_nil, List.mem_singleton] at hb
      subst hb
      have := h.st e he
      omega
  · have hj : es[j]? = some e0 := by simpa using h2
    have hjl : j < es.toList.length := (List.getElem?_eq_some_iff.1 h2).1
    have hlist : (es.modify j (fun e' => { e' with key := kv k, val := vv x })).toList = es.toList.set j { e0 with key := kv k, val := vv x } := by rw [Array.toList_modify, modify_eq_set _ _ _ _ h2]
    have other : ∀ i e, es.toList[i]? = some e → i ≠ j → e.key ≠ kv k := by
      intro i e hi hne hk
      have hp := List.pairwise_iff_getElem.1 h.nd
      obtain ⟨a1, a2⟩ := List.getElem?_eq_some_iff.1 hi
      obtain ⟨b1, b2⟩ := List.getElem?_eq_some_iff.1 h2
      rcases Nat.lt_or_gt_of_ne hne with hlt | hlt
      · have := hp i j a1 b1 hlt
        rw [a2, b2, hk, h3] at this
        exact this rfl
      · have := hp j i b1 a1 hlt
        rw [a2, b2, hk, h3] at this
        exact this rfl
    refine ⟨es.modify j (fun e' => { e' with key := kv k, val := vv x }), clock, ?_, heap_setBlock_same h.hd _, by simp [h.sz, h0], ?_, ?_, ?_, ?_, ?_⟩
    · simp [Instr.mapUpdate, run_underlying ht, MapKept.run_getObj_map h.hd, run_checkKey K.ty (K.is k) _ 9999, h1, hj, h3, run_keyThatStays (K.is k), run_setObj_map _ h.hd, Result.andThen, setBlock]
    · intro e he
      rw [hlist] at he
      obtain ⟨i, hi⟩ := List.getElem?_of_mem he
      rw [List.getElem?_set] at hi
      split at hi
      · injection hi with hi
        subst hi
        exact ⟨k, x, rfl, rfl, by simp [mput]⟩
      · rename_i hne
        obtain ⟨k', x', e1, e2, e3⟩ := h.all e (List.mem_of_getElem? hi)
        refine ⟨k', x', e1, e2, ?_⟩
        unfold mput
        rw [if_neg (fun ek => other i e hi (fun e => hne e.symm) (by rw [e1, ek]))]
        exact e3
    · rw [hlist, List.pairwise_iff_getElem]
      intro i i' hi hi' hlt
      rw [List.length_set] at hi hi'
      rw [List.getElem_set, List.getElem_set]
      split
      · rename_i e1
        rw [if_neg (by omega)]
        simp only
        exact fun e => other i' _ (List.getElem?_eq_getElem hi') (by omega) e.symm
      · split
        · rename_i e1 e2
          simp only
          exact other i _ (List.getElem?_eq_getElem hi) (by omega)
        · exact List.pairwise_iff_getElem.1 h.nd i i' hi hi' hlt
    · intro k' x'' hk'
      rw [hlist]
      unfold mput at hk'
      by_cases e : k' = k
      · subst e
        exact ⟨{ e0 with key := kv k', val := vv x }, List.mem_iff_getElem.2 ⟨j, by simpa using hjl, by simp⟩, rfl⟩
      · rw [if_neg e] at hk'
        obtain ⟨e', he', hk2⟩ := h.has k' x'' hk'
        obtain ⟨i, hi⟩ := List.getElem?_of_mem he'
        refine ⟨e', List.mem_of_getElem? (i := i) ?_, hk2⟩
        rw [List.getElem?_set_ne]
        · exact hi
        · rintro rfl
          rw [h2] at hi
          injection hi with hi
          subst hi
          exact e (K.inj _ _ (hk2.symm.trans h3))
    · intro e he
      rw [hlist] at he
      rcases List.mem_or_eq_of_mem_set he with he | rfl
      · exact h.st e he
      · exact h.st e0 (List.mem_of_getElem? h2)
    · rw [hlist, List.map_set]
      have hq : (es.toList.map (·.born)).set j e0.born = es.toList.map (·.born) := by
        apply List.ext_getElem?
        intro i
        rw [List.getElem?_set]
        split
        · rename_i hij
          subst hij
          rw [List.getElem?_map, h2]
          simp only [Option.map_some, List.length_map, if_pos hjl]
        · rfl
      show ((es.toList.map (·.born)).set j e0.born).Nodup
      rw [hq]
      exact h.nb
theorem Mp.drop (K : Ky P kt kv d) (h : Mp kv vv w b f n es clock) (ht : P.underlying t = some (.map kt et)) (k : κ) (ty : TypeId) :
    ∃ es', (Builtin.delete_ #[t, kt] ty #[.map (some b), kv k]).run P w = .ok (.tuple #[]) (setBlock w b (.map es' clock)) ∧ Mp kv vv (setBlock w b (.map es' clock)) b (mdel f k) (if (f k).isSome = true then n - 1 else n) es' clock := by
  rcases h.find K k with ⟨h0, h1, h2⟩ | ⟨x', j, e0, h0, h1, h2, h3⟩
  · refine ⟨es, ?_, heap_setBlock_same h.hd _, by simp [h.sz, h0], ?_, h.nd, ?_, h.st, h.nb⟩
    · simp [Builtin.delete_, run_underlying ht, MapKept.run_getObj_map h.hd, run_checkKey K.ty (K.is k) _ 9999, h1, run_setObj_map _ h.hd, Result.andThen, setBlock]
    · intro e he
      obtain ⟨k', x', e1, e2, e3⟩ := h.all e he
      refine ⟨k', x', e1, e2, ?_⟩
      unfold mdel
      rw [if_neg (fun ek => h2 e he (by rw [e1, ek]))]
      exact e3
    · intro k' x' hk'
      unfold mdel at hk'
      by_cases e : k' = k
      · rw [if_pos e] at hk'; cases hk'
      · rw [if_neg e] at hk'; exact h.has k' x' hk'
  · have hjl : j < es.toList.length := (List.getElem?_eq_some_iff.1 h2).1
    have hjs : j < es.size := by simpa using hjl
    have hsub : (es.eraseIdxIfInBounds j).toList = es.toList.eraseIdx j := by
      unfold Array.eraseIdxIfInBounds
      rw [dif_pos hjs]
      simp
    have hsz : (es.eraseIdxIfInBounds j).size = es.size - 1 := by
      rw [← Array.length_toList, hsub, List.length_eraseIdx, if_pos hjl, Array.length_toList]
    have other : ∀ i e, es.toList[i]? = some e → i ≠ j → e.key ≠ kv k := by
      intro i e hi hne hk
      have hp := List.pairwise_iff_getElem.1 h.nd
      obtain ⟨a1, a2⟩ := List.getElem?_eq_some_iff.1 hi
      obtain ⟨b1, b2⟩ := List.getElem?_eq_some_iff.1 h2
      rcases Nat.lt_or_gt_of_ne hne with hlt | hlt
      · have := hp i j a1 b1 hlt
        rw [a2, b2, hk, h3] at this
        exact this rfl
      · have := hp j i b1 a1 hlt
        rw [a2, b2, hk, h3] at this
        exact this rfl
    refine ⟨es.eraseIdxIfInBounds j, ?_, heap_setBlock_same h.hd _, by simp [hsz, h.sz, h0], ?_, ?_, ?_, ?_, ?_⟩
    · simp [Builtin.delete_, run_underlying ht, MapKept.run_getObj_map h.hd, run_checkKey K.ty (K.is k) _ 9999, h1, run_setObj_map _ h.hd, Result.andThen, setBlock]
    · intro e he
      rw [hsub] at he
      obtain ⟨i, hne, hi⟩ := List.mem_eraseIdx_iff_getElem?.1 he
      obtain ⟨k', x', e1, e2, e3⟩ := h.all e (List.mem_of_getElem? hi)
      refine ⟨k', x', e1, e2, ?_⟩
      unfold mdel
      rw [if_neg (fun ek => other i e hi hne (by rw [e1, ek]))]
      exact e3
    · rw [hsub]; exact h.nd.sublist (List.eraseIdx_sublist _ _)
    · intro k' x'' hk'
      unfold mdel at hk'
      by_cases e : k' = k
      · rw [if_pos e] at hk'; cases hk'
      · rw [if_neg e] at hk'
        obtain ⟨e', he', hk2⟩ := h.has k' x'' hk'
        obtain ⟨i, hi⟩ := List.getElem?_of_mem he'
        refine ⟨e', ?_, hk2⟩
        rw [hsub]
        refine List.mem_eraseIdx_iff_getElem?.2 ⟨i, ?_, hi⟩
        rintro rfl
        rw [h2] at hi
        injection hi with hi
        subst hi
        exact e (K.inj _ _ (hk2.symm.trans h3))
    · intro e he
      rw [hsub] at he
      exact h.st e ((List.eraseIdx_sublist _ _).subset he)
    · rw [hsub]
      exact h.nb.sublist ((List.eraseIdx_sublist _ _).map _)
end

end Go.Proofs.YtgbnelglhkfdfaaGreatDoor

namespace Go.Proofs.YtgbnelglhkfdfaaGreatDoor
open Go.RowKit
open Go.ChangeMaps (setBlock heap_setBlock_same heap_setBlock_other)

/-- A path as a key, a file as an element. -/
def pk (k : ByteArray) : Value := .string k
def fk (e : Dk.En) : Value := .agg #[.string e.body, .int .i64 e.time, .int .i64 e.seq]
theorem ky : Ky Tryz.prog 9 pk .string := ⟨Tryz.underlying9, fun _ => trivial, fun a b h => by unfold pk at h; injection h⟩
theorem zeroF (W : World) : (zeroValue 31).run Tryz.prog W = .ok (.agg #[.string ⟨#[]⟩, .int .i64 0, .int .i64 0]) W := by kernel_rfl
theorem utm : Tryz.prog.underlying 58 = some (.map 9 31) := Tryz.underlying58
/-- What a map of files holds at a path. -/
def fg (es : List Dk.En) (k : ByteArray) : Option Dk.En := Dk.get k.data.toList es
theorem ba_ext {a b : ByteArray} (h : a.data.toList = b.data.toList) : a = b := by
  apply ByteArray.ext
  exact Array.toList_inj.1 h
/-- A disk, or a snapshot: an object and its map. -/
structure CX (T : TypeId) (w : World) (B b m : Nat) (q : Int) (es : List Dk.En) (E : Array MapEntry) (clock : Nat) : Prop where
  lo : B ≤ b
  lm : B ≤ m
  hd : Ar w b T #[.map (some m), .int .i64 q]
  mp : Mp pk fk w m (fg es) es.length E clock
  ok : Dk.Ok es
  le : es.length ≤ 1024
def CD (w : World) (B b : Nat) (K : Nat → Prop) (q : Int) (es : List Dk.En) : Prop := ∃ m E clock, CX 60 w B b m q es E clock ∧ ∀ k, K k ↔ k = b ∨ k = m
def CS (w : World) (B b : Nat) (K : Nat → Prop) (q : Int) (es : List Dk.En) : Prop := ∃ m E clock, CX 62 w B b m q es E clock ∧ ∀ k, K k ↔ k = b ∨ k = m
theorem CX.same {T : TypeId} {w w' : World} {B b m : Nat} {q : Int} {es : List Dk.En} {E : Array MapEntry} {clock : Nat} (h : CX T w B b m q es E clock) (h1 : w'.heap[b]? = w.heap[b]?) (h2 : w'.heap[m]? = w.heap[m]?) : CX T w' B b m q es E clock :=
  ⟨h.lo, h.lm, by have := h.hd; unfold Ar at *; rw [h1]; exact this, h.mp.other h2, h.ok, h.le⟩
theorem CX.keep {T : TypeId} {w w' : World} {B b m : Nat} {q : Int} {es : List Dk.En} {E : Array MapEntry} {clock : Nat} (h : CX T w B b m q es E clock) (hb : Below w.heap.size w w') : CX T w' B b m q es E clock :=
  h.same (hb.block b h.hd.lt) (hb.block m h.mp.lt)
theorem CX.apart {T : TypeId} {w : World} {B b m : Nat} {q : Int} {es : List Dk.En} {E : Array MapEntry} {clock : Nat} (h : CX T w B b m q es E clock) : b ≠ m := by
  rintro rfl
  have h1 := h.hd
  unfold Ar at h1
  rw [h.mp.hd] at h1
  cases h1
theorem CD.lt {w : World} {B b : Nat} {K : Nat → Prop} {q : Int} {es : List Dk.En} (h : CD w B b K q es) : ∀ k, K k → B ≤ k ∧ k < w.heap.size := by
  obtain ⟨m, E, clock, h, hk⟩ := h
  intro k hK
  rcases (hk k).1 hK with rfl | rfl
  · exact ⟨h.lo, h.hd.lt⟩
  · exact ⟨h.lm, h.mp.lt⟩
theorem CS.lt {w : World} {B b : Nat} {K : Nat → Prop} {q : Int} {es : List Dk.En} (h : CS w B b K q es) : ∀ k, K k → B ≤ k ∧ k < w.heap.size := by
  obtain ⟨m, E, clock, h, hk⟩ := h
  intro k hK
  rcases (hk k).1 hK with rfl | rfl
  · exact ⟨h.lo, h.hd.lt⟩
  · exact ⟨h.lm, h.mp.lt⟩
theorem CD.lb {w : World} {B b : Nat} {K : Nat → Prop} {q : Int} {es : List Dk.En} (h : CD w B b K q es) : B ≤ w.heap.size := by
  obtain ⟨m, E, clock, h, hk⟩ := h
  have h1 := h.lo
  have h2 := h.hd.lt
  omega
theorem CD.ok {w : World} {B b : Nat} {K : Nat → Prop} {q : Int} {es : List Dk.En} (h : CD w B b K q es) : Dk.Ok es ∧ es.length ≤ 1024 := by
  obtain ⟨m, E, clock, h, hk⟩ := h
  exact ⟨h.ok, h.le⟩
theorem CS.ok {w : World} {B b : Nat} {K : Nat → Prop} {q : Int} {es : List Dk.En} (h : CS w B b K q es) : Dk.Ok es ∧ es.length ≤ 1024 := by
  obtain ⟨m, E, clock, h, hk⟩ := h
  exact ⟨h.ok, h.le⟩
theorem CD.other {S K : Nat → Prop} {w w' : World} {B b : Nat} {q : Int} {es : List Dk.En} (h : CD w B b K q es) (hf : LF S w w') (hs : ∀ k, K k → ¬ S k) : CD w' B b K q es := by
  obtain ⟨m, E, clock, h, hk⟩ := h
  exact ⟨m, E, clock, h.same (hf.block b h.hd.lt (hs b ((hk b).2 (.inl rfl)))) (hf.block m h.mp.lt (hs m ((hk m).2 (.inr rfl)))), hk⟩
theorem CS.other {S K : Nat → Prop} {w w' : World} {B b : Nat} {q : Int} {es : List Dk.En} (h : CS w B b K q es) (hf : LF S w w') (hs : ∀ k, K k → ¬ S k) : CS w' B b K q es := by
  obtain ⟨m, E, clock, h, hk⟩ := h
  exact ⟨m, E, clock, h.same (hf.block b h.hd.lt (hs b ((hk b).2 (.inl rfl)))) (hf.block m h.mp.lt (hs m ((hk m).2 (.inr rfl)))), hk⟩
theorem CX.ty {X : TypeId} {w : World} {B b m : Nat} {q : Int} {es : List Dk.En} {E : Array MapEntry} {clock : Nat} (h : CX X w B b m q es E clock) {k : Nat} {T : TypeId} {cs : Array Value} (hk : k = b ∨ k = m) (hc : w.heap[k]? = some (.cells cs T (0, 0))) : T = X := by
  rcases hk with rfl | rfl
  · have h1 := h.hd
    unfold Ar at h1
    rw [hc] at h1
    injection h1 with h1
    injection h1
  · rw [h.mp.hd] at hc
    cases hc

theorem CX.look {T : TypeId} {w : World} {B b m : Nat} {q : Int} {es : List Dk.En} {E : Array MapEntry} {clock : Nat} (h : CX T w B b m q es E clock) (x : ByteArray) :
    (Instr.lookup 58 (.map (some m)) (.string x) true).run Tryz.prog w = .ok (.tuple #[fileV (Dk.get x.data.toList es), .bool (Dk.has x.data.toList es)]) w := by
  cases hg : Dk.get x.data.toList es with
  | none =>
    have := h.mp.look_no ky utm zeroF true (k := x) hg
    rw [Dk.get_has h.ok, hg]
    simpa [pk, fileV] using this
  | some e =>
    have := h.mp.look_yes ky utm true (k := x) hg
    rw [Dk.get_has h.ok, hg]
    simpa [pk, fileV, fk] using this
theorem fileV_sh (o : Option Dk.En) : ∃ y i j, fileV o = .agg #[.string y, .int .i64 i, .int .i64 j] := by
  cases o with
  | none => exact ⟨_, _, _, rfl⟩
  | some e => exact ⟨_, _, _, rfl⟩

set_option maxHeartbeats 1000000 in
theorem cnew13 (w : World) : Calls Tryz.prog 11 #[] w fun e w' => (∃ b K, e = .returned (.pointer (some ⟨b, 0, none⟩)) ∧ CD w' w.heap.size b K 0 []) ∧ Below w.heap.size w w' := by
  have hmm : ∀ W : World, (Instr.makeMap 58 none).run Tryz.prog W = .ok (.map (some W.heap.size)) (W.alloc (.map #[] 0)) := fun _ => rfl
  go_enter Tryz.func11, Tryz.ntmps11
  go_wp2_with (refine wpl_box 60 _ rfl rfl #[.map (some w.heap.size), .int .i64 0] (by kernel_rfl) ?_)
  intro b w1 hb ha hbl
  have hm := Mp.made w pk fk
  have hm1 := hm.other (w' := w1) (hbl.block _ (Nat.lt_succ_self _))
  have HB := hid' hb
  have HA := hid' ha
  have HM := hid' hm1
  have HBL : Hid (Below w.heap.size w w1) := hid' (below_two ((Below.refl _ _).alloc (Nat.le_refl _) _) (by simpa using hbl))
  have HS : Hid (w.heap.size ≤ b) := hid' (by omega)
  clear hb ha hbl hm hm1 hmm
  go_wp2
  go_ret
  exact ⟨⟨b, fun k => k = b ∨ k = w.heap.size, rfl, ⟨_, _, _, ⟨HS.out, Nat.le_refl _, HA.out, HM.out, List.Pairwise.nil, by simp⟩, fun _ => Iff.rfl⟩⟩, HBL.out⟩

set_option maxHeartbeats 1000000 in
theorem chas13 {B b m : Nat} {q : Int} {es : List Dk.En} {E : Array MapEntry} {clock : Nat} (x : ByteArray) (r : Bool) (hr : Dk.has x.data.toList es = r) (w : World) (h : CX 60 w B b m q es E clock) :
    Calls Tryz.prog 24 #[.pointer (some ⟨b, 0, none⟩), .string x] w fun e w' => e = .returned (.bool r) ∧ Below w.heap.size w w' := by
  have hlk := h.look x
  have c0 := h.hd.cell 0 _ rfl
  rw [hr] at hlk
  obtain ⟨y, i, j, hf⟩ := fileV_sh (Dk.get x.data.toList es)
  rw [hf] at hlk
  clear h hf hr
  go_enter Tryz.func24, Tryz.ntmps24
  go_wp2
  go_ret
  exact ⟨rfl, (Below.refl _ _).alloc (Nat.le_refl _) _⟩

set_option maxHeartbeats 1000000 in
theorem csnapN13 (w : World) : Calls Tryz.prog 13 #[.pointer none] w fun e w' => e = .returned (.pointer none) ∧ w' = w := by
  go_enter Tryz.func13, Tryz.ntmps13
  go_wp2
  go_ret
  exact ⟨rfl, rfl⟩

set_option maxHeartbeats 1000000 in
theorem slistN13 (x : ByteArray) (w : World) : Calls Tryz.prog 41 #[.pointer none, .string x] w fun e w' => e = .returned (.slice none 0 0) ∧ w' = w := by
  go_enter Tryz.func41, Tryz.ntmps41
  go_wp2
  go_ret
  exact ⟨rfl, rfl⟩

set_option maxHeartbeats 1000000 in
theorem cremN13 (x : ByteArray) (w : World) : Calls Tryz.prog 19 #[.pointer none, .string x] w fun e w' => e = .returned (.bool false) ∧ w' = w := by
  go_enter Tryz.func19, Tryz.ntmps19
  go_wp2
  go_ret
  exact ⟨rfl, rfl⟩

set_option maxHeartbeats 1000000 in
theorem cputN13 (x y : ByteArray) (t : Int) (w : World) : Calls Tryz.prog 12 #[.pointer none, .string x, .string y, .int .i64 t] w fun e w' => e = .returned (.int .i64 2) ∧ w' = w := by
  go_enter Tryz.func12, Tryz.ntmps12
  go_wp2
  go_ret
  exact ⟨rfl, rfl⟩

end Go.Proofs.YtgbnelglhkfdfaaGreatDoor

namespace Go.Proofs.YtgbnelglhkfdfaaGreatDoor
open Go.RowKit

/-- What a world holds for the library: the table that numbers are written with, and a cell of a number. -/
def TB19 (w : World) : Prop := TB16 w
theorem tb_below19 {w w' : World} (h : TB19 w) (hb : Below w.heap.size w w') : TB19 w' := TB16.keep h hb
/-- What a disk's files are. -/
structure EN19 (e : Dk.En) : Prop where
  b : e.body.size ≤ 65536
  t0 : 0 ≤ e.time
  t1 : e.time ≤ 253402300799
  q0 : 0 ≤ e.seq
  q1 : e.seq ≤ 9223372036854775807
/-- The code's Plain. -/
def PlainC19 : Prop := ∀ (s : Int) (v : Value) (l : List Fd) (w : World), -9223372036854775808 ≤ s → s ≤ 9223372036854775807 → FW w v l → l.length ≤ 1048576 → TB19 w →
  Calls Tryz.prog 7 #[.int .i64 s, v] w fun e w' => (∃ vo n vc, e = .returned (.agg (rpC s (.slice vo n vc) ⟨(Fs.bd s).toArray⟩ (.slice none 0 0))) ∧ FW w' (.slice vo n vc) (Fs.fT :: l)) ∧ Below w.heap.size w w'
/-- The code's Answer. -/
def AnsC19 : Prop := ∀ (B sb : Nat) (K : Nat → Prop) (q : Int) (es : List Dk.En) (root method target rest : ByteArray) (v : Value) (l : List Fd) (w : World), CS w B sb K q es → FW w v l → l.length ≤ 1048576 → Tg.vsz l ≤ 1048576 → root.size ≤ 1048576 → method.size ≤ 1048576 → target.size ≤ 1048576 → rest.size ≤ 1048576 → (∀ e ∈ es, EN19 e) → TB19 w →
  Calls Tryz.prog 15 #[.pointer (some ⟨sb, 0, none⟩), .string root, .string method, .string target, .string rest, v] w fun e w' => (∃ vo n vc, e = .returned (.agg (rpC (Fs.ans es root.data.toList method.data.toList target.data.toList rest.data.toList l).s (.slice vo n vc) ⟨(Fs.ans es root.data.toList method.data.toList target.data.toList rest.data.toList l).b.toArray⟩ (.slice none 0 0))) ∧ FW w' (.slice vo n vc) (Fs.ans es root.data.toList method.data.toList target.data.toList rest.data.toList l).fs) ∧ Below w.heap.size w w'
/-- What an answer is: a response whose fields are its own. -/
def RP19 (w w' : World) (e : Ending) (r : Fs.Rp) : Prop :=
  (∃ vo n vc, e = .returned (.agg (rpC r.s (.slice vo n vc) ⟨r.b.toArray⟩ (.slice none 0 0))) ∧ r.fs.length = n ∧ w'.ownsRow w.heap.size 42 2 (.slice vo n vc) n (fC r.fs)) ∧ Below w.heap.size w w'
theorem fw_own19 {w : World} {B n : Nat} {v : Value} {l : List Fd} (h : w.ownsRow B 42 2 v n (fC l)) (hl : l.length = n) : FW w v l := by
  subst hl
  exact FW.of_own h
theorem own_upd19 {w w' : World} {B B' n b : Nat} {v : Value} {l : List Fd} (h : w.ownsRow B 42 2 v n (fC l)) (hu : Upd b w w') (hb : b < B) (hB : B' ≤ B) : w'.ownsRow B' 42 2 v n (fC l) :=
  own_base19 (own_same h (fun j hj => hu.block j (fun e => by have := own_ge19 h j hj; omega))) hB
/-- The law's awake. -/
def AwakeC19 : Prop := ∀ w : World, TB19 w → Calls Tryz.prog 10 #[] w fun e w' => e = .returned (.bool true) ∧ Below w.heap.size w w'
theorem fw_nil19 (w : World) : FW w (.slice none 0 0) [] := .inl ⟨rfl, rfl⟩

set_option maxHeartbeats 4000000 in
set_option maxRecDepth 20000 in
theorem filesPlain_any (hP : PlainC19) (hA : AwakeC19) (s : Int) (s0 : -9223372036854775808 ≤ s) (s1 : s ≤ 9223372036854775807) (v : Value) (l : List Fd) (w : World) (h : FW w v l) (hl : l.length ≤ 1048576) (hT : TB19 w) :
    Calls Tryz.prog 3 #[.int .i64 s, v] w fun e w' => e = .returned (.bool true) ∧ Below w.heap.size w w' := by
  obtain ⟨ao, cap, rfl⟩ := h.shape
  have HW := hid' h
  have HT := hid' hT
  have HL := hid' hl
  have HP := hid' (fun W (hW : FW W (.slice ao l.length cap) l) (hT : TB19 W) => hP s (.slice ao l.length cap) l W s0 s1 hW hl hT)
  have HR := hid' (fun W (hW : FW W (.slice ao l.length cap) l) => rplain19 s s0 s1 (.slice ao l.length cap) l W hW hl)
  have HA := hid' hA
  have HZ : Hid ((Fs.fT :: l).length ≤ 140737488355328) := hid' (by rw [List.length_cons]; omega)
  unfold rpC at HP HR
  obtain ⟨n, hn⟩ : ∃ n, l.length = n := ⟨_, rfl⟩
  have HN := hid' hn
  rw [hn] at HP HR HW ⊢
  generalize Fs.bd s = bs at *
  clear hP hA h hT hl s0 s1 hn
  go_enter Tryz.func3, Tryz.ntmps3
  go_wp2_with fail
  refine (HP.out _ HW.out HT.out).mono ?_
  rintro e w1 ⟨⟨vo, k, vc, rfl, hf1⟩, hb1⟩
  have HB1 := hid' hb1
  have HF1 := hid' hf1
  have HT1 : Hid (TB19 w1) := hid' (tb_below19 HT.out hb1)
  clear hb1 hf1
  have HB2 := hid' (below_two HB1.out (bl_alloc19 w1 (.cells #[.int .i64 s, .slice vo k vc, .string ⟨bs.toArray⟩, .slice none 0 0] 24)))
  have HX : Hid (Ar (w1.alloc (.cells #[.int .i64 s, .slice vo k vc, .string ⟨bs.toArray⟩, .slice none 0 0] 24)) w1.heap.size 24 #[.int .i64 s, .slice vo k vc, .string ⟨bs.toArray⟩, .slice none 0 0]) := hid' (heap_alloc_last w1 _)
  have HF2 := hid' (HF1.out.keep (bl_alloc19 w1 (.cells #[.int .i64 s, .slice vo k vc, .string ⟨bs.toArray⟩, .slice none 0 0] 24)))
  go_upto_region 2 with fail
  obtain ⟨xb, hxb⟩ : ∃ xb, w1.heap.size = xb := ⟨_, rfl⟩
  rw [hxb] at HX ⊢
  generalize w1.alloc (.cells #[.int .i64 s, .slice vo k vc, .string ⟨bs.toArray⟩, .slice none 0 0] 24) = w2 at *
  clear hxb HF1 HP
  have sOf : ∀ W, Ar W xb 24 #[.int .i64 s, .slice vo k vc, .string ⟨bs.toArray⟩, .slice none 0 0] → W.cell? ⟨xb, 0, none⟩ = some (.int .i64 s) ∧ W.cell? ⟨xb, 1, none⟩ = some (.slice vo k vc) ∧ W.cell? ⟨xb, 2, none⟩ = some (.string ⟨bs.toArray⟩) ∧ W.cell? ⟨xb, 3, none⟩ = some (.slice none 0 0) := fun W h => ⟨h.cell 0 _ rfl, h.cell 1 _ rfl, h.cell 2 _ rfl, h.cell 3 _ rfl⟩
  have HSO := hid' sOf
  have hS := sOf _ HX.out
  clear sOf
  go_region_held3 (fun W => W.cell? ⟨xb, 0, none⟩ = some (.int .i64 s) ∧ W.cell? ⟨xb, 1, none⟩ = some (.slice vo k vc) ∧ W.cell? ⟨xb, 2, none⟩ = some (.string ⟨bs.toArray⟩) ∧ W.cell? ⟨xb, 3, none⟩ = some (.slice none 0 0)) (first | assumption) (first
    | (go_at_call 9; refine (HR.out _ (HW.out.keep HB2.out.drew)).mono ?_; rintro e wa ⟨⟨uo, uc, rfl, hown⟩, hba⟩; have hba2 : Below w2.heap.size w2 wa := ⟨hba.os, hba.tape, hba.output, hba.size, hba.block⟩; have HBa := hid' (below_two HB2.out hba2); have HXa := hid' (HX.out.keep hba2); have hSa := HSO.out _ HXa.out; have HFa := hid' (HF2.out.keep hba2); have HUa : Hid (FW wa (.slice uo (1 + n) uc) (Fs.fT :: l)) := hid' (FW.of_own (by rw [List.length_cons, HN.out, Nat.add_comm n 1]; exact hown)); clear hba hba2 hown)
    | (go_at_call 8; refine (rsameRes19 s ⟨bs.toArray⟩ (.slice vo k vc) (.slice uo (1 + n) uc) (.slice none 0 0) (.slice none 0 0) (Fs.fT :: l) [] _ HFa.out HUa.out (fw_nil19 _) (fw_nil19 _) HZ.out (by decide)).mono ?_; rintro e wb ⟨rfl, hbb⟩; have HBb := hid' (below_two HBa.out hbb); have HXb := hid' (HXa.out.keep hbb); have hSb := HSO.out _ HXb.out; clear hbb)
    | (go_at_call 10; refine (HA.out _ (tb_below19 HT.out HBb.out)).mono ?_; rintro e wc ⟨rfl, hbc⟩; have HBc := hid' (below_two HBb.out hbc); have HXc := hid' (HXb.out.keep hbc); have hSc := HSO.out _ HXc.out; clear hbc))
  go_wp2
  go_ret
  exact ⟨rfl, HBc.out⟩

end Go.Proofs.YtgbnelglhkfdfaaGreatDoor

namespace Go.Proofs.YtgbnelglhkfdfaaGreatDoor

namespace Fs
def pA : T8 := [47, 119, 47, 97, 46, 116, 120, 116]
def rW : T8 := [47, 119]
def tA : T8 := [47, 102, 47, 97, 46, 116, 120, 116]
def sA : T8 := [97, 46, 116, 120, 116]
def tN : T8 := [47, 102, 47, 110, 111]
def sN : T8 := [110, 111]
def hello : T8 := [104, 101, 108, 108, 111]
def eA (q : Int) : Dk.En := ⟨⟨#[47, 119, 47, 97, 46, 116, 120, 116]⟩, ⟨#[104, 101, 108, 108, 111]⟩, 784111777, q⟩
def fR : Fd := ⟨⟨#[114, 97, 110, 103, 101]⟩, ⟨#[98, 121, 116, 101, 115, 61, 49, 45, 50]⟩⟩
theorem okA (q : Int) : Dk.Ok [eA q] := List.pairwise_singleton _ _
theorem dec_none (l : List Fd) (m : T8) (t : Int) (h1 : Tg.vals l Tg.nIM = []) (h2 : Tg.vals l Tg.nIU = []) (h3 : Tg.vals l Tg.nNM = []) (h4 : Tg.vals l Tg.nMS = []) : Tg.dec true l m t = 0 := by
  have hm : Tg.may l m t = true := by
    unfold Tg.may Tg.dte
    rw [h1, h2]
    rfl
  unfold Tg.dec
  rw [hm, h3]
  unfold Tg.dte
  rw [h4]
  rfl
theorem sam_none (l : List Fd) (m : T8) (t : Int) (h : Tg.vals l Tg.nIR = []) : Tg.sam l m t = true := by
  unfold Tg.sam
  rw [h]
  rfl
theorem getA (q : Int) : Dk.get (name rW sA) [eA q] = some (eA q) := (Dk.get_some (okA q)).2 ⟨List.mem_singleton.2 rfl, rfl⟩
theorem awA (q : Int) : ans [eA q] rW mGET tA sA [] = ⟨200, head (kind pA) (eA q), hello⟩ := by
  unfold ans ansOf
  rw [getA]
  simp only []
  rw [dec_none [] _ _ rfl rfl rfl rfl]
  unfold part
  rw [sam_none [] _ _ rfl]
  rfl
theorem awB (q : Int) : ∃ fs, ans [eA q] rW mGET tA sA [fR] = ⟨206, fs, [101, 108]⟩ ∧ fs.length = 5 := by
  unfold ans ansOf
  rw [getA]
  simp only []
  have v (nm : T8) (h : (nRG == nm) = false) : Tg.vals [fR] nm = [] := by
    unfold Tg.vals
    rw [List.filter_cons_of_neg (by rw [show fR.n.data.toList = nRG from rfl, h]; decide)]
    rfl
  rw [dec_none [fR] _ _ (v _ (by decide)) (v _ (by decide)) (v _ (by decide)) (v _ (by decide))]
  unfold part
  rw [sam_none [fR] _ _ (v _ (by decide))]
  have e0 : Tg.vals [fR] nRG = [[98, 121, 116, 101, 115, 61, 49, 45, 50]] := by decide
  have e1 : Rg.err [98, 121, 116, 101, 115, 61, 49, 45, 50] (eA q).body.size = 0 := by
    rw [show (((eA q).body.size : Nat) : Int) = 5 from rfl]; decide +kernel
  have e2 : Rg.res [98, 121, 116, 101, 115, 61, 49, 45, 50] (eA q).body.size = [⟨1, 2⟩] := by
    rw [show (((eA q).body.size : Nat) : Int) = 5 from rfl]; rfl
  rw [show (mGET == mGET && true) = true from rfl, if_pos rfl, e0]
  simp only [rgd, e1, e2]
  exact ⟨_, rfl, rfl⟩
theorem awC (q : Int) : ans [eA q] rW mGET tN sN [] = plain 404 [] := by
  unfold ans ansOf
  have h : Dk.get (name rW sN) [eA q] = none := Dk.get_none (by unfold Dk.has; rw [show Dk.ks [eA q] = [pA] from rfl]; decide)
  rw [h]
  have h2 : (!(Dk.lst (name rW sN ++ [47]) [eA q]).isEmpty) = false := by rfl
  rw [h2]
  rfl
end Fs
end Go.Proofs.YtgbnelglhkfdfaaGreatDoor
