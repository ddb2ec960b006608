/-
  What the row stands on.
-/
import Derived.Maps.Keyed
import Derived.Maps.OwnSet
import Derived.Maps.RangeRun
import Derived.Test.YthhpejgpfaikaabGreatDoorPqAA
import Derived.Shelf.SlMaps.Clone
import Derived.Shelf.SlGeneric
import Derived.Ground.SlmcProg
import Derived.Deep.RegionWith
import Derived.BigRegion
import Derived.Laws.MakeOwn
import Derived.Laws.StructEq
import Derived.Test.YthhpejgpfaikaabGreatDoorProg
import Derived.Deep.Slices
import Derived.Deep.Strs
import Derived.SizedLaws
import Derived.RowKit
import Derived.ProofKit
import Derived.OpenShut
import Derived.Lib.Strings
import Derived.Test.YthhpejgpfaikaabGreatDoorPqAH
import Derived.Test.YthhpejgpfaikaabGreatDoorPqAN
import Derived.Test.YthhpejgpfaikaabGreatDoorPqAB
import Derived.Test.YthhpejgpfaikaabGreatDoorPqAI
import Derived.Test.YthhpejgpfaikaabGreatDoorPqAM
import Derived.Test.YthhpejgpfaikaabGreatDoorShelfP
import Derived.Test.YthhpejgpfaikaabGreatDoorShSort
namespace Go.Proofs.YthhpejgpfaikaabGreatDoor
set_option maxHeartbeats 64000000
open Go.RowKit Go.MapKept
open Go.ChangeMaps (setBlock heap_setBlock_same heap_setBlock_other modify_eq_set)

section
variable {κ α : Type} {kv : κ → Value} {vv : α → Value}

structure Mp (kv : κ → Value) (vv : α → Value) (w : World) (b : Nat) (f : κ → Option α) (n : Nat) (es : Array MapEntry) (clock : Nat) : Prop where
 hd : w.heap[b]? = some (.map es clock)
 sz : es.size = n
 all : ∀ e ∈ es.toList, ∃ k x, e.key = kv k ∧ e.val = vv x ∧ f k = some x
 nd : es.toList.Pairwise (fun x y => x.key ≠ y.key)
 has : ∀ k x, f k = some x → ∃ e ∈ es.toList, e.key = kv k
 st : ∀ e ∈ es.toList, e.born < clock
 nb : (es.toList.map (·.born)).Nodup
structure Ky (P : Program) (kt : TypeId) (kv : κ → Value) (d : TypeDesc) : Prop where
 ty : P.underlying kt = some d
 is : ∀ k, IsKey d (kv k)
 inj : ∀ a b, kv a = kv b → a = b

variable {P : Program} {kt et t : TypeId} {d : TypeDesc} {w : World} {b n : Nat} {f : κ → Option α} {es : Array MapEntry} {clock : Nat}
theorem Mp.lt (h : Mp kv vv w b f n es clock) : b < w.heap.size := (Array.getElem?_eq_some_iff.1 h.hd).1
theorem Mp.val (K : Ky P kt kv d) (h : Mp kv vv w b f n es clock) {e : MapEntry} (he : e ∈ es.toList) {k : κ} (hk : e.key = kv k) : ∃ x, f k = some x ∧ e.val = vv x := by
 obtain ⟨k', x, h1, h2, h3⟩ := h.all e he;obtain rfl := K.inj _ _ (h1.symm.trans hk);exact ⟨x, h3, h2⟩
theorem Mp.find (K : Ky P kt kv d) (h : Mp kv vv w b f n es clock) (k : κ) :
  (f k = none ∧ (∀ W : World, (Instr.findKey kt (kv k) es.toList).run P W = .ok none W) ∧ ∀ e ∈ es.toList, e.key ≠ kv k) ∨
  ∃ x j e, f k = some x ∧ (∀ W : World, (Instr.findKey kt (kv k) es.toList).run P W = .ok (some (j, vv x)) W) ∧ es.toList[j]? = some e ∧ e.key = kv k := by
 have hks : ∀ y ∈ es.toList, IsKey d y.key := fun y hy => by
  obtain ⟨k', x, h1, _⟩ := h.all y hy;rw [h1]; exact K.is k'
 rcases findNow_spec (K.is k) es.toList 0 hks with ⟨h1, h2⟩ | ⟨j, e, h1, h2, h3⟩
 ·refine .inl ⟨?_, fun W => run_findKey K.ty h1, h2⟩;cases hf : f k with
  | none => rfl
  | some x =>
   obtain ⟨e, he, hk⟩ := h.has k x hf;exact absurd hk (h2 e he)
 ·obtain ⟨x, hx, hv⟩ := h.val K (List.mem_of_getElem? h2) h3;rw [hv] at h1;exact .inr ⟨x, j, e, hx, fun W => by simpa using run_findKey (w := W) K.ty h1, h2, h3⟩
theorem Mp.look_no (K : Ky P kt kv d) (h : Mp kv vv w b f n es clock) (ht : P.underlying t = some (.map kt et)) {z : Value} (hz : ∀ W : World, (zeroValue et).run P W = .ok z W) (c : Bool) {k : κ} (hk : f k = none) :
  (Instr.lookup t (.map (some b)) (kv k) c).run P w = .ok (if c = true then .tuple #[z, .bool false] else z) w := by
 rcases h.find K k with ⟨_, h1, _⟩ | ⟨x, _, _, h1, _⟩
 ·simp [Instr.lookup, run_underlying ht, MapKept.run_getObj_map h.hd, run_checkKey K.ty (K.is k) _ 9999, h1, hz, Result.andThen]
 ·rw [hk] at h1; cases h1
theorem Mp.look_yes (K : Ky P kt kv d) (h : Mp kv vv w b f n es clock) (ht : P.underlying t = some (.map kt et)) (c : Bool) {k : κ} {x : α} (hk : f k = some x) :
  (Instr.lookup t (.map (some b)) (kv k) c).run P w = .ok (if c = true then .tuple #[vv x, .bool true] else vv x) w := by
 rcases h.find K k with ⟨h0, _⟩ | ⟨x', j, e, h0, h1, _⟩
 ·rw [hk] at h0; cases h0
 ·rw [hk] at h0;injection h0 with h0;subst h0;simp [Instr.lookup, run_underlying ht, MapKept.run_getObj_map h.hd, run_checkKey K.ty (K.is k) _ 9999, h1, Result.andThen]
theorem Mp.len (h : Mp kv vv w b f n es clock) (ht : P.underlying t = some (.map kt et)) (ty : TypeId) : (Builtin.len_ #[t] ty #[.map (some b)]).run P w = .ok (.int .i64 (n : Int)) w := by
 simp [Builtin.len_, run_underlying ht, MapKept.run_getObj_map h.hd, goInt, Result.andThen, h.sz]
theorem Mp.other {w' : World} (h : Mp kv vv w b f n es clock) (hb : w'.heap[b]? = w.heap[b]?) : Mp kv vv w' b f n es clock := ⟨hb.trans h.hd, h.sz, h.all, h.nd, h.has, h.st, h.nb⟩

theorem Mp.made (w : World) (kv : κ → Value) (vv : α → Value) : Mp kv vv (w.alloc (.map #[] 0)) w.heap.size (fun _ => none) 0 #[] 0 :=
 ⟨(MapKept.heap_alloc w _).1, rfl, fun e he => by simp at he, by simp, (fun k x h => by cases h), (fun e he => by simp at he), by simp⟩
variable [DecidableEq κ]
def mput (f : κ → Option α) (k : κ) (x : α) : κ → Option α := fun k' => if k' = k then some x else f k'
def mdel (f : κ → Option α) (k : κ) : κ → Option α := fun k' => if k' = k then none else f k'
theorem Mp.store (K : Ky P kt kv d) (h : Mp kv vv w b f n es clock) (ht : P.underlying t = some (.map kt et)) (k : κ) (x : α) :
  ∃ es' clock', (Instr.mapUpdate t (.map (some b)) (kv k) (vv x)).run P w = .ok () (setBlock w b (.map es' clock')) ∧ Mp kv vv (setBlock w b (.map es' clock')) b (mput f k x) (if (f k).isSome = true then n else n + 1) es' clock' := by
 rcases h.find K k with ⟨h0, h1, h2⟩ | ⟨x', j, e0, h0, h1, h2, h3⟩
 ·refine ⟨es.push ⟨kv k, vv x, clock⟩, clock + 1, ?_, heap_setBlock_same h.hd _, by simp [h.sz, h0], ?_, ?_, ?_, ?_, ?_⟩
  ·simp [Instr.mapUpdate, run_underlying ht, MapKept.run_getObj_map h.hd, run_checkKey K.ty (K.is k) _ 9999, h1, run_setObj_map _ h.hd, Result.andThen, setBlock]
  ·intro e he;simp only [Array.toList_push, List.mem_append, List.mem_singleton] at he;rcases he with he | rfl
   ·obtain ⟨k', x', e1, e2, e3⟩ := h.all e he;refine ⟨k', x', e1, e2, ?_⟩;unfold mput;rw [if_neg (fun ek => h2 e he (by rw [e1, ek]))];exact e3
   ·exact ⟨k, x, rfl, rfl, by simp [mput]⟩
  ·rw [Array.toList_push];refine List.pairwise_append.2 ⟨h.nd, by simp, ?_⟩;intro a ha c hc;obtain rfl : c = _ := by simpa using hc
   exact h2 a ha
  ·intro k' x' hk';simp only [Array.toList_push, List.mem_append, List.mem_singleton];unfold mput at hk';by_cases e : k' = k
   ·subst e; exact ⟨_, .inr rfl, rfl⟩
   ·rw [if_neg e] at hk';obtain ⟨e', he', hk2⟩ := h.has k' x' hk';exact ⟨e', .inl he', hk2⟩
  ·intro e he;simp only [Array.toList_push, List.mem_append, List.mem_singleton] at he;rcases he with he | rfl
   ·have := h.st e he; omega
   ·exact Nat.lt_succ_self _
  ·rw [Array.toList_push, List.map_append, List.nodup_append];refine ⟨h.nb, by simp, ?_⟩;intro a ha b hb;obtain ⟨e, he, rfl⟩ := List.mem_map.1 ha;simp only [List.map_cons, List.map_nil, List.mem_singleton] at hb;subst hb;have := h.st e he;omega
 ·have hj : es[j]? = some e0 := by simpa using h2
  have hjl : j < es.toList.length := (List.getElem?_eq_some_iff.1 h2).1;have hlist : (es.modify j (fun e' => { e' with key := kv k, val := vv x })).toList = es.toList.set j { e0 with key := kv k, val := vv x } := by rw [Array.toList_modify, modify_eq_set _ _ _ _ h2]
  have other : ∀ i e, es.toList[i]? = some e → i ≠ j → e.key ≠ kv k := by
   intro i e hi hne hk;have hp := List.pairwise_iff_getElem.1 h.nd;obtain ⟨a1, a2⟩ := List.getElem?_eq_some_iff.1 hi;obtain ⟨b1, b2⟩ := List.getElem?_eq_some_iff.1 h2;rcases Nat.lt_or_gt_of_ne hne with hlt | hlt
   ·have := hp i j a1 b1 hlt;rw [a2, b2, hk, h3] at this;exact this rfl
   ·have := hp j i b1 a1 hlt;rw [a2, b2, hk, h3] at this;exact this rfl
  refine ⟨es.modify j (fun e' => { e' with key := kv k, val := vv x }), clock, ?_, heap_setBlock_same h.hd _, by simp [h.sz, h0], ?_, ?_, ?_, ?_, ?_⟩
  ·simp [Instr.mapUpdate, run_underlying ht, MapKept.run_getObj_map h.hd, run_checkKey K.ty (K.is k) _ 9999, h1, hj, h3, run_keyThatStays (K.is k), run_setObj_map _ h.hd, Result.andThen, setBlock]
  ·intro e he;rw [hlist] at he;obtain ⟨i, hi⟩ := List.getElem?_of_mem he;rw [List.getElem?_set] at hi;split at hi
   ·injection hi with hi;subst hi;exact ⟨k, x, rfl, rfl, by simp [mput]⟩
   ·rename_i hne;obtain ⟨k', x', e1, e2, e3⟩ := h.all e (List.mem_of_getElem? hi);refine ⟨k', x', e1, e2, ?_⟩;unfold mput;rw [if_neg (fun ek => other i e hi (fun e => hne e.symm) (by rw [e1, ek]))];exact e3
  ·rw [hlist, List.pairwise_iff_getElem];intro i i' hi hi' hlt;rw [List.length_set] at hi hi';rw [List.getElem_set, List.getElem_set];split
   ·rename_i e1;rw [if_neg (by omega)];simp only;exact fun e => other i' _ (List.getElem?_eq_getElem hi') (by omega) e.symm
   ·split
    ·rename_i e1 e2;simp only;exact other i _ (List.getElem?_eq_getElem hi) (by omega)
    ·exact List.pairwise_iff_getElem.1 h.nd i i' hi hi' hlt
  ·intro k' x'' hk';rw [hlist];unfold mput at hk';by_cases e : k' = k
   ·subst e;exact ⟨{ e0 with key := kv k', val := vv x }, List.mem_iff_getElem.2 ⟨j, by simpa using hjl, by simp⟩, rfl⟩
   ·rw [if_neg e] at hk';obtain ⟨e', he', hk2⟩ := h.has k' x'' hk';obtain ⟨i, hi⟩ := List.getElem?_of_mem he';refine ⟨e', List.mem_of_getElem? (i := i) ?_, hk2⟩;rw [List.getElem?_set_ne]
    ·exact hi
    ·rintro rfl;rw [h2] at hi;injection hi with hi;subst hi;exact e (K.inj _ _ (hk2.symm.trans h3))
  ·intro e he;rw [hlist] at he;rcases List.mem_or_eq_of_mem_set he with he | rfl
   ·exact h.st e he
   ·exact h.st e0 (List.mem_of_getElem? h2)
  ·rw [hlist, List.map_set];have hq : (es.toList.map (·.born)).set j e0.born = es.toList.map (·.born) := by
    apply List.ext_getElem?;intro i;rw [List.getElem?_set];split
    ·rename_i hij;subst hij;rw [List.getElem?_map, h2];simp only [Option.map_some, List.length_map, if_pos hjl]
    ·rfl
   show ((es.toList.map (·.born)).set j e0.born).Nodup;rw [hq];exact h.nb
theorem Mp.drop (K : Ky P kt kv d) (h : Mp kv vv w b f n es clock) (ht : P.underlying t = some (.map kt et)) (k : κ) (ty : TypeId) :
  ∃ es', (Builtin.delete_ #[t, kt] ty #[.map (some b), kv k]).run P w = .ok (.tuple #[]) (setBlock w b (.map es' clock)) ∧ Mp kv vv (setBlock w b (.map es' clock)) b (mdel f k) (if (f k).isSome = true then n - 1 else n) es' clock := by
 rcases h.find K k with ⟨h0, h1, h2⟩ | ⟨x', j, e0, h0, h1, h2, h3⟩
 ·refine ⟨es, ?_, heap_setBlock_same h.hd _, by simp [h.sz, h0], ?_, h.nd, ?_, h.st, h.nb⟩
  ·simp [Builtin.delete_, run_underlying ht, MapKept.run_getObj_map h.hd, run_checkKey K.ty (K.is k) _ 9999, h1, run_setObj_map _ h.hd, Result.andThen, setBlock]
  ·intro e he;obtain ⟨k', x', e1, e2, e3⟩ := h.all e he;refine ⟨k', x', e1, e2, ?_⟩;unfold mdel;rw [if_neg (fun ek => h2 e he (by rw [e1, ek]))];exact e3
  ·intro k' x' hk';unfold mdel at hk';by_cases e : k' = k
   ·rw [if_pos e] at hk'; cases hk'
   ·rw [if_neg e] at hk'; exact h.has k' x' hk'
 ·have hjl : j < es.toList.length := (List.getElem?_eq_some_iff.1 h2).1;have hjs : j < es.size := by simpa using hjl
  have hsub : (es.eraseIdxIfInBounds j).toList = es.toList.eraseIdx j := by
   unfold Array.eraseIdxIfInBounds;rw [dif_pos hjs];simp
  have hsz : (es.eraseIdxIfInBounds j).size = es.size - 1 := by
   rw [← Array.length_toList, hsub, List.length_eraseIdx, if_pos hjl, Array.length_toList]
  have other : ∀ i e, es.toList[i]? = some e → i ≠ j → e.key ≠ kv k := by
   intro i e hi hne hk;have hp := List.pairwise_iff_getElem.1 h.nd;obtain ⟨a1, a2⟩ := List.getElem?_eq_some_iff.1 hi;obtain ⟨b1, b2⟩ := List.getElem?_eq_some_iff.1 h2;rcases Nat.lt_or_gt_of_ne hne with hlt | hlt
   ·have := hp i j a1 b1 hlt;rw [a2, b2, hk, h3] at this;exact this rfl
   ·have := hp j i b1 a1 hlt;rw [a2, b2, hk, h3] at this;exact this rfl
  refine ⟨es.eraseIdxIfInBounds j, ?_, heap_setBlock_same h.hd _, by simp [hsz, h.sz, h0], ?_, ?_, ?_, ?_, ?_⟩
  ·simp [Builtin.delete_, run_underlying ht, MapKept.run_getObj_map h.hd, run_checkKey K.ty (K.is k) _ 9999, h1, run_setObj_map _ h.hd, Result.andThen, setBlock]
  ·intro e he;rw [hsub] at he;obtain ⟨i, hne, hi⟩ := List.mem_eraseIdx_iff_getElem?.1 he;obtain ⟨k', x', e1, e2, e3⟩ := h.all e (List.mem_of_getElem? hi);refine ⟨k', x', e1, e2, ?_⟩;unfold mdel;rw [if_neg (fun ek => other i e hi hne (by rw [e1, ek]))];exact e3
  ·rw [hsub]; exact h.nd.sublist (List.eraseIdx_sublist _ _)
  ·intro k' x'' hk';unfold mdel at hk';by_cases e : k' = k
   ·rw [if_pos e] at hk'; cases hk'
   ·rw [if_neg e] at hk';obtain ⟨e', he', hk2⟩ := h.has k' x'' hk';obtain ⟨i, hi⟩ := List.getElem?_of_mem he';refine ⟨e', ?_, hk2⟩;rw [hsub];refine List.mem_eraseIdx_iff_getElem?.2 ⟨i, ?_, hi⟩;rintro rfl;rw [h2] at hi;injection hi with hi;subst hi;exact e (K.inj _ _ (hk2.symm.trans h3))
  ·intro e he;rw [hsub] at he;exact h.st e ((List.eraseIdx_sublist _ _).subset he)
  ·rw [hsub];exact h.nb.sublist ((List.eraseIdx_sublist _ _).map _)
end

open Go.RowKit
open Go.ChangeMaps (setBlock heap_setBlock_same heap_setBlock_other)

def pk (k : ByteArray) : Value := .string k
def fk (e : Dk.En) : Value := .agg #[.string e.body, .int .i64 e.time, .int .i64 e.seq]
theorem ky : Ky Tryz.prog 9 pk .string := ⟨Tryz.underlying9, fun _ => trivial, fun a b h => by unfold pk at h; injection h⟩
theorem zeroF (W : World) : (zeroValue 66).run Tryz.prog W = .ok (.agg #[.string ⟨#[]⟩, .int .i64 0, .int .i64 0]) W := by kernel_rfl
theorem utm : Tryz.prog.underlying 70 = some (.map 9 66) := Tryz.underlying70
def fg (es : List Dk.En) (k : ByteArray) : Option Dk.En := Dk.get k.data.toList es
theorem ba_ext {a b : ByteArray} (h : a.data.toList = b.data.toList) : a = b := by
 apply ByteArray.ext;exact Array.toList_inj.1 h
structure CX (T : TypeId) (w : World) (B b m : Nat) (q : Int) (es : List Dk.En) (E : Array MapEntry) (clock : Nat) : Prop where
 lo : B ≤ b
 lm : B ≤ m
 hd : Ar w b T #[.map (some m), .int .i64 q]
 mp : Mp pk fk w m (fg es) es.length E clock
 ok : Dk.Ok es
 le : es.length ≤ 1024
def CD (w : World) (B b : Nat) (K : Nat → Prop) (q : Int) (es : List Dk.En) : Prop := ∃ m E clock, CX 73 w B b m q es E clock ∧ ∀ k, K k ↔ k = b ∨ k = m
def CS (w : World) (B b : Nat) (K : Nat → Prop) (q : Int) (es : List Dk.En) : Prop := ∃ m E clock, CX 74 w B b m q es E clock ∧ ∀ k, K k ↔ k = b ∨ k = m
theorem CX.same {T : TypeId} {w w' : World} {B b m : Nat} {q : Int} {es : List Dk.En} {E : Array MapEntry} {clock : Nat} (h : CX T w B b m q es E clock) (h1 : w'.heap[b]? = w.heap[b]?) (h2 : w'.heap[m]? = w.heap[m]?) : CX T w' B b m q es E clock :=
 ⟨h.lo, h.lm, by have := h.hd; unfold Ar at *; rw [h1]; exact this, h.mp.other h2, h.ok, h.le⟩
theorem CX.keep {T : TypeId} {w w' : World} {B b m : Nat} {q : Int} {es : List Dk.En} {E : Array MapEntry} {clock : Nat} (h : CX T w B b m q es E clock) (hb : Below w.heap.size w w') : CX T w' B b m q es E clock :=
 h.same (hb.block b h.hd.lt) (hb.block m h.mp.lt)
theorem CX.apart {T : TypeId} {w : World} {B b m : Nat} {q : Int} {es : List Dk.En} {E : Array MapEntry} {clock : Nat} (h : CX T w B b m q es E clock) : b ≠ m := by
 rintro rfl;have h1 := h.hd;unfold Ar at h1;rw [h.mp.hd] at h1;cases h1
theorem CD.lt {w : World} {B b : Nat} {K : Nat → Prop} {q : Int} {es : List Dk.En} (h : CD w B b K q es) : ∀ k, K k → B ≤ k ∧ k < w.heap.size := by
 obtain ⟨m, E, clock, h, hk⟩ := h;intro k hK;rcases (hk k).1 hK with rfl | rfl
 ·exact ⟨h.lo, h.hd.lt⟩
 ·exact ⟨h.lm, h.mp.lt⟩
theorem CS.lt {w : World} {B b : Nat} {K : Nat → Prop} {q : Int} {es : List Dk.En} (h : CS w B b K q es) : ∀ k, K k → B ≤ k ∧ k < w.heap.size := by
 obtain ⟨m, E, clock, h, hk⟩ := h;intro k hK;rcases (hk k).1 hK with rfl | rfl
 ·exact ⟨h.lo, h.hd.lt⟩
 ·exact ⟨h.lm, h.mp.lt⟩
theorem CD.lb {w : World} {B b : Nat} {K : Nat → Prop} {q : Int} {es : List Dk.En} (h : CD w B b K q es) : B ≤ w.heap.size := by
 obtain ⟨m, E, clock, h, hk⟩ := h;have h1 := h.lo;have h2 := h.hd.lt;omega
theorem CD.ok {w : World} {B b : Nat} {K : Nat → Prop} {q : Int} {es : List Dk.En} (h : CD w B b K q es) : Dk.Ok es ∧ es.length ≤ 1024 := by
 obtain ⟨m, E, clock, h, hk⟩ := h;exact ⟨h.ok, h.le⟩
theorem CS.ok {w : World} {B b : Nat} {K : Nat → Prop} {q : Int} {es : List Dk.En} (h : CS w B b K q es) : Dk.Ok es ∧ es.length ≤ 1024 := by
 obtain ⟨m, E, clock, h, hk⟩ := h;exact ⟨h.ok, h.le⟩
theorem CD.other {S K : Nat → Prop} {w w' : World} {B b : Nat} {q : Int} {es : List Dk.En} (h : CD w B b K q es) (hf : LF S w w') (hs : ∀ k, K k → ¬ S k) : CD w' B b K q es := by
 obtain ⟨m, E, clock, h, hk⟩ := h;exact ⟨m, E, clock, h.same (hf.block b h.hd.lt (hs b ((hk b).2 (.inl rfl)))) (hf.block m h.mp.lt (hs m ((hk m).2 (.inr rfl)))), hk⟩
theorem CS.other {S K : Nat → Prop} {w w' : World} {B b : Nat} {q : Int} {es : List Dk.En} (h : CS w B b K q es) (hf : LF S w w') (hs : ∀ k, K k → ¬ S k) : CS w' B b K q es := by
 obtain ⟨m, E, clock, h, hk⟩ := h;exact ⟨m, E, clock, h.same (hf.block b h.hd.lt (hs b ((hk b).2 (.inl rfl)))) (hf.block m h.mp.lt (hs m ((hk m).2 (.inr rfl)))), hk⟩
theorem CX.ty {X : TypeId} {w : World} {B b m : Nat} {q : Int} {es : List Dk.En} {E : Array MapEntry} {clock : Nat} (h : CX X w B b m q es E clock) {k : Nat} {T : TypeId} {cs : Array Value} (hk : k = b ∨ k = m) (hc : w.heap[k]? = some (.cells cs T (0, 0))) : T = X := by
 rcases hk with rfl | rfl
 ·have h1 := h.hd;unfold Ar at h1;rw [hc] at h1;injection h1 with h1;injection h1
 ·rw [h.mp.hd] at hc;cases hc

theorem CX.look {T : TypeId} {w : World} {B b m : Nat} {q : Int} {es : List Dk.En} {E : Array MapEntry} {clock : Nat} (h : CX T w B b m q es E clock) (x : ByteArray) :
  (Instr.lookup 70 (.map (some m)) (.string x) true).run Tryz.prog w = .ok (.tuple #[fileV (Dk.get x.data.toList es), .bool (Dk.has x.data.toList es)]) w := by
 cases hg : Dk.get x.data.toList es with
 | none =>
  have := h.mp.look_no ky utm zeroF true (k := x) hg;rw [Dk.get_has h.ok, hg];simpa [pk, fileV] using this
 | some e =>
  have := h.mp.look_yes ky utm true (k := x) hg;rw [Dk.get_has h.ok, hg];simpa [pk, fileV, fk] using this
theorem fileV_sh (o : Option Dk.En) : ∃ y i j, fileV o = .agg #[.string y, .int .i64 i, .int .i64 j] := by
 cases o with
 | none => exact ⟨_, _, _, rfl⟩
 | some e => exact ⟨_, _, _, rfl⟩

theorem cnew13 (w : World) : Calls Tryz.prog 16 #[] w fun e w' => (∃ b K, e = .returned (.pointer (some ⟨b, 0, none⟩)) ∧ CD w' w.heap.size b K 0 []) ∧ Below w.heap.size w w' := by
 have hmm : ∀ W : World, (Instr.makeMap 70 none).run Tryz.prog W = .ok (.map (some W.heap.size)) (W.alloc (.map #[] 0)) := fun _ => rfl;go_enter Tryz.func16, Tryz.ntmps16;go_wp2_with (refine wpl_box 73 _ rfl rfl #[.map (some w.heap.size), .int .i64 0] (by kernel_rfl) ?_);intro b w1 hb ha hbl;have hm := Mp.made w pk fk;have hm1 := hm.other (w' := w1) (hbl.block _ (Nat.lt_succ_self _));have HB := hid' hb;have HA := hid' ha;have HM := hid' hm1;have HBL : Hid (Below w.heap.size w w1) := hid' (below_two ((Below.refl _ _).alloc (Nat.le_refl _) _) (by simpa using hbl));have HS : Hid (w.heap.size ≤ b) := hid' (by omega);clear hb ha hbl hm hm1 hmm;go_wp2;go_ret;exact ⟨⟨b, fun k => k = b ∨ k = w.heap.size, rfl, ⟨_, _, _, ⟨HS.out, Nat.le_refl _, HA.out, HM.out, List.Pairwise.nil, by simp⟩, fun _ => Iff.rfl⟩⟩, HBL.out⟩

theorem chas13 {B b m : Nat} {q : Int} {es : List Dk.En} {E : Array MapEntry} {clock : Nat} (x : ByteArray) (r : Bool) (hr : Dk.has x.data.toList es = r) (w : World) (h : CX 73 w B b m q es E clock) :
  Calls Tryz.prog 30 #[.pointer (some ⟨b, 0, none⟩), .string x] w fun e w' => e = .returned (.bool r) ∧ Below w.heap.size w w' := by
 have hlk := h.look x;have c0 := h.hd.cell 0 _ rfl;rw [hr] at hlk;obtain ⟨y, i, j, hf⟩ := fileV_sh (Dk.get x.data.toList es);rw [hf] at hlk;clear h hf hr;go_enter Tryz.func30, Tryz.ntmps30;go_wp2;go_ret;exact ⟨rfl, (Below.refl _ _).alloc (Nat.le_refl _) _⟩


def TB19 (w : World) : Prop := TB16 w
theorem tb_below19 {w w' : World} (h : TB19 w) (hb : Below w.heap.size w w') : TB19 w' := TB16.keep h hb
structure EN19 (e : Dk.En) : Prop where
 b : e.body.size ≤ 65536
 t0 : 0 ≤ e.time
 t1 : e.time ≤ 253402300799
 q0 : 0 ≤ e.seq
 q1 : e.seq ≤ 9223372036854775807
def RP19 (w w' : World) (e : Ending) (r : Fs.Rp) : Prop :=
 (∃ vo n vc, e = .returned (.agg (rpC r.s (.slice vo n vc) ⟨r.b.toArray⟩ (.slice none 0 0))) ∧ r.fs.length = n ∧ w'.ownsRow w.heap.size 44 2 (.slice vo n vc) n (fC r.fs)) ∧ Below w.heap.size w w'
theorem fw_own19 {w : World} {B n : Nat} {v : Value} {l : List Fd} (h : w.ownsRow B 44 2 v n (fC l)) (hl : l.length = n) : FW w v l := by
 subst hl;exact FW.of_own h
theorem own_upd19 {w w' : World} {B B' n b : Nat} {v : Value} {l : List Fd} (h : w.ownsRow B 44 2 v n (fC l)) (hu : Upd b w w') (hb : b < B) (hB : B' ≤ B) : w'.ownsRow B' 44 2 v n (fC l) :=
 own_base19 (own_same h (fun j hj => hu.block j (fun e => by have := own_ge19 h j hj; omega))) hB

theorem fw_nil19 (w : World) : FW w (.slice none 0 0) [] := .inl ⟨rfl, rfl⟩


def En19At (w : World) (p : Addr) (e : Dk.En) : Prop :=
 w.cell? p = some (.string e.path) ∧ w.cell? ⟨p.block, p.off + 1, none⟩ = some (.string e.body) ∧ w.cell? ⟨p.block, p.off + 2, none⟩ = some (.int .i64 e.time) ∧ w.cell? ⟨p.block, p.off + 3, none⟩ = some (.int .i64 e.seq)
def EW19 (w : World) (v : Value) (l : List Dk.En) : Prop :=
 (v = .slice none 0 0 ∧ l = []) ∨ ∃ a cap, v = .slice (some a) l.length cap ∧ ∀ i e, l[i]? = some e → (a.add (i * 4)).block < w.heap.size ∧ En19At w (a.add (i * 4)) e
theorem EW19.shape {w : World} {v : Value} {l : List Dk.En} (h : EW19 w v l) : ∃ ao cap, v = .slice ao l.length cap := by
 rcases h with ⟨h, rfl⟩ | ⟨a, cap, h, _⟩
 ·exact ⟨none, 0, h⟩
 ·exact ⟨some a, cap, h⟩
theorem EW19.at {w w' : World} {ao : Option Addr} {n cap : Nat} {l : List Dk.En} (h : EW19 w (.slice ao n cap) l) (hb : Below w.heap.size w w') (i : Nat) (e : Dk.En) (he : l[i]? = some e) : ∃ a, ao = some a ∧ En19At w' (a.add (i * 4)) e := by
 rcases h with ⟨_, rfl⟩ | ⟨a, cap', hv, hcs⟩
 ·simp at he
 ·injection hv with h1 _ _;obtain ⟨hl, c0, c1, c2, c3⟩ := hcs i e he;refine ⟨a, h1, (hb.cell hl).trans c0, (hb.cell (p := ⟨(a.add (i * 4)).block, (a.add (i * 4)).off + 1, none⟩) hl).trans c1, (hb.cell (p := ⟨(a.add (i * 4)).block, (a.add (i * 4)).off + 2, none⟩) hl).trans c2, (hb.cell (p := ⟨(a.add (i * 4)).block, (a.add (i * 4)).off + 3, none⟩) hl).trans c3⟩

namespace Fs
def pA : T8 := [47, 119, 47, 97, 46, 116, 120, 116]
def rW : T8 := [47, 119]
def tA : T8 := [47, 102, 47, 97, 46, 116, 120, 116]
def sA : T8 := [97, 46, 116, 120, 116]
def hello : T8 := [104, 101, 108, 108, 111]
theorem dec_none (l : List Fd) (m : T8) (t : Int) (h1 : Tg.vals l Tg.nIM = []) (h2 : Tg.vals l Tg.nIU = []) (h3 : Tg.vals l Tg.nNM = []) (h4 : Tg.vals l Tg.nMS = []) : Tg.dec true l m t = 0 := by
 have hm : Tg.may l m t = true := by
  unfold Tg.may Tg.dte;rw [h1, h2];rfl
 unfold Tg.dec;rw [hm, h3];unfold Tg.dte;rw [h4];rfl
theorem sam_none (l : List Fd) (m : T8) (t : Int) (h : Tg.vals l Tg.nIR = []) : Tg.sam l m t = true := by
 unfold Tg.sam;rw [h];rfl
end Fs

open Go.RowKit Go.Sort

def en0 : Dk.En := ⟨⟨#[]⟩, ⟨#[]⟩, 0, 0⟩
def cfP (x y : Dk.En) : Int := Lib.compareBytes (Dk.key x) (Dk.key y)
theorem cmp_lt : ∀ (a b : List UInt8), Lib.compareBytes a b < 0 ↔ a < b
 | [], [] => by simp [Lib.compareBytes, List.not_lt_nil]
 | [], c :: b => by simp [Lib.compareBytes, List.nil_lt_cons]
 | c :: a, [] => by simp [Lib.compareBytes, List.not_lt_nil]
 | c :: a, d :: b => by
  have ih := cmp_lt a b;rw [List.cons_lt_cons_iff];simp only [Lib.compareBytes];by_cases h1 : c < d
  ·rw [if_pos h1];exact ⟨fun _ => .inl h1, fun _ => by decide⟩
  ·rw [if_neg h1];by_cases h2 : d < c
   ·rw [if_pos h2];refine ⟨fun h => absurd h (by decide), ?_⟩;rintro (h | ⟨h, _⟩)
    ·exact absurd h h1
    ·rw [h] at h2; exact absurd h2 (UInt8.lt_irrefl _)
   ·rw [if_neg h2, ih];have h3 : c = d := UInt8.le_antisymm (UInt8.not_lt.1 h2) (UInt8.not_lt.1 h1);refine ⟨fun h => .inr ⟨h3, h⟩, ?_⟩;rintro (h | ⟨_, h⟩)
    ·exact absurd h h1
    ·exact h
theorem lt_cf (x y : Dk.En) : ltOf cfP x y = decide (Dk.key x < Dk.key y) := by
 unfold ltOf cfP;exact decide_eq_decide.2 (cmp_lt _ _)
theorem swoP : SWO (ltOf cfP) := ⟨fun x => by rw [lt_cf]; exact decide_eq_false (Dk.lt_irrefl _),
 fun x y z h1 h2 => by rw [lt_cf] at *; exact decide_eq_true (Dk.lt_trans (of_decide_eq_true h1) (of_decide_eq_true h2)),
 fun x y z h1 h2 => by
  rw [lt_cf] at *;refine decide_eq_false fun h => ?_;rcases Dk.lt_tri (Dk.key x) (Dk.key y) with h3 | h3 | h3
  ·exact (of_decide_eq_false h1) h3
  ·rw [h3] at h; exact (of_decide_eq_false h2) h
  ·exact (of_decide_eq_false h2) (Dk.lt_trans h3 h)⟩

theorem byPath13 (x y : Dk.En) (W : World) : Calls Tryz.prog 176 #[.agg #[.string x.path, .string x.body, .int .i64 x.time, .int .i64 x.seq], .agg #[.string y.path, .string y.body, .int .i64 y.time, .int .i64 y.seq]] W fun e w' => e = .returned (.int .i64 (cfP x y)) ∧ ∃ q os', w' = grow (W.drewN q) os' := by
 have hcon := fun W' => Tryz.strings_Compare x.path y.path W';have HCF : Hid (cfP x y = Lib.compareBytes x.path.data.toList y.path.data.toList) := hid' rfl;generalize Lib.compareBytes x.path.data.toList y.path.data.toList = r at hcon HCF;go_enter Tryz.func176, Tryz.ntmps176;go_wp2_with (go_at_call 197; refine (hcon _).mono ?_; rintro e w' ⟨rfl, rfl⟩);go_ret;exact ⟨by rw [HCF.out]; rfl, 0, _, by rw [alloc_eq_grow, alloc_eq_grow, grow_grow]; rfl⟩
section
variable [Inhabited Dk.En]
theorem cmpLaysP (blk off size : Nat) (w : World) : CmpLays Tryz.prog 176 #[] enV 4 cfP blk off size w :=
 fun _ _ _ _ x y => byPath13 x y _

theorem flat_en (l : List Dk.En) : (flatK enV 4 l.toArray).toList = enC l := by
 apply List.ext_getElem?;intro t;by_cases ht : t < l.length * 4
 ·obtain ⟨p, hp⟩ : ∃ p, l[t / 4]? = some p := ⟨_, List.getElem?_eq_getElem (by omega)⟩;have h1 := en_at l (t / 4) p hp (t % 4) (by omega);rw [show t / 4 * 4 + t % 4 = t by omega] at h1;rw [h1];have hl : t % 4 < (enV p).length := by simp only [enV, List.length_cons, List.length_nil]; omega
  rw [List.getElem?_eq_getElem hl];have hs : t < (flatK enV 4 l.toArray).size := by simp; omega
  have h2 := get_flatK enV 4 l.toArray t (by simpa using ht);rw [getElem!_pos _ t hs] at h2;have h3 : (l.toArray)[t / 4]! = p := by
   have h4 := (List.getElem?_eq_some_iff.1 hp).1;rw [getElem!_pos l.toArray (t / 4) (by simpa using h4)];simpa using (List.getElem?_eq_some_iff.1 hp).2
  rw [h3, getElem!_pos (enV p) (t % 4) hl] at h2;rw [Array.getElem?_toList, Array.getElem?_eq_getElem hs, h2]
 ·rw [List.getElem?_eq_none (by simp; omega), List.getElem?_eq_none (by rw [enC_length]; omega)]
theorem put_take (n : Nat) (l : List Dk.En) (c : Array Value) (hl : l.length = n) (hc : n * 4 ≤ c.size) : (putCells id 0 (flatK enV 4 l.toArray) c).toList.take (n * 4) = enC l := by
 rw [← flat_en l];apply List.ext_getElem?;intro t;rw [List.getElem?_take];by_cases ht : t < n * 4
 ·rw [if_pos ht];have hs : t < (flatK enV 4 l.toArray).size := by simp; omega
  rw [Array.getElem?_toList, Array.getElem?_toList, Array.getElem?_eq_getElem hs];unfold putCells;rw [Array.getElem?_mapIdx, Array.getElem?_eq_getElem (by omega), Option.map_some, if_pos ⟨Nat.zero_le _, by omega⟩, Nat.sub_zero, getElem!_pos _ t hs];rfl
 ·rw [if_neg ht, List.getElem?_eq_none (by simp; omega)]
end

open Go.RowKit Go.Sort

theorem map_block {w : World} {g : Nat} {cur : Array Value} {T : TypeId} (f : Array Value → Array Value) (hh : w.heap[g]? = some (.cells cur T (0, 0))) : (mapBlock w g f).heap[g]? = some (.cells (f cur) T (0, 0)) := by
 unfold mapBlock;simp only [Array.getElem?_modify, if_true, hh, Option.map_some, onCells]
theorem map_other {w : World} {g k : Nat} (f : Array Value → Array Value) (hk : k ≠ g) : (mapBlock w g f).heap[k]? = w.heap[k]? := by
 unfold mapBlock;simp only [Array.getElem?_modify];rw [if_neg (fun e => hk e.symm)]
theorem map_size {w : World} {g : Nat} (f : Array Value → Array Value) : (mapBlock w g f).heap.size = w.heap.size := by simp [mapBlock]

section
variable [Inhabited Dk.En]
theorem holds_own {w : World} {g m : Nat} {cur : Array Value} {T : TypeId} {l : List Dk.En} (hl : l.length = m) (hh : w.heap[g]? = some (.cells cur T (0, 0))) (hc : cur.toList.take (m * 4) = enC l) : HoldsK enV 4 w g 0 l.toArray := by
 intro j hj;have hj2 : j < m * 4 := by simp at hj; omega
 have hA : Ar w g T cur := hh;rw [Nat.zero_add];refine ⟨hA.cell j _ ?_, hA.free j⟩;have h1 : (enC l)[j]? = cur[j]? := by rw [← hc, List.getElem?_take, if_pos hj2, Array.getElem?_toList]
 rw [← h1, ← flat_en, Array.getElem?_toList, Array.getElem?_eq_getElem hj, getElem!_pos _ j hj];rfl
theorem csort_some (B g m cap : Nat) (cur : Array Value) (l : List Dk.En) (hl : l.length = m) (w : World) (hB : B ≤ g) (hh : w.heap[g]? = some (.cells cur 68 (0, 0))) (h1 : m ≤ cap) (h2 : cap ≤ maxLen) (h3 : cur.size = cap * 4) (hc : cur.toList.take (m * 4) = enC l) (hm : m ≤ 1048576) :
  Calls Tryz.prog 175 #[.slice (some ⟨g, 0, none⟩) m cap, .func (.func 176) #[] #[]] w fun e w' => e = .returned (.tuple #[]) ∧ (∃ l', l'.Perm l ∧ l'.Pairwise (fun a b => ¬ Dk.key b < Dk.key a) ∧ w'.ownsRow B 68 4 (.slice (some ⟨g, 0, none⟩) m cap) m (enC l')) ∧ LF (fun k => k = g) w w' := by
 have hg : g < w.heap.size := (Array.getElem?_eq_some_iff.1 hh).1;have eg : ∀ args w, (callFunc 176 args).run Tryz.prog w = .ok (.enter 176 args) w := enters_of Tryz.func176 (by kernel_rfl) rfl;have hcon := AnyQ.slices_SortFunc Tryz.lsort 4 Tryz.isAgg68 Tryz.sizeOf68 enV (fun _ => rfl) (fun x v hv => by simp only [enV, List.mem_cons, List.not_mem_nil, or_false] at hv; rcases hv with rfl | rfl | rfl | rfl <;> rfl) cfP swoP 176 #[] g 0 cap l.toArray w eg (cmpLaysP g 0 l.toArray.size w) (holds_own hl hh hc) hg (by simp; omega);have e0 : l.toArray.size = m := by simpa using hl
 rw [e0] at hcon;refine Calls.mono (show Calls Tryz.prog 175 _ _ _ from hcon) ?_;rintro e w' ⟨he, d', n, os, hp, hs, hw⟩;have hds : d'.size = m := hp.1.trans e0;have hdl : d'.toList.length = m := by simpa using hds
 have hpm : d'.toList.Perm l := by
  have := hp.2.2;rw [← e0, show (l.toArray.extract 0 l.toArray.size) = l.toArray by simp, show d'.extract 0 l.toArray.size = d' by rw [e0, ← hds]; simp] at this;simpa using this
 have hw1 : (putRowK enV 4 (Sort.ahead w n) g 0 d').heap[g]? = some (.cells (putCells id 0 (flatK enV 4 d') cur) 68 (0, 0)) := map_block _ hh;have hsz : (putRowK enV 4 (Sort.ahead w n) g 0 d').heap.size = w.heap.size := map_size _;have hw2 : w'.heap[g]? = some (.cells (putCells id 0 (flatK enV 4 d') cur) 68 (0, 0)) := by
  rw [hw];unfold sortWorldK;rw [heap_grow_old _ _ (by rw [hsz]; exact hg)];exact hw1
 refine ⟨he, ⟨d'.toList, hpm, ?_, by rw [enC_length, hdl], .inr ⟨g, cap, _, rfl, hB, hw2, h1, h2, ?_, ?_⟩⟩, ?_⟩
 ·rw [List.pairwise_iff_getElem];intro i j hi hj hij;have := hs i j (Nat.zero_le _) hij (by simpa [hds] using hj);rw [lt_cf, getElem!_pos d' i (by simpa using hi), getElem!_pos d' j (by simpa using hj)] at this;simpa using of_decide_eq_false this
 ·simp [putCells, h3]
 ·have := put_take m d'.toList cur hdl (by omega);simpa using this
 ·have hsw : w'.heap.size = w.heap.size + os.size := by rw [hw]; unfold sortWorldK; rw [size_grow, hsz]
  refine ⟨by rw [hw]; rfl, by rw [hw]; rfl, by rw [hw]; rfl, by omega, ?_⟩;intro k hk hne;rw [hw];unfold sortWorldK;rw [heap_grow_old _ _ (by rw [hsz]; exact hk)];exact map_other _ hne
end

theorem csort13 (B m rc : Nat) (ro : Option Addr) (l : List Dk.En) (hl : l.length = m) (w : World) (h : w.ownsRow B 68 4 (.slice ro m rc) m (enC l)) (hm : m ≤ 1048576) :
  Calls Tryz.prog 175 #[.slice ro m rc, .func (.func 176) #[] #[]] w fun e w' => e = .returned (.tuple #[]) ∧ (∃ l', l'.Perm l ∧ l'.Pairwise (fun a b => ¬ Dk.key b < Dk.key a) ∧ w'.ownsRow B 68 4 (.slice ro m rc) m (enC l')) ∧ LF (fun k => (Value.slice ro m rc).ownBlock = some k) w w' := by
 rcases h.2 with ⟨h1, rfl⟩ | ⟨g, cap, cur, h1, hB, hh, h2, h3, h4, h5⟩
 ·obtain rfl : l = [] := List.eq_nil_of_length_eq_zero hl;refine (AnyF.slices_SortFunc_none Tryz.lsort ro rc (.func (.func 176) #[] #[]) w).mono ?_;rintro e w' ⟨he, rfl⟩;exact ⟨he, ⟨[], List.Perm.refl _, List.Pairwise.nil, h⟩, LF.refl _ _⟩
 ·injection h1 with h1 _ h6;subst h1 h6;refine (@csort_some ⟨en0⟩ B g m rc cur l hl w hB hh h2 h3 h4 h5 hm).mono ?_;rintro e w' ⟨he, h7, h8⟩;exact ⟨he, h7, ⟨h8.os, h8.tape, h8.output, h8.size, fun k hk hn => h8.block k hk (fun e => hn (by rw [e]; rfl))⟩⟩

end Go.Proofs.YthhpejgpfaikaabGreatDoor
