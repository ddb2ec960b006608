/-
  What the laws' awake of app asks: plain.
-/
import Derived.Test.YtcfbobegbmcbeaaGreatDoorPkAM
import Derived.Lib.Strings
import Derived.Test.YtcfbobegbmcbeaaGreatDoorPkAA
import Derived.Test.YtcfbobegbmcbeaaGreatDoorPkAH
import Derived.Laws.Cover1
import Derived.Laws.OwnMore
import Derived.Great.BuildSlice
import Derived.Deep.QuietTactic
import Derived.BigQuiet
import Derived.Deep.CutRange
import Derived.Maps.AppendAt
import Derived.Maps.Keyed
import Derived.Maps.OwnSet
import Derived.Maps.RangeRun
import Derived.Shelf.SlMaps.Clone
import Derived.Shelf.SlGeneric
import Derived.Ground.SlmcProg
import Derived.Deep.RegionWith
import Derived.BigRegion
import Derived.Laws.MakeOwn
import Derived.Laws.StructEq
import Derived.Test.YtcfbobegbmcbeaaGreatDoorProg
import Derived.Deep.Slices
import Derived.Deep.Strs
import Derived.SizedLaws
import Derived.RowKit
import Derived.ProofKit
import Derived.OpenShut
import Derived.Test.YtcfbobegbmcbeaaGreatDoorPkAB
import Derived.Test.YtcfbobegbmcbeaaGreatDoorPkAI
import Derived.Test.YtcfbobegbmcbeaaGreatDoorShelfS
import Derived.Test.YtcfbobegbmcbeaaGreatDoorShSort
namespace Go.Proofs.YtcfbobegbmcbeaaGreatDoor

namespace Ap
open Rt (Mt)
def siteL : List Fr18 := [
 (⟨[71, 69, 84], [47, 102, 47, 123, 112, 46, 46, 46, 125], 1⟩, ⟨#[47, 119]⟩),
 (⟨[], [47, 101, 99, 104, 111], 2⟩, ⟨#[]⟩),
 (⟨[71, 69, 84], [47, 104, 47, 123, 97, 125, 47, 123, 98, 125], 3⟩, ⟨#[]⟩),
 (⟨[71, 69, 84], [47, 111, 108, 100], 4⟩, ⟨#[]⟩)]
theorem site_ok : check siteL = 0 := by decide +kernel
def mis (q : Mt) (st ro : Int) (ps : List (T8 × T8)) (al : T8) : Bool := q.st == st && q.ro == ro && q.ps == ps && q.al == al
theorem mt_of {q : Mt} {st ro : Int} {ps : List (T8 × T8)} {al : T8} (h : mis q st ro ps al = true) : q = ⟨st, ro, ps, al⟩ := by
 obtain ⟨a, b, c, d⟩ := q
 simp only [mis, Bool.and_eq_true, beq_iff_eq] at h
 obtain ⟨⟨⟨rfl, rfl⟩, rfl⟩, rfl⟩ := h
 rfl
def cl (l : T8) (c : T8) (e : Int) : Bool := (Pt.clean l).1 == c && (Pt.clean l).2.2 == e
theorem cl_of {l c : T8} {e : Int} (h : cl l c e = true) : (Pt.clean l).1 = c ∧ (Pt.clean l).2.2 = e := by
 unfold cl at h
 rw [Bool.and_eq_true, beq_iff_eq, beq_iff_eq] at h
 exact h
def eB : Dk.En := ⟨⟨#[47, 119, 47, 97, 46, 116, 120, 116]⟩, ⟨#[104, 101, 108, 108, 111]⟩, 0, 1⟩
theorem okB : Dk.Ok [eB] := List.pairwise_singleton _ _
def rq (m p b : ByteArray) : Rq := ⟨m, ⟨#[]⟩, ⟨#[]⟩, p, [], b, []⟩
def q1 : Rq := rq ⟨#[71, 69, 84]⟩ ⟨#[47, 102, 47, 97, 46, 116, 120, 116]⟩ ⟨#[]⟩
def q2 : Rq := rq ⟨#[80, 79, 83, 84]⟩ ⟨#[47, 101, 99, 104, 111]⟩ ⟨#[97, 98]⟩
def q3 : Rq := rq ⟨#[71, 69, 84]⟩ ⟨#[47, 104, 47, 49, 47, 37, 51, 50]⟩ ⟨#[]⟩
def q4 : Rq := rq ⟨#[71, 69, 84]⟩ ⟨#[47, 110, 111]⟩ ⟨#[]⟩
theorem raw_of (rs : List (Rt.Ro × ByteArray)) (es : List Dk.En) (r : Rq) {c : T8} {q : Mt} (h0 : (r.p.data.toList == [42]) = false) (hc : cl r.p.data.toList c 0 = true) (hf : Rt.find (rs.map (·.1)) r.m.data.toList c = q) : raw rs es r = met rs q es r c := by
 obtain ⟨h1, h2⟩ := cl_of hc
 unfold raw
 rw [h0, h1, h2, hf]
 rfl
theorem getB : Dk.get (Fs.name Fs.rW Fs.sA) [eB] = some eB := (Dk.get_some okB).2 ⟨List.mem_singleton.2 rfl, rfl⟩
theorem fans_B : Fs.ans [eB] Fs.rW Fs.mGET Fs.tA Fs.sA [] = ⟨200, Fs.head (Fs.kind Fs.pA) eB, Fs.hello⟩ := by
 unfold Fs.ans Fs.ansOf
 rw [getB]
 simp only []
 rw [Fs.dec_none [] _ _ rfl rfl rfl rfl]
 unfold Fs.part
 rw [Fs.sam_none [] _ _ rfl]
 rfl
theorem a1 : ∃ fs, ans siteL [eB] q1 = ⟨200, fs, Fs.hello, []⟩ ∧ fs.length = 5 := by
 unfold ans
 rw [raw_of siteL [eB] q1 (c := [47, 102, 47, 97, 46, 116, 120, 116]) (q := ⟨200, 0, [([112], [97, 46, 116, 120, 116])], []⟩) (by decide) (by decide +kernel) (mt_of (by decide +kernel))]
 have h : met siteL ⟨200, 0, [([112], [97, 46, 116, 120, 116])], []⟩ [eB] q1 [47, 102, 47, 97, 46, 116, 120, 116] = of (Fs.ans [eB] Fs.rW Fs.mGET Fs.tA Fs.sA []) := rfl
 rw [h, fans_B]
 exact ⟨_, rfl, rfl⟩
theorem a2 : ∃ fs, ans siteL [eB] q2 = ⟨200, fs, [97, 98], []⟩ := by
 unfold ans
 rw [raw_of siteL [eB] q2 (c := [47, 101, 99, 104, 111]) (q := ⟨200, 1, [], []⟩) (by decide) (by decide +kernel) (mt_of (by decide +kernel))]
 exact ⟨_, rfl⟩
theorem a3 : ∃ fs, ans siteL [eB] q3 = ⟨200, fs, [104, 101, 108, 108, 111, 32, 97, 61, 49, 32, 98, 61, 50, 10], []⟩ := by
 unfold ans
 rw [raw_of siteL [eB] q3 (c := [47, 104, 47, 49, 47, 50]) (q := ⟨200, 2, [([97], [49]), ([98], [50])], []⟩) (by decide) (by decide +kernel) (mt_of (by decide +kernel))]
 exact ⟨_, rfl⟩
theorem a4 : ∃ fs b, ans siteL [eB] q4 = ⟨404, fs, b, []⟩ := by
 unfold ans
 rw [raw_of siteL [eB] q4 (c := [47, 110, 111]) (q := ⟨404, -1, [], []⟩) (by decide) (by decide +kernel) (mt_of (by decide +kernel))]
 exact ⟨_, _, rfl⟩
end Ap

open Go.RowKit

theorem drop_one (L : List UInt8) (k : Nat) (c : UInt8) (hc : L[k]? = some c) : L.drop k = c :: L.drop (k + 1) := by
 obtain ⟨h1, h2⟩ := List.getElem?_eq_some_iff.1 hc
 rw [List.drop_eq_getElem_cons h1, h2]

open Go.RowKit

def enV (e : Dk.En) : List Value := [.string e.path, .string e.body, .int .i64 e.time, .int .i64 e.seq]
def enC (es : List Dk.En) : List Value := es.flatMap enV
theorem enC_append (l m : List Dk.En) : enC (l ++ m) = enC l ++ enC m := by simp [enC]
theorem enC_cons (p : Dk.En) (m : List Dk.En) : enC (p :: m) = enV p ++ enC m := by simp [enC]
theorem enC_length (l : List Dk.En) : (enC l).length = l.length * 4 := by
 induction l with
 | nil => rfl
 | cons a r ih => rw [enC_cons]; simp [enV]; omega
theorem en_at (l : List Dk.En) (i : Nat) (p : Dk.En) (h : l[i]? = some p) : ∀ j, j < 4 → (enC l)[i * 4 + j]? = (enV p)[j]? := by
 induction l generalizing i with
 | nil => simp at h
 | cons a r ih =>
  intro j hj
  rw [enC_cons]
  cases i with
  | zero => simp at h; subst h; rw [List.getElem?_append_left (by simp [enV]; omega)]; congr 1; omega
  | succ i =>
   rw [List.getElem?_append_right (by simp [enV]; omega), show (i + 1) * 4 + j - (enV a).length = i * 4 + j by simp [enV]; omega]
   exact ih i (by simpa using h) j hj

theorem down_shape {w : World} {B : Nat} {e : TypeId} {s : Nat} {v : Value} {n : Nat} {xs : List Value} (h : w.ownsRow B e s v n xs) : ∃ ao cap, v = .slice ao n cap := by
 rcases h.2 with ⟨h, h0⟩ | ⟨g, cap, cur, h, _⟩
 ·exact ⟨none, 0, by rw [h, h0]⟩
 ·exact ⟨_, _, h⟩

open Go.RowKit

theorem dinfo_parts {P : Program} {t : TypeId} {z : Option Value} {s b : Nat} (h : (P.info? t).map (fun i => (i.zero, i.size, i.bytes)) = some (z, s, b)) : ∃ i, P.info? t = some i ∧ i.zero = z ∧ i.size = s ∧ i.bytes = b := by
 cases hq : P.info? t with
 | none => simp [hq] at h
 | some i => simp [hq] at h; exact ⟨i, rfl, h.1, h.2.1, h.2.2⟩
theorem dinfoE : (Tryz.prog.info? 70).map (fun i => (i.zero, i.size, i.bytes)) = some (some (.agg #[.string ⟨#[]⟩, .string ⟨#[]⟩, .int .i64 0, .int .i64 0]), 4, 48) := by kernel_rfl
def PutOf13 (es : List Dk.En) (q : Int) (x y : ByteArray) (t : Int) (c : Int) (es' : List Dk.En) (q' : Int) : Prop :=
 (c = 130 ∧ Dk.path x.data.toList = false ∧ es' = es ∧ q' = q) ∨
 (c = 3 ∧ (Dk.path x.data.toList = true ∧ 65536 < y.size) ∧ es' = es ∧ q' = q) ∨
 (c = 5 ∧ (Dk.path x.data.toList = true ∧ y.size ≤ 65536 ∧ (t < 0 ∨ 253402300799 < t)) ∧ es' = es ∧ q' = q) ∨
 (c = 4 ∧ (Dk.path x.data.toList = true ∧ y.size ≤ 65536 ∧ (0 ≤ t ∧ t ≤ 253402300799) ∧ Dk.has x.data.toList es = false ∧ 1024 ≤ es.length) ∧ es' = es ∧ q' = q) ∨
 (c = 0 ∧ (Dk.path x.data.toList = true ∧ y.size ≤ 65536 ∧ (0 ≤ t ∧ t ≤ 253402300799) ∧ (Dk.has x.data.toList es = true ∨ es.length < 1024)) ∧ es' = Dk.put ⟨x, y, t, q + 1⟩ es ∧ q' = q + 1)

open Go.RowKit

theorem four_new (w : World) (t : TypeId) (x y z u : Value) : ∀ j v, ([x, y, z, u] : List Value)[j]? = some v → (w.alloc (.cells #[x, y, z, u] t)).cell? ((⟨w.heap.size, 0, none⟩ : Addr).add j) = some v := by
 intro j v hj
 match j, hj with
 | 0, hj => simp at hj; subst hj; simp [Addr.add]
 | 1, hj => simp at hj; subst hj; simp [Addr.add]
 | 2, hj => simp at hj; subst hj; simp [Addr.add]
 | 3, hj => simp at hj; subst hj; simp [Addr.add]

open Go.RowKit

def fileV : Option Dk.En → Value
 | some e => .agg #[.string e.body, .int .i64 e.time, .int .i64 e.seq]
 | none => .agg #[.string ⟨#[]⟩, .int .i64 0, .int .i64 0]

theorem dzeroF : (Tryz.prog.info? 68).map (fun i => i.zero) = some (some (.agg #[.string ⟨#[]⟩, .int .i64 0, .int .i64 0])) := by kernel_rfl
theorem dsizeF : (Tryz.prog.info? 68).map (·.size) = some 3 := by kernel_rfl
theorem dldF {w : World} {b : Nat} {x0 x1 x2 : Value} (h : Ar w b 68 #[x0, x1, x2]) : (loadVar 68 ⟨b, 0, none⟩).run Tryz.prog w = .ok (.agg #[x0, x1, x2]) w :=
 run_loadVar_row (P := Tryz.prog) w b 68 68 _ (0, 0) _ h Tryz.underlying68 rfl dsizeF

open Go.RowKit Go.MapKept
open Go.ChangeMaps (setBlock heap_setBlock_same heap_setBlock_other modify_eq_set)

section
variable {κ α : Type} {kv : κ → Value} {vv : α → Value}

structure Mp (kv : κ → Value) (vv : α → Value) (w : World) (b : Nat) (f : κ → Option α) (n : Nat) (es : Array MapEntry) (clock : Nat) : Prop where
 hd : w.heap[b]? = some (.map es clock)
 sz : es.size = n
 all : ∀ e ∈ es.toList, ∃ k x, e.key = kv k ∧ e.val = vv x ∧ f k = some x
 nd : es.toList.Pairwise (fun x y => x.key ≠ y.key)
 has : ∀ k x, f k = some x → ∃ e ∈ es.toList, e.key = kv k
 st : ∀ e ∈ es.toList, e.born < clock
 nb : (es.toList.map (·.born)).Nodup
structure Ky (P : Program) (kt : TypeId) (kv : κ → Value) (d : TypeDesc) : Prop where
 ty : P.underlying kt = some d
 is : ∀ k, IsKey d (kv k)
 inj : ∀ a b, kv a = kv b → a = b

variable {P : Program} {kt et t : TypeId} {d : TypeDesc} {w : World} {b n : Nat} {f : κ → Option α} {es : Array MapEntry} {clock : Nat}
theorem Mp.lt (h : Mp kv vv w b f n es clock) : b < w.heap.size := (Array.getElem?_eq_some_iff.1 h.hd).1
theorem Mp.val (K : Ky P kt kv d) (h : Mp kv vv w b f n es clock) {e : MapEntry} (he : e ∈ es.toList) {k : κ} (hk : e.key = kv k) : ∃ x, f k = some x ∧ e.val = vv x := by
 obtain ⟨k', x, h1, h2, h3⟩ := h.all e he
 obtain rfl := K.inj _ _ (h1.symm.trans hk)
 exact ⟨x, h3, h2⟩
theorem Mp.find (K : Ky P kt kv d) (h : Mp kv vv w b f n es clock) (k : κ) :
  (f k = none ∧ (∀ W : World, (Instr.findKey kt (kv k) es.toList).run P W = .ok none W) ∧ ∀ e ∈ es.toList, e.key ≠ kv k) ∨
  ∃ x j e, f k = some x ∧ (∀ W : World, (Instr.findKey kt (kv k) es.toList).run P W = .ok (some (j, vv x)) W) ∧ es.toList[j]? = some e ∧ e.key = kv k := by
 have hks : ∀ y ∈ es.toList, IsKey d y.key := fun y hy => by
  obtain ⟨k', x, h1, _⟩ := h.all y hy
  rw [h1]; exact K.is k'
 rcases findNow_spec (K.is k) es.toList 0 hks with ⟨h1, h2⟩ | ⟨j, e, h1, h2, h3⟩
 ·refine .inl ⟨?_, fun W => run_findKey K.ty h1, h2⟩
  cases hf : f k with
  | none => rfl
  | some x =>
   obtain ⟨e, he, hk⟩ := h.has k x hf
   exact absurd hk (h2 e he)
 ·obtain ⟨x, hx, hv⟩ := h.val K (List.mem_of_getElem? h2) h3
  rw [hv] at h1
  exact .inr ⟨x, j, e, hx, fun W => by simpa using run_findKey (w := W) K.ty h1, h2, h3⟩
theorem Mp.look_no (K : Ky P kt kv d) (h : Mp kv vv w b f n es clock) (ht : P.underlying t = some (.map kt et)) {z : Value} (hz : ∀ W : World, (zeroValue et).run P W = .ok z W) (c : Bool) {k : κ} (hk : f k = none) :
  (Instr.lookup t (.map (some b)) (kv k) c).run P w = .ok (if c = true then .tuple #[z, .bool false] else z) w := by
 rcases h.find K k with ⟨_, h1, _⟩ | ⟨x, _, _, h1, _⟩
 ·simp [Instr.lookup, run_underlying ht, MapKept.run_getObj_map h.hd, run_checkKey K.ty (K.is k) _ 9999, h1, hz, Result.andThen]
 ·rw [hk] at h1; cases h1
theorem Mp.look_yes (K : Ky P kt kv d) (h : Mp kv vv w b f n es clock) (ht : P.underlying t = some (.map kt et)) (c : Bool) {k : κ} {x : α} (hk : f k = some x) :
  (Instr.lookup t (.map (some b)) (kv k) c).run P w = .ok (if c = true then .tuple #[vv x, .bool true] else vv x) w := by
 rcases h.find K k with ⟨h0, _⟩ | ⟨x', j, e, h0, h1, _⟩
 ·rw [hk] at h0; cases h0
 ·rw [hk] at h0
  injection h0 with h0
  subst h0
  simp [Instr.lookup, run_underlying ht, MapKept.run_getObj_map h.hd, run_checkKey K.ty (K.is k) _ 9999, h1, Result.andThen]
theorem Mp.len (h : Mp kv vv w b f n es clock) (ht : P.underlying t = some (.map kt et)) (ty : TypeId) : (Builtin.len_ #[t] ty #[.map (some b)]).run P w = .ok (.int .i64 (n : Int)) w := by
 simp [Builtin.len_, run_underlying ht, MapKept.run_getObj_map h.hd, goInt, Result.andThen, h.sz]
theorem Mp.other {w' : World} (h : Mp kv vv w b f n es clock) (hb : w'.heap[b]? = w.heap[b]?) : Mp kv vv w' b f n es clock := ⟨hb.trans h.hd, h.sz, h.all, h.nd, h.has, h.st, h.nb⟩

theorem Mp.made (w : World) (kv : κ → Value) (vv : α → Value) : Mp kv vv (w.alloc (.map #[] 0)) w.heap.size (fun _ => none) 0 #[] 0 :=
 ⟨(MapKept.heap_alloc w _).1, rfl, fun e he => by simp at he, by simp, (fun k x h => by cases h), (fun e he => by simp at he), by simp⟩
variable [DecidableEq κ]
def mput (f : κ → Option α) (k : κ) (x : α) : κ → Option α := fun k' => if k' = k then some x else f k'
def mdel (f : κ → Option α) (k : κ) : κ → Option α := fun k' => if k' = k then none else f k'
theorem Mp.store (K : Ky P kt kv d) (h : Mp kv vv w b f n es clock) (ht : P.underlying t = some (.map kt et)) (k : κ) (x : α) :
  ∃ es' clock', (Instr.mapUpdate t (.map (some b)) (kv k) (vv x)).run P w = .ok () (setBlock w b (.map es' clock')) ∧ Mp kv vv (setBlock w b (.map es' clock')) b (mput f k x) (if (f k).isSome = true then n else n + 1) es' clock' := by
 rcases h.find K k with ⟨h0, h1, h2⟩ | ⟨x', j, e0, h0, h1, h2, h3⟩
 ·refine ⟨es.push ⟨kv k, vv x, clock⟩, clock + 1, ?_, heap_setBlock_same h.hd _, by simp [h.sz, h0], ?_, ?_, ?_, ?_, ?_⟩
  ·simp [Instr.mapUpdate, run_underlying ht, MapKept.run_getObj_map h.hd, run_checkKey K.ty (K.is k) _ 9999, h1, run_setObj_map _ h.hd, Result.andThen, setBlock]
  ·intro e he
   simp only [Array.toList_push, List.mem_append, List.mem_singleton] at he
   rcases he with he | rfl
   ·obtain ⟨k', x', e1, e2, e3⟩ := h.all e he
    refine ⟨k', x', e1, e2, ?_⟩
    unfold mput
    rw [if_neg (fun ek => h2 e he (by rw [e1, ek]))]
    exact e3
   ·exact ⟨k, x, rfl, rfl, by simp [mput]⟩
  ·rw [Array.toList_push]
   refine List.pairwise_append.2 ⟨h.nd, by simp, ?_⟩
   intro a ha c hc
   obtain rfl : c = _ := by simpa using hc
   exact h2 a ha
  ·intro k' x' hk'
   simp only [Array.toList_push, List.mem_append, List.mem_singleton]
   unfold mput at hk'
   by_cases e : k' = k
   ·subst e; exact ⟨_, .inr rfl, rfl⟩
   ·rw [if_neg e] at hk'
    obtain ⟨e', he', hk2⟩ := h.has k' x' hk'
    exact ⟨e', .inl he', hk2⟩
  ·intro e he
   simp only [Array.toList_push, List.mem_append, List.mem_singleton] at he
   rcases he with he | rfl
   ·have := h.st e he; omega
   ·exact Nat.lt_succ_self _
  ·rw [Array.toList_push, List.map_append, List.nodup_append]
   refine ⟨h.nb, by simp, ?_⟩
   intro a ha b hb
   obtain ⟨e, he, rfl⟩ := List.mem_map.1 ha
   simp only [List.map_cons, List.map_nil, List.mem_singleton] at hb
   subst hb
   have := h.st e he
   omega
 ·have hj : es[j]? = some e0 := by simpa using h2
  have hjl : j < es.toList.length := (List.getElem?_eq_some_iff.1 h2).1
  have hlist : (es.modify j (fun e' => { e' with key := kv k, val := vv x })).toList = es.toList.set j { e0 with key := kv k, val := vv x } := by rw [Array.toList_modify, modify_eq_set _ _ _ _ h2]
  have other : ∀ i e, es.toList[i]? = some e → i ≠ j → e.key ≠ kv k := by
   intro i e hi hne hk
   have hp := List.pairwise_iff_getElem.1 h.nd
   obtain ⟨a1, a2⟩ := List.getElem?_eq_some_iff.1 hi
   obtain ⟨b1, b2⟩ := List.getElem?_eq_some_iff.1 h2
   rcases Nat.lt_or_gt_of_ne hne with hlt | hlt
   ·have := hp i j a1 b1 hlt
    rw [a2, b2, hk, h3] at this
    exact this rfl
   ·have := hp j i b1 a1 hlt
    rw [a2, b2, hk, h3] at this
    exact this rfl
  refine ⟨es.modify j (fun e' => { e' with key := kv k, val := vv x }), clock, ?_, heap_setBlock_same h.hd _, by simp [h.sz, h0], ?_, ?_, ?_, ?_, ?_⟩
  ·simp [Instr.mapUpdate, run_underlying ht, MapKept.run_getObj_map h.hd, run_checkKey K.ty (K.is k) _ 9999, h1, hj, h3, run_keyThatStays (K.is k), run_setObj_map _ h.hd, Result.andThen, setBlock]
  ·intro e he
   rw [hlist] at he
   obtain ⟨i, hi⟩ := List.getElem?_of_mem he
   rw [List.getElem?_set] at hi
   split at hi
   ·injection hi with hi
    subst hi
    exact ⟨k, x, rfl, rfl, by simp [mput]⟩
   ·rename_i hne
    obtain ⟨k', x', e1, e2, e3⟩ := h.all e (List.mem_of_getElem? hi)
    refine ⟨k', x', e1, e2, ?_⟩
    unfold mput
    rw [if_neg (fun ek => other i e hi (fun e => hne e.symm) (by rw [e1, ek]))]
    exact e3
  ·rw [hlist, List.pairwise_iff_getElem]
   intro i i' hi hi' hlt
   rw [List.length_set] at hi hi'
   rw [List.getElem_set, List.getElem_set]
   split
   ·rename_i e1
    rw [if_neg (by omega)]
    simp only
    exact fun e => other i' _ (List.getElem?_eq_getElem hi') (by omega) e.symm
   ·split
    ·rename_i e1 e2
     simp only
     exact other i _ (List.getElem?_eq_getElem hi) (by omega)
    ·exact List.pairwise_iff_getElem.1 h.nd i i' hi hi' hlt
  ·intro k' x'' hk'
   rw [hlist]
   unfold mput at hk'
   by_cases e : k' = k
   ·subst e
    exact ⟨{ e0 with key := kv k', val := vv x }, List.mem_iff_getElem.2 ⟨j, by simpa using hjl, by simp⟩, rfl⟩
   ·rw [if_neg e] at hk'
    obtain ⟨e', he', hk2⟩ := h.has k' x'' hk'
    obtain ⟨i, hi⟩ := List.getElem?_of_mem he'
    refine ⟨e', List.mem_of_getElem? (i := i) ?_, hk2⟩
    rw [List.getElem?_set_ne]
    ·exact hi
    ·rintro rfl
     rw [h2] at hi
     injection hi with hi
     subst hi
     exact e (K.inj _ _ (hk2.symm.trans h3))
  ·intro e he
   rw [hlist] at he
   rcases List.mem_or_eq_of_mem_set he with he | rfl
   ·exact h.st e he
   ·exact h.st e0 (List.mem_of_getElem? h2)
  ·rw [hlist, List.map_set]
   have hq : (es.toList.map (·.born)).set j e0.born = es.toList.map (·.born) := by
    apply List.ext_getElem?
    intro i
    rw [List.getElem?_set]
    split
    ·rename_i hij
     subst hij
     rw [List.getElem?_map, h2]
     simp only [Option.map_some, List.length_map, if_pos hjl]
    ·rfl
   show ((es.toList.map (·.born)).set j e0.born).Nodup
   rw [hq]
   exact h.nb
theorem Mp.drop (K : Ky P kt kv d) (h : Mp kv vv w b f n es clock) (ht : P.underlying t = some (.map kt et)) (k : κ) (ty : TypeId) :
  ∃ es', (Builtin.delete_ #[t, kt] ty #[.map (some b), kv k]).run P w = .ok (.tuple #[]) (setBlock w b (.map es' clock)) ∧ Mp kv vv (setBlock w b (.map es' clock)) b (mdel f k) (if (f k).isSome = true then n - 1 else n) es' clock := by
 rcases h.find K k with ⟨h0, h1, h2⟩ | ⟨x', j, e0, h0, h1, h2, h3⟩
 ·refine ⟨es, ?_, heap_setBlock_same h.hd _, by simp [h.sz, h0], ?_, h.nd, ?_, h.st, h.nb⟩
  ·simp [Builtin.delete_, run_underlying ht, MapKept.run_getObj_map h.hd, run_checkKey K.ty (K.is k) _ 9999, h1, run_setObj_map _ h.hd, Result.andThen, setBlock]
  ·intro e he
   obtain ⟨k', x', e1, e2, e3⟩ := h.all e he
   refine ⟨k', x', e1, e2, ?_⟩
   unfold mdel
   rw [if_neg (fun ek => h2 e he (by rw [e1, ek]))]
   exact e3
  ·intro k' x' hk'
   unfold mdel at hk'
   by_cases e : k' = k
   ·rw [if_pos e] at hk'; cases hk'
   ·rw [if_neg e] at hk'; exact h.has k' x' hk'
 ·have hjl : j < es.toList.length := (List.getElem?_eq_some_iff.1 h2).1
  have hjs : j < es.size := by simpa using hjl
  have hsub : (es.eraseIdxIfInBounds j).toList = es.toList.eraseIdx j := by
   unfold Array.eraseIdxIfInBounds
   rw [dif_pos hjs]
   simp
  have hsz : (es.eraseIdxIfInBounds j).size = es.size - 1 := by
   rw [← Array.length_toList, hsub, List.length_eraseIdx, if_pos hjl, Array.length_toList]
  have other : ∀ i e, es.toList[i]? = some e → i ≠ j → e.key ≠ kv k := by
   intro i e hi hne hk
   have hp := List.pairwise_iff_getElem.1 h.nd
   obtain ⟨a1, a2⟩ := List.getElem?_eq_some_iff.1 hi
   obtain ⟨b1, b2⟩ := List.getElem?_eq_some_iff.1 h2
   rcases Nat.lt_or_gt_of_ne hne with hlt | hlt
   ·have := hp i j a1 b1 hlt
    rw [a2, b2, hk, h3] at this
    exact this rfl
   ·have := hp j i b1 a1 hlt
    rw [a2, b2, hk, h3] at this
    exact this rfl
  refine ⟨es.eraseIdxIfInBounds j, ?_, heap_setBlock_same h.hd _, by simp [hsz, h.sz, h0], ?_, ?_, ?_, ?_, ?_⟩
  ·simp [Builtin.delete_, run_underlying ht, MapKept.run_getObj_map h.hd, run_checkKey K.ty (K.is k) _ 9999, h1, run_setObj_map _ h.hd, Result.andThen, setBlock]
  ·intro e he
   rw [hsub] at he
   obtain ⟨i, hne, hi⟩ := List.mem_eraseIdx_iff_getElem?.1 he
   obtain ⟨k', x', e1, e2, e3⟩ := h.all e (List.mem_of_getElem? hi)
   refine ⟨k', x', e1, e2, ?_⟩
   unfold mdel
   rw [if_neg (fun ek => other i e hi hne (by rw [e1, ek]))]
   exact e3
  ·rw [hsub]; exact h.nd.sublist (List.eraseIdx_sublist _ _)
  ·intro k' x'' hk'
   unfold mdel at hk'
   by_cases e : k' = k
   ·rw [if_pos e] at hk'; cases hk'
   ·rw [if_neg e] at hk'
    obtain ⟨e', he', hk2⟩ := h.has k' x'' hk'
    obtain ⟨i, hi⟩ := List.getElem?_of_mem he'
    refine ⟨e', ?_, hk2⟩
    rw [hsub]
    refine List.mem_eraseIdx_iff_getElem?.2 ⟨i, ?_, hi⟩
    rintro rfl
    rw [h2] at hi
    injection hi with hi
    subst hi
    exact e (K.inj _ _ (hk2.symm.trans h3))
  ·intro e he
   rw [hsub] at he
   exact h.st e ((List.eraseIdx_sublist _ _).subset he)
  ·rw [hsub]
   exact h.nb.sublist ((List.eraseIdx_sublist _ _).map _)
end

open Go.RowKit
open Go.ChangeMaps (setBlock heap_setBlock_same heap_setBlock_other)

def pk (k : ByteArray) : Value := .string k
def fk (e : Dk.En) : Value := .agg #[.string e.body, .int .i64 e.time, .int .i64 e.seq]
theorem ky : Ky Tryz.prog 9 pk .string := ⟨Tryz.underlying9, fun _ => trivial, fun a b h => by unfold pk at h; injection h⟩
theorem zeroF (W : World) : (zeroValue 68).run Tryz.prog W = .ok (.agg #[.string ⟨#[]⟩, .int .i64 0, .int .i64 0]) W := by kernel_rfl
theorem utm : Tryz.prog.underlying 72 = some (.map 9 68) := Tryz.underlying72
def fg (es : List Dk.En) (k : ByteArray) : Option Dk.En := Dk.get k.data.toList es
theorem ba_ext {a b : ByteArray} (h : a.data.toList = b.data.toList) : a = b := by
 apply ByteArray.ext
 exact Array.toList_inj.1 h
structure CX (T : TypeId) (w : World) (B b m : Nat) (q : Int) (es : List Dk.En) (E : Array MapEntry) (clock : Nat) : Prop where
 lo : B ≤ b
 lm : B ≤ m
 hd : Ar w b T #[.map (some m), .int .i64 q]
 mp : Mp pk fk w m (fg es) es.length E clock
 ok : Dk.Ok es
 le : es.length ≤ 1024
def CD (w : World) (B b : Nat) (K : Nat → Prop) (q : Int) (es : List Dk.En) : Prop := ∃ m E clock, CX 75 w B b m q es E clock ∧ ∀ k, K k ↔ k = b ∨ k = m
def CS (w : World) (B b : Nat) (K : Nat → Prop) (q : Int) (es : List Dk.En) : Prop := ∃ m E clock, CX 76 w B b m q es E clock ∧ ∀ k, K k ↔ k = b ∨ k = m
theorem CX.same {T : TypeId} {w w' : World} {B b m : Nat} {q : Int} {es : List Dk.En} {E : Array MapEntry} {clock : Nat} (h : CX T w B b m q es E clock) (h1 : w'.heap[b]? = w.heap[b]?) (h2 : w'.heap[m]? = w.heap[m]?) : CX T w' B b m q es E clock :=
 ⟨h.lo, h.lm, by have := h.hd; unfold Ar at *; rw [h1]; exact this, h.mp.other h2, h.ok, h.le⟩
theorem CX.keep {T : TypeId} {w w' : World} {B b m : Nat} {q : Int} {es : List Dk.En} {E : Array MapEntry} {clock : Nat} (h : CX T w B b m q es E clock) (hb : Below w.heap.size w w') : CX T w' B b m q es E clock :=
 h.same (hb.block b h.hd.lt) (hb.block m h.mp.lt)
theorem CX.apart {T : TypeId} {w : World} {B b m : Nat} {q : Int} {es : List Dk.En} {E : Array MapEntry} {clock : Nat} (h : CX T w B b m q es E clock) : b ≠ m := by
 rintro rfl
 have h1 := h.hd
 unfold Ar at h1
 rw [h.mp.hd] at h1
 cases h1
theorem CD.lt {w : World} {B b : Nat} {K : Nat → Prop} {q : Int} {es : List Dk.En} (h : CD w B b K q es) : ∀ k, K k → B ≤ k ∧ k < w.heap.size := by
 obtain ⟨m, E, clock, h, hk⟩ := h
 intro k hK
 rcases (hk k).1 hK with rfl | rfl
 ·exact ⟨h.lo, h.hd.lt⟩
 ·exact ⟨h.lm, h.mp.lt⟩
theorem CS.lt {w : World} {B b : Nat} {K : Nat → Prop} {q : Int} {es : List Dk.En} (h : CS w B b K q es) : ∀ k, K k → B ≤ k ∧ k < w.heap.size := by
 obtain ⟨m, E, clock, h, hk⟩ := h
 intro k hK
 rcases (hk k).1 hK with rfl | rfl
 ·exact ⟨h.lo, h.hd.lt⟩
 ·exact ⟨h.lm, h.mp.lt⟩
theorem CD.lb {w : World} {B b : Nat} {K : Nat → Prop} {q : Int} {es : List Dk.En} (h : CD w B b K q es) : B ≤ w.heap.size := by
 obtain ⟨m, E, clock, h, hk⟩ := h
 have h1 := h.lo
 have h2 := h.hd.lt
 omega
theorem CD.ok {w : World} {B b : Nat} {K : Nat → Prop} {q : Int} {es : List Dk.En} (h : CD w B b K q es) : Dk.Ok es ∧ es.length ≤ 1024 := by
 obtain ⟨m, E, clock, h, hk⟩ := h
 exact ⟨h.ok, h.le⟩
theorem CS.ok {w : World} {B b : Nat} {K : Nat → Prop} {q : Int} {es : List Dk.En} (h : CS w B b K q es) : Dk.Ok es ∧ es.length ≤ 1024 := by
 obtain ⟨m, E, clock, h, hk⟩ := h
 exact ⟨h.ok, h.le⟩
theorem CD.other {S K : Nat → Prop} {w w' : World} {B b : Nat} {q : Int} {es : List Dk.En} (h : CD w B b K q es) (hf : LF S w w') (hs : ∀ k, K k → ¬ S k) : CD w' B b K q es := by
 obtain ⟨m, E, clock, h, hk⟩ := h
 exact ⟨m, E, clock, h.same (hf.block b h.hd.lt (hs b ((hk b).2 (.inl rfl)))) (hf.block m h.mp.lt (hs m ((hk m).2 (.inr rfl)))), hk⟩
theorem CS.other {S K : Nat → Prop} {w w' : World} {B b : Nat} {q : Int} {es : List Dk.En} (h : CS w B b K q es) (hf : LF S w w') (hs : ∀ k, K k → ¬ S k) : CS w' B b K q es := by
 obtain ⟨m, E, clock, h, hk⟩ := h
 exact ⟨m, E, clock, h.same (hf.block b h.hd.lt (hs b ((hk b).2 (.inl rfl)))) (hf.block m h.mp.lt (hs m ((hk m).2 (.inr rfl)))), hk⟩
theorem CX.ty {X : TypeId} {w : World} {B b m : Nat} {q : Int} {es : List Dk.En} {E : Array MapEntry} {clock : Nat} (h : CX X w B b m q es E clock) {k : Nat} {T : TypeId} {cs : Array Value} (hk : k = b ∨ k = m) (hc : w.heap[k]? = some (.cells cs T (0, 0))) : T = X := by
 rcases hk with rfl | rfl
 ·have h1 := h.hd
  unfold Ar at h1
  rw [hc] at h1
  injection h1 with h1
  injection h1
 ·rw [h.mp.hd] at hc
  cases hc

theorem CX.look {T : TypeId} {w : World} {B b m : Nat} {q : Int} {es : List Dk.En} {E : Array MapEntry} {clock : Nat} (h : CX T w B b m q es E clock) (x : ByteArray) :
  (Instr.lookup 72 (.map (some m)) (.string x) true).run Tryz.prog w = .ok (.tuple #[fileV (Dk.get x.data.toList es), .bool (Dk.has x.data.toList es)]) w := by
 cases hg : Dk.get x.data.toList es with
 | none =>
  have := h.mp.look_no ky utm zeroF true (k := x) hg
  rw [Dk.get_has h.ok, hg]
  simpa [pk, fileV] using this
 | some e =>
  have := h.mp.look_yes ky utm true (k := x) hg
  rw [Dk.get_has h.ok, hg]
  simpa [pk, fileV, fk] using this
theorem fileV_sh (o : Option Dk.En) : ∃ y i j, fileV o = .agg #[.string y, .int .i64 i, .int .i64 j] := by
 cases o with
 | none => exact ⟨_, _, _, rfl⟩
 | some e => exact ⟨_, _, _, rfl⟩

set_option maxHeartbeats 1000000 in
theorem cnew13 (w : World) : Calls Tryz.prog 19 #[] w fun e w' => (∃ b K, e = .returned (.pointer (some ⟨b, 0, none⟩)) ∧ CD w' w.heap.size b K 0 []) ∧ Below w.heap.size w w' := by
 have hmm : ∀ W : World, (Instr.makeMap 72 none).run Tryz.prog W = .ok (.map (some W.heap.size)) (W.alloc (.map #[] 0)) := fun _ => rfl
 go_enter Tryz.func19, Tryz.ntmps19
 go_wp2_with (refine wpl_box 75 _ rfl rfl #[.map (some w.heap.size), .int .i64 0] (by kernel_rfl) ?_)
 intro b w1 hb ha hbl
 have hm := Mp.made w pk fk
 have hm1 := hm.other (w' := w1) (hbl.block _ (Nat.lt_succ_self _))
 have HB := hid' hb
 have HA := hid' ha
 have HM := hid' hm1
 have HBL : Hid (Below w.heap.size w w1) := hid' (below_two ((Below.refl _ _).alloc (Nat.le_refl _) _) (by simpa using hbl))
 have HS : Hid (w.heap.size ≤ b) := hid' (by omega)
 clear hb ha hbl hm hm1 hmm
 go_wp2
 go_ret
 exact ⟨⟨b, fun k => k = b ∨ k = w.heap.size, rfl, ⟨_, _, _, ⟨HS.out, Nat.le_refl _, HA.out, HM.out, List.Pairwise.nil, by simp⟩, fun _ => Iff.rfl⟩⟩, HBL.out⟩

set_option maxHeartbeats 1000000 in
theorem chas13 {B b m : Nat} {q : Int} {es : List Dk.En} {E : Array MapEntry} {clock : Nat} (x : ByteArray) (r : Bool) (hr : Dk.has x.data.toList es = r) (w : World) (h : CX 75 w B b m q es E clock) :
  Calls Tryz.prog 32 #[.pointer (some ⟨b, 0, none⟩), .string x] w fun e w' => e = .returned (.bool r) ∧ Below w.heap.size w w' := by
 have hlk := h.look x
 have c0 := h.hd.cell 0 _ rfl
 rw [hr] at hlk
 obtain ⟨y, i, j, hf⟩ := fileV_sh (Dk.get x.data.toList es)
 rw [hf] at hlk
 clear h hf hr
 go_enter Tryz.func32, Tryz.ntmps32
 go_wp2
 go_ret
 exact ⟨rfl, (Below.refl _ _).alloc (Nat.le_refl _) _⟩

open Go.RowKit

def TB19 (w : World) : Prop := TB16 w
theorem tb_below19 {w w' : World} (h : TB19 w) (hb : Below w.heap.size w w') : TB19 w' := TB16.keep h hb
structure EN19 (e : Dk.En) : Prop where
 b : e.body.size ≤ 65536
 t0 : 0 ≤ e.time
 t1 : e.time ≤ 253402300799
 q0 : 0 ≤ e.seq
 q1 : e.seq ≤ 9223372036854775807
def RP19 (w w' : World) (e : Ending) (r : Fs.Rp) : Prop :=
 (∃ vo n vc, e = .returned (.agg (rpC r.s (.slice vo n vc) ⟨r.b.toArray⟩ (.slice none 0 0))) ∧ r.fs.length = n ∧ w'.ownsRow w.heap.size 39 2 (.slice vo n vc) n (fC r.fs)) ∧ Below w.heap.size w w'
theorem fw_own19 {w : World} {B n : Nat} {v : Value} {l : List Fd} (h : w.ownsRow B 39 2 v n (fC l)) (hl : l.length = n) : FW w v l := by
 subst hl
 exact FW.of_own h
theorem own_upd19 {w w' : World} {B B' n b : Nat} {v : Value} {l : List Fd} (h : w.ownsRow B 39 2 v n (fC l)) (hu : Upd b w w') (hb : b < B) (hB : B' ≤ B) : w'.ownsRow B' 39 2 v n (fC l) :=
 own_base19 (own_same h (fun j hj => hu.block j (fun e => by have := own_ge19 h j hj; omega))) hB

theorem fw_nil19 (w : World) : FW w (.slice none 0 0) [] := .inl ⟨rfl, rfl⟩

open Go.RowKit Go.Sort

def en0 : Dk.En := ⟨⟨#[]⟩, ⟨#[]⟩, 0, 0⟩
def cfP (x y : Dk.En) : Int := Lib.compareBytes (Dk.key x) (Dk.key y)
theorem cmp_lt : ∀ (a b : List UInt8), Lib.compareBytes a b < 0 ↔ a < b
 | [], [] => by simp [Lib.compareBytes, List.not_lt_nil]
 | [], c :: b => by simp [Lib.compareBytes, List.nil_lt_cons]
 | c :: a, [] => by simp [Lib.compareBytes, List.not_lt_nil]
 | c :: a, d :: b => by
  have ih := cmp_lt a b
  rw [List.cons_lt_cons_iff]
  simp only [Lib.compareBytes]
  by_cases h1 : c < d
  ·rw [if_pos h1]
   exact ⟨fun _ => .inl h1, fun _ => by decide⟩
  ·rw [if_neg h1]
   by_cases h2 : d < c
   ·rw [if_pos h2]
    refine ⟨fun h => absurd h (by decide), ?_⟩
    rintro (h | ⟨h, _⟩)
    ·exact absurd h h1
    ·rw [h] at h2; exact absurd h2 (UInt8.lt_irrefl _)
   ·rw [if_neg h2, ih]
    have h3 : c = d := UInt8.le_antisymm (UInt8.not_lt.1 h2) (UInt8.not_lt.1 h1)
    refine ⟨fun h => .inr ⟨h3, h⟩, ?_⟩
    rintro (h | ⟨_, h⟩)
    ·exact absurd h h1
    ·exact h
theorem lt_cf (x y : Dk.En) : ltOf cfP x y = decide (Dk.key x < Dk.key y) := by
 unfold ltOf cfP
 exact decide_eq_decide.2 (cmp_lt _ _)
theorem swoP : SWO (ltOf cfP) := ⟨fun x => by rw [lt_cf]; exact decide_eq_false (Dk.lt_irrefl _),
 fun x y z h1 h2 => by rw [lt_cf] at *; exact decide_eq_true (Dk.lt_trans (of_decide_eq_true h1) (of_decide_eq_true h2)),
 fun x y z h1 h2 => by
  rw [lt_cf] at *
  refine decide_eq_false fun h => ?_
  rcases Dk.lt_tri (Dk.key x) (Dk.key y) with h3 | h3 | h3
  ·exact (of_decide_eq_false h1) h3
  ·rw [h3] at h; exact (of_decide_eq_false h2) h
  ·exact (of_decide_eq_false h2) (Dk.lt_trans h3 h)⟩

set_option maxHeartbeats 1000000 in
theorem byPath13 (x y : Dk.En) (W : World) : Calls Tryz.prog 178 #[.agg #[.string x.path, .string x.body, .int .i64 x.time, .int .i64 x.seq], .agg #[.string y.path, .string y.body, .int .i64 y.time, .int .i64 y.seq]] W fun e w' => e = .returned (.int .i64 (cfP x y)) ∧ ∃ q os', w' = grow (W.drewN q) os' := by
 have hcon := fun W' => Tryz.strings_Compare x.path y.path W'
 have HCF : Hid (cfP x y = Lib.compareBytes x.path.data.toList y.path.data.toList) := hid' rfl
 generalize Lib.compareBytes x.path.data.toList y.path.data.toList = r at hcon HCF
 go_enter Tryz.func178, Tryz.ntmps178
 go_wp2_with (go_at_call 199; refine (hcon _).mono ?_; rintro e w' ⟨rfl, rfl⟩)
 go_ret
 exact ⟨by rw [HCF.out]; rfl, 0, _, by rw [alloc_eq_grow, alloc_eq_grow, grow_grow]; rfl⟩
section
variable [Inhabited Dk.En]
theorem cmpLaysP (blk off size : Nat) (w : World) : CmpLays Tryz.prog 178 #[] enV 4 cfP blk off size w :=
 fun _ _ _ _ x y => byPath13 x y _

theorem flat_en (l : List Dk.En) : (flatK enV 4 l.toArray).toList = enC l := by
 apply List.ext_getElem?
 intro t
 by_cases ht : t < l.length * 4
 ·obtain ⟨p, hp⟩ : ∃ p, l[t / 4]? = some p := ⟨_, List.getElem?_eq_getElem (by omega)⟩
  have h1 := en_at l (t / 4) p hp (t % 4) (by omega)
  rw [show t / 4 * 4 + t % 4 = t by omega] at h1
  rw [h1]
  have hl : t % 4 < (enV p).length := by simp only [enV, List.length_cons, List.length_nil]; omega
  rw [List.getElem?_eq_getElem hl]
  have hs : t < (flatK enV 4 l.toArray).size := by simp; omega
  have h2 := get_flatK enV 4 l.toArray t (by simpa using ht)
  rw [getElem!_pos _ t hs] at h2
  have h3 : (l.toArray)[t / 4]! = p := by
   have h4 := (List.getElem?_eq_some_iff.1 hp).1
   rw [getElem!_pos l.toArray (t / 4) (by simpa using h4)]
   simpa using (List.getElem?_eq_some_iff.1 hp).2
  rw [h3, getElem!_pos (enV p) (t % 4) hl] at h2
  rw [Array.getElem?_toList, Array.getElem?_eq_getElem hs, h2]
 ·rw [List.getElem?_eq_none (by simp; omega), List.getElem?_eq_none (by rw [enC_length]; omega)]
theorem put_take (n : Nat) (l : List Dk.En) (c : Array Value) (hl : l.length = n) (hc : n * 4 ≤ c.size) : (putCells id 0 (flatK enV 4 l.toArray) c).toList.take (n * 4) = enC l := by
 rw [← flat_en l]
 apply List.ext_getElem?
 intro t
 rw [List.getElem?_take]
 by_cases ht : t < n * 4
 ·rw [if_pos ht]
  have hs : t < (flatK enV 4 l.toArray).size := by simp; omega
  rw [Array.getElem?_toList, Array.getElem?_toList, Array.getElem?_eq_getElem hs]
  unfold putCells
  rw [Array.getElem?_mapIdx, Array.getElem?_eq_getElem (by omega), Option.map_some, if_pos ⟨Nat.zero_le _, by omega⟩, Nat.sub_zero, getElem!_pos _ t hs]
  rfl
 ·rw [if_neg ht, List.getElem?_eq_none (by simp; omega)]
end

end Go.Proofs.YtcfbobegbmcbeaaGreatDoor
