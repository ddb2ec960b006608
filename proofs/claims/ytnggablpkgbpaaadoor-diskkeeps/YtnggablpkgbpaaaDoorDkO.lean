/-
  The code's disk in memory: New, has, Seq, Snap, Get, Remove, and of none: by their contracts.
-/
import Derived.Test.YtnggablpkgbpaaaDoorDkG
import Derived.Test.YtnggablpkgbpaaaDoorDkX
import Derived.Test.YtnggablpkgbpaaaDoorMpS
import Derived.Shelf.SlMaps.Clone
import Derived.Shelf.SlGeneric
import Derived.Ground.SlmcProg
import Derived.Deep.RegionWith
namespace Go.Proofs.YtnggablpkgbpaaaDoor
open Go.RowKit
open Go.ChangeMaps (setBlock heap_setBlock_same heap_setBlock_other)

/-- A path as a key, a file as an element. -/
def pk (k : ByteArray) : Value := .string k
def fk (e : Dk.En) : Value := .agg #[.string e.body, .int .i64 e.time, .int .i64 e.seq]
theorem ky : Ky Tryd.prog 9 pk .string := ⟨Tryd.underlying9, fun _ => trivial, fun a b h => by unfold pk at h; injection h⟩
theorem zeroF (W : World) : (zeroValue 38).run Tryd.prog W = .ok (.agg #[.string ⟨#[]⟩, .int .i64 0, .int .i64 0]) W := by kernel_rfl
theorem utm : Tryd.prog.underlying 54 = some (.map 9 38) := Tryd.underlying54
/-- What a map of files holds at a path. -/
def fg (es : List Dk.En) (k : ByteArray) : Option Dk.En := Dk.get k.data.toList es
theorem ba_ext {a b : ByteArray} (h : a.data.toList = b.data.toList) : a = b := by
  apply ByteArray.ext
  exact Array.toList_inj.1 h
/-- A disk, or a snapshot: an object and its map. -/
structure CX (T : TypeId) (w : World) (B b m : Nat) (q : Int) (es : List Dk.En) (E : Array MapEntry) (clock : Nat) : Prop where
  lo : B ≤ b
  lm : B ≤ m
  hd : Ar w b T #[.map (some m), .int .i64 q]
  mp : Mp pk fk w m (fg es) es.length E clock
  ok : Dk.Ok es
  le : es.length ≤ 1024
def CD (w : World) (B b : Nat) (K : Nat → Prop) (q : Int) (es : List Dk.En) : Prop := ∃ m E clock, CX 56 w B b m q es E clock ∧ ∀ k, K k ↔ k = b ∨ k = m
def CS (w : World) (B b : Nat) (K : Nat → Prop) (q : Int) (es : List Dk.En) : Prop := ∃ m E clock, CX 62 w B b m q es E clock ∧ ∀ k, K k ↔ k = b ∨ k = m
theorem CX.same {T : TypeId} {w w' : World} {B b m : Nat} {q : Int} {es : List Dk.En} {E : Array MapEntry} {clock : Nat} (h : CX T w B b m q es E clock) (h1 : w'.heap[b]? = w.heap[b]?) (h2 : w'.heap[m]? = w.heap[m]?) : CX T w' B b m q es E clock :=
  ⟨h.lo, h.lm, by have := h.hd; unfold Ar at *; rw [h1]; exact this, h.mp.other h2, h.ok, h.le⟩
theorem CX.keep {T : TypeId} {w w' : World} {B b m : Nat} {q : Int} {es : List Dk.En} {E : Array MapEntry} {clock : Nat} (h : CX T w B b m q es E clock) (hb : Below w.heap.size w w') : CX T w' B b m q es E clock :=
  h.same (hb.block b h.hd.lt) (hb.block m h.mp.lt)
theorem CX.apart {T : TypeId} {w : World} {B b m : Nat} {q : Int} {es : List Dk.En} {E : Array MapEntry} {clock : Nat} (h : CX T w B b m q es E clock) : b ≠ m := by
  rintro rfl
  have h1 := h.hd
  unfold Ar at h1
  rw [h.mp.hd] at h1
  cases h1
theorem CD.lt {w : World} {B b : Nat} {K : Nat → Prop} {q : Int} {es : List Dk.En} (h : CD w B b K q es) : ∀ k, K k → B ≤ k ∧ k < w.heap.size := by
  obtain ⟨m, E, clock, h, hk⟩ := h
  intro k hK
  rcases (hk k).1 hK with rfl | rfl
  · exact ⟨h.lo, h.hd.lt⟩
  · exact ⟨h.lm, h.mp.lt⟩
theorem CS.lt {w : World} {B b : Nat} {K : Nat → Prop} {q : Int} {es : List Dk.En} (h : CS w B b K q es) : ∀ k, K k → B ≤ k ∧ k < w.heap.size := by
  obtain ⟨m, E, clock, h, hk⟩ := h
  intro k hK
  rcases (hk k).1 hK with rfl | rfl
  · exact ⟨h.lo, h.hd.lt⟩
  · exact ⟨h.lm, h.mp.lt⟩
theorem CD.lb {w : World} {B b : Nat} {K : Nat → Prop} {q : Int} {es : List Dk.En} (h : CD w B b K q es) : B ≤ w.heap.size := by
  obtain ⟨m, E, clock, h, hk⟩ := h
  have h1 := h.lo
  have h2 := h.hd.lt
  omega
theorem CD.ok {w : World} {B b : Nat} {K : Nat → Prop} {q : Int} {es : List Dk.En} (h : CD w B b K q es) : Dk.Ok es ∧ es.length ≤ 1024 := by
  obtain ⟨m, E, clock, h, hk⟩ := h
  exact ⟨h.ok, h.le⟩
theorem CS.ok {w : World} {B b : Nat} {K : Nat → Prop} {q : Int} {es : List Dk.En} (h : CS w B b K q es) : Dk.Ok es ∧ es.length ≤ 1024 := by
  obtain ⟨m, E, clock, h, hk⟩ := h
  exact ⟨h.ok, h.le⟩
theorem CD.other {S K : Nat → Prop} {w w' : World} {B b : Nat} {q : Int} {es : List Dk.En} (h : CD w B b K q es) (hf : LF S w w') (hs : ∀ k, K k → ¬ S k) : CD w' B b K q es := by
  obtain ⟨m, E, clock, h, hk⟩ := h
  exact ⟨m, E, clock, h.same (hf.block b h.hd.lt (hs b ((hk b).2 (.inl rfl)))) (hf.block m h.mp.lt (hs m ((hk m).2 (.inr rfl)))), hk⟩
theorem CS.other {S K : Nat → Prop} {w w' : World} {B b : Nat} {q : Int} {es : List Dk.En} (h : CS w B b K q es) (hf : LF S w w') (hs : ∀ k, K k → ¬ S k) : CS w' B b K q es := by
  obtain ⟨m, E, clock, h, hk⟩ := h
  exact ⟨m, E, clock, h.same (hf.block b h.hd.lt (hs b ((hk b).2 (.inl rfl)))) (hf.block m h.mp.lt (hs m ((hk m).2 (.inr rfl)))), hk⟩
theorem CX.ty {X : TypeId} {w : World} {B b m : Nat} {q : Int} {es : List Dk.En} {E : Array MapEntry} {clock : Nat} (h : CX X w B b m q es E clock) {k : Nat} {T : TypeId} {cs : Array Value} (hk : k = b ∨ k = m) (hc : w.heap[k]? = some (.cells cs T (0, 0))) : T = X := by
  rcases hk with rfl | rfl
  · have h1 := h.hd
    unfold Ar at h1
    rw [hc] at h1
    injection h1 with h1
    injection h1
  · rw [h.mp.hd] at hc
    cases hc
/-- Its blocks are no rows of files and no box of the laws' own. -/
theorem CD.ty {w : World} {B b : Nat} {K : Nat → Prop} {q : Int} {es : List Dk.En} (h : CD w B b K q es) : ∀ k T cs, K k → w.heap[k]? = some (.cells cs T (0, 0)) → T ≠ 45 ∧ T ≠ 29 ∧ T ≠ 38 ∧ T ≠ 31 := by
  obtain ⟨m, E, clock, h, hk⟩ := h
  intro k T cs hK hc
  obtain rfl := h.ty ((hk k).1 hK) hc
  decide
theorem CS.ty {w : World} {B b : Nat} {K : Nat → Prop} {q : Int} {es : List Dk.En} (h : CS w B b K q es) : ∀ k T cs, K k → w.heap[k]? = some (.cells cs T (0, 0)) → T ≠ 45 ∧ T ≠ 29 ∧ T ≠ 38 ∧ T ≠ 31 := by
  obtain ⟨m, E, clock, h, hk⟩ := h
  intro k T cs hK hc
  obtain rfl := h.ty ((hk k).1 hK) hc
  decide
theorem CX.look {T : TypeId} {w : World} {B b m : Nat} {q : Int} {es : List Dk.En} {E : Array MapEntry} {clock : Nat} (h : CX T w B b m q es E clock) (x : ByteArray) :
    (Instr.lookup 54 (.map (some m)) (.string x) true).run Tryd.prog w = .ok (.tuple #[fileV (Dk.get x.data.toList es), .bool (Dk.has x.data.toList es)]) w := by
  cases hg : Dk.get x.data.toList es with
  | none =>
    have := h.mp.look_no ky utm zeroF true (k := x) hg
    rw [Dk.get_has h.ok, hg]
    simpa [pk, fileV] using this
  | some e =>
    have := h.mp.look_yes ky utm true (k := x) hg
    rw [Dk.get_has h.ok, hg]
    simpa [pk, fileV, fk] using this
theorem fileV_sh (o : Option Dk.En) : ∃ y i j, fileV o = .agg #[.string y, .int .i64 i, .int .i64 j] := by
  cases o with
  | none => exact ⟨_, _, _, rfl⟩
  | some e => exact ⟨_, _, _, rfl⟩

set_option maxHeartbeats 1000000 in
theorem cnew13 (w : World) : Calls Tryd.prog 11 #[] w fun e w' => (∃ b K, e = .returned (.pointer (some ⟨b, 0, none⟩)) ∧ CD w' w.heap.size b K 0 []) ∧ Below w.heap.size w w' := by
  have hmm : ∀ W : World, (Instr.makeMap 54 none).run Tryd.prog W = .ok (.map (some W.heap.size)) (W.alloc (.map #[] 0)) := fun _ => rfl
  go_enter Tryd.func11, Tryd.ntmps11
  go_wp2_with (refine wpl_box 56 _ rfl rfl #[.map (some w.heap.size), .int .i64 0] (by kernel_rfl) ?_)
  intro b w1 hb ha hbl
  have hm := Mp.made w pk fk
  have hm1 := hm.other (w' := w1) (hbl.block _ (Nat.lt_succ_self _))
  have HB := hid' hb
  have HA := hid' ha
  have HM := hid' hm1
  have HBL : Hid (Below w.heap.size w w1) := hid' (below_two ((Below.refl _ _).alloc (Nat.le_refl _) _) (by simpa using hbl))
  have HS : Hid (w.heap.size ≤ b) := hid' (by omega)
  clear hb ha hbl hm hm1 hmm
  go_wp2
  go_ret
  exact ⟨⟨b, fun k => k = b ∨ k = w.heap.size, rfl, ⟨_, _, _, ⟨HS.out, Nat.le_refl _, HA.out, HM.out, List.Pairwise.nil, by simp⟩, fun _ => Iff.rfl⟩⟩, HBL.out⟩

set_option maxHeartbeats 1000000 in
theorem chas13 {B b m : Nat} {q : Int} {es : List Dk.En} {E : Array MapEntry} {clock : Nat} (x : ByteArray) (r : Bool) (hr : Dk.has x.data.toList es = r) (w : World) (h : CX 56 w B b m q es E clock) :
    Calls Tryd.prog 29 #[.pointer (some ⟨b, 0, none⟩), .string x] w fun e w' => e = .returned (.bool r) ∧ Below w.heap.size w w' := by
  have hlk := h.look x
  have c0 := h.hd.cell 0 _ rfl
  rw [hr] at hlk
  obtain ⟨y, i, j, hf⟩ := fileV_sh (Dk.get x.data.toList es)
  rw [hf] at hlk
  clear h hf hr
  go_enter Tryd.func29, Tryd.ntmps29
  go_wp2
  go_ret
  exact ⟨rfl, (Below.refl _ _).alloc (Nat.le_refl _) _⟩

set_option maxHeartbeats 1000000 in
theorem cseq13 (B b : Nat) (K : Nat → Prop) (q : Int) (es : List Dk.En) (w : World) (h : CD w B b K q es) : Calls Tryd.prog 20 #[.pointer (some ⟨b, 0, none⟩)] w fun e w' => e = .returned (.int .i64 q) ∧ w' = w := by
  obtain ⟨m, E, clock, h, _⟩ := h
  have c1 := h.hd.cell 1 _ rfl
  clear h
  go_enter Tryd.func20, Tryd.ntmps20
  go_wp2
  go_ret
  exact ⟨rfl, rfl⟩

set_option maxHeartbeats 1000000 in
theorem sseq13 (B s : Nat) (K : Nat → Prop) (q : Int) (es : List Dk.En) (w : World) (h : CS w B s K q es) : Calls Tryd.prog 21 #[.pointer (some ⟨s, 0, none⟩)] w fun e w' => e = .returned (.int .i64 q) ∧ w' = w := by
  obtain ⟨m, E, clock, h, _⟩ := h
  have c1 := h.hd.cell 1 _ rfl
  clear h
  go_enter Tryd.func21, Tryd.ntmps21
  go_wp2
  go_ret
  exact ⟨rfl, rfl⟩

set_option maxHeartbeats 1000000 in
theorem cseqN13 (w : World) : Calls Tryd.prog 20 #[.pointer none] w fun e w' => e = .returned (.int .i64 0) ∧ w' = w := by
  go_enter Tryd.func20, Tryd.ntmps20
  go_wp2
  go_ret
  exact ⟨rfl, rfl⟩

set_option maxHeartbeats 1000000 in
theorem sseqN13 (w : World) : Calls Tryd.prog 21 #[.pointer none] w fun e w' => e = .returned (.int .i64 0) ∧ w' = w := by
  go_enter Tryd.func21, Tryd.ntmps21
  go_wp2
  go_ret
  exact ⟨rfl, rfl⟩

set_option maxHeartbeats 1000000 in
theorem csnapN13 (w : World) : Calls Tryd.prog 17 #[.pointer none] w fun e w' => e = .returned (.pointer none) ∧ w' = w := by
  go_enter Tryd.func17, Tryd.ntmps17
  go_wp2
  go_ret
  exact ⟨rfl, rfl⟩

set_option maxHeartbeats 1000000 in
theorem slistN13 (x : ByteArray) (w : World) : Calls Tryd.prog 22 #[.pointer none, .string x] w fun e w' => e = .returned (.slice none 0 0) ∧ w' = w := by
  go_enter Tryd.func22, Tryd.ntmps22
  go_wp2
  go_ret
  exact ⟨rfl, rfl⟩

set_option maxHeartbeats 1000000 in
theorem cremN13 (x : ByteArray) (w : World) : Calls Tryd.prog 12 #[.pointer none, .string x] w fun e w' => e = .returned (.bool false) ∧ w' = w := by
  go_enter Tryd.func12, Tryd.ntmps12
  go_wp2
  go_ret
  exact ⟨rfl, rfl⟩

set_option maxHeartbeats 1000000 in
theorem cputN13 (x y : ByteArray) (t : Int) (w : World) : Calls Tryd.prog 14 #[.pointer none, .string x, .string y, .int .i64 t] w fun e w' => e = .returned (.int .i64 2) ∧ w' = w := by
  go_enter Tryd.func14, Tryd.ntmps14
  go_wp2
  go_ret
  exact ⟨rfl, rfl⟩

end Go.Proofs.YtnggablpkgbpaaaDoor
