/-
  A row of files sorted by their paths: slices.SortFunc with byPath: by its contract.
  slices.SortFunc of a row of files of one's own: by its contract.
  The code's disk: Get, Snap, Remove: by their contracts.
  The code's Path: strings.Split at a slash, plain, Path: by their contracts.
  The code's disk: Put: by its contract.
  The code's List: by its contract.
  The laws' awake, of the disk.
-/
import Derived.Test.YtgbnelglhkfdfaaGreatDoorFtL
import Derived.Test.YtgbnelglhkfdfaaGreatDoorShelf
import Derived.Test.YtgbnelglhkfdfaaGreatDoorShSort
import Derived.Test.YtgbnelglhkfdfaaGreatDoorShClone
import Derived.Deep.RegionHeld3
import Derived.Test.YtgbnelglhkfdfaaGreatDoorFtK
import Derived.Shelf.Strings.Split
namespace Go.Proofs.YtgbnelglhkfdfaaGreatDoor
open Go.RowKit Go.Sort

def en0 : Dk.En := ⟨⟨#[]⟩, ⟨#[]⟩, 0, 0⟩
theorem enNe : Nonempty Dk.En := ⟨en0⟩
def cfP (x y : Dk.En) : Int := Lib.compareBytes (Dk.key x) (Dk.key y)
theorem cmp_lt : ∀ (a b : List UInt8), Lib.compareBytes a b < 0 ↔ a < b
  | [], [] => by simp [Lib.compareBytes, List.not_lt_nil]
  | [], c :: b => by simp [Lib.compareBytes, List.nil_lt_cons]
  | c :: a, [] => by simp [Lib.compareBytes, List.not_lt_nil]
  | c :: a, d :: b => by
    have ih := cmp_lt a b
    rw [List.cons_lt_cons_iff]
    simp only [Lib.compareBytes]
    by_cases h1 : c < d
    · rw [if_pos h1]
      exact ⟨fun _ => .inl h1, fun _ => by decide⟩
    · rw [if_neg h1]
      by_cases h2 : d < c
      · rw [if_pos h2]
        refine ⟨fun h => absurd h (by decide), ?_⟩
        rintro (h | ⟨h, _⟩)
        · exact absurd h h1
        · rw [h] at h2; exact absurd h2 (UInt8.lt_irrefl _)
      · rw [if_neg h2, ih]
        have h3 : c = d := UInt8.le_antisymm (UInt8.not_lt.1 h2) (UInt8.not_lt.1 h1)
        refine ⟨fun h => .inr ⟨h3, h⟩, ?_⟩
        rintro (h | ⟨_, h⟩)
        · exact absurd h h1
        · exact h
theorem lt_cf (x y : Dk.En) : ltOf cfP x y = decide (Dk.key x < Dk.key y) := by
  unfold ltOf cfP
  exact decide_eq_decide.2 (cmp_lt _ _)
theorem swoP : SWO (ltOf cfP) := ⟨fun x => by rw [lt_cf]; exact decide_eq_false (Dk.lt_irrefl _),
  fun x y z h1 h2 => by rw [lt_cf] at *; exact decide_eq_true (Dk.lt_trans (of_decide_eq_true h1) (of_decide_eq_true h2)),
  fun x y z h1 h2 => by
    rw [lt_cf] at *
    refine decide_eq_false fun h => ?_
    rcases Dk.lt_tri (Dk.key x) (Dk.key y) with h3 | h3 | h3
    · exact (of_decide_eq_false h1) h3
    · rw [h3] at h; exact (of_decide_eq_false h2) h
    · exact (of_decide_eq_false h2) (Dk.lt_trans h3 h)⟩

set_option maxHeartbeats 1000000 in
theorem byPath13 (x y : Dk.En) (W : World) : Calls Tryz.prog 66 #[.agg #[.string x.path, .string x.body, .int .i64 x.time, .int .i64 x.seq], .agg #[.string y.path, .string y.body, .int .i64 y.time, .int .i64 y.seq]] W fun e w' => e = .returned (.int .i64 (cfP x y)) ∧ ∃ q os', w' = grow (W.drewN q) os' := by
  have hcon := fun W' => Tryz.strings_Compare x.path y.path W'
  have HCF : Hid (cfP x y = Lib.compareBytes x.path.data.toList y.path.data.toList) := hid' rfl
  generalize Lib.compareBytes x.path.data.toList y.path.data.toList = r at hcon HCF
  go_enter Tryz.func66, Tryz.ntmps66
  go_wp2_with (go_at_call 94; refine (hcon _).mono ?_; rintro e w' ⟨rfl, rfl⟩)
  go_ret
  exact ⟨by rw [HCF.out]; rfl, 0, _, by rw [alloc_eq_grow, alloc_eq_grow, grow_grow]; rfl⟩
section
variable [Inhabited Dk.En]
theorem cmpLaysP (blk off size : Nat) (w : World) : CmpLays Tryz.prog 66 #[] enV 4 cfP blk off size w :=
  fun _ _ _ _ x y => byPath13 x y _

theorem flat_en (l : List Dk.En) : (flatK enV 4 l.toArray).toList = enC l := by
  apply List.ext_getElem?
  intro t
  by_cases ht : t < l.length * 4
  · obtain ⟨p, hp⟩ : ∃ p, l[t / 4]? = some p := ⟨_, List.getElem?_eq_getElem (by omega)⟩
    have h1 := en_at l (t / 4) p hp (t % 4) (by omega)
    rw [show t / 4 * 4 + t % 4 = t by omega] at h1
    rw [h1]
    have hl : t % 4 < (enV p).length := by simp only [enV, List.length_cons, List.length_nil]; omega
    rw [List.getElem?_eq_getElem hl]
    have hs : t < (flatK enV 4 l.toArray).size := by simp; omega
    have h2 := get_flatK enV 4 l.toArray t (by simpa using ht)
    rw [getElem!_pos _ t hs] at h2
    have h3 : (l.toArray)[t / 4]! = p := by
      have h4 := (List.getElem?_eq_some_iff.1 hp).1
      rw [getElem!_pos l.toArray (t / 4) (by simpa using h4)]
      simpa using (List.getElem?_eq_some_iff.1 hp).2
    rw [h3, getElem!_pos (enV p) (t % 4) hl] at h2
    rw [Array.getElem?_toList, Array.getElem?_eq_getElem hs, h2]
  · rw [List.getElem?_eq_none (by simp; omega), List.getElem?_eq_none (by rw [enC_length]; omega)]
theorem put_take (n : Nat) (l : List Dk.En) (c : Array Value) (hl : l.length = n) (hc : n * 4 ≤ c.size) : (putCells id 0 (flatK enV 4 l.toArray) c).toList.take (n * 4) = enC l := by
  rw [← flat_en l]
  apply List.ext_getElem?
  intro t
  rw [List.getElem?_take]
  by_cases ht : t < n * 4
  · rw [if_pos ht]
    have hs : t < (flatK enV 4 l.toArray).size := by simp; omega
    rw [Array.getElem?_toList, Array.getElem?_toList, Array.getElem?_eq_getElem hs]
    unfold putCells
    rw [Array.getElem?_mapIdx, Array.getElem?_eq_getElem (by omega), Option.map_some, if_pos ⟨Nat.zero_le _, by omega⟩, Nat.sub_zero, getElem!_pos _ t hs]
    rfl
  · rw [if_neg ht, List.getElem?_eq_none (by simp; omega)]
end

end Go.Proofs.YtgbnelglhkfdfaaGreatDoor

namespace Go.Proofs.YtgbnelglhkfdfaaGreatDoor
open Go.RowKit Go.Sort

theorem map_block {w : World} {g : Nat} {cur : Array Value} {T : TypeId} (f : Array Value → Array Value) (hh : w.heap[g]? = some (.cells cur T (0, 0))) : (mapBlock w g f).heap[g]? = some (.cells (f cur) T (0, 0)) := by
  unfold mapBlock
  simp only [Array.getElem?_modify, if_true, hh, Option.map_some, onCells]
theorem map_other {w : World} {g k : Nat} (f : Array Value → Array Value) (hk : k ≠ g) : (mapBlock w g f).heap[k]? = w.heap[k]? := by
  unfold mapBlock
  simp only [Array.getElem?_modify]
  rw [if_neg (fun e => hk e.symm)]
theorem map_size {w : World} {g : Nat} (f : Array Value → Array Value) : (mapBlock w g f).heap.size = w.heap.size := by simp [mapBlock]

section
variable [Inhabited Dk.En]
theorem holds_own {w : World} {g m : Nat} {cur : Array Value} {T : TypeId} {l : List Dk.En} (hl : l.length = m) (hh : w.heap[g]? = some (.cells cur T (0, 0))) (hc : cur.toList.take (m * 4) = enC l) : HoldsK enV 4 w g 0 l.toArray := by
  intro j hj
  have hj2 : j < m * 4 := by simp at hj; omega
  have hA : Ar w g T cur := hh
  rw [Nat.zero_add]
  refine ⟨hA.cell j _ ?_, hA.free j⟩
  have h1 : (enC l)[j]? = cur[j]? := by rw [← hc, List.getElem?_take, if_pos hj2, Array.getElem?_toList]
  rw [← h1, ← flat_en, Array.getElem?_toList, Array.getElem?_eq_getElem hj, getElem!_pos _ j hj]
  rfl
theorem csort_some (B g m cap : Nat) (cur : Array Value) (l : List Dk.En) (hl : l.length = m) (w : World) (hB : B ≤ g) (hh : w.heap[g]? = some (.cells cur 48 (0, 0))) (h1 : m ≤ cap) (h2 : cap ≤ maxLen) (h3 : cur.size = cap * 4) (hc : cur.toList.take (m * 4) = enC l) (hm : m ≤ 1048576) :
    Calls Tryz.prog 65 #[.slice (some ⟨g, 0, none⟩) m cap, .func (.func 66) #[] #[]] w fun e w' => e = .returned (.tuple #[]) ∧ (∃ l', l'.Perm l ∧ l'.Pairwise (fun a b => ¬ Dk.key b < Dk.key a) ∧ w'.ownsRow B 48 4 (.slice (some ⟨g, 0, none⟩) m cap) m (enC l')) ∧ LF (fun k => k = g) w w' := by
  have hg : g < w.heap.size := (Array.getElem?_eq_some_iff.1 hh).1
  have eg : ∀ args w, (callFunc 66 args).run Tryz.prog w = .ok (.enter 66 args) w := enters_of Tryz.func66 (by kernel_rfl) rfl
  have hcon := AnyQ.slices_SortFunc Tryz.lsort 4 Tryz.isAgg48 Tryz.sizeOf48 enV (fun _ => rfl) (fun x v hv => by simp only [enV, List.mem_cons, List.not_mem_nil, or_false] at hv; rcases hv with rfl | rfl | rfl | rfl <;> rfl) cfP swoP 66 #[] g 0 cap l.toArray w eg (cmpLaysP g 0 l.toArray.size w) (holds_own hl hh hc) hg (by simp; omega)
  have e0 : l.toArray.size = m := by simpa using hl
  rw [e0] at hcon
  refine Calls.mono (show Calls Tryz.prog 65 _ _ _ from hcon) ?_
  rintro e w' ⟨he, d', n, os, hp, hs, hw⟩
  have hds : d'.size = m := hp.1.trans e0
  have hdl : d'.toList.length = m := by simpa using hds
  have hpm : d'.toList.Perm l := by
    have := hp.2.2
    rw [← e0, show (l.toArray.extract 0 l.toArray.size) = l.toArray by simp, show d'.extract 0 l.toArray.size = d' by rw [e0, ← hds]; simp] at this
    simpa using this
  have hw1 : (putRowK enV 4 (Sort.ahead w n) g 0 d').heap[g]? = some (.cells (putCells id 0 (flatK enV 4 d') cur) 48 (0, 0)) := map_block _ hh
  have hsz : (putRowK enV 4 (Sort.ahead w n) g 0 d').heap.size = w.heap.size := map_size _
  have hw2 : w'.heap[g]? = some (.cells (putCells id 0 (flatK enV 4 d') cur) 48 (0, 0)) := by
    rw [hw]
    unfold sortWorldK
    rw [heap_grow_old _ _ (by rw [hsz]; exact hg)]
    exact hw1
  refine ⟨he, ⟨d'.toList, hpm, ?_, by rw [enC_length, hdl], .inr ⟨g, cap, _, rfl, hB, hw2, h1, h2, ?_, ?_⟩⟩, ?_⟩
  · rw [List.pairwise_iff_getElem]
    intro i j hi hj hij
    have := hs i j (Nat.zero_le _) hij (by simpa [hds] using hj)
    rw [lt_cf, getElem!_pos d' i (by simpa using hi), getElem!_pos d' j (by simpa using hj)] at this
    simpa using of_decide_eq_false this
  · simp [putCells, h3]
  · have := put_take m d'.toList cur hdl (by omega)
    simpa using this
  · have hsw : w'.heap.size = w.heap.size + os.size := by rw [hw]; unfold sortWorldK; rw [size_grow, hsz]
    refine ⟨by rw [hw]; rfl, by rw [hw]; rfl, by rw [hw]; rfl, by omega, ?_⟩
    intro k hk hne
    rw [hw]
    unfold sortWorldK
    rw [heap_grow_old _ _ (by rw [hsz]; exact hk)]
    exact map_other _ hne
end

theorem csort13 (B m rc : Nat) (ro : Option Addr) (l : List Dk.En) (hl : l.length = m) (w : World) (h : w.ownsRow B 48 4 (.slice ro m rc) m (enC l)) (hm : m ≤ 1048576) :
    Calls Tryz.prog 65 #[.slice ro m rc, .func (.func 66) #[] #[]] w fun e w' => e = .returned (.tuple #[]) ∧ (∃ l', l'.Perm l ∧ l'.Pairwise (fun a b => ¬ Dk.key b < Dk.key a) ∧ w'.ownsRow B 48 4 (.slice ro m rc) m (enC l')) ∧ LF (fun k => (Value.slice ro m rc).ownBlock = some k) w w' := by
  rcases h.2 with ⟨h1, rfl⟩ | ⟨g, cap, cur, h1, hB, hh, h2, h3, h4, h5⟩
  · obtain rfl : l = [] := List.eq_nil_of_length_eq_zero hl
    refine (AnyF.slices_SortFunc_none Tryz.lsort ro rc (.func (.func 66) #[] #[]) w).mono ?_
    rintro e w' ⟨he, rfl⟩
    exact ⟨he, ⟨[], List.Perm.refl _, List.Pairwise.nil, h⟩, LF.refl _ _⟩
  · injection h1 with h1 _ h6
    subst h1 h6
    refine (@csort_some ⟨en0⟩ B g m rc cur l hl w hB hh h2 h3 h4 h5 hm).mono ?_
    rintro e w' ⟨he, h7, h8⟩
    exact ⟨he, h7, ⟨h8.os, h8.tape, h8.output, h8.size, fun k hk hn => h8.block k hk (fun e => hn (by rw [e]; rfl))⟩⟩

end Go.Proofs.YtgbnelglhkfdfaaGreatDoor

namespace Go.Proofs.YtgbnelglhkfdfaaGreatDoor
open Go.RowKit
open Go.ChangeMaps (setBlock heap_setBlock_same heap_setBlock_other)

theorem fdAr {w : World} {b : Nat} {x0 x1 x2 : Value} (h : Ar w b 31 #[x0, x1, x2]) : ∀ W, Below w.heap.size w W → (loadVar 31 ⟨b, 0, none⟩).run Tryz.prog W = .ok (.agg #[x0, x1, x2]) W := fun _ hW => dldF (h.keep hW)

set_option maxHeartbeats 2000000 in
theorem sget13 (B s : Nat) (K : Nat → Prop) (q : Int) (es : List Dk.En) (x : ByteArray) (w : World) (h : CS w B s K q es) (_hx : x.size ≤ 140737488355328) : Calls Tryz.prog 27 #[.pointer (some ⟨s, 0, none⟩), .string x] w fun e w' => e = .returned (.tuple #[fileV (Dk.get x.data.toList es), .bool (Dk.has x.data.toList es)]) ∧ Below w.heap.size w w' := by
  obtain ⟨m, E, clock, h, _⟩ := h
  obtain ⟨y, i, j, hf⟩ := fileV_sh (Dk.get x.data.toList es)
  obtain ⟨r, hr⟩ : ∃ r, Dk.has x.data.toList es = r := ⟨_, rfl⟩
  have HF := hid' hf
  have HR := hid' hr
  have H := hid' h
  clear h hf hr
  go_enter Tryz.func27, Tryz.ntmps27
  go_wp2_with (refine wpl_alloc 31 rfl rfl #[.string ⟨#[]⟩, .int .i64 0, .int .i64 0] dzeroF ?_)
  intro b0 w0 hb0 ha0 hbe0
  have HX := hid' ha0
  have HB0 := hid' hbe0
  have HG0 := hid' hb0
  have HC := hid' (H.out.keep hbe0)
  have hlk := HC.out.look x
  have c0 := HC.out.hd.cell 0 _ rfl
  rw [HF.out, HR.out] at hlk
  clear hb0 ha0 hbe0
  go_upto_region 4 with fail
  have HB1 : Hid (Below w0.heap.size w0 (w0.alloc (.cells #[.string y, .int .i64 i, .int .i64 j] 31))) := hid' ((Below.refl _ _).alloc (Nat.le_refl _) _)
  have HA1 : Hid (Ar (w0.alloc (.cells #[.string y, .int .i64 i, .int .i64 j] 31)) w0.heap.size 31 #[.string y, .int .i64 i, .int .i64 j]) := hid' (heap_alloc_last w0 _)
  have HX1 := hid' (HX.out.keep HB1.out)
  have HB2 := hid' (below_two HB0.out HB1.out)
  obtain ⟨fb, hfb⟩ : ∃ fb, w0.heap.size = fb := ⟨_, rfl⟩
  rw [hfb] at HA1 ⊢
  generalize w0.alloc (.cells #[.string y, .int .i64 i, .int .i64 j] 31) = w1 at *
  have hl := dldF HA1.out
  have p0 := HA1.out.cell 0 _ rfl
  have p1 := HA1.out.cell 1 _ rfl
  have p2 := HA1.out.cell 2 _ rfl
  clear hlk c0 HB1 hfb HC HX
  go_wp2_with (refine wpl_store 31 _ _ rfl rfl b0 #[.string y, .int .i64 i, .int .i64 j] (by kernel_rfl) (by kernel_rfl) _ _ HX1.out dsizeF rfl (by simp [Value.oneCell']) ?_)
  intro w2 ha2 hu2
  have hld := dldF ha2
  have HB3 := hid' (HB2.out.trans (hu2.below HG0.out))
  clear ha2 hu2 hl p0 p1 p2
  go_wp2
  refine bodyPost_ret (v := .tuple #[.agg #[.string y, .int .i64 i, .int .i64 j], .bool r]) (by simp [results, Tryz.results27, asAddr, hld]) rfl ⟨by rw [HF.out, HR.out], HB3.out⟩

set_option maxHeartbeats 2000000 in
theorem sgetN13 (x : ByteArray) (w : World) : Calls Tryz.prog 27 #[.pointer none, .string x] w fun e w' => e = .returned (.tuple #[fileV none, .bool false]) ∧ Below w.heap.size w w' := by
  go_enter Tryz.func27, Tryz.ntmps27
  go_wp2_with (refine wpl_alloc 31 rfl rfl #[.string ⟨#[]⟩, .int .i64 0, .int .i64 0] dzeroF ?_)
  intro b0 w0 hb0 ha0 hbe0
  have HX := hid' ha0
  have HB0 := hid' hbe0
  have HG0 := hid' hb0
  clear hb0 ha0 hbe0
  go_wp2_with (refine wpl_store 31 _ _ rfl rfl b0 #[.string ⟨#[]⟩, .int .i64 0, .int .i64 0] (by kernel_rfl) (by kernel_rfl) _ _ HX.out dsizeF rfl (by simp [Value.oneCell']) ?_)
  intro w2 ha2 hu2
  have hld := dldF ha2
  have HB2 := hid' (HB0.out.trans (hu2.below HG0.out))
  clear ha2 hu2
  go_wp2
  refine bodyPost_ret (v := .tuple #[.agg #[.string ⟨#[]⟩, .int .i64 0, .int .i64 0], .bool false]) (by simp [results, Tryz.results27, asAddr, hld]) rfl ⟨rfl, HB2.out⟩

theorem cs_alloc {w : World} {b : Nat} {u v : Value} (h : w.cell? ⟨b, 0, none⟩ = some u ∧ w.cell? ⟨b, 1, none⟩ = some v) (o : Obj) : (w.alloc o).cell? ⟨b, 0, none⟩ = some u ∧ (w.alloc o).cell? ⟨b, 1, none⟩ = some v :=
  ⟨(World.cell?_alloc_some w _ o (by rw [h.1]; rfl)).trans h.1, (World.cell?_alloc_some w _ o (by rw [h.2]; rfl)).trans h.2⟩
theorem clone13 (m : Nat) (E : Array MapEntry) (clock : Nat) (w : World) (hb : w.heap[m]? = some (.map E clock)) : Calls Tryz.prog 25 #[.map (some m)] w fun e w' => e = .returned (.map (some w.heap.size)) ∧ w' = w.alloc (.map E clock) :=
  AnyW.maps_Clone Tryz.lclone m E clock w hb

set_option maxHeartbeats 2000000 in
theorem csnap13 (B b : Nat) (K : Nat → Prop) (q : Int) (es : List Dk.En) (w : World) (h : CD w B b K q es) : Calls Tryz.prog 13 #[.pointer (some ⟨b, 0, none⟩)] w fun e w' => (∃ s Ks, e = .returned (.pointer (some ⟨s, 0, none⟩)) ∧ CS w' w.heap.size s Ks q es) ∧ Below w.heap.size w w' := by
  obtain ⟨m, E, clock, h, _⟩ := h
  have H := hid' h
  have hS : w.drew.cell? ⟨b, 0, none⟩ = some (.map (some m)) ∧ w.drew.cell? ⟨b, 1, none⟩ = some (.int .i64 q) := ⟨h.hd.cell 0 _ rfl, h.hd.cell 1 _ rfl⟩
  clear h
  go_enter Tryz.func13, Tryz.ntmps13
  go_upto_region 3 with fail
  go_region_held3 (fun W => W.cell? ⟨b, 0, none⟩ = some (.map (some m)) ∧ W.cell? ⟨b, 1, none⟩ = some (.int .i64 q)) (first | assumption | exact cs_alloc (by assumption) _) (first
    | (go_at_call 25; refine (clone13 m E clock w.drew H.out.mp.hd).mono ?_; rintro e w1 ⟨rfl, hw1⟩; have hb1 : Below w.heap.size w w1 := (by rw [hw1]; exact ((Below.refl _ w).drew).alloc (Nat.le_refl _) _); have hS1 := And.intro ((H.out.keep hb1).hd.cell 0 _ rfl) ((H.out.keep hb1).hd.cell 1 _ rfl); have HB1 := hid' hb1; have HM1 : Hid (Mp pk fk w1 w.heap.size (fg es) es.length E clock) := hid' (by rw [hw1]; exact ⟨(MapKept.heap_alloc w.drew _).1, H.out.mp.sz, H.out.mp.all, H.out.mp.nd, H.out.mp.has, H.out.mp.st, H.out.mp.nb⟩); clear hb1 hw1))
  all_goals
    have HA2 : Hid (Ar (w1.alloc (.cells #[.map (some w.heap.size), .int .i64 q] 62)) w1.heap.size 62 #[.map (some w.heap.size), .int .i64 q]) := hid' (heap_alloc_last w1 _)
    have HB2 : Hid (Below w1.heap.size w1 (w1.alloc (.cells #[.map (some w.heap.size), .int .i64 q] 62))) := hid' ((Below.refl _ _).alloc (Nat.le_refl _) _)
    go_wp2
    go_ret
    exact ⟨⟨_, fun k => k = w1.heap.size ∨ k = w.heap.size, rfl, w.heap.size, E, clock, ⟨HB1.out.size, Nat.le_refl _, HA2.out, HM1.out.other (HB2.out.block _ HM1.out.lt), H.out.ok, H.out.le⟩, fun _ => Iff.rfl⟩, below_two HB1.out HB2.out⟩

theorem mput_fg {es : List Dk.En} (h : Dk.Ok es) (e : Dk.En) : mput (fg es) e.path e = fg (Dk.put e es) := by
  funext k
  unfold mput fg
  rw [Dk.get_put' h]
  show _ = if k.data.toList = e.path.data.toList then _ else _
  by_cases hk : k = e.path
  · subst hk; rw [if_pos rfl, if_pos rfl]
  · rw [if_neg hk, if_neg (fun e => hk (ba_ext e))]
theorem mdel_fg {es : List Dk.En} (h : Dk.Ok es) (x : ByteArray) (hh : Dk.has x.data.toList es = true) : mdel (fg es) x = fg (Dk.rem x.data.toList es) := by
  funext k
  unfold mdel fg
  rw [Dk.get_rem' h hh]
  by_cases hk : k = x
  · subst hk; rw [if_pos rfl, if_pos rfl]
  · rw [if_neg hk, if_neg (fun e => hk (ba_ext e))]
theorem lf_two {w w1 w2 : World} {b m : Nat} {K : Nat → Prop} (hK : ∀ k, K k ↔ k = b ∨ k = m) (h1 : Upd b w w1) (h2 : Upd m w1 w2) : LF K w w2 :=
  (LF.of_upd (S := K) h1 ((hK b).2 (.inl rfl))).trans (LF.of_upd (S := K) h2 ((hK m).2 (.inr rfl))) (fun _ _ h => h)
theorem upd_block (w : World) (m : Nat) (o : Obj) : Upd m w (setBlock w m o) :=
  ⟨rfl, rfl, rfl, by simp [setBlock], fun k hk => by simp only [setBlock]; exact Array.getElem?_setIfInBounds_ne (fun e => hk e.symm)⟩

section
variable {ops : Array Oper} {rest : List Oper} {o : Oper} {a : Act} {w : World} {Q : Exit → Act → World → Prop}
theorem wpl_delF (x y : Operand) (ho : o.op = Op.call { callee := Callee.builtin Builtin.delete, args := #[x, y], argTypes := #[58, 9] }) (hgd : o.guard = none) {m n : Nat} {f : ByteArray → Option Dk.En} {E : Array MapEntry} {clock : Nat} (k : ByteArray) (hx : a.eval x = .map (some m)) (hy : a.eval y = .string k) (h : Mp pk fk w m f n E clock) (f' : ByteArray → Option Dk.En) (n' : Nat) (hf' : mdel f k = f') (hn' : (if (f k).isSome = true then n - 1 else n) = n')
    (hK : ∀ w' E', Mp pk fk w' m f' n' E' clock → Upd m w w' → wpList Tryz.prog ops Q rest (a.put o.dst (.tuple #[])) w') : wpList Tryz.prog ops Q (o :: rest) a w := by
  refine wpList_plain hgd fun K' hK' => ?_
  obtain ⟨E', hrun, r1⟩ := h.drop ky utm k o.type
  have hrun' : (Builtin.delete_ #[58, 9] o.type #[.map (some m), .string k]).run Tryz.prog w = .ok (.tuple #[]) (setBlock w m (.map E' clock)) := hrun
  unfold Oper.wp
  simp [execOp, ho, resolve, invoke, builtin, hx, hy, hrun', Result.andThen]
  subst hf' hn'
  exact hK' _ _ (hK _ E' r1 (upd_block _ _ _))
end

set_option maxHeartbeats 2000000 in
theorem crem13 {es es' : List Dk.En} {q q' : Int} {t : Bool} {x : ByteArray} (ho : RemOf13 es q x t es' q') (B b : Nat) (K : Nat → Prop) (w : World) (h : CD w B b K q es) (_hx : x.size ≤ 140737488355328) (hq0 : 0 ≤ q) (hq : q ≤ 9223372036854775806) :
    Calls Tryz.prog 19 #[.pointer (some ⟨b, 0, none⟩), .string x] w fun e w' => e = .returned (.bool t) ∧ ∃ K', CD w' B b K' q' es' ∧ LF K w w' ∧ ∀ k, K' k → K k ∨ w.heap.size ≤ k := by
  obtain ⟨m, E, clock, h, hK⟩ := h
  have H := hid' h
  have HK := hid' hK
  clear h hK
  rcases ho with ⟨rfl, h1, rfl, rfl⟩ | ⟨rfl, h1, rfl, rfl⟩
  · have HH := hid' h1
    clear h1
    go_enter Tryz.func19, Tryz.ntmps19
    go_wp2_with fail
    refine (chas13 x true HH.out w H.out).mono ?_
    rintro e w1 ⟨rfl, hb1⟩
    have HC := hid' (H.out.keep hb1)
    have HB := hid' hb1
    have c1 := HC.out.hd.cell 1 _ rfl
    have f1 := HC.out.hd.free 1
    clear hb1
    go_upto_region 4 with fail
    have HU1 := hid' (upd_setCell w1 b 1 (.int .i64 (q + 1)))
    have HA2 : Hid (Ar (w1.setCell ⟨b, 1, none⟩ (.int .i64 (q + 1))) b 60 #[.map (some m), .int .i64 (q + 1)]) := hid' (by have := HC.out.hd.set 1 (.int .i64 (q + 1)); simpa using this)
    have HM2 := hid' (HC.out.mp.other (HU1.out.block m HC.out.apart.symm))
    generalize w1.setCell ⟨b, 1, none⟩ (.int .i64 (q + 1)) = w2 at *
    have c0 := HA2.out.cell 0 _ rfl
    have HLN : Hid ((if (fg es x).isSome = true then es.length - 1 else es.length) = (Dk.rem x.data.toList es).length) := hid' (by
      have hsome : (fg es x).isSome = true := by unfold fg; rw [← Dk.get_has HC.out.ok]; exact HH.out
      obtain ⟨_, _, _, _, _, _, _, hlen, _⟩ := Dk.rem_yes es _ HC.out.ok HH.out
      rw [if_pos hsome]
      omega)
    clear c1 f1
    go_wp2_with (refine wpl_delF _ _ rfl rfl x rfl rfl HM2.out (fg (Dk.rem x.data.toList es)) (Dk.rem x.data.toList es).length (mdel_fg HC.out.ok x HH.out) HLN.out ?_)
    intro w3 E3 hm3 hu3
    have HM3 := hid' hm3
    have HU3 := hid' hu3
    clear hm3 hu3 c0
    go_wp2
    go_ret
    obtain ⟨_, _, _, _, _, _, hok, hlen, _⟩ := Dk.rem_yes es _ HC.out.ok HH.out
    have hle := HC.out.le
    exact ⟨rfl, K, ⟨m, E3, clock, ⟨HC.out.lo, HC.out.lm, HU3.out.keep HA2.out HC.out.apart, HM3.out, hok, by omega⟩, HK.out⟩, (LF.of_below (S := K) HB.out).trans (lf_two HK.out HU1.out HU3.out) (fun _ _ h => h), fun _ hk => .inl hk⟩
  · have HH := hid' h1
    clear h1
    go_enter Tryz.func19, Tryz.ntmps19
    go_wp2_with fail
    refine (chas13 x false HH.out w H.out).mono ?_
    rintro e w1 ⟨rfl, hb1⟩
    have HB := hid' hb1
    clear hb1
    go_wp2
    go_ret
    exact ⟨rfl, K, ⟨m, E, clock, H.out.keep HB.out, HK.out⟩, LF.of_below HB.out, fun _ hk => .inl hk⟩

end Go.Proofs.YtgbnelglhkfdfaaGreatDoor

namespace Go.Proofs.YtgbnelglhkfdfaaGreatDoor
open Go.RowKit

namespace Dk
/-- A text cut at its slashes. -/
def pcs : Tx8 → Tx8 → List Tx8
  | cur, [] => [cur]
  | cur, c :: r => if c = 47 then cur :: pcs [] r else pcs (cur ++ [c]) r
theorem pcs_app (r : Tx8) : ∀ (a cur : Tx8), (∀ c ∈ a, c ≠ 47) → pcs cur (a ++ r) = pcs (cur ++ a) r
  | [], cur, _ => by simp
  | c :: a, cur, h => by
    rw [List.cons_append, pcs, if_neg (h c (by simp)), pcs_app r a (cur ++ [c]) (fun d hd => h d (by simp [hd]))]
    simp
theorem pcs_none (a : Tx8) (h : ∀ c ∈ a, c ≠ 47) : pcs [] a = [a] := by
  have := pcs_app [] a [] h
  simpa [pcs] using this
theorem splitK_pcs : ∀ (k : Nat) (s : Tx8), s.count 47 = k → Lib.splitK [47] 0 k s = pcs [] s
  | 0, s, h => by
    rw [Lib.splitK, pcs_none]
    intro c hc e
    subst e
    have := List.count_pos_iff.2 hc
    omega
  | k + 1, s, h => by
    rw [Lib.splitK, Lib.index_one]
    have hge := Lib.indexByte_ge s 47
    by_cases h1 : Lib.indexByte s 47 = -1
    · exfalso
      have h2 := Lib.indexByte_none h1
      have h3 : 0 < s.count 47 := by omega
      obtain ⟨i, hi⟩ := List.getElem?_of_mem (List.count_pos_iff.1 h3)
      exact h2 i hi
    · obtain ⟨o, ho⟩ : ∃ o : Nat, Lib.indexByte s 47 = (o : Int) := ⟨(Lib.indexByte s 47).toNat, by omega⟩
      obtain ⟨h2, h3⟩ := Lib.indexByte_some ho
      obtain ⟨hl, h4⟩ := List.getElem?_eq_some_iff.1 h2
      rw [if_neg (by simpa using h1), ho]
      have e : s = s.take o ++ 47 :: s.drop (o + 1) := by
        conv => lhs; rw [← List.take_append_drop o s, List.drop_eq_getElem_cons hl, h4]
      have h5 : ∀ c ∈ s.take o, c ≠ 47 := by
        intro c hc e
        subst e
        obtain ⟨i, hi⟩ := List.getElem?_of_mem hc
        have hio : i < o := by have := (List.getElem?_eq_some_iff.1 hi).1; rw [List.length_take] at this; omega
        rw [List.getElem?_take, if_pos hio] at hi
        exact h3 i hio hi
      have h6 : (s.drop (o + 1)).count 47 = k := by
        have h7 : (s.take o).count 47 = 0 := List.count_eq_zero.2 (fun hc => h5 47 hc rfl)
        rw [e, List.count_append, h7, List.count_cons] at h
        simp at h
        omega
      have h8 : pcs [] s = s.take o :: pcs [] (s.drop (o + 1)) := by
        conv => lhs; rw [e]
        rw [pcs_app _ _ _ h5, pcs, if_pos rfl]
        simp
      rw [h8]
      simp only [Int.toNat_natCast, Nat.add_zero, List.length_cons, List.length_nil, Nat.zero_add]
      rw [splitK_pcs k _ h6]
def pln (c : UInt8) : Bool := decide (32 ≤ c.toNat) && decide (c.toNat ≤ 126)
theorem pOk_pcs : ∀ (l cur : Tx8), pOk cur l = (l.all pln && (pcs cur l).all good)
  | [], cur => by simp [pOk, pcs]
  | c :: r, cur => by
    rw [pOk, pcs]
    split
    · rename_i hc
      subst hc
      rw [pOk_pcs r []]
      simp only [List.all_cons]
      rw [show pln 47 = true from rfl]
      cases good cur <;> cases r.all pln <;> simp
    · rw [pOk_pcs r (cur ++ [c])]
      simp only [List.all_cons, pln, Bool.and_assoc]
/-- What Path asks, in the code's order. -/
theorem path_parts (l : Tx8) : path l = (Lib.hasPrefix l [47] && (decide (l.length ≤ 255) && (l.all pln && (pcs [] (Lib.trimPrefix l [47])).all good))) := by
  cases l with
  | nil => simp [path, Lib.hasPrefix]
  | cons c r =>
    rw [path, pOk_pcs]
    by_cases hc : c = 47
    · subst hc
      have e1 : Lib.hasPrefix (47 :: r) [47] = true := by simp [Lib.hasPrefix]
      rw [e1]
      unfold Lib.trimPrefix
      rw [e1]
      simp only [List.length_cons, List.all_cons, if_true, List.length_nil, Nat.zero_add, List.drop_succ_cons, List.drop_zero]
      rw [show pln 47 = true from rfl]
      simp
    · have e1 : Lib.hasPrefix (c :: r) [47] = false := by simp only [Lib.hasPrefix, List.isPrefixOf, Bool.and_true]; exact beq_false_of_ne (fun e => hc e.symm)
      rw [e1, show (c == 47) = false by simpa using hc]
      simp
end Dk

theorem info9 : (Tryz.prog.info? 9).map (fun i => (i.zero, i.size, i.bytes)) = some (some (.string ByteArray.empty), 1, 16) := by kernel_rfl
theorem indexB_slash (x : ByteArray) : Lib.indexB x ⟨#[47]⟩ = Lib.indexByte x.data.toList 47 := Lib.index_one _ _
theorem countB_slash (x : ByteArray) : Lib.countB x ⟨#[47]⟩ = x.data.toList.count 47 := Lib.count_one _ _
set_option maxHeartbeats 1000000 in
theorem split13 (s : ByteArray) (w : World) (hs : s.size ≤ 255) : Calls Tryz.prog 38 #[.string s, .string ⟨#[47]⟩] w fun e w' => ∃ ps : List ByteArray, e = .returned (.slice (some ⟨w.heap.size, 0, none⟩) ps.length ps.length) ∧ w' = w.alloc (.cells (ps.map Value.string).toArray 9) ∧ ps.map (·.data.toList) = Dk.pcs [] s.data.toList ∧ ps.length ≤ 256 := by
  have hle := Lib.countB_le ⟨#[47]⟩ (by decide) s.size s (Nat.le_refl _)
  have hlen := Lib.splitB_all ⟨#[47]⟩ (by decide) 0 _ s rfl
  have c := Any.strings_genSplit_core Tryz.lays221 info9 s ⟨#[47]⟩ 0 (-1) (Lib.countB s ⟨#[47]⟩ + 1) w (by omega) (by decide) (Nat.zero_le _)
    (fun x cs _ => by rw [indexB_slash]; exact Tryz.strings_Index_one x 47 _)
    (by rw [countB_slash]; exact Tryz.strings_Count_one s 47 w) (by decide) (by decide) (by rw [if_pos (by decide)]; omega)
  rw [Nat.add_sub_cancel, hlen] at c
  have e2 : Lib.cellsOf (Lib.splitB ⟨#[47]⟩ 0 (Lib.countB s ⟨#[47]⟩) s) (Lib.countB s ⟨#[47]⟩ + 1) = ((Lib.splitB ⟨#[47]⟩ 0 (Lib.countB s ⟨#[47]⟩) s).map Value.string).toArray := by rw [← hlen]; exact Lib.cellsOf_full _
  rw [e2] at c
  have hd := Lib.splitB_data ⟨#[47]⟩ 0 (Lib.countB s ⟨#[47]⟩) s
  rw [Dk.splitK_pcs _ _ (countB_slash s).symm] at hd
  obtain ⟨ps, hps⟩ : ∃ ps, Lib.splitB ⟨#[47]⟩ 0 (Lib.countB s ⟨#[47]⟩) s = ps := ⟨_, rfl⟩
  rw [hps] at c hd hlen
  rw [← hlen] at c
  have HD := hid' hd
  have HL : Hid (ps.length ≤ 256) := hid' (by omega)
  have C : Hid (Calls Tryz.prog 62 #[.string s, .string ⟨#[47]⟩, .int .i64 0, .int .i64 (-1)] w fun e w' => e = .returned (.slice (some ⟨w.heap.size, 0, none⟩) ps.length ps.length) ∧ w' = w.alloc (.cells (ps.map Value.string).toArray 9)) := hid' c
  clear c hd e2 hlen hps hle
  go_enter Tryz.func38, Tryz.ntmps38
  go_wp2_with fail
  refine C.out.mono ?_
  rintro e w1 ⟨rfl, hw⟩
  have HW := hid' hw
  clear hw
  go_wp2
  go_ret
  exact ⟨ps, rfl, HW.out, HD.out, HL.out⟩

set_option maxHeartbeats 1000000 in
theorem cplain13 (s : ByteArray) (r : Bool) (hr : s.data.toList.all Dk.pln = r) (w : World) (hs : s.size ≤ 140737488355328) : Calls Tryz.prog 37 #[.string s] w fun e w' => e = .returned (.bool r) ∧ w' = w := by
  obtain ⟨L, hL⟩ : ∃ L, s.data.toList = L := ⟨_, rfl⟩
  have HL := hid' hL
  have hsz : L.length = s.size := by rw [← hL, ← Lib.size_eq]
  have HSZ := hid' hsz
  rw [hL] at hr
  have HR := hid' hr
  clear hr hL hsz
  go_enter Tryz.func37, Tryz.ntmps37
  go_wp2
  go_loopw [6] (fun s6 wr => ∃ k : Nat, s6 = .int .i64 (k : Int) ∧ k ≤ s.size ∧ wr = w ∧ Hid (r = (L.drop k).all Dk.pln)) (fun s6 _ => s.size - (intOf s6).toNat)
  case atStart => exact ⟨0, rfl, Nat.zero_le _, rfl, hid' HR.out.symm⟩
  case round =>
    obtain ⟨k, rfl, hk, hwr, HK⟩ := hrel
    subst wr
    by_cases hlt : k < s.size
    · have hlt2 : (k : Int) < (s.size : Int) := by omega
      have hck : L[k]? = some s[k] := by rw [← HL.out, List.getElem?_eq_getElem (by rw [← Lib.size_eq]; exact hlt)]; rfl
      have hdr := drop_one L k _ hck
      have HB2 : Hid (r = (Dk.pln s[k] && (L.drop (k + 1)).all Dk.pln)) := hid' (by rw [HK.out, hdr, List.all_cons])
      clear hck hdr HK
      by_cases d1 : s[k].toNat < 32
      · have HF : Hid (r = false) := hid' (by rw [HB2.out]; unfold Dk.pln; rw [decide_eq_false (by omega)]; rfl)
        have d1' : (s[k].toNat : Int) < 32 := by omega
        go_wp2
        go_ret
        exact ⟨by rw [HF.out]; rfl, rfl⟩
      have d1' : ¬ (s[k].toNat : Int) < 32 := by omega
      by_cases d2 : 126 < s[k].toNat
      · have HF : Hid (r = false) := hid' (by rw [HB2.out]; unfold Dk.pln; rw [decide_eq_false (show ¬ s[k].toNat ≤ 126 by omega)]; simp)
        have d2' : (126 : Int) < (s[k].toNat : Int) := by omega
        clear d1
        go_wp2
        go_ret
        exact ⟨by rw [HF.out]; rfl, rfl⟩
      have d2' : ¬ (126 : Int) < (s[k].toNat : Int) := by omega
      have HN : Hid (r = (L.drop (k + 1)).all Dk.pln) := hid' (by rw [HB2.out]; unfold Dk.pln; rw [decide_eq_true (show 32 ≤ s[k].toNat by omega), decide_eq_true (show s[k].toNat ≤ 126 by omega)]; rfl)
      clear d1 d2
      go_wp2
      go_roundw
      case rel => exact ⟨k + 1, by go_num, by omega, by first | rfl | trivial, HN⟩
      case measure => simp [intOf]; omega
    · obtain rfl : k = s.size := by omega
      have hlt2 : ¬ (s.size : Int) < (s.size : Int) := by omega
      have HF : Hid (r = true) := hid' (by rw [HK.out, List.drop_of_length_le (by rw [HSZ.out]; exact Nat.le_refl _)]; rfl)
      go_wp2
      go_ret
      exact ⟨by rw [HF.out]; rfl, rfl⟩

set_option maxHeartbeats 2000000 in
set_option maxRecDepth 20000 in
theorem cpath13 (x : ByteArray) (b : Bool) (hb : Dk.path x.data.toList = b) (w : World) (hx : x.size ≤ 140737488355328) : Calls Tryz.prog 23 #[.string x] w fun e w' => e = .returned (.bool b) ∧ Below w.heap.size w w' := by
  rw [Dk.path_parts] at hb
  have HB := hid' hb
  have HC := hid' (Tryz.strings_CutPrefix x ⟨#[47]⟩ w)
  obtain ⟨hp, hhp⟩ : ∃ hp, Lib.hasPrefix x.data.toList [47] = hp := ⟨_, rfl⟩
  have HHP := hid' hhp
  obtain ⟨y, hy⟩ : ∃ y : ByteArray, (⟨(Lib.trimPrefix x.data.toList [47]).toArray⟩ : ByteArray) = y := ⟨_, rfl⟩
  have HY := hid' hy
  have HLX : Hid (x.data.toList.length = x.size) := hid' (by rw [← Lib.size_eq])
  clear hb hhp hy
  go_enter Tryz.func23, Tryz.ntmps23
  go_wp2_with fail
  refine HC.out.mono ?_
  rw [HHP.out, HY.out]
  rintro e w1 ⟨rfl, hw1⟩
  subst w1
  cases hp
  · have HF : Hid (b = false) := hid' (by rw [← HB.out, HHP.out]; rfl)
    go_wp2
    go_ret
    exact ⟨by rw [HF.out]; rfl, Below.refl _ _⟩
  by_cases h1 : 255 < x.size
  · have h1' : (255 : Int) < (x.size : Int) := by omega
    have HF : Hid (b = false) := hid' (by rw [← HB.out, HHP.out, decide_eq_false (show ¬ x.data.toList.length ≤ 255 by rw [HLX.out]; omega)]; rfl)
    go_wp2
    go_ret
    exact ⟨by rw [HF.out]; rfl, Below.refl _ _⟩
  have h1' : ¬ (255 : Int) < (x.size : Int) := by omega
  obtain ⟨r, hr⟩ : ∃ r, x.data.toList.all Dk.pln = r := ⟨_, rfl⟩
  have HR := hid' hr
  clear hr
  go_wp2_with fail
  refine (cplain13 x r HR.out w hx).mono ?_
  rintro e w1 ⟨rfl, hw1⟩
  subst w1
  cases r
  · have HF : Hid (b = false) := hid' (by rw [← HB.out, HR.out]; simp)
    go_wp2
    go_ret
    exact ⟨by rw [HF.out]; rfl, Below.refl _ _⟩
  have HYL : Hid (y.data.toList = Lib.trimPrefix x.data.toList [47]) := hid' (by rw [← HY.out])
  have HYS : Hid (y.size ≤ 255) := hid' (by
    rw [Lib.size_eq, HYL.out]
    unfold Lib.trimPrefix
    rw [HHP.out]
    simp only [if_true, List.length_drop]
    have := HLX.out
    omega)
  have HB2 : Hid (b = (Dk.pcs [] y.data.toList).all Dk.good) := hid' (by rw [← HB.out, HHP.out, HR.out, decide_eq_true (show x.data.toList.length ≤ 255 by rw [HLX.out]; omega), HYL.out]; rfl)
  go_wp2_with fail
  refine (split13 y w HYS.out).mono ?_
  rintro e w1 ⟨ps, rfl, hw1, hps, hlen⟩
  obtain ⟨n, hn⟩ : ∃ n, ps.length = n := ⟨_, rfl⟩
  have HBW : Hid (Below w.heap.size w w1) := hid' (by rw [hw1]; exact (Below.refl _ _).alloc (Nat.le_refl _) _)
  have HA : Hid (Ar w1 w.heap.size 9 (ps.map Value.string).toArray) := hid' (by rw [hw1]; exact heap_alloc_last w _)
  have HB3 : Hid (b = ps.all (fun p => Dk.good p.data.toList)) := hid' (by rw [HB2.out, ← hps, List.all_map]; rfl)
  obtain ⟨bl, hbl⟩ : ∃ bl, w.heap.size = bl := ⟨_, rfl⟩
  rw [hbl] at HA
  rw [hn] at hlen
  rw [hn, hbl]
  have HN := hid' hn
  clear hw1 hps hn hbl HB2 HB HC HHP HY HYL HYS HR HLX
  go_wp2
  go_loopw [27] (fun s27 wr => ∃ k : Nat, s27 = .int .i64 (k : Int) ∧ k ≤ n ∧ wr = w1 ∧ Hid (b = (ps.drop k).all (fun p => Dk.good p.data.toList))) (fun s27 _ => n - (intOf s27).toNat)
  case atStart => exact ⟨0, rfl, Nat.zero_le _, rfl, HB3⟩
  case round =>
    obtain ⟨k, rfl, hk, hwr, HK⟩ := hrel
    subst wr
    by_cases hlt : k < n
    · have hlt2 : (k : Int) < (n : Int) := by omega
      obtain ⟨p, hp⟩ : ∃ p, ps[k]? = some p := ⟨_, List.getElem?_eq_getElem (by rw [HN.out]; exact hlt)⟩
      have hcell : w1.cell? ⟨bl, k, none⟩ = some (.string p) := HA.out.cell k _ (by simp [hp])
      have HB4 : Hid (b = (Dk.good p.toList && (ps.drop (k + 1)).all (fun p => Dk.good p.data.toList))) := hid' (by
        obtain ⟨h1, h2⟩ := List.getElem?_eq_some_iff.1 hp
        rw [HK.out, List.drop_eq_getElem_cons h1, h2, List.all_cons, Lib.toList_data])
      clear hp HK
      by_cases g1 : (p.toList == []) = true
      · have HF : Hid (b = false) := hid' (by rw [HB4.out]; simp only [Dk.good, g1]; rfl)
        go_wp2
        go_ret
        exact ⟨by rw [HF.out]; rfl, HBW.out⟩
      have g1' : (p.toList == []) = false := by simpa using g1
      by_cases g2 : (p.toList == [46]) = true
      · have HF : Hid (b = false) := hid' (by rw [HB4.out]; simp only [Dk.good, g2]; simp)
        clear g1
        go_wp2
        go_ret
        exact ⟨by rw [HF.out]; rfl, HBW.out⟩
      have g2' : (p.toList == [46]) = false := by simpa using g2
      by_cases g3 : (p.toList == [46, 46]) = true
      · have HF : Hid (b = false) := hid' (by rw [HB4.out]; simp only [Dk.good, g3]; simp)
        clear g1 g2
        go_wp2
        go_ret
        exact ⟨by rw [HF.out]; rfl, HBW.out⟩
      have g3' : (p.toList == [46, 46]) = false := by simpa using g3
      have HN2 : Hid (b = (ps.drop (k + 1)).all (fun p => Dk.good p.data.toList)) := hid' (by
        rw [HB4.out]
        have : Dk.good p.toList = true := by unfold Dk.good; rw [g1', g2', g3']; rfl
        rw [this]; rfl)
      clear g1 g2 g3
      go_wp2
      go_roundw
      case rel => exact ⟨k + 1, by go_num, by omega, by first | rfl | trivial, HN2⟩
      case measure => simp [intOf]; omega
    · obtain rfl : k = n := by omega
      have hlt2 : ¬ (k : Int) < (k : Int) := by omega
      have HF : Hid (b = true) := hid' (by rw [HK.out, List.drop_of_length_le (by rw [HN.out]; exact Nat.le_refl _)]; rfl)
      clear hlt
      go_wp2
      go_ret
      exact ⟨by rw [HF.out]; rfl, HBW.out⟩

end Go.Proofs.YtgbnelglhkfdfaaGreatDoor

namespace Go.Proofs.YtgbnelglhkfdfaaGreatDoor
open Go.RowKit
open Go.ChangeMaps (setBlock heap_setBlock_same heap_setBlock_other)

theorem eqmF (m : Nat) (W : World) : (binOp .eql 58 (.map (some m)) (.map none)).run Tryz.prog W = .ok (.bool false) W := by kernel_rfl

set_option maxHeartbeats 4000000 in
set_option maxRecDepth 20000 in
theorem cput13 {es es' : List Dk.En} {q q' t c : Int} {x y : ByteArray} (ho : PutOf13 es q x y t c es' q') (B b : Nat) (K : Nat → Prop) (w : World) (h : CD w B b K q es) (hx : x.size ≤ 140737488355328) (_hy : y.size ≤ 140737488425328) (hq0 : 0 ≤ q) (hq : q ≤ 9223372036854775806) :
    Calls Tryz.prog 12 #[.pointer (some ⟨b, 0, none⟩), .string x, .string y, .int .i64 t] w fun e w' => e = .returned (.int .i64 c) ∧ ∃ K', CD w' B b K' q' es' ∧ LF K w w' ∧ ∀ k, K' k → K k ∨ w.heap.size ≤ k := by
  obtain ⟨m, E, clock, h, hK⟩ := h
  have H := hid' h
  have HK := hid' hK
  clear h hK
  rcases ho with ⟨rfl, h1, rfl, rfl⟩ | ⟨rfl, ⟨h1, h2⟩, rfl, rfl⟩ | ⟨rfl, ⟨h1, h2, h3⟩, rfl, rfl⟩ | ⟨rfl, ⟨h1, h2, h3, h4, h5⟩, rfl, rfl⟩ | ⟨rfl, ⟨h1, h2, h3, h4⟩, rfl, rfl⟩
  · have HP := hid' (cpath13 x false h1 w hx)
    clear h1
    go_enter Tryz.func12, Tryz.ntmps12
    go_wp2_with fail
    refine HP.out.mono ?_
    rintro e w1 ⟨rfl, hb1⟩
    have HB := hid' hb1
    clear hb1
    go_wp2
    go_ret
    exact ⟨rfl, K, ⟨m, E, clock, H.out.keep HB.out, HK.out⟩, LF.of_below HB.out, fun _ hk => .inl hk⟩
  · have HP := hid' (cpath13 x true h1 w hx)
    have h2' : (65536 : Int) < (y.size : Int) := by omega
    clear h1
    go_enter Tryz.func12, Tryz.ntmps12
    go_wp2_with fail
    refine HP.out.mono ?_
    rintro e w1 ⟨rfl, hb1⟩
    have HB := hid' hb1
    clear hb1
    go_wp2
    go_ret
    exact ⟨rfl, K, ⟨m, E, clock, H.out.keep HB.out, HK.out⟩, LF.of_below HB.out, fun _ hk => .inl hk⟩
  · have HP := hid' (cpath13 x true h1 w hx)
    have h2' : ¬ (65536 : Int) < (y.size : Int) := by omega
    clear h1
    go_enter Tryz.func12, Tryz.ntmps12
    go_wp2_with fail
    refine HP.out.mono ?_
    rintro e w1 ⟨rfl, hb1⟩
    have HB := hid' hb1
    clear hb1
    by_cases h6 : t < 0
    · clear h3
      go_wp2
      go_ret
      exact ⟨rfl, K, ⟨m, E, clock, H.out.keep HB.out, HK.out⟩, LF.of_below HB.out, fun _ hk => .inl hk⟩
    · have h7 : 253402300799 < t := by omega
      clear h3
      go_wp2
      go_ret
      exact ⟨rfl, K, ⟨m, E, clock, H.out.keep HB.out, HK.out⟩, LF.of_below HB.out, fun _ hk => .inl hk⟩
  · have HP := hid' (cpath13 x true h1 w hx)
    have h2' : ¬ (65536 : Int) < (y.size : Int) := by omega
    have h6 : ¬ t < 0 := by omega
    have h7 : ¬ 253402300799 < t := by omega
    obtain ⟨n, hn⟩ : ∃ n, es'.length = n := ⟨_, rfl⟩
    rw [hn] at h5
    have h5' : (1024 : Int) ≤ (n : Int) := by omega
    have HN := hid' hn
    have HH := hid' h4
    clear h1 h3 h4 hn
    go_enter Tryz.func12, Tryz.ntmps12
    go_wp2_with fail
    refine HP.out.mono ?_
    rintro e w1 ⟨rfl, hb1⟩
    have HB := hid' hb1
    have HC := hid' (H.out.keep hb1)
    clear hb1
    go_wp2_with fail
    refine (chas13 x false HH.out w1 HC.out).mono ?_
    rintro e w2 ⟨rfl, hb2⟩
    have HB2 := hid' (below_two HB.out hb2)
    have HC2 := hid' (HC.out.keep hb2)
    have c0 := HC2.out.hd.cell 0 _ rfl
    have hln := HC2.out.mp.len utm 3
    rw [HN.out] at hln
    clear hb2
    go_wp2
    go_ret
    exact ⟨rfl, K, ⟨m, E, clock, HC2.out, HK.out⟩, LF.of_below HB2.out, fun _ hk => .inl hk⟩
  · have HP := hid' (cpath13 x true h1 w hx)
    have h2' : ¬ (65536 : Int) < (y.size : Int) := by omega
    have h6 : ¬ t < 0 := by omega
    have h7 : ¬ 253402300799 < t := by omega
    obtain ⟨n, hn⟩ : ∃ n, es.length = n := ⟨_, rfl⟩
    obtain ⟨r, hr⟩ : ∃ r, Dk.has x.data.toList es = r := ⟨_, rfl⟩
    have HN := hid' hn
    have HH := hid' hr
    have H4 := hid' h4
    have heq := eqmF m
    clear h1 h3 h4 hn hr
    go_enter Tryz.func12, Tryz.ntmps12
    go_wp2_with fail
    refine HP.out.mono ?_
    rintro e w1 ⟨rfl, hb1⟩
    have HB := hid' hb1
    have HC := hid' (H.out.keep hb1)
    clear hb1
    go_wp2_with fail
    refine (chas13 x r HH.out w1 HC.out).mono ?_
    rintro e w2 ⟨rfl, hb2⟩
    have HB2 := hid' (below_two HB.out hb2)
    have HC2 := hid' (HC.out.keep hb2)
    have c0 := HC2.out.hd.cell 0 _ rfl
    have c1 := HC2.out.hd.cell 1 _ rfl
    have f1 := HC2.out.hd.free 1
    have hln := HC2.out.mp.len utm 3
    rw [HN.out] at hln
    have HR : Hid (r = false → (n : Int) < 1024) := hid' (by
      intro hrf
      have := H4.out
      rw [HH.out, hrf, HN.out] at this
      rcases this with h | h
      · cases h
      · omega)
    clear hb2
    cases r
    · have h8 : ¬ (1024 : Int) ≤ (n : Int) := by have := HR.out rfl; omega
      go_upto_region 14 with fail
      have HU3 := hid' (upd_setCell w2 b 1 (.int .i64 (q + 1)))
      have HA3 : Hid (Ar (w2.setCell ⟨b, 1, none⟩ (.int .i64 (q + 1))) b 60 #[.map (some m), .int .i64 (q + 1)]) := hid' (by have := HC2.out.hd.set 1 (.int .i64 (q + 1)); simpa using this)
      have HM3 := hid' (HC2.out.mp.other (HU3.out.block m HC2.out.apart.symm))
      generalize w2.setCell ⟨b, 1, none⟩ (.int .i64 (q + 1)) = w3 at *
      have HMd : Hid (Mp pk fk w3.drew m (fg es) es.length E clock) := hid' (HM3.out.other rfl)
      obtain ⟨E', clock', hrun, hmp⟩ := HMd.out.store ky utm x ⟨x, y, t, q + 1⟩
      have hrun' : (Instr.mapUpdate 58 (.map (some m)) (.string x) (.agg #[.string y, .int .i64 t, .int .i64 (q + 1)])).run Tryz.prog w3.drew = .ok () (setBlock w3.drew m (.map E' clock')) := hrun
      have HMP := hid' hmp
      have HUB := hid' (upd_block w3.drew m (.map E' clock'))
      generalize setBlock w3.drew m (.map E' clock') = w4 at *
      have hS : w3.drew.cell? ⟨b, 0, none⟩ = some (.map (some m)) ∧ w3.drew.cell? ⟨b, 1, none⟩ = some (.int .i64 (q + 1)) := ⟨HA3.out.cell 0 _ rfl, HA3.out.cell 1 _ rfl⟩
      have HA4 := hid' (HUB.out.keep (Ar.drew HA3.out) HC2.out.apart)
      have hS4 : w4.cell? ⟨b, 0, none⟩ = some (.map (some m)) ∧ w4.cell? ⟨b, 1, none⟩ = some (.int .i64 (q + 1)) := ⟨HA4.out.cell 0 _ rfl, HA4.out.cell 1 _ rfl⟩
      clear c0 c1 f1 hln heq hrun hmp HMd
      go_region_held3 (fun W => W.cell? ⟨b, 0, none⟩ = some (.map (some m)) ∧ W.cell? ⟨b, 1, none⟩ = some (.int .i64 (q + 1))) (first | assumption) (fail)
      go_wp2
      go_ret
      have hm := HMP.out
      rw [mput_fg HC2.out.ok ⟨x, y, t, q + 1⟩] at hm
      obtain ⟨hlen, hle⟩ : (if (fg es x).isSome = true then es.length else es.length + 1) = (Dk.put ⟨x, y, t, q + 1⟩ es).length ∧ (Dk.put ⟨x, y, t, q + 1⟩ es).length ≤ 1024 := by
        have hl := HC2.out.le
        have hr := HR.out
        have hnn := HN.out
        unfold fg
        rw [← Dk.get_has HC2.out.ok, HH.out]
        obtain ⟨_, _, _, _, _, hl2, _⟩ := Dk.put_no es ⟨x, y, t, q + 1⟩ HC2.out.ok HH.out
        have := hr (by first | exact rfl | trivial)
        rw [hl2]
        exact ⟨rfl, by omega⟩
      rw [hlen] at hm
      have hlf : LF K w2 w4 := ((LF.of_upd (S := K) HU3.out ((HK.out b).2 (.inl rfl))).trans (LF.of_below (S := K) ((Below.refl _ w3).drew)) (fun _ _ h => h)).trans (LF.of_upd (S := K) HUB.out ((HK.out m).2 (.inr rfl))) (fun _ _ h => h)
      exact ⟨rfl, K, ⟨m, E', clock', ⟨HC2.out.lo, HC2.out.lm, HA4.out, hm, Dk.put_ok es _ HC2.out.ok, hle⟩, HK.out⟩, (LF.of_below (S := K) HB2.out).trans hlf (fun _ _ h => h), fun _ hk => .inl hk⟩
    · go_upto_region 14 with fail
      have HU3 := hid' (upd_setCell w2 b 1 (.int .i64 (q + 1)))
      have HA3 : Hid (Ar (w2.setCell ⟨b, 1, none⟩ (.int .i64 (q + 1))) b 60 #[.map (some m), .int .i64 (q + 1)]) := hid' (by have := HC2.out.hd.set 1 (.int .i64 (q + 1)); simpa using this)
      have HM3 := hid' (HC2.out.mp.other (HU3.out.block m HC2.out.apart.symm))
      generalize w2.setCell ⟨b, 1, none⟩ (.int .i64 (q + 1)) = w3 at *
      have HMd : Hid (Mp pk fk w3.drew m (fg es) es.length E clock) := hid' (HM3.out.other rfl)
      obtain ⟨E', clock', hrun, hmp⟩ := HMd.out.store ky utm x ⟨x, y, t, q + 1⟩
      have hrun' : (Instr.mapUpdate 58 (.map (some m)) (.string x) (.agg #[.string y, .int .i64 t, .int .i64 (q + 1)])).run Tryz.prog w3.drew = .ok () (setBlock w3.drew m (.map E' clock')) := hrun
      have HMP := hid' hmp
      have HUB := hid' (upd_block w3.drew m (.map E' clock'))
      generalize setBlock w3.drew m (.map E' clock') = w4 at *
      have hS : w3.drew.cell? ⟨b, 0, none⟩ = some (.map (some m)) ∧ w3.drew.cell? ⟨b, 1, none⟩ = some (.int .i64 (q + 1)) := ⟨HA3.out.cell 0 _ rfl, HA3.out.cell 1 _ rfl⟩
      have HA4 := hid' (HUB.out.keep (Ar.drew HA3.out) HC2.out.apart)
      have hS4 : w4.cell? ⟨b, 0, none⟩ = some (.map (some m)) ∧ w4.cell? ⟨b, 1, none⟩ = some (.int .i64 (q + 1)) := ⟨HA4.out.cell 0 _ rfl, HA4.out.cell 1 _ rfl⟩
      clear c0 c1 f1 hln heq hrun hmp HMd
      go_region_held3 (fun W => W.cell? ⟨b, 0, none⟩ = some (.map (some m)) ∧ W.cell? ⟨b, 1, none⟩ = some (.int .i64 (q + 1))) (first | assumption) (fail)
      go_wp2
      go_ret
      have hm := HMP.out
      rw [mput_fg HC2.out.ok ⟨x, y, t, q + 1⟩] at hm
      obtain ⟨hlen, hle⟩ : (if (fg es x).isSome = true then es.length else es.length + 1) = (Dk.put ⟨x, y, t, q + 1⟩ es).length ∧ (Dk.put ⟨x, y, t, q + 1⟩ es).length ≤ 1024 := by
        have hl := HC2.out.le
        have hr := HR.out
        have hnn := HN.out
        unfold fg
        rw [← Dk.get_has HC2.out.ok, HH.out]
        obtain ⟨_, _, _, _, _, _, _, hl2, _⟩ := Dk.put_yes es ⟨x, y, t, q + 1⟩ HC2.out.ok HH.out
        rw [hl2]
        exact ⟨rfl, hl⟩
      rw [hlen] at hm
      have hlf : LF K w2 w4 := ((LF.of_upd (S := K) HU3.out ((HK.out b).2 (.inl rfl))).trans (LF.of_below (S := K) ((Below.refl _ w3).drew)) (fun _ _ h => h)).trans (LF.of_upd (S := K) HUB.out ((HK.out m).2 (.inr rfl))) (fun _ _ h => h)
      exact ⟨rfl, K, ⟨m, E', clock', ⟨HC2.out.lo, HC2.out.lm, HA4.out, hm, Dk.put_ok es _ HC2.out.ok, hle⟩, HK.out⟩, (LF.of_below (S := K) HB2.out).trans hlf (fun _ _ h => h), fun _ hk => .inl hk⟩

end Go.Proofs.YtgbnelglhkfdfaaGreatDoor

namespace Go.Proofs.YtgbnelglhkfdfaaGreatDoor
open Go.RowKit
open Go.ChangeMaps (setBlock heap_setBlock_same heap_setBlock_other)

/-- An entry of a map as a file. -/
def toEn (e : MapEntry) : Dk.En := match e.key, e.val with
  | .string k, .agg #[.string b, .int _ t, .int _ q] => ⟨k, b, t, q⟩
  | _, _ => en0
theorem toEn_of {e : MapEntry} {k : ByteArray} {p : Dk.En} (h1 : e.key = pk k) (h2 : e.val = fk p) (h3 : p.path = k) : toEn e = p := by
  unfold toEn
  rw [h1, h2]
  subst h3
  rfl
section
variable {T : TypeId} {w : World} {B b m : Nat} {q : Int} {es : List Dk.En} {E : Array MapEntry} {clock : Nat}
theorem CX.ent (h : CX T w B b m q es E clock) {e : MapEntry} (he : e ∈ E.toList) : e.key = .string (toEn e).path ∧ e.val = fk (toEn e) ∧ toEn e ∈ es := by
  obtain ⟨k, p, h1, h2, h3⟩ := h.mp.all e he
  obtain ⟨h4, h5⟩ := (Dk.get_some h.ok).1 h3
  have h6 : p.path = k := ba_ext h5
  rw [toEn_of h1 h2 h6, h1, h2]
  subst h6
  exact ⟨rfl, rfl, h4⟩
theorem CX.mem (h : CX T w B b m q es E clock) (p : Dk.En) : p ∈ E.toList.map toEn ↔ p ∈ es := by
  constructor
  · intro hp
    obtain ⟨e, he, rfl⟩ := List.mem_map.1 hp
    exact (h.ent he).2.2
  · intro hp
    have hg : fg es p.path = some p := (Dk.get_some h.ok).2 ⟨hp, rfl⟩
    obtain ⟨e, he, hk⟩ := h.mp.has p.path p hg
    refine List.mem_map.2 ⟨e, he, ?_⟩
    obtain ⟨x, hx, hv⟩ := h.mp.val ky he hk
    rw [hg] at hx
    injection hx with hx
    subst hx
    exact toEn_of hk hv rfl
theorem CX.nd (h : CX T w B b m q es E clock) : (E.toList.map toEn).Nodup := by
  unfold List.Nodup
  rw [List.pairwise_map]
  refine h.mp.nd.imp_of_mem ?_
  intro x y hx hy hne e
  apply hne
  rw [(h.ent hx).1, (h.ent hy).1, e]
/-- All that was handed out is all that there is. -/
theorem left_none {D : List MapEntry} (h0 : (leftOf E (D.map (·.born)).toArray).size = 0) (hnb : (E.toList.map (·.born)).Nodup) (hD : ∀ e ∈ D, e ∈ E.toList) : ∀ e ∈ E.toList, e ∈ D := by
  intro e he
  have h1 : leftOf E (D.map (·.born)).toArray = #[] := Array.eq_empty_of_size_eq_zero h0
  unfold leftOf at h1
  rw [Array.filter_eq_empty_iff] at h1
  have h2 := h1 e (by simpa using he)
  simp only [Bool.not_eq_true', Bool.not_eq_false] at h2
  have h3 : e.born ∈ D.map (·.born) := by simpa using h2
  obtain ⟨d, hd, hb⟩ := List.mem_map.1 h3
  have hde := hD d hd
  have : d = e := by
    have h5 := find_born e E.toList hnb he
    have h6 := find_born d E.toList hnb hde
    rw [hb, h5] at h6
    injection h6 with h6
    exact h6.symm
  subst this
  exact hd
end

/-- What the loop has: what was handed out, and the row that was made of it. -/
structure LI (w wr : World) (r mb : Nat) (E : Array MapEntry) (clock : Nat) (pre : List UInt8) (D : List MapEntry) (m : Nat) (ro : Option Addr) (rc : Nat) : Prop where
  it : wr.heap[r]? = some (.mapIter (some mb) clock (D.map (·.born)).toArray clock)
  sub : ∀ e ∈ D, e ∈ E.toList
  nd : D.Nodup
  len : ((D.map toEn).filter (fun e => pre.isPrefixOf (Dk.key e))).length = m
  row : wr.ownsRow w.heap.size 48 4 (.slice ro m rc) m (enC ((D.map toEn).filter (fun e => pre.isPrefixOf (Dk.key e))))
  bl : Below w.heap.size w wr
theorem sub_len {α : Type} : ∀ {D L : List α}, D.Nodup → (∀ e ∈ D, e ∈ L) → D.length ≤ L.length
  | [], _, _, _ => Nat.zero_le _
  | d :: D, L, hn, hs => by
    obtain ⟨A, R, rfl⟩ := List.append_of_mem (hs d (by simp))
    have hn2 := List.nodup_cons.1 hn
    have := sub_len (D := D) (L := A ++ R) hn2.2 (fun e he => by
      have h1 := hs e (by simp [he])
      rcases List.mem_append.1 h1 with h2 | h2
      · exact List.mem_append.2 (.inl h2)
      · rcases List.mem_cons.1 h2 with h3 | h3
        · subst h3; exact absurd he hn2.1
        · exact List.mem_append.2 (.inr h3))
    simp at this ⊢
    omega
theorem li_more {D : List MapEntry} {E : Array MapEntry} (hn : D.Nodup) (hs : ∀ e ∈ D, e ∈ E.toList) : D.length ≤ E.size := by
  have := sub_len hn hs
  simpa using this
theorem lst_unique {T : TypeId} {w : World} {B b mb : Nat} {q : Int} {es : List Dk.En} {E : Array MapEntry} {clock : Nat} (h : CX T w B b mb q es E clock) {pre : List UInt8} {D : List MapEntry} (hn : D.Nodup) (hs : ∀ e ∈ D, e ∈ E.toList) (h0 : (leftOf E (D.map (·.born)).toArray).size = 0)
    {l' : List Dk.En} (hp : l'.Perm ((D.map toEn).filter (fun e => pre.isPrefixOf (Dk.key e)))) (ho : l'.Pairwise (fun a b => ¬ Dk.key b < Dk.key a)) : l' = Dk.lst pre es := by
  have hall := left_none h0 h.mp.nb hs
  have hmem : ∀ p, p ∈ l' ↔ p ∈ Dk.lst pre es := by
    intro p
    rw [hp.mem_iff]
    unfold Dk.lst
    rw [List.mem_filter, List.mem_filter, ← h.mem p, List.mem_map, List.mem_map]
    constructor
    · rintro ⟨⟨e, he, rfl⟩, h2⟩; exact ⟨⟨e, hs e he, rfl⟩, h2⟩
    · rintro ⟨⟨e, he, rfl⟩, h2⟩; exact ⟨⟨e, hall e he, rfl⟩, h2⟩
  have hsub : ∀ p ∈ l', p ∈ es := fun p hp => (List.mem_filter.1 ((hmem p).1 hp)).1
  have hnl : l'.Nodup := by
    refine hp.nodup_iff.2 (List.Pairwise.filter _ ?_)
    rw [List.pairwise_map]
    refine hn.imp_of_mem ?_
    intro x y hx hy hne e
    apply hne
    have h1 := List.pairwise_map.1 h.nd
    have hx2 := hs x hx
    have hy2 := hs y hy
    have hkey : x.key = y.key := by rw [(h.ent hx2).1, (h.ent hy2).1, e]
    obtain ⟨i, hi⟩ := List.getElem?_of_mem hx2
    obtain ⟨j, hj⟩ := List.getElem?_of_mem hy2
    have hpw := List.pairwise_iff_getElem.1 h.mp.nd
    obtain ⟨i1, i2⟩ := List.getElem?_eq_some_iff.1 hi
    obtain ⟨j1, j2⟩ := List.getElem?_eq_some_iff.1 hj
    rcases Nat.lt_trichotomy i j with hij | hij | hij
    · have := hpw i j i1 j1 hij
      rw [i2, j2] at this
      exact absurd hkey this
    · subst hij
      rw [← i2, ← j2]
    · have := hpw j i j1 i1 hij
      rw [i2, j2] at this
      exact absurd hkey.symm this
  refine Dk.ok_unique ?_ (Dk.lst_ok h.ok pre) hmem
  unfold Dk.Ok Dk.Rise Dk.ks
  rw [List.pairwise_map]
  refine (List.pairwise_and_iff.2 ⟨ho, hnl⟩).imp_of_mem ?_
  intro x y hx hy ⟨h1, h2⟩
  rcases Dk.lt_tri (Dk.key x) (Dk.key y) with h3 | h3 | h3
  · exact h3
  · exfalso
    apply h2
    have e1 := (Dk.get_some h.ok).2 ⟨hsub x hx, rfl⟩
    have e2 := (Dk.get_some h.ok).2 ⟨hsub y hy, h3.symm⟩
    rw [e1] at e2
    injection e2
  · exact absurd h3 h1

/-- The loop, one entry on, ahead of what is done with it. -/
structure LJ (w w2 : World) (r mb : Nat) (E : Array MapEntry) (clock : Nat) (D : List MapEntry) (m : Nat) (ro : Option Addr) (rc : Nat) (l : List Dk.En) : Prop where
  it : w2.heap[r]? = some (.mapIter (some mb) clock (D.map (·.born)).toArray clock)
  row : w2.ownsRow w.heap.size 48 4 (.slice ro m rc) m (enC l)
  bl : Below w.heap.size w w2
  mp : w2.heap[mb]? = some (.map E clock)
theorem LJ.keep {w w2 w3 : World} {r mb : Nat} {E : Array MapEntry} {clock : Nat} {D : List MapEntry} {m : Nat} {ro : Option Addr} {rc : Nat} {l : List Dk.En} (h : LJ w w2 r mb E clock D m ro rc l) (hb : Below w2.heap.size w2 w3) : LJ w w3 r mb E clock D m ro rc l :=
  ⟨(hb.block r (Array.getElem?_eq_some_iff.1 h.it).1).trans h.it, own_same h.row (fun k hk => hb.block k (own_lt h.row k hk)), below_from h.bl hb h.bl.size, (hb.block mb (Array.getElem?_eq_some_iff.1 h.mp).1).trans h.mp⟩
theorem li_next {w wr w1 : World} {r mb : Nat} {E : Array MapEntry} {clock : Nat} {pre : List UInt8} {D : List MapEntry} {m : Nat} {ro : Option Addr} {rc : Nat} (h : LI w wr r mb E clock pre D m ro rc) (hr : w.heap.size = r) (hm : wr.heap[mb]? = some (.map E clock)) (hw : w1 = wr ∨ w1 = wr.drew) (e : MapEntry) :
    LJ w (setBlock w1 r (.mapIter (some mb) clock ((D.map (·.born)).toArray.push e.born) clock)) r mb E clock (D ++ [e]) m ro rc ((D.map toEn).filter (fun e => pre.isPrefixOf (Dk.key e))) := by
  have e1 : w1.heap = wr.heap := by rcases hw with rfl | rfl <;> rfl
  have e2 : w1.os = wr.os ∧ w1.tape = wr.tape ∧ w1.output = wr.output := by rcases hw with rfl | rfl <;> exact ⟨rfl, rfl, rfl⟩
  have hrl : r < wr.heap.size := (Array.getElem?_eq_some_iff.1 h.it).1
  have hother : ∀ k, k ≠ r → (setBlock w1 r (.mapIter (some mb) clock ((D.map (·.born)).toArray.push e.born) clock)).heap[k]? = wr.heap[k]? := fun k hk => by
    simp only [setBlock]
    rw [Array.getElem?_setIfInBounds_ne (fun e => hk e.symm), e1]
  refine ⟨?_, own_same h.row (fun k hk => hother k ?_), ?_, (hother mb ?_).trans hm⟩
  · simp only [setBlock]
    rw [Array.getElem?_setIfInBounds_self_of_lt (by rw [e1]; exact hrl)]
    simp
  · rintro rfl
    obtain ⟨_, cs, h1⟩ := own_ty h.row k hk
    rw [h.it] at h1
    cases h1
  · refine ⟨e2.1.trans h.bl.os, e2.2.1.trans h.bl.tape, e2.2.2.trans h.bl.output, by simp only [setBlock, Array.size_setIfInBounds]; rw [e1]; exact h.bl.size, fun k hk => ?_⟩
    rw [hother k (by omega)]
    exact h.bl.block k hk
  · rintro rfl
    rw [h.it] at hm
    cases hm
theorem fil_one (D : List MapEntry) (e : MapEntry) (pre : List UInt8) (d : Bool) (hd : pre.isPrefixOf (Dk.key (toEn e)) = d) : ((D ++ [e]).map toEn).filter (fun e => pre.isPrefixOf (Dk.key e)) = (D.map toEn).filter (fun e => pre.isPrefixOf (Dk.key e)) ++ (if d = true then [toEn e] else []) := by
  rw [List.map_append, List.filter_append]
  congr 1
  simp only [List.map_cons, List.map_nil, List.filter_cons, List.filter_nil, hd]
theorem LJ.more {w w2 : World} {r mb : Nat} {E : Array MapEntry} {clock : Nat} {D : List MapEntry} {m m' : Nat} {ro : Option Addr} {rc : Nat} {l : List Dk.En} {e : MapEntry} {pre : List UInt8} (h : LJ w w2 r mb E clock (D ++ [e]) m ro rc l) (h1 : ∀ x ∈ D, x ∈ E.toList) (h2 : D.Nodup) (he : e ∈ E.toList) (hn : e ∉ D) (hl : ((D ++ [e]).map toEn).filter (fun e => pre.isPrefixOf (Dk.key e)) = l) (hm : l.length = m') (hmm : m = m') : LI w w2 r mb E clock pre (D ++ [e]) m ro rc := by
  subst hmm
  refine ⟨h.it, ?_, ?_, by rw [hl]; exact hm, by rw [hl]; exact h.row, h.bl⟩
  · intro x hx
    rcases List.mem_append.1 hx with hx | hx
    · exact h1 x hx
    · rw [List.mem_singleton.1 hx]; exact he
  · refine List.nodup_append.2 ⟨h2, by simp, ?_⟩
    intro a ha b hb e'
    rw [List.mem_singleton.1 hb] at e'
    subst e'
    exact hn ha
theorem seen_of {w : World} {r mb clock : Nat} {s : Array Nat} (h : w.heap[r]? = some (.mapIter (some mb) clock s clock)) : w.iterSeen r = s := by
  unfold World.iterSeen
  rw [h]
theorem left_less {E : Array MapEntry} {D : List MapEntry} {e : MapEntry} {w w2 : World} {r mb clock : Nat} (h1 : w.heap[r]? = some (.mapIter (some mb) clock (D.map (·.born)).toArray clock)) (h2 : w2.heap[r]? = some (.mapIter (some mb) clock ((D ++ [e]).map (·.born)).toArray clock)) (he : e ∈ (leftOf E (D.map (·.born)).toArray).toList) : (leftOf E (w2.iterSeen r)).size < (leftOf E (w.iterSeen r)).size := by
  rw [seen_of h1, seen_of h2]
  have := left_shrinks E _ e he
  simpa using this

set_option maxHeartbeats 4000000 in
set_option maxRecDepth 20000 in
theorem slist13 (B s : Nat) (K : Nat → Prop) (q : Int) (es : List Dk.En) (x : ByteArray) (w : World) (h : CS w B s K q es) (_hx : x.size ≤ 140737488355328) : Calls Tryz.prog 41 #[.pointer (some ⟨s, 0, none⟩), .string x] w fun e w' => (∃ m ro rc, e = .returned (.slice ro m rc) ∧ (Dk.lst x.data.toList es).length = m ∧ w'.ownsRow w.heap.size 48 4 (.slice ro m rc) m (enC (Dk.lst x.data.toList es))) ∧ Below w.heap.size w w' := by
  obtain ⟨mb, E, clock, h, _⟩ := h
  have H := hid' h
  have c0 := h.hd.cell 0 _ rfl
  have hrg := run_range_map (P := Tryz.prog) w 58 _ _ mb E clock utm h.mp.hd
  clear h
  go_enter Tryz.func41, Tryz.ntmps41
  obtain ⟨i0, hi0, hz0, hz1, hz2⟩ := dinfo_parts dinfoE
  have HI := hid' hi0
  have HZ0 := hid' hz0
  have HZ1 := hid' hz1
  have HZ2 := hid' hz2
  clear hi0 hz0 hz1 hz2
  go_upto_region 5 with fail
  have HL0 : Hid (LI w (w.alloc (.mapIter (some mb) clock #[] clock)) w.heap.size mb E clock x.data.toList [] 0 none 0) := hid' ⟨heap_alloc_new _ _, (fun e he => by simp at he), List.Pairwise.nil, rfl, World.ownsRow_nil _ _ _ _, (Below.refl _ _).alloc (Nat.le_refl _) _⟩
  obtain ⟨r, hr⟩ : ∃ r, w.heap.size = r := ⟨_, rfl⟩
  rw [hr] at HL0 ⊢
  have HR := hid' hr
  generalize w.alloc (.mapIter (some mb) clock #[] clock) = w0 at *
  clear hr hrg c0
  go_loopw [5] (fun s5 wr => ∃ (D : List MapEntry) (m : Nat) (ro : Option Addr) (rc : Nat), s5 = .slice ro m rc ∧ Hid (LI w wr r mb E clock x.data.toList D m ro rc)) (fun _ wr => (leftOf E (wr.iterSeen r)).size)
  case atStart => exact ⟨[], 0, none, 0, rfl, HL0⟩
  case round =>
    clear HL0
    obtain ⟨D, m, ro, rc, rfl, HLI⟩ := hrel
    have HC := hid' (H.out.keep HLI.out.bl)
    have hnx := run_next_at (P := Tryz.prog) wr 0 r mb clock clock _ E clock HLI.out.it HC.out.mp.hd HC.out.mp.st (Nat.le_refl _)
    rcases hnx with ⟨h0, hnx⟩ | ⟨e, hel, w1, hw1, hnx⟩
    · have H0 := hid' h0
      clear h0
      have HM : Hid (m ≤ 1048576) := hid' (by
        have h1 := HLI.out.len
        have h2 := List.length_filter_le (fun e => x.data.toList.isPrefixOf (Dk.key e)) (D.map toEn)
        have h3 := li_more HLI.out.nd HLI.out.sub
        have h4 := HC.out.mp.sz
        have h5 := HC.out.le
        rw [List.length_map] at h2
        omega)
      go_wp2_with fail
      refine (csort13 w.heap.size m rc ro _ HLI.out.len wr HLI.out.row HM.out).mono ?_
      rintro e w2 ⟨rfl, ⟨l', hpm, hso, hrow⟩, hlf⟩
      obtain rfl := lst_unique HC.out HLI.out.nd HLI.out.sub H0.out hpm hso
      have HPM := hid' hpm.length_eq
      have HRO := hid' hrow
      have HBL : Hid (Below w.heap.size w w2) := hid' (HLI.out.bl.trans (hlf.below HLI.out.bl.size (fun k hk => (own_ty HLI.out.row k hk).1)))
      clear hpm hso hrow hlf hnx
      go_wp2
      go_ret
      exact ⟨⟨m, ro, rc, rfl, HPM.out.trans HLI.out.len, HRO.out⟩, HBL.out⟩
    · have hmn : e ∈ E.toList ∧ e ∉ D := by
        unfold leftOf at hel
        have h1 : e ∈ (E.filter fun e => !((D.map (·.born)).toArray.contains e.born)) := by simpa using hel
        obtain ⟨h4, h2⟩ := Array.mem_filter.1 h1
        refine ⟨by simpa using h4, fun hd => ?_⟩
        have h3 : e.born ∈ D.map (·.born) := List.mem_map.2 ⟨e, hd, rfl⟩
        simp only [Bool.not_eq_true'] at h2
        rw [← Bool.not_eq_true] at h2
        apply h2
        simpa using h3
      have HMN := hid' hmn
      have HEL := hid' hel
      have HLJ := hid' (li_next HLI.out HR.out HC.out.mp.hd hw1 e)
      obtain ⟨h3, h4, h5⟩ := HC.out.ent hmn.1
      have hent := run_entry_at (P := Tryz.prog) _ r mb clock (D.map (·.born)).toArray E clock e (by have := HLJ.out.it; simpa using this) HLJ.out.mp hmn.1 HC.out.mp.nb
      generalize setBlock w1 r (.mapIter (some mb) clock ((D.map (·.born)).toArray.push e.born) clock) = w2 at *
      rw [h3, h4] at hnx hent
      obtain ⟨d, hd⟩ : ∃ d, x.data.toList.isPrefixOf (Dk.key (toEn e)) = d := ⟨_, rfl⟩
      have HFL := hid' (fil_one D e x.data.toList d hd)
      have HPX : Hid (∀ W, Calls Tryz.prog 64 #[.string (toEn e).path, .string x] W fun e w' => e = .returned (.bool d) ∧ w' = W) := hid' (fun W => by have := Tryz.strings_HasPrefix (toEn e).path x W; unfold Lib.hasPrefix at this; rw [show (toEn e).path.data.toList = Dk.key (toEn e) from rfl, hd] at this; exact this)
      obtain ⟨p, hp⟩ : ∃ p, toEn e = p := ⟨_, rfl⟩
      rw [hp] at hnx hent HPX HFL
      simp only [fk] at hnx hent
      have HM : Hid (m ≤ 1048576) := hid' (by
        have h1 := HLI.out.len
        have h2 := List.length_filter_le (fun e => x.data.toList.isPrefixOf (Dk.key e)) (D.map toEn)
        have h3 := li_more HLI.out.nd HLI.out.sub
        have h4 := HC.out.mp.sz
        have h5 := HC.out.le
        rw [List.length_map] at h2
        omega)
      clear hmn hel hw1 h3 h4 h5 hd hp
      go_wp2_with fail
      have HB3 : Hid (Below w2.heap.size w2 (w2.alloc (.cells #[.string p.body, .int .i64 p.time, .int .i64 p.seq] 31))) := hid' ((Below.refl _ _).alloc (Nat.le_refl _) _)
      have HA3 : Hid (Ar (w2.alloc (.cells #[.string p.body, .int .i64 p.time, .int .i64 p.seq] 31)) w2.heap.size 31 #[.string p.body, .int .i64 p.time, .int .i64 p.seq]) := hid' (heap_alloc_last w2 _)
      have HLK := hid' (HLJ.out.keep HB3.out)
      obtain ⟨fb, hfb⟩ : ∃ fb, w2.heap.size = fb := ⟨_, rfl⟩
      rw [hfb] at HA3 ⊢
      generalize w2.alloc (.cells #[.string p.body, .int .i64 p.time, .int .i64 p.seq] 31) = w3 at *
      refine (HPX.out w3).mono ?_
      rintro e' w3' ⟨rfl, hw3⟩
      subst w3'
      clear hnx hent hfb HB3 HLJ HPX
      cases d
      · simp only [Bool.false_eq_true, if_false, List.append_nil] at HFL
        go_wp2
        go_roundw
        case rel => exact ⟨D ++ [e], m, ro, rc, rfl, hid' (HLK.out.more HLI.out.sub HLI.out.nd HMN.out.1 HMN.out.2 HFL.out HLI.out.len rfl)⟩
        case measure => exact left_less HLI.out.it HLK.out.it HEL.out
      · simp only [if_true] at HFL
        have hld := dldF HA3.out
        have p0 := HA3.out.cell 0 _ rfl
        have p1 := HA3.out.cell 1 _ rfl
        have p2 := HA3.out.cell 2 _ rfl
        have HBA : Hid (Below w3.heap.size w3 (w3.alloc (.cells #[.string p.path, .string p.body, .int .i64 p.time, .int .i64 p.seq] 48))) := hid' ((Below.refl _ _).alloc (Nat.le_refl _) _)
        have HLA := hid' (HLK.out.keep HBA.out)
        go_wp2_with (at_builtin; refine wpList_append_own_at _ rfl _ _ 44 rfl w.heap.size 48 i0 (.agg #[.string ⟨#[]⟩, .string ⟨#[]⟩, .int .i64 0, .int .i64 0]) 4 48 Tryz.underlying44 HI.out HZ0.out HZ1.out HZ2.out rfl (by decide) (.slice ro m rc) m _ rfl HLA.out.row ⟨w3.heap.size, 0, none⟩ 1 1 [.string p.path, .string p.body, .int .i64 p.time, .int .i64 p.seq] rfl rfl (four_new _ _ _ _ _ _) (by simp [Value.oneCell']) (by have := HM.out; unfold maxLen; omega) (by have := HM.out; omega) (by simp; have := HLK.out.bl.size; omega) ?_; intro v4 w4 hown4 hgrow4 _ _; refine Hid.out ?_)
        refine hid' ?_
        obtain ⟨v4o, v4c, hv4⟩ := down_shape hown4
        subst hv4
        have hit : w4.heap[r]? = some (.mapIter (some mb) clock ((D ++ [e]).map (·.born)).toArray clock) := by
          rw [hgrow4.block r (Array.getElem?_eq_some_iff.1 HLA.out.it).1 (fun e' => by
            obtain ⟨_, cs, h1⟩ := own_ty HLA.out.row r e'.symm
            rw [HLA.out.it] at h1
            cases h1)]
          exact HLA.out.it
        have hmp : w4.heap[mb]? = some (.map E clock) := by
          rw [hgrow4.block mb (Array.getElem?_eq_some_iff.1 HLA.out.mp).1 (fun e' => by
            obtain ⟨_, cs, h1⟩ := own_ty HLA.out.row mb e'.symm
            rw [HLA.out.mp] at h1
            cases h1)]
          exact HLA.out.mp
        have hbl : Below w.heap.size w w4 := HLA.out.bl.grown hgrow4 HLA.out.bl.size (fun k hk => (own_ty HLA.out.row k hk).1)
        have e5 : ∀ l : List Dk.En, enC l ++ [Value.string p.path, .string p.body, .int .i64 p.time, .int .i64 p.seq] = enC (l ++ [p]) := fun l => by rw [enC_append, enC_cons]; simp [enV, enC]
        rw [e5] at hown4
        have HL4 : Hid (LJ w w4 r mb E clock (D ++ [e]) (m + 1) v4o v4c _) := hid' ⟨hit, hown4, hbl, hmp⟩
        clear hown4 hgrow4 e5 hit hmp hbl p0 p1 p2 hld HBA
        go_wp2
        go_roundw
        case rel => exact ⟨D ++ [e], m + 1, v4o, v4c, rfl, hid' (HL4.out.more HLI.out.sub HLI.out.nd HMN.out.1 HMN.out.2 HFL.out (by rw [List.length_append, HLI.out.len]; rfl) rfl)⟩
        case measure => exact left_less HLI.out.it HL4.out.it HEL.out

end Go.Proofs.YtgbnelglhkfdfaaGreatDoor

namespace Go.Proofs.YtgbnelglhkfdfaaGreatDoor
open Go.RowKit

theorem CD.keep {w w' : World} {B b : Nat} {K : Nat → Prop} {q : Int} {es : List Dk.En} (h : CD w B b K q es) (hb : Below w.heap.size w w') : CD w' B b K q es :=
  h.other (LF.of_below (S := fun _ => False) hb) (fun _ _ => id)
theorem CS.keep {w w' : World} {B b : Nat} {K : Nat → Prop} {q : Int} {es : List Dk.En} (h : CS w B b K q es) (hb : Below w.heap.size w w') : CS w' B b K q es :=
  h.other (LF.of_below (S := fun _ => False) hb) (fun _ _ => id)
theorem CD.bl {w0 w w' : World} {B b : Nat} {K : Nat → Prop} {q : Int} {es : List Dk.En} (h : CD w B b K q es) (hb : Below B w0 w) (hf : LF K w w') : Below B w0 w' := hb.trans (hf.below h.lb (fun k hk => (h.lt k hk).1))
/-- A snapshot that was made behind the disk's last change shares no block with it. -/
theorem CS.aside {w w' : World} {B' s : Nat} {K Ks : Nat → Prop} {q' : Int} {es' : List Dk.En} (hs : CS w B' s Ks q' es') (hd : ∀ k, K k → k < B') (hf : LF K w w') : CS w' B' s Ks q' es' :=
  hs.other hf (fun k hk hK => by have := (hs.lt k hk).1; have := hd k hK; omega)

/-- The two files of awake. -/
def e1 : Dk.En := ⟨⟨#[47, 98]⟩, ⟨#[120]⟩, 7, 1⟩
def e2 : Dk.En := ⟨⟨#[47, 98]⟩, ⟨#[122]⟩, 9, 2⟩
theorem aw1 : PutOf13 [] 0 ⟨#[47, 98]⟩ ⟨#[120]⟩ 7 0 [e1] 1 := .inr (.inr (.inr (.inr ⟨rfl, ⟨by decide, by decide, ⟨by decide, by decide⟩, .inr (by decide)⟩, rfl, rfl⟩)))
theorem aw2 : PutOf13 [e1] 1 ⟨#[98]⟩ ⟨#[120]⟩ 7 130 [e1] 1 := .inl ⟨rfl, by decide, rfl, rfl⟩
theorem aw3 : PutOf13 [e1] 1 ⟨#[47, 98]⟩ ⟨#[122]⟩ 9 0 [e2] 2 := .inr (.inr (.inr (.inr ⟨rfl, ⟨by decide, by decide, ⟨by decide, by decide⟩, .inr (by decide)⟩, rfl, rfl⟩)))

theorem ag1 : Dk.get [47, 98] [e1] = some e1 ∧ Dk.has [47, 98] [e1] = true := ⟨rfl, rfl⟩
theorem ag2 : Dk.get [47, 98] [e2] = some e2 ∧ Dk.has [47, 98] [e2] = true := ⟨rfl, rfl⟩

end Go.Proofs.YtgbnelglhkfdfaaGreatDoor
