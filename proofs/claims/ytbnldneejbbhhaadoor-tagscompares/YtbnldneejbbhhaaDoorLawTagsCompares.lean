/-
  TagsCompares: its contract.
-/
import Derived.Test.YtbnldneejbbhhaaDoorTgL
import Derived.Deep.RegionHeld3
namespace Go.Proofs.YtbnldneejbbhhaaDoor
open Go.RowKit

theorem strong_sym (a b : Tg.Tag) : Tg.strong b a = Tg.strong a b := by
  unfold Tg.strong
  rw [Bool.beq_comm (a := b.v)]
  cases a.w <;> cases b.w <;> rfl
theorem weak_sym (a b : Tg.Tag) : Tg.weak b a = Tg.weak a b := by
  unfold Tg.weak
  rw [Bool.beq_comm]
theorem strong_weak {a b : Tg.Tag} (h : Tg.strong a b = true) : Tg.weak a b = true := by
  unfold Tg.strong at h
  rw [Bool.and_eq_true] at h
  exact h.2

section
variable {P : Program} {md : Region.Mode} {ops : Array Oper} {Q : Exit → Act → World → Prop} {S : World → Prop}
/-- An operation is taken first, its slot written out. -/
theorem take_d15 {i : Nat} {oi : Oper} {d : Option Tmp} {v : Value} {fuel : Nat} {listed : Array Bool} {a : Act} {w : World} (hi : ops[i]? = some oi) (hd : oi.dst = d)
    (hs : Region.noSelect ops = true) (hf : Region.free md ops listed i = true) (hr : (Region.ready md ops listed).contains i = true)
    (hQ : ∀ c a w, Q (.panic c) (a.put d v) w → Q (.panic c) a w) (hy : YieldsIf P ops S oi v a) (hS : S w)
    (h : wpAnyH P md ops Q S fuel (listed.setIfInBounds i true) (a.put d v) w) : wpAnyH P md ops Q S (fuel + 1) listed a w := by
  subst hd
  exact wpAnyH_take hi hs hf hr hQ hy hS h
end

set_option maxHeartbeats 8000000 in
set_option maxRecDepth 20000 in
theorem tagsCompares_any (a b : Tg.Tag) (y : ByteArray) (t q : Int) (w : World) (hT : Lib.TabIs Tryd.prog w "internal/strconv.uint64pow10" .u64 Lib.pow10Tab) (hy : y.size ≤ 9223372036854775807) (q0 : -9223372036854775808 ≤ q) (q1 : q ≤ 9223372036854775807) :
    Calls Tryd.prog 4 #[tA a, tA b, .agg (flC y t q)] w fun e w' => e = .returned (.bool true) ∧ Below w.heap.size w w' := by
  have HT := hid' hT
  obtain ⟨st, hst⟩ : ∃ st, Tg.strong a b = st := ⟨_, rfl⟩
  obtain ⟨wk, hwk⟩ : ∃ wk, Tg.weak a b = wk := ⟨_, rfl⟩
  obtain ⟨mm, hmm⟩ : ∃ mm, Tg.mk q y.size = mm := ⟨_, rfl⟩
  have hmk : Tg.mkB q y.size = ⟨mm.toArray⟩ := by unfold Tg.mkB; rw [hmm]
  have HSW : Hid (st = true → wk = true) := hid' (fun h => by rw [← hwk]; exact strong_weak (hst.trans h))
  have HC1 := hid' (fun W => cstrong15 a b st hst W)
  have HC1s := hid' (fun W => cstrong15 b a st ((strong_sym a b).trans hst) W)
  have HR1 := hid' (fun W => rstrong15 a b st hst W)
  have HC2 := hid' (fun W => cweak15 a b wk hwk W)
  have HC2s := hid' (fun W => cweak15 b a wk ((weak_sym a b).trans hwk) W)
  have HR2 := hid' (fun W => rweak15 a b wk hwk W)
  have HM := hid' (fun W (h : Lib.TabIs Tryd.prog W "internal/strconv.uint64pow10" .u64 Lib.pow10Tab) => cmake15 y t q W hy q0 q1 h)
  have HMr := hid' (fun W => rmake15 y t q W hy q0 q1)
  have HAw := hid' (fun W (h : Lib.TabIs Tryd.prog W "internal/strconv.uint64pow10" .u64 Lib.pow10Tab) => awake15 W h)
  rw [hmk] at HM HMr
  unfold tA at HC1 HC1s HR1 HC2 HC2s HR2
  unfold flC at HM HMr
  unfold tA flC
  clear hT hst hwk hmk hmm
  have hww : (wk != wk) = false := bne_self_eq_false _
  have hwe : (wk == wk) = true := beq_self_eq_true _
  go_enter Tryd.func4, Tryd.ntmps4
  go_upto_region 3 with fail
  have Hb3 : Hid (Ar (((((w.alloc (.cells #[.bool a.w, .string ⟨a.v.toArray⟩] 31)).alloc (.cells #[.bool b.w, .string ⟨b.v.toArray⟩] 31)).alloc (.cells #[.string y, .int .i64 t, .int .i64 q] 35)).alloc (.cells #[.bool a.w, .string ⟨a.v.toArray⟩] 36)).alloc (.cells #[.bool b.w, .string ⟨b.v.toArray⟩] 36)) w.heap.size 31 #[.bool a.w, .string ⟨a.v.toArray⟩]) := hid' (Ar.keep (Ar.keep (Ar.keep (Ar.keep (heap_alloc_last w _ : Ar (w.alloc (.cells #[.bool a.w, .string ⟨a.v.toArray⟩] 31)) w.heap.size 31 #[.bool a.w, .string ⟨a.v.toArray⟩]) (bl_alloc (w.alloc (.cells #[.bool a.w, .string ⟨a.v.toArray⟩] 31)) _)) (bl_alloc ((w.alloc (.cells #[.bool a.w, .string ⟨a.v.toArray⟩] 31)).alloc (.cells #[.bool b.w, .string ⟨b.v.toArray⟩] 31)) _)) (bl_alloc (((w.alloc (.cells #[.bool a.w, .string ⟨a.v.toArray⟩] 31)).alloc (.cells #[.bool b.w, .string ⟨b.v.toArray⟩] 31)).alloc (.cells #[.string y, .int .i64 t, .int .i64 q] 35)) _)) (bl_alloc ((((w.alloc (.cells #[.bool a.w, .string ⟨a.v.toArray⟩] 31)).alloc (.cells #[.bool b.w, .string ⟨b.v.toArray⟩] 31)).alloc (.cells #[.string y, .int .i64 t, .int .i64 q] 35)).alloc (.cells #[.bool a.w, .string ⟨a.v.toArray⟩] 36)) _))
  have Hb4 : Hid (Ar (((((w.alloc (.cells #[.bool a.w, .string ⟨a.v.toArray⟩] 31)).alloc (.cells #[.bool b.w, .string ⟨b.v.toArray⟩] 31)).alloc (.cells #[.string y, .int .i64 t, .int .i64 q] 35)).alloc (.cells #[.bool a.w, .string ⟨a.v.toArray⟩] 36)).alloc (.cells #[.bool b.w, .string ⟨b.v.toArray⟩] 36)) (w.alloc (.cells #[.bool a.w, .string ⟨a.v.toArray⟩] 31)).heap.size 31 #[.bool b.w, .string ⟨b.v.toArray⟩]) := hid' (Ar.keep (Ar.keep (Ar.keep (heap_alloc_last (w.alloc (.cells #[.bool a.w, .string ⟨a.v.toArray⟩] 31)) _ : Ar ((w.alloc (.cells #[.bool a.w, .string ⟨a.v.toArray⟩] 31)).alloc (.cells #[.bool b.w, .string ⟨b.v.toArray⟩] 31)) (w.alloc (.cells #[.bool a.w, .string ⟨a.v.toArray⟩] 31)).heap.size 31 #[.bool b.w, .string ⟨b.v.toArray⟩]) (bl_alloc ((w.alloc (.cells #[.bool a.w, .string ⟨a.v.toArray⟩] 31)).alloc (.cells #[.bool b.w, .string ⟨b.v.toArray⟩] 31)) _)) (bl_alloc (((w.alloc (.cells #[.bool a.w, .string ⟨a.v.toArray⟩] 31)).alloc (.cells #[.bool b.w, .string ⟨b.v.toArray⟩] 31)).alloc (.cells #[.string y, .int .i64 t, .int .i64 q] 35)) _)) (bl_alloc ((((w.alloc (.cells #[.bool a.w, .string ⟨a.v.toArray⟩] 31)).alloc (.cells #[.bool b.w, .string ⟨b.v.toArray⟩] 31)).alloc (.cells #[.string y, .int .i64 t, .int .i64 q] 35)).alloc (.cells #[.bool a.w, .string ⟨a.v.toArray⟩] 36)) _))
  have Hb5 : Hid (Ar (((((w.alloc (.cells #[.bool a.w, .string ⟨a.v.toArray⟩] 31)).alloc (.cells #[.bool b.w, .string ⟨b.v.toArray⟩] 31)).alloc (.cells #[.string y, .int .i64 t, .int .i64 q] 35)).alloc (.cells #[.bool a.w, .string ⟨a.v.toArray⟩] 36)).alloc (.cells #[.bool b.w, .string ⟨b.v.toArray⟩] 36)) ((w.alloc (.cells #[.bool a.w, .string ⟨a.v.toArray⟩] 31)).alloc (.cells #[.bool b.w, .string ⟨b.v.toArray⟩] 31)).heap.size 35 #[.string y, .int .i64 t, .int .i64 q]) := hid' (Ar.keep (Ar.keep (heap_alloc_last ((w.alloc (.cells #[.bool a.w, .string ⟨a.v.toArray⟩] 31)).alloc (.cells #[.bool b.w, .string ⟨b.v.toArray⟩] 31)) _ : Ar (((w.alloc (.cells #[.bool a.w, .string ⟨a.v.toArray⟩] 31)).alloc (.cells #[.bool b.w, .string ⟨b.v.toArray⟩] 31)).alloc (.cells #[.string y, .int .i64 t, .int .i64 q] 35)) ((w.alloc (.cells #[.bool a.w, .string ⟨a.v.toArray⟩] 31)).alloc (.cells #[.bool b.w, .string ⟨b.v.toArray⟩] 31)).heap.size 35 #[.string y, .int .i64 t, .int .i64 q]) (bl_alloc (((w.alloc (.cells #[.bool a.w, .string ⟨a.v.toArray⟩] 31)).alloc (.cells #[.bool b.w, .string ⟨b.v.toArray⟩] 31)).alloc (.cells #[.string y, .int .i64 t, .int .i64 q] 35)) _)) (bl_alloc ((((w.alloc (.cells #[.bool a.w, .string ⟨a.v.toArray⟩] 31)).alloc (.cells #[.bool b.w, .string ⟨b.v.toArray⟩] 31)).alloc (.cells #[.string y, .int .i64 t, .int .i64 q] 35)).alloc (.cells #[.bool a.w, .string ⟨a.v.toArray⟩] 36)) _))
  have Hb7 : Hid (Ar (((((w.alloc (.cells #[.bool a.w, .string ⟨a.v.toArray⟩] 31)).alloc (.cells #[.bool b.w, .string ⟨b.v.toArray⟩] 31)).alloc (.cells #[.string y, .int .i64 t, .int .i64 q] 35)).alloc (.cells #[.bool a.w, .string ⟨a.v.toArray⟩] 36)).alloc (.cells #[.bool b.w, .string ⟨b.v.toArray⟩] 36)) (((w.alloc (.cells #[.bool a.w, .string ⟨a.v.toArray⟩] 31)).alloc (.cells #[.bool b.w, .string ⟨b.v.toArray⟩] 31)).alloc (.cells #[.string y, .int .i64 t, .int .i64 q] 35)).heap.size 36 #[.bool a.w, .string ⟨a.v.toArray⟩]) := hid' (Ar.keep (heap_alloc_last (((w.alloc (.cells #[.bool a.w, .string ⟨a.v.toArray⟩] 31)).alloc (.cells #[.bool b.w, .string ⟨b.v.toArray⟩] 31)).alloc (.cells #[.string y, .int .i64 t, .int .i64 q] 35)) _ : Ar ((((w.alloc (.cells #[.bool a.w, .string ⟨a.v.toArray⟩] 31)).alloc (.cells #[.bool b.w, .string ⟨b.v.toArray⟩] 31)).alloc (.cells #[.string y, .int .i64 t, .int .i64 q] 35)).alloc (.cells #[.bool a.w, .string ⟨a.v.toArray⟩] 36)) (((w.alloc (.cells #[.bool a.w, .string ⟨a.v.toArray⟩] 31)).alloc (.cells #[.bool b.w, .string ⟨b.v.toArray⟩] 31)).alloc (.cells #[.string y, .int .i64 t, .int .i64 q] 35)).heap.size 36 #[.bool a.w, .string ⟨a.v.toArray⟩]) (bl_alloc ((((w.alloc (.cells #[.bool a.w, .string ⟨a.v.toArray⟩] 31)).alloc (.cells #[.bool b.w, .string ⟨b.v.toArray⟩] 31)).alloc (.cells #[.string y, .int .i64 t, .int .i64 q] 35)).alloc (.cells #[.bool a.w, .string ⟨a.v.toArray⟩] 36)) _))
  have Hb8 : Hid (Ar (((((w.alloc (.cells #[.bool a.w, .string ⟨a.v.toArray⟩] 31)).alloc (.cells #[.bool b.w, .string ⟨b.v.toArray⟩] 31)).alloc (.cells #[.string y, .int .i64 t, .int .i64 q] 35)).alloc (.cells #[.bool a.w, .string ⟨a.v.toArray⟩] 36)).alloc (.cells #[.bool b.w, .string ⟨b.v.toArray⟩] 36)) ((((w.alloc (.cells #[.bool a.w, .string ⟨a.v.toArray⟩] 31)).alloc (.cells #[.bool b.w, .string ⟨b.v.toArray⟩] 31)).alloc (.cells #[.string y, .int .i64 t, .int .i64 q] 35)).alloc (.cells #[.bool a.w, .string ⟨a.v.toArray⟩] 36)).heap.size 36 #[.bool b.w, .string ⟨b.v.toArray⟩]) := hid' (heap_alloc_last ((((w.alloc (.cells #[.bool a.w, .string ⟨a.v.toArray⟩] 31)).alloc (.cells #[.bool b.w, .string ⟨b.v.toArray⟩] 31)).alloc (.cells #[.string y, .int .i64 t, .int .i64 q] 35)).alloc (.cells #[.bool a.w, .string ⟨a.v.toArray⟩] 36)) _ : Ar (((((w.alloc (.cells #[.bool a.w, .string ⟨a.v.toArray⟩] 31)).alloc (.cells #[.bool b.w, .string ⟨b.v.toArray⟩] 31)).alloc (.cells #[.string y, .int .i64 t, .int .i64 q] 35)).alloc (.cells #[.bool a.w, .string ⟨a.v.toArray⟩] 36)).alloc (.cells #[.bool b.w, .string ⟨b.v.toArray⟩] 36)) ((((w.alloc (.cells #[.bool a.w, .string ⟨a.v.toArray⟩] 31)).alloc (.cells #[.bool b.w, .string ⟨b.v.toArray⟩] 31)).alloc (.cells #[.string y, .int .i64 t, .int .i64 q] 35)).alloc (.cells #[.bool a.w, .string ⟨a.v.toArray⟩] 36)).heap.size 36 #[.bool b.w, .string ⟨b.v.toArray⟩])
  have HB0 : Hid (Below w.heap.size w (((((w.alloc (.cells #[.bool a.w, .string ⟨a.v.toArray⟩] 31)).alloc (.cells #[.bool b.w, .string ⟨b.v.toArray⟩] 31)).alloc (.cells #[.string y, .int .i64 t, .int .i64 q] 35)).alloc (.cells #[.bool a.w, .string ⟨a.v.toArray⟩] 36)).alloc (.cells #[.bool b.w, .string ⟨b.v.toArray⟩] 36))) := hid' (below_two (below_two (below_two (below_two (bl_alloc w _) (bl_alloc (w.alloc (.cells #[.bool a.w, .string ⟨a.v.toArray⟩] 31)) _)) (bl_alloc ((w.alloc (.cells #[.bool a.w, .string ⟨a.v.toArray⟩] 31)).alloc (.cells #[.bool b.w, .string ⟨b.v.toArray⟩] 31)) _)) (bl_alloc (((w.alloc (.cells #[.bool a.w, .string ⟨a.v.toArray⟩] 31)).alloc (.cells #[.bool b.w, .string ⟨b.v.toArray⟩] 31)).alloc (.cells #[.string y, .int .i64 t, .int .i64 q] 35)) _)) (bl_alloc ((((w.alloc (.cells #[.bool a.w, .string ⟨a.v.toArray⟩] 31)).alloc (.cells #[.bool b.w, .string ⟨b.v.toArray⟩] 31)).alloc (.cells #[.string y, .int .i64 t, .int .i64 q] 35)).alloc (.cells #[.bool a.w, .string ⟨a.v.toArray⟩] 36)) _))
  have z1 : (w.alloc (.cells #[.bool a.w, .string ⟨a.v.toArray⟩] 31)).heap.size = w.heap.size + 1 := by simp
  have z2 : ((w.alloc (.cells #[.bool a.w, .string ⟨a.v.toArray⟩] 31)).alloc (.cells #[.bool b.w, .string ⟨b.v.toArray⟩] 31)).heap.size = w.heap.size + 1 + 1 := by simp
  have z3 : (((w.alloc (.cells #[.bool a.w, .string ⟨a.v.toArray⟩] 31)).alloc (.cells #[.bool b.w, .string ⟨b.v.toArray⟩] 31)).alloc (.cells #[.string y, .int .i64 t, .int .i64 q] 35)).heap.size = w.heap.size + 1 + 1 + 1 := by simp
  have z4 : ((((w.alloc (.cells #[.bool a.w, .string ⟨a.v.toArray⟩] 31)).alloc (.cells #[.bool b.w, .string ⟨b.v.toArray⟩] 31)).alloc (.cells #[.string y, .int .i64 t, .int .i64 q] 35)).alloc (.cells #[.bool a.w, .string ⟨a.v.toArray⟩] 36)).heap.size = w.heap.size + 1 + 1 + 1 + 1 := by simp
  rw [z1] at Hb4
  rw [z2] at Hb5
  rw [z3] at Hb7
  rw [z4] at Hb8
  obtain ⟨b3, hb3⟩ : ∃ b3, w.heap.size = b3 := ⟨_, rfl⟩
  rw [hb3] at Hb3 Hb4 Hb5 Hb7 Hb8 ⊢
  obtain ⟨b4, hb4⟩ : ∃ b4, b3 + 1 = b4 := ⟨_, rfl⟩
  rw [hb4] at Hb4 Hb5 Hb7 Hb8 ⊢
  obtain ⟨b5, hb5⟩ : ∃ b5, b4 + 1 = b5 := ⟨_, rfl⟩
  rw [hb5] at Hb5 Hb7 Hb8 ⊢
  obtain ⟨b7, hb7⟩ : ∃ b7, b5 + 1 = b7 := ⟨_, rfl⟩
  rw [hb7] at Hb7 Hb8 ⊢
  obtain ⟨b8, hb8⟩ : ∃ b8, b7 + 1 = b8 := ⟨_, rfl⟩
  rw [hb8] at Hb8 ⊢
  generalize (((((w.alloc (.cells #[.bool a.w, .string ⟨a.v.toArray⟩] 31)).alloc (.cells #[.bool b.w, .string ⟨b.v.toArray⟩] 31)).alloc (.cells #[.string y, .int .i64 t, .int .i64 q] 35)).alloc (.cells #[.bool a.w, .string ⟨a.v.toArray⟩] 36)).alloc (.cells #[.bool b.w, .string ⟨b.v.toArray⟩] 36)) = w0 at *
  clear z1 z2 z3 z4 hb3 hb4 hb5 hb7 hb8
  have sOf : ∀ W W1 : World, (Below w0.heap.size w0 W ∧ W.cell? ⟨b3, 0, none⟩ = some (.bool a.w) ∧ W.cell? ⟨b3, 1, none⟩ = some (.string ⟨a.v.toArray⟩) ∧ W.cell? ⟨b4, 0, none⟩ = some (.bool b.w) ∧ W.cell? ⟨b4, 1, none⟩ = some (.string ⟨b.v.toArray⟩) ∧ W.cell? ⟨b5, 0, none⟩ = some (.string y) ∧ W.cell? ⟨b5, 1, none⟩ = some (.int .i64 t) ∧ W.cell? ⟨b5, 2, none⟩ = some (.int .i64 q) ∧ W.cell? ⟨b7, 0, none⟩ = some (.bool a.w) ∧ W.cell? ⟨b7, 1, none⟩ = some (.string ⟨a.v.toArray⟩) ∧ W.cell? ⟨b8, 0, none⟩ = some (.bool b.w) ∧ W.cell? ⟨b8, 1, none⟩ = some (.string ⟨b.v.toArray⟩)) → Below W.heap.size W W1 → (Below w0.heap.size w0 W1 ∧ W1.cell? ⟨b3, 0, none⟩ = some (.bool a.w) ∧ W1.cell? ⟨b3, 1, none⟩ = some (.string ⟨a.v.toArray⟩) ∧ W1.cell? ⟨b4, 0, none⟩ = some (.bool b.w) ∧ W1.cell? ⟨b4, 1, none⟩ = some (.string ⟨b.v.toArray⟩) ∧ W1.cell? ⟨b5, 0, none⟩ = some (.string y) ∧ W1.cell? ⟨b5, 1, none⟩ = some (.int .i64 t) ∧ W1.cell? ⟨b5, 2, none⟩ = some (.int .i64 q) ∧ W1.cell? ⟨b7, 0, none⟩ = some (.bool a.w) ∧ W1.cell? ⟨b7, 1, none⟩ = some (.string ⟨a.v.toArray⟩) ∧ W1.cell? ⟨b8, 0, none⟩ = some (.bool b.w) ∧ W1.cell? ⟨b8, 1, none⟩ = some (.string ⟨b.v.toArray⟩)) := fun W W1 h hb => ⟨below_two h.1 hb, (Hb3.out.keep (below_two h.1 hb)).cell 0 _ rfl, (Hb3.out.keep (below_two h.1 hb)).cell 1 _ rfl, (Hb4.out.keep (below_two h.1 hb)).cell 0 _ rfl, (Hb4.out.keep (below_two h.1 hb)).cell 1 _ rfl, (Hb5.out.keep (below_two h.1 hb)).cell 0 _ rfl, (Hb5.out.keep (below_two h.1 hb)).cell 1 _ rfl, (Hb5.out.keep (below_two h.1 hb)).cell 2 _ rfl, (Hb7.out.keep (below_two h.1 hb)).cell 0 _ rfl, (Hb7.out.keep (below_two h.1 hb)).cell 1 _ rfl, (Hb8.out.keep (below_two h.1 hb)).cell 0 _ rfl, (Hb8.out.keep (below_two h.1 hb)).cell 1 _ rfl⟩
  have hS : Below w0.heap.size w0 w0 ∧ w0.cell? ⟨b3, 0, none⟩ = some (.bool a.w) ∧ w0.cell? ⟨b3, 1, none⟩ = some (.string ⟨a.v.toArray⟩) ∧ w0.cell? ⟨b4, 0, none⟩ = some (.bool b.w) ∧ w0.cell? ⟨b4, 1, none⟩ = some (.string ⟨b.v.toArray⟩) ∧ w0.cell? ⟨b5, 0, none⟩ = some (.string y) ∧ w0.cell? ⟨b5, 1, none⟩ = some (.int .i64 t) ∧ w0.cell? ⟨b5, 2, none⟩ = some (.int .i64 q) ∧ w0.cell? ⟨b7, 0, none⟩ = some (.bool a.w) ∧ w0.cell? ⟨b7, 1, none⟩ = some (.string ⟨a.v.toArray⟩) ∧ w0.cell? ⟨b8, 0, none⟩ = some (.bool b.w) ∧ w0.cell? ⟨b8, 1, none⟩ = some (.string ⟨b.v.toArray⟩) := ⟨Below.refl _ _, Hb3.out.cell 0 _ rfl, Hb3.out.cell 1 _ rfl, Hb4.out.cell 0 _ rfl, Hb4.out.cell 1 _ rfl, Hb5.out.cell 0 _ rfl, Hb5.out.cell 1 _ rfl, Hb5.out.cell 2 _ rfl, Hb7.out.cell 0 _ rfl, Hb7.out.cell 1 _ rfl, Hb8.out.cell 0 _ rfl, Hb8.out.cell 1 _ rfl⟩
  have tOf : ∀ W : World, (Below w0.heap.size w0 W ∧ W.cell? ⟨b3, 0, none⟩ = some (.bool a.w) ∧ W.cell? ⟨b3, 1, none⟩ = some (.string ⟨a.v.toArray⟩) ∧ W.cell? ⟨b4, 0, none⟩ = some (.bool b.w) ∧ W.cell? ⟨b4, 1, none⟩ = some (.string ⟨b.v.toArray⟩) ∧ W.cell? ⟨b5, 0, none⟩ = some (.string y) ∧ W.cell? ⟨b5, 1, none⟩ = some (.int .i64 t) ∧ W.cell? ⟨b5, 2, none⟩ = some (.int .i64 q) ∧ W.cell? ⟨b7, 0, none⟩ = some (.bool a.w) ∧ W.cell? ⟨b7, 1, none⟩ = some (.string ⟨a.v.toArray⟩) ∧ W.cell? ⟨b8, 0, none⟩ = some (.bool b.w) ∧ W.cell? ⟨b8, 1, none⟩ = some (.string ⟨b.v.toArray⟩)) → Lib.TabIs Tryd.prog W "internal/strconv.uint64pow10" .u64 Lib.pow10Tab := fun W h => tab_below HT.out (below_two HB0.out h.1)
  cases st
  · go_region_held3 (fun W => Below w0.heap.size w0 W ∧ W.cell? ⟨b3, 0, none⟩ = some (.bool a.w) ∧ W.cell? ⟨b3, 1, none⟩ = some (.string ⟨a.v.toArray⟩) ∧ W.cell? ⟨b4, 0, none⟩ = some (.bool b.w) ∧ W.cell? ⟨b4, 1, none⟩ = some (.string ⟨b.v.toArray⟩) ∧ W.cell? ⟨b5, 0, none⟩ = some (.string y) ∧ W.cell? ⟨b5, 1, none⟩ = some (.int .i64 t) ∧ W.cell? ⟨b5, 2, none⟩ = some (.int .i64 q) ∧ W.cell? ⟨b7, 0, none⟩ = some (.bool a.w) ∧ W.cell? ⟨b7, 1, none⟩ = some (.string ⟨a.v.toArray⟩) ∧ W.cell? ⟨b8, 0, none⟩ = some (.bool b.w) ∧ W.cell? ⟨b8, 1, none⟩ = some (.string ⟨b.v.toArray⟩))
      (first | assumption | exact sOf _ _ (by assumption) (by assumption) | exact sOf _ _ (by assumption) ((Below.refl _ _).drew))
      (first
      | (go_at_call 10; with_reducible refine (HC1.out _).mono ?_; rintro e wz ⟨rfl, hbz⟩)
      | (go_at_call 10; with_reducible refine (HC1s.out _).mono ?_; rintro e wz ⟨rfl, hbz⟩)
      | (go_at_call 11; with_reducible refine (HR1.out _).mono ?_; rintro e wz ⟨rfl, hbz⟩)
      | (go_at_call 12; with_reducible refine (HC2.out _).mono ?_; rintro e wz ⟨rfl, hbz⟩)
      | (go_at_call 12; with_reducible refine (HC2s.out _).mono ?_; rintro e wz ⟨rfl, hbz⟩)
      | (go_at_call 13; with_reducible refine (HR2.out _).mono ?_; rintro e wz ⟨rfl, hbz⟩)
      | (go_at_call 14; refine (HM.out _ (tOf _ (by assumption))).mono ?_; rintro e wz ⟨rfl, hbz⟩)
      | (go_at_call 15; refine (HMr.out _).mono ?_; rintro e wz ⟨rfl, hbz⟩)
      | (go_at_call 9; refine (HAw.out _ (tOf _ (by assumption))).mono ?_; rintro e wz ⟨rfl, hbz⟩))
    have hSz : Below w0.heap.size w0 wz ∧ wz.cell? ⟨b3, 0, none⟩ = some (.bool a.w) ∧ wz.cell? ⟨b3, 1, none⟩ = some (.string ⟨a.v.toArray⟩) ∧ wz.cell? ⟨b4, 0, none⟩ = some (.bool b.w) ∧ wz.cell? ⟨b4, 1, none⟩ = some (.string ⟨b.v.toArray⟩) ∧ wz.cell? ⟨b5, 0, none⟩ = some (.string y) ∧ wz.cell? ⟨b5, 1, none⟩ = some (.int .i64 t) ∧ wz.cell? ⟨b5, 2, none⟩ = some (.int .i64 q) ∧ wz.cell? ⟨b7, 0, none⟩ = some (.bool a.w) ∧ wz.cell? ⟨b7, 1, none⟩ = some (.string ⟨a.v.toArray⟩) ∧ wz.cell? ⟨b8, 0, none⟩ = some (.bool b.w) ∧ wz.cell? ⟨b8, 1, none⟩ = some (.string ⟨b.v.toArray⟩) := by assumption
    go_upto_region 5 with fail
    refine wp_region_held_drew (S := fun W => Below w0.heap.size w0 W ∧ W.cell? ⟨b3, 0, none⟩ = some (.bool a.w) ∧ W.cell? ⟨b3, 1, none⟩ = some (.string ⟨a.v.toArray⟩) ∧ W.cell? ⟨b4, 0, none⟩ = some (.bool b.w) ∧ W.cell? ⟨b4, 1, none⟩ = some (.string ⟨b.v.toArray⟩) ∧ W.cell? ⟨b5, 0, none⟩ = some (.string y) ∧ W.cell? ⟨b5, 1, none⟩ = some (.int .i64 t) ∧ W.cell? ⟨b5, 2, none⟩ = some (.int .i64 q) ∧ W.cell? ⟨b7, 0, none⟩ = some (.bool a.w) ∧ W.cell? ⟨b7, 1, none⟩ = some (.string ⟨a.v.toArray⟩) ∧ W.cell? ⟨b8, 0, none⟩ = some (.bool b.w) ∧ W.cell? ⟨b8, 1, none⟩ = some (.string ⟨b.v.toArray⟩)) (by kernel_rfl) ?_ (fun hHeld => ?_)
    · exact sOf _ _ hSz ((Below.refl _ _).drew)
    refine take_d15 (i := 0) (d := some 42) (v := ?_) rfl rfl (by kernel_rfl) (by kernel_rfl) (by kernel_rfl) (fun _ _ _ h => h) (Or.inl ⟨by rfl, ?_⟩) (by assumption) ?_
    rotate_left
    · intro w hSw
      (try dsimp only at hSw)
      obtain ⟨_, s1, s2, s3, s4, s5, s6, s7, s8, s9, s10, s11⟩ := hSw
      go_simp
      try with_reducible rfl
    try simp only [Act.put, List.setIfInBounds_toArray, List.set_cons_zero, List.set_cons_succ]
    refine take_d15 (i := 1) (d := some 43) (v := ?_) rfl rfl (by kernel_rfl) (by kernel_rfl) (by kernel_rfl) (fun _ _ _ h => h) (Or.inl ⟨by rfl, ?_⟩) (by assumption) ?_
    rotate_left
    · intro w hSw
      (try dsimp only at hSw)
      obtain ⟨_, s1, s2, s3, s4, s5, s6, s7, s8, s9, s10, s11⟩ := hSw
      go_simp
      try with_reducible rfl
    try simp only [Act.put, List.setIfInBounds_toArray, List.set_cons_zero, List.set_cons_succ]
    refine take_d15 (i := 3) (d := some 45) (v := ?_) rfl rfl (by kernel_rfl) (by kernel_rfl) (by kernel_rfl) (fun _ _ _ h => h) (Or.inl ⟨by rfl, ?_⟩) (by assumption) ?_
    rotate_left
    · intro w hSw
      (try dsimp only at hSw)
      obtain ⟨_, s1, s2, s3, s4, s5, s6, s7, s8, s9, s10, s11⟩ := hSw
      go_simp
      try with_reducible rfl
    try simp only [Act.put, List.setIfInBounds_toArray, List.set_cons_zero, List.set_cons_succ]
    refine take_d15 (i := 4) (d := some 46) (v := ?_) rfl rfl (by kernel_rfl) (by kernel_rfl) (by kernel_rfl) (fun _ _ _ h => h) (Or.inl ⟨by rfl, ?_⟩) (by assumption) ?_
    rotate_left
    · intro w hSw
      (try dsimp only at hSw)
      obtain ⟨_, s1, s2, s3, s4, s5, s6, s7, s8, s9, s10, s11⟩ := hSw
      go_simp
      try with_reducible rfl
    try simp only [Act.put, List.setIfInBounds_toArray, List.set_cons_zero, List.set_cons_succ]
    refine wpAnyH_ready (rs := [2]) (by kernel_rfl) (by simp) ?_
    refine AllReadyH.cons rfl (fun K hK => ?_) AllReadyH.nil
    go_simp
    refine (HC1.out _).mono ?_
    rintro e v1 ⟨rfl, hbn⟩
    go_wp2_with fail
    refine hK.out _ _ ?_ (fun hHeld => ?_)
    · exact sOf _ _ (by assumption) hbn
    clear hK K hbn
    try simp only [Act.put, List.setIfInBounds_toArray, List.set_cons_zero, List.set_cons_succ]
    refine wpAnyH_ready (rs := [5]) (by kernel_rfl) (by simp) ?_
    refine AllReadyH.cons rfl (fun K hK => ?_) AllReadyH.nil
    go_simp
    refine (HC1s.out _).mono ?_
    rintro e v2 ⟨rfl, hbn⟩
    go_wp2_with fail
    refine hK.out _ _ ?_ (fun hHeld => ?_)
    · exact sOf _ _ (by assumption) hbn
    clear hK K hbn
    try simp only [Act.put, List.setIfInBounds_toArray, List.set_cons_zero, List.set_cons_succ]
    refine take_d15 (i := 6) (d := some 48) (v := ?_) rfl rfl (by kernel_rfl) (by kernel_rfl) (by kernel_rfl) (fun _ _ _ h => h) (Or.inl ⟨by rfl, ?_⟩) (by assumption) ?_
    rotate_left
    · intro w hSw
      (try dsimp only at hSw)
      obtain ⟨_, s1, s2, s3, s4, s5, s6, s7, s8, s9, s10, s11⟩ := hSw
      go_simp
      try with_reducible rfl
    try simp only [Act.put, List.setIfInBounds_toArray, List.set_cons_zero, List.set_cons_succ]
    refine take_d15 (i := 7) (d := some 49) (v := ?_) rfl rfl (by kernel_rfl) (by kernel_rfl) (by kernel_rfl) (fun _ _ _ h => h) (Or.inl ⟨by rfl, ?_⟩) (by assumption) ?_
    rotate_left
    · intro w hSw
      (try dsimp only at hSw)
      obtain ⟨_, s1, s2, s3, s4, s5, s6, s7, s8, s9, s10, s11⟩ := hSw
      go_simp
      try with_reducible rfl
    try simp only [Act.put, List.setIfInBounds_toArray, List.set_cons_zero, List.set_cons_succ]
    refine take_d15 (i := 8) (d := some 50) (v := ?_) rfl rfl (by kernel_rfl) (by kernel_rfl) (by kernel_rfl) (fun _ _ _ h => h) (Or.inl ⟨by rfl, ?_⟩) (by assumption) ?_
    rotate_left
    · intro w hSw
      (try dsimp only at hSw)
      obtain ⟨_, s1, s2, s3, s4, s5, s6, s7, s8, s9, s10, s11⟩ := hSw
      go_simp
      try with_reducible rfl
    try simp only [Act.put, List.setIfInBounds_toArray, List.set_cons_zero, List.set_cons_succ]
    refine take_d15 (i := 9) (d := some 51) (v := ?_) rfl rfl (by kernel_rfl) (by kernel_rfl) (by kernel_rfl) (fun _ _ _ h => h) (Or.inl ⟨by rfl, ?_⟩) (by assumption) ?_
    rotate_left
    · intro w hSw
      (try dsimp only at hSw)
      obtain ⟨_, s1, s2, s3, s4, s5, s6, s7, s8, s9, s10, s11⟩ := hSw
      go_simp
      try with_reducible rfl
    try simp only [Act.put, List.setIfInBounds_toArray, List.set_cons_zero, List.set_cons_succ]
    refine take_d15 (i := 11) (d := some 53) (v := ?_) rfl rfl (by kernel_rfl) (by kernel_rfl) (by kernel_rfl) (fun _ _ _ h => h) (Or.inl ⟨by rfl, ?_⟩) (by assumption) ?_
    rotate_left
    · intro w hSw
      (try dsimp only at hSw)
      obtain ⟨_, s1, s2, s3, s4, s5, s6, s7, s8, s9, s10, s11⟩ := hSw
      go_simp
      try with_reducible rfl
    try simp only [Act.put, List.setIfInBounds_toArray, List.set_cons_zero, List.set_cons_succ]
    refine take_d15 (i := 12) (d := some 54) (v := ?_) rfl rfl (by kernel_rfl) (by kernel_rfl) (by kernel_rfl) (fun _ _ _ h => h) (Or.inl ⟨by rfl, ?_⟩) (by assumption) ?_
    rotate_left
    · intro w hSw
      (try dsimp only at hSw)
      obtain ⟨_, s1, s2, s3, s4, s5, s6, s7, s8, s9, s10, s11⟩ := hSw
      go_simp
      try with_reducible rfl
    try simp only [Act.put, List.setIfInBounds_toArray, List.set_cons_zero, List.set_cons_succ]
    refine wpAnyH_ready (rs := [10]) (by kernel_rfl) (by simp) ?_
    refine AllReadyH.cons rfl (fun K hK => ?_) AllReadyH.nil
    go_simp
    refine (HC2.out _).mono ?_
    rintro e v3 ⟨rfl, hbn⟩
    go_wp2_with fail
    refine hK.out _ _ ?_ (fun hHeld => ?_)
    · exact sOf _ _ (by assumption) hbn
    clear hK K hbn
    try simp only [Act.put, List.setIfInBounds_toArray, List.set_cons_zero, List.set_cons_succ]
    refine wpAnyH_ready (rs := [13]) (by kernel_rfl) (by simp) ?_
    refine AllReadyH.cons rfl (fun K hK => ?_) AllReadyH.nil
    go_simp
    refine (HC2s.out _).mono ?_
    rintro e v4 ⟨rfl, hbn⟩
    go_wp2_with fail
    refine hK.out _ _ ?_ (fun hHeld => ?_)
    · exact sOf _ _ (by assumption) hbn
    clear hK K hbn
    try simp only [Act.put, List.setIfInBounds_toArray, List.set_cons_zero, List.set_cons_succ]
    refine take_d15 (i := 14) (d := some 56) (v := ?_) rfl rfl (by kernel_rfl) (by kernel_rfl) (by kernel_rfl) (fun _ _ _ h => h) (Or.inl ⟨by rfl, ?_⟩) (by assumption) ?_
    rotate_left
    · intro w hSw
      (try dsimp only at hSw)
      obtain ⟨_, s1, s2, s3, s4, s5, s6, s7, s8, s9, s10, s11⟩ := hSw
      go_simp
      try with_reducible rfl
    try simp only [Act.put, List.setIfInBounds_toArray, List.set_cons_zero, List.set_cons_succ]
    refine take_d15 (i := 15) (d := some 57) (v := ?_) rfl rfl (by kernel_rfl) (by kernel_rfl) (by kernel_rfl) (fun _ _ _ h => h) (Or.inl ⟨by rfl, ?_⟩) (by assumption) ?_
    rotate_left
    · intro w hSw
      (try dsimp only at hSw)
      obtain ⟨_, s1, s2, s3, s4, s5, s6, s7, s8, s9, s10, s11⟩ := hSw
      go_simp
      try with_reducible rfl
    try simp only [Act.put, List.setIfInBounds_toArray, List.set_cons_zero, List.set_cons_succ]
    refine take_d15 (i := 16) (d := some 58) (v := ?_) rfl rfl (by kernel_rfl) (by kernel_rfl) (by kernel_rfl) (fun _ _ _ h => h) (Or.inl ⟨by rfl, ?_⟩) (by assumption) ?_
    rotate_left
    · intro w hSw
      (try dsimp only at hSw)
      obtain ⟨_, s1, s2, s3, s4, s5, s6, s7, s8, s9, s10, s11⟩ := hSw
      go_simp
      try with_reducible rfl
    try simp only [Act.put, List.setIfInBounds_toArray, List.set_cons_zero, List.set_cons_succ]
    refine take_d15 (i := 17) (d := some 59) (v := ?_) rfl rfl (by kernel_rfl) (by kernel_rfl) (by kernel_rfl) (fun _ _ _ h => h) (Or.inl ⟨by rfl, ?_⟩) (by assumption) ?_
    rotate_left
    · intro w hSw
      (try dsimp only at hSw)
      obtain ⟨_, s1, s2, s3, s4, s5, s6, s7, s8, s9, s10, s11⟩ := hSw
      go_simp
      try with_reducible rfl
    try simp only [Act.put, List.setIfInBounds_toArray, List.set_cons_zero, List.set_cons_succ]
    refine take_d15 (i := 18) (d := some 60) (v := ?_) rfl rfl (by kernel_rfl) (by kernel_rfl) (by kernel_rfl) (fun _ _ _ h => h) (Or.inl ⟨by rfl, ?_⟩) (by assumption) ?_
    rotate_left
    · intro w hSw
      (try dsimp only at hSw)
      obtain ⟨_, s1, s2, s3, s4, s5, s6, s7, s8, s9, s10, s11⟩ := hSw
      go_simp
      try with_reducible rfl
    try simp only [Act.put, List.setIfInBounds_toArray, List.set_cons_zero, List.set_cons_succ]
    refine wpAnyH_ready (rs := [19]) (by kernel_rfl) (by simp) ?_
    refine AllReadyH.cons rfl (fun K hK => ?_) AllReadyH.nil
    go_simp
    refine (HC1.out _).mono ?_
    rintro e v5 ⟨rfl, hbn⟩
    go_wp2_with fail
    refine hK.out _ _ ?_ (fun hHeld => ?_)
    · exact sOf _ _ (by assumption) hbn
    clear hK K hbn
    try simp only [Act.put, List.setIfInBounds_toArray, List.set_cons_zero, List.set_cons_succ]
    refine take_d15 (i := 20) (d := some 62) (v := ?_) rfl rfl (by kernel_rfl) (by kernel_rfl) (by kernel_rfl) (fun _ _ _ h => h) (Or.inl ⟨by rfl, ?_⟩) (by assumption) ?_
    rotate_left
    · intro w hSw
      (try dsimp only at hSw)
      obtain ⟨_, s1, s2, s3, s4, s5, s6, s7, s8, s9, s10, s11⟩ := hSw
      go_simp
      try with_reducible rfl
    try simp only [Act.put, List.setIfInBounds_toArray, List.set_cons_zero, List.set_cons_succ]
    refine take_d15 (i := 21) (d := some 63) (v := ?_) rfl rfl (by kernel_rfl) (by kernel_rfl) (by kernel_rfl) (fun _ _ _ h => h) (Or.inl ⟨by rfl, ?_⟩) (by assumption) ?_
    rotate_left
    · intro w hSw
      (try dsimp only at hSw)
      obtain ⟨_, s1, s2, s3, s4, s5, s6, s7, s8, s9, s10, s11⟩ := hSw
      go_simp
      try with_reducible rfl
    try simp only [Act.put, List.setIfInBounds_toArray, List.set_cons_zero, List.set_cons_succ]
    refine take_d15 (i := 22) (d := some 64) (v := undef) rfl rfl (by kernel_rfl) (by kernel_rfl) (by kernel_rfl) (fun _ _ _ h => h) (Or.inr ⟨by rfl, rfl⟩) (by assumption) ?_
    try simp only [Act.put, List.setIfInBounds_toArray, List.set_cons_zero, List.set_cons_succ]
    refine take_d15 (i := 23) (d := some 65) (v := undef) rfl rfl (by kernel_rfl) (by kernel_rfl) (by kernel_rfl) (fun _ _ _ h => h) (Or.inr ⟨by rfl, rfl⟩) (by assumption) ?_
    try simp only [Act.put, List.setIfInBounds_toArray, List.set_cons_zero, List.set_cons_succ]
    refine take_d15 (i := 24) (d := some 66) (v := undef) rfl rfl (by kernel_rfl) (by kernel_rfl) (by kernel_rfl) (fun _ _ _ h => h) (Or.inr ⟨by rfl, rfl⟩) (by assumption) ?_
    try simp only [Act.put, List.setIfInBounds_toArray, List.set_cons_zero, List.set_cons_succ]
    refine take_d15 (i := 25) (d := some 67) (v := ?_) rfl rfl (by kernel_rfl) (by kernel_rfl) (by kernel_rfl) (fun _ _ _ h => h) (Or.inl ⟨by rfl, ?_⟩) (by assumption) ?_
    rotate_left
    · intro w hSw
      (try dsimp only at hSw)
      obtain ⟨_, s1, s2, s3, s4, s5, s6, s7, s8, s9, s10, s11⟩ := hSw
      go_simp
      try with_reducible rfl
    try simp only [Act.put, List.setIfInBounds_toArray, List.set_cons_zero, List.set_cons_succ]
    refine take_d15 (i := 26) (d := some 68) (v := ?_) rfl rfl (by kernel_rfl) (by kernel_rfl) (by kernel_rfl) (fun _ _ _ h => h) (Or.inl ⟨by rfl, ?_⟩) (by assumption) ?_
    rotate_left
    · intro w hSw
      (try dsimp only at hSw)
      obtain ⟨_, s1, s2, s3, s4, s5, s6, s7, s8, s9, s10, s11⟩ := hSw
      go_simp
      try with_reducible rfl
    try simp only [Act.put, List.setIfInBounds_toArray, List.set_cons_zero, List.set_cons_succ]
    refine take_d15 (i := 27) (d := some 69) (v := ?_) rfl rfl (by kernel_rfl) (by kernel_rfl) (by kernel_rfl) (fun _ _ _ h => h) (Or.inl ⟨by rfl, ?_⟩) (by assumption) ?_
    rotate_left
    · intro w hSw
      (try dsimp only at hSw)
      obtain ⟨_, s1, s2, s3, s4, s5, s6, s7, s8, s9, s10, s11⟩ := hSw
      go_simp
      try with_reducible rfl
    try simp only [Act.put, List.setIfInBounds_toArray, List.set_cons_zero, List.set_cons_succ]
    refine wpAnyH_ready (rs := [28]) (by kernel_rfl) (by simp) ?_
    refine AllReadyH.cons rfl (fun K hK => ?_) AllReadyH.nil
    go_simp
    refine (HAw.out _ (tOf _ (by assumption))).mono ?_
    rintro e v6 ⟨rfl, hbn⟩
    go_wp2_with fail
    refine hK.out _ _ ?_ (fun hHeld => ?_)
    · exact sOf _ _ (by assumption) hbn
    clear hK K hbn
    try simp only [Act.put, List.setIfInBounds_toArray, List.set_cons_zero, List.set_cons_succ]
    refine take_d15 (i := 29) (d := some 71) (v := ?_) rfl rfl (by kernel_rfl) (by kernel_rfl) (by kernel_rfl) (fun _ _ _ h => h) (Or.inl ⟨by rfl, ?_⟩) (by assumption) ?_
    rotate_left
    · intro w hSw
      (try dsimp only at hSw)
      obtain ⟨_, s1, s2, s3, s4, s5, s6, s7, s8, s9, s10, s11⟩ := hSw
      go_simp
      try with_reducible rfl
    try simp only [Act.put, List.setIfInBounds_toArray, List.set_cons_zero, List.set_cons_succ]
    refine take_d15 (i := 30) (d := some 6) (v := ?_) rfl rfl (by kernel_rfl) (by kernel_rfl) (by kernel_rfl) (fun _ _ _ h => h) (Or.inl ⟨by rfl, ?_⟩) (by assumption) ?_
    rotate_left
    · intro w hSw
      (try dsimp only at hSw)
      obtain ⟨_, s1, s2, s3, s4, s5, s6, s7, s8, s9, s10, s11⟩ := hSw
      go_simp
      try with_reducible rfl
    try simp only [Act.put, List.setIfInBounds_toArray, List.set_cons_zero, List.set_cons_succ]
    refine wpAnyH_done (by kernel_rfl) ?_ _
    go_wp2
    go_ret
    exact ⟨rfl, below_two HB0.out (And.left (by assumption : Below w0.heap.size w0 v6 ∧ v6.cell? ⟨b3, 0, none⟩ = some (.bool a.w) ∧ v6.cell? ⟨b3, 1, none⟩ = some (.string ⟨a.v.toArray⟩) ∧ v6.cell? ⟨b4, 0, none⟩ = some (.bool b.w) ∧ v6.cell? ⟨b4, 1, none⟩ = some (.string ⟨b.v.toArray⟩) ∧ v6.cell? ⟨b5, 0, none⟩ = some (.string y) ∧ v6.cell? ⟨b5, 1, none⟩ = some (.int .i64 t) ∧ v6.cell? ⟨b5, 2, none⟩ = some (.int .i64 q) ∧ v6.cell? ⟨b7, 0, none⟩ = some (.bool a.w) ∧ v6.cell? ⟨b7, 1, none⟩ = some (.string ⟨a.v.toArray⟩) ∧ v6.cell? ⟨b8, 0, none⟩ = some (.bool b.w) ∧ v6.cell? ⟨b8, 1, none⟩ = some (.string ⟨b.v.toArray⟩)))⟩
  · obtain rfl : wk = true := HSW.out rfl
    go_region_held3 (fun W => Below w0.heap.size w0 W ∧ W.cell? ⟨b3, 0, none⟩ = some (.bool a.w) ∧ W.cell? ⟨b3, 1, none⟩ = some (.string ⟨a.v.toArray⟩) ∧ W.cell? ⟨b4, 0, none⟩ = some (.bool b.w) ∧ W.cell? ⟨b4, 1, none⟩ = some (.string ⟨b.v.toArray⟩) ∧ W.cell? ⟨b5, 0, none⟩ = some (.string y) ∧ W.cell? ⟨b5, 1, none⟩ = some (.int .i64 t) ∧ W.cell? ⟨b5, 2, none⟩ = some (.int .i64 q) ∧ W.cell? ⟨b7, 0, none⟩ = some (.bool a.w) ∧ W.cell? ⟨b7, 1, none⟩ = some (.string ⟨a.v.toArray⟩) ∧ W.cell? ⟨b8, 0, none⟩ = some (.bool b.w) ∧ W.cell? ⟨b8, 1, none⟩ = some (.string ⟨b.v.toArray⟩))
      (first | assumption | exact sOf _ _ (by assumption) (by assumption) | exact sOf _ _ (by assumption) ((Below.refl _ _).drew))
      (first
      | (go_at_call 10; with_reducible refine (HC1.out _).mono ?_; rintro e wz ⟨rfl, hbz⟩)
      | (go_at_call 10; with_reducible refine (HC1s.out _).mono ?_; rintro e wz ⟨rfl, hbz⟩)
      | (go_at_call 11; with_reducible refine (HR1.out _).mono ?_; rintro e wz ⟨rfl, hbz⟩)
      | (go_at_call 12; with_reducible refine (HC2.out _).mono ?_; rintro e wz ⟨rfl, hbz⟩)
      | (go_at_call 12; with_reducible refine (HC2s.out _).mono ?_; rintro e wz ⟨rfl, hbz⟩)
      | (go_at_call 13; with_reducible refine (HR2.out _).mono ?_; rintro e wz ⟨rfl, hbz⟩)
      | (go_at_call 14; refine (HM.out _ (tOf _ (by assumption))).mono ?_; rintro e wz ⟨rfl, hbz⟩)
      | (go_at_call 15; refine (HMr.out _).mono ?_; rintro e wz ⟨rfl, hbz⟩)
      | (go_at_call 9; refine (HAw.out _ (tOf _ (by assumption))).mono ?_; rintro e wz ⟨rfl, hbz⟩))
    have hSz : Below w0.heap.size w0 wz ∧ wz.cell? ⟨b3, 0, none⟩ = some (.bool a.w) ∧ wz.cell? ⟨b3, 1, none⟩ = some (.string ⟨a.v.toArray⟩) ∧ wz.cell? ⟨b4, 0, none⟩ = some (.bool b.w) ∧ wz.cell? ⟨b4, 1, none⟩ = some (.string ⟨b.v.toArray⟩) ∧ wz.cell? ⟨b5, 0, none⟩ = some (.string y) ∧ wz.cell? ⟨b5, 1, none⟩ = some (.int .i64 t) ∧ wz.cell? ⟨b5, 2, none⟩ = some (.int .i64 q) ∧ wz.cell? ⟨b7, 0, none⟩ = some (.bool a.w) ∧ wz.cell? ⟨b7, 1, none⟩ = some (.string ⟨a.v.toArray⟩) ∧ wz.cell? ⟨b8, 0, none⟩ = some (.bool b.w) ∧ wz.cell? ⟨b8, 1, none⟩ = some (.string ⟨b.v.toArray⟩) := by assumption
    go_upto_region 5 with fail
    go_region_held3 (fun W => Below w0.heap.size w0 W ∧ W.cell? ⟨b3, 0, none⟩ = some (.bool a.w) ∧ W.cell? ⟨b3, 1, none⟩ = some (.string ⟨a.v.toArray⟩) ∧ W.cell? ⟨b4, 0, none⟩ = some (.bool b.w) ∧ W.cell? ⟨b4, 1, none⟩ = some (.string ⟨b.v.toArray⟩) ∧ W.cell? ⟨b5, 0, none⟩ = some (.string y) ∧ W.cell? ⟨b5, 1, none⟩ = some (.int .i64 t) ∧ W.cell? ⟨b5, 2, none⟩ = some (.int .i64 q) ∧ W.cell? ⟨b7, 0, none⟩ = some (.bool a.w) ∧ W.cell? ⟨b7, 1, none⟩ = some (.string ⟨a.v.toArray⟩) ∧ W.cell? ⟨b8, 0, none⟩ = some (.bool b.w) ∧ W.cell? ⟨b8, 1, none⟩ = some (.string ⟨b.v.toArray⟩))
      (first | assumption | exact sOf _ _ (by assumption) (by assumption) | exact sOf _ _ (by assumption) ((Below.refl _ _).drew))
      (first
      | (go_at_call 10; with_reducible refine (HC1.out _).mono ?_; rintro e wy ⟨rfl, hby⟩)
      | (go_at_call 10; with_reducible refine (HC1s.out _).mono ?_; rintro e wy ⟨rfl, hby⟩)
      | (go_at_call 11; with_reducible refine (HR1.out _).mono ?_; rintro e wy ⟨rfl, hby⟩)
      | (go_at_call 12; with_reducible refine (HC2.out _).mono ?_; rintro e wy ⟨rfl, hby⟩)
      | (go_at_call 12; with_reducible refine (HC2s.out _).mono ?_; rintro e wy ⟨rfl, hby⟩)
      | (go_at_call 13; with_reducible refine (HR2.out _).mono ?_; rintro e wy ⟨rfl, hby⟩)
      | (go_at_call 14; refine (HM.out _ (tOf _ (by assumption))).mono ?_; rintro e wy ⟨rfl, hby⟩)
      | (go_at_call 15; refine (HMr.out _).mono ?_; rintro e wy ⟨rfl, hby⟩)
      | (go_at_call 9; refine (HAw.out _ (tOf _ (by assumption))).mono ?_; rintro e wy ⟨rfl, hby⟩))
    go_wp2
    go_ret
    exact ⟨rfl, below_two HB0.out (And.left (by assumption : Below w0.heap.size w0 wy ∧ wy.cell? ⟨b3, 0, none⟩ = some (.bool a.w) ∧ wy.cell? ⟨b3, 1, none⟩ = some (.string ⟨a.v.toArray⟩) ∧ wy.cell? ⟨b4, 0, none⟩ = some (.bool b.w) ∧ wy.cell? ⟨b4, 1, none⟩ = some (.string ⟨b.v.toArray⟩) ∧ wy.cell? ⟨b5, 0, none⟩ = some (.string y) ∧ wy.cell? ⟨b5, 1, none⟩ = some (.int .i64 t) ∧ wy.cell? ⟨b5, 2, none⟩ = some (.int .i64 q) ∧ wy.cell? ⟨b7, 0, none⟩ = some (.bool a.w) ∧ wy.cell? ⟨b7, 1, none⟩ = some (.string ⟨a.v.toArray⟩) ∧ wy.cell? ⟨b8, 0, none⟩ = some (.bool b.w) ∧ wy.cell? ⟨b8, 1, none⟩ = some (.string ⟨b.v.toArray⟩)))⟩

end Go.Proofs.YtbnldneejbbhhaaDoor
