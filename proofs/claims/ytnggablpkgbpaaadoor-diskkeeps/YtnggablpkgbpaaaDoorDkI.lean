/-
  Both disks beside each other; the laws' change.
-/
import Derived.Test.YtnggablpkgbpaaaDoorDkH
import Derived.Deep.RegionHeld3
namespace Go.Proofs.YtnggablpkgbpaaaDoor
open Go.RowKit

theorem cd_apart {w : World} {B B' b bx : Nat} {K : Nat → Prop} {q q' : Int} {r : Value} {es es' : List Dk.En} (hc : CD w B b K q es) (hr : RD w B' bx r q' es') : ∀ k, K k → ¬ DS13 bx r k := by
  rintro k hk (rfl | e)
  · exact (hc.ty k _ _ hk hr.obj).2.1 rfl
  · obtain ⟨_, cs, h1⟩ := own_ty hr.row k e
    exact (hc.ty k _ _ hk h1).1 rfl
theorem cd_box {w : World} {B b xb : Nat} {K : Nat → Prop} {q : Int} {es : List Dk.En} {cs : Array Value} (hc : CD w B b K q es) (hx : Ar w xb 31 cs) : ¬ K xb := fun hk => (hc.ty xb _ _ hk hx).2.2.2 rfl
/-- Both disks. -/
structure PD (w : World) (B b bx : Nat) (K : Nat → Prop) (r : Value) (q : Int) (es : List Dk.En) : Prop where
  cd : CD w B b K q es
  rd : RD w B bx r q es
theorem PD.keep {w w' : World} {B b bx : Nat} {K : Nat → Prop} {r : Value} {q : Int} {es : List Dk.En} (h : PD w B b bx K r q es) (hb : Below w.heap.size w w') : PD w' B b bx K r q es := ⟨h.cd.keep hb, h.rd.keep hb⟩
theorem PD.rdOf {w w' : World} {B b bx : Nat} {K : Nat → Prop} {r : Value} {q : Int} {es : List Dk.En} (h : PD w B b bx K r q es) (hf : LF K w w') : RD w' B bx r q es := h.rd.other hf (fun k hk hK => cd_apart h.cd h.rd k hK hk)
theorem PD.made {w wA wD : World} {B b bx : Nat} {K K' : Nat → Prop} {r r' : Value} {q q' : Int} {es es' : List Dk.En} (h : PD w B b bx K r q es) (hfa : LF K w wA) (hc : CD wA B b K' q' es') (hfd : LF (DS13 bx r) wA wD) (hr : RD wD B bx r' q' es') : PD wD B b bx K' r' q' es' :=
  ⟨hc.other hfd (fun k hk hds => cd_apart hc (h.rdOf hfa) k hk hds), hr⟩
theorem PD.bl {w0 w wA wD : World} {B b bx : Nat} {K : Nat → Prop} {r : Value} {q : Int} {es : List Dk.En} (h : PD w B b bx K r q es) (hb : Below B w0 w) (hfa : LF K w wA) (hfd : LF (DS13 bx r) wA wD) : Below B w0 wD :=
  (h.cd.bl hb hfa).trans (hfd.below (h.rdOf hfa).lb (fun k hk => ((h.rdOf hfa).rs k hk).1))

/-- A change's cells, boxed. -/
def opA (c : Cl13) : Array Value := #[.bool c.take, .string c.path, .string c.body, .int .i64 c.time, .int .i64 c.long]
/-- What a change does. -/
def ChOf (c : Cl13) (es : List Dk.En) (q : Int) (es' : List Dk.En) (q' : Int) : Prop :=
  (c.take = true ∧ ∃ t, RemOf13 es q c.path t es' q') ∨ (c.take = false ∧ ∃ k, PutOf13 es q c.path (bodyOf c) c.time k es' q')
theorem bodyOf_size (c : Cl13) (h : c.body.size ≤ 140737488355328) : (bodyOf c).size ≤ 140737488425328 := by
  unfold bodyOf
  split
  · omega
  · rw [ByteArray.size_append, noughts_size]; omega
theorem lf_box {S : Nat → Prop} {w w' : World} {xb : Nat} {T : TypeId} {cs : Array Value} (h : Ar w xb T cs) (hf : LF S w w') (hs : ¬ S xb) : Ar w' xb T cs := hf.ar h hs

set_option maxHeartbeats 4000000 in
set_option maxRecDepth 20000 in
theorem lchange (c : Cl13) (B b : Nat) (K : Nat → Prop) (q : Int) (es : List Dk.En) (w : World) (h : CD w B b K q es) (hp : c.path.size ≤ 140737488355328) (hb : c.body.size ≤ 140737488355328) (hq0 : 0 ≤ q) (hq : q ≤ 9223372036854775806) :
    Calls Tryd.prog 25 #[.pointer (some ⟨b, 0, none⟩), .agg #[.bool c.take, .string c.path, .string c.body, .int .i64 c.time, .int .i64 c.long]] w fun e w' => e = .returned (.tuple #[]) ∧ ∃ es' q' K', ChOf c es q es' q' ∧ CD w' B b K' q' es' ∧ LF K w w' ∧ ∀ k, K' k → K k ∨ w.heap.size ≤ k := by
  have HBS := hid' (bodyOf_size c hb)
  have H := hid' h
  clear h
  cases hc : c.take
  · obtain ⟨k, es', q', ho⟩ := putOf13_ex es q c.path (bodyOf c) c.time
    have HO := hid' ho
    have HCH : Hid (ChOf c es q es' q') := hid' (.inr ⟨hc, k, ho⟩)
    have HLB : Hid (∀ W, Calls Tryd.prog 15 #[.agg #[.bool false, .string c.path, .string c.body, .int .i64 c.time, .int .i64 c.long]] W fun e w' => e = .returned (.string (bodyOf c)) ∧ Below W.heap.size W w') := hid' (fun W => by have := lbody c hb W; rwa [hc] at this)
    clear ho
    go_enter Tryd.func25, Tryd.ntmps25
    go_upto_region 1 with fail
    have HX : Hid (Ar (w.alloc (.cells #[.bool false, .string c.path, .string c.body, .int .i64 c.time, .int .i64 c.long] 31)) w.heap.size 31 #[.bool false, .string c.path, .string c.body, .int .i64 c.time, .int .i64 c.long]) := hid' (heap_alloc_last w _)
    have hb1 : Below w.heap.size w (w.alloc (.cells #[.bool false, .string c.path, .string c.body, .int .i64 c.time, .int .i64 c.long] 31)) := (Below.refl _ _).alloc (Nat.le_refl _) _
    have HB1 := hid' hb1
    obtain ⟨xb, hxb⟩ : ∃ xb, w.heap.size = xb := ⟨_, rfl⟩
    have HXB := hid' hxb
    rw [hxb] at HX ⊢
    clear hb1
    generalize w.alloc (.cells #[.bool false, .string c.path, .string c.body, .int .i64 c.time, .int .i64 c.long] 31) = w1 at *
    clear hxb
    have x0 := HX.out.cell 0 _ rfl
    have x1 := HX.out.cell 1 _ rfl
    have x2 := HX.out.cell 2 _ rfl
    have x3 := HX.out.cell 3 _ rfl
    have x4 := HX.out.cell 4 _ rfl
    go_upto_region 3 with fail
    obtain ⟨y, hy⟩ : ∃ y, bodyOf c = y := ⟨_, rfl⟩
    rw [hy] at HLB HO HBS
    have HXL := hid' HX.out.lt
    have hS : w1.drew.cell? ⟨xb, 0, none⟩ = some (.bool false) ∧ w1.drew.cell? ⟨xb, 1, none⟩ = some (.string c.path) ∧ w1.drew.cell? ⟨xb, 2, none⟩ = some (.string c.body) ∧ w1.drew.cell? ⟨xb, 3, none⟩ = some (.int .i64 c.time) ∧ w1.drew.cell? ⟨xb, 4, none⟩ = some (.int .i64 c.long) := ⟨x0, x1, x2, x3, x4⟩
    have HD1 := hid' (H.out.keep HB1.out)
    clear x0 x1 x2 x3 x4 hy
    go_region_held3 (fun W => W.cell? ⟨xb, 0, none⟩ = some (.bool false) ∧ W.cell? ⟨xb, 1, none⟩ = some (.string c.path) ∧ W.cell? ⟨xb, 2, none⟩ = some (.string c.body) ∧ W.cell? ⟨xb, 3, none⟩ = some (.int .i64 c.time) ∧ W.cell? ⟨xb, 4, none⟩ = some (.int .i64 c.long)) (first | assumption) (first
      | (go_at_call 15; refine (HLB.out _).mono ?_; rintro e wq ⟨rfl, hbq⟩; have hbq2 : Below w1.heap.size w1 wq := ⟨hbq.os, hbq.tape, hbq.output, hbq.size, hbq.block⟩; have HBq := hid' hbq2; have hxq := HX.out.keep hbq2; have hSq := And.intro (hxq.cell 0 _ rfl) (And.intro (hxq.cell 1 _ rfl) (And.intro (hxq.cell 2 _ rfl) (And.intro (hxq.cell 3 _ rfl) (hxq.cell 4 _ rfl)))); have HXq := hid' hxq; clear hbq hbq2 hxq)
      | (go_at_call 14; refine (cput13 HO.out B b K _ (HD1.out.keep HBq.out) hp HBS.out hq0 hq).mono ?_; rintro e wr ⟨rfl, K', hcd, hlf, hnew⟩; have hxr := lf_box HXq.out hlf (cd_box (HD1.out.keep HBq.out) HXq.out); have hSr := And.intro (hxr.cell 0 _ rfl) (And.intro (hxr.cell 1 _ rfl) (And.intro (hxr.cell 2 _ rfl) (And.intro (hxr.cell 3 _ rfl) (hxr.cell 4 _ rfl)))); have HCD := hid' hcd; have HLF := hid' hlf; have HNW := hid' hnew; clear hcd hlf hnew hxr))
    go_wp2
    go_end0
    refine ⟨rfl, es', q', K', HCH.out, HCD.out, ?_, ?_⟩
    · exact ((LF.of_below HB1.out).trans (LF.of_below (S := K) HBq.out) (fun _ _ h => h)).trans HLF.out (fun _ _ h => h)
    · intro k hk
      rcases HNW.out k hk with h1 | h1
      · exact .inl h1
      · exact .inr (Nat.le_trans HB1.out.size (Nat.le_trans HBq.out.size h1))
  · obtain ⟨k, es', q', ho⟩ := remOf13_ex es q c.path
    have HO := hid' ho
    have HCH : Hid (ChOf c es q es' q') := hid' (.inl ⟨hc, k, ho⟩)
    clear ho
    go_enter Tryd.func25, Tryd.ntmps25
    go_upto_region 1 with fail
    have HX : Hid (Ar (w.alloc (.cells #[.bool true, .string c.path, .string c.body, .int .i64 c.time, .int .i64 c.long] 31)) w.heap.size 31 #[.bool true, .string c.path, .string c.body, .int .i64 c.time, .int .i64 c.long]) := hid' (heap_alloc_last w _)
    have HB1 : Hid (Below w.heap.size w (w.alloc (.cells #[.bool true, .string c.path, .string c.body, .int .i64 c.time, .int .i64 c.long] 31))) := hid' ((Below.refl _ _).alloc (Nat.le_refl _) _)
    obtain ⟨xb, hxb⟩ : ∃ xb, w.heap.size = xb := ⟨_, rfl⟩
    rw [hxb] at HX ⊢
    generalize w.alloc (.cells #[.bool true, .string c.path, .string c.body, .int .i64 c.time, .int .i64 c.long] 31) = w1 at *
    clear hxb
    have x0 := HX.out.cell 0 _ rfl
    have x1 := HX.out.cell 1 _ rfl
    go_wp2_with fail
    refine (crem13 HO.out B b K _ (H.out.keep HB1.out) hp hq0 hq).mono ?_
    rintro e w2 ⟨rfl, K', hcd, hlf, hnew⟩
    have HE := hid' (And.intro hcd (And.intro hlf hnew))
    clear hcd hlf hnew
    go_wp2
    go_end0
    refine ⟨rfl, es', q', K', HCH.out, HE.out.1, (LF.of_below HB1.out).trans HE.out.2.1 (fun _ _ h => h), fun k hk => ?_⟩
    rcases HE.out.2.2 k hk with h1 | h1
    · exact .inl h1
    · exact .inr (Nat.le_trans HB1.out.size h1)

end Go.Proofs.YtnggablpkgbpaaaDoor
