/-
  The document's sum of two whole numbers that are not below 0, by its contract.
-/
import Derived.Deep.RegionWith
import Derived.Deep.RegionHeld3
import Derived.Test.YtbpdhcfmdkmoiaaDoorPwAU
namespace Go.Proofs.YtbpdhcfmdkmoiaaDoor
open Go.RowKit

theorem Wh.shape {w : World} {v : Value} {l : List Int} {x : Int} (h : Wh w v l x) : ∃ a c, v = .slice a l.length c := by
  obtain ⟨a, c, rfl, _, _⟩ := h.ints; exact ⟨a, c, rfl⟩
theorem Cell2.new2 (w : World) (o o' : Obj) (x y : Value) (t : TypeId) : Cell2 ((((w.alloc o).alloc o').alloc (.cells #[x, y] t)).drew) (w.heap.size + 1 + 1) x y := by
  have := Cell2.new' (w.alloc o) o' x y t
  simp only [World.size_alloc] at this
  exact ⟨this.c0, this.c1, this.f0, this.f1⟩
theorem bcell' {W w1 : World} (hb : Below W.heap.size W w1) : (∀ b o, b < W.heap.size → w1.cell? ⟨b, o, none⟩ = W.cell? ⟨b, o, none⟩) ∧ (∀ b o, b < W.heap.size → w1.frozen? ⟨b, o, none⟩ = W.frozen? ⟨b, o, none⟩) :=
  ⟨fun b o h => hb.cell (p := ⟨b, o, none⟩) h, fun b o h => hb.frozen (p := ⟨b, o, none⟩) h⟩

set_option maxRecDepth 20000 in
set_option maxHeartbeats 1000000 in
theorem bplus_any (va vb : Value) (la lb : List Int) (x y : Int) (w : World) (ha : Wh w va la x) (hb : Wh w vb lb y) (hla : la.length ≤ 90) (hlb : lb.length ≤ 90) :
    Calls Tryd.prog 56 #[.agg #[.bool false, va], .agg #[.bool false, vb]] w fun e w' => ∃ v', e = .returned (.agg #[.bool false, v']) ∧ Fresh w.heap.size v' ∧ (∃ l', Wh w' v' l' (x + y) ∧ l'.length ≤ max la.length lb.length + 1) ∧ Below w.heap.size w w' := by
  obtain ⟨aa, ca, rfl⟩ := ha.shape
  obtain ⟨ab, cb, rfl⟩ := hb.shape
  have HBW : Hid (Below w.heap.size w ((((w.alloc (.cells #[.bool false, .slice aa la.length ca] 68)).alloc (.cells #[.bool false, .slice ab lb.length cb] 68)).alloc (.cells #[.bool false, .slice none 0 0] 68)).drew)) := hid ((((Below.refl _ _).alloc (Nat.le_refl _) _).alloc (by simp) _).alloc (by simp; omega) _).drew
  have HA := hid (ha.below HBW.out)
  have HB := hid (hb.below HBW.out)
  clear ha hb
  go_enter Tryd.func56, Tryd.ntmps56
  go_wp2
  go_region_with (go_at_call 72; refine (badd_any _ _ la lb x y _ (by exact HA.out) (by exact HB.out) hla hlb).mono ?_; rintro e w1 ⟨v', rfl, hfr, ⟨l', hw', hll⟩, hb1⟩; obtain ⟨a', c', rfl⟩ := hw'.shape; have HFR := hid hfr; have HW1 := hid hw'; have HB1 := hid hb1; have HC2 := hid (Cell2.below (Cell2.new2 _ _ _ _ _ _) hb1 (by simp)); clear hfr hw'; obtain ⟨hcc, hff⟩ := bcell' hb1; clear hb1)
  all_goals clear hcc hff
  all_goals go_wp2
  all_goals
    obtain ⟨r0, r1, _, _⟩ := ((HC2.out.set0 (z := .bool false)).set1 (z := .slice a' l'.length c'))
    refine bodyPost_ret (v := .agg #[.bool false, .slice a' l'.length c']) (by simp [results, Tryd.results56, go_sem, r0, r1]) rfl ⟨_, rfl, HFR.out.mono ?_, ⟨l', (HW1.out.set_far HFR.out ?_ _).set_far HFR.out ?_ _, hll⟩, ?_⟩
    · simp; omega
    · simp
    · simp
    · exact ((HBW.out.trans (HB1.out.mono (by simp; omega))).setCell (by simp; omega) _).setCell (by simp; omega) _

end Go.Proofs.YtbpdhcfmdkmoiaaDoor
