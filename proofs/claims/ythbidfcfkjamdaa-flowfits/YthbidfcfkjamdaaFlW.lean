/-
  The chapter's examples: awake.
-/
import Derived.Test.YthbidfcfkjamdaaFlF
namespace Go.Proofs.Ythbidfcfkjamdaa
open Go.RowKit

theorem rr_cells {w : World} {b : Nat} {T : TypeId} {cs : Array Value} (h : Ar w b T cs) (j : Nat) (u : Value) (hj : cs.toList[j]? = some u) : ((⟨b, 0, none⟩ : Addr).add j).block < w.heap.size ∧ w.cell? ((⟨b, 0, none⟩ : Addr).add j) = some u := by
  have e : ((⟨b, 0, none⟩ : Addr).add j) = ⟨b, j, none⟩ := by simp [Addr.add]; omega
  rw [e]
  exact ⟨h.lt, h.cell j u (by simpa using hj)⟩
theorem rr_none (w : World) : RR w (.slice none 0 0) 0 [] := .inl ⟨rfl, rfl⟩

set_option maxHeartbeats 4000000 in
theorem awake9 (w : World) : Calls Try.prog 15 #[] w fun e w' => e = .returned (.bool true) ∧ Below w.heap.size w w' := by
  go_enter Try.func15, Try.ntmps15
  go_wp2_with fail
  refine (wnew_yes 10 (by decide) (by decide) _).mono ?_
  rintro e w1 ⟨⟨b, rfl, hb, ha1⟩, hb1⟩
  have HA1 := hid' ha1
  have HB1 := hid' hb1
  have HB := hid' hb
  clear hb ha1 hb1
  go_wp2_with fail
  refine (gnew_yes 10 (by decide) (by decide) _).mono ?_
  rintro e w2 ⟨⟨c, rfl, hc, hc2⟩, hb2⟩
  have HC : Hid (w.heap.size ≤ c) := hid' (Nat.le_trans HB1.out.size hc)
  have HC2 := hid' hc2
  have HA2 := hid' (HA1.out.keep hb2)
  have HB2 := hid' (below_two HB1.out hb2)
  have HBC : Hid (b ≠ c) := hid' (HA2.out.apart hc2 (by decide))
  clear hc hc2 hb2 HA1 HB1
  go_wp2_with fail
  refine (wtake_any b 10 4 0 6 (by decide) (by unfold Fw.In; omega) _ HA2.out).mono ?_
  rintro e w3 ⟨rfl, ha3, hu3⟩
  have HA3 := hid' ha3
  have HC3 : Hid (CG w3 c ⟨10, 10, 0⟩) := hid' (hu3.keep HC2.out (Ne.symm HBC.out))
  have HB3 := hid' (HB2.out.trans (hu3.below HB.out))
  clear ha3 hu3 HA2 HC2 HB2
  go_wp2_with fail
  refine (wshift_any b 6 (-15) 0 (-9) (by decide) (by unfold Fw.In; omega) _ HA3.out).mono ?_
  rintro e w4 ⟨rfl, ha4, hu4⟩
  have HA4 := hid' ha4
  have HC4 : Hid (CG w4 c ⟨10, 10, 0⟩) := hid' (hu4.keep HC3.out (Ne.symm HBC.out))
  have HB4 := hid' (HB3.out.trans (hu4.below HB.out))
  clear ha4 hu4 HA3 HC3 HB3
  go_wp2_with fail
  refine (ggot_any c ⟨10, 10, 0⟩ ⟨10, 4, 6⟩ 6 0 rfl (Fw.ok_new (by omega) (by omega)) _ HC4.out).mono ?_
  rintro e w5 ⟨rfl, hc5, hu5⟩
  have HC5 := hid' hc5
  have HA5 := hid' (hu5.keep HA4.out HBC.out)
  have HB5 := hid' (HB4.out.trans (hu5.below HC.out))
  clear hc5 hu5 HA4 HC4 HB4
  go_wp2_with fail
  refine (gused_any c ⟨10, 4, 6⟩ ⟨10, 4, 1⟩ 5 0 rfl (by constructor <;> simp) _ HC5.out).mono ?_
  rintro e w6 ⟨rfl, hc6, hu6⟩
  have HC6 := hid' hc6
  have HA6 := hid' (hu6.keep HA5.out HBC.out)
  have HB6 := hid' (HB5.out.trans (hu6.below HC.out))
  clear hc6 hu6 HA5 HC5 HB5
  go_wp2_with fail
  refine (ggrant_any c ⟨10, 4, 1⟩ ⟨10, 9, 1⟩ 5 rfl (by constructor <;> simp) _ HC6.out).mono ?_
  rintro e w7 ⟨rfl, hc7, hu7⟩
  have HC7 := hid' hc7
  have HA7 := hid' (hu7.keep HA6.out HBC.out)
  have HB7 := hid' (HB6.out.trans (hu7.below HC.out))
  clear hc7 hu7 HA6 HC6 HB6
  go_wp2_with fail
  refine (wsize_any b _ _ HA7.out).mono ?_
  rintro e w8 ⟨rfl, hw8⟩
  subst w8
  go_wp2_with fail
  refine (cfits_any _ [(some b, -9)] 3 0 (by show Fw.fits 3 [-9] = 0; decide) _ (.inr ⟨_, _, rfl, ?_⟩) ?_ (by simp)).mono ?_
  · exact fun j u hj => rr_cells (heap_alloc_last w7 _) j u hj
  · intro q hq
    obtain rfl : q = (some b, -9) := by simpa using hq
    exact HA7.out.keep ((Below.refl _ _).alloc (Nat.le_refl _) _)
  have HA8 : Hid (Ar (w7.alloc (Obj.cells #[Value.pointer (some { block := b, off := 0 })] 39)) b 80 #[Value.int IntKind.i64 (-9)]) := hid' (HA7.out.keep ((Below.refl _ _).alloc (Nat.le_refl _) _))
  have HC8 : Hid (CG (w7.alloc (Obj.cells #[Value.pointer (some { block := b, off := 0 })] 39)) c ⟨10, 9, 1⟩) := hid' (Ar.keep HC7.out ((Below.refl _ _).alloc (Nat.le_refl _) _))
  have HB8 : Hid (Below w.heap.size w (w7.alloc (Obj.cells #[Value.pointer (some { block := b, off := 0 })] 39))) := hid' (below_two HB7.out ((Below.refl _ _).alloc (Nat.le_refl _) _))
  rintro e w8 ⟨rfl, hw8⟩
  rw [← hw8] at HA8 HC8 HB8
  clear hw8
  go_wp2_with fail
  refine (cfits_any _ [] 3 3 (by show Fw.fits 3 [] = 3; decide) _ (rr_none _) (fun q hq => by simp at hq) (by simp)).mono ?_
  rintro e w9 ⟨rfl, hw9⟩
  subst w9
  go_wp2_with fail
  refine (gleft_any c ⟨10, 9, 1⟩ _ HC8.out).mono ?_
  rintro e w9 ⟨rfl, hw9⟩
  subst w9
  go_wp2_with fail
  refine (wtake_any b (-9) 1 5 (-9) (by decide) (by unfold Fw.In; omega) _ HA8.out).mono ?_
  rintro e w9 ⟨rfl, _, hu9⟩
  have HB9 := hid' (HB8.out.trans (hu9.below HB.out))
  clear hu9
  go_wp2
  go_ret
  exact ⟨rfl, HB9.out⟩

end Go.Proofs.Ythbidfcfkjamdaa
