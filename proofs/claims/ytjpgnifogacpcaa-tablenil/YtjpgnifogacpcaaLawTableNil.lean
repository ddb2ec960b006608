/-
  TableNil answers true.
-/
import Derived.Test.YtjpgnifogacpcaaTabW
namespace Go.Proofs.Ytjpgnifogacpcaa
open Go.RowKit

set_option maxHeartbeats 2000000 in
set_option maxRecDepth 20000 in
theorem tableNil_true (i : Int) (s t : ByteArray) (w : World) :
    Calls Try.prog 7 #[.int .i64 i, .string s, .string t] w fun e w' => e = .returned (.bool true) ∧ Below w.heap.size w w' := by
  have hng := noGuard
  have heq := eq_field_yes [] []
  go_enter Try.func7, Try.ntmps7
  go_wp2_with fail
  refine (field_any _ _ _).mono ?_
  rintro e w1 ⟨rfl, hb1⟩
  have HB1 := hid' hb1
  clear hb1
  go_wp2_with fail
  refine (nadd_any _ _ _).mono ?_
  rintro e w2 ⟨rfl, hb2⟩
  have HB2 := hid' (below_two HB1.out hb2)
  clear hb2 HB1
  go_wp2_with fail
  refine (nat_any _ _).mono ?_
  rintro e w3 ⟨rfl, hb3⟩
  have HB3 := hid' (below_two HB2.out hb3)
  clear hb3 HB2
  go_wp2_with fail
  have hb4 : Below w3.heap.size w3 (w3.alloc (.cells #[.string ⟨#[]⟩, .string ⟨#[]⟩] 32)) := (Below.refl _ _).alloc (Nat.le_refl _) _
  have hX : Ar (w3.alloc (.cells #[.string ⟨#[]⟩, .string ⟨#[]⟩] 32)) w3.heap.size 32 #[.string ⟨#[]⟩, .string ⟨#[]⟩] := heap_alloc_last w3 _
  have HX := hid' hX
  have HB4 := hid' (below_two HB3.out hb4)
  obtain ⟨xb, hxb⟩ : ∃ xb, w3.heap.size = xb := ⟨_, rfl⟩
  rw [hxb] at HX ⊢
  clear hb4 hX HB3
  generalize w3.alloc (.cells #[.string ⟨#[]⟩, .string ⟨#[]⟩] 32) = w4 at *
  refine (field_any _ _ _).mono ?_
  rintro e w5 ⟨rfl, hb5⟩
  have HB5 := hid' (below_two HB4.out hb5)
  have HX5 := hid' (HX.out.keep hb5)
  clear hb5 HB4 HX
  go_wp2_with fail
  refine (nfind_any _ _ _).mono ?_
  rintro e w6 ⟨rfl, hb6⟩
  have HB6 := hid' (below_two HB5.out hb6)
  have HX6 := hid' (HX5.out.keep hb6)
  clear hb6 HB5 HX5
  go_wp2_with fail
  refine (npushS _ _).mono ?_
  rintro e w7 ⟨rfl, rfl⟩
  go_wp2_with fail
  refine (npopS _).mono ?_
  rintro e w8 ⟨rfl, rfl⟩
  go_wp2_with fail
  refine (natS _ _).mono ?_
  rintro e w9 ⟨rfl, rfl⟩
  have x0 := HX6.out.cell 0 _ rfl
  have x1 := HX6.out.cell 1 _ rfl
  go_wp2_with fail
  refine (nlenS _).mono ?_
  rintro e w10 ⟨rfl, rfl⟩
  clear x0 x1
  go_wp2_with fail
  refine (awake_any _).mono ?_
  rintro e w11 ⟨rfl, hb11⟩
  have HB := hid' (below_two HB6.out hb11)
  clear hb11 HB6 HX6
  go_wp2_with fail
  refine (nresize_any _ _).mono ?_
  rintro e w12 ⟨rfl, rfl⟩
  go_wp2_with fail
  refine (nsize_any _).mono ?_
  rintro e w13 ⟨rfl, rfl⟩
  go_wp2_with fail
  refine (nmost_any _).mono ?_
  rintro e w14 ⟨rfl, rfl⟩
  go_wp2_with fail
  refine (nlen_any _).mono ?_
  rintro e w15 ⟨rfl, rfl⟩
  go_wp2
  go_ret
  exact ⟨rfl, HB.out⟩

end Go.Proofs.Ytjpgnifogacpcaa
