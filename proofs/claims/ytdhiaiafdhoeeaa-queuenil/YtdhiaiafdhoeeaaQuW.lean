/-
  The laws' awake, of the queue.
-/
import Derived.Test.YtdhiaiafdhoeeaaQuDS
import Derived.Test.YtdhiaiafdhoeeaaQuDI
namespace Go.Proofs.Ytdhiaiafdhoeeaa
open Go.RowKit Go.Conc

/-- A row of two. -/
theorem sl_two {w : World} {B : Nat} {e : TypeId} {vo : Option Addr} {cp : Nat} {x y : Value} (h : w.ownsRow B e 1 (.slice vo 2 cp) 2 [x, y]) : ∃ g, vo = some ⟨g, 0, none⟩ ∧ w.cell? ⟨g, 0, none⟩ = some x ∧ w.cell? ⟨g, 1, none⟩ = some y := by
  rcases h.2 with ⟨_, h0⟩ | ⟨g, cap, cur, hv, _, hg, _, _, _, ht⟩
  · omega
  · injection hv with e1
    refine ⟨g, e1, ?_, ?_⟩
    · rw [Lib.cell_of_heap hg]
      have := congrArg (fun l => l[0]?) ht
      simpa using this
    · rw [Lib.cell_of_heap hg]
      have := congrArg (fun l => l[1]?) ht
      simpa using this

set_option maxHeartbeats 2000000 in
set_option maxRecDepth 20000 in
theorem qawake (w : World) : Calls Try.prog 9 #[] w fun e w' => e = .returned (.bool true) ∧ Below w.heap.size w w' := by
  go_enter Try.func9, Try.ntmps9
  go_wp2_with fail
  refine (show Calls Try.prog 19 #[.int .i64 2] w _ from qnew_yes_S (fun _ => False) 2 (by omega) (by omega) w).mono ?_
  rintro _ w1 ⟨⟨b, c, rfl, hq⟩, hb⟩
  have HQ1 := hid' hq
  have HB1 := hid' hb
  clear hq hb
  go_wp2_with fail
  refine (qput_yes_S _ _ b c 2 [] ⟨#[97]⟩ w1 HQ1.out (by decide) (fun _ h => h.elim)).mono ?_
  rintro _ w2 ⟨rfl, hq, hf⟩
  have HQ2 := hid' hq
  have HB2 := hid' (HQ1.out.bl HB1.out hf)
  clear hq hf HQ1 HB1
  go_wp2_with fail
  refine (qput_yes_S _ _ b c 2 _ ⟨#[98]⟩ w2 HQ2.out (by decide) (fun _ h => h.elim)).mono ?_
  rintro _ w3 ⟨rfl, hq, hf⟩
  have HQ3 := hid' hq
  have HB3 := hid' (HQ2.out.bl HB2.out hf)
  clear hq hf HQ2 HB2
  go_wp2_with fail
  refine (qput_no_S _ _ b c 2 _ ⟨#[99]⟩ w3 HQ3.out (by decide)).mono ?_
  rintro _ w3' ⟨rfl, hb3⟩
  have HQ3' := hid' (HQ3.out.keep hb3)
  have HB3' := hid' (below_from HB3.out hb3 HB3.out.size)
  clear hb3 HQ3 HB3
  go_wp2_with fail
  refine (qlen_S _ _ b c 2 _ w3' HQ3'.out).mono ?_
  rintro _ w3' ⟨rfl, rfl⟩
  go_wp2_with fail
  refine (qroom_S _ _ b c 2 _ w3' HQ3'.out (by decide) (by decide)).mono ?_
  rintro _ w4 ⟨rfl, q4, hq4⟩
  have hb : Below w3'.heap.size w3' w4 := by rw [hq4]; exact below_drewN _ _
  have HQ4 : Hid (QM 64 9 (fun _ => False) w4 w.heap.size b c 2 [.string ⟨#[97]⟩, .string ⟨#[98]⟩]) := hid' (HQ3'.out.keep hb)
  have HB4 := hid' (below_from HB3'.out hb HB3'.out.size)
  clear hb hq4 HQ3' HB3'
  go_wp2_with fail
  refine (qtake_some_S _ _ b c 2 _ ⟨#[97]⟩ w4 HQ4.out).mono ?_
  rintro _ w5 ⟨rfl, hq, hf⟩
  have HQ5 := hid' hq
  have HB5 := hid' (HQ4.out.bl HB4.out hf)
  clear hq hf HQ4 HB4
  go_wp2_with fail
  refine (qput_yes_S _ _ b c 2 _ ⟨#[99]⟩ w5 HQ5.out (by decide) (fun _ h => h.elim)).mono ?_
  rintro _ w6 ⟨rfl, hq, hf⟩
  have HQ6 := hid' hq
  have HB6 := hid' (HQ5.out.bl HB5.out hf)
  clear hq hf HQ5 HB5
  go_wp2_with fail
  refine (qdrain_S _ _ b c 2 [⟨#[98]⟩, ⟨#[99]⟩] 2 rfl (by decide) w6 HQ6.out).mono ?_
  rintro _ w7 ⟨vo, cp, rfl, hr, hq, hf⟩
  have HQ7 := hid' hq
  have HB7 := hid' (HQ6.out.bl HB6.out hf)
  have hr' := sl_two hr
  clear hq hf HQ6 HB6
  go_wp2_with fail
  refine (qtake_none_S _ _ b c 2 w7 HQ7.out).mono ?_
  rintro _ w7 ⟨rfl, rfl⟩
  obtain ⟨g, rfl, x0, x1⟩ := hr'
  have x0' : w7.cell? ⟨g, 0, none⟩ = some (.string ⟨#[98]⟩) := x0
  have x1' : w7.cell? ⟨g, 1, none⟩ = some (.string ⟨#[99]⟩) := x1
  clear x0 x1 hr
  go_wp2
  go_ret
  exact ⟨rfl, HB7.out⟩

end Go.Proofs.Ytdhiaiafdhoeeaa
