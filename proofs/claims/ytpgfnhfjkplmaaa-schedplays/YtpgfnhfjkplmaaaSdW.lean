/-
  No scheduler; the laws' awake.
-/
import Derived.Test.YtpgfnhfjkplmaaaSdH
import Derived.Deep.QuietTactic
namespace Go.Proofs.Ytpgfnhfjkplmaaa
open Go.RowKit

theorem sadd_nil (x : Int) (w : World) : Calls Try.prog 7 #[.pointer none, .int .i64 x] w fun e w' => e = .returned (.int .i64 2) ∧ w' = w := by
  go_enter Try.func7, Try.ntmps7
  go_wp2
  go_ret
  exact ⟨rfl, rfl⟩
theorem sdrop_nil (x : Int) (w : World) : Calls Try.prog 9 #[.pointer none, .int .i64 x] w fun e w' => e = .returned (.bool false) ∧ w' = w := by
  go_enter Try.func9, Try.ntmps9
  go_wp2
  go_ret
  exact ⟨rfl, rfl⟩
theorem swake_nil (x : Int) (w : World) : Calls Try.prog 11 #[.pointer none, .int .i64 x] w fun e w' => e = .returned (.bool false) ∧ ∃ q, w' = w.drewN q := by
  go_enter Try.func11, Try.ntmps11
  go_wp2
  go_quiet (fail)
  go_wp2
  go_ret
  exact ⟨rfl, _, rfl⟩
theorem ssleep_nil (x : Int) (w : World) : Calls Try.prog 13 #[.pointer none, .int .i64 x] w fun e w' => e = .returned (.bool false) ∧ ∃ q, w' = w.drewN q := by
  go_enter Try.func13, Try.ntmps13
  go_wp2
  go_quiet (fail)
  go_wp2
  go_ret
  exact ⟨rfl, _, rfl⟩
theorem sready_nil (w : World) : Calls Try.prog 16 #[.pointer none] w fun e w' => e = .returned (.slice none 0 0) ∧ w' = w := by
  go_enter Try.func16, Try.ntmps16
  go_wp2
  go_ret
  exact ⟨rfl, rfl⟩
theorem spick_nil (x : Int) (w : World) : Calls Try.prog 14 #[.pointer none, .int .i64 x] w fun e w' => e = .returned (.tuple #[.int .i64 0, .int .i64 2]) ∧ w' = w := by
  go_enter Try.func14, Try.ntmps14
  go_wp2
  go_ret2
  exact ⟨rfl, rfl⟩

theorem SM.bl {w0 w w' : World} {B b : Nat} {v u : Value} {ts : List (Int × Bool)} (h : SM w B b v u ts) (hb : Below B w0 w) (hf : LF (SS b v u) w w') : Below B w0 w' := hb.trans (hf.below h.lb (fun k hk => (h.ss k hk).1))

set_option maxHeartbeats 2000000 in
set_option maxRecDepth 20000 in
theorem awake12 (w : World) : Calls Try.prog 20 #[] w fun e w' => e = .returned (.bool true) ∧ Below w.heap.size w w' := by
  go_enter Try.func20, Try.ntmps20
  go_wp2_with fail
  refine (snew w).mono ?_
  rintro _ w1 ⟨⟨b, rfl, hs⟩, hb⟩
  have HS1 := hid' hs
  have HB1 := hid' hb
  clear hs hb
  go_wp2_with fail
  refine (sadd (ts' := [(5, false)]) (c := 0) (.inr (.inr ⟨rfl, ⟨by decide, by decide, by decide⟩, rfl⟩)) _ b _ _ w1 HS1.out).mono ?_
  rintro _ w2 ⟨rfl, v2, u2, hs, hf, _⟩
  have HS2 := hid' hs
  have HB2 := hid' (HS1.out.bl HB1.out hf)
  clear hs hf HS1 HB1
  go_wp2_with fail
  refine (sadd (ts' := [(5, false)]) (c := 1) (.inl ⟨rfl, .inr (by decide), rfl⟩) _ b _ _ w2 HS2.out).mono ?_
  rintro _ w3 ⟨rfl, v3, u3, hs, hf, _⟩
  have HS3 := hid' hs
  have HB3 := hid' (HS2.out.bl HB2.out hf)
  clear hs hf HS2 HB2
  go_wp2_with fail
  refine (sadd (ts' := [(2, false), (5, false)]) (c := 0) (.inr (.inr ⟨rfl, ⟨by decide, by decide, by decide⟩, rfl⟩)) _ b _ _ w3 HS3.out).mono ?_
  rintro _ w4 ⟨rfl, v4, u4, hs, hf, _⟩
  have HS4 := hid' hs
  have HB4 := hid' (HS3.out.bl HB3.out hf)
  clear hs hf HS3 HB3
  go_wp2_with fail
  refine (spick_none _ b _ _ _ 0 w4 HS4.out rfl).mono ?_
  rintro _ w4' ⟨rfl, hw⟩
  subst w4'
  go_wp2_with fail
  refine (swake (ts' := [(2, false), (5, true)]) (t := true) (.inl ⟨rfl, by decide, rfl⟩) _ b _ _ w4 HS4.out).mono ?_
  rintro _ w5 ⟨rfl, v5, u5, hs, hf, _⟩
  have HS5 := hid' hs
  have HB5 := hid' (HS4.out.bl HB4.out hf)
  clear hs hf HS4 HB4
  go_wp2_with fail
  refine (spick_some _ b _ _ _ 7 1 0 5 w5 HS5.out rfl (by decide) rfl rfl).mono ?_
  rintro _ w5' ⟨rfl, hw⟩
  subst w5'
  go_wp2_with fail
  refine (swake (ts' := [(2, false), (5, true)]) (t := false) (.inr ⟨rfl, by decide, rfl⟩) _ b _ _ w5 HS5.out).mono ?_
  rintro _ w6 ⟨rfl, v6, u6, hs, hf, _⟩
  have HB6 := hid' (HS5.out.bl HB5.out hf)
  clear hs hf HS5 HB5
  go_wp2
  go_ret
  exact ⟨rfl, HB6.out⟩

end Go.Proofs.Ytpgfnhfjkplmaaa
