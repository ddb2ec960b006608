/-
  AppPure holds: an answer hangs on nothing that was asked ahead of it, nor on which app of the same routes answers; where the arguments hold together at most 1048576 values and letters.
-/
import Derived.Test.YthhpejgpfaikaabGreatDoorCards
import Derived.Test.YthhpejgpfaikaabGreatDoorTie
import Derived.SizedLaws
import Derived.Lay
import Derived.Carry
import Derived.Test.YthhpejgpfaikaabGreatDoorPqBQ
import Derived.Test.YthhpejgpfaikaabGreatDoorLawAppPure
namespace Go.Proofs.YthhpejgpfaikaabGreatDoor.AppPure
open Go.ChangeShapes Go.WideShapes Go.ChangeAt Go.RowKit Go.Deep
theorem laidOut : laidOutB Tryz.prog = true := by kernel_rfl
theorem own : ownKnob Tryz.prog.godebug = none := by kernel_rfl

set_option maxRecDepth 100000 in
theorem contract (H : Type) (enc : TypeId × Value → H) (W : World) (base : Nat) (args : Array Value) (ds gs : List (DataW H)) (before : List MemPlace)
  (hval : ∀ (j : Nat) t v, Tryz.f4.params[j]? = some t → args[j]? = some v → Value.okWide Tryz.prog W .any base t v)
  (hW : DataW.Whole enc Tryz.prog Tryz.f4.params.toList Rows.appPureSpec.vars false W args.toList ds gs before) (_hL : laidMetH Tryz.prog Rows.appPureUptoRow.laid W) (_hSh : W.ShapedOpen Tryz.prog) (hk : (Rows.uptoSmall H (ds ++ gs)) = true) :
  Calls Tryz.prog 4 args W fun e W' => ∃ v, e = .returned v ∧ Rows.appPureSpec.post enc Tryz.prog Tryz.f4 false true false false W args v W' := by
 have hW' := hW;obtain ⟨p, q, hA0, hV, rfl, hfz, hnd⟩ := hW;have hA : DataW.TrodAll enc Tryz.prog W 0 (fun _ => true) true Tryz.f4.params.toList args.toList ds p := hA0;rw [Tryz.params4] at hA hval;obtain ⟨v0, vs0, d0, ds0, p0, q'0, hargs, rfl, rfl, h0, r0⟩ := trodAll_cons hA;obtain ⟨v1, vs1, d1, ds1, p1, q'1, rfl, rfl, rfl, h1, r1⟩ := trodAll_cons r0;obtain ⟨v2, vs2, d2, ds2, p2, q'2, rfl, rfl, rfl, h2, r2⟩ := trodAll_cons r1;obtain ⟨rfl, rfl, rfl⟩ := trodAll_nil r2;obtain rfl : args = #[v0, v1, v2] := by cases args; simp_all
 obtain ⟨rfl, rfl⟩ := trodVars_none hV;have hbk := of_decide_eq_true hk;simp only [List.append_nil, Rows.uptoBulkAll] at hbk;obtain ⟨l0, ao0, n0, cap0, rfl, hn0, hw0, hb0, hc0⟩ := open_routes20 (hval 0 30 v0 rfl rfl) h0;obtain ⟨l1, hw1, hn1, hb1⟩ := open_entries19 (hval 1 22 v1 rfl rfl) h1;obtain ⟨l2, ao2, n2, cap2, rfl, hn2, hw2, hq2, hc2⟩ := open_requests20 (hval 2 48 v2 rfl rfl) h2;have TBH := Frame19.tb _hL _hSh;clear hA0;simp only [List.append_nil] at hW';refine (appPure_is ao0 n0 cap0 l0 hn0 (by omega) (fun x hx => by have := hb0 x hx; omega) _ l1 ao2 n2 cap2 l2 hn2 (fun r hr => (hq2 r hr).bq (by omega)) W hw0 hw1 (by omega) (fun e he => by have := hb1 e he; omega) hw2 TBH).mono fun e W' ⟨he, hnx⟩ => ?_;subst he;refine ⟨_, rfl, _, _, _, [], _, [], hW', ?_, (trodAll_cons_mk (Below.trod laidOut (by kernel_rfl) (of_decide_eq_true (by kernel_rfl)) h0 hnx (fun x hx => hW'.lt x (by first | exact hx | (simpa using hx) | (simp only [List.mem_append]; simp [hx])))) (trodAll_cons_mk (Below.trod laidOut (by kernel_rfl) (of_decide_eq_true (by kernel_rfl)) h1 hnx (fun x hx => hW'.lt x (by first | exact hx | (simpa using hx) | (simp only [List.mem_append]; simp [hx])))) (trodAll_cons_mk (Below.trod laidOut (by kernel_rfl) (of_decide_eq_true (by kernel_rfl)) h2 hnx (fun x hx => hW'.lt x (by first | exact hx | (simpa using hx) | (simp only [List.mem_append]; simp [hx])))) trodAll_mk0))), rfl, hnx.frame _, fun h => by cases h⟩;exact (trodAll_cons_mk (shut_bool Tryz.underlying4 _) trodAll_mk0)

theorem laid_met (os : Os) : laidMet Tryz.prog Rows.appPureUptoRow.laid ((World.laidAll Tryz.prog os Rows.appPureUptoRow.laid).forCall (fun _ _ => 0) ⟨#[], #[.slice none 0 0, .slice none 0 0, .slice none 0 0], []⟩).memory :=
 laidMet_laidAll _ (by kernel_rfl) (by kernel_rfl)
theorem reads (os : Os) {H : Type} (enc : TypeId × Value → H) : ∃ places, DataW.whole enc Tryz.prog ((World.laidAll Tryz.prog os Rows.appPureUptoRow.laid).forCall (fun _ _ => 0) ⟨#[], #[.slice none 0 0, .slice none 0 0, .slice none 0 0], []⟩).memory Tryz.f4.params.toList Rows.appPureSpec.vars false (#[.slice none 0 0, .slice none 0 0, .slice none 0 0] : Array Value).toList 8 = some ([.nil, .nil, .nil], [], places) :=
 ⟨[], by kernel_rfl⟩

set_option maxRecDepth 100000 in
theorem lifted (os : Os) (started : os.Started) (H : Type) (enc : TypeId × Value → H) (F : Stop.Interp) :
  ReturnsInHanded {} Tryz.checked os 4 .any ((Rows.OpenSpec.upto Rows.appPureSpec).preRow enc Tryz.prog Tryz.f4 Rows.appPureUptoRow.domain false Rows.appPureUptoRow.laid) (((Rows.OpenSpec.upto Rows.appPureSpec).at F).post enc Tryz.prog Tryz.f4 false true false false) := by
 obtain ⟨places, hx⟩ := reads os enc;refine returnsInHanded_of_row (C := Tryz.checked) (s := Rows.OpenSpec.upto Rows.appPureSpec) own started (by kernel_rfl) Tryz.func4
  (witness_row_at (enc := enc) (C := Tryz.checked) false (World.laidAll Tryz.prog os Rows.appPureUptoRow.laid) #[.slice none 0 0, .slice none 0 0, .slice none 0 0] (World.laidAll_os _ _ _) (by kernel_rfl) (by kernel_rfl) (by kernel_rfl)
   (OpenSpec.preRow_of_cond 8 hx (by kernel_rfl) (fun k hk => by cases hk; kernel_rfl) (by kernel_rfl) (laid_met os))) ?_
 intro W base args ds gs before hval hW _ hcond _ hL hSh _;exact contract H enc W base args ds gs before hval hW hL hSh (hcond _ rfl)

theorem said : Rows.AppPureUptoSaid :=
 OpenClaim.holds_of_cond 4 Tryz.f4 rfl rfl rfl rfl rfl rfl rfl ⟨rfl, rfl, rfl, rfl, rfl⟩ rfl rfl rfl rfl rfl (by kernel_rfl) Tryz.func4 (by kernel_rfl)
  (of_decide_eq_true (by kernel_rfl)) (by unfold Func.isWrapper; first | (rw [if_pos (by decide +kernel)]; kernel_rfl) | (rw [if_neg (by decide +kernel)]; exact ⟨rfl, rfl⟩))
  (fun os started H enc _ F => by rw [OpenClaim.pre_eq_preRow]; exact lifted os started H enc F)

theorem plain (f : FuncId) (fn : Func) (hf : Tryz.pinned.checked.prog.funcNamed "ostler/ostlerlaw20.AppPure" = some f) (hfn : Tryz.pinned.checked.prog.funcs[f]? = some fn) :
  true = Tryz.pinned.checked.prog.looks [] ∧ ∀ (j : Nat) t, fn.params[j]? = some t → Tryz.pinned.checked.prog.wantsStandIn t = false := by
 obtain rfl : f = 4 := Option.some.inj ((show Tryz.prog.funcNamed "ostler/ostlerlaw20.AppPure" = some 4 by kernel_rfl).symm.trans hf) |>.symm;obtain rfl : fn = Tryz.f4 := (Option.some.inj (Tryz.func4.symm.trans hfn)).symm;refine ⟨by kernel_rfl, fun j t ht => ?_⟩;rw [Tryz.params4] at ht;have hm : t ∈ [30, 22, 48] := by simpa using Array.mem_of_getElem? ht
 have hall : ([30, 22, 48].all fun u => !Tryz.prog.wantsStandIn u) = true := by kernel_rfl
 exact (show Tryz.prog.wantsStandIn t = false by simpa using List.all_eq_true.1 hall t hm)

end Go.Proofs.YthhpejgpfaikaabGreatDoor.AppPure
namespace Go.Proofs.YthhpejgpfaikaabGreatDoor
theorem appPure_card : Rows.AppPureUptoCardSaid :=
 Claim7.holds_tied_plain_at .later [] _ _ _ _ AppPure.said (fun _ h => by cases h) (by kernel_rfl) (fun _ h => by cases h) appPureUpto_row_tie rfl ⟨rfl, rfl⟩ (by kernel_rfl) rfl AppPure.plain (by kernel_rfl)
#print axioms appPure_card
end Go.Proofs.YthhpejgpfaikaabGreatDoor
