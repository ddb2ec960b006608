/-
  H1writePieces holds: a response's pieces are the document's, or refused as it says, whatever the response and however it is written; where the arguments hold together at most 1048576 values and letters.
-/
import Derived.Test.YtbpdhcfmdkmoiaaDoorCards
import Derived.Test.YtbpdhcfmdkmoiaaDoorTie
import Derived.SizedLaws
import Derived.Lay
import Derived.Carry
import Derived.Test.YtbpdhcfmdkmoiaaDoorLawH1writePieces
import Derived.Test.YtbpdhcfmdkmoiaaDoorPwBG
namespace Go.Proofs.YtbpdhcfmdkmoiaaDoor.H1writePieces
open Go.ChangeShapes Go.WideShapes Go.ChangeAt Go.RowKit
open Go.ChangeMaps (open_string shut_string)
theorem laidOut : laidOutB Tryd.prog = true := by kernel_rfl

set_option maxRecDepth 100000 in
/-- What the walk gives, for every argument and every world. -/
theorem contract (H : Type) (enc : TypeId × Value → H) (W : World) (base : Nat) (args : Array Value) (ds gs : List (DataW H)) (before : List MemPlace)
    (hval : ∀ (j : Nat) t v, Tryd.f3.params[j]? = some t → args[j]? = some v → Value.okWide Tryd.prog W .any base t v)
    (hW : DataW.Whole enc Tryd.prog Tryd.f3.params.toList Rows.h1writePiecesSpec.vars false W args.toList ds gs before) (hL : laidMetH Tryd.prog Rows.h1writePiecesUptoRow.laid W) (hSh : W.ShapedOpen Tryd.prog) (hk : (Rows.uptoSmall H (ds ++ gs)) = true) :
    Calls Tryd.prog 3 args W fun e W' => ∃ v, e = .returned v ∧ Rows.h1writePiecesSpec.post enc Tryd.prog Tryd.f3 false true false false W args v W' := by
  have hW' := hW
  obtain ⟨p, q, hA0, hV, rfl, hfz, hnd⟩ := hW
  have hA : DataW.TrodAll enc Tryd.prog W 0 (fun _ => true) true Tryd.f3.params.toList args.toList ds p := hA0
  rw [Tryd.params3] at hA hval
  obtain ⟨v0, vs0, d0, ds0, p0, q'0, hargs, rfl, rfl, h0, r0⟩ := trodAll_cons hA
  obtain ⟨v1, vs1, d1, ds1, p1, q'1, rfl, rfl, rfl, h1, r1⟩ := trodAll_cons r0
  obtain ⟨rfl, rfl, rfl⟩ := trodAll_nil r1
  obtain rfl : args = #[v0, v1] := by cases args; simp_all
  obtain ⟨rfl, rfl⟩ := trodVars_none hV
  obtain ⟨st0, rb0, rf0, rt0, fs0, ts0, rfl, hf0, hg0, hb0, hn0, hw0, hy0, hz0⟩ := open_response22 (hval 0 24 v0 rfl rfl) h0
  obtain ⟨o1, e1, t1, rfl⟩ := open_how22 (hval 1 26 v1 rfl rfl) h1
  have hbk := of_decide_eq_true hk
  simp only [List.append_nil, Rows.uptoBulkAll] at hbk
  obtain ⟨TBH, TZH⟩ := Frame22.tb hL hSh
  clear hA0
  simp only [List.append_nil] at hW'
  refine (h1writePieces_any st0 rf0 rb0 rt0 fs0 ts0 o1 e1 t1 W hf0 hg0 (fo_of22 hn0.1 hn0.2 hy0 (by omega)) (fo_of22 hw0.1 hw0.2 hz0 (by omega)) (by omega) TBH TZH).mono fun e W' ⟨he, hnx⟩ => ?_
  subst he
  refine ⟨_, rfl, _, _, _, [], _, [], hW', ?_, (trodAll_cons_mk (Below.trod laidOut (by kernel_rfl) (of_decide_eq_true (by kernel_rfl)) h0 hnx (fun x hx => hW'.lt x (by first | exact hx | (simpa using hx) | (simp only [List.mem_append]; simp [hx])))) (trodAll_cons_mk (Below.trod laidOut (by kernel_rfl) (of_decide_eq_true (by kernel_rfl)) h1 hnx (fun x hx => hW'.lt x (by first | exact hx | (simpa using hx) | (simp only [List.mem_append]; simp [hx])))) trodAll_mk0)), rfl, hnx.frame _, fun h => by cases h⟩
  exact (trodAll_cons_mk (shut_bool Tryd.underlying4 _) trodAll_mk0)

theorem own : ownKnob Tryd.prog.godebug = none := by kernel_rfl
theorem laid_met (os : Os) : laidMet Tryd.prog Rows.h1writePiecesUptoRow.laid ((World.laidAll Tryd.prog os Rows.h1writePiecesUptoRow.laid).forCall (fun _ _ => 0) ⟨#[], #[.agg #[.int .i64 0, .slice none 0 0, .string ⟨#[]⟩, .slice none 0 0], .agg #[.bool false, .bool false, .bool false]], []⟩).memory :=
  laidMet_laidAll _ (by kernel_rfl) (by kernel_rfl)
theorem reads (os : Os) {H : Type} (enc : TypeId × Value → H) : ∃ places, DataW.whole enc Tryd.prog ((World.laidAll Tryd.prog os Rows.h1writePiecesUptoRow.laid).forCall (fun _ _ => 0) ⟨#[], #[.agg #[.int .i64 0, .slice none 0 0, .string ⟨#[]⟩, .slice none 0 0], .agg #[.bool false, .bool false, .bool false]], []⟩).memory Tryd.f3.params.toList Rows.h1writePiecesSpec.vars false (#[.agg #[.int .i64 0, .slice none 0 0, .string ⟨#[]⟩, .slice none 0 0], .agg #[.bool false, .bool false, .bool false]] : Array Value).toList 8 = some ([.agg [.lit (.int .i64 0), .nil, .lit (.string []), .nil], .agg [.lit (.bool false), .lit (.bool false), .lit (.bool false)]], [], places) :=
  ⟨[], by kernel_rfl⟩

set_option maxRecDepth 100000 in
theorem lifted (os : Os) (started : os.Started) (H : Type) (enc : TypeId × Value → H) (F : Stop.Interp) :
    ReturnsInHanded {} Tryd.checked os 3 .any ((Rows.OpenSpec.upto Rows.h1writePiecesSpec).preRow enc Tryd.prog Tryd.f3 Rows.h1writePiecesUptoRow.domain false Rows.h1writePiecesUptoRow.laid) (((Rows.OpenSpec.upto Rows.h1writePiecesSpec).at F).post enc Tryd.prog Tryd.f3 false true false false) := by
  obtain ⟨places, hx⟩ := reads os enc
  refine returnsInHanded_of_row (C := Tryd.checked) (s := Rows.OpenSpec.upto Rows.h1writePiecesSpec) own started (by kernel_rfl) Tryd.func3
    (witness_row_at (enc := enc) (C := Tryd.checked) false (World.laidAll Tryd.prog os Rows.h1writePiecesUptoRow.laid) #[.agg #[.int .i64 0, .slice none 0 0, .string ⟨#[]⟩, .slice none 0 0], .agg #[.bool false, .bool false, .bool false]] (World.laidAll_os _ _ _) (by kernel_rfl) (by kernel_rfl) (by kernel_rfl)
      (OpenSpec.preRow_of_cond 8 hx (by kernel_rfl) (fun k hk => by cases hk; kernel_rfl) (by kernel_rfl) (laid_met os))) ?_
  intro W base args ds gs before hval hW _ hcond _ hL hSh _
  exact contract H enc W base args ds gs before hval hW hL hSh (hcond _ rfl)

theorem said : Rows.H1writePiecesUptoSaid :=
  OpenClaim.holds_of_cond 3 Tryd.f3 rfl rfl rfl rfl rfl rfl rfl ⟨rfl, rfl, rfl, rfl, rfl⟩ rfl rfl rfl rfl rfl (by kernel_rfl) Tryd.func3 (by kernel_rfl)
    (of_decide_eq_true (by kernel_rfl)) (by unfold Func.isWrapper; first | (rw [if_pos (by decide +kernel)]; kernel_rfl) | (rw [if_neg (by decide +kernel)]; exact ⟨rfl, rfl⟩))
    (fun os started H enc _ F => by rw [OpenClaim.pre_eq_preRow]; exact lifted os started H enc F)

theorem plain (f : FuncId) (fn : Func) (hf : Tryd.pinned.checked.prog.funcNamed "ostler/ostlerlaw22.H1writePieces" = some f) (hfn : Tryd.pinned.checked.prog.funcs[f]? = some fn) :
    false = Tryd.pinned.checked.prog.looks [] ∧ ∀ (j : Nat) t, fn.params[j]? = some t → Tryd.pinned.checked.prog.wantsStandIn t = false := by
  obtain rfl : f = 3 := Option.some.inj ((show Tryd.prog.funcNamed "ostler/ostlerlaw22.H1writePieces" = some 3 by kernel_rfl).symm.trans hf) |>.symm
  obtain rfl : fn = Tryd.f3 := (Option.some.inj (Tryd.func3.symm.trans hfn)).symm
  refine ⟨by kernel_rfl, fun j t ht => ?_⟩
  rw [Tryd.params3] at ht
  have hm : t ∈ [24, 26] := by simpa using Array.mem_of_getElem? ht
  have hall : ([24, 26].all fun u => !Tryd.prog.wantsStandIn u) = true := by kernel_rfl
  exact (show Tryd.prog.wantsStandIn t = false by simpa using List.all_eq_true.1 hall t hm)

end Go.Proofs.YtbpdhcfmdkmoiaaDoor.H1writePieces
namespace Go.Proofs.YtbpdhcfmdkmoiaaDoor
/-- The card. -/
theorem h1writePieces_card : Rows.H1writePiecesUptoCardSaid :=
  Claim7.holds_tied_plain_at .later [] _ _ _ _ H1writePieces.said (fun _ h => by cases h) (by kernel_rfl) (fun _ h => by cases h) h1writePiecesUpto_row_tie rfl ⟨rfl, rfl⟩ (by kernel_rfl) rfl H1writePieces.plain (by kernel_rfl)
#print axioms h1writePieces_card
end Go.Proofs.YtbpdhcfmdkmoiaaDoor
