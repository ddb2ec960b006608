/-
  FrameParses holds: for every frame the code says what it says, and what is wrong with it, as the document does; what is answered is its owner's.
-/
import Derived.Test.YthgdokcdpmoeeaaLawFrameParses
import Derived.Test.YthgdokcdpmoeeaaRows
import Derived.ProofKit
import Derived.ChangeMaps5
import Derived.JoinedCond
import Derived.OpenShut
import Derived.Lib.SmallJoins
namespace Go.Proofs.Ythgdokcdpmoeeaa.FrameParses
open Go.ChangeShapes Go.WideShapes Go.ChangeAt Go.RowKit
open Go.ChangeMaps (open_string shut_string)
open Go.Joins

theorem own : ownKnob Try.prog.godebug = none := by kernel_rfl
theorem cell_int {H : Type} {enc : TypeId × Value → H} {w : World} {base : Nat} {sp : Nat → Bool} {held : Bool} {t : TypeId} {k : IntKind} {n : Nat} {v : Value} {y : DataW H × List MemPlace} (ht : Try.prog.underlying t = some (.int k)) (h : DataW.trod enc Try.prog w base sp held n t [v] = some y) :
    ∃ i : Int, (Lit.int k i).wf = true ∧ v = .int k i ∧ y = (.lit (.int k i), []) := by
  obtain ⟨i, hc, hx, hw⟩ := DataW.trod_int ht h
  exact ⟨i, hw, by simpa using hc, hx⟩
theorem shut_cell {H : Type} {enc : TypeId × Value → H} {w : World} {base : Nat} {sp : Nat → Bool} {held : Bool} {t : TypeId} {k : IntKind} {i : Int} (ht : Try.prog.underlying t = some (.int k)) (hw : (Lit.int k i).wf = true) :
    ∃ n, DataW.trod enc Try.prog w base sp held n t [.int k i] = some (.lit (.int k i), []) := by
  obtain ⟨n, h⟩ := shut_int (enc := enc) (w := w) (base := base) (spare := sp) (held := held) ht hw
  exact ⟨n, by simpa [Value.cells] using h⟩
theorem cell_str {H : Type} {enc : TypeId × Value → H} {w : World} {base : Nat} {sp : Nat → Bool} {held : Bool} {t : TypeId} {n : Nat} {v : Value} {y : DataW H × List MemPlace} (ht : Try.prog.underlying t = some .string) (h : DataW.trod enc Try.prog w base sp held n t [v] = some y) :
    ∃ s : ByteArray, s.size ≤ maxLen ∧ v = .string s ∧ y = (.lit (.string s.data.toList), []) := by
  obtain ⟨s, hc, hx, hw⟩ := DataW.trod_string ht h
  exact ⟨s, hw, by simpa using hc, hx⟩
theorem shut_cstr {H : Type} {enc : TypeId × Value → H} {w : World} {base : Nat} {sp : Nat → Bool} {held : Bool} {t : TypeId} {s : ByteArray} (ht : Try.prog.underlying t = some .string) (hs : s.size ≤ maxLen) :
    ∃ n, DataW.trod enc Try.prog w base sp held n t [.string s] = some (.lit (.string s.data.toList), []) := by
  obtain ⟨n, h⟩ := shut_string (enc := enc) (w := w) (base := base) (sp := sp) (held := held) ht hs
  exact ⟨n, by simpa [Value.cells] using h⟩

set_option maxRecDepth 100000 in
/-- What the walk gives, for every argument. -/
theorem contract (H : Type) (enc : TypeId × Value → H) (W : World) (base : Nat) (args : Array Value) (ds gs : List (DataW H)) (before : List MemPlace)
    (hval : ∀ (j : Nat) t v, Try.f3.params[j]? = some t → args[j]? = some v → Value.okWide Try.prog W .any base t v)
    (hW : DataW.Whole enc Try.prog Try.f3.params.toList Rows.frameParsesSpec.vars false W args.toList ds gs before) (hk : (Rows.uptoSmall H (ds ++ gs)) = true) :
    Calls Try.prog 3 args W fun e W' => ∃ v, e = .returned v ∧ Rows.frameParsesSpec.post enc Try.prog Try.f3 false true false false W args v W' := by
  have hW' := hW
  obtain ⟨p, q, hA0, hV, rfl, hfz, hnd⟩ := hW
  have hA : DataW.TrodAll enc Try.prog W 0 (fun _ => true) true Try.f3.params.toList args.toList ds p := hA0
  rw [Try.params3] at hA hval
  obtain ⟨v0, vs0, d0, ds0, p0, q0, hargs, rfl, rfl, h0, r0⟩ := trodAll_cons hA
  obtain ⟨rfl, rfl, rfl⟩ := trodAll_nil r0
  obtain rfl : args = #[v0] := by cases args; simp_all
  obtain ⟨rfl, rfl⟩ := trodVars_none hV
  obtain ⟨x00, x01, x02, x03, y00, y01, y02, y03, m0, rfl, rfl, rfl, g00, g01, g02, g03⟩ := open_agg4 Try.underlying23 (by kernel_rfl) (by kernel_rfl) (hval 0 23 v0 rfl rfl) h0
  obtain ⟨n00, wn00, rfl, rfl⟩ := cell_int Try.underlying3 g00
  obtain ⟨n01, wn01, rfl, rfl⟩ := cell_int Try.underlying3 g01
  obtain ⟨n02, wn02, rfl, rfl⟩ := cell_int Try.underlying3 g02
  obtain ⟨s03, ws03, rfl, rfl⟩ := cell_str Try.underlying9 g03
  have e0 := Lib.size_eq s03
  clear hA0
  simp only [List.append_nil] at hW'
  have hb := of_decide_eq_true hk
  simp only [List.append_nil, Rows.uptoBulkAll, Rows.uptoBulk] at hb
  refine (frameParses_c n00 n01 n02 s03 W (by omega)).mono fun e W' ⟨he, hnx⟩ => ?_
  subst he
  refine ⟨_, rfl, _, _, _, [], [], [], hW', ?_, ?_, rfl, hnx.frame _, fun h => by cases h⟩
  · exact (trodAll_cons_mk (shut_bool Try.underlying4 _) trodAll_mk0)
  · exact (trodAll_cons_mk (shut_agg4 Try.underlying23 (by kernel_rfl) (by kernel_rfl) (shut_cell Try.underlying3 wn00) (shut_cell Try.underlying3 wn01) (shut_cell Try.underlying3 wn02) (shut_cstr Try.underlying9 ws03)) trodAll_mk0)

set_option maxRecDepth 100000 in
theorem lifted (os : Os) (started : os.Started) (H : Type) (enc : TypeId × Value → H) (F : Stop.Interp) :
    ReturnsInHanded {} Try.checked os 3 .any ((Rows.OpenSpec.upto Rows.frameParsesSpec).pre6 enc Try.prog Try.f3 Rows.frameParsesUptoRow.domain false) (((Rows.OpenSpec.upto Rows.frameParsesSpec).at F).post enc Try.prog Try.f3 false true false false) := by
  refine returnsInHanded_of_cond (C := Try.checked) (s := Rows.OpenSpec.upto Rows.frameParsesSpec) (k := Rows.uptoSmall) rfl own started (by kernel_rfl) Try.func3
    (OpenSpec.witness (enc := enc) (C := Try.checked) (s := Rows.OpenSpec.upto Rows.frameParsesSpec) (k := Rows.uptoSmall) rfl false ⟨#[], #[.agg #[.int .i64 0, .int .i64 0, .int .i64 0, .string ⟨#[]⟩]], []⟩ 8 (by kernel_rfl) (by kernel_rfl) (by kernel_rfl) (x := ([.agg [.lit (.int .i64 0), .lit (.int .i64 0), .lit (.int .i64 0), .lit (.string [])]], [], [])) (by kernel_rfl) (by kernel_rfl) (by kernel_rfl)) ?_
  intro W base args ds gs before hval hW _ hcond _
  exact contract H enc W base args ds gs before hval hW hcond

end Go.Proofs.Ythgdokcdpmoeeaa.FrameParses
namespace Go.Proofs.Ythgdokcdpmoeeaa
theorem frameParses_holds : Rows.FrameParsesUptoSaid :=
  OpenClaim.holds_of_cond 3 Try.f3 rfl rfl rfl rfl rfl rfl rfl ⟨rfl, rfl, rfl, rfl, rfl⟩ rfl rfl rfl rfl rfl (by kernel_rfl) Try.func3 (by kernel_rfl)
    (of_decide_eq_true (by kernel_rfl)) (by unfold Func.isWrapper; first | (rw [if_pos (by decide +kernel)]; kernel_rfl) | (rw [if_neg (by decide +kernel)]; exact ⟨rfl, rfl⟩))
    (fun os started H enc _ F => by rw [OpenClaim.pre_of_none' rfl]; exact FrameParses.lifted os started H enc F)
#print axioms frameParses_holds
end Go.Proofs.Ythgdokcdpmoeeaa
