/-
  The document's Trailers, Same, SameRequest: by their contracts.
-/
import Derived.Test.YtcljepppdljnlabDoorMsG
import Derived.Laws.StructEq
namespace Go.Proofs.YtcljepppdljnlabDoor
open Go.RowKit

theorem noStandF14 : Tryd.prog.stoodInHeld 28 = false := by kernel_rfl
theorem noGuardF14 : Tryd.prog.eqGuardType Tryd.prog.depth 28 = false := by kernel_rfl
theorem fieldsOfF14 : Tryd.prog.underlying 28 = some (.struct (Tryd.prog.fieldsOf 28)) := by kernel_rfl
set_option maxRecDepth 20000 in
theorem neq_f14 (f : Fd) (w : World) : (binOp .neq 28 (.agg #[.string f.n, .string f.v]) (.agg #[.string f.n, .string f.v])).run Tryd.prog w = .ok (.bool false) w := by
  rw [run_neq_struct, show (10000 : Nat) = 9999 + 1 by rfl, run_equalIn_agg w 9999 28 _ _ fieldsOfF14 noStandF14]
  simp only [Program.fieldsOf, Tryd.underlying28]
  go_simp

set_option maxHeartbeats 2000000 in
set_option maxRecDepth 20000 in
theorem rsame14 (va vb : Value) (l : List Fd) (w : World) (h1 : FW w va l) (h2 : FW w vb l) (hl : l.length ≤ 140737488355328) :
    Calls Tryd.prog 9 #[va, vb] w fun e w' => e = .returned (.bool true) ∧ ∃ m, w' = w.drewN m := by
  obtain ⟨ao, ca, hv⟩ := h1.shape
  subst hv
  obtain ⟨bo, cb, hv⟩ := h2.shape
  subst hv
  obtain ⟨n, hn⟩ : ∃ n, l.length = n := ⟨_, rfl⟩
  rw [hn] at h1 h2 hl ⊢
  have H1 := hid' h1
  have H2 := hid' h2
  have HN := hid' hn
  have hee : ((n : Int) == (n : Int)) = true := beq_self_eq_true _
  have hgd := noGuardF14
  clear h1 h2 hn
  go_enter Tryd.func9, Tryd.ntmps9
  go_wp2
  go_loopw [5] (fun s5 wr => ∃ i q : Nat, s5 = .int .i64 (i : Int) ∧ i ≤ n ∧ wr = w.drewN q) (fun s5 _ => n - (intOf s5).toNat)
  case atStart => exact ⟨0, 0, rfl, Nat.zero_le _, rfl⟩
  case round =>
    obtain ⟨i, q, rfl, hi, hwr⟩ := hrel
    subst hwr
    by_cases hlt : i < n
    · have hlt2 : (i : Int) < (n : Int) := by omega
      obtain ⟨p, hp⟩ : ∃ p, l[i]? = some p := ⟨_, List.getElem?_eq_getElem (by rw [HN.out]; exact hlt)⟩
      obtain ⟨a, hao, x0, x1⟩ := H1.out.two i p hp
      obtain ⟨a2, hbo, y0, y1⟩ := H2.out.two i p hp
      subst hao hbo
      have hne : ∀ W, (binOp .neq 28 (.agg #[.string p.n, .string p.v]) (.agg #[.string p.n, .string p.v])).run Tryd.prog W = .ok (.bool false) W := fun W => neq_f14 p W
      have HLT := hid' hlt
      clear hp hlt
      go_wp2
      go_quiet (fail)
      go_wp2
      go_roundw
      case rel => exact ⟨i + 1, _, by go_num, by have := HLT.out; omega, by first | rfl | simp⟩
      case measure => have := HLT.out; simp [intOf]; omega
    · have hlt2 : ¬ (i : Int) < (n : Int) := by omega
      clear hlt
      go_wp2
      go_ret
      exact ⟨rfl, _, rfl⟩

end Go.Proofs.YtcljepppdljnlabDoor
