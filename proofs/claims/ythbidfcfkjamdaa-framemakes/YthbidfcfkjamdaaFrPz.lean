/-
  append(x, make([]byte, m)...): noughts that are appended.
-/
import Derived.Test.YthbidfcfkjamdaaFrX
namespace Go.Proofs.Ythbidfcfkjamdaa
open Go.RowKit

theorem zero_cells (m : Nat) : Builtin.zeroCells #[Value.int .u8 0] m = (List.replicate m (Value.int .u8 0)).toArray := by
  apply Array.ext'
  apply List.ext_getElem
  · simp [Builtin.zeroCells]
  · intro i h1 h2
    simp [Builtin.zeroCells, Nat.mod_one]
theorem str_cells (m : Nat) : Lib.strCells ⟨(List.replicate m (0 : UInt8)).toArray⟩ = List.replicate m (Value.int .u8 0) := by simp [Lib.strCells]
theorem first_zeros (w : World) (m : Nat) : (Builtin.firstCells 1 m (.string ⟨(List.replicate m (0 : UInt8)).toArray⟩)).run Try.prog w = .ok (List.replicate m (Value.int .u8 0)).toArray w := by
  have h := Lib.run_firstCells_string (P := Try.prog) w 1 ⟨(List.replicate m (0 : UInt8)).toArray⟩
  rw [str_cells] at h
  have e : (⟨(List.replicate m (0 : UInt8)).toArray⟩ : ByteArray).size = m := by simp [ByteArray.size]
  rw [e] at h
  exact h

set_option maxHeartbeats 1000000 in
theorem run_append_zeros (ty : TypeId) (B : Nat) (v : Value) (n m : Nat) (xs : List Value) (w : World) (hm : m ≤ 255) (hn : n ≤ 8589934592) (hown : w.ownsRow B 5 1 v n xs) (hB : B ≤ w.heap.size) :
    ∃ v' w', (Builtin.append_ #[66, 3] ty #[v, .int .i64 (m : Int)]).run Try.prog w = .ok v' w' ∧ w'.ownsRow B 5 1 v' (n + m) (xs ++ List.replicate m (.int .u8 0)) ∧ w.grownBy w' v.ownBlock := by
  obtain ⟨i, hi, hz0, hz1, hz2⟩ := info_parts' infoByte'
  have es : (⟨(List.replicate m (0 : UInt8)).toArray⟩ : ByteArray).size = m := by simp [ByteArray.size]
  obtain ⟨v', w', hr, h2, h3, _⟩ := Lib.run_append_own_string (P := Try.prog) w B 66 9 ty 5 i Try.underlying66 Try.underlying9 hi hz0 hz1 hz2 v n xs hown ⟨(List.replicate m (0 : UInt8)).toArray⟩ (by rw [es]; unfold maxLen; omega) (by rw [es]; omega) hB
  rw [es, str_cells] at h2
  have fz : ∀ W, (Builtin.firstCells 1 m (.string ⟨(List.replicate m (0 : UInt8)).toArray⟩)).run Try.prog W = .ok (List.replicate m (Value.int .u8 0)).toArray W := fun W => first_zeros W m
  generalize (⟨(List.replicate m (0 : UInt8)).toArray⟩ : ByteArray) = s at *
  refine ⟨v', w', ?_, h2, h3⟩
  rw [← hr]
  have hw : IntKind.i64.wrap (m : Int) = (m : Int) := by rw [IntKind.wrap_i64]; omega
  have h0 : ¬ ((m : Int) < 0) := by omega
  have b1 : ¬ ((281474976710656 : Int) < (m : Int)) := by omega
  have zc : Builtin.zeroCells (Value.int .u8 0).cells m = (List.replicate m (Value.int .u8 0)).toArray := zero_cells m
  by_cases hm0 : m = 0
  · subst hm0
    have hw0 : IntKind.i64.wrap 0 = 0 := by decide
    rcases hown.2 with ⟨rfl, rfl⟩ | ⟨g, cap, cur, rfl, _, _, hnc, hcm, _⟩
    · simp only [Builtin.append_]
      simp [run_underlying Try.underlying66, run_underlying Try.underlying3, run_underlying Try.underlying9, sizeOf, typeInfo, hi, hz0, hz1, hz2, asInt, asIntOf, hw0, Builtin.lenOf, es, fz, zeroValue]

    · simp only [Builtin.append_]
      simp [run_underlying Try.underlying66, run_underlying Try.underlying3, run_underlying Try.underlying9, sizeOf, typeInfo, hi, hz0, hz1, hz2, asInt, asIntOf, hw0, Builtin.lenOf, es, fz, zeroValue, hnc]

  · rcases hown.2 with ⟨rfl, rfl⟩ | ⟨g, cap, cur, rfl, _, _, hnc, hcm, _⟩
    · have b2 : ¬ ((9223372036854775807 : Int) < (m : Int)) := by omega
      have b3 : ¬ (281474976710656 < Builtin.nextslicecap m 0) := by
        unfold Builtin.nextslicecap
        rw [if_pos (by omega)]
        omega
      simp only [Builtin.append_]
      simp [run_underlying Try.underlying66, run_underlying Try.underlying3, run_underlying Try.underlying9, sizeOf, typeInfo, hi, hz0, hz1, hz2, asInt, asIntOf, hw, h0, b1, Builtin.lenOf, es, zeroValue, hm0, b2, b3, zc, fz]

    · by_cases hroom : n + m ≤ cap
      · simp only [Builtin.append_]
        simp [run_underlying Try.underlying66, run_underlying Try.underlying3, run_underlying Try.underlying9, sizeOf, typeInfo, hi, hz0, hz1, hz2, asInt, asIntOf, hw, h0, b1, Builtin.lenOf, es, zeroValue, hm0, hroom, zc, fz]
  
      · have b2 : ¬ ((9223372036854775807 : Int) < (n : Int) + (m : Int)) := by omega
        have b3 : ¬ (281474976710656 < Builtin.nextslicecap (n + m) cap) := by
          have := growslice_fits (need := n + m) (old := cap) (bytes := 1) (by omega) (by omega)
          omega
        simp only [Builtin.append_]
        simp [run_underlying Try.underlying66, run_underlying Try.underlying3, run_underlying Try.underlying9, sizeOf, typeInfo, hi, hz0, hz1, hz2, asInt, asIntOf, hw, h0, b1, Builtin.lenOf, es, zeroValue, hm0, hroom, b2, b3, zc, fz]
  

end Go.Proofs.Ythbidfcfkjamdaa
