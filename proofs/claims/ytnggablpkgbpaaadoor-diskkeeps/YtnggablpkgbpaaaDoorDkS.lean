/-
  A row of files sorted by their paths: slices.SortFunc with byPath: by its contract.
-/
import Derived.Test.YtnggablpkgbpaaaDoorDkO
import Derived.Test.YtnggablpkgbpaaaDoorShelf
import Derived.Test.YtnggablpkgbpaaaDoorShSort
namespace Go.Proofs.YtnggablpkgbpaaaDoor
open Go.RowKit Go.Sort

def en0 : Dk.En := ⟨⟨#[]⟩, ⟨#[]⟩, 0, 0⟩
theorem enNe : Nonempty Dk.En := ⟨en0⟩
def cfP (x y : Dk.En) : Int := Lib.compareBytes (Dk.key x) (Dk.key y)
theorem cmp_lt : ∀ (a b : List UInt8), Lib.compareBytes a b < 0 ↔ a < b
  | [], [] => by simp [Lib.compareBytes, List.not_lt_nil]
  | [], c :: b => by simp [Lib.compareBytes, List.nil_lt_cons]
  | c :: a, [] => by simp [Lib.compareBytes, List.not_lt_nil]
  | c :: a, d :: b => by
    have ih := cmp_lt a b
    rw [List.cons_lt_cons_iff]
    simp only [Lib.compareBytes]
    by_cases h1 : c < d
    · rw [if_pos h1]
      exact ⟨fun _ => .inl h1, fun _ => by decide⟩
    · rw [if_neg h1]
      by_cases h2 : d < c
      · rw [if_pos h2]
        refine ⟨fun h => absurd h (by decide), ?_⟩
        rintro (h | ⟨h, _⟩)
        · exact absurd h h1
        · rw [h] at h2; exact absurd h2 (UInt8.lt_irrefl _)
      · rw [if_neg h2, ih]
        have h3 : c = d := UInt8.le_antisymm (UInt8.not_lt.1 h2) (UInt8.not_lt.1 h1)
        refine ⟨fun h => .inr ⟨h3, h⟩, ?_⟩
        rintro (h | ⟨_, h⟩)
        · exact absurd h h1
        · exact h
theorem lt_cf (x y : Dk.En) : ltOf cfP x y = decide (Dk.key x < Dk.key y) := by
  unfold ltOf cfP
  exact decide_eq_decide.2 (cmp_lt _ _)
theorem swoP : SWO (ltOf cfP) := ⟨fun x => by rw [lt_cf]; exact decide_eq_false (Dk.lt_irrefl _),
  fun x y z h1 h2 => by rw [lt_cf] at *; exact decide_eq_true (Dk.lt_trans (of_decide_eq_true h1) (of_decide_eq_true h2)),
  fun x y z h1 h2 => by
    rw [lt_cf] at *
    refine decide_eq_false fun h => ?_
    rcases Dk.lt_tri (Dk.key x) (Dk.key y) with h3 | h3 | h3
    · exact (of_decide_eq_false h1) h3
    · rw [h3] at h; exact (of_decide_eq_false h2) h
    · exact (of_decide_eq_false h2) (Dk.lt_trans h3 h)⟩

set_option maxHeartbeats 1000000 in
theorem byPath13 (x y : Dk.En) (W : World) : Calls Tryd.prog 34 #[.agg #[.string x.path, .string x.body, .int .i64 x.time, .int .i64 x.seq], .agg #[.string y.path, .string y.body, .int .i64 y.time, .int .i64 y.seq]] W fun e w' => e = .returned (.int .i64 (cfP x y)) ∧ ∃ q os', w' = grow (W.drewN q) os' := by
  have hcon := fun W' => Tryd.strings_Compare x.path y.path W'
  have HCF : Hid (cfP x y = Lib.compareBytes x.path.data.toList y.path.data.toList) := hid' rfl
  generalize Lib.compareBytes x.path.data.toList y.path.data.toList = r at hcon HCF
  go_enter Tryd.func34, Tryd.ntmps34
  go_wp2_with (go_at_call 42; refine (hcon _).mono ?_; rintro e w' ⟨rfl, rfl⟩)
  go_ret
  exact ⟨by rw [HCF.out]; rfl, 0, _, by rw [alloc_eq_grow, alloc_eq_grow, grow_grow]; rfl⟩
section
variable [Inhabited Dk.En]
theorem cmpLaysP (blk off size : Nat) (w : World) : CmpLays Tryd.prog 34 #[] enV 4 cfP blk off size w :=
  fun _ _ _ _ x y => byPath13 x y _

theorem flat_en (l : List Dk.En) : (flatK enV 4 l.toArray).toList = enC l := by
  apply List.ext_getElem?
  intro t
  by_cases ht : t < l.length * 4
  · obtain ⟨p, hp⟩ : ∃ p, l[t / 4]? = some p := ⟨_, List.getElem?_eq_getElem (by omega)⟩
    have h1 := en_at l (t / 4) p hp (t % 4) (by omega)
    rw [show t / 4 * 4 + t % 4 = t by omega] at h1
    rw [h1]
    have hl : t % 4 < (enV p).length := by simp only [enV, List.length_cons, List.length_nil]; omega
    rw [List.getElem?_eq_getElem hl]
    have hs : t < (flatK enV 4 l.toArray).size := by simp; omega
    have h2 := get_flatK enV 4 l.toArray t (by simpa using ht)
    rw [getElem!_pos _ t hs] at h2
    have h3 : (l.toArray)[t / 4]! = p := by
      have h4 := (List.getElem?_eq_some_iff.1 hp).1
      rw [getElem!_pos l.toArray (t / 4) (by simpa using h4)]
      simpa using (List.getElem?_eq_some_iff.1 hp).2
    rw [h3, getElem!_pos (enV p) (t % 4) hl] at h2
    rw [Array.getElem?_toList, Array.getElem?_eq_getElem hs, h2]
  · rw [List.getElem?_eq_none (by simp; omega), List.getElem?_eq_none (by rw [enC_length]; omega)]
theorem put_take (n : Nat) (l : List Dk.En) (c : Array Value) (hl : l.length = n) (hc : n * 4 ≤ c.size) : (putCells id 0 (flatK enV 4 l.toArray) c).toList.take (n * 4) = enC l := by
  rw [← flat_en l]
  apply List.ext_getElem?
  intro t
  rw [List.getElem?_take]
  by_cases ht : t < n * 4
  · rw [if_pos ht]
    have hs : t < (flatK enV 4 l.toArray).size := by simp; omega
    rw [Array.getElem?_toList, Array.getElem?_toList, Array.getElem?_eq_getElem hs]
    unfold putCells
    rw [Array.getElem?_mapIdx, Array.getElem?_eq_getElem (by omega), Option.map_some, if_pos ⟨Nat.zero_le _, by omega⟩, Nat.sub_zero, getElem!_pos _ t hs]
    rfl
  · rw [if_neg ht, List.getElem?_eq_none (by simp; omega)]
end

end Go.Proofs.YtnggablpkgbpaaaDoor
