/-
  The document's table: static, by its contract.
  The code's table: static, by its contract.
  The code's table: At, by its contract.
  Fields compared.
  The code's table: Find, by its contract.
  The code's table: shrink, by its contract.
-/
import Derived.Test.YtmkkhfkfjmfdcaaGreatTabR
import Derived.Test.YtmkkhfkfjmfdcaaGreatTabK
import Derived.Laws.StructEq
import Derived.WalkSmall
namespace Go.Proofs.YtmkkhfkfjmfdcaaGreat
open Go.RowKit

def statCells : Array Value := (Tb.cells Tb.stat).toArray

set_option maxHeartbeats 4000000 in
set_option maxRecDepth 100000 in
theorem rstatic_any (w : World) :
    Calls Tryz.prog 83 #[] w fun e w' => e = .returned (.slice (some ⟨w.heap.size, 0, none⟩) 61 61) ∧ w' = w.alloc (.cells statCells 54) := by
  go_enter Tryz.func83, Tryz.ntmps83
  go_wp2
  go_ret
  exact ⟨rfl, rfl⟩

end Go.Proofs.YtmkkhfkfjmfdcaaGreat

namespace Go.Proofs.YtmkkhfkfjmfdcaaGreat
open Go.RowKit

theorem stat_cut (j : Nat) (f : (List UInt8 × List UInt8)) (hf : Tb.stat[j]? = some f) : statCells.extract (j * 2) (j * 2 + 2) = #[.string ⟨f.1.toArray⟩, .string ⟨f.2.toArray⟩] := by
  obtain ⟨e0, e1⟩ := Tb.cells_at _ _ _ hf
  apply Array.ext_getElem?
  intro i
  unfold statCells
  rw [Array.getElem?_extract]
  have hl : (Tb.cells Tb.stat).length = 122 := by rw [Tb.cells_length, Tb.stat_length]
  have hj : j < 61 := by have := (List.getElem?_eq_some_iff.1 hf).1; rw [Tb.stat_length] at this; exact this
  rw [List.size_toArray, hl]
  match i with
  | 0 => rw [if_pos (by omega)]; simpa using e0
  | 1 => rw [if_pos (by omega)]; simpa using e1
  | i + 2 => rw [if_neg (by omega)]; simp

theorem index_stat (j : Nat) (f : (List UInt8 × List UInt8)) (hf : Tb.stat[j]? = some f) (c : Array Value) (hc : c = statCells) (w : World) : (Instr.index 142 (.agg c) (.int .i64 (j : Int))).run Tryz.prog w = .ok (.agg #[.string ⟨f.1.toArray⟩, .string ⟨f.2.toArray⟩]) w := by
  have hj : j < 61 := by have := (List.getElem?_eq_some_iff.1 hf).1; rw [Tb.stat_length] at this; exact this
  subst hc
  simp [Instr.index, asIntOf, run_underlying Tryz.underlying142, hj, part, stat_cut j f hf]

set_option maxHeartbeats 4000000 in
set_option maxRecDepth 100000 in
theorem cstatic_any (j : Nat) (f : (List UInt8 × List UInt8)) (hf : Tb.stat[j]? = some f) (w : World) :
    Calls Tryz.prog 89 #[.int .i64 ((j : Int) + 1)] w fun e w' => e = .returned (.agg #[.string ⟨f.1.toArray⟩, .string ⟨f.2.toArray⟩]) ∧ Below w.heap.size w w' := by
  have HF := hid' hf
  have hj : j < 61 := by have := (List.getElem?_eq_some_iff.1 hf).1; rw [Tb.stat_length] at this; exact this
  obtain ⟨n, val⟩ := f
  clear hf
  go_enter Tryz.func89, Tryz.ntmps89
  go_wp2_with (refine wpl_build 142 _ rfl rfl statCells (by kernel_rfl) ?_; intro c hc)
  go_wp2
  rw [index_stat j (n, val) HF.out c hc]
  go_wp2
  have hA : Ar (w.alloc (.cells #[.string ⟨n.toArray⟩, .string ⟨val.toArray⟩] 54)) w.heap.size 54 #[.string ⟨n.toArray⟩, .string ⟨val.toArray⟩] := heap_alloc_last w _
  have e0 := hA.cell 0 _ rfl
  have e1 := hA.cell 1 _ rfl
  exact bodyPost_ret (v := .agg #[.string ⟨n.toArray⟩, .string ⟨val.toArray⟩]) (by simp [results, Tryz.results89, go_sem, e0, e1]) rfl ⟨rfl, (Below.refl _ _).alloc (Nat.le_refl _) _⟩

end Go.Proofs.YtmkkhfkfjmfdcaaGreat

namespace Go.Proofs.YtmkkhfkfjmfdcaaGreat
open Go.RowKit

theorem at_static (fs : List (List UInt8 × List UInt8)) (j : Nat) (hj : j < 61) : Tb.at? fs ((j : Int) + 1) = Tb.stat[j]? := by
  unfold Tb.at? Tb.all
  rw [if_pos (by omega), show ((j : Int) + 1 - 1).toNat = j by omega, List.getElem?_append_left (by rw [Tb.stat_length]; exact hj)]
theorem at_dyn (fs : List (List UInt8 × List UInt8)) (j : Nat) : Tb.at? fs ((j : Int) + 62) = fs[j]? := by
  unfold Tb.at? Tb.all
  rw [if_pos (by omega), show ((j : Int) + 62 - 1).toNat = j + 61 by omega, List.getElem?_append_right (by rw [Tb.stat_length]; omega), Tb.stat_length, Nat.add_sub_cancel]
theorem rev_at (fs : List (List UInt8 × List UInt8)) (j : Nat) (hj : j < fs.length) : fs.reverse[fs.length - 1 - j]? = fs[j]? := by
  rw [List.getElem?_reverse (by omega)]
  congr 1
  omega

set_option maxHeartbeats 1000000 in
set_option maxRecDepth 20000 in
theorem cat_some (B b : Nat) (v : Value) (M : Nat) (fs : List (List UInt8 × List UInt8)) (i : Int) (f : (List UInt8 × List UInt8)) (w : World) (h : CT w B b v M fs) (hs : Tb.size fs ≤ 1048576) (hf : Tb.at? fs i = some f) :
    Calls Tryz.prog 76 #[.pointer (some ⟨b, 0, none⟩), .int .i64 i] w fun e w' => e = .returned (.tuple #[.agg #[.string ⟨f.1.toArray⟩, .string ⟨f.2.toArray⟩], .bool true]) ∧ Below w.heap.size w w' := by
  obtain ⟨n, val⟩ := f
  have hi1 : 1 ≤ i := by
    by_cases h1 : 1 ≤ i
    · exact h1
    · rw [Tb.at_none fs i (.inl (by omega))] at hf; cases hf
  have hi2 : i ≤ ((61 + fs.length : Nat) : Int) := by
    by_cases h1 : i ≤ ((61 + fs.length : Nat) : Int)
    · exact h1
    · rw [Tb.at_none fs i (.inr (by omega))] at hf; cases hf
  have hfl : fs.length ≤ 1048576 := by have := Tb.size_len fs; omega
  have hb0 : Below w.heap.size w (w.alloc (.cells #[.string ⟨#[]⟩, .string ⟨#[]⟩] 54)) := (Below.refl _ _).alloc (Nat.le_refl _) _
  have hA : Ar (w.alloc (.cells #[.string ⟨#[]⟩, .string ⟨#[]⟩] 54)) w.heap.size 54 #[.string ⟨#[]⟩, .string ⟨#[]⟩] := heap_alloc_last w _
  by_cases hs61 : i ≤ 61
  · obtain ⟨j, hj⟩ : ∃ j : Nat, i = (j : Int) + 1 := ⟨(i - 1).toNat, by omega⟩
    subst hj
    have hj2 : j < 61 := by omega
    rw [at_static fs j hj2] at hf
    have HF := hid' hf
    have hd1 : decide ((j : Int) + 1 < 1) = false := decide_eq_false (by omega)
    have hd2 : decide ((j : Int) + 1 ≤ 61) = true := decide_eq_true (by omega)
    clear hf h hi1 hi2 hs61
    go_enter Tryz.func76, Tryz.ntmps76
    go_wp2_with fail
    refine (cstatic_any j (n, val) HF.out _).mono ?_
    rintro e w1 ⟨rfl, hb1⟩
    have hA1 := hA.keep hb1
    have HB := hid' (below_two hb0 hb1)
    have r0 := hA1.cell 0 _ rfl
    have r1 := hA1.cell 1 _ rfl
    have q0 := hA1.free 0
    have q1 := hA1.free 1
    have HA := hid' hA1
    clear hA hb0 hb1 hA1
    go_wp2
    have hA2 := (HA.out.set 0 (.string ⟨n.toArray⟩)).set 1 (.string ⟨val.toArray⟩)
    have e0 := hA2.cell 0 (.string ⟨n.toArray⟩) rfl
    have e1 := hA2.cell 1 (.string ⟨val.toArray⟩) rfl
    clear r0 r1 q0 q1 HA hA2
    refine bodyPost_ret (v := .tuple #[.agg #[.string ⟨n.toArray⟩, .string ⟨val.toArray⟩], .bool true]) (by simp [results, Tryz.results76, go_sem, e0, e1]) rfl ⟨rfl, ?_⟩
    exact (HB.out.setCell (p := ⟨w.heap.size, 0, none⟩) (Nat.le_refl _) _).setCell (p := ⟨w.heap.size, 1, none⟩) (Nat.le_refl _) _
  · obtain ⟨j, hj⟩ : ∃ j : Nat, i = (j : Int) + 62 := ⟨(i - 62).toNat, by omega⟩
    subst hj
    have hj2 : j < fs.length := by omega
    rw [at_dyn fs j, ← rev_at fs j hj2] at hf
    obtain ⟨x0, x1⟩ := Tb.cells_at _ _ _ hf
    have HX0 := hid' x0
    have HX1 := hid' x1
    have HR := hid' (h.keep hb0).ring
    have hd1 : decide ((j : Int) + 62 < 1) = false := decide_eq_false (by omega)
    have hd2 : decide ((j : Int) + 62 ≤ 61) = false := decide_eq_false (by omega)
    have he : (j : Int) + 62 - 61 - 1 = (j : Int) := by omega
    clear hf h hi1 hi2 hs61 x0 x1
    go_enter Tryz.func76, Tryz.ntmps76
    go_wp2_with fail
    refine (atF_yes B b _ v _ fs.length _ j ⟨n.toArray⟩ ⟨val.toArray⟩ _ HR.out hj2 (by omega) HX0.out HX1.out).mono ?_
    rintro e w1 ⟨rfl, hb1⟩
    have hA1 := hA.keep hb1
    have HB := hid' (below_two hb0 hb1)
    have r0 := hA1.cell 0 _ rfl
    have r1 := hA1.cell 1 _ rfl
    have q0 := hA1.free 0
    have q1 := hA1.free 1
    have HA := hid' hA1
    clear hA hb0 hb1 hA1
    go_wp2
    have hA2 := (HA.out.set 0 (.string ⟨n.toArray⟩)).set 1 (.string ⟨val.toArray⟩)
    have e0 := hA2.cell 0 (.string ⟨n.toArray⟩) rfl
    have e1 := hA2.cell 1 (.string ⟨val.toArray⟩) rfl
    clear r0 r1 q0 q1 HA hA2
    refine bodyPost_ret (v := .tuple #[.agg #[.string ⟨n.toArray⟩, .string ⟨val.toArray⟩], .bool true]) (by simp [results, Tryz.results76, go_sem, e0, e1]) rfl ⟨rfl, ?_⟩
    exact (HB.out.setCell (p := ⟨w.heap.size, 0, none⟩) (Nat.le_refl _) _).setCell (p := ⟨w.heap.size, 1, none⟩) (Nat.le_refl _) _

set_option maxHeartbeats 1000000 in
set_option maxRecDepth 20000 in
theorem cat_none (B b : Nat) (v : Value) (M : Nat) (fs : List (List UInt8 × List UInt8)) (i : Int) (w : World) (h : CT w B b v M fs) (hs : Tb.size fs ≤ 1048576) (hf : Tb.at? fs i = none) (hmx : i ≤ 9223372036854775807) (hmn : -9223372036854775808 ≤ i) :
    Calls Tryz.prog 76 #[.pointer (some ⟨b, 0, none⟩), .int .i64 i] w fun e w' => e = .returned (.tuple #[.agg #[.string ⟨#[]⟩, .string ⟨#[]⟩], .bool false]) ∧ Below w.heap.size w w' := by
  have hi : i < 1 ∨ (1 ≤ i ∧ ((61 + fs.length : Nat) : Int) < i) := by
    by_cases h1 : i < 1
    · exact .inl h1
    · by_cases h2 : ((61 + fs.length : Nat) : Int) < i
      · exact .inr ⟨by omega, h2⟩
      · obtain ⟨f, e, _⟩ := Tb.at_some fs i (by omega) (by omega)
        rw [hf] at e; cases e
  have hfl : fs.length ≤ 1048576 := by have := Tb.size_len fs; omega
  have hb0 : Below w.heap.size w (w.alloc (.cells #[.string ⟨#[]⟩, .string ⟨#[]⟩] 54)) := (Below.refl _ _).alloc (Nat.le_refl _) _
  have hA : Ar (w.alloc (.cells #[.string ⟨#[]⟩, .string ⟨#[]⟩] 54)) w.heap.size 54 #[.string ⟨#[]⟩, .string ⟨#[]⟩] := heap_alloc_last w _
  rcases hi with hi | ⟨hi1, hi⟩
  · have hd1 : decide (i < 1) = true := decide_eq_true hi
    have e0 := hA.cell 0 _ rfl
    have e1 := hA.cell 1 _ rfl
    clear h hf hi
    go_enter Tryz.func76, Tryz.ntmps76
    go_wp2
    exact bodyPost_ret (v := .tuple #[.agg #[.string ⟨#[]⟩, .string ⟨#[]⟩], .bool false]) (by simp [results, Tryz.results76, go_sem, e0, e1]) rfl ⟨rfl, hb0⟩
  · obtain ⟨j, hj⟩ : ∃ j : Nat, i = (j : Int) + 62 := ⟨(i - 62).toNat, by omega⟩
    subst hj
    have hj2 : fs.length ≤ j := by omega
    have HR := hid' (h.keep hb0).ring
    have hd1 : decide ((j : Int) + 62 < 1) = false := decide_eq_false (by omega)
    have hd2 : decide ((j : Int) + 62 ≤ 61) = false := decide_eq_false (by omega)
    have he : (j : Int) + 62 - 61 - 1 = (j : Int) := by omega
    clear hf h hi1 hi
    go_enter Tryz.func76, Tryz.ntmps76
    go_wp2_with fail
    refine (atF_no B b _ v _ fs.length _ (j : Int) _ HR.out (.inr (by omega))).mono ?_
    rintro e w1 ⟨rfl, hb1⟩
    have hA1 := hA.keep hb1
    have HB := hid' (below_two hb0 hb1)
    have r0 := hA1.cell 0 _ rfl
    have r1 := hA1.cell 1 _ rfl
    have q0 := hA1.free 0
    have q1 := hA1.free 1
    have HA := hid' hA1
    clear hA hb0 hb1 hA1
    go_wp2
    have hA2 := (HA.out.set 0 (.string ⟨#[]⟩)).set 1 (.string ⟨#[]⟩)
    have e0 := hA2.cell 0 (.string ⟨#[]⟩) rfl
    have e1 := hA2.cell 1 (.string ⟨#[]⟩) rfl
    clear r0 r1 q0 q1 HA hA2
    refine bodyPost_ret (v := .tuple #[.agg #[.string ⟨#[]⟩, .string ⟨#[]⟩], .bool false]) (by simp [results, Tryz.results76, go_sem, e0, e1]) rfl ⟨rfl, ?_⟩
    exact (HB.out.setCell (p := ⟨w.heap.size, 0, none⟩) (Nat.le_refl _) _).setCell (p := ⟨w.heap.size, 1, none⟩) (Nat.le_refl _) _

end Go.Proofs.YtmkkhfkfjmfdcaaGreat

namespace Go.Proofs.YtmkkhfkfjmfdcaaGreat
open Go.RowKit

theorem noStand : Tryz.prog.stoodInHeld 54 = false := by kernel_rfl
theorem noGuard : Tryz.prog.eqGuardType Tryz.prog.depth 54 = false := by kernel_rfl
theorem fieldsOf_field : Tryz.prog.underlying 54 = some (.struct (Tryz.prog.fieldsOf 54)) := by kernel_rfl
set_option maxRecDepth 20000 in
theorem eq_field (n2 v2 n v : List UInt8) (w : World) : (binOp .eql 54 (.agg #[.string ⟨n2.toArray⟩, .string ⟨v2.toArray⟩]) (.agg #[.string ⟨n.toArray⟩, .string ⟨v.toArray⟩])).run Tryz.prog w = .ok (.bool (n2 == n && v2 == v)) w := by
  rw [run_eql_struct, show (10000 : Nat) = 9999 + 1 by rfl, run_equalIn_agg w 9999 54 _ _ fieldsOf_field noStand]
  simp only [Program.fieldsOf, Tryz.underlying54]
  go_simp
  by_cases h1 : n2 = n <;> by_cases h2 : v2 = v <;> simp [h1, h2]

theorem eq_field_yes (n v : List UInt8) (w : World) : (binOp .eql 54 (.agg #[.string ⟨n.toArray⟩, .string ⟨v.toArray⟩]) (.agg #[.string ⟨n.toArray⟩, .string ⟨v.toArray⟩])).run Tryz.prog w = .ok (.bool true) w := by
  rw [eq_field]; simp
theorem eq_field_no (n2 v2 n v : List UInt8) (h : (n2, v2) ≠ (n, v)) (w : World) : (binOp .eql 54 (.agg #[.string ⟨n2.toArray⟩, .string ⟨v2.toArray⟩]) (.agg #[.string ⟨n.toArray⟩, .string ⟨v.toArray⟩])).run Tryz.prog w = .ok (.bool false) w := by
  rw [eq_field]
  have : (n2 == n && v2 == v) = false := by
    rw [Bool.eq_false_iff]; intro h2; simp at h2; exact h (by rw [h2.1, h2.2])
  rw [this]

end Go.Proofs.YtmkkhfkfjmfdcaaGreat

namespace Go.Proofs.YtmkkhfkfjmfdcaaGreat
open Go.RowKit

set_option maxHeartbeats 2000000 in
set_option maxRecDepth 20000 in
theorem cfind_any (B b : Nat) (v : Value) (M : Nat) (fs : List (List UInt8 × List UInt8)) (n val : List UInt8) (w : World) (h : CT w B b v M fs) (hs : Tb.size fs ≤ 1048576) (k : Nat) (wh : Bool) (hk : Tb.find fs (n, val) = (k, wh)) :
    Calls Tryz.prog 57 #[.pointer (some ⟨b, 0, none⟩), .agg #[.string ⟨n.toArray⟩, .string ⟨val.toArray⟩]] w fun e w' => e = .returned (.tuple #[.int .i64 (k : Int), .bool wh]) ∧ Below w.heap.size w w' := by
  have hfl : fs.length ≤ 1048576 := by have := Tb.size_len fs; omega
  obtain ⟨L, hL⟩ : ∃ L, 61 + fs.length = L := ⟨_, rfl⟩
  have hL2 : L ≤ 2000000 := by omega
  have HFD : Hid (Tb.findGo (n, val) ((Tb.all fs).drop 0) 0 0 = (k, wh)) := hid' hk
  have HAL : Hid ((Tb.all fs).length = L) := hid' (by rw [Tb.all_length, hL])
  have hb0 : Below w.heap.size w (w.alloc (.cells #[.string ⟨n.toArray⟩, .string ⟨val.toArray⟩] 54)) := (Below.refl _ _).alloc (Nat.le_refl _) _
  have hA : Ar (w.alloc (.cells #[.string ⟨n.toArray⟩, .string ⟨val.toArray⟩] 54)) w.heap.size 54 #[.string ⟨n.toArray⟩, .string ⟨val.toArray⟩] := heap_alloc_last w _
  have HB0 := hid' hb0
  have HA := hid' hA
  have HR := hid' (h.keep hb0)
  have HL := hid' hL
  clear h hL hk hb0 hA
  go_enter Tryz.func57, Tryz.ntmps57
  go_wp2
  obtain ⟨bx, hbx⟩ : ∃ bx, w.heap.size = bx := ⟨_, rfl⟩
  rw [hbx] at HA ⊢
  have HBX := hid' hbx
  clear hbx
  generalize w.alloc (.cells #[.string ⟨n.toArray⟩, .string ⟨val.toArray⟩] 54) = w0 at *
  go_loopw [6, 7] (fun s6 s7 wr => ∃ m i : Nat, s6 = .int .i64 (m : Int) ∧ s7 = .int .i64 ((i : Int) + 1) ∧ i ≤ L ∧ m ≤ i ∧ Hid (Below w0.heap.size w0 wr) ∧ Hid (Tb.findGo (n, val) ((Tb.all fs).drop i) i m = (k, wh))) (fun _ s7 _ => L + 1 - (intOf s7).toNat)
  case atStart => exact ⟨0, 0, rfl, rfl, Nat.zero_le _, Nat.le_refl _, hid' (Below.refl _ _), HFD⟩
  case round =>
    clear HFD
    obtain ⟨m, i, rfl, rfl, hiL, hmi, HB, HF⟩ := hrel
    have HRW := hid' (HR.out.keep HB.out)
    have HAW := hid' (HA.out.keep HB.out)
    have HLE : Hid (Below w.heap.size w wr) := hid' (below_two HB0.out HB.out)
    by_cases hlt : i < L
    · have hil : i < (Tb.all fs).length := by rw [HAL.out]; exact hlt
      obtain ⟨f, hf⟩ : ∃ f, (Tb.all fs)[i]? = some f := ⟨_, List.getElem?_eq_getElem hil⟩
      obtain ⟨n2, val2⟩ := f
      have HAT : Hid (Tb.at? fs ((i : Int) + 1) = some (n2, val2)) := hid' (by unfold Tb.at?; rw [if_pos (by omega), show ((i : Int) + 1 - 1).toNat = i by omega]; exact hf)
      have HF2 : Hid ((k, wh) = if (n2, val2) = (n, val) then (i + 1, true) else Tb.findGo (n, val) ((Tb.all fs).drop (i + 1)) (i + 1) (if n2 = n ∧ m = 0 then i + 1 else m)) := hid' (by
        rw [← HF.out, List.drop_eq_getElem_cons hil, Tb.findGo]
        have e : (Tb.all fs)[i] = (n2, val2) := by rw [List.getElem?_eq_getElem hil] at hf; exact Option.some.inj hf
        rw [e])
      have hng := noGuard
      clear hf HF
      go_wp2_with fail
      refine (cat_some B b v M fs _ (n2, val2) _ HRW.out hs HAT.out).mono ?_
      rintro e w1 ⟨rfl, hb1⟩
      have hb2 : Below w1.heap.size w1 (w1.alloc (.cells #[.string ⟨n2.toArray⟩, .string ⟨val2.toArray⟩] 54)) := (Below.refl _ _).alloc (Nat.le_refl _) _
      have hA2 := (HAW.out.keep hb1).keep hb2
      have x0 := hA2.cell 0 _ rfl
      have x1 := hA2.cell 1 _ rfl
      have HB2 : Hid (Below w0.heap.size w0 (w1.alloc (.cells #[.string ⟨n2.toArray⟩, .string ⟨val2.toArray⟩] 54))) := hid' (below_two (below_two HB.out hb1) hb2)
      clear hA2 hb1 hb2
      by_cases hw : (n2, val2) = (n, val)
      · obtain ⟨rfl, rfl⟩ : n2 = n ∧ val2 = val := by simpa using hw
        have heq := eq_field_yes n2 val2
        have HKW : Hid (k = i + 1 ∧ wh = true) := hid' (by have := HF2.out; rw [if_pos rfl] at this; simpa using this)
        clear hw
        go_wp2
        go_ret2
        exact ⟨by rw [HKW.out.1, HKW.out.2]; rfl, below_two HB0.out HB2.out⟩
      · have heq := eq_field_no n2 val2 n val hw
        have HF3 : Hid (Tb.findGo (n, val) ((Tb.all fs).drop (i + 1)) (i + 1) (if n2 = n ∧ m = 0 then i + 1 else m) = (k, wh)) := hid' (by have := HF2.out; rw [if_neg hw] at this; exact this.symm)
        clear hw
        by_cases hm : m = 0
        · subst hm
          by_cases hnn : n2 = n
          · subst hnn
            rw [if_pos ⟨rfl, rfl⟩] at HF3
            go_wp2
            go_roundw
            case rel => exact ⟨i + 1, i + 1, by go_num, by go_num, by omega, Nat.le_refl _, HB2, HF3⟩
            case measure => simp [intOf]; omega
          · rw [if_neg (fun h => hnn h.1)] at HF3
            have hn2 : (n2 == n) = false := beq_false_of_ne hnn
            go_wp2
            go_roundw
            case rel => exact ⟨0, i + 1, by go_num, by go_num, by omega, by omega, HB2, HF3⟩
            case measure => simp [intOf]; omega
        · rw [if_neg (fun h => hm h.2)] at HF3
          have hm2 : ((m : Int) == 0) = false := beq_false_of_ne (by omega)
          have hm3 : (m == 0) = false := beq_false_of_ne hm
          go_wp2
          go_roundw
          case rel => exact ⟨m, i + 1, by go_num, by go_num, by omega, by omega, HB2, HF3⟩
          case measure => simp [intOf]; omega
    · have hiL2 : i = L := by omega
      have HAT : Hid (Tb.at? fs ((i : Int) + 1) = none) := hid' (Tb.at_none fs _ (.inr (by have := HL.out; omega)))
      have HKW : Hid (k = m ∧ wh = false) := hid' (by
        have := HF.out
        rw [List.drop_of_length_le (by rw [HAL.out]; omega), Tb.findGo] at this
        injection this with a c
        exact ⟨a.symm, c.symm⟩)
      have hib : i ≤ 2000000 := by omega
      clear hiL2
      go_wp2_with fail
      refine (cat_none B b v M fs _ _ HRW.out hs HAT.out (by omega) (by omega)).mono ?_
      rintro e w1 ⟨rfl, hb1⟩
      have HB2 : Hid (Below w.heap.size w (w1.alloc (.cells #[.string ⟨#[]⟩, .string ⟨#[]⟩] 54))) := hid' (below_two (below_two HLE.out hb1) ((Below.refl _ _).alloc (Nat.le_refl _) _))
      clear hb1
      go_wp2
      go_ret2
      exact ⟨by rw [HKW.out.1, HKW.out.2]; rfl, HB2.out⟩

end Go.Proofs.YtmkkhfkfjmfdcaaGreat

namespace Go.Proofs.YtmkkhfkfjmfdcaaGreat
open Go.RowKit

theorem cells_rev_snoc (a : List (List UInt8 × List UInt8)) (n v : List UInt8) : Tb.cells (a ++ [(n, v)]).reverse = .string ⟨n.toArray⟩ :: .string ⟨v.toArray⟩ :: Tb.cells a.reverse := by
  rw [List.reverse_append]; rfl

set_option maxHeartbeats 2000000 in
theorem cshrink_any (B b : Nat) (v : Value) (M : Nat) (fs : List (List UInt8 × List UInt8)) (m : Nat) (w : World) (h : CT w B b v M fs) (hs : Tb.size fs ≤ 1048576) :
    Calls Tryz.prog 52 #[.pointer (some ⟨b, 0, none⟩), .int .i64 (m : Int)] w fun e w' => e = .returned (.tuple #[]) ∧ ∃ v', CT w' B b v' M (Tb.shr m fs) ∧ (∀ k, v'.ownBlock = some k → v.ownBlock = some k) ∧ Two b v.ownBlock w w' := by
  have HS0 : Hid (∃ v' fs', CT w B b v' M fs' ∧ (∀ k, v'.ownBlock = some k → v.ownBlock = some k) ∧ Tb.shr m fs' = Tb.shr m fs ∧ Tb.size fs' ≤ 1048576 ∧ Two b v.ownBlock w w) := hid' ⟨v, fs, h, fun _ h => h, rfl, hs, Two.refl _ _ _⟩
  clear h
  go_enter Tryz.func52, Tryz.ntmps52
  go_wp2
  go_loopw [] (fun wr => Hid (∃ v' fs', CT wr B b v' M fs' ∧ (∀ k, v'.ownBlock = some k → v.ownBlock = some k) ∧ Tb.shr m fs' = Tb.shr m fs ∧ Tb.size fs' ≤ 1048576 ∧ Two b v.ownBlock w wr)) (fun wr => match wr.cell? ⟨b, 1, none⟩ with | some (.int _ n) => n.toNat | _ => 0)
  case atStart => exact HS0
  case round =>
    clear HS0
    obtain ⟨v', fs', hC, hv, hsh, hsz, hT⟩ := Hid.out hrel
    have HSH := hid' hsh
    have HV := hid' hv
    have HT := hid' hT
    have HC := hid' hC
    have c1 := hC.c1
    clear hsh hv hT hrel hC
    by_cases hlt : m < Tb.size fs'
    · have hlt2 : decide ((m : Int) < (Tb.size fs' : Int)) = true := decide_eq_true (by omega)
      have hlt3 : decide (m < Tb.size fs') = true := decide_eq_true hlt
      obtain ⟨a, f, rfl⟩ : ∃ a f, fs' = a ++ [f] := by
        rcases List.eq_nil_or_concat fs' with h0 | ⟨a, f, h0⟩
        · subst h0; simp [Tb.size] at hlt
        · exact ⟨a, f, by simpa using h0⟩
      obtain ⟨n, val⟩ := f
      have HP := hid' (HC.out.ring)
      rw [cells_rev_snoc, List.length_append] at HP
      obtain ⟨k, hk⟩ : ∃ k, Tb.wt (n, val) = k := ⟨_, rfl⟩
      obtain ⟨S, hS⟩ : ∃ S, Tb.size (a ++ [(n, val)]) = S := ⟨_, rfl⟩
      obtain ⟨S', hS'⟩ : ∃ S', Tb.size a = S' := ⟨_, rfl⟩
      have hsum : S = S' + k := by rw [← hS, ← hS', ← hk, Tb.size_append]; simp [Tb.size]
      have HK := hid' hk
      have HS := hid' hS
      have HS' := hid' hS'
      have HLT := hid' hlt
      rw [hS] at c1 hlt2 hlt3 HP hsz
      have HSUM := hid' hsum
      have hkb : k ≤ 1048576 := by omega
      have HMS : Hid (wr.cell? ⟨b, 1, none⟩ = some (.int .i64 (S : Int))) := hid' c1
      clear hk hS hS' hlt hsum
      go_wp2_with fail
      refine (popF_some B b _ v' _ a.length ⟨n.toArray⟩ ⟨val.toArray⟩ _ _ HP.out).mono ?_
      rintro e w1 ⟨rfl, v1, hR1, hv1, hT1⟩
      clear c1 HP
      go_wp2
      have hb2 : Below w1.heap.size w1 (w1.alloc (.cells #[.string ⟨n.toArray⟩, .string ⟨val.toArray⟩] 54)) := (Below.refl _ _).alloc (Nat.le_refl _) _
      have hY : Ar (w1.alloc (.cells #[.string ⟨n.toArray⟩, .string ⟨val.toArray⟩] 54)) w1.heap.size 54 #[.string ⟨n.toArray⟩, .string ⟨val.toArray⟩] := heap_alloc_last w1 _
      have hR2 := hR1.keep hb2
      obtain ⟨yb, hyb⟩ : ∃ yb, w1.heap.size = yb := ⟨_, rfl⟩
      have hyne : yb ≠ b := by have := hR1.obj.lt; omega
      rw [hyb] at hY ⊢
      generalize (w1.alloc (.cells #[.string ⟨n.toArray⟩, .string ⟨val.toArray⟩] 54)) = w2 at *
      have HR1 := hid' hR1
      have HT2 : Hid (Two b v.ownBlock w w2) := hid' ((HT.out.trans hT1 (fun k hk => .inl (HV.out k hk))).and (Two.of_below hb2))
      have HR2 := hid' hR2
      have HV1 : Hid (∀ k, v1.ownBlock = some k → v.ownBlock = some k) := hid' fun k hk => HV.out k (hv1 k hk)
      have HY := hid' hY
      have sOf : ∀ W W1 : World, (W.cell? ⟨b, 1, none⟩ = some (.int .i64 (S : Int)) ∧ W.frozen? ⟨b, 1, none⟩ = false ∧ W.cell? ⟨yb, 0, none⟩ = some (.string ⟨n.toArray⟩) ∧ W.cell? ⟨yb, 1, none⟩ = some (.string ⟨val.toArray⟩)) → Below W.heap.size W W1 → W1.cell? ⟨b, 1, none⟩ = some (.int .i64 (S : Int)) ∧ W1.frozen? ⟨b, 1, none⟩ = false ∧ W1.cell? ⟨yb, 0, none⟩ = some (.string ⟨n.toArray⟩) ∧ W1.cell? ⟨yb, 1, none⟩ = some (.string ⟨val.toArray⟩) := fun W W1 ⟨a, d, b', c⟩ hb => ⟨(hb.cell (World.block_lt_of_cell? W _ a)).trans a, by rw [World.frozen?_of_block (hb.block b (World.block_lt_of_cell? W _ a))]; exact d, (hb.cell (World.block_lt_of_cell? W _ b')).trans b', (hb.cell (World.block_lt_of_cell? W _ c)).trans c⟩
      have c1 : w2.cell? ⟨b, 1, none⟩ = some (.int .i64 (S : Int)) := hR2.obj.cell 1 _ rfl
      have f1 : w2.frozen? ⟨b, 1, none⟩ = false := hR2.obj.free 1
      have y0 := hY.cell 0 _ rfl
      have y1 := hY.cell 1 _ rfl
      have hS2 : w2.drew.cell? ⟨b, 1, none⟩ = some (.int .i64 (S : Int)) ∧ w2.drew.frozen? ⟨b, 1, none⟩ = false ∧ w2.drew.cell? ⟨yb, 0, none⟩ = some (.string ⟨n.toArray⟩) ∧ w2.drew.cell? ⟨yb, 1, none⟩ = some (.string ⟨val.toArray⟩) := ⟨c1, f1, y0, y1⟩
      clear hR1 hv1 hT1 hb2 hY hR2
      go_region_with (go_at_call 60; refine (cweight_at n val k HK.out (by omega) _).mono ?_; rintro e w3 ⟨rfl, hb3⟩; obtain ⟨d1, d2, d3, d4⟩ := sOf _ _ hS2 hb3)
      all_goals
        have hw : IntKind.i64.wrap ((S : Int) - (k : Int)) = (S' : Int) := by have := HSUM.out; rw [IntKind.wrap_i64]; omega
        rw [hw]
        clear hw
        have hR3 := HR2.out.keep (below_two ((Below.refl _ _).drew) hb3)
        have HC3 : Hid (CT (w3.setCell ⟨b, 1, none⟩ (.int .i64 (S' : Int))) B b v1 M a) := hid' ⟨by have := hR3.tail 0 (.int .i64 (S' : Int)); rw [HS'.out]; exact this⟩
        have HT3 : Hid (Two b v.ownBlock w (w3.setCell ⟨b, 1, none⟩ (.int .i64 (S' : Int)))) := hid' ((HT2.out.and (Two.of_below (below_two ((Below.refl _ _).drew) hb3))).and (Two.of_set _ _ _ _ _))
        have HE : Hid ((w3.setCell ⟨b, 1, none⟩ (.int .i64 (S' : Int))).cell? ⟨b, 1, none⟩ = some (.int .i64 (S' : Int))) := hid' (by have := HC3.out.c1; rw [HS'.out] at this; exact this)
        generalize w3.setCell ⟨b, 1, none⟩ (.int .i64 (S' : Int)) = w4 at *
        clear c1 f1 y0 y1 hS2 d1 d2 d3 d4 hR3 hb3 sOf
        go_wp2
        go_roundw
        case rel => exact hid' ⟨v1, a, HC3.out, HV1.out, by rw [← HSH.out, Tb.shr_snoc a (n, val) m HLT.out], by have := HSUM.out; have := HS'.out; omega, HT3.out⟩
        case measure =>
          rw [HMS.out, HE.out]
          have := HSUM.out
          have := HK.out
          have := Tb.wt_pos (n, val)
          simp
          omega
    · have hlt2 : decide ((m : Int) < (Tb.size fs' : Int)) = false := decide_eq_false (by omega)
      have hlt3 : decide (m < Tb.size fs') = false := decide_eq_false hlt
      have HE : Hid (Tb.shr m fs = fs') := hid' (by rw [← HSH.out, Tb.shr_all fs' m (by omega)])
      clear hlt
      go_wp2
      go_end0
      exact ⟨rfl, v', by rw [HE.out]; exact HC.out, HV.out, HT.out⟩

end Go.Proofs.YtmkkhfkfjmfdcaaGreat
