/-
  The document's table: Find, by its contract.
-/
import Derived.Test.YtjpgnifogacpcaaTabC
import Derived.Test.YtjpgnifogacpcaaTabE
import Derived.Deep.QuietTactic
import Derived.BigQuiet
namespace Go.Proofs.Ytjpgnifogacpcaa
open Go.RowKit

theorem below_drewN5 (w : World) (n : Nat) : Below w.heap.size w (w.drewN n) := ⟨rfl, rfl, rfl, Nat.le_refl _, fun _ _ => rfl⟩

set_option maxHeartbeats 1000000 in
theorem rfind_any (B b : Nat) (v : Value) (M : Int) (fs : List (List UInt8 × List UInt8)) (n val : List UInt8) (w : World) (h : RT w B b v M fs) (hs : Tb.size fs ≤ 1048576) (k : Nat) (wh : Bool) (hk : Tb.find fs (n, val) = (k, wh)) :
    Calls Try.prog 16 #[.pointer (some ⟨b, 0, none⟩), .agg #[.string ⟨n.toArray⟩, .string ⟨val.toArray⟩]] w fun e w' => e = .returned (.tuple #[.int .i64 (k : Int), .bool wh]) ∧ Below w.heap.size w w' := by
  have H := hid' h
  have hfl : fs.length ≤ 1048576 := by have := Tb.size_len fs; omega
  obtain ⟨L, hL⟩ : ∃ L, 61 + fs.length = L := ⟨_, rfl⟩
  have HL := hid' hL
  have hL0 : 0 < L := by omega
  have hL2 : L ≤ 2000000 := by omega
  have HFD : Hid (Tb.findGo (n, val) ((Tb.all fs).drop 0) 0 0 = (k, wh)) := hid' hk
  have HAL : Hid ((Tb.all fs).length = L) := hid' (by rw [Tb.all_length, hL])
  clear h hL hk
  go_enter Try.func16, Try.ntmps16
  go_wp2_with fail
  refine (rall_any B b v M fs _ (H.out.keep ((Below.refl _ _).alloc (Nat.le_refl _) _)) hs).mono ?_
  rintro e w1 ⟨v1, rfl, hown, hb1⟩
  rw [HL.out] at hown
  obtain ⟨g, cap, rfl⟩ := row_some hown hL0
  have hA : Ar w1 w.heap.size 32 #[.string ⟨n.toArray⟩, .string ⟨val.toArray⟩] := Ar.keep (heap_alloc_last w _) hb1
  have x0 : w1.cell? ⟨w.heap.size, 0, none⟩ = some (.string ⟨n.toArray⟩) := hA.cell 0 _ rfl
  have x1 : w1.cell? ⟨w.heap.size, 1, none⟩ = some (.string ⟨val.toArray⟩) := hA.cell 1 _ rfl
  have HOW := hid' hown
  have HB := hid' (below_two ((Below.refl _ w).alloc (Nat.le_refl _) _) hb1)
  clear hown hA hb1
  go_wp2
  go_loopw [7, 8] (fun s7 s8 wr => ∃ m i nq : Nat, s7 = .int .i64 (m : Int) ∧ s8 = .int .i64 (i : Int) ∧ i ≤ L ∧ m ≤ i ∧ wr = w1.drewN nq ∧ Hid (Tb.findGo (n, val) ((Tb.all fs).drop i) i m = (k, wh))) (fun _ s8 _ => L - (intOf s8).toNat)
  case atStart => exact ⟨0, 0, 0, rfl, rfl, Nat.zero_le _, Nat.le_refl _, rfl, HFD⟩
  case round =>
    clear HFD
    obtain ⟨m, i, nq0, rfl, rfl, hiL, hmi, rfl, HF⟩ := hrel
    by_cases hlt : i < L
    · have hlt2 : decide ((i : Int) < (L : Int)) = true := decide_eq_true (by omega)
      have hil : i < (Tb.all fs).length := by rw [HAL.out]; exact hlt
      obtain ⟨f, hf⟩ : ∃ f, (Tb.all fs)[i]? = some f := ⟨_, List.getElem?_eq_getElem hil⟩
      obtain ⟨n2, val2⟩ := f
      obtain ⟨e0, e1⟩ := Tb.cells_at _ _ _ hf
      have c0 := (HOW.out.cellAt (i * 2) (by omega)).trans e0
      have c1 := (HOW.out.cellAt (i * 2 + 1) (by omega)).trans e1
      have hlt3 : (i : Int) < (L : Int) := by omega
      have HF2 : Hid ((k, wh) = if (n2, val2) = (n, val) then (i + 1, true) else Tb.findGo (n, val) ((Tb.all fs).drop (i + 1)) (i + 1) (if n2 = n ∧ m = 0 then i + 1 else m)) := hid' (by
        rw [← HF.out, List.drop_eq_getElem_cons hil, Tb.findGo]
        have e : (Tb.all fs)[i] = (n2, val2) := by rw [List.getElem?_eq_getElem hil] at hf; exact Option.some.inj hf
        rw [e])
      have hng := noGuard
      have hlN : decide (i < L) = true := decide_eq_true hlt
      clear e0 e1 hf HF
      by_cases hw : (n2, val2) = (n, val)
      · obtain ⟨rfl, rfl⟩ : n2 = n ∧ val2 = val := by simpa using hw
        have heq := eq_field_yes n2 val2
        have HKW : Hid (k = i + 1 ∧ wh = true) := hid' (by have := HF2.out; rw [if_pos rfl] at this; simpa using this)
        clear hw
        go_wp2
        go_quiet ((fail))
        go_wp2
        go_ret2
        exact ⟨by rw [HKW.out.1, HKW.out.2]; rfl, below_two HB.out (below_drewN5 _ _)⟩
      · have heq := eq_field_no n2 val2 n val hw
        have HF3 : Hid (Tb.findGo (n, val) ((Tb.all fs).drop (i + 1)) (i + 1) (if n2 = n ∧ m = 0 then i + 1 else m) = (k, wh)) := hid' (by have := HF2.out; rw [if_neg hw] at this; exact this.symm)
        clear hw
        by_cases hnn : n2 = n
        · subst hnn
          by_cases hm : m = 0
          · subst hm
            rw [if_pos ⟨rfl, rfl⟩] at HF3
            go_wp2
            go_quiet ((fail))
            go_wp2
            go_quiet ((fail))
            go_wp2
            go_roundw
            case rel => exact ⟨i + 1, i + 1, _, by go_num, by go_num, by omega, Nat.le_refl _, by first | rfl | trivial, HF3⟩
            case measure => simp [intOf]; omega
          · rw [if_neg (fun h => hm h.2)] at HF3
            have hm2 : ((m : Int) == 0) = false := beq_false_of_ne (by omega)
            go_wp2
            go_quiet ((fail))
            go_wp2
            go_quiet ((fail))
            go_wp2
            go_roundw
            case rel => exact ⟨m, i + 1, _, by go_num, by go_num, by omega, by omega, by first | rfl | trivial, HF3⟩
            case measure => simp [intOf]; omega
        · rw [if_neg (fun h => hnn h.1)] at HF3
          have hn2 : (n2 == n) = false := beq_false_of_ne hnn
          go_wp2
          go_quiet ((fail))
          go_wp2
          go_quiet ((fail))
          go_wp2
          go_roundw
          case rel => exact ⟨m, i + 1, _, by go_num, by go_num, by omega, by omega, by first | rfl | trivial, HF3⟩
          case measure => simp [intOf]; omega
    · have hlt2 : decide ((i : Int) < (L : Int)) = false := decide_eq_false (by omega)
      have hlN : decide (i < L) = false := decide_eq_false hlt
      have HKW : Hid (k = m ∧ wh = false) := hid' (by
        have := HF.out
        rw [List.drop_of_length_le (by rw [HAL.out]; omega), Tb.findGo] at this
        injection this with a c
        exact ⟨a.symm, c.symm⟩)
      go_wp2
      go_ret2
      exact ⟨by rw [HKW.out.1, HKW.out.2]; rfl, below_two HB.out (below_drewN5 _ _)⟩

end Go.Proofs.Ytjpgnifogacpcaa
