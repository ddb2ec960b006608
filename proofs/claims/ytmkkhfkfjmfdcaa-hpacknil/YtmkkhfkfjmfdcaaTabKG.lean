/-
  The code's table: Find, by its contract.
-/
import Derived.Test.YtmkkhfkfjmfdcaaTabKF
import Derived.Test.YtmkkhfkfjmfdcaaTabE
namespace Go.Proofs.Ytmkkhfkfjmfdcaa
open Go.RowKit

set_option maxHeartbeats 2000000 in
set_option maxRecDepth 20000 in
theorem cfind_any (B b : Nat) (v : Value) (M : Nat) (fs : List (List UInt8 × List UInt8)) (n val : List UInt8) (w : World) (h : CT w B b v M fs) (hs : Tb.size fs ≤ 1048576) (k : Nat) (wh : Bool) (hk : Tb.find fs (n, val) = (k, wh)) :
    Calls Try.prog 57 #[.pointer (some ⟨b, 0, none⟩), .agg #[.string ⟨n.toArray⟩, .string ⟨val.toArray⟩]] w fun e w' => e = .returned (.tuple #[.int .i64 (k : Int), .bool wh]) ∧ Below w.heap.size w w' := by
  have hfl : fs.length ≤ 1048576 := by have := Tb.size_len fs; omega
  obtain ⟨L, hL⟩ : ∃ L, 61 + fs.length = L := ⟨_, rfl⟩
  have hL2 : L ≤ 2000000 := by omega
  have HFD : Hid (Tb.findGo (n, val) ((Tb.all fs).drop 0) 0 0 = (k, wh)) := hid' hk
  have HAL : Hid ((Tb.all fs).length = L) := hid' (by rw [Tb.all_length, hL])
  have hb0 : Below w.heap.size w (w.alloc (.cells #[.string ⟨n.toArray⟩, .string ⟨val.toArray⟩] 55)) := (Below.refl _ _).alloc (Nat.le_refl _) _
  have hA : Ar (w.alloc (.cells #[.string ⟨n.toArray⟩, .string ⟨val.toArray⟩] 55)) w.heap.size 55 #[.string ⟨n.toArray⟩, .string ⟨val.toArray⟩] := heap_alloc_last w _
  have HB0 := hid' hb0
  have HA := hid' hA
  have HR := hid' (h.keep hb0)
  have HL := hid' hL
  clear h hL hk hb0 hA
  go_enter Try.func57, Try.ntmps57
  go_wp2
  obtain ⟨bx, hbx⟩ : ∃ bx, w.heap.size = bx := ⟨_, rfl⟩
  rw [hbx] at HA ⊢
  have HBX := hid' hbx
  clear hbx
  generalize w.alloc (.cells #[.string ⟨n.toArray⟩, .string ⟨val.toArray⟩] 55) = w0 at *
  go_loopw [6, 7] (fun s6 s7 wr => ∃ m i : Nat, s6 = .int .i64 (m : Int) ∧ s7 = .int .i64 ((i : Int) + 1) ∧ i ≤ L ∧ m ≤ i ∧ Hid (Below w0.heap.size w0 wr) ∧ Hid (Tb.findGo (n, val) ((Tb.all fs).drop i) i m = (k, wh))) (fun _ s7 _ => L + 1 - (intOf s7).toNat)
  case atStart => exact ⟨0, 0, rfl, rfl, Nat.zero_le _, Nat.le_refl _, hid' (Below.refl _ _), HFD⟩
  case round =>
    clear HFD
    obtain ⟨m, i, rfl, rfl, hiL, hmi, HB, HF⟩ := hrel
    have HRW := hid' (HR.out.keep HB.out)
    have HAW := hid' (HA.out.keep HB.out)
    have HLE : Hid (Below w.heap.size w wr) := hid' (below_two HB0.out HB.out)
    by_cases hlt : i < L
    · have hil : i < (Tb.all fs).length := by rw [HAL.out]; exact hlt
      obtain ⟨f, hf⟩ : ∃ f, (Tb.all fs)[i]? = some f := ⟨_, List.getElem?_eq_getElem hil⟩
      obtain ⟨n2, val2⟩ := f
      have HAT : Hid (Tb.at? fs ((i : Int) + 1) = some (n2, val2)) := hid' (by unfold Tb.at?; rw [if_pos (by omega), show ((i : Int) + 1 - 1).toNat = i by omega]; exact hf)
      have HF2 : Hid ((k, wh) = if (n2, val2) = (n, val) then (i + 1, true) else Tb.findGo (n, val) ((Tb.all fs).drop (i + 1)) (i + 1) (if n2 = n ∧ m = 0 then i + 1 else m)) := hid' (by
        rw [← HF.out, List.drop_eq_getElem_cons hil, Tb.findGo]
        have e : (Tb.all fs)[i] = (n2, val2) := by rw [List.getElem?_eq_getElem hil] at hf; exact Option.some.inj hf
        rw [e])
      have hng := noGuard
      clear hf HF
      go_wp2_with fail
      refine (cat_some B b v M fs _ (n2, val2) _ HRW.out hs HAT.out).mono ?_
      rintro e w1 ⟨rfl, hb1⟩
      have hb2 : Below w1.heap.size w1 (w1.alloc (.cells #[.string ⟨n2.toArray⟩, .string ⟨val2.toArray⟩] 55)) := (Below.refl _ _).alloc (Nat.le_refl _) _
      have hA2 := (HAW.out.keep hb1).keep hb2
      have x0 := hA2.cell 0 _ rfl
      have x1 := hA2.cell 1 _ rfl
      have HB2 : Hid (Below w0.heap.size w0 (w1.alloc (.cells #[.string ⟨n2.toArray⟩, .string ⟨val2.toArray⟩] 55))) := hid' (below_two (below_two HB.out hb1) hb2)
      clear hA2 hb1 hb2
      by_cases hw : (n2, val2) = (n, val)
      · obtain ⟨rfl, rfl⟩ : n2 = n ∧ val2 = val := by simpa using hw
        have heq := eq_field_yes n2 val2
        have HKW : Hid (k = i + 1 ∧ wh = true) := hid' (by have := HF2.out; rw [if_pos rfl] at this; simpa using this)
        clear hw
        go_wp2
        go_ret2
        exact ⟨by rw [HKW.out.1, HKW.out.2]; rfl, below_two HB0.out HB2.out⟩
      · have heq := eq_field_no n2 val2 n val hw
        have HF3 : Hid (Tb.findGo (n, val) ((Tb.all fs).drop (i + 1)) (i + 1) (if n2 = n ∧ m = 0 then i + 1 else m) = (k, wh)) := hid' (by have := HF2.out; rw [if_neg hw] at this; exact this.symm)
        clear hw
        by_cases hm : m = 0
        · subst hm
          by_cases hnn : n2 = n
          · subst hnn
            rw [if_pos ⟨rfl, rfl⟩] at HF3
            go_wp2
            go_roundw
            case rel => exact ⟨i + 1, i + 1, by go_num, by go_num, by omega, Nat.le_refl _, HB2, HF3⟩
            case measure => simp [intOf]; omega
          · rw [if_neg (fun h => hnn h.1)] at HF3
            have hn2 : (n2 == n) = false := beq_false_of_ne hnn
            go_wp2
            go_roundw
            case rel => exact ⟨0, i + 1, by go_num, by go_num, by omega, by omega, HB2, HF3⟩
            case measure => simp [intOf]; omega
        · rw [if_neg (fun h => hm h.2)] at HF3
          have hm2 : ((m : Int) == 0) = false := beq_false_of_ne (by omega)
          have hm3 : (m == 0) = false := beq_false_of_ne hm
          go_wp2
          go_roundw
          case rel => exact ⟨m, i + 1, by go_num, by go_num, by omega, by omega, HB2, HF3⟩
          case measure => simp [intOf]; omega
    · have hiL2 : i = L := by omega
      have HAT : Hid (Tb.at? fs ((i : Int) + 1) = none) := hid' (Tb.at_none fs _ (.inr (by have := HL.out; omega)))
      have HKW : Hid (k = m ∧ wh = false) := hid' (by
        have := HF.out
        rw [List.drop_of_length_le (by rw [HAL.out]; omega), Tb.findGo] at this
        injection this with a c
        exact ⟨a.symm, c.symm⟩)
      have hib : i ≤ 2000000 := by omega
      clear hiL2
      go_wp2_with fail
      refine (cat_none B b v M fs _ _ HRW.out hs HAT.out (by omega) (by omega)).mono ?_
      rintro e w1 ⟨rfl, hb1⟩
      have HB2 : Hid (Below w.heap.size w (w1.alloc (.cells #[.string ⟨#[]⟩, .string ⟨#[]⟩] 55))) := hid' (below_two (below_two HLE.out hb1) ((Below.refl _ _).alloc (Nat.le_refl _) _))
      clear hb1
      go_wp2
      go_ret2
      exact ⟨by rw [HKW.out.1, HKW.out.2]; rfl, HB2.out⟩

end Go.Proofs.Ytmkkhfkfjmfdcaa
