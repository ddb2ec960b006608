/-
  ostlerref07.depends, by its contract.
-/
import Derived.Test.YthgdokcdpmoeeaaFrDa
namespace Go.Proofs.Ythgdokcdpmoeeaa
open Go.RowKit

set_option maxHeartbeats 4000000 in
set_option maxRecDepth 20000 in
theorem rdepends_any (l : List UInt8) (b : Nat) (v : Value) (w : World) (h : 5 ≤ l.length) (ha : Ar w b 27 (ptC Fm.none' v)) : Calls Try.prog 31 #[.string ⟨l.toArray⟩, .pointer (some ⟨b, 0, none⟩)] w fun e w' => e = .returned (.tuple #[]) ∧ Ar w' b 27 (ptC (Fm.prio l []) v) ∧ Upd b w w' := by
  have hcut := cut_ends l 4
  obtain ⟨y, hy⟩ : ∃ y, l.take 4 = y := ⟨_, rfl⟩
  have hyl : y.length = 4 := by rw [← hy, List.length_take]; omega
  rw [hy] at hcut
  obtain ⟨n, hn⟩ : ∃ n, Fm.num y % 2147483648 = n := ⟨_, rfl⟩
  have HN := hid' hn
  have HYL := hid' hyl
  have hl4 : (4 : Int) ≤ (l.length : Int) := by omega
  have hi4 : (4 : Int) < (l.length : Int) := by omega
  have hi0 : (0 : Int) < (l.length : Int) := by omega
  have hb4 : 4 < (⟨l.toArray⟩ : ByteArray).size := by show 4 < l.length; omega
  have hb0 : 0 < (⟨l.toArray⟩ : ByteArray).size := by show 0 < l.length; omega
  obtain ⟨c, hc⟩ : ∃ c, (⟨l.toArray⟩ : ByteArray)[4] = c := ⟨_, rfl⟩
  obtain ⟨d, hd⟩ : ∃ c, (⟨l.toArray⟩ : ByteArray)[0] = c := ⟨_, rfl⟩
  have c256 := UInt8.toNat_lt c
  have d256 := UInt8.toNat_lt d
  obtain ⟨o, ho⟩ : ∃ o, decide ((128 : Int) ≤ (d.toNat : Int)) = o := ⟨_, rfl⟩
  have ho2 : decide (128 ≤ d.toNat) = o := by rw [← ho]; simp; omega
  have HPR : Hid (Fm.prio l [] = ⟨[], 0, 0, (n : Int), (c.toNat : Int) + 1, o, 0, []⟩) := hid' (by
    match l, h with
    | x0 :: x1 :: x2 :: x3 :: x4 :: r, _ =>
      have e0 : x0 = d := hd
      have e4 : x4 = c := hc
      subst e0 e4
      have h1 := UInt8.toNat_lt x1; have h2 := UInt8.toNat_lt x2; have h3 := UInt8.toNat_lt x3
      have hq : Fm.num ((x0 :: x1 :: x2 :: x3 :: x4 :: r).take 4) = 16777216 * x0.toNat + 65536 * x1.toNat + 256 * x2.toNat + x3.toNat := Fm.num4 x0 x1 x2 x3
      have ht : decide (2147483648 ≤ Fm.num ((x0 :: x1 :: x2 :: x3 :: x4 :: r).take 4)) = o := by
        rw [hq, ← ho2]
        by_cases hx : 128 ≤ x0.toNat
        · rw [decide_eq_true hx, decide_eq_true (by omega)]
        · rw [decide_eq_false hx, decide_eq_false (by omega)]
      have hid : Fm.idn (x0 :: x1 :: x2 :: x3 :: x4 :: r) = n := by unfold Fm.idn; rw [hy]; exact hn
      unfold Fm.prio
      rw [ht, hid]
      rfl)
  have hw := wrap_byte c
  have hw1 := wrap_byte1 c
  obtain ⟨x0, x1, x2, x3, x4, x5, x6, x7⟩ : w.cell? ⟨b, 0, none⟩ = some (.string ⟨#[]⟩) ∧ w.cell? ⟨b, 1, none⟩ = some (.int .i64 0) ∧ w.cell? ⟨b, 2, none⟩ = some (.int .i64 0) ∧ w.cell? ⟨b, 3, none⟩ = some (.int .i64 0) ∧ w.cell? ⟨b, 4, none⟩ = some (.int .i64 0) ∧ w.cell? ⟨b, 5, none⟩ = some (.bool false) ∧ w.cell? ⟨b, 6, none⟩ = some (.int .i64 0) ∧ w.cell? ⟨b, 7, none⟩ = some v := ⟨ha.cell 0 _ rfl, ha.cell 1 _ rfl, ha.cell 2 _ rfl, ha.cell 3 _ rfl, ha.cell 4 _ rfl, ha.cell 5 _ rfl, ha.cell 6 _ rfl, ha.cell 7 _ rfl⟩
  have f3 := ha.free 3
  have f4 := ha.free 4
  have f5 := ha.free 5
  have HA := hid' ha
  clear hy hyl hn ha
  go_enter Try.func31, Try.ntmps31
  go_wp2_with fail
  refine (rid_any y n HYL.out HN.out _).mono ?_
  rintro e w1 ⟨rfl, hw'⟩
  subst w1
  go_wp2
  go_end0
  have hA := ((HA.out.set 3 (.int .i64 (n : Int))).set 5 (.bool o)).set 4 (.int .i64 ((c.toNat : Int) + 1))
  refine ⟨rfl, ?_, ((upd_setCell w b 3 _).put 5 _).put 4 _⟩
  rw [HPR.out]
  simpa [ptC, Fm.none'] using hA

end Go.Proofs.Ythgdokcdpmoeeaa
