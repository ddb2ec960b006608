/-
  strings.IndexAny at "/?", of whatever bytes: by its contract.
-/
import Derived.Test.YtcljepppdljnlabDoorMsR
import Derived.Test.YtcljepppdljnlabDoorShelf
import Derived.Test.YtcljepppdljnlabDoorMsC
import Derived.Laws.RangeAny
import Derived.Scope
import Derived.Test.YtcljepppdljnlabDoorDkZ
import Derived.Deep.RegionHeld3
namespace Go.Proofs.YtcljepppdljnlabDoor
open Go.RowKit

theorem bl_alloc14 (w : World) (x : Obj) : Below w.heap.size w (w.alloc x) := (Below.refl _ _).alloc (Nat.le_refl _) _
theorem get14 (s : ByteArray) (k : Nat) (h : k < s.size) : s.get! k = s[k]'h := by
  show s.data[k]! = s.data[k]'h
  exact getElem!_pos s.data k h
theorem div64 {n : Nat} (h : (n / 64 == 2) = true) : 128 ≤ n := by
  have := beq_iff_eq.1 h
  omega
/-- Where a rune of more than one byte is read, no byte of it is below 128. -/
theorem dec_skip (s : ByteArray) (i : Nat) (h : i < s.size) (ha : 128 ≤ (s[i]'h).toNat) : 1 ≤ (Utf8.decode s i).2 ∧ ∀ j, j < (Utf8.decode s i).2 → ∃ hj : i + j < s.size, 128 ≤ (s[i + j]'hj).toNat := by
  have key0 : ∃ hj : i + 0 < s.size, 128 ≤ (s[i + 0]'hj).toNat := ⟨h, ha⟩
  have key : ∀ k, (decide (i + k < s.size) && ((s.get! (i + k)).toNat / 64 == 2)) = true → ∃ hj : i + k < s.size, 128 ≤ (s[i + k]'hj).toNat := by
    intro k hk
    rw [Bool.and_eq_true] at hk
    have hj := of_decide_eq_true hk.1
    have h2 := hk.2
    rw [get14 s (i + k) hj] at h2
    exact ⟨hj, div64 h2⟩
  have hb0 : ¬ (s.get! (i + 0)).toNat < 128 := by rw [Nat.add_zero, get14 s i h]; omega
  have one : 1 ≤ 1 ∧ ∀ j, j < 1 → ∃ hj : i + j < s.size, 128 ≤ (s[i + j]'hj).toNat := ⟨Nat.le_refl _, fun j hj => by
    have h0 : j = 0 := by omega
    subst h0
    exact key0⟩
  unfold Utf8.decode
  simp only []
  rw [if_neg hb0]
  split
  · rename_i h1
    rw [Bool.and_eq_true] at h1
    split
    · exact ⟨by simp, fun j hj => by
        rcases j with _ | _ | j
        · exact key0
        · exact key 1 h1.2
        · simp at hj; omega⟩
    · exact one
  · split
    · rename_i h1
      simp only [Bool.and_eq_true] at h1
      split
      · exact ⟨by simp, fun j hj => by
          rcases j with _ | _ | _ | j
          · exact key0
          · exact key 1 (by simp [h1.1.2])
          · exact key 2 (by simp [h1.2])
          · simp at hj; omega⟩
      · exact one
    · split
      · rename_i h1
        simp only [Bool.and_eq_true] at h1
        split
        · exact ⟨by simp, fun j hj => by
            rcases j with _ | _ | _ | _ | j
            · exact key0
            · exact key 1 (by simp [h1.1.1.2])
            · exact key 2 (by simp [h1.1.2])
            · exact key 3 (by simp [h1.2])
            · simp at hj; omega⟩
        · exact one
      · exact one
theorem enc_high (r : Int) (h : 128 ≤ r) (rs : ByteArray) (hrs : Utf8.encode r = rs) : rs.size = 2 ∧ (∃ hq : 1 < rs.size, 128 ≤ (rs[1]'hq).toNat) ∨ 3 ≤ rs.size ∧ rs.size ≤ 4 := by
  obtain ⟨c, hc⟩ : ∃ c, (if Utf8.valid r then r.toNat else Utf8.runeError) = c := ⟨_, rfl⟩
  have hc1 : 128 ≤ c := by
    rw [← hc]
    split
    · omega
    · decide
  unfold Utf8.encode at hrs
  simp only [hc] at hrs
  rw [if_neg (show ¬ c < 0x80 by omega)] at hrs
  by_cases h1 : c < 0x800
  · rw [if_pos h1] at hrs
    subst hrs
    refine .inl ⟨rfl, Nat.lt_succ_self 1, ?_⟩
    show 128 ≤ (UInt8.ofNat (0x80 + c % 64)).toNat
    rw [UInt8.toNat_ofNat']
    omega
  · rw [if_neg h1] at hrs
    by_cases h2 : c < 0x10000
    · rw [if_pos h2] at hrs
      subst hrs
      exact .inr ⟨Nat.le_refl 3, Nat.le_succ 3⟩
    · rw [if_neg h2] at hrs
      subst hrs
      exact .inr ⟨Nat.le_succ 3, Nat.le_refl 4⟩

set_option maxHeartbeats 4000000 in
set_option maxRecDepth 20000 in
/-- No rune of more than one byte stands in "/?". -/
theorem cidxr14 (r : Int) (h0 : 128 ≤ r) (h1 : r ≤ 2147483647) (w : World) :
    Calls Tryd.prog 57 #[.string ⟨#[47, 63]⟩, .int .i32 r] w fun e w' => e = .returned (.int .i64 (-1)) ∧ Below w.heap.size w w' := by
  have d1 : ¬ r < 128 := by omega
  have d2 : (0 : Int) ≤ r := by omega
  cases c1 : (r == 65533)
  · obtain ⟨vr, hvr⟩ : ∃ vr, Calls Tryd.prog 72 #[.int .i32 r] w fun e w' => e = .returned (.bool vr) ∧ w' = w := ⟨_, Tryd.utf8_ValidRune r w⟩
    have HV := hid' hvr
    clear hvr
    cases vr
    · go_enter Tryd.func57, Tryd.ntmps57
      go_wp2_with fail
      refine HV.out.mono ?_
      rintro e w1 ⟨rfl, hw⟩
      subst w1
      go_wp2
      go_ret
      exact ⟨rfl, Below.refl _ _⟩
    · obtain ⟨rs, hrs⟩ : ∃ rs, Utf8.encode r = rs := ⟨_, rfl⟩
      rcases enc_high r h0 rs hrs with ⟨hs2, hq, hb⟩ | ⟨hs3, hs4⟩
      · go_enter Tryd.func57, Tryd.ntmps57
        go_wp2_with fail
        refine HV.out.mono ?_
        rintro e w1 ⟨rfl, hw⟩
        subst w1
        go_wp2
        refine wp_scope_straight ?_
        go_wp2
        go_loopw [9] (fun s9 wr => s9 = .int .i64 1 ∧ wr = w) (fun _ _ => 0)
        case atStart => exact ⟨rfl, rfl⟩
        case round =>
          obtain ⟨rfl, hwr⟩ := hrel
          subst hwr
          have q1 : ((63 : Int) == (rs[1].toNat : Int)) = false := beq_false_of_ne (by omega)
          have q2 : ((63 : Int) != (rs[1].toNat : Int)) = true := by unfold bne; rw [q1]; rfl
          have q3 : ¬ (63 : Int) = (rs[1].toNat : Int) := by omega
          have hq2 : (1 : Int) < (rs.size : Int) := by omega
          have q4 : ((((⟨#[47, 63]⟩ : ByteArray)[1]'(by decide)).toNat : Int) != (rs[1].toNat : Int)) = true := q2
          have q5 : ((((⟨#[47, 63]⟩ : ByteArray)[1]'(by decide)).toNat : Int) == (rs[1].toNat : Int)) = false := q1
          have q6 : ¬ (((⟨#[47, 63]⟩ : ByteArray)[1]'(by decide)).toNat : Int) = (rs[1].toNat : Int) := q3
          clear q1 q2 q3
          go_wp2
          refine wp_scope_straight ?_
          go_wp2
          go_quiet (fail)
          have HIB : Hid (∀ W, Calls Tryd.prog 55 #[.string ⟨#[]⟩, .int .u8 (rs[1].toNat : Int)] W fun e w' => e = .returned (.int .i64 (-1)) ∧ w' = W) := hid' (fun W => Tryd.strings_IndexByte ⟨#[]⟩ _ W)
          go_wp2
          have HB7 := hid' (show Below wr.heap.size wr (wr.drewN nq) from ⟨rfl, rfl, rfl, Nat.le_refl _, fun _ _ => rfl⟩)
          generalize wr.drewN nq = w7 at *
          have hw2 : IntKind.i64.wrap 2 = 2 := by decide
          have hex : (⟨#[47, 63]⟩ : ByteArray).extract 2 2 = ⟨#[]⟩ := rfl
          have hne : Nonempty (BW w7) := ⟨⟨w7, Below.refl _ _⟩⟩
          refine wp_region_below_s (by kernel_rfl) (by kernel_rfl) ?_
          repeat (refine QS.step (fun K hK => ?_); go_simp; first | (refine hK _ ?_; clear hK K) | (apply Exists.intro; refine ⟨fun _ => ?_, hK _ ?_⟩; (go_at_call 55; exact Calls.below_same (HIB.out _)); clear hK K))
          refine QS.nil ?_
          rintro _ ⟨⟨wq, hBq⟩, rfl⟩
          have HBq := hid' (below_two HB7.out hBq)
          have hng : (-1 : Int) < 0 := by decide
          have hng2 : decide ((-1 : Int) < 0) = true := by decide
          clear hBq
          go_wp2
          change bodyPost Tryd.prog Tryd.f57 (fun e w' => e = .returned (.int .i64 (-1)) ∧ Below wr.heap.size wr w') Exit.ret _ _
          go_ret
          exact ⟨rfl, HBq.out⟩
      · go_enter Tryd.func57, Tryd.ntmps57
        go_wp2_with fail
        refine HV.out.mono ?_
        rintro e w1 ⟨rfl, hw⟩
        subst w1
        go_wp2
        refine wp_scope_straight ?_
        go_wp2
        have q9 : ¬ (rs.size : Int) - 1 < 2 := by omega
        go_loopw [9] (fun s9 wr => s9 = .int .i64 ((rs.size : Int) - 1) ∧ wr = w) (fun _ _ => 0)
        case atStart => exact ⟨rfl, rfl⟩
        case round =>
          obtain ⟨rfl, hwr⟩ := hrel
          subst hwr
          go_wp2
          go_ret
          exact ⟨rfl, Below.refl _ _⟩
  · obtain rfl : r = 65533 := beq_iff_eq.1 c1
    clear c1 h0 h1 d1 d2
    go_enter Tryd.func57, Tryd.ntmps57
    go_wp2
    go_loopg [5, 6] 2 (fun g _ _ wx => ∃ i : Nat, i + g = 2 ∧ wx = w.iter ⟨#[47, 63]⟩ i)
    case atStart => exact ⟨0, by omega, rfl⟩
    case round =>
      obtain ⟨i, hig, rfl⟩ := hrel
      cases gk with
      | zero =>
        obtain rfl : i = 2 := by omega
        have hnx := run_next_end (P := Tryd.prog) w ⟨#[47, 63]⟩ 2
        go_wp2
        go_ret
        exact ⟨rfl, bl_alloc14 w _⟩
      | succ g =>
        have hi : i = 0 ∨ i = 1 := by omega
        rcases hi with rfl | rfl
        · have hnx := fun ty => run_next_ascii (P := Tryd.prog) w ⟨#[47, 63]⟩ 0 ty (by decide) (by decide)
          have hb : (((⟨#[47, 63]⟩ : ByteArray)[0]'(by decide)).toNat : Int) = 47 := rfl
          rw [hb] at hnx
          go_wp2
          go_roundg g
          case measure => omega
          case rel => exact ⟨1, by omega, rfl⟩
        · have hnx := fun ty => run_next_ascii (P := Tryd.prog) w ⟨#[47, 63]⟩ 1 ty (by decide) (by decide)
          have hb : (((⟨#[47, 63]⟩ : ByteArray)[1]'(by decide)).toNat : Int) = 63 := rfl
          rw [hb] at hnx
          go_wp2
          go_roundg g
          case measure => omega
          case rel => exact ⟨2, by omega, rfl⟩

end Go.Proofs.YtcljepppdljnlabDoor
