/-
  strconv.FormatInt at base 16, of a number of at most 16384: by its contract.
-/
import Derived.Lib.LaidTab
import Derived.Laws.Bits64b
import Derived.Laws.IdiomStrings
import Derived.Test.YtbpdhcfmdkmoiaaDoorPwAL
namespace Go.Proofs.YtbpdhcfmdkmoiaaDoor
open Go.RowKit

namespace Hw
def deB : List Int := [0, 1, 56, 2, 57, 49, 28, 3, 61, 58, 42, 50, 38, 29, 17, 4, 62, 47, 59, 36, 45, 43, 51, 22, 53, 39, 33, 30, 24, 18, 12, 5, 63, 55, 48, 27, 60, 41, 37, 16, 46, 35, 44, 21, 52, 32, 23, 11, 54, 26, 40, 15, 34, 20, 31, 10, 25, 14, 19, 9, 13, 8, 7, 6]
/-- A block of 65 bytes that ends in D, noughts ahead. -/
def hx (D : T8) : Array Value := (List.replicate (65 - D.length) (Value.int .u8 0) ++ D.map (fun c => Value.int .u8 (c.toNat : Int))).toArray
theorem hx_put (D : T8) (c : UInt8) (h : D.length < 65) : (hx D).setIfInBounds (64 - D.length) (.int .u8 (c.toNat : Int)) = hx (c :: D) := by
  unfold hx
  rw [List.setIfInBounds_toArray]
  congr 1
  rw [List.length_cons, show 65 - D.length = (65 - (D.length + 1)) + 1 by omega, List.replicate_succ', List.append_assoc, List.set_append_right _ _ (by rw [List.length_replicate]; omega), List.length_replicate, show 64 - D.length - (65 - (D.length + 1)) = 0 by omega]
  rfl
theorem hx_at (D : T8) (hD : D.length ≤ 65) (j : Nat) (h : j < D.length) : (hx D)[65 - D.length + j]? = some (.int .u8 ((D[j]).toNat : Int)) := by
  unfold hx
  rw [List.getElem?_toArray, List.getElem?_append_right (by rw [List.length_replicate]; omega), List.length_replicate, Nat.add_sub_cancel_left, List.getElem?_map, List.getElem?_eq_getElem h]
  rfl
theorem hexD_idx (s : ByteArray) (i d : Nat) (hi : i < s.size) (he : i = d) (h : d < 16) (hs : s = ⟨#[48, 49, 50, 51, 52, 53, 54, 55, 56, 57, 97, 98, 99, 100, 101, 102, 103, 104, 105, 106, 107, 108, 109, 110, 111, 112, 113, 114, 115, 116, 117, 118, 119, 120, 121, 122]⟩) : s[i].toNat = (hexD d).toNat := by
  subst he hs
  have : ∀ d : Nat, d < 16 → (⟨#[48, 49, 50, 51, 52, 53, 54, 55, 56, 57, 97, 98, 99, 100, 101, 102, 103, 104, 105, 106, 107, 108, 109, 110, 111, 112, 113, 114, 115, 116, 117, 118, 119, 120, 121, 122]⟩ : ByteArray).data.toList[d]? = some (hexD d) := by decide
  have h2 := this i h
  have h3 : (⟨#[48, 49, 50, 51, 52, 53, 54, 55, 56, 57, 97, 98, 99, 100, 101, 102, 103, 104, 105, 106, 107, 108, 109, 110, 111, 112, 113, 114, 115, 116, 117, 118, 119, 120, 121, 122]⟩ : ByteArray).data.toList[i]? = some ((⟨#[48, 49, 50, 51, 52, 53, 54, 55, 56, 57, 97, 98, 99, 100, 101, 102, 103, 104, 105, 106, 107, 108, 109, 110, 111, 112, 113, 114, 115, 116, 117, 118, 119, 120, 121, 122]⟩ : ByteArray)[i]) := List.getElem?_eq_getElem hi
  rw [h3] at h2
  injection h2 with h2
  rw [h2]
end Hw
/-- The table that TrailingZeros64 asks. -/
def TZ (w : World) : Prop := Lib.TabIs Tryd.prog w "math/bits.deBruijn64tab" .u8 Hw.deB
theorem TZ.keep {w w' : World} (h : TZ w) (hb : Below w.heap.size w w') : TZ w' := tab_below h hb
theorem gZ : Tryd.prog.globalNamed "math/bits.deBruijn64tab" = some 3 := by kernel_rfl
theorem TZ.at15 {w : World} (h : TZ w) : w.cell? ⟨3, 15, none⟩ = some (.int .u8 4) := Lib.TabIs.cell h gZ 15 (by decide)

set_option maxHeartbeats 1000000 in
theorem tz64_22 (w : World) (h : TZ w) : Calls Tryd.prog 102 #[.int .u64 16] w fun e w' => e = .returned (.int .i64 4) ∧ w' = w := by
  have he : IntKind.u64.wrap (bits BinOp.and IntKind.u64 16 (IntKind.u64.wrap (-16)) * 285870213051353865) / 288230376151711744 = 15 := by kernel_rfl
  have hc : w.cell? ⟨3, (IntKind.u64.wrap (bits BinOp.and IntKind.u64 16 (IntKind.u64.wrap (-16)) * 285870213051353865) / 288230376151711744).toNat, none⟩ = some (.int .u8 4) := by rw [he]; exact h.at15
  have h0 : 0 ≤ IntKind.u64.wrap (bits BinOp.and IntKind.u64 16 (IntKind.u64.wrap (-16)) * 285870213051353865) / 288230376151711744 := by rw [he]; decide
  have h1 : IntKind.u64.wrap (bits BinOp.and IntKind.u64 16 (IntKind.u64.wrap (-16)) * 285870213051353865) / 288230376151711744 < 64 := by rw [he]; decide
  clear he
  go_enter Tryd.func102, Tryd.ntmps102
  go_wp2
  go_ret
  exact ⟨rfl, rfl⟩

set_option maxHeartbeats 1000000 in
theorem tz_22 (w : World) (h : TZ w) : Calls Tryd.prog 99 #[.int .u64 16] w fun e w' => e = .returned (.int .i64 4) ∧ w' = w := by
  have HT := hid' (tz64_22 w h)
  go_enter Tryd.func99, Tryd.ntmps99
  go_wp2_with fail
  refine HT.out.mono ?_
  rintro e w0 ⟨rfl, hw0⟩
  subst hw0
  go_wp2
  go_ret
  exact ⟨rfl, rfl⟩

set_option maxHeartbeats 1000000 in
theorem pow2_22 (w : World) : Calls Tryd.prog 98 #[.int .i64 16] w fun e w' => e = .returned (.bool true) ∧ w' = w := by
  go_enter Tryd.func98, Tryd.ntmps98
  go_wp2
  go_ret
  exact ⟨rfl, rfl⟩

theorem zero65 : (Tryd.prog.info? 99).map (fun i => i.zero) = some (some (.agg (Hw.hx []))) := by kernel_rfl

set_option maxHeartbeats 4000000 in
set_option maxRecDepth 20000 in
theorem cbits22 (n : Nat) (h1 : 1 ≤ n) (h2 : n ≤ 16384) (w : World) (hT : TZ w) : Calls Tryd.prog 88 #[.slice none 0 0, .int .u64 (n : Int), .int .i64 16, .bool false, .bool false] w fun e w' => e = .returned (.tuple #[.slice none 0 0, .string ⟨(Hw.hex n).toArray⟩]) ∧ Below w.heap.size w w' := by
  have HT := hid' hT
  have HP := hid' (fun W => pow2_22 W)
  have HZ := hid' (fun W (h : TZ W) => tz_22 W h)
  clear hT
  go_enter Tryd.func88, Tryd.ntmps88
  go_wp2_with (refine wpl_alloc 99 rfl rfl _ zero65 ?_)
  intro xb w1 hxb ha1 hl1
  have HA1 := hid' ha1
  have HL1 := hid' hl1
  have HXB := hid' hxb
  clear ha1 hl1 hxb
  go_wp2_with fail
  refine (HP.out _).mono ?_
  rintro e w0 ⟨rfl, hw0⟩
  subst hw0
  go_wp2_with fail
  refine (HZ.out _ (HT.out.keep HL1.out)).mono ?_
  rintro e w0 ⟨rfl, hw0⟩
  subst hw0
  go_wp2
  go_loopw [1, 13] (fun s1 s13 wr => ∃ (u j : Nat) (D : List UInt8), s1 = .int .u64 (u : Int) ∧ s13 = .int .i64 ((j : Int) + 1) ∧ j + D.length = 64 ∧ ((j = 64 ∧ u ≤ 16384) ∨ (j = 63 ∧ u ≤ 1024) ∨ (j = 62 ∧ u ≤ 64) ∨ (j = 61 ∧ u ≤ 4)) ∧ 1 ≤ u ∧ Hid (Hw.hex n = Hw.hex u ++ D) ∧ Hid (Ar wr xb 99 (Hw.hx D)) ∧ Hid (Below w.heap.size w wr)) (fun s1 _ _ => (intOf s1).toNat)
  case atStart => exact ⟨n, 64, [], rfl, rfl, rfl, .inl ⟨rfl, h2⟩, h1, hid' (by simp), HA1, HL1⟩
  case round =>
    obtain ⟨u, j, D, rfl, rfl, hk, hb, hu, HH, HA, HB⟩ := hrel
    have hj : j < 65 := by omega
    obtain ⟨v0, c0⟩ : ∃ v0, wr.cell? ⟨xb, j, none⟩ = some v0 := by
      have := HA.out.cell j _ (Array.getElem?_eq_getElem (by unfold Hw.hx; simp; omega))
      exact ⟨_, this⟩
    have f0 := HA.out.free j
    have HPUT : Hid (∀ (d : Nat) (v : Value), v = .int .u8 ((Hw.hexD d).toNat : Int) → Ar (wr.setCell ⟨xb, j, none⟩ v) xb 99 (Hw.hx (Hw.hexD d :: D)) ∧ Below w.heap.size w (wr.setCell ⟨xb, j, none⟩ v)) := hid' (fun d v hv => by
      subst hv
      refine ⟨?_, HB.out.setCell (p := ⟨xb, j, none⟩) HXB.out _⟩
      have := HA.out.set j (.int .u8 ((Hw.hexD d).toNat : Int))
      rwa [show j = 64 - D.length by omega, Hw.hx_put D _ (by omega), show 64 - D.length = j by omega] at this)
    by_cases hlt : u < 16
    · have hlt2 : ¬ (u : Int) ≥ 16 := by omega
      have hu36 : (u : Int) < 36 := by omega
      have HD : Hid (Hw.hex n = Hw.hexD u :: D) := hid' (by rw [HH.out, Hw.hex_one u hlt]; rfl)
      have HU : Hid (u < 16) := hid' hlt
      have hsl : ∀ W, (Instr.sliceAt 99 (.pointer (some ⟨xb, 0, none⟩)) (some (.int .i64 (j : Int))) none none).run Tryd.prog W = .ok (.slice (some ⟨xb, j, none⟩) (65 - j) (65 - j)) W := by
        rcases hb with ⟨rfl, _⟩ | ⟨rfl, _⟩ | ⟨rfl, _⟩ | ⟨rfl, _⟩ <;> intro W <;> kernel_rfl
      have HJD : Hid (j + D.length = 64) := hid' hk
      go_upto_region 30 with fail
      generalize hy : wr.setCell ⟨xb, j, none⟩ _ = y
      have HY : Hid (Ar y xb 99 (Hw.hx (Hw.hexD u :: D)) ∧ Below w.heap.size w y) := hid' (by
        rw [← hy]
        exact HPUT.out u _ (congrArg (fun x : Nat => Value.int .u8 (x : Int)) (Hw.hexD_idx _ _ _ _ rfl HU.out rfl)))
      clear hy
      have hcv : (convert 72 9 (.slice (some ⟨xb, j, none⟩) (65 - j) (65 - j))).run Tryd.prog y = .ok (.string ⟨(Hw.hexD u :: D).toArray⟩) y := by
        have e : 65 - j = (Hw.hexD u :: D).length := by have := HJD.out; rw [List.length_cons]; omega
        have := run_convert_bytes_back y 72 9 5 ⟨xb, j, none⟩ (65 - j) (Hw.hexD u :: D) Tryd.underlying72 Tryd.underlying5 Tryd.underlying9 (fun i hi => ?_)
        · rw [← e] at this; exact this
        · have h1 := Hw.hx_at (Hw.hexD u :: D) (by rw [← e]; omega) i hi
          rw [Addr.add_mid]
          have h2 := HY.out.1.cell _ _ h1
          rwa [← e, show 65 - (65 - j) + i = j + i by omega] at h2
      go_wp2
      go_ret2
      refine ⟨?_, HY.out.2⟩
      rw [HD.out]
      rfl
    · have hlt2 : (u : Int) ≥ 16 := by omega
      have hbe : bits BinOp.and IntKind.u64 (u : Int) 15 = ((u % 16 : Nat) : Int) := by
        have h3 := bits_and_u64_nat u 15 (by omega) (by decide)
        rw [show ((15 : Nat) : Int) = 15 from rfl] at h3
        rw [h3]
        exact congrArg _ (Nat.and_two_pow_sub_one_eq_mod u 4)
      have hb0 : 0 ≤ bits BinOp.and IntKind.u64 (u : Int) 15 := by omega
      have hb1 : bits BinOp.and IntKind.u64 (u : Int) 15 < 36 := by omega
      have HBE := hid' hbe
      have HN : Hid (Hw.hex n = Hw.hex (u / 16) ++ (Hw.hexD (u % 16) :: D)) := hid' (by rw [HH.out, Hw.hex_step u hlt, List.append_assoc]; rfl)
      clear hbe
      obtain ⟨i, rfl⟩ : ∃ i, j = i + 1 := ⟨j - 1, by omega⟩
      go_wp2_with fail
      go_roundw
      case rel => exact ⟨u / 16, i, Hw.hexD (u % 16) :: D, congrArg _ (by omega), congrArg _ (by omega), by rw [List.length_cons]; omega, by omega, by omega, HN, hid' (HPUT.out _ _ (congrArg (fun x : Nat => Value.int .u8 (x : Int)) (Hw.hexD_idx _ _ _ _ (by rw [HBE.out]; rfl) (Nat.mod_lt _ (by decide)) rfl))).1, hid' (HPUT.out _ _ (congrArg (fun x : Nat => Value.int .u8 (x : Int)) (Hw.hexD_idx _ _ _ _ (by rw [HBE.out]; rfl) (Nat.mod_lt _ (by decide)) rfl))).2⟩
      case measure => simp [intOf]; omega

set_option maxHeartbeats 1000000 in
theorem cfmti22 (n : Nat) (h1 : 1 ≤ n) (h2 : n ≤ 16384) (w : World) (hT : TZ w) : Calls Tryd.prog 68 #[.int .i64 (n : Int), .int .i64 16] w fun e w' => e = .returned (.string ⟨(Hw.hex n).toArray⟩) ∧ Below w.heap.size w w' := by
  have HB := hid' (cbits22 n h1 h2 w hT)
  have hn0 : ¬ (n : Int) < 0 := by omega
  clear hT
  go_enter Tryd.func68, Tryd.ntmps68
  go_wp2_with fail
  refine HB.out.mono ?_
  rintro e w0 ⟨rfl, hw0⟩
  have HB0 := hid' hw0
  clear hw0
  go_wp2
  go_ret
  exact ⟨rfl, HB0.out⟩

set_option maxHeartbeats 1000000 in
theorem cfmt22 (n : Nat) (h1 : 1 ≤ n) (h2 : n ≤ 16384) (w : World) (hT : TZ w) : Calls Tryd.prog 49 #[.int .i64 (n : Int), .int .i64 16] w fun e w' => e = .returned (.string ⟨(Hw.hex n).toArray⟩) ∧ Below w.heap.size w w' := by
  have HB := hid' (cfmti22 n h1 h2 w hT)
  clear hT
  go_enter Tryd.func49, Tryd.ntmps49
  go_wp2_with fail
  refine HB.out.mono ?_
  rintro e w0 ⟨rfl, hw0⟩
  have HB0 := hid' hw0
  clear hw0
  go_wp2
  go_ret
  exact ⟨rfl, HB0.out⟩

end Go.Proofs.YtbpdhcfmdkmoiaaDoor
