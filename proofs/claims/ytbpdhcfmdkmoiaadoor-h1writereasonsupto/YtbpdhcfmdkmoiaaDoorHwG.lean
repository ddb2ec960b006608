/-
  The document's lines and hex: by their contracts.
-/
import Derived.Test.YtbpdhcfmdkmoiaaDoorHwF
import Derived.Test.YtbpdhcfmdkmoiaaDoorDkZ
import Derived.Test.YtbpdhcfmdkmoiaaDoorHwD
import Derived.BigQuiet
namespace Go.Proofs.YtbpdhcfmdkmoiaaDoor
open Go.RowKit

namespace Hw
theorem ln_cat (T N V : T8) : ((((⟨T.toArray⟩ : ByteArray) ++ ⟨N.toArray⟩) ++ ⟨#[58, 32]⟩) ++ ⟨V.toArray⟩) ++ ⟨#[13, 10]⟩ = ⟨(T ++ N ++ [58, 32] ++ V ++ [13, 10]).toArray⟩ := by
  apply ByteArray.ext; simp [ByteArray.data_append]
end Hw

set_option maxHeartbeats 4000000 in
set_option maxRecDepth 20000 in
theorem rlns22 (v : Value) (l : List Fd) (w : World) (h : FW w v l) (hl : l.length ≤ 1048576) (hs : ∀ f ∈ l, f.n.size ≤ 140737488355328) (hz : (Hw.lns l).length ≤ 70368744177664) :
    Calls Tryd.prog 34 #[v] w fun e w' => e = .returned (.string ⟨(Hw.lns l).toArray⟩) ∧ Below w.heap.size w w' := by
  have HST := hid' (rstrip14 v l w h hl hs)
  obtain ⟨L, hL⟩ : ∃ L, Ms.strip l = L := ⟨_, rfl⟩
  have HZ : Hid ((L.flatMap Hw.line).length ≤ 70368744177664) := hid' (by rw [← hL]; exact hz)
  have HR : Hid (Hw.lns l = L.flatMap Hw.line) := hid' (by unfold Hw.lns; rw [hL])
  have HSL : Hid (∀ f ∈ L, f.n.size ≤ 140737488355328) := hid' (fun f hf => hs f (by rw [← hL] at hf; exact (List.mem_filter.1 hf).1))
  have HLL : Hid (L.length ≤ 1048576) := hid' (by rw [← hL]; exact Nat.le_trans (List.length_filter_le _ _) hl)
  rw [hL] at HST
  clear h hl hs hz hL
  go_enter Tryd.func34, Tryd.ntmps34
  go_wp2_with (go_at_call 39; refine HST.out.mono ?_; rintro e w2 ⟨⟨m, ro, rc, rfl, hm, ho⟩, hb2⟩; refine Hid.out ?_)
  refine hid' ?_
  have HM := hid' hm
  have hm9 : m ≤ 1048576 := by rw [← hm]; exact HLL.out
  have HRW : Hid (FW w2 (.slice ro m rc) L) := hid' (FW.of_own (l := L) (by rw [hm]; exact ho))
  have HB2 := hid' hb2
  clear hm ho hb2
  go_wp2
  go_loopw [3, 4] (fun s3 s4 wr => ∃ (k : Nat) (T : List UInt8), s4 = .int .i64 (k : Int) ∧ s3 = .string ⟨T.toArray⟩ ∧ k ≤ m ∧ Hid (T = (L.take k).flatMap Hw.line) ∧ Hid (Below w2.heap.size w2 wr)) (fun _ s4 _ => m - (intOf s4).toNat)
  case atStart => exact ⟨0, [], rfl, rfl, Nat.zero_le _, hid' (by simp), hid' (Below.refl _ _)⟩
  case round =>
    obtain ⟨k, T, rfl, rfl, hk, HT, HB⟩ := hrel
    by_cases hlt : k < m
    · have hlt2 : (k : Int) < (m : Int) := by omega
      have HLT := hid' hlt
      obtain ⟨p, hp⟩ : ∃ p, L[k]? = some p := ⟨_, List.getElem?_eq_getElem (by rw [HM.out]; exact hlt)⟩
      obtain ⟨a, hao, y0, y1⟩ := (HRW.out.keep HB.out).two k p hp
      subst hao
      obtain ⟨N, hN⟩ : ∃ N, Tx.lower p.n.data.toList = N := ⟨_, rfl⟩
      obtain ⟨V, hV⟩ : ∃ V, p.v.data.toList = V := ⟨_, rfl⟩
      have hv2 : p.v = ⟨V.toArray⟩ := by rw [← hV]
      rw [hv2] at y1
      have HTK : Hid ((L.take (k + 1)).flatMap Hw.line = T ++ N ++ [58, 32] ++ V ++ [13, 10]) := hid' (by rw [Hw.lns_take hp, Hw.line, hN, hV, HT.out]; simp [Hw.crlf])
      have hle : (T ++ N ++ [58, 32] ++ V ++ [13, 10]).length ≤ 70368744177664 := by
        rw [← HTK.out]; exact Nat.le_trans (Hw.lns_le L (k + 1)) HZ.out
      simp only [List.length_append, List.length_cons, List.length_nil] at hle
      have k1 : ¬ 9223372036854775807 < T.length + N.length := by omega
      have k2 : ¬ 9223372036854775807 < T.length + N.length + 2 := by omega
      have k3 : ¬ 9223372036854775807 < T.length + N.length + 2 + V.length := by omega
      have k4 : ¬ 9223372036854775807 < T.length + N.length + 2 + V.length + 2 := by omega
      have HLo : Hid (∀ W, Calls Tryd.prog 40 #[.string p.n] W fun e w' => e = .returned (.string ⟨N.toArray⟩) ∧ Below W.heap.size W w') := hid' (fun W => by have := rLower_any p.n W (by have := HSL.out p (List.mem_of_getElem? hp); unfold maxLen; omega); rwa [hN] at this)
      have q0 : ∀ z : BW wr, z.W.cell? (a.add (k * 2)) = some (.string p.n) := fun z => (z.h.cell (cell_lt y0)).trans y0
      have q1 : ∀ z : BW wr, z.W.cell? ⟨(a.add (k * 2)).block, (a.add (k * 2)).off + 1, none⟩ = some (.string ⟨V.toArray⟩) := fun z => (z.h.cell (cell_lt y1)).trans y1
      have hne : Nonempty (BW wr) := ⟨⟨wr, Below.refl _ _⟩⟩
      clear hp hN hV hv2 y0 y1 hle
      go_upto_region 6 with fail
      refine wp_region_below_s (by kernel_rfl) (by kernel_rfl) ?_
      repeat (refine QS.step (fun K hK => ?_); go_simp; first | (refine hK _ ?_; clear hK K) | (apply Exists.intro; refine ⟨fun _ => ?_, hK _ ?_⟩; (first | (go_at_call 40; exact Calls.below_of (HLo.out _))); clear hK K))
      refine QS.nil ?_
      rintro _ ⟨⟨wq, hBq⟩, rfl⟩
      have HBq := hid' (below_two HB.out hBq)
      clear hBq q0 q1
      go_wp2
      go_roundw
      case rel => exact ⟨k + 1, T ++ N ++ [58, 32] ++ V ++ [13, 10], by go_num, by first | rfl | rw [← Hw.ln_cat], by have := HLT.out; omega, hid' HTK.out.symm, HBq⟩
      case measure => have := HLT.out; simp [intOf]; omega
    · obtain rfl : k = m := by omega
      have hlt2 : ¬ (k : Int) < (k : Int) := by omega
      have HF : Hid (T = L.flatMap Hw.line) := hid' (by rw [HT.out, List.take_of_length_le (by rw [HM.out]; exact Nat.le_refl _)])
      have HB9 := hid' (below_two HB2.out HB.out)
      clear hlt
      go_wp2
      go_ret
      exact ⟨by rw [HR.out, ← HF.out]; rfl, HB9.out⟩

namespace Hw
theorem dig_cut (a : Nat) (h : a < 16) : (⟨#[48, 49, 50, 51, 52, 53, 54, 55, 56, 57, 97, 98, 99, 100, 101, 102]⟩ : ByteArray).extract a (a + 1) = ⟨[hexD a].toArray⟩ := by
  have : ∀ a : Nat, a < 16 → (⟨#[48, 49, 50, 51, 52, 53, 54, 55, 56, 57, 97, 98, 99, 100, 101, 102]⟩ : ByteArray).extract a (a + 1) = ⟨[hexD a].toArray⟩ := by decide
  exact this a h
end Hw

set_option maxHeartbeats 4000000 in
set_option maxRecDepth 20000 in
theorem rhex22 (n : Nat) (h2 : n ≤ 16384) (w : World) : Calls Tryd.prog 35 #[.int .i64 (n : Int)] w fun e w' => e = .returned (.string ⟨(Hw.hex n).toArray⟩) ∧ w' = w := by
  go_enter Tryd.func35, Tryd.ntmps35
  go_wp2
  go_loopw [0, 4] (fun s0 s4 wr => ∃ (u : Nat) (D : List UInt8), s0 = .int .i64 (u : Int) ∧ s4 = .string ⟨D.toArray⟩ ∧ u ≤ 16384 ∧ D.length + u ≤ 16384 ∧ Hid (Hw.hex n = Hw.hex u ++ D) ∧ wr = w) (fun s0 _ _ => (intOf s0).toNat)
  case atStart => exact ⟨n, [], rfl, rfl, h2, by simp; omega, hid' (by simp), rfl⟩
  case round =>
    obtain ⟨u, D, rfl, rfl, hu, hD, HH, hwr⟩ := hrel
    subst hwr
    by_cases hlt : u < 16
    · have hlt2 : ¬ (u : Int) ≥ 16 := by omega
      have hk : ¬ 9223372036854775807 < 1 + D.length := by omega
      have HF : Hid (Hw.hex n = Hw.hexD u :: D) := hid' (by rw [HH.out, Hw.hex_one u hlt]; rfl)
      have HC : Hid ((⟨#[48, 49, 50, 51, 52, 53, 54, 55, 56, 57, 97, 98, 99, 100, 101, 102]⟩ : ByteArray).extract u (u + 1) ++ ⟨D.toArray⟩ = ⟨(Hw.hexD u :: D).toArray⟩) := hid' (by rw [Hw.dig_cut u hlt]; apply ByteArray.ext; simp [ByteArray.data_append])
      go_wp2_with fail
      go_ret
      refine ⟨?_, rfl⟩
      rw [HF.out, ← HC.out]
      rfl
    · have hlt2 : (u : Int) ≥ 16 := by omega
      have hk : ¬ 9223372036854775807 < 1 + D.length := by omega
      have HF : Hid (Hw.hex n = Hw.hex (u / 16) ++ (Hw.hexD (u % 16) :: D)) := hid' (by rw [HH.out, Hw.hex_step u hlt, List.append_assoc]; rfl)
      have HC : Hid ((⟨#[48, 49, 50, 51, 52, 53, 54, 55, 56, 57, 97, 98, 99, 100, 101, 102]⟩ : ByteArray).extract (u % 16) (u % 16 + 1) ++ ⟨D.toArray⟩ = ⟨(Hw.hexD (u % 16) :: D).toArray⟩) := hid' (by rw [Hw.dig_cut _ (Nat.mod_lt _ (by decide))]; apply ByteArray.ext; simp [ByteArray.data_append])
      go_wp2_with fail
      go_roundw
      case rel => exact ⟨u / 16, Hw.hexD (u % 16) :: D, congrArg _ (by omega), by rw [HC.out], by omega, by rw [List.length_cons]; omega, HF, by first | rfl | trivial⟩
      case measure => simp [intOf]; omega

end Go.Proofs.YtbpdhcfmdkmoiaaDoor
