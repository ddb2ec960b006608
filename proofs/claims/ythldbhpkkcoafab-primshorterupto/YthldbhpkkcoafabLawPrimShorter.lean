/-
  The law PrimShorter, by its contract.
-/
import Derived.Test.YthldbhpkkcoafabPrimW
namespace Go.Proofs.Ythldbhpkkcoafab
namespace Pm
theorem shorter (l : List UInt8) (hl : l.length ≤ 2147483647) : ∃ (x : UInt8) (r : List UInt8) (k : Nat), str l = x :: r ∧ rd 7 (str l) = .ok (min (Hf.enc l).length l.length) k ∧ k + min (Hf.enc l).length l.length = (str l).length ∧ (128 ≤ x.toNat ↔ (Hf.enc l).length < l.length) := by
  obtain ⟨c, n, h, b, hs, hb, hn, hh, hm, h1, h0⟩ := str_parts l
  obtain ⟨x, r, e, x1, x2⟩ := head_lt h 7 n (by omega) (by omega) hh hm
  have hbk := back h 7 n b (by omega) (by omega) hh hm (by omega)
  cases c with
  | true =>
    obtain ⟨rfl, rfl, h3, h4⟩ := h1 rfl
    have hmin : min (Hf.enc l).length l.length = n := by omega
    refine ⟨x, r ++ Hf.enc l, (num 128 7 n).length, by rw [hs, e]; rfl, by rw [hs, hbk, hmin], by rw [hmin, hs, List.length_append, hb], by omega⟩
  | false =>
    obtain ⟨rfl, rfl, h3, h4⟩ := h0 rfl
    have hmin : min (Hf.enc b).length b.length = n := by omega
    refine ⟨x, r ++ b, (num 0 7 n).length, by rw [hs, e]; rfl, by rw [hs, hbk, hmin], by rw [hmin, hs, List.length_append, hb], by omega⟩
end Pm
open Go.RowKit

set_option maxHeartbeats 1000000 in
set_option maxRecDepth 20000 in
theorem primShorter_any (s : ByteArray) (w : World) (hs : s.size ≤ 1048576) :
    Calls Try.prog 3 #[.string s] w fun e w' => e = .returned (.bool true) ∧ Below w.heap.size w w' := by
  obtain ⟨l, hl⟩ : ∃ l, s.data.toList = l := ⟨_, rfl⟩
  obtain rfl : s = ⟨l.toArray⟩ := by rw [← hl]
  clear hl
  rw [size_l] at hs
  obtain ⟨x, r, k, hc, hR, hk, hx⟩ := Pm.shorter l (by omega)
  obtain ⟨N, hN⟩ : ∃ N, (Hf.enc l).length = N := ⟨_, rfl⟩
  have HN := hid' hN
  rw [hN] at hR hk hx
  clear hN
  obtain ⟨c, hcc⟩ : ∃ c : ByteArray, c = ⟨(x :: r).toArray⟩ := ⟨_, rfl⟩
  have HC : Hid (∀ w, Calls Try.prog 4 #[.string ⟨l.toArray⟩] w fun e w' => e = .returned (.string c) ∧ Below w.heap.size w w') := hid' (fun w => by rw [hcc]; exact str_at l (x :: r) hc (by omega) w)
  obtain ⟨M, hM⟩ : ∃ M, min N l.length = M := ⟨_, rfl⟩
  have hmin : min (N : Int) (l.length : Int) = (M : Int) := by omega
  rw [hM] at hR hk
  have HRD : Hid (∀ w, Calls Try.prog 6 #[.string c, .int .i64 7] w fun e w' => e = .returned (.tuple #[.int .i64 (M : Int), .int .i64 (k : Int), .int .i64 0]) ∧ Below w.heap.size w w') := hid' (fun w => by rw [hcc, ← hc]; exact readInt_ok (Pm.str l) 7 M k (by omega) (by omega) hR w)
  have hcs : c.size = r.length + 1 := by rw [hcc, size_l]; rfl
  have hc0 : 0 < c.size := by omega
  have hx0 : c[0] = x := by subst hcc; rfl
  rw [hc, List.length_cons, ← hcs] at hk
  have hk2 : (k : Int) + (M : Int) = (c.size : Int) := by omega
  have hkb : k ≤ 1048600 ∧ M ≤ 1048600 := by
    have := Pm.rd_le 7 M k (by omega) _ hR
    omega
  obtain ⟨hk3, hk4⟩ := hkb
  have hz : ((c.size : Int) == 0) = false := beq_false_of_ne (by omega)
  have x256 := UInt8.toNat_lt x
  clear hc hR hk hcc hcs hM
  by_cases h : N < l.length
  · have hN2 : decide ((N : Int) < (l.length : Int)) = true := by simp; omega
    have hx8 : decide ((128 : Int) ≤ (x.toNat : Int)) = true := decide_eq_true (by have := hx.2 h; omega)
    go_enter Try.func3, Try.ntmps3
    go_wp2_with fail
    refine (HC.out _).mono ?_
    rintro e w1 ⟨rfl, hb1⟩
    have HB1 := hid' hb1
    clear hb1
    go_wp2_with fail
    refine (size_of l N HN.out (by omega) _).mono ?_
    rintro e w2 ⟨rfl, hb2⟩
    have HB2 := hid' (below_two HB1.out hb2)
    clear hb2 HB1
    go_wp2_with fail
    refine (HRD.out _).mono ?_
    rintro e w3 ⟨rfl, hb3⟩
    have HB3 := hid' (below_two HB2.out hb3)
    clear hb3 HB2
    go_wp2_with fail
    refine (awake_any _).mono ?_
    rintro e w4 ⟨rfl, hb4⟩
    have HB4 := hid' (below_two HB3.out hb4)
    clear hb4 HB3
    go_wp2
    go_ret
    exact ⟨rfl, HB4.out⟩
  · have hN2 : decide ((N : Int) < (l.length : Int)) = false := by simp; omega
    have hx8 : decide ((128 : Int) ≤ (x.toNat : Int)) = false := decide_eq_false (fun h2 => h (hx.1 (by omega)))
    go_enter Try.func3, Try.ntmps3
    go_wp2_with fail
    refine (HC.out _).mono ?_
    rintro e w1 ⟨rfl, hb1⟩
    have HB1 := hid' hb1
    clear hb1
    go_wp2_with fail
    refine (size_of l N HN.out (by omega) _).mono ?_
    rintro e w2 ⟨rfl, hb2⟩
    have HB2 := hid' (below_two HB1.out hb2)
    clear hb2 HB1
    go_wp2_with fail
    refine (HRD.out _).mono ?_
    rintro e w3 ⟨rfl, hb3⟩
    have HB3 := hid' (below_two HB2.out hb3)
    clear hb3 HB2
    go_wp2_with fail
    refine (awake_any _).mono ?_
    rintro e w4 ⟨rfl, hb4⟩
    have HB4 := hid' (below_two HB3.out hb4)
    clear hb4 HB3
    go_wp2
    go_ret
    exact ⟨rfl, HB4.out⟩

end Go.Proofs.Ythldbhpkkcoafab
