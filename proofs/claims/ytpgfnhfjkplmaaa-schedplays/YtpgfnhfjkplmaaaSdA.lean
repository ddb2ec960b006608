/-
  slices.BinarySearch of a row of tasks, cmp.Less: by their contracts.
-/
import Derived.Test.YtpgfnhfjkplmaaaSdP
import Derived.Test.YtpgfnhfjkplmaaaQuSm
import Derived.Test.YtpgfnhfjkplmaaaLf
import Derived.Laws.OwnMore
import Derived.Great.BuildSlice
import Derived.Deep.RegionLaw
import Derived.Lib.SliceRun
namespace Go.Proofs.Ytpgfnhfjkplmaaa
open Go.RowKit

/-- Numbers as cells. -/
def nmC (l : List Int) : List Value := l.map (Value.int .i64)
theorem nmC_length (l : List Int) : (nmC l).length = l.length := by simp [nmC]
theorem nmC_append (l m : List Int) : nmC (l ++ m) = nmC l ++ nmC m := by simp [nmC]
theorem nm_at {l : List Int} {i : Nat} {x : Int} (h : l[i]? = some x) : (nmC l)[i]? = some (.int .i64 x) := by simp [nmC, h]
theorem nm_one (l : List Int) : ∀ u ∈ nmC l, u.oneCell' = true := by
  intro u hu
  simp only [nmC, List.mem_map] at hu
  obtain ⟨x, _, rfl⟩ := hu
  rfl
theorem RQ.shape {w : World} {v : Value} {n : Nat} {xs : List Value} (h : RQ w v n xs) : ∃ ao cap, v = .slice ao n cap := by
  rcases h with ⟨h, rfl⟩ | ⟨a, cap, h, _⟩
  · exact ⟨none, 0, h⟩
  · exact ⟨some a, cap, h⟩

theorem nan1 (x : Int) (w : World) : Calls Try.prog 31 #[.int .i64 x] w fun e w' => e = .returned (.bool false) ∧ w' = w := by
  have h : (x == x) = true := beq_self_eq_true _
  go_enter Try.func31, Try.ntmps31
  go_wp2
  go_ret
  exact ⟨rfl, rfl⟩
theorem nan2 (x : Int) (w : World) : Calls Try.prog 34 #[.int .i64 x] w fun e w' => e = .returned (.bool false) ∧ w' = w := by
  have h : (x == x) = true := beq_self_eq_true _
  go_enter Try.func34, Try.ntmps34
  go_wp2
  go_ret
  exact ⟨rfl, rfl⟩
theorem less_any (x y : Int) (b : Bool) (hb : decide (x < y) = b) (w : World) : Calls Try.prog 30 #[.int .i64 x, .int .i64 y] w fun e w' => e = .returned (.bool b) ∧ w' = w := by
  cases b
  · have h0 : ¬ x < y := of_decide_eq_false hb
    have h1 : y ≤ x := by omega
    go_enter Try.func30, Try.ntmps30
    go_wp2_with (go_at_call 34; refine (nan2 _ _).mono ?_; rintro e w' ⟨rfl, rfl⟩)
    go_ret
    exact ⟨rfl, rfl⟩
  · have h0 : x < y := of_decide_eq_true hb
    go_enter Try.func30, Try.ntmps30
    go_wp2_with (go_at_call 34; refine (nan2 _ _).mono ?_; rintro e w' ⟨rfl, rfl⟩)
    go_ret
    exact ⟨rfl, rfl⟩

set_option maxHeartbeats 4000000 in
set_option maxRecDepth 20000 in
/-- slices.BinarySearch of a row that rises. -/
theorem bs_any (v : Value) (l : List Int) (x : Int) (i : Nat) (b : Bool) (hi : Sd.pl x l = i) (hb : decide (x ∈ l) = b) (w : World) (h : RQ w v l.length (nmC l)) (hl : l.length ≤ 65536) (hs : Sd.Rise l) :
    Calls Try.prog 27 #[v, .int .i64 x] w fun e w' => e = .returned (.tuple #[.int .i64 (i : Int), .bool b]) ∧ w' = w := by
  obtain ⟨ao, cap, rfl⟩ := h.shape
  obtain ⟨m, hm⟩ : ∃ m, l.length = m := ⟨_, rfl⟩
  have HM := hid' hm
  have H := hid' h
  have HS := hid' hs
  have HIP := hid' hi
  have HBP := hid' hb
  rw [hm] at H hl ⊢
  clear h hs hm hi hb
  go_enter Try.func27, Try.ntmps27
  go_wp2
  go_loopw [7, 8, 9] (fun s7 s8 _ wr => ∃ lo hi : Nat, s7 = .int .i64 (lo : Int) ∧ s8 = .int .i64 (hi : Int) ∧ lo ≤ hi ∧ hi ≤ m ∧ wr = w ∧ Hid ((∀ t y, t < lo → l[t]? = some y → y < x) ∧ (∀ t y, hi ≤ t → l[t]? = some y → x ≤ y))) (fun s7 s8 _ _ => (intOf s8 - intOf s7).toNat)
  case atStart => exact ⟨0, m, rfl, rfl, Nat.zero_le _, Nat.le_refl _, rfl, hid' ⟨fun t y ht => absurd ht (Nat.not_lt_zero _), fun t y h1 h2 => by have := (List.getElem?_eq_some_iff.1 h2).1; have := HM.out; omega⟩⟩
  case round =>
    obtain ⟨lo, hi, rfl, rfl, hlh, hhm, hwr, HI⟩ := hrel
    subst wr
    by_cases hlt : lo < hi
    · have hlt2 : (lo : Int) < (hi : Int) := by omega
      obtain ⟨c, hc⟩ : ∃ c, (lo + hi) / 2 = c := ⟨_, rfl⟩
      have hcl : lo ≤ c := by omega
      have hch : c < hi := by omega
      have hcm : c < m := by omega
      have hcm2 : (c : Int) < (m : Int) := by omega
      have hci : ((lo : Int) + (hi : Int)) / 2 = (c : Int) := by omega
      obtain ⟨y, hy⟩ : ∃ y, l[c]? = some y := ⟨_, List.getElem?_eq_getElem (by rw [HM.out]; exact hcm)⟩
      obtain ⟨a, hao, y0⟩ := H.out.at (by omega) c _ (nm_at hy)
      subst hao
      have HY := hid' hy
      clear hy hc
      obtain ⟨d, hd⟩ : ∃ d, decide (y < x) = d := ⟨_, rfl⟩
      have HD := hid' hd
      clear hd
      go_wp2_with (go_at_call 30; refine (less_any y x d HD.out _).mono ?_; rintro e w' ⟨rfl, rfl⟩; refine Hid.out ?_)
      refine hid ?_
      cases d
      · have hyx : ¬ y < x := of_decide_eq_false HD.out
        have HI2 : Hid ((∀ t z, t < lo → l[t]? = some z → z < x) ∧ (∀ t z, c ≤ t → l[t]? = some z → x ≤ z)) := hid' ⟨HI.out.1, fun t z ht hz => by
            by_cases e : t = c
            · subst e; rw [HY.out] at hz; injection hz with hz; subst hz; omega
            · have := List.pairwise_iff_getElem.1 HS.out c t (List.getElem?_eq_some_iff.1 HY.out).1 (List.getElem?_eq_some_iff.1 hz).1 (by omega)
              have e1 := (List.getElem?_eq_some_iff.1 hz).2
              have e2 := (List.getElem?_eq_some_iff.1 HY.out).2
              rw [e1, e2] at this
              omega⟩
        clear HI y0
        go_wp2
        go_roundw
        case rel => exact ⟨lo, c, rfl, rfl, hcl, by omega, by first | rfl | trivial, HI2⟩
        case measure => simp [intOf]; omega
      · have hyx : y < x := of_decide_eq_true HD.out
        have HI2 : Hid ((∀ t z, t < c + 1 → l[t]? = some z → z < x) ∧ (∀ t z, hi ≤ t → l[t]? = some z → x ≤ z)) := hid' ⟨fun t z ht hz => by
            by_cases e : t = c
            · subst e; rw [HY.out] at hz; injection hz with hz; subst hz; exact hyx
            · have := List.pairwise_iff_getElem.1 HS.out t c (List.getElem?_eq_some_iff.1 hz).1 (List.getElem?_eq_some_iff.1 HY.out).1 (by omega)
              have e1 := (List.getElem?_eq_some_iff.1 hz).2
              have e2 := (List.getElem?_eq_some_iff.1 HY.out).2
              rw [e1, e2] at this
              omega, HI.out.2⟩
        clear HI y0
        go_wp2
        go_roundw
        case rel => exact ⟨c + 1, hi, by go_num, rfl, by omega, hhm, by first | rfl | trivial, HI2⟩
        case measure => simp [intOf]; omega
    · have hlh2 : lo = hi := by omega
      subst hlh2
      have hlt2 : ¬ (lo : Int) < (lo : Int) := by omega
      have HLI : Hid (i = lo) := hid' (by rw [← HIP.out]; exact Sd.pl_of x l lo (by rw [HM.out]; exact hhm) HI.out.1 HI.out.2)
      by_cases hlm : lo < m
      · have hlm2 : (lo : Int) < (m : Int) := by omega
        obtain ⟨y, hy⟩ : ∃ y, l[lo]? = some y := ⟨_, List.getElem?_eq_getElem (by rw [HM.out]; exact hlm)⟩
        obtain ⟨a, hao, y0⟩ := H.out.at (by omega) lo _ (nm_at hy)
        subst hao
        have HBY : Hid (b = (y == x)) := hid' (by
          rw [← HBP.out]
          have h1 := Sd.mem_iff x l HS.out
          rw [HIP.out, HLI.out, hy] at h1
          by_cases e : y = x
          · rw [decide_eq_true (h1.2 (by rw [e]))]; simp [e]
          · rw [decide_eq_false (fun hm => e (by have := h1.1 hm; injection this))]; simp [e])
        have HY := hid' hy
        clear hy
        by_cases hyx : y = x
        · have hyb : (y == x) = true := by simp [hyx]
          rw [hyb] at HBY
          subst hyx
          go_wp2_with (go_at_call 31; refine (nan1 _ _).mono ?_; rintro e w' ⟨rfl, rfl⟩)
          go_ret2
          exact ⟨by rw [HBY.out, HLI.out]; rfl, rfl⟩
        · have hyb : (y == x) = false := by simp [hyx]
          rw [hyb] at HBY
          go_wp2_with (go_at_call 31; refine (nan1 _ _).mono ?_; rintro e w' ⟨rfl, rfl⟩)
          go_ret2
          exact ⟨by rw [HBY.out, HLI.out]; rfl, rfl⟩
      · obtain rfl : lo = m := by omega
        have HBY : Hid (b = false) := hid' (by
          rw [← HBP.out]
          have h1 := Sd.mem_iff x l HS.out
          rw [HIP.out, HLI.out, List.getElem?_eq_none (by rw [HM.out]; exact Nat.le_refl _)] at h1
          refine decide_eq_false fun hm => ?_
          have := h1.1 hm
          simp at this)
        have hlm2 : ¬ (lo : Int) < (lo : Int) := by omega
        go_wp2
        go_ret2
        exact ⟨by rw [HBY.out, HLI.out]; rfl, rfl⟩

end Go.Proofs.Ytpgfnhfjkplmaaa
