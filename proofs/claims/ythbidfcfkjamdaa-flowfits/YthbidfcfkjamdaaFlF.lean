/-
  How much fits: the code's Fits and the document's.
-/
import Derived.Test.YthbidfcfkjamdaaFlB
namespace Go.Proofs.Ythbidfcfkjamdaa
open Go.RowKit

/-- A row that can be read. -/
def RR (w : World) (v : Value) (n : Nat) (xs : List Value) : Prop :=
  (v = .slice none 0 0 ∧ n = 0) ∨ ∃ a cap, v = .slice (some a) n cap ∧ ∀ j u, xs[j]? = some u → (a.add j).block < w.heap.size ∧ w.cell? (a.add j) = some u
theorem RR.keep {w w' : World} {v : Value} {n : Nat} {xs : List Value} (h : RR w v n xs) (hb : Below w.heap.size w w') : RR w' v n xs := by
  rcases h with h | ⟨a, cap, hv, hc⟩
  · exact .inl h
  · exact .inr ⟨a, cap, hv, fun j u hj => ⟨Nat.lt_of_lt_of_le (hc j u hj).1 hb.size, (hb.cell (hc j u hj).1).trans (hc j u hj).2⟩⟩
theorem RR.shape {w : World} {v : Value} {n : Nat} {xs : List Value} (h : RR w v n xs) : ∃ ao cap, v = .slice ao n cap := by
  rcases h with ⟨h, rfl⟩ | ⟨a, cap, h, _⟩
  · exact ⟨none, 0, h⟩
  · exact ⟨some a, cap, h⟩
theorem RR.of_own {w : World} {B : Nat} {e : TypeId} {s : Nat} {v : Value} {n : Nat} {xs : List Value} (h : w.ownsRow B e s v n xs) : RR w v n xs := by
  rcases h.2 with ⟨hv, hn⟩ | ⟨g, cap, cur, hv, _, h3, _⟩
  · exact .inl ⟨hv, hn⟩
  · refine .inr ⟨⟨g, 0, none⟩, cap, hv, fun j u hj => ⟨?_, ?_⟩⟩
    · have := (Array.getElem?_eq_some_iff.1 h3).1
      unfold Addr.add
      split <;> exact this
    · exact h.cells (g := g) (by rw [hv]; rfl) j u hj
theorem RR.at {w : World} {ao : Option Addr} {n n' cap : Nat} {xs : List Value} (h : RR w (.slice ao n cap) n' xs) (hn : n' = xs.length) (i : Nat) (y : Value) (hp : xs[i]? = some y) : ∃ a, ao = some a ∧ w.cell? (a.add i) = some y := by
  rcases h with ⟨_, rfl⟩ | ⟨a, cap', hv, hc⟩
  · have := (List.getElem?_eq_some_iff.1 hp).1; omega
  · injection hv with h1 _ _
    exact ⟨a, h1, (hc _ _ hp).2⟩

/-- A window, or none, and its size. -/
def wpC (q : Option Nat × Int) : Value := .pointer (q.1.map fun b => ⟨b, 0, none⟩)

/-- It is so in memory. -/
def Wn (w : World) (q : Option Nat × Int) : Prop := match q.1 with
  | none => q.2 = 0
  | some b => Ar w b 80 #[.int .i64 q.2]

theorem Wn.keep {w w' : World} {q : Option Nat × Int} (h : Wn w q) (hb : Below w.heap.size w w') : Wn w' q := by
  obtain ⟨q1, q2⟩ := q
  cases q1 with
  | none => exact h
  | some b => exact Ar.keep h hb

theorem wsize_of (q : Option Nat × Int) (w : World) (h : Wn w q) : Calls Try.prog 22 #[wpC q] w fun e w' => e = .returned (.int .i64 q.2) ∧ w' = w := by
  obtain ⟨q1, q2⟩ := q
  cases q1 with
  | none =>
    obtain rfl : q2 = 0 := h
    exact wsize_nil w
  | some b => exact wsize_any b q2 w h

theorem foldl_at (l : List Int) (k : Nat) (s n : Int) (h : l[k]? = some s) (f : Int → Int → Int) : (l.drop k).foldl f n = (l.drop (k + 1)).foldl f (f n s) := by
  obtain ⟨hk, hs⟩ := List.getElem?_eq_some_iff.1 h
  rw [List.drop_eq_getElem_cons hk, List.foldl_cons, hs]

set_option maxHeartbeats 4000000 in
theorem cfits_any (v : Value) (qs : List (Option Nat × Int)) (n r : Int) (hr : Fw.fits n (qs.map (·.2)) = r) (w : World) (h : RR w v qs.length (qs.map wpC)) (hq : ∀ q ∈ qs, Wn w q) (hl : qs.length ≤ 65536) :
    Calls Try.prog 23 #[.int .i64 n, v] w fun e w' => e = .returned (.int .i64 r) ∧ w' = w := by
  obtain ⟨ao, cap, rfl⟩ := h.shape
  obtain ⟨m, hm⟩ : ∃ m, qs.length = m := ⟨_, rfl⟩
  have HM := hid' hm
  have H := hid' h
  have HR := hid' hr
  have HQ := hid' hq
  rw [hm] at H hl ⊢
  clear h hr hm hq
  go_enter Try.func23, Try.ntmps23
  go_wp2
  go_loopw [0, 6, 9] (fun s0 _ i wr => ∃ (k : Nat) (n' : Int), k ≤ m ∧ i = .int .i64 k ∧ s0 = .int .i64 n' ∧ Hid (max (((qs.map (·.2)).drop k).foldl min n') 0 = r) ∧ wr = w) (fun _ _ i _ => m - (intOf i).toNat)
  case atStart => exact ⟨0, n, Nat.zero_le _, rfl, rfl, hid' (by rw [List.drop_zero]; exact HR.out), rfl⟩
  case round =>
    obtain ⟨k, n', hk, rfl, rfl, HN, hwr⟩ := hrel
    subst wr
    by_cases hlt : k < m
    · have hlt2 : (k : Int) < (m : Int) := by omega
      obtain ⟨q, hy⟩ : ∃ q, qs[k]? = some q := ⟨_, List.getElem?_eq_getElem (by rw [HM.out]; exact hlt)⟩
      obtain ⟨a, hao, hc⟩ := H.out.at (by simp [HM.out]) k (wpC q) (by simp [hy])
      subst hao
      obtain ⟨s, hs⟩ : ∃ s, q.2 = s := ⟨_, rfl⟩
      have HW := hid' (wsize_of q w (HQ.out q (List.mem_of_getElem? hy)))
      rw [hs] at HW
      have HS : Hid (max (((qs.map (·.2)).drop (k + 1)).foldl min (min n' s)) 0 = r) := hid' (by
        rw [← foldl_at _ k s n' (by simp [hy, hs]) min]; exact HN.out)
      obtain ⟨pv, hpv⟩ : ∃ pv, wpC q = pv := ⟨_, rfl⟩
      rw [hpv] at HW hc
      clear hy hs hpv HN
      go_wp2_with fail
      refine HW.out.mono ?_
      rintro e w1 ⟨rfl, hw1⟩
      subst w1
      rcases Int.lt_trichotomy s n' with hc1 | hc1 | hc1
      · have e1 : min n' s = s := by omega
        rw [e1] at HS
        clear e1 HW
        go_wp2
        go_roundw
        case rel => exact ⟨k + 1, s, by omega, by go_num, rfl, HS, trivial⟩
        case measure => simp [intOf]; omega
      · subst hc1
        have e1 : min s s = s := by omega
        rw [e1] at HS
        clear e1 HW
        go_wp2
        go_roundw
        case rel => exact ⟨k + 1, s, by omega, by go_num, rfl, HS, trivial⟩
        case measure => simp [intOf]; omega
      · have e1 : min n' s = n' := by omega
        rw [e1] at HS
        clear e1 HW
        go_wp2
        go_roundw
        case rel => exact ⟨k + 1, n', by omega, by go_num, rfl, HS, trivial⟩
        case measure => simp [intOf]; omega
    · have hlt2 : ¬ (k : Int) < (m : Int) := by omega
      have HE : Hid (max n' 0 = r) := hid' (by
        have := HN.out
        rw [List.drop_eq_nil_of_le (by simp [HM.out]; omega)] at this
        exact this)
      clear HN
      by_cases h0 : n' < 0
      · obtain rfl : 0 = r := by rw [← HE.out]; omega
        go_wp2
        go_ret
        exact ⟨rfl, rfl⟩
      · obtain rfl : n' = r := by rw [← HE.out]; omega
        go_wp2
        go_ret
        exact ⟨rfl, rfl⟩

def nmC (l : List Int) : List Value := l.map (Value.int .i64)
set_option maxHeartbeats 4000000 in
theorem dfits_any (v : Value) (l : List Int) (n r : Int) (hr : Fw.fits n l = r) (w : World) (h : RR w v l.length (nmC l)) (hl : l.length ≤ 65536) :
    Calls Try.prog 24 #[.int .i64 n, v] w fun e w' => e = .returned (.int .i64 r) ∧ w' = w := by
  obtain ⟨ao, cap, rfl⟩ := h.shape
  obtain ⟨m, hm⟩ : ∃ m, l.length = m := ⟨_, rfl⟩
  have HM := hid' hm
  have H := hid' h
  have HR : Hid (Fw.fitsD (max n 0) l = r) := hid' (by rw [← Fw.fits_eq]; exact hr)
  rw [hm] at H hl ⊢
  clear h hr hm
  obtain ⟨n1, hn1⟩ : ∃ n1, max n 0 = n1 := ⟨_, rfl⟩
  rw [hn1] at HR
  by_cases hz : n < 0
  · obtain rfl : 0 = n1 := by omega
    clear hn1
    go_enter Try.func24, Try.ntmps24
    go_wp2
    go_loopw [5, 6] (fun s0 i wr => ∃ (k : Nat) (n' : Int), k ≤ m ∧ i = .int .i64 k ∧ s0 = .int .i64 n' ∧ Hid ((l.drop k).foldl (fun k s => min k (max s 0)) n' = r) ∧ wr = w) (fun _ i _ => m - (intOf i).toNat)
    case atStart => exact ⟨0, 0, Nat.zero_le _, rfl, rfl, hid' (by rw [List.drop_zero]; exact HR.out), rfl⟩
    case round =>
      obtain ⟨k, n', hk, rfl, rfl, HN, hwr⟩ := hrel
      subst wr
      by_cases hlt : k < m
      · have hlt2 : (k : Int) < (m : Int) := by omega
        obtain ⟨s, hy⟩ : ∃ s, l[k]? = some s := ⟨_, List.getElem?_eq_getElem (by rw [HM.out]; exact hlt)⟩
        obtain ⟨a, hao, hc⟩ := H.out.at (by simp [nmC, HM.out]) k (.int .i64 s) (by simp [nmC, hy])
        subst hao
        have HS : Hid ((l.drop (k + 1)).foldl (fun k s => min k (max s 0)) (min n' (max s 0)) = r) := hid' (by
          rw [← foldl_at _ k s n' hy (fun k s => min k (max s 0))]; exact HN.out)
        clear hy HN
        by_cases hz2 : s < 0
        · have e0 : max s 0 = 0 := by omega
          rw [e0] at HS
          clear e0
          rcases Int.lt_trichotomy 0 n' with hc1 | hc1 | hc1
          · have e1 : min n' 0 = 0 := by omega
            rw [e1] at HS
            clear e1
            go_wp2
            go_roundw
            case rel => exact ⟨k + 1, 0, by omega, by go_num, rfl, HS, trivial⟩
            case measure => simp [intOf]; omega
          · subst hc1
            have e1 : min (0 : Int) 0 = 0 := by omega
            rw [e1] at HS
            clear e1
            go_wp2
            go_roundw
            case rel => exact ⟨k + 1, 0, by omega, by go_num, rfl, HS, trivial⟩
            case measure => simp [intOf]; omega
          · have e1 : min n' 0 = n' := by omega
            rw [e1] at HS
            clear e1
            go_wp2
            go_roundw
            case rel => exact ⟨k + 1, n', by omega, by go_num, rfl, HS, trivial⟩
            case measure => simp [intOf]; omega
        · have e0 : max s 0 = s := by omega
          rw [e0] at HS
          clear e0
          rcases Int.lt_trichotomy s n' with hc1 | hc1 | hc1
          · have e1 : min n' s = s := by omega
            rw [e1] at HS
            clear e1
            go_wp2
            go_roundw
            case rel => exact ⟨k + 1, s, by omega, by go_num, rfl, HS, trivial⟩
            case measure => simp [intOf]; omega
          · subst hc1
            have e1 : min s s = s := by omega
            rw [e1] at HS
            clear e1
            go_wp2
            go_roundw
            case rel => exact ⟨k + 1, s, by omega, by go_num, rfl, HS, trivial⟩
            case measure => simp [intOf]; omega
          · have e1 : min n' s = n' := by omega
            rw [e1] at HS
            clear e1
            go_wp2
            go_roundw
            case rel => exact ⟨k + 1, n', by omega, by go_num, rfl, HS, trivial⟩
            case measure => simp [intOf]; omega
      · have hlt2 : ¬ (k : Int) < (m : Int) := by omega
        obtain rfl : n' = r := by
          have := HN.out
          rw [List.drop_eq_nil_of_le (by rw [HM.out]; omega)] at this
          exact this
        clear HN
        go_wp2
        go_ret
        exact ⟨rfl, rfl⟩
  · obtain rfl : n = n1 := by omega
    clear hn1
    go_enter Try.func24, Try.ntmps24
    go_wp2
    go_loopw [5, 6] (fun s0 i wr => ∃ (k : Nat) (n' : Int), k ≤ m ∧ i = .int .i64 k ∧ s0 = .int .i64 n' ∧ Hid ((l.drop k).foldl (fun k s => min k (max s 0)) n' = r) ∧ wr = w) (fun _ i _ => m - (intOf i).toNat)
    case atStart => exact ⟨0, n, Nat.zero_le _, rfl, rfl, hid' (by rw [List.drop_zero]; exact HR.out), rfl⟩
    case round =>
      obtain ⟨k, n', hk, rfl, rfl, HN, hwr⟩ := hrel
      subst wr
      by_cases hlt : k < m
      · have hlt2 : (k : Int) < (m : Int) := by omega
        obtain ⟨s, hy⟩ : ∃ s, l[k]? = some s := ⟨_, List.getElem?_eq_getElem (by rw [HM.out]; exact hlt)⟩
        obtain ⟨a, hao, hc⟩ := H.out.at (by simp [nmC, HM.out]) k (.int .i64 s) (by simp [nmC, hy])
        subst hao
        have HS : Hid ((l.drop (k + 1)).foldl (fun k s => min k (max s 0)) (min n' (max s 0)) = r) := hid' (by
          rw [← foldl_at _ k s n' hy (fun k s => min k (max s 0))]; exact HN.out)
        clear hy HN
        by_cases hz2 : s < 0
        · have e0 : max s 0 = 0 := by omega
          rw [e0] at HS
          clear e0
          rcases Int.lt_trichotomy 0 n' with hc1 | hc1 | hc1
          · have e1 : min n' 0 = 0 := by omega
            rw [e1] at HS
            clear e1
            go_wp2
            go_roundw
            case rel => exact ⟨k + 1, 0, by omega, by go_num, rfl, HS, trivial⟩
            case measure => simp [intOf]; omega
          · subst hc1
            have e1 : min (0 : Int) 0 = 0 := by omega
            rw [e1] at HS
            clear e1
            go_wp2
            go_roundw
            case rel => exact ⟨k + 1, 0, by omega, by go_num, rfl, HS, trivial⟩
            case measure => simp [intOf]; omega
          · have e1 : min n' 0 = n' := by omega
            rw [e1] at HS
            clear e1
            go_wp2
            go_roundw
            case rel => exact ⟨k + 1, n', by omega, by go_num, rfl, HS, trivial⟩
            case measure => simp [intOf]; omega
        · have e0 : max s 0 = s := by omega
          rw [e0] at HS
          clear e0
          rcases Int.lt_trichotomy s n' with hc1 | hc1 | hc1
          · have e1 : min n' s = s := by omega
            rw [e1] at HS
            clear e1
            go_wp2
            go_roundw
            case rel => exact ⟨k + 1, s, by omega, by go_num, rfl, HS, trivial⟩
            case measure => simp [intOf]; omega
          · subst hc1
            have e1 : min s s = s := by omega
            rw [e1] at HS
            clear e1
            go_wp2
            go_roundw
            case rel => exact ⟨k + 1, s, by omega, by go_num, rfl, HS, trivial⟩
            case measure => simp [intOf]; omega
          · have e1 : min n' s = n' := by omega
            rw [e1] at HS
            clear e1
            go_wp2
            go_roundw
            case rel => exact ⟨k + 1, n', by omega, by go_num, rfl, HS, trivial⟩
            case measure => simp [intOf]; omega
      · have hlt2 : ¬ (k : Int) < (m : Int) := by omega
        obtain rfl : n' = r := by
          have := HN.out
          rw [List.drop_eq_nil_of_le (by rw [HM.out]; omega)] at this
          exact this
        clear HN
        go_wp2
        go_ret
        exact ⟨rfl, rfl⟩

end Go.Proofs.Ythbidfcfkjamdaa
