/-
  slices.Contains, BinarySearchFunc, (*Book).find: by their contracts.
-/
import Derived.Test.YthgdokcdpmoeeaaStD
namespace Go.Proofs.Ythgdokcdpmoeeaa
open Go.RowKit

theorem idx_mem (l : List Nat) (n : Nat) : decide (0 ≤ (match l.findIdx? (· == n) with | some i => (i : Int) | none => -1)) = decide (n ∈ l) := by
  cases h : l.findIdx? (· == n) with
  | some i =>
    rw [List.findIdx?_eq_some_iff_getElem] at h
    obtain ⟨hi, h1, _⟩ := h
    have : n ∈ l := by
      simp at h1
      rw [← h1]
      exact List.getElem_mem hi
    simp [this]
  | none =>
    rw [List.findIdx?_eq_none_iff] at h
    have : n ∉ l := fun hm => by have := h n hm; simp at this
    simp [this]
/-- slices.Contains of a row of streams. -/
theorem scontains_any (v : Value) (l : List Nat) (n : Nat) (b : Bool) (hb : decide (n ∈ l) = b) (w : World) (h : RR w v l.length (idCells l)) (hl : l.length ≤ 65536) :
    Calls Try.prog 41 #[v, .int .i64 (n : Int)] w fun e w' => e = .returned (.bool b) ∧ w' = w := by
  obtain ⟨r, hr⟩ : ∃ r : Int, (match l.findIdx? (· == n) with | some i => (i : Int) | none => -1) = r := ⟨_, rfl⟩
  have hb2 : decide (0 ≤ r) = b := by rw [← hb, ← idx_mem, hr]
  have HC := hid' (sindex_any v l n r hr w h hl)
  clear h hr hb
  go_enter Try.func41, Try.ntmps41
  go_wp2_with fail
  refine HC.out.mono ?_
  rintro e w1 ⟨rfl, rfl⟩
  cases b
  · have h0 : ¬ (0 ≤ r) := of_decide_eq_false hb2
    have h1 : r < 0 := by omega
    go_wp2
    go_ret
    exact ⟨by simp, rfl⟩
  · have h0 : 0 ≤ r := of_decide_eq_true hb2
    go_wp2
    go_ret
    exact ⟨by simp, rfl⟩

/-- What the entry and the stream that is looked for are to each other. -/
theorem sfind1_any (x ph n : Nat) (w : World) : Calls Try.prog 75 #[.agg #[.int .i64 (x : Int), .int .u8 (ph : Int)], .int .i64 (n : Int)] w fun e w' => e = .returned (.int .i64 (if x < n then -1 else if n < x then 1 else 0)) ∧ Below w.heap.size w w' := by
  obtain ⟨r, hr⟩ : ∃ r : Int, (if x < n then -1 else if n < x then 1 else 0) = r := ⟨_, rfl⟩
  have hr2 : (if (x : Int) < (n : Int) then -1 else if (n : Int) < (x : Int) then 1 else 0) = r := by
    rw [← hr]
    simp only [Int.ofNat_lt]
  have HC : Hid (∀ w : World, Calls Try.prog 76 #[.int .i64 (x : Int), .int .i64 (n : Int)] w fun e w' => e = .returned (.int .i64 r) ∧ w' = w) := hid' (fun w => by have := scompare_any (x : Int) (n : Int) w; rwa [hr2] at this)
  rw [hr]
  clear hr hr2
  go_enter Try.func75, Try.ntmps75
  go_wp2_with fail
  refine (HC.out _).mono ?_
  rintro e w1 ⟨rfl, hw1⟩
  subst w1
  go_wp2
  go_ret
  exact ⟨rfl, (Below.refl _ _).alloc (Nat.le_refl _) _⟩

/-- A place, and whether it is one. -/
structure Pl where
  i : Nat
  b : Bool
/-- What a search has found. -/
def Fnd (l : List (Nat × Nat)) (n i : Nat) (b : Bool) : Prop := (b = true ∧ ∃ p, l[i]? = some (n, p)) ∨ (b = false ∧ ∀ x ∈ l, x.1 ≠ n)

set_option maxHeartbeats 4000000 in
set_option maxRecDepth 20000 in
/-- slices.BinarySearchFunc of a row of entries that rise. -/
theorem ssearch_any (v : Value) (l : List (Nat × Nat)) (n : Nat) (w : World) (h : RR w v l.length (enCells l)) (hl : l.length ≤ 65536) (hs : l.Pairwise (fun x y => x.1 < y.1)) :
    Calls Try.prog 74 #[v, .int .i64 (n : Int), .func (.func 75) #[] #[]] w fun e w' => (∃ q : Pl, e = .returned (.tuple #[.int .i64 (q.i : Int), .bool q.b]) ∧ Fnd l n q.i q.b) ∧ Below w.heap.size w w' := by
  obtain ⟨ao, cap, rfl⟩ := h.shape
  obtain ⟨m, hm⟩ : ∃ m, l.length = m := ⟨_, rfl⟩
  have HM := hid' hm
  have H := hid' h
  have HS := hid' hs
  rw [hm] at H hl ⊢
  have HB0 : Hid (Below w.heap.size w w) := hid' (Below.refl _ _)
  clear h hs hm
  go_enter Try.func74, Try.ntmps74
  go_wp2
  go_loopw [9, 10, 11] (fun s9 s10 _ wr => ∃ lo hi : Nat, s9 = .int .i64 (lo : Int) ∧ s10 = .int .i64 (hi : Int) ∧ lo ≤ hi ∧ hi ≤ m ∧ Hid (Below w.heap.size w wr) ∧ Hid ((∀ t x, t < lo → l[t]? = some x → x.1 < n) ∧ (∀ t x, hi ≤ t → l[t]? = some x → n ≤ x.1))) (fun s9 s10 _ _ => (intOf s10 - intOf s9).toNat)
  case atStart => exact ⟨0, m, rfl, rfl, Nat.zero_le _, Nat.le_refl _, HB0, hid' ⟨fun t x ht => absurd ht (Nat.not_lt_zero _), fun t x h1 h2 => by have := (List.getElem?_eq_some_iff.1 h2).1; have := HM.out; omega⟩⟩
  case round =>
    clear HB0
    obtain ⟨lo, hi, rfl, rfl, hlh, hhm, HB, HI⟩ := hrel
    by_cases hlt : lo < hi
    · have hlt2 : (lo : Int) < (hi : Int) := by omega
      obtain ⟨c, hc⟩ : ∃ c, (lo + hi) / 2 = c := ⟨_, rfl⟩
      have hcl : lo ≤ c := by omega
      have hch : c < hi := by omega
      have hcm : c < m := by omega
      have hcm2 : (c : Int) < (m : Int) := by omega
      have hci : ((lo : Int) + (hi : Int)) / 2 = (c : Int) := by omega
      obtain ⟨x, hx⟩ : ∃ x, l[c]? = some x := ⟨_, List.getElem?_eq_getElem (by rw [HM.out]; exact hcm)⟩
      obtain ⟨a, hao, x0, x1⟩ := (H.out.keep HB.out).two HM.out.symm c x hx
      subst hao
      have HX := hid' hx
      clear hx hc
      go_wp2_with fail
      refine (sfind1_any x.1 x.2 n _).mono ?_
      rintro e w1 ⟨rfl, hb1⟩
      have HB1 := hid' (below_two HB.out hb1)
      clear hb1
      by_cases hxn : x.1 < n
      · have HI2 : Hid ((∀ t y, t < c + 1 → l[t]? = some y → y.1 < n) ∧ (∀ t y, hi ≤ t → l[t]? = some y → n ≤ y.1)) := hid' ⟨fun t y ht hy => by
            by_cases e : t = c
            · subst e; rw [HX.out] at hy; injection hy with hy; subst hy; exact hxn
            · have := List.pairwise_iff_getElem.1 HS.out t c (List.getElem?_eq_some_iff.1 hy).1 (List.getElem?_eq_some_iff.1 HX.out).1 (by omega)
              have e1 := (List.getElem?_eq_some_iff.1 hy).2
              have e2 := (List.getElem?_eq_some_iff.1 HX.out).2
              rw [e1, e2] at this
              omega, HI.out.2⟩
        simp only [if_pos hxn]
        clear HI x0 x1
        go_wp2
        go_roundw
        case rel => exact ⟨c + 1, hi, by go_num, rfl, by omega, hhm, HB1, HI2⟩
        case measure => simp [intOf]; omega
      · obtain ⟨r, hr⟩ : ∃ r : Int, (if n < x.1 then 1 else 0) = r := ⟨_, rfl⟩
        have hr0 : ¬ r < 0 := by rw [← hr]; split <;> omega
        have hr1 : 0 ≤ r := by omega
        have hr2 : decide (r < 0) = false := decide_eq_false hr0
        have HI2 : Hid ((∀ t y, t < lo → l[t]? = some y → y.1 < n) ∧ (∀ t y, c ≤ t → l[t]? = some y → n ≤ y.1)) := hid' ⟨HI.out.1, fun t y ht hy => by
            by_cases e : t = c
            · subst e; rw [HX.out] at hy; injection hy with hy; subst hy; omega
            · have := List.pairwise_iff_getElem.1 HS.out c t (List.getElem?_eq_some_iff.1 HX.out).1 (List.getElem?_eq_some_iff.1 hy).1 (by omega)
              have e1 := (List.getElem?_eq_some_iff.1 hy).2
              have e2 := (List.getElem?_eq_some_iff.1 HX.out).2
              rw [e1, e2] at this
              omega⟩
        simp only [if_neg hxn]
        rw [hr]
        clear HI x0 x1 hr hxn
        go_wp2
        go_roundw
        case rel => exact ⟨lo, c, rfl, rfl, hcl, by omega, HB1, HI2⟩
        case measure => simp [intOf]; omega
    · have hlh2 : lo = hi := by omega
      subst hlh2
      have hlt2 : ¬ (lo : Int) < (lo : Int) := by omega
      by_cases hlm : lo < m
      · have hlm2 : (lo : Int) < (m : Int) := by omega
        obtain ⟨x, hx⟩ : ∃ x, l[lo]? = some x := ⟨_, List.getElem?_eq_getElem (by rw [HM.out]; exact hlm)⟩
        obtain ⟨a, hao, x0, x1⟩ := (H.out.keep HB.out).two HM.out.symm lo x hx
        subst hao
        have HX := hid' hx
        have hnx := HI.out.2 lo x (Nat.le_refl _) hx
        clear hx
        go_wp2_with fail
        refine (sfind1_any x.1 x.2 n _).mono ?_
        rintro e w1 ⟨rfl, hb1⟩
        have HB1 := hid' (below_two HB.out hb1)
        clear hb1
        rw [if_neg (by omega)]
        by_cases hxn : n < x.1
        · rw [if_pos hxn]
          have HF : Fnd l n lo false := (.inr ⟨rfl, fun y hy e => by
            obtain ⟨t, ht, rfl⟩ := List.getElem_of_mem hy
            by_cases e2 : t < lo
            · have := HI.out.1 t _ e2 (List.getElem?_eq_getElem ht); omega
            · by_cases e3 : t = lo
              · subst e3
                have h1 := HX.out
                rw [List.getElem?_eq_getElem ht] at h1
                injection h1 with h1
                rw [h1] at e
                omega
              · have := List.pairwise_iff_getElem.1 HS.out lo t (List.getElem?_eq_some_iff.1 HX.out).1 ht (by omega)
                rw [(List.getElem?_eq_some_iff.1 HX.out).2] at this
                omega⟩)
          clear HI x0 x1
          go_wp2
          go_ret2
          exact ⟨⟨⟨lo, false⟩, rfl, HF⟩, HB1.out⟩
        · rw [if_neg hxn]
          have HF : Fnd l n lo true := (.inl ⟨rfl, x.2, by rw [HX.out, show n = x.1 by omega]⟩)
          clear HI x0 x1
          go_wp2
          go_ret2
          exact ⟨⟨⟨lo, true⟩, rfl, HF⟩, HB1.out⟩
      · have hlm2 : ¬ (lo : Int) < (m : Int) := by omega
        have HF : Fnd l n lo false := (.inr ⟨rfl, fun y hy e => by
          obtain ⟨t, ht, rfl⟩ := List.getElem_of_mem hy
          have := HI.out.1 t _ (by have := HM.out; omega) (List.getElem?_eq_getElem ht)
          omega⟩)
        clear HI
        go_wp2
        go_ret2
        exact ⟨⟨⟨lo, false⟩, rfl, HF⟩, HB.out⟩

end Go.Proofs.Ythgdokcdpmoeeaa
