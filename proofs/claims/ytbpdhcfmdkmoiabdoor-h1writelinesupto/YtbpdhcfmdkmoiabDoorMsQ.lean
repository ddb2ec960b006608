/-
  Messages on lists: lengths as decimals. What is of no program.
-/
import Derived.Test.YtbpdhcfmdkmoiabDoorMsP
import Derived.Test.YtbpdhcfmdkmoiabDoorPureDec
namespace Go.Proofs.YtbpdhcfmdkmoiabDoor
namespace Ms
open Tx

def dg (c : UInt8) : Bool := decide (48 ≤ c.toNat) && decide (c.toNat ≤ 57)
theorem dg_dgt (c : UInt8) : decide (dgt (c.toNat : Int) < 10) = dg c := by
  unfold dgt digC dg
  by_cases h1 : 48 ≤ c.toNat ∧ c.toNat ≤ 57
  · rw [if_pos (by simp; omega)]
    rw [decide_eq_true (by omega), decide_eq_true h1.1, decide_eq_true h1.2]; rfl
  · rw [if_neg (by simp; omega)]
    have : (decide (48 ≤ c.toNat) && decide (c.toNat ≤ 57)) = false := by simp; omega
    rw [this]
    apply decide_eq_false
    split
    · rename_i h; simp at h; omega
    · split
      · rename_i h; simp at h; omega
      · omega
theorem digs_dg (L : List UInt8) : digs 10 L = L.all dg := by
  unfold digs allC
  congr 1
  funext c
  exact dg_dgt c
theorem dgt_dg {c : UInt8} (h : dg c = true) : dgt (c.toNat : Int) = ((c.toNat - 48 : Nat) : Int) := by
  unfold dg at h
  simp at h
  unfold dgt digC
  rw [if_pos (by simp; omega)]
  omega
theorem of_dg {c : UInt8} (h : dg c = true) : UInt8.ofNat (48 + (c.toNat - 48)) = c := by
  unfold dg at h
  simp at h
  apply UInt8.toNat_inj.1
  rw [UInt8.toNat_ofNat', Nat.mod_eq_of_lt] <;> omega
theorem snoc_of {L : List UInt8} {n : Nat} (h : L.length = n + 1) : ∃ r c, L = r ++ [c] ∧ r.length = n := by
  have hne : L ≠ [] := by intro e; rw [e] at h; simp at h
  exact ⟨L.dropLast, L.getLast hne, (List.dropLast_concat_getLast hne).symm, by rw [List.length_dropLast]; omega⟩
/-- A decimal without noughts ahead is written as it is read. -/
theorem dec_back : ∀ (n : Nat) (L : List UInt8), L.length = n + 1 → L.all dg = true → (L.head? = some 48 → n = 0) → ∃ u : Nat, numv 10 L = (u : Int) ∧ Lib.decDigits u = L ∧ (L.head? ≠ some 48 → 1 ≤ u) ∧ u < 10 ^ (n + 1)
  | 0, L, hl, ha, _ => by
    obtain ⟨c, rfl⟩ := List.length_eq_one_iff.1 hl
    have hc : dg c = true := by simpa using ha
    refine ⟨c.toNat - 48, ?_, ?_, ?_, ?_⟩
    · unfold numv
      simp only [List.foldl_cons, List.foldl_nil]
      rw [dgt_dg hc]; omega
    · rw [Lib.decDigits_one (by unfold dg at hc; simp at hc; omega), of_dg hc]
    · intro hh
      unfold dg at hc
      simp at hc hh
      have : c.toNat ≠ 48 := fun e => hh (UInt8.toNat_inj.1 e)
      omega
    · unfold dg at hc; simp at hc; omega
  | n + 1, L, hl, ha, hh => by
    obtain ⟨r, c, rfl, hr⟩ := snoc_of hl
    rw [List.all_append, Bool.and_eq_true] at ha
    have hc : dg c = true := by simpa using ha.2
    have hhd : (r ++ [c]).head? = r.head? := by
      cases r with
      | nil => simp at hr
      | cons a b => rfl
    have h48 : r.head? ≠ some 48 := fun e => by have := hh (hhd.trans e); omega
    obtain ⟨u, hu, hd, h1, hb⟩ := dec_back n r hr ha.1 (fun e => absurd e h48)
    have hu1 := h1 h48
    have hc9 : c.toNat - 48 < 10 := by unfold dg at hc; simp at hc; omega
    refine ⟨u * 10 + (c.toNat - 48), ?_, ?_, fun _ => by omega, by rw [Nat.pow_succ]; omega⟩
    · rw [numv_snoc, hu, dgt_dg hc]; omega
    · rw [Lib.decDigits, dif_neg (by omega), show (u * 10 + (c.toNat - 48)) / 10 = u by omega, show (u * 10 + (c.toNat - 48)) % 10 = c.toNat - 48 by omega, hd, of_dg hc]
theorem dd_head : ∀ (m u : Nat), u ≤ m → 1 ≤ u → (Lib.decDigits u).head? ≠ some 48
  | 0, u, h, h1 => by omega
  | m + 1, u, h, h1 => by
    by_cases hs : u < 10
    · rw [Lib.decDigits_one hs]
      intro e
      simp only [List.head?_cons, Option.some.injEq] at e
      have := congrArg UInt8.toNat e
      rw [UInt8.toNat_ofNat', Nat.mod_eq_of_lt (by omega)] at this
      have h48 : (48 : UInt8).toNat = 48 := rfl
      omega
    · have ih := dd_head m (u / 10) (by omega) (by omega)
      rw [Lib.decDigits, dif_neg hs]
      have hne := (decDigits_reads (u / 10) (u / 10) (Nat.le_refl _)).2.2
      intro e
      apply ih
      cases hq : Lib.decDigits (u / 10) with
      | nil => rw [hq] at hne; simp at hne
      | cons a b => rw [hq] at e; exact e
theorem dec_eq (b : ByteArray) : dec b = (!(tx b == []) && decide (b.size ≤ 15) && !(((tx b).head? == some 48) && decide (1 < b.size)) && (tx b).all dg) := rfl
theorem tx_len (b : ByteArray) : (tx b).length = b.size := by rw [tx, ← Lib.size_eq]
/-- What a text that is a decimal reads as, and that it is written so. -/
theorem dec_num {b : ByteArray} (h : dec b = true) : ∃ u : Nat, num 10 (tx b) = ((u : Int), 0) ∧ Lib.decDigits u = tx b ∧ u < 1000000000000000 := by
  rw [dec_eq] at h
  simp only [Bool.and_eq_true, Bool.not_eq_true', decide_eq_true_eq] at h
  obtain ⟨⟨⟨h1, h2⟩, h3⟩, h4⟩ := h
  have hl := tx_len b
  have h0 : tx b ≠ [] := by intro e; rw [e] at h1; simp at h1
  have hp : 0 < (tx b).length := List.length_pos_iff.2 h0
  obtain ⟨n, hn⟩ : ∃ n, (tx b).length = n + 1 := ⟨(tx b).length - 1, by omega⟩
  obtain ⟨u, hu, hd, _, hb⟩ := dec_back n (tx b) hn h4 (fun e => by
    rw [e] at h3
    simp at h3
    omega)
  have hlt : u < 1000000000000000 := Nat.lt_of_lt_of_le hb (Nat.le_trans (Nat.pow_le_pow_right (by omega) (show n + 1 ≤ 15 by omega)) (by decide))
  refine ⟨u, ?_, hd, hlt⟩
  unfold num
  rw [if_neg (by rw [digs_dg, h4]; simp [h0]), if_neg (by rw [top_eq, hu]; omega), hu]
theorem dec_of {b : ByteArray} (h2 : (num 10 (tx b)).2 = 0) (hs : b.size ≤ 15) (hi : Lib.itoa (num 10 (tx b)).1 = tx b) : dec b = true := by
  have hq : (tx b).isEmpty = false ∧ digs 10 (tx b) = true ∧ num 10 (tx b) = (numv 10 (tx b), 0) := by
    unfold num at h2 ⊢
    split at h2
    · simp at h2
    · rename_i hx
      rw [if_neg hx]
      simp only [Bool.or_eq_true, Bool.not_eq_true', not_or, Bool.not_eq_true, Bool.not_eq_false] at hx
      split at h2
      · simp at h2
      · rename_i hy
        rw [if_neg hy]
        exact ⟨hx.1, hx.2, rfl⟩
  obtain ⟨q1, q2, q3⟩ := hq
  rw [q3] at hi
  obtain ⟨u, hu⟩ := Int.eq_ofNat_of_zero_le (numv_nonneg 10 (by decide) (tx b))
  simp only [hu, Lib.itoa_nonneg] at hi
  rw [dec_eq]
  have hl := tx_len b
  have a1 : (tx b == []) = false := by cases hq : tx b with | nil => rw [hq] at q1; simp at q1 | cons a r => rfl
  have a3 : (((tx b).head? == some 48) && decide (1 < b.size)) = false := by
    by_cases hz : 1 ≤ u
    · have := dd_head u u (Nat.le_refl _) hz
      rw [hi] at this
      rw [show ((tx b).head? == some 48) = false from beq_false_of_ne this]
      rfl
    · have hz0 : u = 0 := by omega
      subst hz0
      rw [Lib.decDigits_one (by omega)] at hi
      rw [← hl, ← hi]
      rfl
  rw [a1, a3, decide_eq_true hs, ← digs_dg, q2]
  rfl
theorem dec_inj {x y : ByteArray} (hx : dec x = true) (hy : dec y = true) (h : (num 10 (tx x)).1 = (num 10 (tx y)).1) : tx x = tx y := by
  obtain ⟨u, hu, hd, _⟩ := dec_num hx
  obtain ⟨v, hv, he, _⟩ := dec_num hy
  rw [hu, hv] at h
  simp only at h
  rw [← hd, ← he]
  congr 1
  omega

end Ms
end Go.Proofs.YtbpdhcfmdkmoiabDoor
