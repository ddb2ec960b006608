/-
  A file's tag is read as one strong tag, and files of other numbers have others: what is of no program.
-/
import Derived.Test.YtbnldneejbbhhaaDoorTgS
import Derived.Test.YtbnldneejbbhhaaDoorTgE
namespace Go.Proofs.YtbnldneejbbhhaaDoor

namespace Tg
theorem itoa_dig : ∀ (m : Nat) (n : Int), 0 ≤ n → n.natAbs ≤ m → ∀ c ∈ Lib.itoa n, 48 ≤ c.toNat ∧ c.toNat ≤ 57 := by
  intro m
  induction m with
  | zero =>
    intro n h0 h1 c hc
    obtain rfl : n = 0 := by omega
    rw [Tx.itoa_lo 0 (by omega) (by omega)] at hc
    simp at hc
    subst hc
    decide
  | succ m ih =>
    intro n h0 h1 c hc
    by_cases h : n < 10
    · rw [Tx.itoa_lo n h0 h] at hc
      simp only [List.mem_singleton] at hc
      subst hc
      rw [UInt8.toNat_ofNat']
      omega
    · rw [Tx.itoa_hi n (by omega)] at hc
      rcases List.mem_append.1 hc with hc | hc
      · exact ih (n / 10) (by omega) (by omega) c hc
      · simp only [List.mem_singleton] at hc
        subst hc
        rw [UInt8.toNat_ofNat']
        omega
theorem dig (n : Int) (h : 0 ≤ n) : ∀ c ∈ Lib.itoa n, 48 ≤ c.toNat ∧ c.toNat ≤ 57 := itoa_dig _ n h (Nat.le_refl _)
theorem et_dig {c : UInt8} (h : 48 ≤ c.toNat ∧ c.toNat ≤ 57) : etB c = true := by
  unfold etB etC
  rw [decide_eq_true (show (35 : Int) ≤ (c.toNat : Int) by omega), decide_eq_true (show ((c.toNat : Int)) ≤ 126 by omega)]
  simp
theorem inn_all {D r : List UInt8} {c : UInt8} (h : ∀ x ∈ D, etB x = true) (hc : etB c = false) : inn (D ++ c :: r) = D.length := by
  unfold inn
  induction D with
  | nil => simp [hc]
  | cons a t ih =>
    rw [List.cons_append, List.takeWhile_cons, h a (by simp)]
    simp only [if_true, List.length_cons]
    rw [ih (fun x hx => h x (by simp [hx]))]
/-- A quoted text. -/
theorem quoted {D : List UInt8} (h : ∀ x ∈ D, etB x = true) (l : List UInt8) (hl : l = 34 :: (D ++ [34])) : star l = false ∧ tags l = [⟨false, l⟩] ∧ err l = 0 := by
  have hwk : wk l = false := by rw [hl]; unfold wk; cases D <;> simp
  have hwn : wn l = 0 := by unfold wn; rw [hwk]; rfl
  have hop : opq l = 34 :: (D ++ [34]) := by unfold opq; rw [hwn, hl]; rfl
  have hsz : sz l = D.length := by
    unfold sz; rw [hop]
    exact inn_all h (by decide)
  have hone : isOne l = true := by
    unfold isOne
    rw [hop, hsz]
    rw [show 1 + D.length = D.length + 1 by omega, List.drop_succ_cons, List.drop_left]
    rfl
  have hlen : l.length = D.length + 2 := by rw [hl]; simp
  have hn : nOf l = l.length := by unfold nOf; rw [hwn, hsz, hlen]; omega
  have htag : tagOf l = ⟨false, l⟩ := by
    unfold tagOf
    rw [hwk, hsz, hop, ← hl, List.take_of_length_le (by omega)]
  have hst : star l = false := by
    unfold star
    have ht : Tx.trim l = l := by
      unfold Tx.trim
      have h1 : Tx.trimL l = l := Tx.trimL_stop l (fun x hx => by rw [hl] at hx; simp at hx; subst hx; decide)
      rw [h1]
      exact Tx.trimR_stop l (fun x hx => by
        rw [hl, show (34 : UInt8) :: (D ++ [34]) = (34 :: D) ++ [34] from rfl, List.getLast?_append] at hx
        simp at hx; subst hx; decide)
    rw [ht, Bool.eq_false_iff]
    intro e
    have := congrArg List.length (eq_of_beq e)
    rw [hlen] at this
    simp at this
  have hgo : go true l = some [⟨false, l⟩] := by
    have h1 := go_other true 34 (D ++ [34]) (by decide) (by decide)
    rw [← hl, hone, hn, htag, List.drop_eq_nil_of_le (Nat.le_refl _), go_nil] at h1
    rw [h1]; rfl
  obtain ⟨t1, t2⟩ := done_some hst hgo
  exact ⟨hst, t1, by rw [t2]; rfl⟩
theorem mk_dig (q : Int) (n : Nat) : ∀ x ∈ Lib.itoa (max q 0) ++ 45 :: Lib.itoa (n : Int), etB x = true := by
  intro x hx
  rcases List.mem_append.1 hx with hx | hx
  · exact et_dig (dig _ (by omega) x hx)
  · rcases List.mem_cons.1 hx with rfl | hx
    · decide
    · exact et_dig (dig _ (by omega) x hx)
theorem mk_read (q : Int) (n : Nat) : star (mk q n) = false ∧ tags (mk q n) = [⟨false, mk q n⟩] ∧ err (mk q n) = 0 := by
  refine quoted (D := Lib.itoa (max q 0) ++ 45 :: Lib.itoa (n : Int)) (mk_dig q n) _ ?_
  unfold mk
  simp
theorem mk_len (q : Int) (n : Nat) (q1 : q ≤ 9223372036854775807) (n1 : n ≤ 9223372036854775807) : (mk q n).length ≤ 100 := by
  have h1 := Tx.itoa_le (max q 0) 19 (by omega)
  have h2 := Tx.itoa_le (n : Int) 19 (by omega)
  unfold mk
  simp
  omega
theorem cut45 {a b x y : List UInt8} (ha : ∀ c ∈ a, c ≠ 45) (hb : ∀ c ∈ b, c ≠ 45) (h : a ++ 45 :: x = b ++ 45 :: y) : a = b := by
  induction a generalizing b with
  | nil =>
    cases b with
    | nil => rfl
    | cons d t => simp at h; exact absurd h.1.symm (hb d (by simp))
  | cons c r ih =>
    cases b with
    | nil => simp at h; exact absurd h.1 (ha c (by simp))
    | cons d t =>
      simp at h
      obtain ⟨rfl, h⟩ := h
      rw [ih (fun c hc => ha c (by simp [hc])) (fun c hc => hb c (by simp [hc])) h]
theorem no45 (n : Int) (h : 0 ≤ n) : ∀ c ∈ Lib.itoa n, c ≠ 45 := fun c hc e => by
  have := (dig n h c hc).1
  rw [e] at this
  revert this; decide
theorem mk_ne {q q' : Int} {n n' : Nat} (q1 : q ≤ 9223372036854775807) (q2 : q' ≤ 9223372036854775807) (h : max q 0 ≠ max q' 0) : mk q n ≠ mk q' n' := by
  intro e
  unfold mk at e
  have e2 := (List.cons.inj e).2
  have e3 := cut45 (no45 _ (by omega)) (no45 _ (by omega)) e2
  have a1 := Tx.num_itoa (max q 0) (by omega) (by omega) 0
  have a2 := Tx.num_itoa (max q' 0) (by omega) (by omega) 0
  rw [e3, a2] at a1
  injection a1 with a1
  exact h a1.symm
theorem aw1 : star [34, 97, 34, 44, 32, 87, 47, 34, 98, 34, 32, 44] = false ∧ tags [34, 97, 34, 44, 32, 87, 47, 34, 98, 34, 32, 44] = [⟨false, [34, 97, 34]⟩, ⟨true, [34, 98, 34]⟩] ∧ err [34, 97, 34, 44, 32, 87, 47, 34, 98, 34, 32, 44] = 0 := by
  have hs : star [34, 97, 34, 44, 32, 87, 47, 34, 98, 34, 32, 44] = false := by decide
  have hg : go true [34, 97, 34, 44, 32, 87, 47, 34, 98, 34, 32, 44] = some [⟨false, [34, 97, 34]⟩, ⟨true, [34, 98, 34]⟩] := by
    rw [go_other true 34 _ (by decide) (by decide), show isOne [34, 97, 34, 44, 32, 87, 47, 34, 98, 34, 32, 44] = true by decide, show nOf [34, 97, 34, 44, 32, 87, 47, 34, 98, 34, 32, 44] = 3 by decide]
    rw [show List.drop 3 [(34 : UInt8), 97, 34, 44, 32, 87, 47, 34, 98, 34, 32, 44] = [44, 32, 87, 47, 34, 98, 34, 32, 44] from rfl, go_comma, go_blank true 32 _ (by decide)]
    rw [go_other true 87 _ (by decide) (by decide), show isOne [87, 47, 34, 98, 34, 32, 44] = true by decide, show nOf [87, 47, 34, 98, 34, 32, 44] = 5 by decide]
    rw [show List.drop 5 [(87 : UInt8), 47, 34, 98, 34, 32, 44] = [32, 44] from rfl, go_blank false 32 _ (by decide), go_comma, go_nil]
    rfl
  obtain ⟨t1, t2⟩ := done_some hs hg
  exact ⟨hs, t1, by rw [t2]; rfl⟩
theorem aw2 : star [97] = false ∧ tags [97] = [] ∧ err [97] = 150 := by
  have hs : star [97] = false := by decide
  have hg : go true [97] = none := by
    rw [go_other true 97 _ (by decide) (by decide), show isOne [97] = false by decide]; rfl
  obtain ⟨t1, t2⟩ := done_none hs hg
  exact ⟨hs, t1, t2⟩
theorem aw3 : mk 3 5 = [34, 51, 45, 53, 34] := by
  unfold mk
  rw [show max (3 : Int) 0 = 3 by decide, show ((5 : Nat) : Int) = 5 from rfl, Tx.itoa_lo 3 (by decide) (by decide), Tx.itoa_lo 5 (by decide) (by decide)]
  rfl
end Tg
end Go.Proofs.YtbnldneejbbhhaaDoor
