/-
  What is said rightly is made again: plain.
-/
import Derived.Test.YthgdokcdpmoeeaaFrMk
namespace Go.Proofs.Ythgdokcdpmoeeaa
open Go.RowKit

namespace Fm
theorem num_idn (l : List UInt8) : (idn (enc 4 ((idn l : Nat) : Int) ++ l.drop 4) : Nat) = idn l := by
  unfold idn
  rw [List.take_left' (enc_length 4 _)]
  have h1 := num_enc4 (((num (l.take 4) % 2147483648 : Nat)) : Int)
  have := Nat.mod_lt (num (l.take 4)) (show 0 < 2147483648 by decide)
  omega
/-- A priority's five bytes. -/
theorem prB_eq {l d : List UInt8} (h : 5 ≤ l.length) : prB (prio l d) = l.take 5 := by
  match l, h with
  | a :: b :: c :: e :: f :: r, _ =>
    have ha := UInt8.toNat_lt a; have hb := UInt8.toNat_lt b; have hc := UInt8.toNat_lt c; have he := UInt8.toNat_lt e
    have hq : num ((a :: b :: c :: e :: f :: r).take 4) = 16777216 * a.toNat + 65536 * b.toNat + 256 * c.toNat + e.toNat := num4 a b c e
    have hn : lastOr (prio (a :: b :: c :: e :: f :: r) d).last (prio (a :: b :: c :: e :: f :: r) d).only = ((16777216 * a.toNat + 65536 * b.toNat + 256 * c.toNat + e.toNat : Nat) : Int) := by
      unfold prio lastOr idn
      simp only
      rw [hq]
      by_cases ht : 2147483648 ≤ 16777216 * a.toNat + 65536 * b.toNat + 256 * c.toNat + e.toNat
      · rw [decide_eq_true ht, if_pos rfl, or_top _ (by omega) (by omega)]; omega
      · rw [decide_eq_false ht, if_neg (by decide)]; omega
    have hw : byt ((prio (a :: b :: c :: e :: f :: r) d).weight - 1) = f := by
      have hf := UInt8.toNat_lt f
      refine byt_of f _ ?_
      show (((f.toNat : Int) + 1 - 1) % 256) = f.toNat
      omega
    unfold prB
    rw [hn, hw, enc4, byt_of a _ (by omega), byt_of b _ (by omega), byt_of c _ (by omega), byt_of e _ (by omega)]
    rfl
theorem stB_sets (n : Nat) (l : List UInt8) (acc : List (Int × Int)) (p : Pt) (hl : l.length = 6 * n) (h : sets n l acc = .ok p) : stB p.sets = stB acc ++ l := by
  induction n generalizing l acc with
  | zero =>
    simp only [sets] at h
    injection h with h
    subst h
    have : l = [] := List.eq_nil_of_length_eq_zero (by omega)
    simp [this]
  | succ n ih =>
    simp only [sets] at h
    split at h
    · have h1 := ih (l.drop 6) _ (by rw [List.length_drop]; omega) h
      rw [h1]
      have e2 : enc 2 ((num (l.take 2) : Nat) : Int) = l.take 2 := enc_num2 (by rw [List.length_take]; omega)
      have e4 : enc 4 ((num ((l.drop 2).take 4) : Nat) : Int) = (l.drop 2).take 4 := enc_num4 (by rw [List.length_take, List.length_drop]; omega)
      have es : stB (acc ++ [(((num (l.take 2) : Nat) : Int), ((num ((l.drop 2).take 4) : Nat) : Int))]) = stB acc ++ (l.take 2 ++ (l.drop 2).take 4) := by
        simp [stB, e2, e4]
      rw [es, List.append_assoc]
      congr 1
      have d6 : l.drop 6 = (l.drop 2).drop 4 := by rw [List.drop_drop]
      rw [d6, List.append_assoc, List.take_append_drop, List.take_append_drop]
    · cases h
theorem parse_ok {k fl st : Int} {l : List UInt8} {p : Pt} (h : parse k fl st l = .ok p) : mis k st = false ∧ sized k fl l.length = true ∧ say k fl st l = .ok p := by
  unfold parse at h
  split at h
  · cases h
  · split at h
    · exact ⟨by simpa using (by assumption : ¬ mis k st = true), by assumption, h⟩
    · cases h
theorem parse_same {k fl st : Int} {l s : List UInt8} {p : Pt} (h : parse k fl st l = .ok p) (hl : s.length = l.length) (hs : say k fl st s = .ok p) : parse k fl st s = .ok p := by
  obtain ⟨h1, h2, _⟩ := parse_ok h
  unfold parse
  rw [h1, hl, h2]
  simpa using hs
end Fm

theorem again (k fl st : Int) (l : List UInt8) (p : Fm.Pt) (hp : Fm.parse k fl st l = .ok p) (hk : 0 ≤ k ∧ k ≤ 9 ∨ k = 16) (hl : l.length ≤ 16777215) (h1 : ¬ (k = 1 ∧ Fm.has fl 8 = true)) : ∃ s, s.length = l.length ∧ Fm.parse k fl st s = .ok p ∧ PAYok k fl st p s := by
  obtain ⟨hm, hz, hs⟩ := Fm.parse_ok hp
  have hsets : k ≠ 4 → p.sets.length ≤ 2796202 := fun hk4 => by rw [Fm.say_sets hk4 hs]; simp
  by_cases k0 : k = 0
  · subst k0
    have hh : Fm.head 0 fl ≤ l.length := by simpa [Fm.sized] using hz
    have hse := hsets (by decide)
    simp only [Fm.say, true_or, if_true] at hs
    split at hs
    · cases hs
    · rename_i hlt
      rw [if_neg (by decide)] at hs
      injection hs with hs
      cases h8 : Fm.has fl 8 with
      | false =>
        have e0 : Fm.head 0 fl = 0 := by simp [Fm.head, h8]
        have e1 : Fm.pads fl l = 0 := by simp [Fm.pads, h8]
        have hd : p.data = l := by rw [← hs, e0, e1]; simp
        refine ⟨l, rfl, hp, ?_⟩
        have := cpay_data fl st p (by rw [hd]; exact hl) hse h8
        rw [hd] at this
        exact this
      | true =>
        have e0 : Fm.head 0 fl = 1 := by simp [Fm.head, h8]
        obtain ⟨b, hb⟩ : ∃ b, Fm.pads fl l = b := ⟨_, rfl⟩
        have hb255 : b ≤ 255 := by
          rw [← hb]; unfold Fm.pads; rw [h8]; have := UInt8.toNat_lt (l.getD 0 0); simp only [if_true]; omega
        rw [e0, hb, h8] at hs
        rw [e0] at hh
        rw [e0, hb] at hlt
        have hd : p.data = (l.drop 1).take (l.length - 1 - b) := by rw [← hs]
        have hdl : p.data.length = l.length - 1 - b := by rw [hd, List.length_take, List.length_drop]; omega
        have hpad : p.pad = (b : Int) + 1 := by rw [← hs]; rfl
        have hby : (Fm.byt (b : Int)).toNat = b := by have := Fm.byt_cast (b : Int); omega
        have hlen : (Fm.byt (b : Int) :: (p.data ++ List.replicate b 0)).length = l.length := by simp [hdl]; omega
        refine ⟨_, hlen, Fm.parse_same hp hlen ?_, cpay_datapad fl st p (by rw [hdl]; omega) hse b h8 hpad hb255⟩
        have hpb : Fm.pads fl (Fm.byt (b : Int) :: (p.data ++ List.replicate b 0)) = b := by unfold Fm.pads; rw [h8]; simpa using hby
        simp only [Fm.say, true_or, if_true]
        rw [hlen, e0, hpb, h8, if_neg hlt, if_neg (by decide)]
        have hdd : ((Fm.byt (b : Int) :: (p.data ++ List.replicate b 0)).drop 1).take (l.length - 1 - b) = p.data := by
          rw [List.drop_succ_cons, List.drop_zero, ← hdl, List.take_left]
        rw [hdd, hd, ← hs]
  by_cases k1 : k = 1
  · subst k1
    have h8 : Fm.has fl 8 = false := by
      cases h : Fm.has fl 8 with
      | false => rfl
      | true => exact absurd ⟨rfl, h⟩ h1
    have hh : Fm.head 1 fl ≤ l.length := by simpa [Fm.sized] using hz
    have hse := hsets (by decide)
    have e1 : Fm.pads fl l = 0 := by simp [Fm.pads, h8]
    simp only [Fm.say, or_true, if_true] at hs
    rw [e1, if_neg (by omega)] at hs
    cases h5 : Fm.has fl 32 with
    | false =>
      have e0 : Fm.head 1 fl = 0 := by simp [Fm.head, h8, h5]
      rw [h5, e0, if_neg (by decide)] at hs
      injection hs with hs
      have hd : p.data = l := by rw [← hs]; simp
      refine ⟨l, rfl, hp, ?_⟩
      have := cpay_head fl st p (by rw [hd]; exact hl) hse h8 h5
      rw [hd, List.nil_append] at this
      exact this
    | true =>
      have e0 : Fm.head 1 fl = 5 := by simp [Fm.head, h8, h5]
      rw [e0] at hh
      rw [h5, e0, if_pos rfl] at hs
      injection hs with hs
      have hd : p.data = l.drop 5 := by
        rw [← hs]
        show (l.drop 5).take (l.length - 5 - 0) = l.drop 5
        rw [List.take_of_length_le (by rw [List.length_drop]; omega)]
      refine ⟨l, rfl, hp, ?_⟩
      have := cpay_headprio fl st p (by rw [hd, List.length_drop]; omega) hse h8 h5
      have hpb : Fm.prB p = l.take 5 := by rw [← hs]; exact Fm.prB_eq (l := l) hh
      rw [hpb, hd, List.take_append_drop] at this
      exact this
  by_cases k2 : k = 2
  · subst k2
    have hse := hsets (by decide)
    have h5 : l.length = 5 := by simpa [Fm.sized] using hz
    have hs2 : Fm.Rd.ok (Fm.prio l []) = .ok p := by rw [← hs]; simp [Fm.say]
    injection hs2 with hs2
    refine ⟨l, rfl, hp, ?_⟩
    have hd : p.data = [] := by rw [← hs2]; rfl
    have := cpay_prio fl st p (by rw [hd]; simp) hse
    have hpb : Fm.prB p = l.take 5 := by rw [← hs2]; exact Fm.prB_eq (by omega)
    rw [hpb, hd, List.append_nil, List.take_of_length_le (by omega)] at this
    exact this
  by_cases k3 : k = 3
  · subst k3
    have hse := hsets (by decide)
    have h4 : l.length = 4 := by simpa [Fm.sized] using hz
    have hs2 : Fm.Rd.ok ⟨[], 0, (Fm.num (l.take 4) : Nat), 0, 0, false, 0, []⟩ = .ok p := by rw [← hs]; simp [Fm.say]
    injection hs2 with hs2
    refine ⟨l, rfl, hp, ?_⟩
    have hd : p.data = [] := by rw [← hs2]
    have hc : p.code = ((Fm.num (l.take 4) : Nat) : Int) := by rw [← hs2]
    have := cpay_reset fl st p (by rw [hd]; simp) hse
    rw [hd, hc, List.append_nil, List.take_of_length_le (by omega), Fm.enc_num4 h4] at this
    exact this
  by_cases k4 : k = 4
  · subst k4
    have hs2 : Fm.sets (l.length / 6) l [] = .ok p := by rw [← hs]; simp [Fm.say]
    have hl6 : l.length = 6 * (l.length / 6) := by
      have := hz
      simp [Fm.sized] at this
      rcases this with h | h
      · rw [h]; rfl
      · omega
    have hb := Fm.stB_sets _ _ _ _ hl6 hs2
    have hlen := Fm.sets_len _ _ _ _ hs2
    have hd : p.data = [] := by
      have : ∀ n l acc p, Fm.sets n l acc = .ok p → p.data = [] := by
        intro n
        induction n with
        | zero => intro l acc p h; simp only [Fm.sets] at h; injection h with h; subst h; rfl
        | succ n ih =>
          intro l acc p h
          simp only [Fm.sets] at h
          split at h
          · exact ih _ _ _ h
          · cases h
      exact this _ _ _ _ hs2
    refine ⟨l, rfl, hp, ?_⟩
    have := cpay_sets fl st p (by rw [hd]; simp) (by rw [hlen]; simp; omega)
    rw [hb] at this
    simpa [Fm.stB] using this
  by_cases k69 : k = 6 ∨ k = 9
  · have hd : p = ⟨l, 0, 0, 0, 0, false, 0, []⟩ := by
      rcases k69 with rfl | rfl
      · have hs2 : Fm.Rd.ok ⟨l, 0, 0, 0, 0, false, 0, []⟩ = .ok p := by rw [← hs]; simp [Fm.say]
        injection hs2 with hs2; exact hs2.symm
      · have hs2 : Fm.Rd.ok ⟨l, 0, 0, 0, 0, false, 0, []⟩ = .ok p := by rw [← hs]; simp [Fm.say]
        injection hs2 with hs2; exact hs2.symm
    refine ⟨l, rfl, hp, ?_⟩
    subst hd
    rcases k69 with rfl | rfl
    · exact cpay_ping fl st _ hl (by simp)
    · exact cpay_more fl st _ hl (by simp)
  have hnew : ∀ l : List UInt8, 4 ≤ l.length → (Fm.enc 4 ((Fm.idn l : Nat) : Int) ++ l.drop 4).length = l.length := by
    intro l h; rw [List.length_append, Fm.enc_length, List.length_drop]; omega
  have hdrop : ∀ l : List UInt8, (Fm.enc 4 ((Fm.idn l : Nat) : Int) ++ l.drop 4).drop 4 = l.drop 4 := by
    intro l; rw [List.drop_left' (Fm.enc_length 4 _)]
  by_cases k7 : k = 7
  · subst k7
    have hse := hsets (by decide)
    have h8 : 8 ≤ l.length := by simpa [Fm.sized] using hz
    have hs2 : Fm.Rd.ok ⟨l.drop 8, 0, (Fm.num ((l.drop 4).take 4) : Nat), (Fm.idn l : Nat), 0, false, 0, []⟩ = .ok p := by rw [← hs]; simp [Fm.say]
    injection hs2 with hs2
    have hd : p.data = l.drop 8 := by rw [← hs2]
    have hc : p.code = ((Fm.num ((l.drop 4).take 4) : Nat) : Int) := by rw [← hs2]
    have hla : p.last = ((Fm.idn l : Nat) : Int) := by rw [← hs2]
    have hlen := hnew l (by omega)
    refine ⟨_, hlen, Fm.parse_same hp hlen ?_, ?_⟩
    · have hd8 : (Fm.enc 4 ((Fm.idn l : Nat) : Int) ++ l.drop 4).drop 8 = l.drop 8 := by
        rw [show (8 : Nat) = 4 + 4 from rfl, ← List.drop_drop, hdrop, List.drop_drop]
      have : Fm.say 7 fl st (Fm.enc 4 ((Fm.idn l : Nat) : Int) ++ l.drop 4) = .ok ⟨(Fm.enc 4 ((Fm.idn l : Nat) : Int) ++ l.drop 4).drop 8, 0, (Fm.num (((Fm.enc 4 ((Fm.idn l : Nat) : Int) ++ l.drop 4).drop 4).take 4) : Nat), (Fm.idn (Fm.enc 4 ((Fm.idn l : Nat) : Int) ++ l.drop 4) : Nat), 0, false, 0, []⟩ := by simp [Fm.say]
      rw [this, hd8, hdrop, Fm.num_idn, hs2]
    · have := cpay_away fl st p (by rw [hd, List.length_drop]; omega) hse
      rw [hd, hc, hla, Fm.enc_num4 (by rw [List.length_take, List.length_drop]; omega)] at this
      have e : (l.drop 4).take 4 ++ l.drop 8 = l.drop 4 := by
        rw [show l.drop 8 = (l.drop 4).drop 4 by rw [List.drop_drop], List.take_append_drop]
      rw [e] at this
      exact this
  by_cases k8 : k = 8
  · subst k8
    have hse := hsets (by decide)
    have h4 : l.length = 4 := by simpa [Fm.sized] using hz
    have hs2 : (if Fm.idn l = 0 then Fm.Rd.bad (decide (st = 0)) 1 else .ok ⟨[], 0, 0, 0, 0, false, (Fm.idn l : Nat), []⟩) = .ok p := by rw [← hs]; simp [Fm.say]
    by_cases h0 : Fm.idn l = 0
    · rw [if_pos h0] at hs2; cases hs2
    · rw [if_neg h0] at hs2
      injection hs2 with hs2
      have hd : p.data = [] := by rw [← hs2]
      have hmo : p.more = ((Fm.idn l : Nat) : Int) := by rw [← hs2]
      have hlen := hnew l (by omega)
      refine ⟨_, hlen, Fm.parse_same hp hlen ?_, ?_⟩
      · have : Fm.say 8 fl st (Fm.enc 4 ((Fm.idn l : Nat) : Int) ++ l.drop 4) = (if Fm.idn (Fm.enc 4 ((Fm.idn l : Nat) : Int) ++ l.drop 4) = 0 then .bad (decide (st = 0)) 1 else .ok ⟨[], 0, 0, 0, 0, false, (Fm.idn (Fm.enc 4 ((Fm.idn l : Nat) : Int) ++ l.drop 4) : Nat), []⟩) := by simp [Fm.say]
        rw [this, Fm.num_idn, if_neg h0, hs2]
      · have := cpay_window fl st p (by rw [hd]; simp) hse
        rw [hd, hmo] at this
        rw [List.drop_of_length_le (by omega)]
        exact this
  by_cases k5 : k = 5
  · subst k5
    simp [Fm.mis] at hm
  obtain rfl : k = 16 := by omega
  have hse := hsets (by decide)
  have h4 : 4 ≤ l.length := by simpa [Fm.sized] using hz
  have hs2 : (if Fm.idn l = 0 then Fm.Rd.bad true 1 else .ok ⟨l.drop 4, 0, 0, (Fm.idn l : Nat), 0, false, 0, []⟩) = .ok p := by rw [← hs]; simp [Fm.say]
  by_cases h0 : Fm.idn l = 0
  · rw [if_pos h0] at hs2; cases hs2
  · rw [if_neg h0] at hs2
    injection hs2 with hs2
    have hd : p.data = l.drop 4 := by rw [← hs2]
    have hla : p.last = ((Fm.idn l : Nat) : Int) := by rw [← hs2]
    have hlen := hnew l h4
    refine ⟨_, hlen, Fm.parse_same hp hlen ?_, ?_⟩
    · have : Fm.say 16 fl st (Fm.enc 4 ((Fm.idn l : Nat) : Int) ++ l.drop 4) = (if Fm.idn (Fm.enc 4 ((Fm.idn l : Nat) : Int) ++ l.drop 4) = 0 then .bad true 1 else .ok ⟨(Fm.enc 4 ((Fm.idn l : Nat) : Int) ++ l.drop 4).drop 4, 0, 0, (Fm.idn (Fm.enc 4 ((Fm.idn l : Nat) : Int) ++ l.drop 4) : Nat), 0, false, 0, []⟩) := by simp [Fm.say]
      rw [this, Fm.num_idn, if_neg h0, hdrop, hs2]
    · have := cpay_update fl st p (by rw [hd, List.length_drop]; omega) hse
      rw [hd, hla] at this
      exact this

end Go.Proofs.Ythgdokcdpmoeeaa
