/-
  The payload that the code makes and the one that the document makes are one, where the frame says what is asked for: plain.
-/
import Derived.Test.YthbidfcfkjamdaaFrMk
import Derived.Test.YthbidfcfkjamdaaFrEm
namespace Go.Proofs.Ythbidfcfkjamdaa
open Go.RowKit

namespace Fm
/-- The code's payload. -/
def cpay (k fl : Int) (p : Pt) : Option (List UInt8) :=
  if 16777215 < p.data.length ∨ 2796202 < p.sets.length then none
  else if k = 0 then (if has fl 8 = true then (if p.pad < 1 ∨ 256 < p.pad then none else some (byt ((p.pad - 1).toNat : Int) :: (p.data ++ List.replicate (p.pad - 1).toNat 0))) else some p.data)
  else if k = 1 then (if has fl 8 = true then none else if has fl 32 = true then some (prB p ++ p.data) else some p.data)
  else if k = 2 then some (prB p ++ p.data)
  else if k = 3 then some (enc 4 p.code ++ p.data)
  else if k = 4 then some (stB p.sets)
  else if k = 6 then some p.data
  else if k = 7 then some (enc 4 p.last ++ (enc 4 p.code ++ p.data))
  else if k = 8 then some (enc 4 p.more ++ p.data)
  else if k = 9 then some p.data
  else if k = 16 then some (enc 4 p.last ++ p.data)
  else none
/-- The document's. -/
def dpay (k fl : Int) (p : Pt) : Option (List UInt8) :=
  if k = 0 then (if has fl 8 = true then (if p.pad < 1 ∨ 256 < p.pad then none else some ((enc 1 (p.pad - 1) ++ p.data) ++ List.replicate (p.pad - 1).toNat 0)) else some p.data)
  else if k = 1 then (if has fl 8 = true then none else if has fl 32 = true then (if fiveOk p = true then some (five p ++ p.data) else none) else some p.data)
  else if k = 2 then (if fiveOk p = true then some (five p) else none)
  else if k = 3 then (if fit4 p.code = true then some (enc 4 p.code) else none)
  else if k = 4 then (if p.sets.all (fun x => fit2 x.1 && fit4 x.2) = true then some (stB p.sets) else none)
  else if k = 6 then some p.data
  else if k = 7 then (if fit4 p.last = true ∧ fit4 p.code = true then some ((enc 4 p.last ++ enc 4 p.code) ++ p.data) else none)
  else if k = 8 then (if fit4 p.more = true then some (enc 4 p.more) else none)
  else if k = 9 then some p.data
  else if k = 16 then (if fit4 p.last = true then some (enc 4 p.last ++ p.data) else none)
  else none

theorem parse_out {k fl st : Int} {l : List UInt8} {p : Pt} (h : parse k fl st l = .ok p) : mis k st = false ∧ sized k fl l.length = true ∧ say k fl st l = .ok p := by
  unfold parse at h
  split at h
  · cases h
  · split at h
    · exact ⟨by simpa using (by assumption : ¬ mis k st = true), by assumption, h⟩
    · cases h
theorem prio_out (l d : List UInt8) : (prio l d).data = d ∧ fiveOk (prio l d) = true ∧ prB (prio l d) = five (prio l d) := by
  have h1 := idn_lt l
  have h2 := UInt8.toNat_lt (l.getD 4 0)
  refine ⟨rfl, ?_, ?_⟩
  · simp only [fiveOk, prio]
    exact decide_eq_true ⟨⟨by omega, by omega⟩, by omega, by omega⟩
  · unfold prB five
    rw [enc1]
    congr 2
    unfold lastOr onl
    split
    · rw [or_top _ (by simp only [prio]; omega) (by simp only [prio]; omega)]
      omega
    · rfl
theorem sets_out (n : Nat) (l : List UInt8) (acc : List (Int × Int)) (p : Pt) (h : sets n l acc = .ok p) (ha : acc.all (fun x => fit2 x.1 && fit4 x.2) = true) : p.data = [] ∧ p.sets.all (fun x => fit2 x.1 && fit4 x.2) = true := by
  induction n generalizing l acc with
  | zero =>
    simp only [sets] at h
    injection h with h
    subst h
    exact ⟨rfl, ha⟩
  | succ n ih =>
    simp only [sets] at h
    split at h
    · refine ih _ _ h ?_
      have h1 := num_le (l.take 2) (by rw [List.length_take]; omega)
      have h2 := num_le ((l.drop 2).take 4) (by rw [List.length_take]; omega)
      have h3 : num (l.take 2) < 65536 := by
        by_cases h4 : (l.take 2).length = 2
        · exact num_lt2 h4
        · have h5 : (l.take 2).length ≤ 1 := by rw [List.length_take] at h4 ⊢; omega
          match hq : l.take 2, h5 with
          | [], _ => simp [num]
          | [a], _ => have := UInt8.toNat_lt a; rw [num1]; omega
      rw [List.all_append, ha]
      simp only [List.all_cons, List.all_nil, Bool.and_true, Bool.true_and, fit2, fit4, Bool.and_eq_true, decide_eq_true_eq]
      omega
    · cases h
theorem pay_eq {k fl st : Int} {s : List UInt8} {p : Pt} (h : parse k fl st s = .ok p) (hl : s.length ≤ 16777215) : cpay k fl p = dpay k fl p := by
  obtain ⟨_, hz, hs⟩ := parse_out h
  have hset : p.sets.length ≤ 2796202 := by
    by_cases k4 : k = 4
    · subst k4
      have h2 : sets (s.length / 6) s [] = .ok p := by rw [← hs]; simp [say]
      rw [sets_len _ _ _ _ h2]
      simp; omega
    · rw [say_sets k4 hs]; simp
  have hfin : p.data.length ≤ 16777215 → cpay k fl p = (if k = 0 then (if has fl 8 = true then (if p.pad < 1 ∨ 256 < p.pad then none else some (byt ((p.pad - 1).toNat : Int) :: (p.data ++ List.replicate (p.pad - 1).toNat 0))) else some p.data)
      else if k = 1 then (if has fl 8 = true then none else if has fl 32 = true then some (prB p ++ p.data) else some p.data)
      else if k = 2 then some (prB p ++ p.data)
      else if k = 3 then some (enc 4 p.code ++ p.data)
      else if k = 4 then some (stB p.sets)
      else if k = 6 then some p.data
      else if k = 7 then some (enc 4 p.last ++ (enc 4 p.code ++ p.data))
      else if k = 8 then some (enc 4 p.more ++ p.data)
      else if k = 9 then some p.data
      else if k = 16 then some (enc 4 p.last ++ p.data)
      else none) := fun hd => by
    unfold cpay
    rw [if_neg (by omega)]
  by_cases k0 : k = 0
  · subst k0
    have hd : p.data.length ≤ 16777215 := by
      simp only [say, true_or, if_true] at hs
      split at hs
      · cases hs
      · rw [if_neg (by decide)] at hs
        injection hs with hs
        rw [← hs]
        simp only [List.length_take, List.length_drop]
        omega
    rw [hfin hd]
    unfold dpay
    simp only [if_true]
    split
    · split
      · rfl
      · rename_i h8 hp
        rw [enc1]
        have : byt ((p.pad - 1).toNat : Int) = byt (p.pad - 1) := by congr 1; omega
        rw [this]
        simp
    · rfl
  by_cases k1 : k = 1
  · subst k1
    have hd : p.data.length ≤ 16777215 ∧ (has fl 32 = true → ∃ l d, p = prio l d) := by
      simp only [say, or_true, if_true] at hs
      split at hs
      · cases hs
      · split at hs
        · injection hs with hs
          refine ⟨?_, fun _ => ⟨_, _, hs.symm⟩⟩
          rw [← hs]
          simp only [prio, List.length_take, List.length_drop]
          omega
        · injection hs with hs
          refine ⟨?_, fun h5 => absurd h5 (by assumption)⟩
          rw [← hs]
          simp only [List.length_take, List.length_drop]
          omega
    rw [hfin hd.1]
    unfold dpay
    simp only [if_neg (show ¬ (1 : Int) = 0 by decide), if_true]
    split
    · rfl
    · split
      · rename_i h8 h5
        obtain ⟨l, d, rfl⟩ := hd.2 h5
        obtain ⟨_, e1, e2⟩ := prio_out l d
        rw [if_pos e1, e2]
      · rfl
  by_cases k2 : k = 2
  · subst k2
    have hs2 : say 2 fl st s = .ok (prio s []) := by simp [say]
    rw [hs2] at hs
    injection hs with hs
    subst hs
    obtain ⟨e0, e1, e2⟩ := prio_out s []
    rw [hfin (by rw [e0]; simp)]
    simp [dpay, e0, e1, e2]
  by_cases k3 : k = 3
  · subst k3
    have hs2 : say 3 fl st s = .ok ⟨[], 0, (num (s.take 4) : Nat), 0, 0, false, 0, []⟩ := by simp [say]
    rw [hs2] at hs
    injection hs with hs
    subst hs
    have hn := num_le (s.take 4) (by rw [List.length_take]; omega)
    rw [hfin (by simp)]
    simp [dpay, fit4]
    omega
  by_cases k4 : k = 4
  · subst k4
    have h2 : sets (s.length / 6) s [] = .ok p := by rw [← hs]; simp [say]
    obtain ⟨e0, e1⟩ := sets_out _ _ _ _ h2 rfl
    rw [hfin (by rw [e0]; simp)]
    simp only [dpay]
    rw [e1]
    simp
  by_cases k6 : k = 6
  · subst k6
    have hs2 : say 6 fl st s = .ok ⟨s, 0, 0, 0, 0, false, 0, []⟩ := by simp [say]
    rw [hs2] at hs
    injection hs with hs
    subst hs
    rw [hfin (by simpa using hl)]
    simp [dpay]
  by_cases k7 : k = 7
  · subst k7
    have hs2 : say 7 fl st s = .ok ⟨s.drop 8, 0, (num ((s.drop 4).take 4) : Nat), (idn s : Nat), 0, false, 0, []⟩ := by simp [say]
    rw [hs2] at hs
    injection hs with hs
    subst hs
    have hn := num_le ((s.drop 4).take 4) (by rw [List.length_take]; omega)
    have hi := idn_lt s
    rw [hfin (by simp; omega)]
    have f1 : fit4 ((idn s : Nat) : Int) = true := decide_eq_true (by omega)
    have f2 : fit4 ((num ((s.drop 4).take 4) : Nat) : Int) = true := decide_eq_true (by omega)
    simp [dpay, f1, f2]
  by_cases k8 : k = 8
  · subst k8
    have hs2 : say 8 fl st s = (if idn s = 0 then .bad (decide (st = 0)) 1 else .ok ⟨[], 0, 0, 0, 0, false, (idn s : Nat), []⟩) := by simp [say]
    rw [hs2] at hs
    split at hs
    · cases hs
    · injection hs with hs
      subst hs
      have hi := idn_lt s
      have f1 : fit4 ((idn s : Nat) : Int) = true := decide_eq_true (by omega)
      rw [hfin (by simp)]
      simp [dpay, f1]
  by_cases k9 : k = 9
  · subst k9
    have hs2 : say 9 fl st s = .ok ⟨s, 0, 0, 0, 0, false, 0, []⟩ := by simp [say]
    rw [hs2] at hs
    injection hs with hs
    subst hs
    rw [hfin (by simpa using hl)]
    simp [dpay]
  by_cases k16 : k = 16
  · subst k16
    have hs2 : say 16 fl st s = (if idn s = 0 then .bad true 1 else .ok ⟨s.drop 4, 0, 0, (idn s : Nat), 0, false, 0, []⟩) := by simp [say]
    rw [hs2] at hs
    split at hs
    · cases hs
    · injection hs with hs
      subst hs
      have hi := idn_lt s
      have f1 : fit4 ((idn s : Nat) : Int) = true := decide_eq_true (by omega)
      rw [hfin (by simp; omega)]
      simp [dpay, f1]
  have hno : dpay k fl p = none := by simp [dpay, k0, k1, k2, k3, k4, k6, k7, k8, k9, k16]
  rw [hno]
  unfold cpay
  by_cases hsz : 16777215 < p.data.length ∨ 2796202 < p.sets.length
  · rw [if_pos hsz]
  · rw [if_neg hsz, if_neg k0, if_neg k1, if_neg k2, if_neg k3, if_neg k4, if_neg k6, if_neg k7, if_neg k8, if_neg k9, if_neg k16]
end Fm

/-- What the code's payload is. -/
theorem cpay_is (k fl st : Int) (p : Fm.Pt) : (Fm.cpay k fl p = none ∧ PAYno k fl st p) ∨ (∃ s, Fm.cpay k fl p = some s ∧ PAYok k fl st p s) := by
  by_cases hd : 16777215 < p.data.length
  · exact .inl ⟨by unfold Fm.cpay; rw [if_pos (.inl hd)], cpay_long k fl st p hd⟩
  by_cases hs : 2796202 < p.sets.length
  · exact .inl ⟨by unfold Fm.cpay; rw [if_pos (.inr hs)], cpay_many k fl st p (by omega) hs⟩
  have hd' : p.data.length ≤ 16777215 := by omega
  have hs' : p.sets.length ≤ 2796202 := by omega
  have hc : ¬ (16777215 < p.data.length ∨ 2796202 < p.sets.length) := by omega
  unfold Fm.cpay
  rw [if_neg hc]
  by_cases k0 : k = 0
  · subst k0
    cases h8 : Fm.has fl 8 with
    | false => exact .inr ⟨_, by simp, cpay_data fl st p hd' hs' h8⟩
    | true =>
      by_cases hp : p.pad < 1 ∨ 256 < p.pad
      · exact .inl ⟨by simp [hp], cpay_datano fl st p hd' hs' h8 hp⟩
      · exact .inr ⟨_, by simp [hp], cpay_datapad fl st p hd' hs' (p.pad - 1).toNat h8 (by omega) (by omega)⟩
  by_cases k1 : k = 1
  · subst k1
    cases h8 : Fm.has fl 8 with
    | true => exact .inl ⟨by simp, cpay_headpad fl st p hd' hs' h8⟩
    | false =>
      cases h5 : Fm.has fl 32 with
      | false => exact .inr ⟨_, by simp, cpay_head fl st p hd' hs' h8 h5⟩
      | true => exact .inr ⟨_, by simp, cpay_headprio fl st p hd' hs' h8 h5⟩
  by_cases k2 : k = 2
  · subst k2
    exact .inr ⟨_, by simp, cpay_prio fl st p hd' hs'⟩
  by_cases k3 : k = 3
  · subst k3
    exact .inr ⟨_, by simp, cpay_reset fl st p hd' hs'⟩
  by_cases k4 : k = 4
  · subst k4
    exact .inr ⟨_, by simp, cpay_sets fl st p hd' hs'⟩
  by_cases k6 : k = 6
  · subst k6
    exact .inr ⟨_, by simp, cpay_ping fl st p hd' hs'⟩
  by_cases k7 : k = 7
  · subst k7
    exact .inr ⟨_, by simp, cpay_away fl st p hd' hs'⟩
  by_cases k8 : k = 8
  · subst k8
    exact .inr ⟨_, by simp, cpay_window fl st p hd' hs'⟩
  by_cases k9 : k = 9
  · subst k9
    exact .inr ⟨_, by simp, cpay_more fl st p hd' hs'⟩
  by_cases k16 : k = 16
  · subst k16
    exact .inr ⟨_, by simp, cpay_update fl st p hd' hs'⟩
  exact .inl ⟨by simp [k0, k1, k2, k3, k4, k6, k7, k8, k9, k16], cpay_kind k fl st p hd' hs' ⟨k0, k1, k2, k3, k4, k6, k7, k8, k9, k16⟩⟩

/-- The code's Make where there is no such frame. -/
theorem cmake_B (k fl st : Int) (p : Fm.Pt) (h : ∀ s, Fm.cpay k fl p = some s → Fm.unw k fl st s.length = 0 → Fm.parse k fl st s = .ok p → False) :
    ∀ (w : World) (v : Value), SR w v p.sets → Calls Try.prog 9 #[.int .i64 k, .int .i64 fl, .int .i64 st, .agg (ptC p v)] w fun e w' => e = .returned (.tuple #[.agg (frC 0 0 0 []), .int .i64 70]) ∧ Below w.heap.size w w' := by
  rcases cpay_is k fl st p with ⟨_, hno⟩ | ⟨s, hsm, hpay⟩
  · exact fun w v hv => cmake_none k fl st p v hno w hv
  · by_cases hu : Fm.unw k fl st s.length = 0
    · have hl : s.length ≤ 16777215 := by
        have hr := hu
        unfold Fm.unw at hr
        split at hr
        · split at hr
          · cases hr
          · omega
        · cases hr
      rcases say_out k fl st p s hl with h1 | ⟨h1, h2⟩
      · exact fun w v hv => cmake_no k fl st p v s hpay hu h1 w hv
      · exact (h s hsm hu h1).elim
    · exact fun w v hv => cmake_unw k fl st p v s _ hpay rfl hu w hv

theorem say_yes (k fl st : Int) (p : Fm.Pt) (s : List UInt8) (hs : s.length ≤ 16777215) (hr : Fm.parse k fl st s = .ok p) : SAY k fl st p s true := by
  have hql := Fm.parse_len hr
  obtain ⟨pd, pp, pc, pl, pw, po, pm, ps⟩ := p
  exact fun w v hv => csays_all k fl st s pd pp pc pl pw po pm ps ps v hr (by omega) w hv true (decide_eq_true rfl) (by simp only at hql; omega)

/-- And where there is one. -/
theorem cmake_A (k fl st : Int) (p : Fm.Pt) (s : List UInt8) (hsm : Fm.cpay k fl p = some s) (hu : Fm.unw k fl st s.length = 0) (hp : Fm.parse k fl st s = .ok p) :
    ∀ (w : World) (v : Value), SR w v p.sets → Calls Try.prog 9 #[.int .i64 k, .int .i64 fl, .int .i64 st, .agg (ptC p v)] w fun e w' => e = .returned (.tuple #[.agg (frC k fl st s), .int .i64 0]) ∧ Below w.heap.size w w' := by
  have hl : s.length ≤ 16777215 := by
    have hr := hu
    unfold Fm.unw at hr
    split at hr
    · split at hr
      · cases hr
      · omega
    · cases hr
  rcases cpay_is k fl st p with ⟨hno, _⟩ | ⟨s', hsm', hpay⟩
  · rw [hno] at hsm; cases hsm
  · rw [hsm'] at hsm
    injection hsm with hsm
    subst hsm
    exact fun w v hv => cmake_yes k fl st p v s' hpay hu (say_yes k fl st p s' hl hp) w hv

end Go.Proofs.Ythbidfcfkjamdaa
