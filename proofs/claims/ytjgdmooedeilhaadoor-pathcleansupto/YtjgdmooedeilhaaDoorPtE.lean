/-
  The document's Clean: by its contract.
-/
import Derived.Test.YtjgdmooedeilhaaDoorPtD
namespace Go.Proofs.YtjgdmooedeilhaaDoor
open Go.RowKit

namespace Pt
theorem pre_at {l : T8} {k : Nat} (h : k < (pre l).length) : ∃ c, l[k]? = some c ∧ (c == 63) = false := by
  unfold pre at h
  induction l generalizing k with
  | nil => simp at h
  | cons x r ih =>
    rw [List.takeWhile_cons] at h
    cases hx : (x == 63)
    · rw [hx] at h
      cases k with
      | zero => exact ⟨x, rfl, hx⟩
      | succ k => simpa using ih (by simpa using h)
    · rw [hx] at h; simp at h
theorem pre_stop {l : T8} (h : (pre l).length < l.length) : l[(pre l).length]? = some 63 := by
  unfold pre at *
  induction l with
  | nil => simp at h
  | cons x r ih =>
    rw [List.takeWhile_cons] at h ⊢
    cases hx : (x == 63)
    · rw [hx] at h
      simp only [Bool.not_false, if_true, List.length_cons] at h ⊢
      rw [List.getElem?_cons_succ]
      exact ih (by omega)
    · simp only [Bool.not_true, Bool.false_eq_true, if_false, List.length_nil, List.getElem?_cons_zero]
      rw [eq_of_beq hx]
theorem pre_le (l : T8) : (pre l).length ≤ l.length := (List.takeWhile_prefix _).length_le
theorem pre_take (l : T8) : l.take (pre l).length = pre l := (List.prefix_iff_eq_take.1 (List.takeWhile_prefix _)).symm
theorem undo_len : ∀ (n : Nat) (l s : T8), l.length ≤ n → undo l = some s → s.length ≤ l.length := by
  intro n
  induction n with
  | zero =>
    intro l s hl h
    obtain rfl : l = [] := List.eq_nil_of_length_eq_zero (by omega)
    simp [undo] at h
    subst h; simp
  | succ n ih =>
    intro l s hl h
    cases l with
    | nil => simp [undo] at h; subst h; simp
    | cons a r =>
      cases ha : (a == 37)
      · rw [undo_plain ha] at h
        cases hu : undo r with
        | none => rw [hu] at h; cases h
        | some s' =>
          rw [hu] at h
          simp only [Option.map_some, Option.some.injEq] at h
          subst h
          have := ih r s' (by simp at hl; omega) hu
          simp; omega
      · obtain rfl : a = 37 := eq_of_beq ha
        match r, hl, h with
        | [], _, h => simp [undo] at h
        | [d], _, h => simp [undo] at h
        | b :: d :: t, hl, h =>
          cases hq : (decide (0 ≤ hx b) && (decide (0 ≤ hx d) && okb (byt b d)))
          · rw [undo_bad hq] at h; cases h
          · rw [undo_esc hq] at h
            cases hu : undo t with
            | none => rw [hu] at h; cases h
            | some s' =>
              rw [hu] at h
              simp only [Option.map_some, Option.some.injEq] at h
              subst h
              have := ih t s' (by simp at hl; omega) hu
              simp; omega
theorem keep_step {ps k : List T8} {i : Nat} {p : T8} (h : ps[i]? = some p) : keep k (ps.drop i) = match step k p with | none => none | some k' => keep k' (ps.drop (i + 1)) := by
  obtain ⟨h1, h2⟩ := List.getElem?_eq_some_iff.1 h
  rw [List.drop_eq_getElem_cons h1, h2, keep]
  cases step k p <;> rfl
theorem keep_sum : ∀ (ps k k' : List T8), keep k ps = some k' → (k'.map List.length).sum + k'.length ≤ (k.map List.length).sum + k.length + (ps.map List.length).sum + ps.length := by
  intro ps
  induction ps with
  | nil => intro k k' h; simp [keep] at h; subst h; simp
  | cons p r ih =>
    intro k k' h
    rw [keep] at h
    cases hs : step k p with
    | none => rw [hs] at h; cases h
    | some k1 =>
      rw [hs] at h
      have h1 := ih k1 k' h
      have h2 : (k1.map List.length).sum + k1.length ≤ (k.map List.length).sum + k.length + p.length + 1 := by
        unfold step at hs
        split at hs
        · split at hs
          · cases hs
          · injection hs with hs
            subst hs
            have : k = [] ∨ ∃ a, k = k.dropLast ++ [a] := by
              cases hk : k with
              | nil => exact .inl rfl
              | cons a b => exact .inr ⟨(a :: b).getLast (by simp), (List.dropLast_concat_getLast (by simp)).symm⟩
            rcases this with h0 | ⟨a, ha⟩
            · rw [h0]; simp
            · conv => rhs; rw [ha]
              simp
              omega
        · split at hs
          · injection hs with hs; subst hs; omega
          · injection hs with hs
            subst hs
            simp
            omega
      simp only [List.map_cons, List.sum_cons, List.length_cons]
      omega
theorem core_len (l : T8) : (core l).1.length ≤ l.length + 3 := by
  unfold core
  split
  · cases hu : undo l with
    | none => simp
    | some s =>
      simp only
      cases hk : keep [] (cutS [] s) with
      | none => simp
      | some k =>
        simp only
        have h1 := undo_len _ l s (Nat.le_refl _) hu
        have h2 := keep_sum _ _ _ hk
        have h3 := cutS_sum s
        have h4 := join_len k
        simp at h2
        unfold out
        rw [List.length_cons, List.length_append]
        split
        · simp only [List.length_cons, List.length_nil]; omega
        · simp only [List.length_nil]; omega
  · simp
end Pt
def clV17 (q : List UInt8 × List UInt8 × Int) : Value := .tuple #[.string ⟨q.1.toArray⟩, .string ⟨q.2.1.toArray⟩, .int .i64 q.2.2]
theorem dots_at17 (y : ByteArray) (p : List UInt8) (h : y.data.toList = p) : (y.toList == [46, 46]) = (p == Pt.dots) ∧ (y.toList == [46]) = (p == Pt.dot) ∧ y.toList.isEmpty = p.isEmpty := by
  rw [Lib.toList_data, h]; exact ⟨rfl, rfl, rfl⟩

set_option maxHeartbeats 8000000 in
set_option maxRecDepth 20000 in
theorem rclean17 (s : ByteArray) (l : List UInt8) (hl : s.data.toList = l) (w : World) (hs : s.size ≤ 4194304) :
    Calls Tryd.prog 9 #[.string s] w fun e w' => e = .returned (clV17 (Pt.clean l)) ∧ Below w.heap.size w w' := by
  obtain ⟨i0, hi0, hz0, hz1, hz2⟩ := minfo17 infoS17
  have HI := hid' hi0
  have HZ0 := hid' hz0
  have HZ1 := hid' hz1
  have HZ2 := hid' hz2
  clear hi0 hz0 hz1 hz2
  have HSZ : Hid (s.size = l.length) := hid' (by rw [Lib.size_eq, hl])
  have HGB : Hid (∀ k (h : k < s.size), l[k]? = some s[k]) := hid' (fun k h => by rw [← hl]; exact Tx.get_byte s k h)
  have HL := hid' hl
  obtain ⟨d, hd⟩ : ∃ d, (Pt.pre l).length = d := ⟨_, rfl⟩
  have HDL := hid' hd
  have hds : d ≤ s.size := by rw [← hd, HSZ.out]; exact Pt.pre_le l
  have HPA : Hid (∀ k (h : k < s.size), k < d → ((s[k].toNat : Int) != 63) = true) := hid' (fun k h hk => by
    obtain ⟨c, h1, h2⟩ := Pt.pre_at (l := l) (by rw [hd]; exact hk)
    rw [HGB.out k h] at h1
    injection h1 with h1
    rw [← h1] at h2
    unfold bne
    cases hq : ((s[k].toNat : Int) == 63)
    · rfl
    · have : s[k] = 63 := UInt8.toNat_inj.1 (by have := eq_of_beq hq; simpa using (by omega : s[k].toNat = 63))
      rw [this] at h2; cases h2)
  have HPS : Hid (∀ (h : d < s.size), ((s[d].toNat : Int) != 63) = false) := hid' (fun h => by
    have h1 := Pt.pre_stop (l := l) (by rw [hd, ← HSZ.out]; exact h)
    rw [hd, HGB.out d h] at h1
    injection h1 with h1
    rw [h1]; rfl)
  have HCL : Hid (Pt.clean l = ((Pt.core (Pt.pre l)).1, (if (Pt.core (Pt.pre l)).2 == 0 then Pt.qry l else []), (Pt.core (Pt.pre l)).2)) := hid' rfl
  clear hl hd
  go_enter Tryd.func9, Tryd.ntmps9
  go_wp2
  go_loopw [5] (fun s5 wr => ∃ k : Nat, s5 = .int .i64 (k : Int) ∧ k ≤ d ∧ Hid (wr = w)) (fun s5 _ => d - (intOf s5).toNat)
  case atStart => exact ⟨0, rfl, Nat.zero_le _, hid' rfl⟩
  case round =>
    obtain ⟨k, rfl, hk, HW⟩ := hrel
    obtain rfl := HW.out
    by_cases hkd : k < d
    · have hlt : k < s.size := by omega
      have hlt2 : (k : Int) < (s.size : Int) := by omega
      have hne := HPA.out k hlt hkd
      go_wp2
      go_roundw
      case rel => exact ⟨k + 1, by go_num, by omega, hid' (by trivial)⟩
      case measure => simp [intOf]; omega
    · have hkd2 : d = k := by omega
      subst hkd2
      have hdI : (d : Int) ≤ (s.size : Int) := by omega
      have HQE : Hid (s.extract (d + 1) s.size = ⟨(Pt.qry l).toArray⟩) := hid' (by
        rw [ext_td17, HL.out]
        unfold Pt.qry
        rw [HDL.out, List.take_of_length_le (by rw [List.length_drop, HSZ.out]; exact Nat.le_refl _)])
      have HQ0 : Hid (s.size ≤ d → Pt.qry l = []) := hid' (fun h => by unfold Pt.qry; rw [HDL.out, List.drop_eq_nil_of_le (by have := HSZ.out; omega)])
      have HPE : Hid (s.extract 0 d = ⟨(Pt.pre l).toArray⟩) := hid' (by rw [ext_td17, HL.out, List.drop_zero, Nat.sub_zero, ← HDL.out, Pt.pre_take])
      obtain ⟨qy, hqy⟩ : ∃ q, Pt.qry l = q := ⟨_, rfl⟩
      rw [hqy] at HQE HQ0 HCL
      obtain ⟨pr, hpr⟩ : ∃ q, Pt.pre l = q := ⟨_, rfl⟩
      rw [hpr] at HPE HCL HDL
      have HH0 : Hid (∀ (h : 0 < s.size), 0 < d → pr.head? = some s[0]) := hid' (fun h h0 => by
        have h1 := HGB.out 0 h
        rw [← hpr, ← Pt.pre_take, hpr, HDL.out]
        cases hq : l with
        | nil => rw [hq] at h1; simp at h1
        | cons a b =>
          rw [hq] at h1
          simp at h1
          rw [h1]
          cases d with
          | zero => omega
          | succ d => rfl)
      have HBX := hid' (Below.refl wr.heap.size wr)
      clear hkd hqy hpr
      by_cases hd0 : d = 0
      · have hdB : ((d : Int) == 0) = true := by rw [beq_iff_eq]; omega
        have HE : Hid (Pt.clean l = ([], [], 1)) := hid' (by
          have : pr = [] := List.eq_nil_of_length_eq_zero (by rw [HDL.out]; exact hd0)
          rw [HCL.out, this]; rfl)
        clear hd0
        by_cases hds2 : d < s.size
        · have hds3 : (d : Int) < (s.size : Int) := by omega
          have hds4 : (d : Int) + 1 ≤ (s.size : Int) := by omega
          have hne := HPS.out hds2
          go_wp2
          go_ret3
          exact ⟨by rw [HE.out]; rfl, HBX.out⟩
        · have hds3 : ¬ (d : Int) < (s.size : Int) := by omega
          go_wp2
          go_ret3
          exact ⟨by rw [HE.out]; rfl, HBX.out⟩
      · have hdB : ((d : Int) == 0) = false := by rw [beq_eq_false_iff_ne]; omega
        have h0s : 0 < s.size := by omega
        have h0I : (0 : Int) < (s.size : Int) := by omega
        have HH1 := hid' (HH0.out h0s (by omega))
        clear hd0
        cases h47 : ((s[0].toNat : Int) == 47)
        · have hn47 : ((s[0].toNat : Int) != 47) = true := by unfold bne; rw [h47]; rfl
          have HE : Hid (Pt.clean l = ([], [], 1)) := hid' (by
            have : (pr.head? == some 47) = false := by
              rw [HH1.out]
              cases hq : (s[0] == 47)
              · simpa using hq
              · rw [u47 s 0 h0s, h47] at hq; cases hq
            have hc : Pt.core pr = ([], 1) := by unfold Pt.core; rw [this]; rfl
            rw [HCL.out, hc]; rfl)
          clear h47
          by_cases hds2 : d < s.size
          · have hds3 : (d : Int) < (s.size : Int) := by omega
            have hds4 : (d : Int) + 1 ≤ (s.size : Int) := by omega
            have hne := HPS.out hds2
            go_wp2
            go_ret3
            exact ⟨by rw [HE.out]; rfl, HBX.out⟩
          · have hds3 : ¬ (d : Int) < (s.size : Int) := by omega
            go_wp2
            go_ret3
            exact ⟨by rw [HE.out]; rfl, HBX.out⟩
        · have hn47 : ((s[0].toNat : Int) != 47) = false := by unfold bne; rw [h47]; rfl
          have HHD : Hid ((pr.head? == some 47) = true) := hid' (by
            rw [HH1.out]
            have : s[0] = 47 := eq_of_beq ((u47 s 0 h0s).trans h47)
            rw [this]; rfl)
          have HUN := hid' (fun W => rundo17 ⟨pr.toArray⟩ pr rfl W (by rw [size_l']; rw [HDL.out]; omega))
          have HUL : Hid (∀ t, Pt.undo pr = some t → t.length ≤ 4194304) := hid' (fun t ht => by have := Pt.undo_len _ pr t (Nat.le_refl _) ht; rw [HDL.out] at this; omega)
          have HCC : Hid (Pt.core pr = match Pt.undo pr with | none => ([], 170) | some t => match Pt.keep [] (Pt.cutS [] t) with | none => ([], 171) | some k => (Pt.out k (Pt.lastOf (Pt.cutS [] t)), 0)) := hid' (by unfold Pt.core; rw [HHD.out]; rfl)
          have hpe := HPE.out
          clear h47
          by_cases hds2 : d < s.size
          · have hds3 : (d : Int) < (s.size : Int) := by omega
            have hds4 : (d : Int) + 1 ≤ (s.size : Int) := by omega
            have hne := HPS.out hds2
            have hqe := HQE.out
            cases hu : Pt.undo pr with
            | none =>
              have HE : Hid (Pt.clean l = ([], [], 170)) := hid' (by rw [HCL.out, HCC.out, hu]; rfl)
              rw [hu] at HUN
              simp only [udV17] at HUN
              clear hu
              go_wp2_with fail
              refine (HUN.out _).mono ?_
              rintro e w1 ⟨rfl, hb1⟩
              have HB1 := hid' hb1
              clear hb1
              go_wp2
              go_ret3
              exact ⟨by rw [HE.out]; rfl, HB1.out⟩
            | some t =>
              rw [hu] at HUN HCC
              simp only [udV17] at HUN HCC
              have hts := HUL.out t hu
              have HCT := hid' (fun W => rcut17 ⟨t.toArray⟩ t rfl W (by rw [size_l']; exact hts))
              have HSUM := hid' (Pt.cutS_sum t)
              have hpm : (Pt.cutS [] t).length ≤ 4194305 := by have := Pt.cutS_len t; omega
              have HNE := hid' (Pt.cutS_ne t [])
              obtain ⟨ps, hps⟩ : ∃ ps, Pt.cutS [] t = ps := ⟨_, rfl⟩
              rw [hps] at HCT HCC HSUM hpm HNE
              clear hu hps
              go_wp2_with fail
              refine (HUN.out _).mono ?_
              rintro e w1 ⟨rfl, hb1⟩
              have HB1 := hid' hb1
              clear hb1
              go_wp2_with fail
              refine (HCT.out _).mono ?_
              rintro e w2 ⟨⟨m, po, pc, rfl, hm, hown⟩, hb2⟩
              have HB2 := hid' (below_two HB1.out hb2)
              have HM := hid' hm
              have HSR := hid' (SR17.own hown)
              have hm1 : 1 ≤ m := by
                rw [← hm]
                cases hq : ps with
                | nil => exact absurd hq HNE.out
                | cons a b => simp
              rw [hm] at hpm
              clear hm hown hb2 HUN HCT
              go_wp2
              go_loopw [10, 11] (fun s10 s11 wr => ∃ (i c : Nat) (ro : Option Addr) (rc : Nat) (kp : List Pt.T8), s11 = .int .i64 (i : Int) ∧ s10 = .slice ro c rc ∧ i ≤ m ∧ c ≤ i ∧ Hid (kp.length = c) ∧ Hid (Pt.keep [] ps = Pt.keep kp (ps.drop i)) ∧ Hid (wr.ownsRow w2.heap.size 9 1 (.slice ro c rc) c (sC17 kp)) ∧ Hid (Below w2.heap.size w2 wr)) (fun _ s11 _ => m - (intOf s11).toNat)
              case atStart => exact ⟨0, 0, none, 0, [], rfl, rfl, Nat.zero_le _, Nat.le_refl _, hid' rfl, hid' (by rw [List.drop_zero]), hid' (World.ownsRow_nil _ _ _ _), hid' (Below.refl _ _)⟩
              case round =>
                obtain ⟨i, c, ro, rc, kp, rfl, rfl, hi, hci, HKL, HK, HO, HB⟩ := hrel
                by_cases hlt : i < m
                · have hlt2 : (i : Int) < (m : Int) := by omega
                  obtain ⟨p, hp⟩ : ∃ p, ps[i]? = some p := ⟨_, List.getElem?_eq_getElem (by rw [HM.out]; exact hlt)⟩
                  obtain ⟨g, rfl, _, y0⟩ := (HSR.out.below HB.out) i p hp
                  have HKS := hid' (Pt.keep_step (k := kp) hp)
                  obtain ⟨y, hy⟩ : ∃ y : ByteArray, (⟨p.toArray⟩ : ByteArray) = y := ⟨_, rfl⟩
                  have hyd := dots_at17 y p (by rw [← hy])
                  have HYS : Hid (sC17 [p] = [.string y]) := hid' (by unfold sC17; rw [← hy]; rfl)
                  rw [hy] at y0
                  have hST : Pt.step kp p = (if p == Pt.dots then (if kp.isEmpty then none else some kp.dropLast) else if p.isEmpty || p == Pt.dot then some kp else some (kp ++ [p])) := rfl
                  obtain ⟨hy1, hy2, hy3⟩ := hyd
                  clear hp hy
                  cases q1 : (p == Pt.dots)
                  · rw [q1] at hy1 hST
                    cases q2 : p.isEmpty
                    · rw [q2] at hy3 hST
                      cases q3 : (p == Pt.dot)
                      · rw [q3] at hy2 hST
                        have HST : Hid (Pt.step kp p = some (kp ++ [p])) := hid' hST
                        rw [HST.out] at HKS
                        have HA : Hid ((wr.alloc (.cells #[.string y] 9)).ownsRow w2.heap.size 9 1 (.slice ro c rc) c (sC17 kp)) := hid' (HO.out.alloc _)
                        have hy3n : (!y.toList.isEmpty) = true := by rw [hy3]; rfl
                        have hy2n : (y.toList != [46]) = true := by unfold bne; rw [hy2]; rfl
                        clear hST q1 q2 q3
                        go_wp2_with (at_builtin; refine wpList_append_own_at _ rfl _ _ 25 rfl w2.heap.size 9 i0 (.string ⟨#[]⟩) 1 16 Tryd.underlying25 HI.out HZ0.out HZ1.out HZ2.out rfl (by decide) (.slice ro c rc) c (sC17 kp) rfl HA.out ⟨wr.heap.size, 0, none⟩ 1 1 [.string y] rfl rfl (one_cell17 _ _ _) (by simp [Value.oneCell']) (by unfold maxLen; omega) (by omega) (by simp; have := HB.out.size; omega) ?_; intro v3 w3 hown3 hgrow3 _ _; refine Hid.out ?_)
                        refine hid' ?_
                        have e : sC17 kp ++ [Value.string y] = sC17 (kp ++ [p]) := by rw [sC17_app, HYS.out]
                        rw [e] at hown3
                        obtain ⟨v3o, v3c, hv3⟩ := own_shape17 hown3
                        subst hv3
                        have HO3 := hid' hown3
                        have HB3 : Hid (Below w2.heap.size w2 w3) := hid' ((HB.out.alloc HB.out.size _).grown hgrow3 (by simp; have := HB.out.size; omega) (fun k hk => (HA.out.lt k hk).1))
                        clear hown3 hgrow3 e
                        go_wp2
                        go_roundw
                        case rel => exact ⟨i + 1, c + 1, v3o, v3c, kp ++ [p], by go_num, rfl, by omega, by omega, hid' (by rw [List.length_append, HKL.out]; rfl), hid' (by rw [HK.out, HKS.out]), HO3, HB3⟩
                        case measure => simp [intOf]; omega
                      · rw [q3] at hy2 hST
                        have HST : Hid (Pt.step kp p = some kp) := hid' hST
                        rw [HST.out] at HKS
                        have hy3n : (!y.toList.isEmpty) = true := by rw [hy3]; rfl
                        have hy2n : (y.toList != [46]) = false := by unfold bne; rw [hy2]; rfl
                        clear hST q1 q2 q3
                        go_wp2
                        go_roundw
                        case rel => exact ⟨i + 1, c, ro, rc, kp, by go_num, rfl, by omega, by omega, HKL, hid' (by rw [HK.out, HKS.out]), HO, HB⟩
                        case measure => simp [intOf]; omega
                    · rw [q2] at hy3 hST
                      have HST : Hid (Pt.step kp p = some kp) := hid' hST
                      rw [HST.out] at HKS
                      have hy3n : (!y.toList.isEmpty) = false := by rw [hy3]; rfl
                      clear hST q1 q2
                      go_wp2
                      go_roundw
                      case rel => exact ⟨i + 1, c, ro, rc, kp, by go_num, rfl, by omega, by omega, HKL, hid' (by rw [HK.out, HKS.out]), HO, HB⟩
                      case measure => simp [intOf]; omega
                  · rw [q1] at hy1 hST
                    by_cases hc0 : c = 0
                    · have hcB : ((c : Int) == 0) = true := by rw [beq_iff_eq]; omega
                      have hke : kp = [] := List.eq_nil_of_length_eq_zero (HKL.out.trans hc0)
                      have HE : Hid (Pt.clean l = ([], [], 171)) := hid' (by
                        have hs0 : Pt.step kp p = none := by rw [hST, hke]; rfl
                        rw [hs0] at HKS
                        have : Pt.keep [] ps = none := by rw [HK.out, HKS.out]
                        rw [HCL.out, HCC.out, this]; rfl)
                      clear hST q1 hke hc0
                      go_wp2
                      go_ret3
                      exact ⟨by rw [HE.out]; rfl, below_two HB2.out HB.out⟩
                    · obtain ⟨c', rfl⟩ : ∃ c', c = c' + 1 := ⟨c - 1, by omega⟩
                      have hcB : (((c' + 1 : Nat) : Int) == 0) = false := by rw [beq_eq_false_iff_ne]; omega
                      have hke : kp.isEmpty = false := by
                        cases hq : kp with
                        | nil => have := HKL.out; rw [hq] at this; simp at this
                        | cons a b => rfl
                      have HST : Hid (Pt.step kp p = some kp.dropLast) := hid' (by rw [hST, hke]; rfl)
                      rw [HST.out] at HKS
                      obtain ⟨hcut, hcc, hcm, g2, hg2⟩ := own_cut17 HO.out
                      subst hg2
                      have HO2 := hid' hcut
                      have t1 : (c' : Int) ≤ (rc : Int) := by omega
                      have t2 : c' ≤ rc := by omega
                      clear hST q1 hke hc0 hcut hcm
                      go_wp2
                      go_roundw
                      case rel => exact ⟨i + 1, c', some ⟨g2, 0, none⟩, rc, kp.dropLast, by go_num, by first | rfl | simp, by omega, by omega, hid' (by rw [List.length_dropLast, HKL.out]; omega), hid' (by rw [HK.out, HKS.out]), HO2, HB⟩
                      case measure => simp [intOf]; omega
                · have hlt2 : ¬ (i : Int) < (m : Int) := by omega
                  have HKF : Hid (Pt.keep [] ps = some kp) := hid' (by rw [HK.out, List.drop_eq_nil_of_le (by rw [HM.out]; omega), Pt.keep])
                  have HO2 := hid' HO.out
                  have HSO := hid' (SR17.own HO.out)
                  have hsm : (kp.map List.length).sum + kp.length ≤ 16777216 := by
                    have h1 := Pt.keep_sum ps [] kp HKF.out
                    have h2 := HSUM.out
                    rw [HM.out] at h2
                    rw [HM.out] at h1
                    simp at h1
                    omega
                  have HJN := hid' (fun W (h : SR17 W ro kp) => rjoin17 ro c rc kp HKL.out W h (by omega) hsm)
                  have hJL : (Pt.join kp).length ≤ 16777216 := Nat.le_trans (Pt.join_len kp) hsm
                  have HOUT : Hid (∀ q, Pt.out kp q = 47 :: (Pt.join kp ++ (if !kp.isEmpty && Pt.isLast q then [47] else []))) := hid' (fun _ => rfl)
                  generalize Pt.join kp = J at HJN hJL HOUT
                  obtain ⟨m', rfl⟩ : ∃ m', m = m' + 1 := ⟨m - 1, by omega⟩
                  obtain ⟨p, hp⟩ : ∃ p, ps[m']? = some p := ⟨_, List.getElem?_eq_getElem (by rw [HM.out]; omega)⟩
                  obtain ⟨g, rfl, _, y0⟩ := (HSR.out.below HB.out) m' p hp
                  have HLA : Hid (Pt.lastOf ps = p) := hid' (by unfold Pt.lastOf; rw [List.getLast?_eq_getElem?, HM.out, Nat.add_sub_cancel, hp]; rfl)
                  have HE0 : Hid (Pt.clean l = (Pt.out kp p, qy, 0)) := hid' (by rw [HCL.out, HCC.out, HKF.out, HLA.out]; rfl)
                  rw [HOUT.out] at HE0
                  obtain ⟨y, hy⟩ : ∃ y : ByteArray, (⟨p.toArray⟩ : ByteArray) = y := ⟨_, rfl⟩
                  obtain ⟨hy1, hy2, hy3⟩ := dots_at17 y p (by rw [← hy])
                  rw [hy] at y0
                  have k1 : ¬ 9223372036854775807 < 1 + J.length := by omega
                  have k2 : ¬ 9223372036854775807 < 1 + J.length + 1 := by omega
                  have hIL : Pt.isLast p = (p.isEmpty || (p == Pt.dot || p == Pt.dots)) := rfl
                  have cat1 : (⟨#[47]⟩ : ByteArray) ++ ⟨J.toArray⟩ = ⟨(47 :: J).toArray⟩ := by apply ByteArray.ext; simp
                  have cat2 : (⟨(47 :: J).toArray⟩ : ByteArray) ++ ⟨#[47]⟩ = ⟨(47 :: (J ++ [47])).toArray⟩ := by apply ByteArray.ext; simp
                  have CAT1 := hid' cat1
                  have CAT2 := hid' cat2
                  clear hp hy cat1 cat2 hlt
                  by_cases hc0 : c = 0
                  · have hcI : ¬ (0 : Int) < (c : Int) := by omega
                    have hke : kp = [] := List.eq_nil_of_length_eq_zero (HKL.out.trans hc0)
                    have HE : Hid (Pt.clean l = (47 :: J, qy, 0)) := hid' (by rw [HE0.out, hke]; simp)
                    clear hc0 hke hIL
                    go_wp2_with fail
                    refine (HJN.out _ HSO.out).mono ?_
                    rintro e w3 ⟨rfl, hw⟩
                    subst w3
                    go_wp2
                    go_ret3
                    exact ⟨by rw [HE.out, CAT1.out]; rfl, below_two HB2.out HB.out⟩
                  · have hcI : (0 : Int) < (c : Int) := by omega
                    have hke : kp.isEmpty = false := by
                      cases hq : kp with
                      | nil => have := HKL.out; rw [hq] at this; exact absurd this.symm hc0
                      | cons a b => rfl
                    rw [hke] at HE0
                    cases q2 : p.isEmpty
                    · rw [q2] at hy3 hIL
                      cases q3 : (p == Pt.dot)
                      · rw [q3] at hy2 hIL
                        cases q1 : (p == Pt.dots)
                        · rw [q1] at hy1 hIL
                          have HE : Hid (Pt.clean l = (47 :: J, qy, 0)) := hid' (by rw [HE0.out, hIL]; simp)
                          clear hc0 hke hIL q1 q2 q3
                          go_wp2_with fail
                          refine (HJN.out _ HSO.out).mono ?_
                          rintro e w3 ⟨rfl, hw⟩
                          subst w3
                          go_wp2
                          go_ret3
                          exact ⟨by rw [HE.out, CAT1.out]; rfl, below_two HB2.out HB.out⟩
                        · rw [q1] at hy1 hIL
                          have HE : Hid (Pt.clean l = (47 :: (J ++ [47]), qy, 0)) := hid' (by rw [HE0.out, hIL]; simp)
                          clear hc0 hke hIL q1 q2 q3
                          go_wp2_with fail
                          refine (HJN.out _ HSO.out).mono ?_
                          rintro e w3 ⟨rfl, hw⟩
                          subst w3
                          go_wp2
                          go_ret3
                          exact ⟨by rw [HE.out, CAT1.out, CAT2.out]; rfl, below_two HB2.out HB.out⟩
                      · rw [q3] at hy2 hIL
                        have HE : Hid (Pt.clean l = (47 :: (J ++ [47]), qy, 0)) := hid' (by rw [HE0.out, hIL]; simp)
                        clear hc0 hke hIL q2 q3
                        go_wp2_with fail
                        refine (HJN.out _ HSO.out).mono ?_
                        rintro e w3 ⟨rfl, hw⟩
                        subst w3
                        go_wp2
                        go_ret3
                        exact ⟨by rw [HE.out, CAT1.out, CAT2.out]; rfl, below_two HB2.out HB.out⟩
                    · rw [q2] at hy3 hIL
                      have HE : Hid (Pt.clean l = (47 :: (J ++ [47]), qy, 0)) := hid' (by rw [HE0.out, hIL]; simp)
                      clear hc0 hke hIL q2
                      go_wp2_with fail
                      refine (HJN.out _ HSO.out).mono ?_
                      rintro e w3 ⟨rfl, hw⟩
                      subst w3
                      go_wp2
                      go_ret3
                      exact ⟨by rw [HE.out, CAT1.out, CAT2.out]; rfl, below_two HB2.out HB.out⟩
          · have hds3 : ¬ (d : Int) < (s.size : Int) := by omega
            obtain rfl : qy = [] := HQ0.out (by omega)
            cases hu : Pt.undo pr with
            | none =>
              have HE : Hid (Pt.clean l = ([], [], 170)) := hid' (by rw [HCL.out, HCC.out, hu]; rfl)
              rw [hu] at HUN
              simp only [udV17] at HUN
              clear hu
              go_wp2_with fail
              refine (HUN.out _).mono ?_
              rintro e w1 ⟨rfl, hb1⟩
              have HB1 := hid' hb1
              clear hb1
              go_wp2
              go_ret3
              exact ⟨by rw [HE.out]; rfl, HB1.out⟩
            | some t =>
              rw [hu] at HUN HCC
              simp only [udV17] at HUN HCC
              have hts := HUL.out t hu
              have HCT := hid' (fun W => rcut17 ⟨t.toArray⟩ t rfl W (by rw [size_l']; exact hts))
              have HSUM := hid' (Pt.cutS_sum t)
              have hpm : (Pt.cutS [] t).length ≤ 4194305 := by have := Pt.cutS_len t; omega
              have HNE := hid' (Pt.cutS_ne t [])
              obtain ⟨ps, hps⟩ : ∃ ps, Pt.cutS [] t = ps := ⟨_, rfl⟩
              rw [hps] at HCT HCC HSUM hpm HNE
              clear hu hps
              go_wp2_with fail
              refine (HUN.out _).mono ?_
              rintro e w1 ⟨rfl, hb1⟩
              have HB1 := hid' hb1
              clear hb1
              go_wp2_with fail
              refine (HCT.out _).mono ?_
              rintro e w2 ⟨⟨m, po, pc, rfl, hm, hown⟩, hb2⟩
              have HB2 := hid' (below_two HB1.out hb2)
              have HM := hid' hm
              have HSR := hid' (SR17.own hown)
              have hm1 : 1 ≤ m := by
                rw [← hm]
                cases hq : ps with
                | nil => exact absurd hq HNE.out
                | cons a b => simp
              rw [hm] at hpm
              clear hm hown hb2 HUN HCT
              go_wp2
              go_loopw [10, 11] (fun s10 s11 wr => ∃ (i c : Nat) (ro : Option Addr) (rc : Nat) (kp : List Pt.T8), s11 = .int .i64 (i : Int) ∧ s10 = .slice ro c rc ∧ i ≤ m ∧ c ≤ i ∧ Hid (kp.length = c) ∧ Hid (Pt.keep [] ps = Pt.keep kp (ps.drop i)) ∧ Hid (wr.ownsRow w2.heap.size 9 1 (.slice ro c rc) c (sC17 kp)) ∧ Hid (Below w2.heap.size w2 wr)) (fun _ s11 _ => m - (intOf s11).toNat)
              case atStart => exact ⟨0, 0, none, 0, [], rfl, rfl, Nat.zero_le _, Nat.le_refl _, hid' rfl, hid' (by rw [List.drop_zero]), hid' (World.ownsRow_nil _ _ _ _), hid' (Below.refl _ _)⟩
              case round =>
                obtain ⟨i, c, ro, rc, kp, rfl, rfl, hi, hci, HKL, HK, HO, HB⟩ := hrel
                by_cases hlt : i < m
                · have hlt2 : (i : Int) < (m : Int) := by omega
                  obtain ⟨p, hp⟩ : ∃ p, ps[i]? = some p := ⟨_, List.getElem?_eq_getElem (by rw [HM.out]; exact hlt)⟩
                  obtain ⟨g, rfl, _, y0⟩ := (HSR.out.below HB.out) i p hp
                  have HKS := hid' (Pt.keep_step (k := kp) hp)
                  obtain ⟨y, hy⟩ : ∃ y : ByteArray, (⟨p.toArray⟩ : ByteArray) = y := ⟨_, rfl⟩
                  have hyd := dots_at17 y p (by rw [← hy])
                  have HYS : Hid (sC17 [p] = [.string y]) := hid' (by unfold sC17; rw [← hy]; rfl)
                  rw [hy] at y0
                  have hST : Pt.step kp p = (if p == Pt.dots then (if kp.isEmpty then none else some kp.dropLast) else if p.isEmpty || p == Pt.dot then some kp else some (kp ++ [p])) := rfl
                  obtain ⟨hy1, hy2, hy3⟩ := hyd
                  clear hp hy
                  cases q1 : (p == Pt.dots)
                  · rw [q1] at hy1 hST
                    cases q2 : p.isEmpty
                    · rw [q2] at hy3 hST
                      cases q3 : (p == Pt.dot)
                      · rw [q3] at hy2 hST
                        have HST : Hid (Pt.step kp p = some (kp ++ [p])) := hid' hST
                        rw [HST.out] at HKS
                        have HA : Hid ((wr.alloc (.cells #[.string y] 9)).ownsRow w2.heap.size 9 1 (.slice ro c rc) c (sC17 kp)) := hid' (HO.out.alloc _)
                        have hy3n : (!y.toList.isEmpty) = true := by rw [hy3]; rfl
                        have hy2n : (y.toList != [46]) = true := by unfold bne; rw [hy2]; rfl
                        clear hST q1 q2 q3
                        go_wp2_with (at_builtin; refine wpList_append_own_at _ rfl _ _ 25 rfl w2.heap.size 9 i0 (.string ⟨#[]⟩) 1 16 Tryd.underlying25 HI.out HZ0.out HZ1.out HZ2.out rfl (by decide) (.slice ro c rc) c (sC17 kp) rfl HA.out ⟨wr.heap.size, 0, none⟩ 1 1 [.string y] rfl rfl (one_cell17 _ _ _) (by simp [Value.oneCell']) (by unfold maxLen; omega) (by omega) (by simp; have := HB.out.size; omega) ?_; intro v3 w3 hown3 hgrow3 _ _; refine Hid.out ?_)
                        refine hid' ?_
                        have e : sC17 kp ++ [Value.string y] = sC17 (kp ++ [p]) := by rw [sC17_app, HYS.out]
                        rw [e] at hown3
                        obtain ⟨v3o, v3c, hv3⟩ := own_shape17 hown3
                        subst hv3
                        have HO3 := hid' hown3
                        have HB3 : Hid (Below w2.heap.size w2 w3) := hid' ((HB.out.alloc HB.out.size _).grown hgrow3 (by simp; have := HB.out.size; omega) (fun k hk => (HA.out.lt k hk).1))
                        clear hown3 hgrow3 e
                        go_wp2
                        go_roundw
                        case rel => exact ⟨i + 1, c + 1, v3o, v3c, kp ++ [p], by go_num, rfl, by omega, by omega, hid' (by rw [List.length_append, HKL.out]; rfl), hid' (by rw [HK.out, HKS.out]), HO3, HB3⟩
                        case measure => simp [intOf]; omega
                      · rw [q3] at hy2 hST
                        have HST : Hid (Pt.step kp p = some kp) := hid' hST
                        rw [HST.out] at HKS
                        have hy3n : (!y.toList.isEmpty) = true := by rw [hy3]; rfl
                        have hy2n : (y.toList != [46]) = false := by unfold bne; rw [hy2]; rfl
                        clear hST q1 q2 q3
                        go_wp2
                        go_roundw
                        case rel => exact ⟨i + 1, c, ro, rc, kp, by go_num, rfl, by omega, by omega, HKL, hid' (by rw [HK.out, HKS.out]), HO, HB⟩
                        case measure => simp [intOf]; omega
                    · rw [q2] at hy3 hST
                      have HST : Hid (Pt.step kp p = some kp) := hid' hST
                      rw [HST.out] at HKS
                      have hy3n : (!y.toList.isEmpty) = false := by rw [hy3]; rfl
                      clear hST q1 q2
                      go_wp2
                      go_roundw
                      case rel => exact ⟨i + 1, c, ro, rc, kp, by go_num, rfl, by omega, by omega, HKL, hid' (by rw [HK.out, HKS.out]), HO, HB⟩
                      case measure => simp [intOf]; omega
                  · rw [q1] at hy1 hST
                    by_cases hc0 : c = 0
                    · have hcB : ((c : Int) == 0) = true := by rw [beq_iff_eq]; omega
                      have hke : kp = [] := List.eq_nil_of_length_eq_zero (HKL.out.trans hc0)
                      have HE : Hid (Pt.clean l = ([], [], 171)) := hid' (by
                        have hs0 : Pt.step kp p = none := by rw [hST, hke]; rfl
                        rw [hs0] at HKS
                        have : Pt.keep [] ps = none := by rw [HK.out, HKS.out]
                        rw [HCL.out, HCC.out, this]; rfl)
                      clear hST q1 hke hc0
                      go_wp2
                      go_ret3
                      exact ⟨by rw [HE.out]; rfl, below_two HB2.out HB.out⟩
                    · obtain ⟨c', rfl⟩ : ∃ c', c = c' + 1 := ⟨c - 1, by omega⟩
                      have hcB : (((c' + 1 : Nat) : Int) == 0) = false := by rw [beq_eq_false_iff_ne]; omega
                      have hke : kp.isEmpty = false := by
                        cases hq : kp with
                        | nil => have := HKL.out; rw [hq] at this; simp at this
                        | cons a b => rfl
                      have HST : Hid (Pt.step kp p = some kp.dropLast) := hid' (by rw [hST, hke]; rfl)
                      rw [HST.out] at HKS
                      obtain ⟨hcut, hcc, hcm, g2, hg2⟩ := own_cut17 HO.out
                      subst hg2
                      have HO2 := hid' hcut
                      have t1 : (c' : Int) ≤ (rc : Int) := by omega
                      have t2 : c' ≤ rc := by omega
                      clear hST q1 hke hc0 hcut hcm
                      go_wp2
                      go_roundw
                      case rel => exact ⟨i + 1, c', some ⟨g2, 0, none⟩, rc, kp.dropLast, by go_num, by first | rfl | simp, by omega, by omega, hid' (by rw [List.length_dropLast, HKL.out]; omega), hid' (by rw [HK.out, HKS.out]), HO2, HB⟩
                      case measure => simp [intOf]; omega
                · have hlt2 : ¬ (i : Int) < (m : Int) := by omega
                  have HKF : Hid (Pt.keep [] ps = some kp) := hid' (by rw [HK.out, List.drop_eq_nil_of_le (by rw [HM.out]; omega), Pt.keep])
                  have HO2 := hid' HO.out
                  have HSO := hid' (SR17.own HO.out)
                  have hsm : (kp.map List.length).sum + kp.length ≤ 16777216 := by
                    have h1 := Pt.keep_sum ps [] kp HKF.out
                    have h2 := HSUM.out
                    rw [HM.out] at h2
                    rw [HM.out] at h1
                    simp at h1
                    omega
                  have HJN := hid' (fun W (h : SR17 W ro kp) => rjoin17 ro c rc kp HKL.out W h (by omega) hsm)
                  have hJL : (Pt.join kp).length ≤ 16777216 := Nat.le_trans (Pt.join_len kp) hsm
                  have HOUT : Hid (∀ q, Pt.out kp q = 47 :: (Pt.join kp ++ (if !kp.isEmpty && Pt.isLast q then [47] else []))) := hid' (fun _ => rfl)
                  generalize Pt.join kp = J at HJN hJL HOUT
                  obtain ⟨m', rfl⟩ : ∃ m', m = m' + 1 := ⟨m - 1, by omega⟩
                  obtain ⟨p, hp⟩ : ∃ p, ps[m']? = some p := ⟨_, List.getElem?_eq_getElem (by rw [HM.out]; omega)⟩
                  obtain ⟨g, rfl, _, y0⟩ := (HSR.out.below HB.out) m' p hp
                  have HLA : Hid (Pt.lastOf ps = p) := hid' (by unfold Pt.lastOf; rw [List.getLast?_eq_getElem?, HM.out, Nat.add_sub_cancel, hp]; rfl)
                  have HE0 : Hid (Pt.clean l = (Pt.out kp p, [], 0)) := hid' (by rw [HCL.out, HCC.out, HKF.out, HLA.out]; rfl)
                  rw [HOUT.out] at HE0
                  obtain ⟨y, hy⟩ : ∃ y : ByteArray, (⟨p.toArray⟩ : ByteArray) = y := ⟨_, rfl⟩
                  obtain ⟨hy1, hy2, hy3⟩ := dots_at17 y p (by rw [← hy])
                  rw [hy] at y0
                  have k1 : ¬ 9223372036854775807 < 1 + J.length := by omega
                  have k2 : ¬ 9223372036854775807 < 1 + J.length + 1 := by omega
                  have hIL : Pt.isLast p = (p.isEmpty || (p == Pt.dot || p == Pt.dots)) := rfl
                  have cat1 : (⟨#[47]⟩ : ByteArray) ++ ⟨J.toArray⟩ = ⟨(47 :: J).toArray⟩ := by apply ByteArray.ext; simp
                  have cat2 : (⟨(47 :: J).toArray⟩ : ByteArray) ++ ⟨#[47]⟩ = ⟨(47 :: (J ++ [47])).toArray⟩ := by apply ByteArray.ext; simp
                  have CAT1 := hid' cat1
                  have CAT2 := hid' cat2
                  clear hp hy cat1 cat2 hlt
                  by_cases hc0 : c = 0
                  · have hcI : ¬ (0 : Int) < (c : Int) := by omega
                    have hke : kp = [] := List.eq_nil_of_length_eq_zero (HKL.out.trans hc0)
                    have HE : Hid (Pt.clean l = (47 :: J, [], 0)) := hid' (by rw [HE0.out, hke]; simp)
                    clear hc0 hke hIL
                    go_wp2_with fail
                    refine (HJN.out _ HSO.out).mono ?_
                    rintro e w3 ⟨rfl, hw⟩
                    subst w3
                    go_wp2
                    go_ret3
                    exact ⟨by rw [HE.out, CAT1.out]; rfl, below_two HB2.out HB.out⟩
                  · have hcI : (0 : Int) < (c : Int) := by omega
                    have hke : kp.isEmpty = false := by
                      cases hq : kp with
                      | nil => have := HKL.out; rw [hq] at this; exact absurd this.symm hc0
                      | cons a b => rfl
                    rw [hke] at HE0
                    cases q2 : p.isEmpty
                    · rw [q2] at hy3 hIL
                      cases q3 : (p == Pt.dot)
                      · rw [q3] at hy2 hIL
                        cases q1 : (p == Pt.dots)
                        · rw [q1] at hy1 hIL
                          have HE : Hid (Pt.clean l = (47 :: J, [], 0)) := hid' (by rw [HE0.out, hIL]; simp)
                          clear hc0 hke hIL q1 q2 q3
                          go_wp2_with fail
                          refine (HJN.out _ HSO.out).mono ?_
                          rintro e w3 ⟨rfl, hw⟩
                          subst w3
                          go_wp2
                          go_ret3
                          exact ⟨by rw [HE.out, CAT1.out]; rfl, below_two HB2.out HB.out⟩
                        · rw [q1] at hy1 hIL
                          have HE : Hid (Pt.clean l = (47 :: (J ++ [47]), [], 0)) := hid' (by rw [HE0.out, hIL]; simp)
                          clear hc0 hke hIL q1 q2 q3
                          go_wp2_with fail
                          refine (HJN.out _ HSO.out).mono ?_
                          rintro e w3 ⟨rfl, hw⟩
                          subst w3
                          go_wp2
                          go_ret3
                          exact ⟨by rw [HE.out, CAT1.out, CAT2.out]; rfl, below_two HB2.out HB.out⟩
                      · rw [q3] at hy2 hIL
                        have HE : Hid (Pt.clean l = (47 :: (J ++ [47]), [], 0)) := hid' (by rw [HE0.out, hIL]; simp)
                        clear hc0 hke hIL q2 q3
                        go_wp2_with fail
                        refine (HJN.out _ HSO.out).mono ?_
                        rintro e w3 ⟨rfl, hw⟩
                        subst w3
                        go_wp2
                        go_ret3
                        exact ⟨by rw [HE.out, CAT1.out, CAT2.out]; rfl, below_two HB2.out HB.out⟩
                    · rw [q2] at hy3 hIL
                      have HE : Hid (Pt.clean l = (47 :: (J ++ [47]), [], 0)) := hid' (by rw [HE0.out, hIL]; simp)
                      clear hc0 hke hIL q2
                      go_wp2_with fail
                      refine (HJN.out _ HSO.out).mono ?_
                      rintro e w3 ⟨rfl, hw⟩
                      subst w3
                      go_wp2
                      go_ret3
                      exact ⟨by rw [HE.out, CAT1.out, CAT2.out]; rfl, below_two HB2.out HB.out⟩

end Go.Proofs.YtjgdmooedeilhaaDoor
