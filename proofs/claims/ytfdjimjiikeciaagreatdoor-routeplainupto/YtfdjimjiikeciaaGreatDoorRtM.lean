/-
  The document's Check: by its contract.
-/
import Derived.Test.YtfdjimjiikeciaaGreatDoorRtFK18
import Derived.Test.YtfdjimjiikeciaaGreatDoorToks
import Derived.Deep.RegionHeld3
namespace Go.Proofs.YtfdjimjiikeciaaGreatDoor
open Go.RowKit

namespace Rt
theorem chk_at {rs : List Ro} {i : Nat} {r : Ro} (h : rs[i]? = some r) : chk (rs.take i) (rs.drop i) = if badRo r then 180 else if twice (rs.take i) r then 181 else chk (rs.take (i + 1)) (rs.drop (i + 1)) := by
  obtain ⟨h1, h2⟩ := List.getElem?_eq_some_iff.1 h
  rw [List.drop_eq_getElem_cons h1, h2, chk, List.take_add_one, h]
  rfl
theorem twice_yes {rs : List Ro} {i j : Nat} {r q : Ro} (h : rs[j]? = some q) (hj : j < i) (ht : (q.m == r.m && shape (pat r) (pat q)) = true) : twice (rs.take i) r = true := by
  unfold twice
  rw [List.any_eq_true]
  exact ⟨q, List.mem_of_getElem? (i := j) (by rw [List.getElem?_take, if_pos hj]; exact h), ht⟩
theorem twice_no {rs : List Ro} {i : Nat} {r : Ro} (h : ∀ (j : Nat) (q : Ro), j < i → rs[j]? = some q → (q.m == r.m && shape (pat r) (pat q)) = false) : twice (rs.take i) r = false := by
  unfold twice
  rw [List.any_eq_false]
  intro q hq
  obtain ⟨j, hj, hjq⟩ := List.mem_iff_getElem.1 hq
  have hj2 : j < i := by rw [List.length_take] at hj; omega
  have := h j q hj2 (by
    have h3 : (rs.take i)[j]? = some q := by rw [List.getElem?_eq_getElem hj, hjq]
    rw [List.getElem?_take, if_pos hj2] at h3
    exact h3)
  rw [this]; decide
end Rt

set_option maxHeartbeats 8000000 in
set_option maxRecDepth 20000 in
theorem rcheck18 (ao : Option Addr) (n ac : Nat) (rs : List Rt.Ro) (hn : rs.length = n) (hnb : n ≤ 4194305) (w : World) (h1 : RR18 w ao rs) :
    Calls Tryz.prog 9 #[.slice ao n ac] w fun e w' => e = .returned (.int .i64 (Rt.check rs)) ∧ Below w.heap.size w w' := by
  have H1 := hid' h1
  have HN := hid' hn
  clear h1 hn
  by_cases hm : 256 < n
  · have hmI : (256 : Int) < (n : Int) := by omega
    have HE : Hid (Rt.check rs = 4) := hid' (by unfold Rt.check; rw [HN.out, if_pos hm])
    clear hm
    go_enter Tryz.func9, Tryz.ntmps9
    go_wp2
    go_ret
    exact ⟨by rw [HE.out]; rfl, Below.refl _ _⟩
  have hmI : ¬ (256 : Int) < (n : Int) := by omega
  have HE : Hid (Rt.check rs = Rt.chk [] rs) := hid' (by unfold Rt.check; rw [HN.out, if_neg hm])
  clear hm
  go_enter Tryz.func9, Tryz.ntmps9
  go_wp2
  go_loopw [3] (fun s3 wr => ∃ i : Nat, s3 = .int .i64 (i : Int) ∧ i ≤ n ∧ Hid (Rt.check rs = Rt.chk (rs.take i) (rs.drop i)) ∧ Hid (Below w.heap.size w wr)) (fun s3 _ => n - (intOf s3).toNat)
  case atStart => exact ⟨0, rfl, Nat.zero_le _, hid' (by rw [HE.out]; simp), hid' (Below.refl _ _)⟩
  case round =>
    obtain ⟨i, rfl, hi, HC, HB⟩ := hrel
    by_cases hlt : i < n
    · have hlt2 : (i : Int) < (n : Int) := by omega
      obtain ⟨r, hr⟩ : ∃ r, rs[i]? = some r := ⟨_, List.getElem?_eq_getElem (by rw [HN.out]; exact hlt)⟩
      obtain ⟨a, e1, l1, x0, x1, x2, hpl, hml, z, x3⟩ := (H1.out.below HB.out) i r hr
      subst e1
      obtain ⟨x, hx⟩ : ∃ x : ByteArray, (⟨r.m.toArray⟩ : ByteArray) = x := ⟨_, rfl⟩
      obtain ⟨y, hy⟩ : ∃ x : ByteArray, (⟨r.p.toArray⟩ : ByteArray) = x := ⟨_, rfl⟩
      have HRP : Hid (∀ W, Calls Tryz.prog 14 #[.string y] W fun e w' => patR18 W (Rt.pattern r.p) e w' ∧ Below W.heap.size W w') := hid' (fun W => rpat18 y r.p (by rw [← hy]) W (by rw [← hy]; simpa [ByteArray.size] using hpl))
      have HPL : Hid ((Rt.pat r).length ≤ 4194305) := hid' (by have := Rt.pat_len18 r; omega)
      have HTK : Hid (∀ W, Calls Tryz.prog 21 #[.string x] W fun e w' => e = .returned (.bool (Tx.isTok r.m)) ∧ w' = W) := hid' (fun W => by
        have := rToken_any x W (by rw [← hx]; unfold maxLen; simp [ByteArray.size]; omega)
        rw [← hx] at this
        rw [← hx]
        exact this)
      have HCA := hid' (Rt.chk_at hr)
      have hxe : x.toList.isEmpty = r.m.isEmpty := by rw [← hx, Lib.toList_data]
      have HXD : Hid (x.toList = r.m) := hid' (by rw [← hx, Lib.toList_data])
      rw [hx] at x0
      rw [hy] at x1
      have HBR : Hid (Rt.badRo r = ((Rt.pattern r.p).isNone || ((!r.m.isEmpty && !Tx.isTok r.m) || (decide (r.h < 1) || decide (4 < r.h))))) := hid' rfl
      clear hx hy hpl hml hr
      go_upto_region 7 with fail
      obtain ⟨rb, hrb⟩ : ∃ rb, wr.heap.size = rb := ⟨_, rfl⟩
      have hA : Ar (wr.alloc (.cells #[.string x, .string y, .int .u8 r.h, .string z] 26)) rb 26 #[.string x, .string y, .int .u8 r.h, .string z] := hrb ▸ heap_alloc_last wr _
      have hBW := bl_alloc17 wr (.cells #[.string x, .string y, .int .u8 r.h, .string z] 26)
      rw [hrb]
      generalize wr.alloc (.cells #[.string x, .string y, .int .u8 r.h, .string z] 26) = wb at *
      have HB0 := hid' (below_two HB.out hBW)
      have HA := hid' hA
      have q1 := hA.cell 1 _ rfl
      clear hA hBW x0 x1 x2 x3 l1 hrb
      go_wp2_with (go_at_call 14; refine (HRP.out _).mono ?_; rintro e w1 ⟨hp1, hb1⟩; obtain ⟨m1, ro1, rc1, b1, rfl, hm1, hpr1, hb0⟩ := hp1.get; have HBB := hid' hb0; clear hb0; refine Hid.out ?_)
      refine hid' ?_
      have HB1 := hid' (below_two HB0.out hb1)
      have HA1 := hid' (HA.out.keep hb1)
      have q0 := HA1.out.cell 0 _ rfl
      have q2 := HA1.out.cell 2 _ rfl
      have HM1 := hid' hm1
      have HPR1 := hid' hpr1
      have HNS : Hid ((Rt.pattern r.p).isNone = !b1) := hid' (by rw [HBB.out]; cases Rt.pattern r.p <;> rfl)
      clear hp1 hb1 hm1 hpr1 HBB q1
      cases b1
      · have HE2 : Hid (Rt.check rs = 180) := hid' (by rw [HC.out, HCA.out, show Rt.badRo r = true by rw [HBR.out, HNS.out]; rfl]; rfl)
        go_wp2
        go_ret
        exact ⟨by rw [HE2.out]; rfl, HB1.out⟩
        
      · cases hem : r.m.isEmpty
        · rw [hem] at hxe
          cases htk : Tx.isTok r.m
          · rw [htk] at HTK
            have HE2 : Hid (Rt.check rs = 180) := hid' (by rw [HC.out, HCA.out, show Rt.badRo r = true by rw [HBR.out, HNS.out, hem, htk]; rfl]; rfl)
            
            go_wp2_with (go_at_call 21; refine (HTK.out _).mono ?_; rintro e w2 ⟨rfl, hw2⟩; subst w2; refine Hid.out ?_)
            refine hid' ?_
            go_wp2
            go_ret
            exact ⟨by rw [HE2.out]; rfl, HB1.out⟩
            
          · rw [htk] at HTK
            by_cases c1 : r.h < 1
            · have HE2 : Hid (Rt.check rs = 180) := hid' (by rw [HC.out, HCA.out, show Rt.badRo r = true by rw [HBR.out, HNS.out, hem, htk, decide_eq_true c1]; rfl]; rfl)
              
              go_wp2_with (go_at_call 21; refine (HTK.out _).mono ?_; rintro e w2 ⟨rfl, hw2⟩; subst w2; refine Hid.out ?_)
              refine hid' ?_
              go_wp2
              go_ret
              exact ⟨by rw [HE2.out]; rfl, HB1.out⟩
              
            · by_cases c2 : 4 < r.h
              · have HE2 : Hid (Rt.check rs = 180) := hid' (by rw [HC.out, HCA.out, show Rt.badRo r = true by rw [HBR.out, HNS.out, hem, htk, decide_eq_false c1, decide_eq_true c2]; rfl]; rfl)
                
                go_wp2_with (go_at_call 21; refine (HTK.out _).mono ?_; rintro e w2 ⟨rfl, hw2⟩; subst w2; refine Hid.out ?_)
                refine hid' ?_
                go_wp2
                go_ret
                exact ⟨by rw [HE2.out]; rfl, HB1.out⟩
                
              · have HCG : Hid (Rt.check rs = if Rt.twice (rs.take i) r then 181 else Rt.chk (rs.take (i + 1)) (rs.drop (i + 1))) := hid' (by rw [HC.out, HCA.out, show Rt.badRo r = false by rw [HBR.out, HNS.out, hem, htk, decide_eq_false c1, decide_eq_false c2]; rfl]; rfl)
                
                go_wp2_with (go_at_call 21; refine (HTK.out _).mono ?_; rintro e w2 ⟨rfl, hw2⟩; subst w2; refine Hid.out ?_)
                refine hid' ?_
                go_wp2
                clear q0 q2
                go_loopw [7] (fun s7 wi => ∃ k : Nat, s7 = .int .i64 (k : Int) ∧ k ≤ i ∧ Hid (∀ (j : Nat) (q : Rt.Ro), j < k → rs[j]? = some q → (q.m == r.m && Rt.shape (Rt.pat r) (Rt.pat q)) = false) ∧ Hid (Below w1.heap.size w1 wi)) (fun s7 _ => i - (intOf s7).toNat)
                case atStart => exact ⟨0, rfl, Nat.zero_le _, hid' (fun j _ h => absurd h (Nat.not_lt_zero _)), hid' (Below.refl _ _)⟩
                case round =>
                  obtain ⟨k, rfl, hk, HV, HBI⟩ := hrel
                  have HBw := hid' (below_two HB1.out HBI.out)
                  by_cases hki : k < i
                  · have hki2 : (k : Int) < (i : Int) := by omega
                    have hkn : (k : Int) < (n : Int) := by omega
                    obtain ⟨q, hq⟩ : ∃ q, rs[k]? = some q := ⟨_, List.getElem?_eq_getElem (by rw [HN.out]; omega)⟩
                    obtain ⟨a', e1, l1, y0, y1, y2, hql, hqm, _⟩ := (H1.out.below HBw.out) k q hq
                    obtain rfl : a = a' := by injection e1
                    obtain ⟨u, hu⟩ : ∃ x : ByteArray, (⟨q.m.toArray⟩ : ByteArray) = x := ⟨_, rfl⟩
                    obtain ⟨v, hv⟩ : ∃ x : ByteArray, (⟨q.p.toArray⟩ : ByteArray) = x := ⟨_, rfl⟩
                    have HRQ : Hid (∀ W, Calls Tryz.prog 14 #[.string v] W fun e w' => patR18 W (Rt.pattern q.p) e w' ∧ Below W.heap.size W w') := hid' (fun W => rpat18 v q.p (by rw [← hv]) W (by rw [← hv]; simpa [ByteArray.size] using hql))
                    have HQL : Hid ((Rt.pat q).length ≤ 4194305) := hid' (by have := Rt.pat_len18 q; omega)
                    have hux : (u.toList == x.toList) = (q.m == r.m) := by rw [HXD.out, ← hu, Lib.toList_data]
                    rw [hu] at y0
                    rw [hv] at y1
                    have HY0 := hid' y0
                    have HL1 := hid' l1
                    have HV2 : Hid ((q.m == r.m && Rt.shape (Rt.pat r) (Rt.pat q)) = false → ∀ (j : Nat) (q : Rt.Ro), j < k + 1 → rs[j]? = some q → (q.m == r.m && Rt.shape (Rt.pat r) (Rt.pat q)) = false) := hid' (fun hf j q' hj hq' => by
                      by_cases hji : j = k
                      · subst hji
                        rw [hq] at hq'
                        injection hq' with hq'
                        rw [← hq']; exact hf
                      · exact HV.out j q' (by omega) hq')
                    have HYE : Hid ((q.m == r.m && Rt.shape (Rt.pat r) (Rt.pat q)) = true → Rt.check rs = 181) := hid' (fun ht => by rw [HCG.out, Rt.twice_yes hq hki ht]; rfl)
                    clear hq hu hv hql hqm e1 y2 l1
                    go_wp2_with (go_at_call 14; refine (HRQ.out _).mono ?_; rintro e w3 ⟨hp3, hb3⟩; obtain ⟨m3, ro3, rc3, b3, rfl, hm3, hpr3, -⟩ := hp3.get; refine Hid.out ?_)
                    refine hid' ?_
                    have HB3 := hid' (below_two HBw.out hb3)
                    have HI3 := hid' (below_two HBI.out hb3)
                    have HX3 := hid' (HA1.out.keep HI3.out)
                    have z0 := HX3.out.cell 0 _ rfl
                    have z1 := (hb3.cell HL1.out).trans HY0.out
                    have HM3 := hid' hm3
                    have HPR3 := hid' hpr3
                    have hL3 : (a.add (k * 4)).block < w3.heap.size := Nat.lt_of_lt_of_le HL1.out hb3.size
                    have hR3 : rb < w3.heap.size := HX3.out.lt
                    clear hp3 hb3 hm3 hpr3 y0 y1
                    cases hmm : (q.m == r.m)
                    · rw [hmm] at hux
                      have HFT : Hid ((q.m == r.m && Rt.shape (Rt.pat r) (Rt.pat q)) = false) := hid' (by rw [hmm]; rfl)
                      clear hmm hL3 hR3
                      go_upto_region 14 with fail
                      go_quiet (fail)
                      have HBX := hid' (below_two HI3.out (below_dN18 w3 nq))
                      go_wp2
                      go_roundw
                      case rel => exact ⟨k + 1, by go_num, by omega, hid' (HV2.out HFT.out), HBX⟩
                      case measure => simp [intOf]; omega
                    · rw [hmm] at hux
                      have HS : Hid (∀ W, Below w3.heap.size w3 W → Calls Tryz.prog 22 #[.slice ro1 m1 rc1, .slice ro3 m3 rc3] W fun e w' => e = .returned (.bool (Rt.shape (Rt.pat r) (Rt.pat q))) ∧ Below W.heap.size W w') := hid' (fun W hW =>
                        rshape18 ro1 ro3 m1 m3 rc1 rc3 (Rt.pat r) (Rt.pat q) HM1.out HM3.out (by rw [← HM1.out]; exact HPL.out) (by rw [← HM3.out]; exact HQL.out) W (HPR1.out.below (below_two HI3.out hW)) (HPR3.out.below hW))
                      have sOf : ∀ W W1, Below w3.heap.size w3 W ∧ W.cell? (a.add (k * 4)) = some (.string u) ∧ W.cell? ⟨rb, 0, none⟩ = some (.string x) → Below W.heap.size W W1 → Below w3.heap.size w3 W1 ∧ W1.cell? (a.add (k * 4)) = some (.string u) ∧ W1.cell? ⟨rb, 0, none⟩ = some (.string x) := fun W W1 h hb =>
                        ⟨below_two h.1 hb, (hb.cell (Nat.lt_of_lt_of_le hL3 h.1.size)).trans h.2.1, (hb.cell (p := ⟨rb, 0, none⟩) (Nat.lt_of_lt_of_le hR3 h.1.size)).trans h.2.2⟩
                      have hS : Below w3.heap.size w3 w3 ∧ w3.cell? (a.add (k * 4)) = some (.string u) ∧ w3.cell? ⟨rb, 0, none⟩ = some (.string x) := ⟨Below.refl _ _, z1, z0⟩
                      cases hsh : Rt.shape (Rt.pat r) (Rt.pat q)
                      · have HFT : Hid ((q.m == r.m && Rt.shape (Rt.pat r) (Rt.pat q)) = false) := hid' (by rw [hsh, Bool.and_false])
                        rw [hsh] at HS
                        clear hmm hsh
                        go_upto_region 14 with fail
                        go_region_held3 (fun W => Below w3.heap.size w3 W ∧ W.cell? (a.add (k * 4)) = some (.string u) ∧ W.cell? ⟨rb, 0, none⟩ = some (.string x))
                          (first | assumption | exact sOf _ _ (by assumption) (by assumption) | exact sOf _ _ (by assumption) ((Below.refl _ _).drew))
                          (first | (go_at_call 22; refine (HS.out _ ?_).mono ?_; exact (by assumption : _ ∧ _).1; rintro e wz ⟨rfl, hbz⟩))
                        go_wp2
                        go_roundw
                        case rel => exact ⟨k + 1, by go_num, by omega, hid' (HV2.out HFT.out), hid' (below_two HI3.out (by first | exact (by assumption : Below w3.heap.size w3 _ ∧ _).1 | exact below_two (Below.refl _ _) (by assumption)))⟩
                        case measure => simp [intOf]; omega
                      · have HFT : Hid ((q.m == r.m && Rt.shape (Rt.pat r) (Rt.pat q)) = true) := hid' (by rw [hsh, hmm]; rfl)
                        rw [hsh] at HS
                        clear hmm hsh
                        go_upto_region 14 with fail
                        go_region_held3 (fun W => Below w3.heap.size w3 W ∧ W.cell? (a.add (k * 4)) = some (.string u) ∧ W.cell? ⟨rb, 0, none⟩ = some (.string x))
                          (first | assumption | exact sOf _ _ (by assumption) (by assumption) | exact sOf _ _ (by assumption) ((Below.refl _ _).drew))
                          (first | (go_at_call 22; refine (HS.out _ ?_).mono ?_; exact (by assumption : _ ∧ _).1; rintro e wz ⟨rfl, hbz⟩))
                        go_wp2
                        go_ret
                        exact ⟨by rw [HYE.out HFT.out]; rfl, below_two HB3.out (by first | exact (by assumption : Below w3.heap.size w3 _ ∧ _).1 | exact below_two (Below.refl _ _) (by assumption))⟩
                  · have hki2 : ¬ (k : Int) < (i : Int) := by omega
                    have HC2 : Hid (Rt.check rs = Rt.chk (rs.take (i + 1)) (rs.drop (i + 1))) := hid' (by rw [HCG.out, Rt.twice_no (fun j q hj hq => HV.out j q (by omega) hq)]; rfl)
                    clear hki
                    go_wp2
                    go_roundw
                    case rel => exact ⟨i + 1, by go_num, by omega, HC2, HBw⟩
                    case measure => simp [intOf]; omega
                
        · rw [hem] at hxe
          by_cases c1 : r.h < 1
          · have HE2 : Hid (Rt.check rs = 180) := hid' (by rw [HC.out, HCA.out, show Rt.badRo r = true by rw [HBR.out, HNS.out, hem, decide_eq_true c1]; rfl]; rfl)
            go_wp2
            go_ret
            exact ⟨by rw [HE2.out]; rfl, HB1.out⟩
            
          · by_cases c2 : 4 < r.h
            · have HE2 : Hid (Rt.check rs = 180) := hid' (by rw [HC.out, HCA.out, show Rt.badRo r = true by rw [HBR.out, HNS.out, hem, decide_eq_false c1, decide_eq_true c2]; rfl]; rfl)
              go_wp2
              go_ret
              exact ⟨by rw [HE2.out]; rfl, HB1.out⟩
              
            · have HCG : Hid (Rt.check rs = if Rt.twice (rs.take i) r then 181 else Rt.chk (rs.take (i + 1)) (rs.drop (i + 1))) := hid' (by rw [HC.out, HCA.out, show Rt.badRo r = false by rw [HBR.out, HNS.out, hem, decide_eq_false c1, decide_eq_false c2]; rfl]; rfl)
              go_wp2
              clear q0 q2
              go_loopw [7] (fun s7 wi => ∃ k : Nat, s7 = .int .i64 (k : Int) ∧ k ≤ i ∧ Hid (∀ (j : Nat) (q : Rt.Ro), j < k → rs[j]? = some q → (q.m == r.m && Rt.shape (Rt.pat r) (Rt.pat q)) = false) ∧ Hid (Below w1.heap.size w1 wi)) (fun s7 _ => i - (intOf s7).toNat)
              case atStart => exact ⟨0, rfl, Nat.zero_le _, hid' (fun j _ h => absurd h (Nat.not_lt_zero _)), hid' (Below.refl _ _)⟩
              case round =>
                obtain ⟨k, rfl, hk, HV, HBI⟩ := hrel
                have HBw := hid' (below_two HB1.out HBI.out)
                by_cases hki : k < i
                · have hki2 : (k : Int) < (i : Int) := by omega
                  have hkn : (k : Int) < (n : Int) := by omega
                  obtain ⟨q, hq⟩ : ∃ q, rs[k]? = some q := ⟨_, List.getElem?_eq_getElem (by rw [HN.out]; omega)⟩
                  obtain ⟨a', e1, l1, y0, y1, y2, hql, hqm, _⟩ := (H1.out.below HBw.out) k q hq
                  obtain rfl : a = a' := by injection e1
                  obtain ⟨u, hu⟩ : ∃ x : ByteArray, (⟨q.m.toArray⟩ : ByteArray) = x := ⟨_, rfl⟩
                  obtain ⟨v, hv⟩ : ∃ x : ByteArray, (⟨q.p.toArray⟩ : ByteArray) = x := ⟨_, rfl⟩
                  have HRQ : Hid (∀ W, Calls Tryz.prog 14 #[.string v] W fun e w' => patR18 W (Rt.pattern q.p) e w' ∧ Below W.heap.size W w') := hid' (fun W => rpat18 v q.p (by rw [← hv]) W (by rw [← hv]; simpa [ByteArray.size] using hql))
                  have HQL : Hid ((Rt.pat q).length ≤ 4194305) := hid' (by have := Rt.pat_len18 q; omega)
                  have hux : (u.toList == x.toList) = (q.m == r.m) := by rw [HXD.out, ← hu, Lib.toList_data]
                  rw [hu] at y0
                  rw [hv] at y1
                  have HY0 := hid' y0
                  have HL1 := hid' l1
                  have HV2 : Hid ((q.m == r.m && Rt.shape (Rt.pat r) (Rt.pat q)) = false → ∀ (j : Nat) (q : Rt.Ro), j < k + 1 → rs[j]? = some q → (q.m == r.m && Rt.shape (Rt.pat r) (Rt.pat q)) = false) := hid' (fun hf j q' hj hq' => by
                    by_cases hji : j = k
                    · subst hji
                      rw [hq] at hq'
                      injection hq' with hq'
                      rw [← hq']; exact hf
                    · exact HV.out j q' (by omega) hq')
                  have HYE : Hid ((q.m == r.m && Rt.shape (Rt.pat r) (Rt.pat q)) = true → Rt.check rs = 181) := hid' (fun ht => by rw [HCG.out, Rt.twice_yes hq hki ht]; rfl)
                  clear hq hu hv hql hqm e1 y2 l1
                  go_wp2_with (go_at_call 14; refine (HRQ.out _).mono ?_; rintro e w3 ⟨hp3, hb3⟩; obtain ⟨m3, ro3, rc3, b3, rfl, hm3, hpr3, -⟩ := hp3.get; refine Hid.out ?_)
                  refine hid' ?_
                  have HB3 := hid' (below_two HBw.out hb3)
                  have HI3 := hid' (below_two HBI.out hb3)
                  have HX3 := hid' (HA1.out.keep HI3.out)
                  have z0 := HX3.out.cell 0 _ rfl
                  have z1 := (hb3.cell HL1.out).trans HY0.out
                  have HM3 := hid' hm3
                  have HPR3 := hid' hpr3
                  have hL3 : (a.add (k * 4)).block < w3.heap.size := Nat.lt_of_lt_of_le HL1.out hb3.size
                  have hR3 : rb < w3.heap.size := HX3.out.lt
                  clear hp3 hb3 hm3 hpr3 y0 y1
                  cases hmm : (q.m == r.m)
                  · rw [hmm] at hux
                    have HFT : Hid ((q.m == r.m && Rt.shape (Rt.pat r) (Rt.pat q)) = false) := hid' (by rw [hmm]; rfl)
                    clear hmm hL3 hR3
                    go_upto_region 14 with fail
                    go_quiet (fail)
                    have HBX := hid' (below_two HI3.out (below_dN18 w3 nq))
                    go_wp2
                    go_roundw
                    case rel => exact ⟨k + 1, by go_num, by omega, hid' (HV2.out HFT.out), HBX⟩
                    case measure => simp [intOf]; omega
                  · rw [hmm] at hux
                    have HS : Hid (∀ W, Below w3.heap.size w3 W → Calls Tryz.prog 22 #[.slice ro1 m1 rc1, .slice ro3 m3 rc3] W fun e w' => e = .returned (.bool (Rt.shape (Rt.pat r) (Rt.pat q))) ∧ Below W.heap.size W w') := hid' (fun W hW =>
                      rshape18 ro1 ro3 m1 m3 rc1 rc3 (Rt.pat r) (Rt.pat q) HM1.out HM3.out (by rw [← HM1.out]; exact HPL.out) (by rw [← HM3.out]; exact HQL.out) W (HPR1.out.below (below_two HI3.out hW)) (HPR3.out.below hW))
                    have sOf : ∀ W W1, Below w3.heap.size w3 W ∧ W.cell? (a.add (k * 4)) = some (.string u) ∧ W.cell? ⟨rb, 0, none⟩ = some (.string x) → Below W.heap.size W W1 → Below w3.heap.size w3 W1 ∧ W1.cell? (a.add (k * 4)) = some (.string u) ∧ W1.cell? ⟨rb, 0, none⟩ = some (.string x) := fun W W1 h hb =>
                      ⟨below_two h.1 hb, (hb.cell (Nat.lt_of_lt_of_le hL3 h.1.size)).trans h.2.1, (hb.cell (p := ⟨rb, 0, none⟩) (Nat.lt_of_lt_of_le hR3 h.1.size)).trans h.2.2⟩
                    have hS : Below w3.heap.size w3 w3 ∧ w3.cell? (a.add (k * 4)) = some (.string u) ∧ w3.cell? ⟨rb, 0, none⟩ = some (.string x) := ⟨Below.refl _ _, z1, z0⟩
                    cases hsh : Rt.shape (Rt.pat r) (Rt.pat q)
                    · have HFT : Hid ((q.m == r.m && Rt.shape (Rt.pat r) (Rt.pat q)) = false) := hid' (by rw [hsh, Bool.and_false])
                      rw [hsh] at HS
                      clear hmm hsh
                      go_upto_region 14 with fail
                      go_region_held3 (fun W => Below w3.heap.size w3 W ∧ W.cell? (a.add (k * 4)) = some (.string u) ∧ W.cell? ⟨rb, 0, none⟩ = some (.string x))
                        (first | assumption | exact sOf _ _ (by assumption) (by assumption) | exact sOf _ _ (by assumption) ((Below.refl _ _).drew))
                        (first | (go_at_call 22; refine (HS.out _ ?_).mono ?_; exact (by assumption : _ ∧ _).1; rintro e wz ⟨rfl, hbz⟩))
                      go_wp2
                      go_roundw
                      case rel => exact ⟨k + 1, by go_num, by omega, hid' (HV2.out HFT.out), hid' (below_two HI3.out (by first | exact (by assumption : Below w3.heap.size w3 _ ∧ _).1 | exact below_two (Below.refl _ _) (by assumption)))⟩
                      case measure => simp [intOf]; omega
                    · have HFT : Hid ((q.m == r.m && Rt.shape (Rt.pat r) (Rt.pat q)) = true) := hid' (by rw [hsh, hmm]; rfl)
                      rw [hsh] at HS
                      clear hmm hsh
                      go_upto_region 14 with fail
                      go_region_held3 (fun W => Below w3.heap.size w3 W ∧ W.cell? (a.add (k * 4)) = some (.string u) ∧ W.cell? ⟨rb, 0, none⟩ = some (.string x))
                        (first | assumption | exact sOf _ _ (by assumption) (by assumption) | exact sOf _ _ (by assumption) ((Below.refl _ _).drew))
                        (first | (go_at_call 22; refine (HS.out _ ?_).mono ?_; exact (by assumption : _ ∧ _).1; rintro e wz ⟨rfl, hbz⟩))
                      go_wp2
                      go_ret
                      exact ⟨by rw [HYE.out HFT.out]; rfl, below_two HB3.out (by first | exact (by assumption : Below w3.heap.size w3 _ ∧ _).1 | exact below_two (Below.refl _ _) (by assumption))⟩
                · have hki2 : ¬ (k : Int) < (i : Int) := by omega
                  have HC2 : Hid (Rt.check rs = Rt.chk (rs.take (i + 1)) (rs.drop (i + 1))) := hid' (by rw [HCG.out, Rt.twice_no (fun j q hj hq => HV.out j q (by omega) hq)]; rfl)
                  clear hki
                  go_wp2
                  go_roundw
                  case rel => exact ⟨i + 1, by go_num, by omega, HC2, HBw⟩
                  case measure => simp [intOf]; omega
              
    · have hlt2 : ¬ (i : Int) < (n : Int) := by omega
      have HE2 : Hid (Rt.check rs = 0) := hid' (by rw [HC.out, List.drop_eq_nil_of_le (by rw [HN.out]; omega), Rt.chk])
      clear hlt
      go_wp2
      go_ret
      exact ⟨by rw [HE2.out]; rfl, HB.out⟩

end Go.Proofs.YtfdjimjiikeciaaGreatDoor
