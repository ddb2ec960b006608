/-
  A query changes nothing of the path.
-/
import Derived.Test.YtjgdmooedeilhaaDoorPtY
namespace Go.Proofs.YtjgdmooedeilhaaDoor
open Go.RowKit

theorem cat_q17 (a b : List UInt8) : ((⟨a.toArray⟩ : ByteArray) ++ ⟨#[63]⟩) ++ ⟨b.toArray⟩ = ⟨(a ++ 63 :: b).toArray⟩ := by
  apply ByteArray.ext; simp

set_option maxHeartbeats 8000000 in
set_option maxRecDepth 20000 in
theorem pathQuery_any (s q : ByteArray) (w : World) (hT : CT17 w) (hs : s.size + q.size ≤ 1048576) :
    Calls Tryd.prog 6 #[.string s, .string q] w fun e w' => e = .returned (.bool true) ∧ Below w.heap.size w w' := by
  have HT := hid' hT
  have HAW := hid' (fun W (h : CT17 W) => awake17 W h)
  obtain ⟨l, hl⟩ : ∃ l, s.data.toList = l := ⟨_, rfl⟩
  obtain ⟨m, hm⟩ : ∃ m, q.data.toList = m := ⟨_, rfl⟩
  have HSZ : Hid (s.size = l.length) := hid' (by rw [Lib.size_eq, hl])
  have hll : l.length + m.length ≤ 1048576 := by rw [← hl, ← hm, ← Lib.size_eq, ← Lib.size_eq]; exact hs
  have HGB : Hid (∀ k (h : k < s.size), l[k]? = some s[k]) := hid' (fun k h => by rw [← hl]; exact Tx.get_byte s k h)
  have HC1 := hid' (fun W (h : CT17 W) => cclean17 s l hl W (by omega) h)
  have HC2 := hid' (fun W (h : CT17 W) => cclean17 ⟨(l ++ 63 :: m).toArray⟩ (l ++ 63 :: m) rfl W (by rw [size_l', List.length_append, List.length_cons]; omega) h)
  rw [← cat_q17] at HC2
  have hsE : (⟨l.toArray⟩ : ByteArray) = s := by rw [← hl]
  have hqE : (⟨m.toArray⟩ : ByteArray) = q := by rw [← hm]
  rw [hsE, hqE] at HC2
  have HQE := hid' hqE
  have k1 : ¬ 9223372036854775807 < s.size + 1 := by omega
  have k2 : ¬ 9223372036854775807 < s.size + 1 + q.size := by omega
  clear hT hl hm hsE hqE
  go_enter Tryd.func6, Tryd.ntmps6
  go_wp2
  go_loopw [5] (fun s5 wr => ∃ k : Nat, s5 = .int .i64 (k : Int) ∧ k ≤ s.size ∧ Hid (∀ j (h : j < s.size), j < k → s[j] ≠ 63) ∧ Hid (wr = w)) (fun s5 _ => s.size - (intOf s5).toNat)
  case atStart => exact ⟨0, rfl, Nat.zero_le _, hid' (fun j _ h => absurd h (Nat.not_lt_zero _)), hid' rfl⟩
  case round =>
    obtain ⟨k, rfl, hk, HV, HW⟩ := hrel
    obtain rfl := HW.out
    by_cases hlt : k < s.size
    · have hlt2 : (k : Int) < (s.size : Int) := by omega
      cases c1 : ((s[k].toNat : Int) == 63)
      · have HV2 : Hid (∀ j (h : j < s.size), j < k + 1 → s[j] ≠ 63) := hid' (fun j h hj => by
          by_cases hjk : j = k
          · subst hjk
            intro e
            rw [e] at c1; revert c1; decide
          · exact HV.out j h (by omega))
        go_wp2
        go_roundw
        case rel => exact ⟨k + 1, by go_num, by omega, HV2, hid' (by trivial)⟩
        case measure => simp [intOf]; omega
      · go_wp2_with fail
        refine (HAW.out _ HT.out).mono ?_
        rintro e w1 ⟨rfl, hb1⟩
        go_wp2
        go_ret
        exact ⟨rfl, hb1⟩
    · have hlt2 : ¬ (k : Int) < (s.size : Int) := by omega
      have h63 : 63 ∉ l := fun hc => by
        obtain ⟨j, hj, hjc⟩ := List.mem_iff_getElem.1 hc
        have hjs : j < s.size := by rw [HSZ.out]; exact hj
        have h1 := HGB.out j hjs
        rw [List.getElem?_eq_getElem hj, hjc] at h1
        injection h1 with h1
        exact HV.out j hjs (by omega) h1.symm
      have hq := Pt.clean_query (q := m) h63
      obtain ⟨c1, hc1⟩ : ∃ c, Pt.clean l = c := ⟨_, rfl⟩
      obtain ⟨c2, hc2⟩ : ∃ c, Pt.clean (l ++ 63 :: m) = c := ⟨_, rfl⟩
      rw [hc1] at HC1 hq
      rw [hc2] at HC2 hq
      obtain ⟨A1, B1, E1⟩ := c1
      obtain ⟨A2, B2, E2⟩ := c2
      simp only [clV17] at HC1 HC2
      simp only at hq
      obtain ⟨rfl, rfl, rfl, hB2⟩ := hq
      have hnn : (E2 != E2) = false := by unfold bne; rw [beq_self_eq_true]; rfl
      clear hlt hc1 hc2 HV h63
      cases h0 : (E2 == 0)
      · rw [h0] at hB2
        simp only [Bool.false_eq_true, if_false] at hB2
        subst hB2
        have n0 : (E2 != 0) = true := by unfold bne; rw [h0]; rfl
        go_wp2_with fail
        refine (HC1.out _ HT.out).mono ?_
        rintro e w1 ⟨rfl, hb1⟩
        have HB1 := hid' hb1
        have HT1 := hid' (HT.out.keep hb1)
        clear hb1
        go_wp2_with fail
        refine (HC2.out _ HT1.out).mono ?_
        rintro e w2 ⟨rfl, hb2⟩
        have HB2 := hid' (below_two HB1.out hb2)
        have HT2 := hid' (HT.out.keep HB2.out)
        clear hb2
        go_wp2_with fail
        refine (HAW.out _ HT2.out).mono ?_
        rintro e w3 ⟨rfl, hb3⟩
        have HB3 := hid' (below_two HB2.out hb3)
        clear hb3
        go_wp2
        go_ret
        exact ⟨rfl, HB3.out⟩
      · rw [h0] at hB2
        simp only [if_true] at hB2
        subst hB2
        have n0 : (E2 != 0) = false := by unfold bne; rw [h0]; rfl
        rw [HQE.out] at HC2
        go_wp2_with fail
        refine (HC1.out _ HT.out).mono ?_
        rintro e w1 ⟨rfl, hb1⟩
        have HB1 := hid' hb1
        have HT1 := hid' (HT.out.keep hb1)
        clear hb1
        go_wp2_with fail
        refine (HC2.out _ HT1.out).mono ?_
        rintro e w2 ⟨rfl, hb2⟩
        have HB2 := hid' (below_two HB1.out hb2)
        have HT2 := hid' (HT.out.keep HB2.out)
        clear hb2
        go_wp2_with fail
        refine (HAW.out _ HT2.out).mono ?_
        rintro e w3 ⟨rfl, hb3⟩
        have HB3 := hid' (below_two HB2.out hb3)
        clear hb3
        go_wp2
        go_ret
        exact ⟨rfl, HB3.out⟩

end Go.Proofs.YtjgdmooedeilhaaDoor
