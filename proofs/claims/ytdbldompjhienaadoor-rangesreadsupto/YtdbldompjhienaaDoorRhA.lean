/-
  The code's appendNumbers: by its contract.
-/
import Derived.Test.YtdbldompjhienaaDoorRgB
import Derived.Test.YtdbldompjhienaaDoorRgH
namespace Go.Proofs.YtdbldompjhienaaDoor
open Go.RowKit

def nC16 (l : List Nat) : List Value := l.map fun (n : Nat) => .int .i64 (n : Int)
theorem nC16_app (a b : List Nat) : nC16 (a ++ b) = nC16 a ++ nC16 b := by unfold nC16; rw [List.map_append]
theorem infoI16 : (Tryd.prog.info? 3).map (fun i => (i.zero, i.size, i.bytes)) = some (some (.int .i64 0), 1, 8) := by kernel_rfl

set_option maxHeartbeats 1600000 in
set_option maxRecDepth 20000 in
theorem capp16 (B n cap : Nat) (ao : Option Addr) (xs : List Nat) (hn : xs.length = n) (s : ByteArray) (l : List UInt8) (hl : s.data.toList = l) (M : Nat) (hM : M ≤ 1048576) (w : World) (ho : w.ownsRow B 3 1 (.slice ao n cap) n (nC16 xs)) (hB : B ≤ w.heap.size) (hs : s.size ≤ 1048576) (hnb : n ≤ 1048576) :
    Calls Tryd.prog 42 #[.slice ao n cap, .string s, .int .i64 (M : Int)] w fun e w' => (∃ m ro rc, e = .returned (.slice ro m rc) ∧ (xs ++ Rg.nums M 0 l).length = m ∧ w'.ownsRow B 3 1 (.slice ro m rc) m (nC16 (xs ++ Rg.nums M 0 l))) ∧ Below B w w' := by
  obtain ⟨i0, hi0, hz0, hz1, hz2⟩ := minfo16 infoI16
  have HI := hid' hi0
  have HZ0 := hid' hz0
  have HZ1 := hid' hz1
  have HZ2 := hid' hz2
  clear hi0 hz0 hz1 hz2
  have HSZ : Hid (s.size = l.length) := hid' (by rw [Lib.size_eq, hl])
  have HGB : Hid (∀ k (h : k < s.size), l[k]? = some s[k]) := hid' (fun k h => by rw [← hl]; exact Tx.get_byte s k h)
  have HO0 := hid' ho
  have HBW := hid' hB
  have HN := hid' hn
  clear hl ho hB hn
  go_enter Tryd.func42, Tryd.ntmps42
  go_wp2
  go_loopw [0, 7, 8] (fun s0 s7 s8 wr => ∃ (k m c : Nat) (ds : List Nat) (ro : Option Addr) (rc : Nat), s8 = .int .i64 (k : Int) ∧ s7 = .int .i64 (m : Int) ∧ s0 = .slice ro c rc ∧ k ≤ s.size ∧ m ≤ M ∧ c ≤ n + k ∧ Hid ((xs ++ ds).length = c) ∧ Hid (Rg.nums M 0 l = ds ++ Rg.nums M m (l.drop k)) ∧ Hid (wr.ownsRow B 3 1 (.slice ro c rc) c (nC16 (xs ++ ds))) ∧ Hid (Below B w wr)) (fun _ _ s8 _ => s.size - (intOf s8).toNat)
  case atStart => exact ⟨0, 0, n, [], ao, cap, rfl, rfl, rfl, Nat.zero_le _, Nat.zero_le _, Nat.le_refl _, hid' (by rw [List.append_nil]; exact HN.out), hid' (by simp), hid' (by rw [List.append_nil]; exact HO0.out), hid' (Below.refl _ _)⟩
  case round =>
    obtain ⟨k, m, c, ds, ro, rc, rfl, rfl, rfl, hk, hm, hc, HCL, HNU, HO, HB⟩ := hrel
    by_cases hlt : k < s.size
    · have hlt2 : (k : Int) < (s.size : Int) := by omega
      have HD := hid' (Rg.drop_c (HGB.out k hlt))
      rw [HD.out] at HNU
      have HX := hid' (show s[k].toNat < 256 from s[k].toNat_lt)
      by_cases d1 : (48 : Int) ≤ (s[k].toNat : Int)
      · by_cases d2 : (s[k].toNat : Int) ≤ 57
        · have HIS : Hid (Rg.isD s[k] = true) := hid' (by unfold Rg.isD; rw [decide_eq_true (show 48 ≤ s[k].toNat by omega), decide_eq_true (show s[k].toNat ≤ 57 by omega)]; rfl)
          obtain ⟨v, hv⟩ : ∃ v : Nat, m * 10 + (s[k].toNat - 48) = v := ⟨_, rfl⟩
          have HV : Hid (Rg.nums M m (s[k] :: l.drop (k + 1)) = if M < v then [] else v :: (if v = 0 then [] else Rg.nums M v (l.drop (k + 1)))) := hid' (by rw [Rg.nums, if_pos HIS.out, hv])
          have HVX : Hid ((m : Int) * 10 + ((s[k].toNat : Int) - 48) = (v : Int)) := hid' (by omega)
          clear hv
          by_cases hMv : (M : Int) < (m : Int) * 10 + ((s[k].toNat : Int) - 48)
          · rw [if_pos (by have := HVX.out; omega)] at HV
            rw [HV.out, List.append_nil] at HNU
            go_wp2
            go_ret
            exact ⟨⟨c, ro, rc, rfl, by rw [HNU.out]; simpa using HCL.out, by rw [HNU.out]; exact HO.out⟩, HB.out⟩
          · have hvM : v ≤ M := by have := HVX.out; omega
            rw [if_neg (by omega)] at HV
            have HA : Hid ((wr.alloc (.cells #[.int .i64 ((m : Int) * 10 + ((s[k].toNat : Int) - 48))] 3)).ownsRow B 3 1 (.slice ro c rc) c (nC16 (xs ++ ds))) := hid' (HO.out.alloc _)
            go_wp2_with (at_builtin; refine wpList_append_own_at _ rfl _ _ 53 rfl B 3 i0 (.int .i64 0) 1 8 Tryd.underlying53 HI.out HZ0.out HZ1.out HZ2.out rfl (by decide) (.slice ro c rc) c (nC16 (xs ++ ds)) rfl HA.out ⟨wr.heap.size, 0, none⟩ 1 1 [.int .i64 ((m : Int) * 10 + ((s[k].toNat : Int) - 48))] rfl rfl (one_cell16 _ _ _) (by simp [Value.oneCell']) (by unfold maxLen; omega) (by omega) (by simp; have := HB.out.size; have := HBW.out; omega) ?_; intro v3 w3 hown3 hgrow3 _ _; refine Hid.out ?_)
            refine hid' ?_
            have e : nC16 (xs ++ ds) ++ [.int .i64 ((m : Int) * 10 + ((s[k].toNat : Int) - 48))] = nC16 (xs ++ (ds ++ [v])) := by rw [HVX.out, ← List.append_assoc, nC16_app (xs ++ ds)]; rfl
            rw [e] at hown3
            obtain ⟨v3o, v3c, hv3⟩ := own_shape16 hown3
            subst hv3
            have HO3 := hid' hown3
            have HB3 : Hid (Below B w w3) := hid' ((HB.out.alloc (Nat.le_trans HBW.out HB.out.size) _).grown hgrow3 (by simp; have := HB.out.size; have := HBW.out; omega) (fun k hk => (HA.out.lt k hk).1))
            have HL3 : Hid ((xs ++ (ds ++ [v])).length = c + 1) := hid' (by rw [← List.append_assoc, List.length_append, HCL.out]; rfl)
            clear hown3 hgrow3 e
            by_cases hv0 : v = 0
            · have hvB : ((m : Int) * 10 + ((s[k].toNat : Int) - 48) == 0) = true := by rw [HVX.out, beq_iff_eq]; omega
              rw [if_pos hv0] at HV
              rw [HV.out] at HNU
              clear hv0
              go_wp2
              go_ret
              exact ⟨⟨c + 1, v3o, v3c, rfl, by rw [HNU.out]; simpa using HL3.out, by rw [HNU.out]; exact HO3.out⟩, HB3.out⟩
            · have hvB : ((m : Int) * 10 + ((s[k].toNat : Int) - 48) == 0) = false := by rw [HVX.out, beq_eq_false_iff_ne]; omega
              rw [if_neg hv0] at HV
              rw [HV.out] at HNU
              clear hv0
              go_wp2
              go_roundw
              case rel => exact ⟨k + 1, v, c + 1, ds ++ [v], v3o, v3c, by go_num, by rw [HVX.out], rfl, by omega, hvM, by omega, HL3, hid' (by rw [HNU.out, List.append_assoc]; rfl), HO3, HB3⟩
              case measure => simp [intOf]; omega
        · have HE : Hid (Rg.nums M m (s[k] :: l.drop (k + 1)) = []) := hid' (by rw [Rg.nums, if_neg]; unfold Rg.isD; rw [decide_eq_false (show ¬ s[k].toNat ≤ 57 by omega), Bool.and_false]; decide)
          rw [HE.out, List.append_nil] at HNU
          go_wp2
          go_ret
          exact ⟨⟨c, ro, rc, rfl, by rw [HNU.out]; simpa using HCL.out, by rw [HNU.out]; exact HO.out⟩, HB.out⟩
      · have HE : Hid (Rg.nums M m (s[k] :: l.drop (k + 1)) = []) := hid' (by rw [Rg.nums, if_neg]; unfold Rg.isD; rw [decide_eq_false (show ¬ 48 ≤ s[k].toNat by omega), Bool.false_and]; decide)
        rw [HE.out, List.append_nil] at HNU
        go_wp2
        go_ret
        exact ⟨⟨c, ro, rc, rfl, by rw [HNU.out]; simpa using HCL.out, by rw [HNU.out]; exact HO.out⟩, HB.out⟩
    · have hlt2 : ¬ (k : Int) < (s.size : Int) := by omega
      have HE : Hid (l.drop k = []) := hid' (List.drop_eq_nil_of_le (by have := HSZ.out; omega))
      rw [HE.out, show Rg.nums M m [] = [] by rw [Rg.nums], List.append_nil] at HNU
      clear hlt
      go_wp2
      go_ret
      exact ⟨⟨c, ro, rc, rfl, by rw [HNU.out]; simpa using HCL.out, by rw [HNU.out]; exact HO.out⟩, HB.out⟩

end Go.Proofs.YtdbldompjhienaaDoor
