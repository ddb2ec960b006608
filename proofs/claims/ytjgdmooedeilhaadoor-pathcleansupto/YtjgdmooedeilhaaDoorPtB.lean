/-
  The document's undo: by its contract.
-/
import Derived.Test.YtjgdmooedeilhaaDoorPtA
namespace Go.Proofs.YtjgdmooedeilhaaDoor
open Go.RowKit

def udV17 : Option (List UInt8) → Value
  | some t => .tuple #[.string ⟨t.toArray⟩, .bool true]
  | none => .tuple #[.string ⟨#[]⟩, .bool false]

set_option maxHeartbeats 4000000 in
set_option maxRecDepth 20000 in
theorem rundo17 (s : ByteArray) (l : List UInt8) (hl : s.data.toList = l) (w : World) (hs : s.size ≤ 4194304) :
    Calls Tryd.prog 19 #[.string s] w fun e w' => e = .returned (udV17 (Pt.undo l)) ∧ Below w.heap.size w w' := by
  obtain ⟨i0, hi0, hz0, hz1, hz2⟩ := minfo17 infoB17
  have HI := hid' hi0
  have HZ0 := hid' hz0
  have HZ1 := hid' hz1
  have HZ2 := hid' hz2
  clear hi0 hz0 hz1 hz2
  have HSZ : Hid (s.size = l.length) := hid' (by rw [Lib.size_eq, hl])
  have HGB : Hid (∀ k (h : k < s.size), l[k]? = some s[k]) := hid' (fun k h => by rw [← hl]; exact Tx.get_byte s k h)
  clear hl
  go_enter Tryd.func19, Tryd.ntmps19
  go_wp2
  go_loopw [4, 5] (fun s4 s5 wr => ∃ (k c : Nat) (ro : Option Addr) (rc : Nat) (Z : List UInt8), s5 = .int .i64 (k : Int) ∧ s4 = .slice ro c rc ∧ k ≤ s.size ∧ c ≤ k ∧ Hid (Z.length = c) ∧ Hid (Pt.undo l = (Pt.undo (l.drop k)).map (fun r => Z ++ r)) ∧ Hid (wr.ownsRow w.heap.size 5 1 (.slice ro c rc) c (byteCells Z)) ∧ Hid (Below w.heap.size w wr)) (fun _ s5 _ => s.size - (intOf s5).toNat)
  case atStart => exact ⟨0, 0, none, 0, [], rfl, rfl, Nat.zero_le _, Nat.le_refl _, hid' rfl, hid' (by rw [List.drop_zero]; simp), hid' (World.ownsRow_nil _ _ _ _), hid' (Below.refl _ _)⟩
  case round =>
    obtain ⟨k, c, ro, rc, Z, rfl, rfl, hk, hck, HZL, HU, HO, HB⟩ := hrel
    by_cases hlt : k < s.size
    · have hlt2 : (k : Int) < (s.size : Int) := by omega
      have HD := hid' (Pt.drop_c (HGB.out k hlt))
      rw [HD.out] at HU
      cases h37 : ((s[k].toNat : Int) == 37)
      · have hne : ((s[k].toNat : Int) != 37) = true := by unfold bne; rw [h37]; rfl
        have hc37 : (s[k] == 37) = false := beq_false_of_ne (fun e => by rw [e] at h37; revert h37; decide)
        rw [Pt.undo_plain hc37, Option.map_map] at HU
        have HA : Hid ((wr.alloc (.cells #[.int .u8 (s[k].toNat : Int)] 5)).ownsRow w.heap.size 5 1 (.slice ro c rc) c (byteCells Z)) := hid' (HO.out.alloc _)
        clear h37
        go_wp2_with (at_builtin; refine wpList_append_own_at _ rfl _ _ 40 rfl w.heap.size 5 i0 (.int .u8 0) 1 1 Tryd.underlying40 HI.out HZ0.out HZ1.out HZ2.out rfl (by decide) (.slice ro c rc) c (byteCells Z) rfl HA.out ⟨wr.heap.size, 0, none⟩ 1 1 [.int .u8 (s[k].toNat : Int)] rfl rfl (one_cell17 _ _ _) (by simp [Value.oneCell']) (by unfold maxLen; omega) (by omega) (by simp; have := HB.out.size; omega) ?_; intro v3 w3 hown3 hgrow3 _ _; refine Hid.out ?_)
        refine hid' ?_
        rw [bc_snoc17] at hown3
        obtain ⟨v3o, v3c, hv3⟩ := own_shape17 hown3
        subst hv3
        have HO3 := hid' hown3
        have HB3 : Hid (Below w.heap.size w w3) := hid' ((HB.out.alloc HB.out.size _).grown hgrow3 (by simp; have := HB.out.size; omega) (fun k hk => (HA.out.lt k hk).1))
        clear hown3 hgrow3
        go_wp2
        go_roundw
        case rel => exact ⟨k + 1, c + 1, v3o, v3c, Z ++ [s[k]], by go_num, rfl, by omega, by omega, hid' (by rw [List.length_append, HZL.out]; rfl), hid' (by rw [HU.out]; congr 1; funext r; simp), HO3, HB3⟩
        case measure => simp [intOf]; omega
      · have hne : ((s[k].toNat : Int) != 37) = false := by unfold bne; rw [h37]; rfl
        have hc37 : s[k] = 37 := UInt8.toNat_inj.1 (by have := eq_of_beq h37; simpa using (by omega : s[k].toNat = 37))
        rw [hc37] at HU
        clear h37 HD
        by_cases h2 : (s.size : Int) ≤ (k : Int) + 2
        · have HN : Hid (Pt.undo l = none) := hid' (by rw [HU.out, Pt.undo_short (by rw [List.length_drop, ← HSZ.out]; omega)]; rfl)
          go_wp2
          go_ret2
          exact ⟨by rw [HN.out]; rfl, HB.out⟩
        · have g1 : k + 1 < s.size := by omega
          have g2 : k + 2 < s.size := by omega
          have g1I : (k : Int) + 1 < (s.size : Int) := by omega
          have g2I : (k : Int) + 2 < (s.size : Int) := by omega
          have HD1 := hid' (Pt.drop_c (HGB.out (k + 1) g1))
          have HD2 := hid' (Pt.drop_c (HGB.out (k + 2) g2))
          rw [HD1.out, show k + 1 + 1 = k + 2 from rfl, HD2.out, show k + 2 + 1 = k + 3 from rfl] at HU
          have HC1 := hid' (fun W => rdig17 s[k + 1] W)
          have HC2 := hid' (fun W => rdig17 s[k + 2] W)
          have hb1 := Pt.hx_bd s[k + 1]
          have hb2 := Pt.hx_bd s[k + 2]
          have HBT : Hid (Pt.byt s[k + 1] s[k + 2] = 16 * Pt.hx s[k + 1] + Pt.hx s[k + 2]) := hid' rfl
          obtain ⟨a, ha⟩ : ∃ a, Pt.hx s[k + 1] = a := ⟨_, rfl⟩
          obtain ⟨b, hb⟩ : ∃ b, Pt.hx s[k + 2] = b := ⟨_, rfl⟩
          rw [ha] at HC1 hb1 HBT
          rw [hb] at HC2 hb2 HBT
          have HBAD : Hid ((decide (0 ≤ a) && (decide (0 ≤ b) && Pt.okb (16 * a + b))) = false → Pt.undo l = none) := hid' (fun h => by
            rw [HU.out, Pt.undo_bad (by rw [ha, hb, HBT.out]; exact h)]; rfl)
          have HGO : Hid ((decide (0 ≤ a) && (decide (0 ≤ b) && Pt.okb (16 * a + b))) = true → Pt.undo l = (Pt.undo (l.drop (k + 3))).map (fun r => (Z ++ [UInt8.ofNat (16 * a + b).toNat]) ++ r)) := hid' (fun h => by
            rw [HU.out, Pt.undo_esc (by rw [ha, hb, HBT.out]; exact h), HBT.out, Option.map_map]
            congr 1; funext r; simp)
          clear ha hb HD1 HD2 HU
          by_cases ta : a < 0
          · have HN := hid' (HBAD.out (by rw [decide_eq_false (show ¬ 0 ≤ a by omega)]; rfl))
            go_wp2_with fail
            refine (HC1.out _).mono ?_
            rintro e w1 ⟨rfl, hw⟩
            subst w1
            go_wp2
            go_ret2
            exact ⟨by rw [HN.out]; rfl, HB.out⟩
          by_cases tb : b < 0
          · have HN := hid' (HBAD.out (by rw [decide_eq_false (show ¬ 0 ≤ b by omega), Bool.false_and, Bool.and_false]))
            go_wp2_with fail
            refine (HC1.out _).mono ?_
            rintro e w1 ⟨rfl, hw⟩
            subst w1
            go_wp2_with fail
            refine (HC2.out _).mono ?_
            rintro e w1 ⟨rfl, hw⟩
            subst w1
            go_wp2
            go_ret2
            exact ⟨by rw [HN.out]; rfl, HB.out⟩
          go_wp2_with fail
          refine (HC1.out _).mono ?_
          rintro e w1 ⟨rfl, hw⟩
          subst w1
          go_wp2_with fail
          refine (HC2.out _).mono ?_
          rintro e w1 ⟨rfl, hw⟩
          subst w1
          go_wp2_with fail
          go_quiet (first | (go_at_call 31; with_reducible exact Calls.quiet_of_same (HC1.out _)) | (go_at_call 31; with_reducible exact Calls.quiet_of_same (HC2.out _)))
          have HBq := fun nq => below_two HB.out (below_drewN wr nq)
          have wb : IntKind.u8.wrap (16 * a + b) = 16 * a + b := by rw [IntKind.wrap_u8]; omega
          by_cases t1 : 16 * a + b < 32
          · have HN := hid' (HBAD.out (by rw [show Pt.okb (16 * a + b) = false by unfold Pt.okb; rw [decide_eq_true t1]; rfl, Bool.and_false, Bool.and_false]))
            go_wp2
            go_ret2
            exact ⟨by rw [HN.out]; rfl, HBq _⟩
          cases t2 : (16 * a + b == 127)
          · cases t3 : (16 * a + b == 47)
            · have HG := hid' (HGO.out (by rw [decide_eq_true (show 0 ≤ a by omega), decide_eq_true (show 0 ≤ b by omega)]; unfold Pt.okb; rw [decide_eq_false t1, t2, t3]; rfl))
              obtain ⟨d, hd⟩ : ∃ d, UInt8.ofNat (16 * a + b).toNat = d := ⟨_, rfl⟩
              have HDV : Hid (16 * a + b = (d.toNat : Int)) := hid' (by rw [← hd, UInt8.toNat_ofNat']; omega)
              rw [hd] at HG
              clear hd
              have HO2 := hid' (own_kp17 HO.out (below_drewN wr nq))
              have HB2 := hid' (HBq nq)
              clear HBq HO HB
              go_upto_region 12 with fail
              generalize wr.drewN nq = w2 at *
              have HA : Hid ((w2.alloc (.cells #[.int .u8 (16 * a + b)] 5)).ownsRow w.heap.size 5 1 (.slice ro c rc) c (byteCells Z)) := hid' (HO2.out.alloc _)
              go_wp2_with (at_builtin; refine wpList_append_own_at _ rfl _ _ 40 rfl w.heap.size 5 i0 (.int .u8 0) 1 1 Tryd.underlying40 HI.out HZ0.out HZ1.out HZ2.out rfl (by decide) (.slice ro c rc) c (byteCells Z) rfl HA.out ⟨w2.heap.size, 0, none⟩ 1 1 [.int .u8 (16 * a + b)] rfl rfl (one_cell17 _ _ _) (by simp [Value.oneCell']) (by unfold maxLen; omega) (by omega) (by simp; have := HB2.out.size; omega) ?_; intro v3 w3 hown3 hgrow3 _ _; refine Hid.out ?_)
              refine hid' ?_
              rw [HDV.out, bc_snoc17] at hown3
              obtain ⟨v3o, v3c, hv3⟩ := own_shape17 hown3
              subst hv3
              have HO3 := hid' hown3
              have HB3 : Hid (Below w.heap.size w w3) := hid' ((HB2.out.alloc HB2.out.size _).grown hgrow3 (by simp; have := HB2.out.size; omega) (fun k hk => (HA.out.lt k hk).1))
              clear hown3 hgrow3
              go_wp2
              go_roundw
              case rel => exact ⟨k + 3, c + 1, v3o, v3c, Z ++ [d], by go_num, rfl, by omega, by omega, hid' (by rw [List.length_append, HZL.out]; rfl), HG, HO3, HB3⟩
              case measure => simp [intOf]; omega
            · have HN := hid' (HBAD.out (by rw [show Pt.okb (16 * a + b) = false by unfold Pt.okb; rw [t3, Bool.not_true, Bool.and_false, Bool.and_false], Bool.and_false, Bool.and_false]))
              go_wp2
              go_ret2
              exact ⟨by rw [HN.out]; rfl, HBq _⟩
          · have HN := hid' (HBAD.out (by rw [show Pt.okb (16 * a + b) = false by unfold Pt.okb; rw [t2, Bool.not_true, Bool.false_and, Bool.and_false], Bool.and_false, Bool.and_false]))
            go_wp2
            go_ret2
            exact ⟨by rw [HN.out]; rfl, HBq _⟩
    · have hlt2 : ¬ (k : Int) < (s.size : Int) := by omega
      have HE : Hid (Pt.undo l = some Z) := hid' (by rw [HU.out, List.drop_eq_nil_of_le (by have := HSZ.out; omega)]; simp [Pt.undo])
      have hcv := own_string' HO.out HZL.out
      clear hlt
      go_wp2
      go_ret2
      exact ⟨by rw [HE.out]; rfl, HB.out⟩

end Go.Proofs.YtjgdmooedeilhaaDoor
