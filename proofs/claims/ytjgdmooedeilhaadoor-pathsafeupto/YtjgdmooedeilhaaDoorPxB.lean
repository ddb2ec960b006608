/-
  The code's undo: by its contract.
-/
import Derived.Test.YtjgdmooedeilhaaDoorPxA
import Derived.Test.YtjgdmooedeilhaaDoorHuffB
namespace Go.Proofs.YtjgdmooedeilhaaDoor
open Go.RowKit

theorem zeroBd17 : (Tryd.prog.info? 42).map (fun i => i.zero) = some (some (.agg #[.pointer none, .slice none 0 0])) := by kernel_rfl
theorem string17 (B b : Nat) (l : List UInt8) (w : World) (h : Bld w B b l) (hBw : B ≤ w.heap.size) :
    Calls Tryd.prog 25 #[.pointer (some ⟨b, 0, none⟩)] w fun e w' => e = .returned (.string ⟨l.toArray⟩) ∧ Below B w w' := by
  refine (Tryd.Builder_String_any_k B b l w (Lib.IsBuilderF.of h) hBw).mono ?_
  rintro e w' ⟨rfl, _, hb, ho⟩
  exact ⟨rfl, hb⟩
def uV17 : Option (List UInt8) → Value
  | some t => .tuple #[.string ⟨t.toArray⟩, .int .i64 0]
  | none => .tuple #[.string ⟨#[]⟩, .int .i64 170]
namespace Pt
theorem ok_is (a b : UInt8) (d : UInt8) (hd : (d.toNat : Int) = 16 * dv a + dv b) (ha : 0 ≤ hx a) (hb : 0 ≤ hx b) : byt a b = (d.toNat : Int) ∧ UInt8.ofNat (byt a b).toNat = d := by
  have e : byt a b = (d.toNat : Int) := by
    rw [hd]; unfold byt dv; rw [if_pos ha, if_pos hb]
  refine ⟨e, ?_⟩
  rw [e]
  simp
end Pt

set_option maxHeartbeats 4000000 in
set_option maxRecDepth 20000 in
theorem cundo17 (s : ByteArray) (l : List UInt8) (hl : s.data.toList = l) (w : World) (hs : s.size ≤ 4194304) :
    Calls Tryd.prog 17 #[.string s] w fun e w' => e = .returned (uV17 (Pt.undo l)) ∧ Below w.heap.size w w' := by
  have HSZ : Hid (s.size = l.length) := hid' (by rw [Lib.size_eq, hl])
  have HGB : Hid (∀ k (h : k < s.size), l[k]? = some s[k]) := hid' (fun k h => by rw [← hl]; exact Tx.get_byte s k h)
  have HL := hid' hl
  clear hl
  go_enter Tryd.func17, Tryd.ntmps17
  go_wp2_with (refine wpl_alloc 42 rfl rfl _ zeroBd17 ?_)
  intro b w1 hb1 ha1 hl1
  have HS1 : Hid (Bld w1 w.heap.size b [] ∧ Below w.heap.size w w1) := hid' ⟨bld_new w b w1 hb1 ha1, hl1⟩
  clear hb1 ha1 hl1
  go_wp2
  go_loopw [5] (fun s5 wr => ∃ (k : Nat) (Z : List UInt8), s5 = .int .i64 (k : Int) ∧ k ≤ s.size ∧ Hid (Z.length ≤ k) ∧ Hid (Pt.undo l = (Pt.undo (l.drop k)).map (fun r => Z ++ r)) ∧ Hid (Bld wr w.heap.size b Z) ∧ Hid (Below w.heap.size w wr)) (fun s5 _ => s.size - (intOf s5).toNat)
  case atStart => exact ⟨0, [], rfl, Nat.zero_le _, hid' (Nat.le_refl _), hid' (by rw [List.drop_zero]; simp), hid' HS1.out.1, hid' HS1.out.2⟩
  case round =>
    obtain ⟨k, Z, rfl, hk, HZL, HU, HO, HB⟩ := hrel
    by_cases hlt : k < s.size
    · have hlt2 : (k : Int) < (s.size : Int) := by omega
      have HD := hid' (Pt.drop_c (HGB.out k hlt))
      rw [HD.out] at HU
      cases h37 : ((s[k].toNat : Int) == 37)
      · have hc37 : (s[k] == 37) = false := beq_false_of_ne (fun e => by rw [e] at h37; revert h37; decide)
        rw [Pt.undo_plain hc37, Option.map_map] at HU
        have HWB := hid' (writeByte_any w.heap.size b Z s[k] _ rfl wr HO.out (by have := HZL.out; omega) HB.out.size)
        go_wp2_with fail
        refine HWB.out.mono ?_
        rintro e w2 ⟨rfl, h1, h2⟩
        have HO2 := hid' h1
        have HB2 := hid' (HB.out.trans h2)
        clear h1 h2
        go_wp2
        go_roundw
        case rel => exact ⟨k + 1, Z ++ [s[k]], by go_num, by omega, hid' (by rw [List.length_append]; have := HZL.out; simp; omega), hid' (by rw [HU.out]; congr 1; funext r; simp), HO2, HB2⟩
        case measure => simp [intOf]; omega
      · have hc37 : s[k] = 37 := UInt8.toNat_inj.1 (by have := eq_of_beq h37; simpa using (by omega : s[k].toNat = 37))
        rw [hc37] at HU
        have hk1 : (k : Int) + 1 ≤ (s.size : Int) := by omega
        obtain ⟨t, ht⟩ : ∃ t, s.extract (k + 1) s.size = t := ⟨_, rfl⟩
        have HTS : Hid (t.size = s.size - (k + 1)) := hid' (by rw [← ht, ByteArray.size_extract]; omega)
        by_cases h2 : s.size ≤ k + 2
        · have HN : Hid (Pt.undo l = none) := hid' (by rw [HU.out, Pt.undo_short (by rw [List.length_drop, ← HSZ.out]; omega)]; rfl)
          have HRD := hid' (fun W => cread17s t (by have := HTS.out; omega) W)
          clear HTS
          go_wp2_with fail
          refine (HRD.out _).mono ?_
          rintro e w2 ⟨rfl, hw⟩
          subst w2
          go_wp2
          go_ret2
          exact ⟨by rw [HN.out]; rfl, HB.out⟩
        · have g1 : k + 1 < s.size := by omega
          have g2 : k + 2 < s.size := by omega
          have HD1 := hid' (Pt.drop_c (HGB.out (k + 1) g1))
          have HD2 := hid' (Pt.drop_c (HGB.out (k + 2) g2))
          rw [HD1.out, show k + 1 + 1 = k + 2 from rfl, HD2.out, show k + 2 + 1 = k + 3 from rfl] at HU
          have t0 : 0 < t.size := by have := HTS.out; omega
          have t1 : 1 < t.size := by have := HTS.out; omega
          have e0 : t[0] = s[k + 1] := by subst ht; rw [ByteArray.getElem_extract]
          have e1 : t[1] = s[k + 2] := by subst ht; rw [ByteArray.getElem_extract]
          have hrd := fun W => cread17 t t0 t1 (by have := HTS.out; omega) W
          rw [e0, e1] at hrd
          have b0 := Pt.dv_bd s[k + 1]
          have b1 := Pt.dv_bd s[k + 2]
          obtain ⟨d, hd⟩ : ∃ d : UInt8, (d.toNat : Int) = 16 * Pt.dv s[k + 1] + Pt.dv s[k + 2] := ⟨UInt8.ofNat (16 * Pt.dv s[k + 1] + Pt.dv s[k + 2]).toNat, by rw [UInt8.toNat_ofNat']; omega⟩
          rw [← hd] at hrd
          have HBAD : Hid ((decide (0 ≤ Pt.hx s[k + 1]) && (decide (0 ≤ Pt.hx s[k + 2]) && Pt.okb (Pt.byt s[k + 1] s[k + 2]))) = false → Pt.undo l = none) := hid' (fun h => by
            rw [HU.out, Pt.undo_bad h]; rfl)
          have HGO : Hid ((decide (0 ≤ Pt.hx s[k + 1]) && (decide (0 ≤ Pt.hx s[k + 2]) && Pt.okb (Pt.byt s[k + 1] s[k + 2]))) = true → Pt.undo l = (Pt.undo (l.drop (k + 3))).map (fun r => (Z ++ [UInt8.ofNat (Pt.byt s[k + 1] s[k + 2]).toNat]) ++ r)) := hid' (fun h => by
            rw [HU.out, Pt.undo_esc h, Option.map_map]
            congr 1; funext r; simp)
          have HOK := hid' (Pt.ok_is s[k + 1] s[k + 2] d hd)
          have HRD := hid' hrd
          clear hrd hd e0 e1 t0 t1 HD1 HD2 HU HTS b0 b1 HD
          generalize Pt.byt s[k + 1] s[k + 2] = B at *
          generalize hP : decide (0 ≤ Pt.hx s[k + 1]) = P at *
          generalize hQ : decide (0 ≤ Pt.hx s[k + 2]) = Q at *
          have HP := hid' hP
          have HQ := hid' hQ
          clear hP hQ
          have HES := hid' (fun W => cescb17 d W)
          cases P
          · have HN := hid' (HBAD.out rfl)
            go_wp2_with fail
            refine (HRD.out _).mono ?_
            rintro e w2 ⟨rfl, hw⟩
            subst w2
            go_wp2
            go_ret2
            exact ⟨by rw [HN.out]; rfl, HB.out⟩
          cases Q
          · have HN := hid' (HBAD.out rfl)
            go_wp2_with fail
            refine (HRD.out _).mono ?_
            rintro e w2 ⟨rfl, hw⟩
            subst w2
            go_wp2
            go_ret2
            exact ⟨by rw [HN.out]; rfl, HB.out⟩
          have HBD := hid' (HOK.out (of_decide_eq_true HP.out) (of_decide_eq_true HQ.out))
          rw [HBD.out.1] at HBAD HGO
          generalize Pt.okb (d.toNat : Int) = r at *
          cases r
          · have HN := hid' (HBAD.out rfl)
            go_wp2_with fail
            refine (HRD.out _).mono ?_
            rintro e w2 ⟨rfl, hw⟩
            subst w2
            go_wp2_with fail
            refine (HES.out _).mono ?_
            rintro e w2 ⟨rfl, hw⟩
            subst w2
            go_wp2
            go_ret2
            exact ⟨by rw [HN.out]; rfl, HB.out⟩
          · have HG : Hid (Pt.undo l = (Pt.undo (l.drop (k + 3))).map (fun r => (Z ++ [d]) ++ r)) := hid' (by
              have h1 := HGO.out rfl
              rw [show UInt8.ofNat (d.toNat : Int).toNat = d by simp] at h1
              exact h1)
            have HWB := hid' (fun W (h : Bld W w.heap.size b Z) (hW : w.heap.size ≤ W.heap.size) => writeByte_any w.heap.size b Z d _ rfl W h (by have := HZL.out; omega) hW)
            go_wp2_with fail
            refine (HRD.out _).mono ?_
            rintro e w2 ⟨rfl, hw⟩
            subst w2
            go_wp2_with fail
            refine (HES.out _).mono ?_
            rintro e w2 ⟨rfl, hw⟩
            subst w2
            go_wp2_with fail
            refine (HWB.out _ HO.out HB.out.size).mono ?_
            rintro e w2 ⟨rfl, h1, h2⟩
            have HO2 := hid' h1
            have HB2 := hid' (HB.out.trans h2)
            clear h1 h2
            go_wp2
            go_roundw
            case rel => exact ⟨k + 3, Z ++ [d], by go_num, by omega, hid' (by rw [List.length_append]; have := HZL.out; simp; omega), HG, HO2, HB2⟩
            case measure => simp [intOf]; omega
    · have hlt2 : ¬ (k : Int) < (s.size : Int) := by omega
      have HE : Hid (Pt.undo l = some Z) := hid' (by rw [HU.out, List.drop_eq_nil_of_le (by have := HSZ.out; omega)]; simp [Pt.undo])
      have HST := hid' (string17 w.heap.size b Z wr HO.out HB.out.size)
      clear hlt
      go_wp2_with fail
      refine HST.out.mono ?_
      rintro e w2 ⟨rfl, h2⟩
      have HB2 := hid' (HB.out.trans h2)
      clear h2
      go_wp2
      go_ret2
      exact ⟨by rw [HE.out]; rfl, HB2.out⟩

end Go.Proofs.YtjgdmooedeilhaaDoor
