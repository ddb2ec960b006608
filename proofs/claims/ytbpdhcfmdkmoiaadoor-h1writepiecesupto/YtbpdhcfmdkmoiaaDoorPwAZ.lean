/-
  The document's number of base 10, by its contract.
-/
import Derived.Test.YtbpdhcfmdkmoiaaDoorPwAY
namespace Go.Proofs.YtbpdhcfmdkmoiaaDoor
open Go.RowKit

set_option maxRecDepth 20000 in
set_option maxHeartbeats 4000000 in
theorem rnumber_10 (s : ByteArray) (w : World) (hs : s.size ≤ maxLen) :
    Calls Tryd.prog 38 #[.string s, .int .i64 10] w fun e w' => e = .returned (.tuple #[.int .i64 (Tx.num 10 s.data.toList).1, .int .i64 (Tx.num 10 s.data.toList).2]) ∧ Below w.heap.size w w' := by
  unfold maxLen at hs
  by_cases he : s.size = 0
  · have hz : ((s.size : Int) == 0) = true := by rw [beq_iff_eq]; omega
    have HF : Hid (Tx.num 10 s.data.toList = (0, 10)) := hid (Tx.num_empty 10 _ (by rw [List.isEmpty_iff]; exact List.eq_nil_of_length_eq_zero (by rw [← Lib.size_eq]; exact he)))
    clear he
    go_enter Tryd.func38, Tryd.ntmps38
    go_wp2
    go_ret2
    exact ⟨ret_two HF.out, Below.refl _ _⟩
  have hz : ((s.size : Int) == 0) = false := by rw [beq_eq_false_iff_ne]; omega
  have HE : Hid (s.data.toList.isEmpty = false) := hid (by
    cases h : s.data.toList.isEmpty
    · rfl
    · exfalso; apply he; rw [Lib.size_eq, List.isEmpty_iff.1 h]; rfl)
  go_enter Tryd.func38, Tryd.ntmps38
  go_wp2
  go_loop [6] (fun i => ∃ k : Nat, k ≤ s.size ∧ i = .int .i64 k ∧ Tx.digs 10 (s.data.toList.take k) = true) (fun i => s.size - (intOf i).toNat)
  case atStart => exact ⟨0, Nat.zero_le _, rfl, rfl⟩
  case round =>
    obtain ⟨k, hk, rfl, hdg⟩ := hrel
    have HDG := hid hdg
    clear hdg
    by_cases hlt : k < s.size
    · have hb0 : s[k].toNat ≤ 255 := by have := s[k].toNat_lt; omega
      obtain ⟨hd0, hd1⟩ := Tx.dgt_bd (s[k].toNat : Int)
      by_cases hd : Tx.dgt (s[k].toNat : Int) < 10
      · have hdr : Tx.dgr (s[k].toNat : Int) = Tx.dgt (s[k].toNat : Int) := dgr_ok _ 10 (by decide) (by decide) hd
        have HN : Hid (Tx.digs 10 (s.data.toList.take (k + 1)) = true) := hid (by rw [Tx.take_snoc s k hlt]; exact Tx.digs_snoc 10 _ _ HDG.out hd)
        have hr0 : 0 ≤ Tx.dgr (s[k].toNat : Int) := by omega
        have hr1 : Tx.dgr (s[k].toNat : Int) < 10 := by omega
        clear hdr hd
        go_wp2_with (go_at_call 54; refine (rdigit_any _ (by omega) (by omega) _).mono ?_; rintro e w' ⟨rfl, rfl⟩)
        go_round
        case rel => exact ⟨k + 1, by omega, by go_num, HN.out⟩
        case measure => simp [intOf]; omega
      · have hdr := (Tx.dgr_dgt (s[k].toNat : Int) 10 (by decide) (by decide)).1.2 (by omega)
        have HF : Hid (Tx.num 10 s.data.toList = (0, 10)) := hid (Tx.num_bad 10 s k hlt hd)
        clear hd
        rcases hdr with hdr | hdr
        · go_wp2_with (go_at_call 54; refine (rdigit_any _ (by omega) (by omega) _).mono ?_; rintro e w' ⟨rfl, rfl⟩)
          go_ret2
          exact ⟨ret_two HF.out, Below.refl _ _⟩
        · have hdn : decide (Tx.dgr (s[k].toNat : Int) < 0) = false := decide_eq_false (by omega)
          go_wp2_with (go_at_call 54; refine (rdigit_any _ (by omega) (by omega) _).mono ?_; rintro e w' ⟨rfl, rfl⟩)
          go_ret2
          exact ⟨ret_two HF.out, Below.refl _ _⟩
    · have HD : Hid (Tx.digs 10 s.data.toList = true) := hid (by have := HDG.out; rwa [List.take_of_length_le (by rw [← Lib.size_eq]; omega)] at this)
      clear HDG
      go_wp2
      go_loop [0] (fun v => ∃ t : ByteArray, v = .string t ∧ 0 < t.size ∧ t.size ≤ s.size ∧ Tx.digs 10 t.data.toList = true ∧ Tx.numv 10 t.data.toList = Tx.numv 10 s.data.toList) (fun v => Tx.strLen v)
      case atStart => exact ⟨s, rfl, by omega, Nat.le_refl _, HD.out, rfl⟩
      case round =>
        obtain ⟨t, rfl, ht0, hts, htd, htv⟩ := hrel
        have HTD := hid htd
        have HTV := hid htv
        clear htd htv
        by_cases hgo : 1 < t.size ∧ ((t[0].toNat : Int) == 48) = true
        · obtain ⟨h1, h48⟩ := hgo
          have HC : Hid (t.data.toList = 48 :: (t.extract 1 t.size).data.toList) := hid (by
            rw [Lib.extract_data, List.take_of_length_le (by rw [List.length_drop, ← Lib.size_eq]; omega)]
            conv => lhs; rw [← List.drop_zero (l := t.data.toList), List.drop_eq_getElem_cons (by rw [← Lib.size_eq]; omega)]
            have : t.data.toList[0]'(by rw [← Lib.size_eq]; omega) = 48 := by
              rw [beq_iff_eq] at h48
              apply UInt8.toNat_inj.1
              show t[0].toNat = 48; omega
            rw [this])
          have HD' : Hid (Tx.digs 10 (t.extract 1 t.size).data.toList = true) := hid (by
            have := HTD.out; rw [HC.out] at this; unfold Tx.digs Tx.allC at this ⊢; rw [List.all_cons, Bool.and_eq_true] at this; exact this.2)
          have HV' : Hid (Tx.numv 10 (t.extract 1 t.size).data.toList = Tx.numv 10 s.data.toList) := hid (by rw [← HTV.out, HC.out, Tx.numv_cons0])
          go_wp2
          go_round
          case rel => exact ⟨t.extract 1 t.size, rfl, by simp; omega, by simp; omega, HD'.out, HV'.out⟩
          case measure => simp [Tx.strLen]; omega
        · by_cases h19 : 19 < t.size
          · have h48 : ((t[0].toNat : Int) == 48) = false := by
              cases h : ((t[0].toNat : Int) == 48)
              · rfl
              · exact absurd ⟨by omega, h⟩ hgo
            have HF : Hid (Tx.num 10 s.data.toList = (0, 5)) := hid (by
              rw [Tx.num_digs 10 _ HE.out HD.out, if_pos]
              rw [← HTV.out, Tx.top_eq]
              have hc : t.data.toList = t[0] :: t.data.toList.drop 1 := by
                conv => lhs; rw [← List.drop_zero (l := t.data.toList), List.drop_eq_getElem_cons (by rw [← Lib.size_eq]; omega)]
                rfl
              have hdz : 1 ≤ Tx.dgt (t[0].toNat : Int) := by
                have hb := Tx.dgt_bd (t[0].toNat : Int)
                have hdd := HTD.out
                rw [hc] at hdd
                unfold Tx.digs Tx.allC at hdd
                rw [List.all_cons, Bool.and_eq_true, decide_eq_true_eq] at hdd
                exact nought_only _ h48 (by have := hdd.1; omega)
              have h1 := Tx.numv_lo 10 (by decide) t[0] (t.data.toList.drop 1) hdz
              have h2 := Tx.pow_19 10 (by decide) (t.data.toList.drop 1).length (by rw [List.length_drop, ← Lib.size_eq]; omega)
              rw [← hc] at h1
              omega)
            clear hgo
            go_wp2
            go_ret2
            exact ⟨ret_two HF.out, Below.refl _ _⟩
          · by_cases h1 : 1 < t.size
            · have h48 : ((t[0].toNat : Int) == 48) = false := by
                cases h : ((t[0].toNat : Int) == 48)
                · rfl
                · exact absurd ⟨h1, h⟩ hgo
              clear hgo
              go_wp2_with (go_at_call 55; with_reducible refine (bof_any _ _ (by decide) (by decide)).mono ?_; rintro e w1 ⟨v1, rfl, hf1, ⟨l1, hw1, hl1⟩, hb1⟩; obtain ⟨a1, c1, rfl⟩ := hw1.shape; have HW1 := hid hw1; have HB1 := hid hb1; have HL1 := hid hl1; clear hw1 hb1 hl1 hf1)
              go_loopw [9] (fun iv wr => ∃ (k2 : Nat) (l : List Int) (v : Value), k2 ≤ t.size ∧ iv = .int .i64 k2 ∧ Cell2 wr w1.heap.size (.bool false) v ∧ Wh wr v l (Tx.numv 10 (t.data.toList.take k2)) ∧ l.length ≤ 4 * k2 + 3 ∧ Below w.heap.size w wr) (fun iv _ => t.size - (intOf iv).toNat)
              case atStart => exact ⟨0, l1, _, Nat.zero_le _, rfl, Cell2.new w1 _ _ _, HW1.out.below ((Below.refl _ _).alloc (Nat.le_refl _) _), by have := HL1.out; omega, HB1.out.alloc HB1.out.size _⟩
              case round =>
                obtain ⟨k2, l, v, hk2, rfl, hs0, hwh, hll, hbel⟩ := hrel
                obtain ⟨a2, c2, rfl⟩ := hwh.shape
                have HS0 := hid hs0
                obtain ⟨s0a, s0b, s0c, s0d⟩ := hs0
                have HWH := hid hwh
                have HBEL := hid hbel
                have HV1 : Hid (w.heap.size ≤ w1.heap.size) := hid HB1.out.size
                clear hwh hbel
                by_cases hlt2 : k2 < t.size
                · have hb0 : t[k2].toNat ≤ 255 := by have := t[k2].toNat_lt; omega
                  have hdt : Tx.dgt (t[k2].toNat : Int) < 10 := by
                    have := HTD.out
                    unfold Tx.digs at this
                    cases h : decide (Tx.dgt (t[k2].toNat : Int) < 10)
                    · rw [Tx.allC_no _ t k2 hlt2 h] at this; cases this
                    · exact of_decide_eq_true h
                  have hdr := dgr_ok (t[k2].toNat : Int) 10 (by decide) (by decide) hdt
                  have hd0 := (Tx.dgt_bd (t[k2].toNat : Int)).1
                  obtain ⟨dv, hdv⟩ : ∃ dv, dv = Tx.dgr (t[k2].toNat : Int) := ⟨_, rfl⟩
                  have hv0 : 0 ≤ dv := by omega
                  have hv1 : dv ≤ 15 := by omega
                  have HSN : Hid (Tx.numv 10 (t.data.toList.take (k2 + 1)) = Tx.numv 10 (t.data.toList.take k2) * 10 + dv) := hid (by rw [Tx.take_snoc t k2 hlt2, Tx.numv_snoc, hdv, hdr])
                  have HDC : Hid (∀ W, Calls Tryd.prog 54 #[.int .u8 (t[k2].toNat : Int)] W fun e w' => e = .returned (.int .i64 dv) ∧ W = w') := hid (fun W => by
                    rw [hdv]; exact (rdigit_any _ (by omega) (by omega) W).mono fun e w' h => ⟨h.1, h.2.symm⟩)
                  clear hdr hd0 hdt hdv
                  go_wp2
                  go_region_with (first
                    | (go_at_call 54; refine (HDC.out _).mono ?_; rintro e w' ⟨rfl, rfl⟩)
                    | (go_at_call 55; with_reducible refine (bof_dig 10 _ (by decide) (by decide)).mono ?_; go_must (rintro e w3 ⟨v3, rfl, hw3, hb3⟩; obtain ⟨a3, c3, rfl⟩ := hw3.shape; have HB3 := hid hb3; have HW3 := hid hw3; have HC3 := hid (HS0.out.drewed.below hb3 (World.block_lt_of_cell? _ _ HS0.out.drewed.c0)); have k3a := HC3.out.c0; have k3b := HC3.out.c1; clear hb3 hw3))
                    | (go_at_call 57; refine (btimes' _ _ l _ 10 _ (by exact (HWH.out.below (below_two (Below.drew (Below.refl _ _)) HB3.out))) (by exact HW3.out) (by omega) (by decide)).mono ?_; rintro e w4 ⟨v4, rfl, ⟨l4, hw4, hl4⟩, hb4⟩; obtain ⟨a4, c4, rfl⟩ := hw4.shape; have HB4 := hid hb4; have HW4 := hid hw4; have HC4 := hid (HC3.out.below hb4 (World.block_lt_of_cell? _ _ HC3.out.c0)); have k4a := HC4.out.c0; have k4b := HC4.out.c1; clear hb4 hw4)
                    | (go_at_call 55; with_reducible refine (bof_any dv _ hv0 (by omega)).mono ?_; rintro e w5 ⟨v5, rfl, hf5, ⟨l5, hw5, hl5⟩, hb5⟩; obtain ⟨a5, c5, rfl⟩ := hw5.shape; have HB5 := hid hb5; have HW5 := hid hw5; have HC5 := hid (HC4.out.below hb5 (World.block_lt_of_cell? _ _ HC4.out.c0)); have k5a := HC5.out.c0; have k5b := HC5.out.c1; clear hb5 hw5 hf5)
                    | (go_at_call 56; refine (bplus_any _ _ l4 l5 _ dv _ (by exact (HW4.out.below HB5.out)) (by exact HW5.out) (by omega) (by omega)).mono ?_; rintro e w6 ⟨v6, rfl, hf6, ⟨l6, hw6, hl6⟩, hb6⟩; obtain ⟨a6, c6, rfl⟩ := hw6.shape; have HB6 := hid hb6; have HW6 := hid hw6; have HF6 := hid hf6; have HC6 := hid (HC5.out.below hb6 (World.block_lt_of_cell? _ _ HC5.out.c0)); obtain ⟨k6a, k6b, k6c, k6d⟩ := HC6.out; clear hb6 hw6 hf6))
                  all_goals go_wp2
                  all_goals go_roundw
                  all_goals first
                    | (obtain ⟨rc, rw', rb⟩ := round_world HBEL.out HV1.out HS0.out HB3.out HB4.out HB5.out HB6.out HW6.out HF6.out HC6.out; exact ⟨k2 + 1, l6, _, by omega, by go_num, rc, by rw [HSN.out]; exact rw', by omega, rb⟩)
                    | (simp [intOf]; omega)
                · obtain rfl : k2 = t.size := by omega
                  have HVV : Hid (Tx.numv 10 (t.data.toList.take t.size) = Tx.numv 10 s.data.toList) := hid (by rw [List.take_of_length_le (by rw [← Lib.size_eq]; exact Nat.le_refl _)]; exact HTV.out)
                  by_cases hbig : 9223372036854775807 < Tx.numv 10 (t.data.toList.take t.size)
                  · have HF : Hid (Tx.num 10 s.data.toList = (0, 5)) := hid (by rw [Tx.num_digs 10 _ HE.out HD.out, if_pos]; rw [← HVV.out, Tx.top_eq]; exact hbig)
                    have HX := hid hbig
                    clear hbig
                    go_wp2_with (go_at_call 58; refine (bint_no _ _ _ _ HWH.out HX.out).mono ?_; rintro e w8 ⟨rfl, hb8⟩; have HB8 := hid hb8; clear hb8)
                    go_ret2
                    exact ⟨ret_two HF.out, below_two HBEL.out HB8.out⟩
                  · have HF : Hid (Tx.num 10 s.data.toList = (Tx.numv 10 (t.data.toList.take t.size), 0)) := hid (by rw [Tx.num_digs 10 _ HE.out HD.out, if_neg (by rw [← HVV.out, Tx.top_eq]; exact hbig), HVV.out])
                    have HX : Hid (Tx.numv 10 (t.data.toList.take t.size) ≤ 9223372036854775807) := hid (by omega)
                    clear hbig
                    obtain ⟨xv, hxv⟩ : ∃ xv, Tx.numv 10 (t.data.toList.take t.size) = xv := ⟨_, rfl⟩
                    rw [hxv] at HF HX
                    have HWX : Hid (Wh wr (.slice a2 l.length c2) l xv) := hid (by rw [← hxv]; exact HWH.out)
                    clear hxv HVV HWH
                    go_wp2_with (go_at_call 58; refine (bint_yes _ _ _ _ HWX.out HX.out).mono ?_; rintro e w8 ⟨rfl, hb8⟩; have HB8 := hid hb8; clear hb8)
                    go_ret2
                    exact ⟨ret_two HF.out, below_two HBEL.out HB8.out⟩
            · clear hgo
              go_wp2_with (go_at_call 55; with_reducible refine (bof_any _ _ (by decide) (by decide)).mono ?_; rintro e w1 ⟨v1, rfl, hf1, ⟨l1, hw1, hl1⟩, hb1⟩; obtain ⟨a1, c1, rfl⟩ := hw1.shape; have HW1 := hid hw1; have HB1 := hid hb1; have HL1 := hid hl1; clear hw1 hb1 hl1 hf1)
              go_loopw [9] (fun iv wr => ∃ (k2 : Nat) (l : List Int) (v : Value), k2 ≤ t.size ∧ iv = .int .i64 k2 ∧ Cell2 wr w1.heap.size (.bool false) v ∧ Wh wr v l (Tx.numv 10 (t.data.toList.take k2)) ∧ l.length ≤ 4 * k2 + 3 ∧ Below w.heap.size w wr) (fun iv _ => t.size - (intOf iv).toNat)
              case atStart => exact ⟨0, l1, _, Nat.zero_le _, rfl, Cell2.new w1 _ _ _, HW1.out.below ((Below.refl _ _).alloc (Nat.le_refl _) _), by have := HL1.out; omega, HB1.out.alloc HB1.out.size _⟩
              case round =>
                obtain ⟨k2, l, v, hk2, rfl, hs0, hwh, hll, hbel⟩ := hrel
                obtain ⟨a2, c2, rfl⟩ := hwh.shape
                have HS0 := hid hs0
                obtain ⟨s0a, s0b, s0c, s0d⟩ := hs0
                have HWH := hid hwh
                have HBEL := hid hbel
                have HV1 : Hid (w.heap.size ≤ w1.heap.size) := hid HB1.out.size
                clear hwh hbel
                by_cases hlt2 : k2 < t.size
                · have hb0 : t[k2].toNat ≤ 255 := by have := t[k2].toNat_lt; omega
                  have hdt : Tx.dgt (t[k2].toNat : Int) < 10 := by
                    have := HTD.out
                    unfold Tx.digs at this
                    cases h : decide (Tx.dgt (t[k2].toNat : Int) < 10)
                    · rw [Tx.allC_no _ t k2 hlt2 h] at this; cases this
                    · exact of_decide_eq_true h
                  have hdr := dgr_ok (t[k2].toNat : Int) 10 (by decide) (by decide) hdt
                  have hd0 := (Tx.dgt_bd (t[k2].toNat : Int)).1
                  obtain ⟨dv, hdv⟩ : ∃ dv, dv = Tx.dgr (t[k2].toNat : Int) := ⟨_, rfl⟩
                  have hv0 : 0 ≤ dv := by omega
                  have hv1 : dv ≤ 15 := by omega
                  have HSN : Hid (Tx.numv 10 (t.data.toList.take (k2 + 1)) = Tx.numv 10 (t.data.toList.take k2) * 10 + dv) := hid (by rw [Tx.take_snoc t k2 hlt2, Tx.numv_snoc, hdv, hdr])
                  have HDC : Hid (∀ W, Calls Tryd.prog 54 #[.int .u8 (t[k2].toNat : Int)] W fun e w' => e = .returned (.int .i64 dv) ∧ W = w') := hid (fun W => by
                    rw [hdv]; exact (rdigit_any _ (by omega) (by omega) W).mono fun e w' h => ⟨h.1, h.2.symm⟩)
                  clear hdr hd0 hdt hdv
                  go_wp2
                  go_region_with (first
                    | (go_at_call 54; refine (HDC.out _).mono ?_; rintro e w' ⟨rfl, rfl⟩)
                    | (go_at_call 55; with_reducible refine (bof_dig 10 _ (by decide) (by decide)).mono ?_; go_must (rintro e w3 ⟨v3, rfl, hw3, hb3⟩; obtain ⟨a3, c3, rfl⟩ := hw3.shape; have HB3 := hid hb3; have HW3 := hid hw3; have HC3 := hid (HS0.out.drewed.below hb3 (World.block_lt_of_cell? _ _ HS0.out.drewed.c0)); have k3a := HC3.out.c0; have k3b := HC3.out.c1; clear hb3 hw3))
                    | (go_at_call 57; refine (btimes' _ _ l _ 10 _ (by exact (HWH.out.below (below_two (Below.drew (Below.refl _ _)) HB3.out))) (by exact HW3.out) (by omega) (by decide)).mono ?_; rintro e w4 ⟨v4, rfl, ⟨l4, hw4, hl4⟩, hb4⟩; obtain ⟨a4, c4, rfl⟩ := hw4.shape; have HB4 := hid hb4; have HW4 := hid hw4; have HC4 := hid (HC3.out.below hb4 (World.block_lt_of_cell? _ _ HC3.out.c0)); have k4a := HC4.out.c0; have k4b := HC4.out.c1; clear hb4 hw4)
                    | (go_at_call 55; with_reducible refine (bof_any dv _ hv0 (by omega)).mono ?_; rintro e w5 ⟨v5, rfl, hf5, ⟨l5, hw5, hl5⟩, hb5⟩; obtain ⟨a5, c5, rfl⟩ := hw5.shape; have HB5 := hid hb5; have HW5 := hid hw5; have HC5 := hid (HC4.out.below hb5 (World.block_lt_of_cell? _ _ HC4.out.c0)); have k5a := HC5.out.c0; have k5b := HC5.out.c1; clear hb5 hw5 hf5)
                    | (go_at_call 56; refine (bplus_any _ _ l4 l5 _ dv _ (by exact (HW4.out.below HB5.out)) (by exact HW5.out) (by omega) (by omega)).mono ?_; rintro e w6 ⟨v6, rfl, hf6, ⟨l6, hw6, hl6⟩, hb6⟩; obtain ⟨a6, c6, rfl⟩ := hw6.shape; have HB6 := hid hb6; have HW6 := hid hw6; have HF6 := hid hf6; have HC6 := hid (HC5.out.below hb6 (World.block_lt_of_cell? _ _ HC5.out.c0)); obtain ⟨k6a, k6b, k6c, k6d⟩ := HC6.out; clear hb6 hw6 hf6))
                  all_goals go_wp2
                  all_goals go_roundw
                  all_goals first
                    | (obtain ⟨rc, rw', rb⟩ := round_world HBEL.out HV1.out HS0.out HB3.out HB4.out HB5.out HB6.out HW6.out HF6.out HC6.out; exact ⟨k2 + 1, l6, _, by omega, by go_num, rc, by rw [HSN.out]; exact rw', by omega, rb⟩)
                    | (simp [intOf]; omega)
                · obtain rfl : k2 = t.size := by omega
                  have HVV : Hid (Tx.numv 10 (t.data.toList.take t.size) = Tx.numv 10 s.data.toList) := hid (by rw [List.take_of_length_le (by rw [← Lib.size_eq]; exact Nat.le_refl _)]; exact HTV.out)
                  by_cases hbig : 9223372036854775807 < Tx.numv 10 (t.data.toList.take t.size)
                  · have HF : Hid (Tx.num 10 s.data.toList = (0, 5)) := hid (by rw [Tx.num_digs 10 _ HE.out HD.out, if_pos]; rw [← HVV.out, Tx.top_eq]; exact hbig)
                    have HX := hid hbig
                    clear hbig
                    go_wp2_with (go_at_call 58; refine (bint_no _ _ _ _ HWH.out HX.out).mono ?_; rintro e w8 ⟨rfl, hb8⟩; have HB8 := hid hb8; clear hb8)
                    go_ret2
                    exact ⟨ret_two HF.out, below_two HBEL.out HB8.out⟩
                  · have HF : Hid (Tx.num 10 s.data.toList = (Tx.numv 10 (t.data.toList.take t.size), 0)) := hid (by rw [Tx.num_digs 10 _ HE.out HD.out, if_neg (by rw [← HVV.out, Tx.top_eq]; exact hbig), HVV.out])
                    have HX : Hid (Tx.numv 10 (t.data.toList.take t.size) ≤ 9223372036854775807) := hid (by omega)
                    clear hbig
                    obtain ⟨xv, hxv⟩ : ∃ xv, Tx.numv 10 (t.data.toList.take t.size) = xv := ⟨_, rfl⟩
                    rw [hxv] at HF HX
                    have HWX : Hid (Wh wr (.slice a2 l.length c2) l xv) := hid (by rw [← hxv]; exact HWH.out)
                    clear hxv HVV HWH
                    go_wp2_with (go_at_call 58; refine (bint_yes _ _ _ _ HWX.out HX.out).mono ?_; rintro e w8 ⟨rfl, hb8⟩; have HB8 := hid hb8; clear hb8)
                    go_ret2
                    exact ⟨ret_two HF.out, below_two HBEL.out HB8.out⟩

end Go.Proofs.YtbpdhcfmdkmoiaaDoor
