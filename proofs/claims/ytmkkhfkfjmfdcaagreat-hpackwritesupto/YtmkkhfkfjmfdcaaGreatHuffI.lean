/-
  huff.Decode, by its contract.
-/
import Derived.Test.YtmkkhfkfjmfdcaaGreatHuffG
import Derived.Test.YtmkkhfkfjmfdcaaGreatHuffH
namespace Go.Proofs.YtmkkhfkfjmfdcaaGreat
namespace Hf
/-- What is known of the bits behind the last code. -/
def Good (c n : Nat) : Prop := n ≤ 29 ∧ c < 2 ^ n ∧ fsts.getD n 0 + cnt.getD n 0 ≤ (c : Int)
theorem good_zero : Good 0 0 := ⟨by omega, by decide, by decide +kernel⟩
theorem fst_next : (List.range 30).all (fun n => decide (fsts.getD (n + 1) 0 = 2 * (fsts.getD n 0 + cnt.getD n 0))) = true := by decide +kernel
theorem fst_last : fsts.getD 30 0 + cnt.getD 30 0 = 1073741824 := by decide +kernel
theorem good_next (c n b : Nat) (h : Good c n) (hb : b ≤ 1) (hs : sym (2 * c + b) (n + 1) = none) : Good (2 * c + b) (n + 1) := by
  obtain ⟨h1, h2, h3⟩ := h
  have h4 := List.all_eq_true.1 fst_next n (List.mem_range.2 (by omega))
  simp only [decide_eq_true_eq] at h4
  have hp : 2 ^ (n + 1) = 2 * 2 ^ n := by rw [Nat.pow_succ]; omega
  have hlt : 2 * c + b < 2 ^ (n + 1) := by omega
  unfold sym at hs
  have h5 : cnt.getD (n + 1) 0 ≤ ((2 * c + b : Nat) : Int) - fsts.getD (n + 1) 0 := by
    by_cases h : ((2 * c + b : Nat) : Int) - fsts.getD (n + 1) 0 < 0 ∨ cnt.getD (n + 1) 0 ≤ ((2 * c + b : Nat) : Int) - fsts.getD (n + 1) 0
    · rcases h with h | h
      · omega
      · exact h
    · rw [if_neg h] at hs; cases hs
  refine ⟨?_, hlt, by omega⟩
  by_cases hn : n + 1 ≤ 29
  · exact hn
  · exfalso
    have e : n + 1 = 30 := by omega
    rw [e] at h5 hlt
    have := fst_last
    omega
/-- A code has five bits at least. -/
theorem cnt_few : (List.range 5).all (fun n => decide (cnt.getD n 0 = 0)) = true := by decide +kernel
theorem sym_five (c n x : Nat) (h : sym c n = some x) : 5 ≤ n := by
  by_cases hn : 5 ≤ n
  · exact hn
  · exfalso
    have hc := List.all_eq_true.1 cnt_few n (List.mem_range.2 (by omega))
    simp only [decide_eq_true_eq] at hc
    unfold sym at h
    rw [hc] at h
    generalize fsts.getD n 0 = f at h
    generalize ords.getD (stas.getD n 0 + ((c : Int) - f)).toNat 0 = o at h
    rw [if_pos (by omega)] at h
    cases h
theorem ords_lt (j : Nat) (h : j < 257) : ords.getD j 0 < 257 := by
  have := all_getD ords _ ords_all j (by rw [ords_length]; exact h)
  simp only [Bool.and_eq_true, decide_eq_true_eq] at this
  exact this.2
theorem sym_lt (c n x : Nat) (hn : n < 31) (h : sym c n = some x) : x < 257 := by
  unfold sym at h
  by_cases h2 : (c : Int) - fsts.getD n 0 < 0 ∨ cnt.getD n 0 ≤ (c : Int) - fsts.getD n 0
  · rw [if_pos h2] at h; cases h
  · rw [if_neg h2] at h
    have hx := Option.some.inj h
    obtain ⟨f0, f1, t0, s0, st⟩ := book_at n hn
    have := ords_lt (stas.getD n 0 + ((c : Int) - fsts.getD n 0)).toNat (by omega)
    omega
/-- The answers. -/
def resV : Res → Value
  | .ok l => .tuple #[.string ⟨l.toArray⟩, .int .i64 0]
  | .long => .tuple #[.string ⟨#[]⟩, .int .i64 3]
  | .pad => .tuple #[.string ⟨#[]⟩, .int .i64 30]
  | .fin => .tuple #[.string ⟨#[]⟩, .int .i64 31]
theorem and_bit (x j : Nat) (hx : x < 256) : Go.bits .and .u8 ((x : Int) / 2 ^ j) 1 = ((x / 2 ^ j % 2 : Nat) : Int) := by
  have e : (x : Int) / 2 ^ j = ((x / 2 ^ j : Nat) : Int) := by norm_cast
  have hl : x / 2 ^ j ≤ x := Nat.div_le_self _ _
  rw [e]
  generalize x / 2 ^ j = y at hl
  have := bits_mask .u8 8 (by decide) wraps_u8 1 (by decide) (y : Int) (by omega) (by omega)
  rw [show (1 : Int) = 2 ^ 1 - 1 by decide, this]
  omega
theorem or_bit (c b : Nat) (hc : c < 536870912) (hb : b ≤ 1) : Go.bits .or .u64 ((c : Int) * 2) (b : Int) = ((2 * c + b : Nat) : Int) := by
  rw [bits_join .u64 64 (by decide) wraps_u64 1 _ _ (by omega) (by omega) (by omega) (by omega) (by omega) (by omega)]
  omega
theorem beq_bit (v : Nat) (h : v ≤ 1) : (v == 1).toNat = v := by
  match v, h with
  | 0, _ => rfl
  | 1, _ => rfl
end Hf
open Go.RowKit

set_option maxHeartbeats 1000000 in
set_option maxRecDepth 100000 in
theorem decode_any (s : ByteArray) (hs : s.size ≤ 2147483648) (most : Int) (M : Nat) (hM : max most 0 = (M : Int)) (w : World) : Calls Tryz.prog 99 #[.string s, .int .i64 most] w fun e w' => e = .returned (Hf.resV (Hf.dec M (Hf.unp s.data.toList) 0 0 [])) ∧ Below w.heap.size w w' := by
  obtain ⟨R, hR⟩ : ∃ R, Hf.dec M (Hf.unp s.data.toList) 0 0 [] = R := ⟨_, rfl⟩
  rw [hR]
  have HR := hid' hR
  clear hR
  go_enter Tryz.func99, Tryz.ntmps99
  go_wp2_with fail
  refine (newBook_any _).mono ?_
  rintro e w1 ⟨b, rfl, hb1, ha1, hl1⟩
  have HS1 : Hid (Ar w1 b 150 (book Hf.cnt Hf.fsts Hf.stas Hf.ords) ∧ Below w.heap.size w w1) := hid' ⟨ha1, hl1⟩
  clear hb1 ha1 hl1
  go_wp2_with (refine wpl_alloc 59 rfl rfl _ zeroBld ?_)
  intro b2 w2 hb2 ha2 hl2
  have HS2 : Hid (Ar w2 b 150 (book Hf.cnt Hf.fsts Hf.stas Hf.ords) ∧ Bld w2 w1.heap.size b2 [] ∧ Below w.heap.size w w2 ∧ w.heap.size ≤ w1.heap.size ∧ b < w1.heap.size ∧ w1.heap.size ≤ w2.heap.size) := hid' (by
    obtain ⟨h0, h1⟩ := HS1.out
    exact ⟨h0.keep hl2, bld_new w1 b2 w2 hb2 ha2, below_from h1 hl2 h1.size, h1.size, h0.lt, hl2.size⟩)
  clear HS1 hb2 ha2 hl2
  obtain ⟨B, hB⟩ : ∃ B, w1.heap.size = B := ⟨_, rfl⟩
  rw [hB] at HS2
  clear hB
  go_wp2
  go_loopw [19, 8, 9] (fun i cd bt wr => ∃ k c n : Nat, k ≤ s.size ∧ i = .int .i64 k ∧ cd = .int .u64 (c : Int) ∧ bt = .int .i64 (n : Int) ∧ Hid (∃ out, Hf.dec M (Hf.unp (s.data.toList.drop k)) c n out = R ∧ Hf.Good c n ∧ 5 * out.length + n ≤ 8 * k ∧ Ar wr b 150 (book Hf.cnt Hf.fsts Hf.stas Hf.ords) ∧ Bld wr B b2 out ∧ Below w.heap.size w wr ∧ w.heap.size ≤ B ∧ b < B ∧ B ≤ wr.heap.size)) (fun i _ _ _ => s.size - (intOf i).toNat)
  case atStart => exact ⟨0, 0, 0, Nat.zero_le _, rfl, rfl, rfl, hid' ⟨[], HR.out, Hf.good_zero, by simp, HS2.out⟩⟩
  case round =>
    clear HS2
    obtain ⟨k, c, n, hk, rfl, rfl, rfl, HS⟩ := hrel
    by_cases hlt : k < s.size
    · have hl : k < s.data.toList.length := by rw [← Lib.size_eq]; exact hlt
      obtain ⟨x, hx⟩ : ∃ x : UInt8, s[k] = x := ⟨_, rfl⟩
      have hxl : s.data.toList[k] = x := hx
      have x256 := UInt8.toNat_lt x
      have HS8 : Hid (∃ out, Hf.dec M (Hf.bitsN 8 x.toNat ++ Hf.unp (s.data.toList.drop (k + 1))) c n out = R ∧ Hf.Good c n ∧ 5 * out.length + n + 8 ≤ 8 * k + 8 ∧ Ar wr b 150 (book Hf.cnt Hf.fsts Hf.stas Hf.ords) ∧ Bld wr B b2 out ∧ Below w.heap.size w wr ∧ w.heap.size ≤ B ∧ b < B ∧ B ≤ wr.heap.size) := hid' (by
        obtain ⟨out, h1, h2, h3, h4⟩ := HS.out
        refine ⟨out, ?_, h2, by omega, h4⟩
        rw [← h1, List.drop_eq_getElem_cons hl, hxl]
        simp [Hf.unp])
      clear HS hxl
      go_wp2
      go_loopw [11, 8, 9] (fun sf cd bt wr => ∃ (j : Nat) (sh : Int) (c n : Nat), sf = .int .i64 sh ∧ Hid (sh = (j : Int) - 1 ∧ j ≤ 8) ∧ cd = .int .u64 (c : Int) ∧ bt = .int .i64 (n : Int) ∧ Hid (∃ out, Hf.dec M (Hf.bitsN j x.toNat ++ Hf.unp (s.data.toList.drop (k + 1))) c n out = R ∧ Hf.Good c n ∧ 5 * out.length + n + j ≤ 8 * k + 8 ∧ Ar wr b 150 (book Hf.cnt Hf.fsts Hf.stas Hf.ords) ∧ Bld wr B b2 out ∧ Below w.heap.size w wr ∧ w.heap.size ≤ B ∧ b < B ∧ B ≤ wr.heap.size)) (fun sf _ _ _ => (intOf sf + 1).toNat)
      case atStart => exact ⟨8, 7, c, n, rfl, hid' ⟨rfl, by omega⟩, rfl, rfl, HS8⟩
      case round =>
        clear HS8
        obtain ⟨j, sh, c, n, rfl, HJ, rfl, rfl, HS⟩ := hrel
        cases j with
        | zero =>
          obtain rfl : sh = -1 := by have := HJ.out; omega
          go_wp2
          go_roundw
          case rel =>
            refine ⟨k + 1, c, n, by omega, by go_num, rfl, rfl, hid' ?_⟩
            obtain ⟨out, h1, h2, h3, h4⟩ := HS.out
            exact ⟨out, h1, h2, by omega, h4⟩
          case measure => simp [intOf]; omega
        | succ j =>
          obtain rfl : sh = (j : Int) := by have := HJ.out; omega
          have hj8 : j < 8 := by have := HJ.out; omega
          obtain ⟨bt, hbt⟩ : ∃ bt, x.toNat / 2 ^ j % 2 = bt := ⟨_, rfl⟩
          have hb1 : bt ≤ 1 := by omega
          have hgood : Hf.Good c n := by obtain ⟨out, h1, h2, h3, h4⟩ := HS.out; exact h2
          have hc30 : c < 536870912 := by
            obtain ⟨g1, g2, g3⟩ := hgood
            have : 2 ^ n ≤ 2 ^ 29 := Nat.pow_le_pow_right (by omega) g1
            omega
          have hn29 : n ≤ 29 := hgood.1
          obtain ⟨c1, hc1⟩ : ∃ c1, 2 * c + bt = c1 := ⟨_, rfl⟩
          obtain ⟨n1, hn1⟩ : ∃ n1 : Nat, (n : Int) + 1 = (n1 : Int) := ⟨n + 1, by omega⟩
          have hand : Go.bits .and .u8 ((x.toNat : Int) / 2 ^ j) 1 = (bt : Int) := by rw [← hbt]; exact Hf.and_bit _ _ (by omega)
          have hor : Go.bits .or .u64 ((c : Int) * 2) (bt : Int) = (c1 : Int) := by rw [← hc1]; exact Hf.or_bit c bt hc30 hb1
          have hne : n1 = n + 1 := by omega
          have hn31 : n1 < 31 := by omega
          have hc31 : c1 < 2147483648 := by omega
          obtain ⟨out, HD, HO, HW⟩ : ∃ out, Hid (Hf.dec M ((x.toNat / 2 ^ j % 2 == 1) :: (Hf.bitsN j x.toNat ++ Hf.unp (s.data.toList.drop (k + 1)))) c n out = R) ∧ Hid (5 * out.length + n + (j + 1) ≤ 8 * k + 8) ∧ Hid (Ar wr b 150 (book Hf.cnt Hf.fsts Hf.stas Hf.ords) ∧ Bld wr B b2 out ∧ Below w.heap.size w wr ∧ w.heap.size ≤ B ∧ b < B ∧ B ≤ wr.heap.size) := by
            obtain ⟨out, h1, h2, h3, h4⟩ := HS.out
            exact ⟨out, hid' h1, hid' h3, hid' h4⟩
          have HG := hid' hgood
          have HD2 : Hid (R = match Hf.sym c1 n1 with
              | none => Hf.dec M (Hf.bitsN j x.toNat ++ Hf.unp (s.data.toList.drop (k + 1))) c1 n1 out
              | some x' => if x' = 256 then .fin else if out.length = M then .long else Hf.dec M (Hf.bitsN j x.toNat ++ Hf.unp (s.data.toList.drop (k + 1))) 0 0 (out ++ [UInt8.ofNat x'])) := hid' (by
            rw [← HD.out, Hf.dec, Hf.beq_bit _ (by omega), hbt, hc1, ← hne]
            cases Hf.sym c1 n1 <;> rfl)
          have HC1 := hid' hc1
          have HNE := hid' hne
          clear hgood HS HD hbt hc1 hne
          cases hsy : Hf.sym c1 n1 with
          | none =>
            rw [hsy] at HD2
            have HSY := hid' hsy
            clear hsy
            go_wp2_with fail
            refine (symbol_none b c1 n1 hn31 hc31 HSY.out _ HW.out.1).mono ?_
            rintro e w' ⟨rfl, rfl⟩
            go_wp2
            go_roundw
            case rel =>
              refine ⟨j, (j : Int) - 1, c1, n1, by go_num, hid' ⟨rfl, by omega⟩, rfl, rfl, hid' ⟨out, HD2.out.symm, ?_, ?_, HW.out⟩⟩
              · rw [← HC1.out, HNE.out]
                refine Hf.good_next c n bt HG.out hb1 ?_
                rw [HC1.out, ← HNE.out]; exact HSY.out
              · have := HO.out
                have := HNE.out
                omega
            case measure => simp [intOf] <;> omega
          | some x' =>
            rw [hsy] at HD2
            have h5 := Hf.sym_five _ _ _ hsy
            have hx7 := Hf.sym_lt _ _ _ hn31 hsy
            have HSY := hid' hsy
            clear hsy
            by_cases h256 : x' = 256
            · subst h256
              go_wp2_with fail
              refine (symbol_some b c1 n1 256 hn31 hc31 HSY.out _ HW.out.1).mono ?_
              rintro e w' ⟨rfl, hb'⟩
              have HB' := hid' (below_from HW.out.2.2.1 hb' HW.out.2.2.1.size)
              clear hb'
              go_wp2
              go_ret2
              refine ⟨?_, HB'.out⟩
              rw [show R = Hf.Res.fin from HD2.out]; rfl
            · have hx6 : ((x' : Int) == 256) = false := by simp; omega
              have hx8 : (x' : Int) < 256 := by omega
              go_wp2_with fail
              refine (symbol_some b c1 n1 x' hn31 hc31 HSY.out _ HW.out.1).mono ?_
              rintro e w' ⟨rfl, hb'⟩
              have HW' : Hid (Ar w' b 150 (book Hf.cnt Hf.fsts Hf.stas Hf.ords) ∧ Bld w' B b2 out ∧ Below w.heap.size w w' ∧ w.heap.size ≤ B ∧ b < B ∧ B ≤ w'.heap.size) := hid' (by
                obtain ⟨h1, h2, h3, h4, h5, h6⟩ := HW.out
                exact ⟨h1.keep hb', bld_keep h2 hb', below_from h3 hb' h3.size, h4, h5, Nat.le_trans h6 hb'.size⟩)
              clear hb' HW
              go_wp2_with fail
              refine (Tryz.Builder_Len B b2 _ _ HW'.out.2.1).mono ?_
              rintro e w'' ⟨rfl, rfl⟩
              rw [Lib.byteCells_length]
              by_cases hmo : out.length = M
              · have hmo2 : ((out.length : Int) == (M : Int)) = true := by simp; omega
                go_wp2
                go_ret2
                refine ⟨?_, HW'.out.2.2.1⟩
                have : R = Hf.Res.long := by rw [HD2.out]; simp only [if_neg h256, if_pos hmo]
                rw [this]; rfl
              · have hmo2 : ((out.length : Int) == (M : Int)) = false := by simp; omega
                have hBw : B ≤ w''.heap.size := HW'.out.2.2.2.2.2
                have HL : Hid (out.length + 1 ≤ 140737488355328) := hid' (by have := HO.out; omega)
                go_wp2_with fail
                refine (writeByte_any B b2 out (UInt8.ofNat x') _ (by rw [UInt8.toNat_ofNat', Nat.mod_eq_of_lt (by omega)]) _ HW'.out.2.1 HL.out hBw).mono ?_
                rintro e w3 ⟨rfl, hbl, hbe⟩
                have HS3 : Hid (∃ out, Hf.dec M (Hf.bitsN j x.toNat ++ Hf.unp (s.data.toList.drop (k + 1))) 0 0 out = R ∧ Hf.Good 0 0 ∧ 5 * out.length + 0 + j ≤ 8 * k + 8 ∧ Ar w3 b 150 (book Hf.cnt Hf.fsts Hf.stas Hf.ords) ∧ Bld w3 B b2 out ∧ Below w.heap.size w w3 ∧ w.heap.size ≤ B ∧ b < B ∧ B ≤ w3.heap.size) := hid' (by
                  obtain ⟨h1, h2, h3, h4, h5', h6⟩ := HW'.out
                  refine ⟨out ++ [UInt8.ofNat x'], ?_, Hf.good_zero, ?_, h1.below hbe h5', hbl, h3.trans (hbe.mono h4), h4, h5', Nat.le_trans h6 hbe.size⟩
                  · rw [HD2.out]; simp only [if_neg h256, if_neg hmo]
                  · have := HO.out
                    have := HNE.out
                    simp only [List.length_append, List.length_singleton]
                    omega)
                clear hbl hbe HW' HL hBw
                go_wp2
                go_roundw
                case rel => exact ⟨j, (j : Int) - 1, 0, 0, by go_num, hid' ⟨rfl, by omega⟩, rfl, rfl, HS3⟩
                case measure => simp [intOf] <;> omega
    · have hk' : k = s.size := by omega
      obtain ⟨out, HD, HG, HW⟩ : ∃ out, Hid (R = if 7 < n ∨ c ≠ 2 ^ n - 1 then .pad else .ok out) ∧ Hid (Hf.Good c n) ∧ Hid (Bld wr B b2 out ∧ Below w.heap.size w wr ∧ w.heap.size ≤ B ∧ B ≤ wr.heap.size) := by
        obtain ⟨out, h1, h2, h3, h4, h5, h6, h7, h8, h9⟩ := HS.out
        refine ⟨out, hid' ?_, hid' h2, hid' ⟨h5, h6, h7, h9⟩⟩
        rw [← h1, hk', List.drop_of_length_le (by rw [← Lib.size_eq]; exact Nat.le_refl _)]
        rfl
      have hn29 : n ≤ 29 := HG.out.1
      clear HS HG
      by_cases hn7 : 7 < n
      · have hn72 : (7 : Int) < n := by omega
        go_wp2
        go_ret2
        refine ⟨?_, HW.out.2.1⟩
        rw [HD.out, if_pos (Or.inl hn7)]; rfl
      · have hn72 : decide ((7 : Int) < (n : Int)) = false := by simp; omega
        obtain ⟨o, ho⟩ : ∃ o, 2 ^ n - 1 = o := ⟨_, rfl⟩
        have HO := hid' ho
        have hn64 : n < 64 := by omega
        rw [ho] at HD
        clear ho
        by_cases hco : c = o
        · subst hco
          go_wp2_with fail
          refine (ones_is n c hn64 HO.out _).mono ?_
          rintro e w' ⟨rfl, rfl⟩
          go_wp2_with fail
          refine (Tryz.Builder_String_any B b2 _ _ HW.out.1 HW.out.2.2.2).mono ?_
          rintro e w4 ⟨rfl, hbe⟩
          have HB4 := hid' (HW.out.2.1.trans (hbe.mono HW.out.2.2.1))
          clear hbe
          go_wp2
          go_ret2
          refine ⟨?_, HB4.out⟩
          rw [HD.out, if_neg (by omega)]; rfl
        · have hco2 : ((c : Int) == (o : Int)) = false := by simp; omega
          have hco3 : ((c : Int) != (o : Int)) = true := by simp; omega
          go_wp2_with fail
          refine (ones_is n o hn64 HO.out _).mono ?_
          rintro e w' ⟨rfl, rfl⟩
          go_wp2
          go_ret2
          refine ⟨?_, HW.out.2.1⟩
          rw [HD.out, if_pos (Or.inr hco)]; rfl

end Go.Proofs.YtmkkhfkfjmfdcaaGreat
