/-
  huff.Encode, by its contract.
-/
import Derived.Test.YtmkkhfkfjmfdcaaGreatHuffD
import Derived.Test.YtmkkhfkfjmfdcaaGreatHuffF
import Derived.Test.YtmkkhfkfjmfdcaaGreatHuffR
import Derived.BigRegion
namespace Go.Proofs.YtmkkhfkfjmfdcaaGreat
open Go.RowKit

theorem zeroBld : (Tryz.prog.info? 59).map (fun i => i.zero) = some (some (.agg #[.pointer none, .slice none 0 0])) := by kernel_rfl

set_option maxHeartbeats 1000000 in
set_option maxRecDepth 100000 in
theorem encode_any (s : ByteArray) (hs : s.size ≤ 2147483648) (w : World) : Calls Tryz.prog 64 #[.string s] w fun e w' => e = .returned (.string ⟨(Hf.enc s.data.toList).toArray⟩) ∧ Below w.heap.size w w' := by
  go_enter Tryz.func64, Tryz.ntmps64
  go_wp2_with fail
  refine (lengths_any _).mono ?_
  rintro e w1 ⟨rfl, hl1⟩
  go_wp2_with (refine wpl_alloc 116 rfl rfl _ zero257i ?_)
  intro b0 w2 hb0 ha2 hl2
  refine wpl_store 116 _ _ rfl rfl b0 (nums .i64 Hf.lens) (by kernel_rfl) (by kernel_rfl) _ _ ha2 (by rw [nums_size, Hf.lens_length]; exact size257i) (by rw [nums_size, nums_size, Hf.lens_length, Hf.zero257_length]) (nums_one _ _) ?_
  intro w3 ha3 hu3
  have HA := hid' ha3
  have HB : Hid (Below w.heap.size w w3 ∧ w.heap.size ≤ b0) := hid' ⟨(below_two hl1 hl2).trans (hu3.below (by have := hl1.size; omega)), by have := hl1.size; omega⟩
  clear hl1 hb0 ha2 hl2 ha3 hu3
  go_wp2_with (refine wpl_load 116 _ rfl rfl b0 (by kernel_rfl) _ _ HA.out _ Tryz.underlying116 rfl (by rw [nums_size, Hf.lens_length]; exact size257i) ?_)
  refine (codes_any _).mono ?_
  rintro e w4 ⟨rfl, hl4⟩
  go_wp2_with (refine wpl_alloc 120 rfl rfl _ zero257u ?_)
  intro b1 w5 hb1 ha5 hl5
  refine wpl_store 120 _ _ rfl rfl b1 (nums .u64 Hf.cods) (by kernel_rfl) (by kernel_rfl) _ _ ha5 (by rw [nums_size, Hf.cods_length]; exact size257u) (by rw [nums_size, nums_size, Hf.cods_length, Hf.zero257_length]) (nums_one _ _) ?_
  intro w6 ha6 hu6
  have HS : Hid (Ar w6 b0 116 (nums .i64 Hf.lens) ∧ Ar w6 b1 120 (nums .u64 Hf.cods) ∧ Below w.heap.size w w6) := hid' (by
    have l0 := HA.out.lt
    have s4 := hl4.size
    have s3 := HB.out.1.size
    have h45 := below_two hl4 hl5
    exact ⟨hu6.keep (HA.out.keep h45) (by omega), ha6, (below_from HB.out.1 h45 s3).trans (hu6.below (by omega))⟩)
  clear HA HB hl4 hb1 ha5 hl5 ha6 hu6
  go_wp2_with (refine wpl_alloc 59 rfl rfl _ zeroBld ?_)
  intro b2 w7 hb2 ha7 hl7
  have HS7 : Hid (Ar w7 b0 116 (nums .i64 Hf.lens) ∧ Ar w7 b1 120 (nums .u64 Hf.cods) ∧ Bld w7 w6.heap.size b2 [] ∧ Below w.heap.size w w7 ∧ w.heap.size ≤ w6.heap.size ∧ b0 < w6.heap.size ∧ b1 < w6.heap.size ∧ w6.heap.size ≤ w7.heap.size) := hid' (by
    obtain ⟨h0, h1, h2⟩ := HS.out
    exact ⟨h0.keep hl7, h1.keep hl7, bld_new w6 b2 w7 hb2 ha7, below_from h2 hl7 h2.size, h2.size, h0.lt, h1.lt, hl7.size⟩)
  clear HS hb2 ha7 hl7
  go_wp2
  obtain ⟨B, hB⟩ : ∃ B, w6.heap.size = B := ⟨_, rfl⟩
  rw [hB] at HS7
  clear hB
  go_loopw [15, 6, 7] (fun i hd wt wr => ∃ k h r : Nat, k ≤ s.size ∧ i = .int .i64 k ∧ hd = .int .u64 (h : Int) ∧ wt = .int .i64 (r : Int) ∧ r < 8 ∧ Hid (h = Hf.val (Hf.bits (s.data.toList.take k)) % 2 ^ 64) ∧ Hid (∃ m, 8 * m + r = Hf.nbits (s.data.toList.take k) ∧ Ar wr b0 116 (nums .i64 Hf.lens) ∧ Ar wr b1 120 (nums .u64 Hf.cods) ∧ Bld wr B b2 (Hf.pk ((Hf.bits (s.data.toList.take k)).take (8 * m))) ∧ Below w.heap.size w wr ∧ w.heap.size ≤ B ∧ b0 < B ∧ b1 < B ∧ B ≤ wr.heap.size)) (fun i _ _ _ => s.size - (intOf i).toNat)
  case atStart => exact ⟨0, 0, 0, Nat.zero_le _, rfl, rfl, rfl, by omega, hid' rfl, hid' ⟨0, rfl, HS7.out⟩⟩
  case round =>
    obtain ⟨k, h, r, hk, rfl, rfl, rfl, hr8, HH, HS⟩ := hrel
    by_cases hlt : k < s.size
    · have hl : k < s.data.toList.length := by rw [← Lib.size_eq]; exact hlt
      obtain ⟨x, hx⟩ : ∃ x : UInt8, s[k] = x := ⟨_, rfl⟩
      have hxl : s.data.toList[k] = x := hx
      have x256 := UInt8.toNat_lt x
      have h257 : (x.toNat : Int) < 257 := by omega
      obtain ⟨hv, v0, v1⟩ := Hf.len_at x.toNat (by omega)
      obtain ⟨hcv, cv⟩ := Hf.cod_at x.toNat (by omega)
      have hc0 : wr.cell? ⟨b0, x.toNat, none⟩ = some (.int .i64 (Hf.lenN x.toNat : Int)) := by obtain ⟨m, _, h0, _⟩ := HS.out; exact h0.val _ _ hv
      have hc1 : wr.cell? ⟨b1, x.toNat, none⟩ = some (.int .u64 (Hf.codN x.toNat : Int)) := by obtain ⟨m, _, _, h1, _⟩ := HS.out; exact h1.val _ _ hcv
      obtain ⟨q, hq⟩ : ∃ q, Hf.lenN x.toNat = q := ⟨_, rfl⟩
      obtain ⟨c, hc⟩ : ∃ c, Hf.codN x.toNat = c := ⟨_, rfl⟩
      rw [hq] at hc0 v0 v1
      rw [hc] at hc1
      have hw : Hf.bits (s.data.toList.take (k + 1)) = Hf.bits (s.data.toList.take k) ++ Hf.word x.toNat := by rw [Hf.take_snoc _ k hl, hxl, Hf.bits_append]; simp [Hf.bits]
      obtain ⟨h', hh'⟩ : ∃ h', (h * 2 ^ q + c) % 2 ^ 64 = h' := ⟨_, rfl⟩
      have hor : Go.bits .or .u64 (IntKind.u64.wrap ((h : Int) * 2 ^ q)) (c : Int) = (h' : Int) := by rw [← hh']; exact Hf.or_shift h c q v1 (by rw [← hc, ← hq]; exact cv)
      have HH' : Hid (h' = Hf.val (Hf.bits (s.data.toList.take (k + 1))) % 2 ^ 64) := hid' (by
        rw [hw, Hf.val_append, Hf.word_length, Hf.val_word _ (by omega), hq, hc, ← hh', HH.out, Hf.held_step])
      obtain ⟨r1, hr1⟩ : ∃ r1 : Nat, (r : Int) + (q : Int) = (r1 : Int) := ⟨r + q, by omega⟩
      have HS1 : Hid (∃ m, 8 * m + r1 = Hf.nbits (s.data.toList.take (k + 1)) ∧ Ar wr.drew b0 116 (nums .i64 Hf.lens) ∧ Ar wr.drew b1 120 (nums .u64 Hf.cods) ∧ Bld wr.drew B b2 (Hf.pk ((Hf.bits (s.data.toList.take (k + 1))).take (8 * m))) ∧ Below w.heap.size w wr.drew ∧ w.heap.size ≤ B ∧ b0 < B ∧ b1 < B ∧ B ≤ wr.drew.heap.size) := hid' (by
        obtain ⟨m, hm, h0, h1, h2, h3, h4, h5, h6, h7⟩ := HS.out
        have hn : Hf.nbits (s.data.toList.take (k + 1)) = Hf.nbits (s.data.toList.take k) + q := by rw [Hf.take_snoc _ k hl, hxl, Hf.nbits_append, Hf.nbits_one, hq]
        refine ⟨m, by omega, h0.drew, h1.drew, ?_, h3.drew, h4, h5, h6, h7⟩
        rw [hw, List.take_append_of_le_length (by rw [Hf.bits_length]; omega)]
        exact bld_drew h2)
      have hr37 : r1 ≤ 37 := by omega
      clear hv hcv cv hq hc hxl hw hh' HH HS
      go_wp2
      go_region
      go_wp2
      go_loopw [7] (fun wt wr => ∃ r : Nat, wt = .int .i64 (r : Int) ∧ r ≤ 37 ∧ Hid (∃ m, 8 * m + r = Hf.nbits (s.data.toList.take (k + 1)) ∧ Ar wr b0 116 (nums .i64 Hf.lens) ∧ Ar wr b1 120 (nums .u64 Hf.cods) ∧ Bld wr B b2 (Hf.pk ((Hf.bits (s.data.toList.take (k + 1))).take (8 * m))) ∧ Below w.heap.size w wr ∧ w.heap.size ≤ B ∧ b0 < B ∧ b1 < B ∧ B ≤ wr.heap.size)) (fun wt _ => (intOf wt).toNat)
      case atStart => exact ⟨r1, rfl, hr37, HS1⟩
      case round =>
        clear HS1 hr1 hor hr37 hc0 hc1
        obtain ⟨r, rfl, hr37, HS⟩ := hrel
        by_cases hr : 8 ≤ r
        · obtain ⟨r2, hr2⟩ : ∃ r2 : Nat, (r : Int) - 8 = (r2 : Int) := ⟨r - 8, by omega⟩
          have hr3 : r2 + 8 ≤ 37 := by omega
          have hr4 : (8 : Int) ≤ r := by omega
          have hBw : B ≤ wr.heap.size := by obtain ⟨m, hm, h0, h1, h2, h3, h4, h5, h6, h7⟩ := HS.out; exact h7
          obtain ⟨m, HM⟩ : ∃ m, Hid (8 * m + r = Hf.nbits (s.data.toList.take (k + 1)) ∧ Ar wr b0 116 (nums .i64 Hf.lens) ∧ Ar wr b1 120 (nums .u64 Hf.cods) ∧ Bld wr B b2 (Hf.pk ((Hf.bits (s.data.toList.take (k + 1))).take (8 * m))) ∧ Below w.heap.size w wr ∧ w.heap.size ≤ B ∧ b0 < B ∧ b1 < B) := by
            obtain ⟨m, hm, h0, h1, h2, h3, h4, h5, h6, h7⟩ := HS.out
            exact ⟨m, hid' ⟨hm, h0, h1, h2, h3, h4, h5, h6⟩⟩
          have HL : Hid ((Hf.pk ((Hf.bits (s.data.toList.take (k + 1))).take (8 * m))).length + 1 ≤ 140737488355328) := hid' (by
            have e1 := HM.out.1
            have e2 := (Hf.nbits_le (s.data.toList.take (k + 1))).2
            have e3 : (s.data.toList.take (k + 1)).length ≤ s.size := by rw [List.length_take, ← Lib.size_eq]; omega
            rw [Hf.pk_length m _ (by rw [List.length_take, Hf.bits_length]; omega)]
            omega)
          clear HS
          go_wp2_with fail
          refine (writeByte_any B b2 _ (UInt8.ofNat (h' / 2 ^ r2 % 256)) _ (by rw [UInt8.toNat_ofNat', Nat.mod_eq_of_lt (by omega)]; norm_cast) _ HM.out.2.2.2.1 HL.out hBw).mono ?_
          rintro e w8 ⟨rfl, hbl, hbe⟩
          have HS8 : Hid (∃ m, 8 * m + r2 = Hf.nbits (s.data.toList.take (k + 1)) ∧ Ar w8 b0 116 (nums .i64 Hf.lens) ∧ Ar w8 b1 120 (nums .u64 Hf.cods) ∧ Bld w8 B b2 (Hf.pk ((Hf.bits (s.data.toList.take (k + 1))).take (8 * m))) ∧ Below w.heap.size w w8 ∧ w.heap.size ≤ B ∧ b0 < B ∧ b1 < B ∧ B ≤ w8.heap.size) := hid' (by
            obtain ⟨hm, h0, h1, h2, h3, h4, h5, h6⟩ := HM.out
            refine ⟨m + 1, by omega, h0.below hbe h5, h1.below hbe h6, ?_, h3.trans (hbe.mono h4), h4, h5, h6, Nat.le_trans hBw hbe.size⟩
            rw [Hf.pk_more _ m r (by rw [Hf.bits_length]; exact hm) hr, show r - 8 = r2 by omega]
            rw [HH'.out, Hf.mod_div_mod _ _ (by omega)] at hbl
            exact hbl)
          clear hbl hbe HM HL hBw
          go_wp2
          go_roundw
          case rel => exact ⟨r2, rfl, by omega, HS8⟩
          case measure => simp [intOf]; omega
        · have hr4 : (r : Int) < 8 := by omega
          go_wp2
          go_roundw
          case rel => exact ⟨k + 1, h', r, by omega, by go_num, rfl, rfl, by omega, HH', HS⟩
          case measure => simp [intOf]; omega
    · have hk' : k = s.size := by omega
      have ht : s.data.toList.take k = s.data.toList := by rw [hk']; exact List.take_of_length_le (by rw [← Lib.size_eq]; exact Nat.le_refl _)
      rw [ht] at HS HH
      obtain ⟨m, HM⟩ : ∃ m, Hid (8 * m + r = (Hf.bits s.data.toList).length ∧ Bld wr B b2 (Hf.pk ((Hf.bits s.data.toList).take (8 * m))) ∧ Below w.heap.size w wr ∧ w.heap.size ≤ B) := by
        obtain ⟨m, hm, h0, h1, h2, h3, h4, h5, h6, h7⟩ := HS.out
        exact ⟨m, hid' ⟨by rw [Hf.bits_length]; exact hm, h2, h3, h4⟩⟩
      have hBw : B ≤ wr.heap.size := by obtain ⟨m, hm, h0, h1, h2, h3, h4, h5, h6, h7⟩ := HS.out; exact h7
      clear HS ht
      by_cases hr0 : r = 0
      · subst hr0
        go_wp2_with fail
        refine (Tryz.Builder_String_any B b2 _ _ HM.out.2.1 hBw).mono ?_
        rintro e w8 ⟨rfl, hbe⟩
        have HB8 := hid' (HM.out.2.2.1.trans (hbe.mono HM.out.2.2.2))
        clear hbe
        go_wp2
        go_ret
        refine ⟨ret_str ?_, HB8.out⟩
        congr 2
        have hm := HM.out.1
        rw [Hf.enc, Hf.pad, show (8 - (Hf.bits s.data.toList).length % 8) % 8 = 0 by omega, Hf.ones, List.replicate_zero, List.append_nil, List.take_of_length_le (by omega)]
      · obtain ⟨r1, hr1⟩ : ∃ r1 : Nat, (8 : Int) - (r : Int) = (r1 : Int) := ⟨8 - r, by omega⟩
        have hr2 : r1 < 8 := by omega
        have hr3 : (0 : Int) < r := by omega
        obtain ⟨o, ho⟩ : ∃ o, 2 ^ r1 - 1 = o := ⟨_, rfl⟩
        have hp1 := Nat.two_pow_pos r1
        obtain ⟨h', hh'⟩ : ∃ h', (h * 2 ^ r1 + o) % 2 ^ 64 = h' := ⟨_, rfl⟩
        have hor : Go.bits .or .u64 (IntKind.u64.wrap ((h : Int) * 2 ^ r1)) (o : Int) = (h' : Int) := by rw [← hh']; exact Hf.or_shift h o r1 (by omega) (by omega)
        have HO := hid' ho
        have HE : Hid (Hf.enc s.data.toList = Hf.pk ((Hf.bits s.data.toList).take (8 * m)) ++ [UInt8.ofNat (h' % 256)]) := hid' (by
          have hm := HM.out.1
          rw [Hf.enc, Hf.pad, show (8 - (Hf.bits s.data.toList).length % 8) % 8 = r1 by omega, Hf.pk_last _ m r r1 h hm (by omega) HH.out, ho, hh'])
        have HL : Hid ((Hf.pk ((Hf.bits s.data.toList).take (8 * m))).length + 1 ≤ 140737488355328) := hid' (by
          have e1 := HM.out.1
          have e2 := (Hf.nbits_le s.data.toList).2
          rw [← Lib.size_eq] at e2
          rw [Hf.bits_length] at e1
          rw [Hf.pk_length m _ (by rw [List.length_take, Hf.bits_length]; omega)]
          omega)
        have hr64 : r1 < 64 := by omega
        clear hh' ho hp1
        go_wp2
        go_region_with (first
          | (go_at_call 82; refine (ones_is r1 o hr64 HO.out _).mono ?_; rintro e w' ⟨rfl, rfl⟩)
          | (go_at_call 81; refine (writeByte_any B b2 _ (UInt8.ofNat (h' % 256)) _ (by rw [UInt8.toNat_ofNat', Nat.mod_eq_of_lt (by omega)]; norm_cast) _ (bld_drew HM.out.2.1) HL.out hBw).mono ?_; rintro e w8 ⟨rfl, hbl, hbe⟩))
        all_goals
          have HB8 : Hid (Bld w8 B b2 (Hf.enc s.data.toList) ∧ Below w.heap.size w w8 ∧ B ≤ w8.heap.size) := hid' ⟨by rw [HE.out]; exact hbl, HM.out.2.2.1.drew.trans (hbe.mono HM.out.2.2.2), Nat.le_trans hBw hbe.size⟩
          clear hbl hbe
          go_wp2_with fail
          refine (Tryz.Builder_String_any B b2 _ _ HB8.out.1 HB8.out.2.2).mono ?_
          rintro e w9 ⟨rfl, hbe⟩
          have HB9 := hid' (HB8.out.2.1.trans (hbe.mono HM.out.2.2.2))
          clear hbe
          go_wp2
          go_ret
          exact ⟨rfl, HB9.out⟩

end Go.Proofs.YtmkkhfkfjmfdcaaGreat
