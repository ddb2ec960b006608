/-
  ostlerref03.Decode, by its contract.
-/
import Derived.Test.YthldbhpkkcoafaaHuffVD
namespace Go.Proofs.Ythldbhpkkcoafaa
namespace Hf
theorem sta_more : (List.range 30).all (fun n => decide (sta n ≤ sta (n + 1))) = true := by decide +kernel
theorem sta_next (n : Nat) (h : n < 30) : sta n ≤ sta (n + 1) := of_decide_eq_true (List.all_eq_true.1 sta_more n (List.mem_range.2 h))
theorem sta_zero : sta 0 = 0 := by decide +kernel
theorem bitsN_at (n v r : Nat) (h : r < n) : (bitsN n v)[r]? = some (v / 2 ^ (n - 1 - r) % 2 == 1) := by
  induction n generalizing r with
  | zero => omega
  | succ n ih =>
    cases r with
    | zero => simp [bitsN]
    | succ r =>
      rw [bitsN, List.getElem?_cons_succ, ih r (by omega), show n + 1 - 1 - (r + 1) = n - 1 - r by omega]
theorem unp_at (l : List UInt8) : ∀ (k r : Nat) (x : UInt8), r < 8 → l[k]? = some x → (unp l)[8 * k + r]? = some (x.toNat / 2 ^ (7 - r) % 2 == 1) := by
  induction l with
  | nil => intro k r x _ h; simp at h
  | cons c l ih =>
    intro k r x hr h
    have e : unp (c :: l) = bitsN 8 c.toNat ++ unp l := by simp [unp]
    rw [e]
    cases k with
    | zero =>
      simp at h
      subst h
      rw [List.getElem?_append_left (by rw [bitsN_length]; omega), Nat.mul_zero, Nat.zero_add, bitsN_at 8 _ r hr]
    | succ k =>
      rw [List.getElem?_append_right (by rw [bitsN_length]; omega), bitsN_length, show 8 * (k + 1) + r - 8 = 8 * k + r by omega]
      exact ih k r x hr (by simpa using h)
theorem ones_next (c n z : Nat) (_hc : c < 2 ^ n) (hz : z ≤ 1) : (2 * c + z = 2 ^ (n + 1) - 1) ↔ (c = 2 ^ n - 1 ∧ z = 1) := by
  have hp : 2 ^ (n + 1) = 2 * 2 ^ n := by rw [Nat.pow_succ]; omega
  have := Nat.two_pow_pos n
  omega
end Hf
open Go.RowKit

set_option maxHeartbeats 4000000 in
set_option maxRecDepth 100000 in
theorem rdecode_any (s : ByteArray) (hs : s.size ≤ 2147483648) (most : Int) (M : Nat) (hM : max most 0 = (M : Int)) (w : World) : Calls Try.prog 28 #[.string s, .int .i64 most] w fun e w' => e = .returned (Hf.resV (Hf.dec M (Hf.unp s.data.toList) 0 0 [])) ∧ Below w.heap.size w w' := by
  obtain ⟨i0, hi, hz0, hz1, hz2⟩ := info_parts infoByte
  have HI := hid' hi
  have HZ0 := hid' hz0
  have HZ1 := hid' hz1
  have HZ2 := hid' hz2
  clear hi hz0 hz1 hz2
  obtain ⟨R, hR⟩ : ∃ R, Hf.dec M (Hf.unp s.data.toList) 0 0 [] = R := ⟨_, rfl⟩
  rw [hR]
  have HR := hid' hR
  clear hR
  obtain ⟨U, hU⟩ : ∃ U, Hf.unp s.data.toList = U := ⟨_, rfl⟩
  have HU := hid' hU
  have HUL : Hid (U.length = 8 * s.size) := hid' (by rw [← hU, Hf.unp_length, Lib.size_eq])
  rw [hU] at HR
  clear hU
  go_enter Try.func28, Try.ntmps28
  go_wp2_with fail
  refine (rcodes_any _).mono ?_
  rintro e w1 ⟨v0, v1, v2, rfl, ho0, ho1, ho2, hl1⟩
  go_wp2_with (refine wpl_alloc 67 rfl rfl _ zeroCode ?_)
  intro b w2 hb ha2 hl2
  refine wpl_store 67 _ _ rfl rfl b #[v0, v1, v2] (by kernel_rfl) (by kernel_rfl) _ _ ha2 (by exact sizeCode) rfl (by obtain ⟨_, _, rfl⟩ := ho0.shape; obtain ⟨_, _, rfl⟩ := ho1.shape; obtain ⟨_, _, rfl⟩ := ho2.shape; simp [Value.oneCell']) ?_
  intro w3 ha3 hu3
  obtain ⟨g0, g1, g2, c0, c1, c2, rfl, rfl, rfl, hkept⟩ := kept_start ho0 ho1 ho2 hl1 hb hl2 ha3 hu3
  obtain ⟨Bo, hBo⟩ : ∃ Bo, w3.heap.size = Bo := ⟨_, rfl⟩
  rw [hBo] at hkept
  have HK := hid' hkept
  clear ho0 ho1 ho2 hl1 hb ha2 hl2 ha3 hu3 hkept hBo
  go_wp2
  go_loopw [12, 7, 8, 9, 10, 11] (fun s12 ov s8 s9 s10 s11 wr => ∃ (i c n a : Nat) (on : Bool), s12 = .int .i64 (i : Int) ∧ s8 = .int .i64 (c : Int) ∧ s9 = .int .i64 (n : Int) ∧ s10 = .bool on ∧ s11 = .int .i64 (a : Int) ∧ i ≤ 8 * s.size ∧ Hid (a = Hf.sta n ∧ on = decide (c = 2 ^ n - 1) ∧ Hf.Good c n) ∧ Hid (∃ out, Hf.dec M (U.drop i) c n out = R ∧ 5 * out.length + n ≤ i ∧ out.length ≤ M ∧ wr.ownsRow Bo 5 1 ov out.length (Lib.byteCells out)) ∧ Hid (Kept w wr Bo b g0 g1 g2 c0 c1 c2)) (fun s12 _ _ _ _ _ _ => 8 * s.size - (intOf s12).toNat)
  case atStart => exact ⟨0, 0, 0, 0, true, rfl, rfl, rfl, rfl, rfl, Nat.zero_le _, hid' ⟨Hf.sta_zero.symm, by simp, Hf.good_zero⟩, hid' ⟨[], HR.out, by simp, Nat.zero_le _, World.ownsRow_nil _ _ _ _⟩, HK⟩
  case round =>
    clear HK
    obtain ⟨i, c, n, a, on, rfl, rfl, rfl, rfl, rfl, hi8, HA, HO, HK⟩ := hrel
    by_cases hlt : i < 8 * s.size
    · obtain ⟨k, r, hkr, hr8⟩ : ∃ k r : Nat, i = 8 * k + r ∧ r < 8 := ⟨i / 8, i % 8, by omega, by omega⟩
      have hks : k < s.size := by omega
      have hl : k < s.data.toList.length := by rw [← Lib.size_eq]; exact hks
      obtain ⟨x, hx⟩ : ∃ x : UInt8, s[k] = x := ⟨_, rfl⟩
      have hxl : s.data.toList[k]? = some x := by rw [List.getElem?_eq_getElem hl]; exact congrArg some hx
      have x256 := UInt8.toNat_lt x
      have e1 : (i : Int) / 8 = (k : Int) := by omega
      have e2 : (i : Int).tdiv 8 = (k : Int) := by rw [Int.tdiv_eq_ediv_of_nonneg (by omega)]; omega
      have e3 : (i : Int) % 8 = (r : Int) := by omega
      have e4 : (i : Int).tmod 8 = (r : Int) := by rw [Int.tmod_eq_emod_of_nonneg (by omega)]; omega
      obtain ⟨d, hd⟩ : ∃ d : Nat, (7 : Int) - (r : Int) = (d : Int) := ⟨7 - r, by omega⟩
      obtain ⟨z, hz⟩ : ∃ z, x.toNat / 2 ^ d % 2 = z := ⟨_, rfl⟩
      have hz1' : z ≤ 1 := by omega
      have hgood := HA.out.2.2
      have hn29 : n ≤ 29 := hgood.1
      have hc30 : c < 536870912 := by
        have : 2 ^ n ≤ 2 ^ 29 := Nat.pow_le_pow_right (by omega) hn29
        have := hgood.2.1
        omega
      obtain ⟨cc, hcc⟩ : ∃ cc, 2 * c + z = cc := ⟨_, rfl⟩
      obtain ⟨n1, hn1⟩ : ∃ n1 : Nat, (n : Int) + 1 = (n1 : Int) := ⟨n + 1, by omega⟩
      have hn1' : n1 = n + 1 := by omega
      have hlt2 : (i : Int) < 8 * (s.size : Int) := by omega
      have HD : Hid (U.drop i = (x.toNat / 2 ^ d % 2 == 1) :: U.drop (i + 1)) := hid' (by
        have h1 := Hf.unp_at s.data.toList k r x hr8 hxl
        rw [HU.out, ← hkr, show 7 - r = d by omega] at h1
        obtain ⟨h2, h3⟩ := List.getElem?_eq_some_iff.1 h1
        rw [List.drop_eq_getElem_cons h2, h3])
      obtain ⟨on1, hon1⟩ : ∃ on1 : Bool, (z == 1) = on1 := ⟨_, rfl⟩
      have t1 : ((z : Int) == 1) = on1 := by rw [← hon1, Bool.eq_iff_iff]; simp; omega
      have HON : Hid ((on && on1) = decide (cc = 2 ^ n1 - 1)) := hid' (by
        rw [HA.out.2.1, ← hon1, ← hcc, hn1', Bool.eq_iff_iff]
        simp only [Bool.and_eq_true, decide_eq_true_eq, beq_iff_eq]
        exact (Hf.ones_next c n z hgood.2.1 hz1').symm)
      obtain ⟨out, n0, xs, HE, HL5, HLM, HN0, HXS, HOW⟩ : ∃ out n0 xs, Hid (Hf.dec M (U.drop i) c n out = R) ∧ Hid (5 * out.length + n ≤ i) ∧ Hid (out.length ≤ M) ∧ Hid (out.length = n0) ∧ Hid (Lib.byteCells out = xs) ∧ Hid (wr.ownsRow Bo 5 1 u7 n0 xs) := by
        obtain ⟨out, h1, h2, h3, h4⟩ := HO.out
        exact ⟨out, _, _, hid' h1, hid' h2, hid' h3, hid' rfl, hid' rfl, hid' h4⟩
      obtain ⟨ao, cap, hu7⟩ := owns_shape HOW.out
      subst hu7
      have HD2 : Hid (R = match Hf.sym cc n1 with
          | none => Hf.dec M (U.drop (i + 1)) cc n1 out
          | some x' => if x' = 256 then .fin else if out.length = M then .long else Hf.dec M (U.drop (i + 1)) 0 0 (out ++ [UInt8.ofNat x'])) := hid' (by
        rw [← HE.out, HD.out, Hf.dec, Hf.beq_bit _ (by omega), hz, hcc, ← hn1']
        cases Hf.sym cc n1 <;> rfl)
      have hnn1 : n1 < 31 := by omega
      obtain ⟨st1, st2, st3, st4, st5⟩ := Hf.sta_at n1 hnn1
      have hsta : a ≤ Hf.sta n1 := by rw [HA.out.1, hn1']; exact Hf.sta_next n (by omega)
      obtain ⟨sn, hsn⟩ : ∃ sn, Hf.sta n1 = sn := ⟨_, rfl⟩
      obtain ⟨cn, hcn⟩ : ∃ cn, Hf.cntN n1 = cn := ⟨_, rfl⟩
      rw [hsn] at st1 st2 st3 st4 st5 hsta
      rw [hcn] at st4 st5
      have HG1 : Hid (Hf.sym cc n1 = none → Hf.Good cc n1) := hid' (fun h => by rw [← hcc, hn1'] at h ⊢; exact Hf.good_next c n z hgood hz1' h)
      have hcc30 : cc < 1073741824 := by omega
      have HST5 := hid' st5
      have HSN := hid' hsn
      have HCN := hid' hcn
      have HZ := hid' hz
      have HN1 := hid' hn1'
      have HCC : (2 : Int) * (c : Int) + (z : Int) = (cc : Int) := by omega
      have q0 := HK.out.at3.cell 0 _ rfl
      have q1 := HK.out.at3.cell 1 _ rfl
      have q2 := HK.out.at3.cell 2 _ rfl
      clear hkr hxl hz hgood hcc hn1' hon1 HE HD HO hsn hcn st5 st3 st2 HA
      have hzz : (z : Int) ≤ 1 := by omega
      go_wp2
      go_loopw [13, 14] (fun s13 s14 wx => ∃ y m : Nat, s13 = .int .i64 (y : Int) ∧ s14 = .int .i64 (m : Int) ∧ m ≤ d ∧ Hid (y = x.toNat / 2 ^ m) ∧ wr = wx) (fun _ s14 _ => d - (intOf s14).toNat)
      case atStart => exact ⟨x.toNat, 0, rfl, rfl, Nat.zero_le _, hid' (by simp), rfl⟩
      case round =>
        obtain ⟨y, m, rfl, rfl, hmd, HY, rfl⟩ := hrel
        have hyx : y ≤ x.toNat := by rw [HY.out]; exact Nat.div_le_self _ _
        by_cases hmd2 : m < d
        · have hmd3 : (m : Int) < (d : Int) := by omega
          obtain ⟨y2, hy2⟩ : ∃ y2, y / 2 = y2 := ⟨_, rfl⟩
          have hyt : (y : Int).tdiv 2 = (y2 : Int) := by rw [Int.tdiv_eq_ediv_of_nonneg (by omega)]; omega
          have hye : (y : Int) / 2 = (y2 : Int) := by omega
          have HY2 := hid' hy2
          clear hy2
          go_wp2
          go_roundw
          case rel => exact ⟨y2, m + 1, rfl, by go_num, by omega, hid' (by rw [← HY2.out, HY.out, Nat.div_div_eq_div_mul, Nat.pow_succ]), by first | rfl | trivial⟩
          case measure => simp [intOf]; omega
        · have hmd3 : (d : Int) ≤ (m : Int) := by omega
          obtain rfl : m = d := by omega
          have hyz : y % 2 = z := by rw [HY.out]; exact HZ.out
          have hye : (y : Int) % 2 = (z : Int) := by omega
          have hyt : (y : Int).tmod 2 = (z : Int) := by rw [Int.tmod_eq_emod_of_nonneg (by omega)]; omega
          clear hyz
          cases on
          all_goals
            go_wp2
            go_loopw [11] (fun s11 wx => ∃ a : Nat, s11 = .int .i64 (a : Int) ∧ a ≤ sn ∧ wr = wx) (fun s11 _ => 257 - (intOf s11).toNat)
            case atStart => exact ⟨a, rfl, hsta, rfl⟩
            case round =>
              obtain ⟨a, rfl, hsta, rfl⟩ := hrel
              have ha257 : (a : Int) < 257 := by omega
              obtain ⟨_, _, oa3, _⟩ := Hf.o_at a (by omega)
              have hq1 := HK.out.o1.val a _ oa3
              have hcmp : (Hf.oL a < n1 ↔ a < sn) := by
                rw [← HSN.out]
                constructor
                · intro h
                  rcases Nat.lt_or_ge a (Hf.sta n1) with h' | h'
                  · exact h'
                  · have h1 := (Hf.sta_at n1 hnn1).2.1
                    have : a = Hf.sta n1 := by have := HSN.out; omega
                    rw [this] at h; omega
                · exact fun h => Hf.oL_ahead n1 a hnn1 h
              obtain ⟨la, hla⟩ : ∃ la, Hf.oL a = la := ⟨_, rfl⟩
              rw [hla] at hq1 hcmp
              clear oa3 hla
              by_cases hasn : a < sn
              · have hla2 : (la : Int) < (n1 : Int) := by have := hcmp.2 hasn; omega
                clear hcmp
                go_wp2
                go_roundw
                case rel => exact ⟨a + 1, by go_num, by omega, by first | rfl | trivial⟩
                case measure => simp [intOf]; omega
              · have hla3 : ¬ la < n1 := mt hcmp.1 hasn
                have hla2 : decide (la < n1) = false := by simp; omega
                obtain rfl : sn = a := by omega
                clear hcmp
                go_wp2
                go_loopw [15, 7, 8, 9, 10, 11] (fun s15 s7 s8 s9 s10 s11 wx => ∃ (kk j : Nat) (ob : Bool), s15 = .int .i64 (kk : Int) ∧ s7 = .slice ao n0 cap ∧ s8 = .int .i64 (cc : Int) ∧ s9 = .int .i64 (n1 : Int) ∧ s10 = .bool ob ∧ s11 = .int .i64 (sn : Int) ∧ Hid (kk = sn + j ∧ j ≤ cn ∧ ob = decide (cc = 2 ^ n1 - 1) ∧ ∀ j', j' < j → Hf.fstN n1 + j' ≠ cc) ∧ wr = wx) (fun s15 _ _ _ _ _ _ => 257 - (intOf s15).toNat)
                case atStart => exact ⟨sn, 0, _, rfl, rfl, rfl, rfl, rfl, rfl, hid' ⟨rfl, Nat.zero_le _, by have := HON.out; simpa using this, fun j' h => by omega⟩, rfl⟩
                case round =>
                  obtain ⟨kk, j, ob, rfl, rfl, rfl, rfl, rfl, rfl, HJ, rfl⟩ := hrel
                  have hjc := HJ.out.2.1
                  have hkk := HJ.out.1
                  by_cases hj : j < cn
                  · have hk257 : (kk : Int) < 257 := by omega
                    obtain ⟨r1, r2⟩ := Hf.run_at n1 j hnn1 (by rw [HCN.out]; exact hj)
                    obtain ⟨_, _, o3, o4⟩ := Hf.o_at kk (by omega)
                    rw [HSN.out, ← hkk] at r1 r2
                    rw [r1] at o3
                    rw [r2] at o4
                    obtain ⟨sy, hsy0⟩ : ∃ sy, Hf.ordsL[kk]? = some sy := ⟨_, List.getElem?_eq_getElem (by rw [Hf.ordsL_length]; omega)⟩
                    have hv1 := HK.out.o1.val kk _ o3
                    have hv2 := HK.out.o2.val kk _ o4
                    have hv0 := HK.out.o0.val kk _ hsy0
                    obtain ⟨fc, hfc⟩ : ∃ fc, Hf.fstN n1 + j = fc := ⟨_, rfl⟩
                    rw [hfc] at hv2
                    by_cases hm : fc = cc
                    · subst hm
                      cases hsy : Hf.sym fc n1 with
                      | none => exact absurd hfc (Hf.sym_none _ _ hnn1 hsy j (by rw [HCN.out]; exact hj))
                      | some x' =>
                        obtain ⟨j0, a1, a2, a3⟩ := Hf.sym_some _ _ _ hnn1 hsy
                        have hj0 : j0 = j := by omega
                        rw [hj0, HSN.out, ← hkk, hsy0] at a3
                        obtain rfl : sy = (x' : Int) := Option.some.inj a3
                        have hx7 := Hf.sym_lt _ _ _ hnn1 hsy
                        have h5 := Hf.sym_five _ _ _ hsy
                        have HD3 := HD2
                        rw [hsy] at HD3
                        have HHK := hid' hkk
                        clear hfc hsy a1 a2 a3 hsy0 o3 o4 r1 r2 HD2 hkk
                        by_cases h256 : x' = 256
                        · subst h256
                          go_wp2
                          go_ret2
                          refine ⟨?_, HK.out.be⟩
                          rw [show R = Hf.Res.fin from HD3.out]; rfl
                        · have hx6 : ((x' : Int) == 256) = false := by simp; omega
                          have hx8 : (x' : Int) < 256 := by omega
                          have hnl := HN0.out
                          by_cases hmo : n0 = M
                          · have hmo2 : (M : Int) ≤ (n0 : Int) := by omega
                            have hmo3 : M ≤ n0 := by omega
                            go_wp2
                            go_ret2
                            refine ⟨?_, HK.out.be⟩
                            have : R = Hf.Res.long := by rw [HD3.out]; simp only [if_neg h256, if_pos (show out.length = M by omega)]
                            rw [this]; rfl
                          · have hmo2 : (n0 : Int) < (M : Int) := by have := HLM.out; omega
                            have hmo3 : ¬ M ≤ n0 := by have := HLM.out; omega
                            have hn0b : n0 ≤ 4294967296 := by have := HL5.out; omega
                            clear hnl
                            go_wp2_with (at_builtin; refine wpList_append_own _ rfl _ _ 41 rfl Bo 5 i0 (.int .u8 0) 1 1 Try.underlying41 HI.out HZ0.out HZ1.out HZ2.out rfl (by decide) _ _ _ rfl (World.ownsRow.alloc HOW.out _) ⟨wr.heap.size, 0, none⟩ 1 1 [.int .u8 (x' : Int)] rfl rfl (one_new _ _ _) (fun u hu => by simp at hu; subst hu; rfl) ?a1 ?a2 ?a3 ?_)
                            case a1 => unfold maxLen; omega
                            case a2 => omega
                            case a3 => have := HK.out.sz; simp; omega
                            intro vx w5 hown hgrow _
                            have HK5 := hid' (HK.out.below (grown_below8 HOW.out (grown_alloc hgrow) HK.out.sz))
                            have HO5 : Hid (∃ out, Hf.dec M (U.drop (i + 1)) 0 0 out = R ∧ 5 * out.length + 0 ≤ i + 1 ∧ out.length ≤ M ∧ w5.ownsRow Bo 5 1 vx out.length (Lib.byteCells out)) := hid' (by
                              have hnl := HN0.out
                              refine ⟨out ++ [UInt8.ofNat x'], ?_, ?_, ?_, ?_⟩
                              · rw [HD3.out]; simp only [if_neg h256, if_neg (show ¬ out.length = M by omega)]
                              · have := HL5.out; have := HN1.out; simp; omega
                              · simp; omega
                              · have e : Lib.byteCells (out ++ [UInt8.ofNat x']) = xs ++ [.int .u8 (x' : Int)] := by
                                  rw [← HXS.out]
                                  simp only [Lib.byteCells, List.map_append, List.map_cons, List.map_nil, UInt8.toNat_ofNat']
                                  rw [Nat.mod_eq_of_lt (by omega)]
                                rw [e, List.length_append, hnl]; exact hown)
                            clear hown hgrow
                            go_wp2
                            go_roundw
                            case rel => exact ⟨i + 1, 0, 0, 0, true, by go_num, rfl, rfl, rfl, rfl, by omega, hid' ⟨Hf.sta_zero.symm, by simp, Hf.good_zero⟩, HO5, HK5⟩
                            case measure => simp [intOf]; omega
                    · have hm2 : ((fc : Int) == (cc : Int)) = false := by simp; omega
                      have hm3 : ((fc : Int) != (cc : Int)) = true := by simp; omega
                      have HJ2 : Hid (kk + 1 = sn + (j + 1) ∧ j + 1 ≤ cn ∧ ob = decide (cc = 2 ^ n1 - 1) ∧ ∀ j', j' < j + 1 → Hf.fstN n1 + j' ≠ cc) := hid' ⟨by omega, by omega, HJ.out.2.2.1, fun j' h => by
                        rcases Nat.lt_or_ge j' j with h' | h'
                        · exact HJ.out.2.2.2 j' h'
                        · rw [show j' = j by omega, hfc]; exact hm⟩
                      clear hfc o3 o4 r1 r2 hsy0 hkk
                      go_wp2
                      go_roundw
                      case rel => exact ⟨kk + 1, j + 1, ob, by go_num, rfl, rfl, rfl, rfl, rfl, HJ2, by first | rfl | trivial⟩
                      case measure => simp [intOf]; omega
                  · have hjn : j = cn := by omega
                    have hnone : Hf.sym cc n1 = none := by
                      cases hsy : Hf.sym cc n1 with
                      | none => rfl
                      | some x' =>
                        obtain ⟨j0, a1, a2, a3⟩ := Hf.sym_some _ _ _ hnn1 hsy
                        rw [HCN.out] at a1
                        exact absurd a2 (HJ.out.2.2.2 j0 (by omega))
                    have HD3 := HD2
                    rw [hnone] at HD3
                    have HGG := hid' (HG1.out hnone)
                    have HO5 : Hid (∃ out, Hf.dec M (U.drop (i + 1)) cc n1 out = R ∧ 5 * out.length + n1 ≤ i + 1 ∧ out.length ≤ M ∧ wr.ownsRow Bo 5 1 (.slice ao n0 cap) out.length (Lib.byteCells out)) := hid' ⟨out, HD3.out.symm, by have := HL5.out; have := HN1.out; omega, HLM.out, by rw [HXS.out, HN0.out]; exact HOW.out⟩
                    have HA5 : Hid (sn = Hf.sta n1 ∧ ob = decide (cc = 2 ^ n1 - 1) ∧ Hf.Good cc n1) := hid' ⟨HSN.out.symm, HJ.out.2.2.1, HGG.out⟩
                    rcases HST5.out with h57 | hne
                    · have hk257 : kk = 257 := by omega
                      subst hk257
                      clear hnone hkk h57
                      go_wp2
                      go_roundw
                      case rel => exact ⟨i + 1, cc, n1, sn, ob, by go_num, rfl, rfl, rfl, rfl, by omega, HA5, HO5, HK⟩
                      case measure => simp [intOf]; omega
                    · by_cases hk7 : kk = 257
                      · subst hk7
                        clear hnone hkk hne
                        go_wp2
                        go_roundw
                        case rel => exact ⟨i + 1, cc, n1, sn, ob, by go_num, rfl, rfl, rfl, rfl, by omega, HA5, HO5, HK⟩
                        case measure => simp [intOf]; omega
                      · have hk257 : (kk : Int) < 257 := by omega
                        obtain ⟨_, _, o3, _⟩ := Hf.o_at kk (by omega)
                        have hv1 := HK.out.o1.val kk _ o3
                        rw [← hjn, ← hkk] at hne
                        obtain ⟨lk, hlk⟩ : ∃ lk, Hf.oL kk = lk := ⟨_, rfl⟩
                        rw [hlk] at hv1 hne
                        have hne2 : ((lk : Int) == (n1 : Int)) = false := by simp; omega
                        clear hnone hkk o3 hlk
                        go_wp2
                        go_roundw
                        case rel => exact ⟨i + 1, cc, n1, sn, ob, by go_num, rfl, rfl, rfl, rfl, by omega, HA5, HO5, HK⟩
                        case measure => simp [intOf]; omega
    · have hie : i = 8 * s.size := by omega
      obtain ⟨out, n0, xs, HE, HN0, HXS, HOW⟩ : ∃ out n0 xs, Hid (R = if 7 < n ∨ c ≠ 2 ^ n - 1 then .pad else .ok out) ∧ Hid (out.length = n0) ∧ Hid (Lib.byteCells out = xs) ∧ Hid (wr.ownsRow Bo 5 1 u7 n0 xs) := by
        obtain ⟨out, h1, h2, h3, h4⟩ := HO.out
        refine ⟨out, _, _, hid' ?_, hid' rfl, hid' rfl, hid' h4⟩
        rw [← h1, hie, List.drop_of_length_le (by rw [HUL.out]; exact Nat.le_refl _)]
        rfl
      have hon := HA.out.2.1
      have hcv := own_str (l := out) (by rw [HXS.out]; exact HOW.out) HN0.out
      have hlt2 : ¬ (i : Int) < 8 * (s.size : Int) := by omega
      have HON := hid' hon
      clear hon HO HA
      by_cases hn7 : 7 < n
      · have hn72 : (7 : Int) < n := by omega
        go_wp2
        go_ret2
        refine ⟨?_, HK.out.be⟩
        rw [HE.out, if_pos (Or.inl hn7)]; rfl
      · have hn72 : decide (7 < n) = false := by simp; omega
        cases on with
        | true =>
          have hcn : c = 2 ^ n - 1 := by have := HON.out; simpa using this.symm
          have HE2 : Hid (R = .ok out) := hid' (by rw [HE.out, if_neg (by omega)])
          clear hcn
          go_wp2
          go_ret2
          refine ⟨?_, HK.out.be⟩
          rw [HE2.out]; rfl
        | false =>
          have hcn : c ≠ 2 ^ n - 1 := by have := HON.out; simpa using this.symm
          have HE2 : Hid (R = .pad) := hid' (by rw [HE.out, if_pos (Or.inr hcn)])
          clear hcn
          go_wp2
          go_ret2
          refine ⟨?_, HK.out.be⟩
          rw [HE2.out]; rfl

end Go.Proofs.Ythldbhpkkcoafaa
