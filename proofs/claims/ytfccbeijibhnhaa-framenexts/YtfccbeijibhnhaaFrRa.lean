/-
  ostlerref07.number, id, Next: by their contracts.
-/
import Derived.Test.YtfccbeijibhnhaaFrK
namespace Go.Proofs.Ytfccbeijibhnhaa
open Go.RowKit

set_option maxHeartbeats 1000000 in
set_option maxRecDepth 20000 in
theorem rnumber_any (l : List UInt8) (h : l.length ≤ 4) (w : World) : Calls Try.prog 22 #[.string ⟨l.toArray⟩] w fun e w' => e = .returned (.int .i64 (Fm.num l : Int)) ∧ w' = w := by
  go_enter Try.func22, Try.ntmps22
  go_wp2
  go_loop [3, 4] (fun s3 s4 => ∃ (n : Int) (i : Nat), s4 = .int .i64 (i : Int) ∧ s3 = .int .i64 n ∧ i ≤ l.length ∧ Hid ((Fm.num (l.take i) : Int) = n)) (fun _ s4 => l.length - (intOf s4).toNat)
  case atStart => exact ⟨0, 0, rfl, rfl, Nat.zero_le _, hid' rfl⟩
  case round =>
    obtain ⟨n, i, rfl, rfl, hi, HN⟩ := hrel
    by_cases hlt : i < l.length
    · have hlt2 : (i : Int) < (l.length : Int) := by omega
      have hltb : i < (⟨l.toArray⟩ : ByteArray).size := hlt
      obtain ⟨c, hc⟩ : ∃ c, (⟨l.toArray⟩ : ByteArray)[i] = c := ⟨_, rfl⟩
      have hcl : l[i] = c := hc
      have c256 := UInt8.toNat_lt c
      have hn0 : 0 ≤ n := by rw [← HN.out]; omega
      have hn1 : n ≤ 4294967295 := by
        have := Fm.num_le (l.take i) (by rw [List.length_take]; omega)
        rw [← HN.out]; omega
      have HN2 : Hid ((Fm.num (l.take (i + 1)) : Int) = 256 * n + c.toNat) := hid' (by
        rw [List.take_succ_eq_append_getElem hlt, Fm.num_snoc, hcl]
        have := HN.out; omega)
      clear hcl
      go_wp2
      go_round
      case rel => exact ⟨256 * n + c.toNat, i + 1, by go_num, by go_num, by omega, HN2⟩
      case measure => simp [intOf]; omega
    · have hib : i = l.length := by omega
      have hlt2 : decide ((i : Int) < (l.length : Int)) = false := by simp; omega
      have HIB := hid' hib
      clear hib
      go_wp2
      go_ret
      have e := HN.out
      rw [HIB.out, List.take_length] at e
      exact ⟨ret_int e.symm, rfl⟩

theorem rid_any (l : List UInt8) (n : Nat) (h : l.length = 4) (hn : Fm.num l % 2147483648 = n) (w : World) : Calls Try.prog 23 #[.string ⟨l.toArray⟩] w fun e w' => e = .returned (.int .i64 (n : Int)) ∧ w' = w := by
  obtain ⟨q, hq⟩ : ∃ q, Fm.num l = q := ⟨_, rfl⟩
  have hq4 := Fm.num_lt4 h
  rw [hq] at hq4 hn
  have HQ := hid' hq
  have hm : (q : Int).tmod 2147483648 = (n : Int) := by rw [Int.tmod_eq_emod_of_nonneg (by omega)]; omega
  have hm2 : (q : Int) % 2147483648 = (n : Int) := by omega
  have HL := hid' h
  clear hq hn h
  go_enter Try.func23, Try.ntmps23
  go_wp2_with fail
  refine (rnumber_any l (by rw [HL.out]; decide) _).mono ?_
  rintro e w1 ⟨rfl, hw⟩
  subst w1
  rw [HQ.out]
  go_wp2
  go_ret
  exact ⟨rfl, rfl⟩

set_option maxHeartbeats 4000000 in
set_option maxRecDepth 20000 in
theorem rnext_bad (l : List UInt8) (most r : Int) (hr : Fm.nextE l most = r) (h0 : r ≠ 0) (w : World) : Calls Try.prog 10 #[.string ⟨l.toArray⟩, .int .i64 most] w fun e w' => e = .returned (.tuple #[.agg frZ, .int .i64 0, .int .i64 r]) ∧ Below w.heap.size w w' := by
  unfold Fm.nextE at hr
  by_cases h3 : l.length < 3
  · rw [if_pos h3] at hr
    subst hr
    have d0 : decide ((l.length : Int) < 3) = true := decide_eq_true (by omega)
    clear h0 h3
    go_enter Try.func10, Try.ntmps10
    go_wp2_with (refine wpl_alloc 23 rfl rfl _ zeroFrame ?_)
    intro b0 w0 hg0 ha0 hb0
    go_wp2_with (refine wpl_stf _ _ rfl rfl b0 0 0 0 [] (by kernel_rfl) (by kernel_rfl) _ ha0 rfl ?_)
    intro w1 ha1 hu1
    go_wp2
    exact bodyPost_ret (v := .tuple #[.agg frZ, .int .i64 0, .int .i64 40]) (by simp [results, Try.results10, asAddr, ldf ha1]; rfl) rfl ⟨rfl, hb0.trans (hu1.below hg0)⟩
  · rw [if_neg h3] at hr
    have hcut := cut_ends l 3
    obtain ⟨y, hy⟩ : ∃ y, l.take 3 = y := ⟨_, rfl⟩
    have hyl : y.length ≤ 4 := by rw [← hy, List.length_take]; omega
    have hyl3 : y.length = 3 := by rw [← hy, List.length_take]; omega
    rw [hy] at hcut hr
    obtain ⟨n, hn⟩ : ∃ n, Fm.num y = n := ⟨_, rfl⟩
    have hn24 := Fm.num_lt3 hyl3
    rw [hn] at hr hn24
    have HN := hid' hn
    have d0 : decide ((l.length : Int) < 3) = false := decide_eq_false (by omega)
    have hl3 : (3 : Int) ≤ (l.length : Int) := by omega
    clear hy hyl3 hn
    by_cases hm : most < (n : Int)
    · rw [if_pos hm] at hr
      subst hr
      have d1 : decide (most < (n : Int)) = true := decide_eq_true hm
      clear h0 h3 hm
      go_enter Try.func10, Try.ntmps10
      go_wp2_with (refine wpl_alloc 23 rfl rfl _ zeroFrame ?_)
      intro b0 w0 hg0 ha0 hb0
      go_wp2_with fail
      refine (rnumber_any y hyl _).mono ?_
      rintro e w1 ⟨rfl, hw⟩
      subst w1
      rw [HN.out]
      go_wp2_with (refine wpl_stf _ _ rfl rfl b0 0 0 0 [] (by kernel_rfl) (by kernel_rfl) _ ha0 rfl ?_)
      intro w1 ha1 hu1
      go_wp2
      exact bodyPost_ret (v := .tuple #[.agg frZ, .int .i64 0, .int .i64 3]) (by simp [results, Try.results10, asAddr, ldf ha1]; rfl) rfl ⟨rfl, hb0.trans (hu1.below hg0)⟩
    · rw [if_neg hm] at hr
      by_cases hs : l.length < 9 + n
      · rw [if_pos hs] at hr
        subst hr
        have d1 : decide (most < (n : Int)) = false := decide_eq_false hm
        have d2 : decide ((l.length : Int) < 9 + (n : Int)) = true := decide_eq_true (by omega)
        clear h0 h3 hm hs
        go_enter Try.func10, Try.ntmps10
        go_wp2_with (refine wpl_alloc 23 rfl rfl _ zeroFrame ?_)
        intro b0 w0 hg0 ha0 hb0
        go_wp2_with fail
        refine (rnumber_any y hyl _).mono ?_
        rintro e w1 ⟨rfl, hw⟩
        subst w1
        rw [HN.out]
        go_wp2_with (refine wpl_stf _ _ rfl rfl b0 0 0 0 [] (by kernel_rfl) (by kernel_rfl) _ ha0 rfl ?_)
        intro w1 ha1 hu1
        go_wp2
        exact bodyPost_ret (v := .tuple #[.agg frZ, .int .i64 0, .int .i64 40]) (by simp [results, Try.results10, asAddr, ldf ha1]; rfl) rfl ⟨rfl, hb0.trans (hu1.below hg0)⟩
      · rw [if_neg hs] at hr
        exact absurd hr.symm h0

set_option maxHeartbeats 8000000 in
set_option maxRecDepth 20000 in
theorem rnext_ok (l : List UInt8) (most : Int) (n : Nat) (hn : Fm.num (l.take 3) = n) (hr : Fm.nextE l most = 0) (w : World) : Calls Try.prog 10 #[.string ⟨l.toArray⟩, .int .i64 most] w fun e w' => e = .returned (.tuple #[.agg (nxC l), .int .i64 (9 + (n : Int)), .int .i64 0]) ∧ Below w.heap.size w w' := by
  have h3 : ¬ l.length < 3 := by intro h; unfold Fm.nextE at hr; rw [if_pos h] at hr; cases hr
  have hm : ¬ most < (n : Int) := by intro h; unfold Fm.nextE at hr; rw [if_neg h3, hn, if_pos h] at hr; cases hr
  have hs : ¬ l.length < 9 + n := by intro h; unfold Fm.nextE at hr; rw [if_neg h3, hn, if_neg hm, if_pos h] at hr; cases hr
  clear hr
  have HX : Hid (nxC l = frC ((l.getD 3 0).toNat : Nat) ((l.getD 4 0).toNat : Nat) (Fm.idn (l.drop 5) : Nat) ((l.drop 9).take n)) := hid' (by unfold nxC; rw [hn])
  have hcut := cut_ends l 3
  obtain ⟨y, hy⟩ : ∃ y, l.take 3 = y := ⟨_, rfl⟩
  have hyl : y.length ≤ 4 := by rw [← hy, List.length_take]; omega
  have hyl3 : y.length = 3 := by rw [← hy, List.length_take]; omega
  rw [hy] at hcut hn
  have hn24 := Fm.num_lt3 hyl3
  rw [hn] at hn24
  have HN := hid' hn
  have d0 : decide ((l.length : Int) < 3) = false := decide_eq_false (by omega)
  have d1 : decide (most < (n : Int)) = false := decide_eq_false hm
  have hl3 : (3 : Int) ≤ (l.length : Int) := by omega
  have hl9 : (9 : Int) ≤ (l.length : Int) := by omega
  have hi3 : (3 : Int) < (l.length : Int) := by omega
  have hi4 : (4 : Int) < (l.length : Int) := by omega
  have hb3 : 3 < (⟨l.toArray⟩ : ByteArray).size := by show 3 < l.length; omega
  have hb4 : 4 < (⟨l.toArray⟩ : ByteArray).size := by show 4 < l.length; omega
  obtain ⟨c, hc⟩ : ∃ c, (⟨l.toArray⟩ : ByteArray)[3] = c := ⟨_, rfl⟩
  obtain ⟨d, hd⟩ : ∃ c, (⟨l.toArray⟩ : ByteArray)[4] = c := ⟨_, rfl⟩
  have hcut5 := cut_mid l 5 9
  obtain ⟨x, hx⟩ : ∃ x, (l.drop 5).take 4 = x := ⟨_, rfl⟩
  have hxl : x.length = 4 := by rw [← hx, List.length_take, List.length_drop]; omega
  rw [show 9 - 5 = 4 from rfl, hx] at hcut5
  obtain ⟨s, hst⟩ : ∃ s, Fm.idn (l.drop 5) = s := ⟨_, rfl⟩
  have HST : Hid (Fm.num x % 2147483648 = s) := hid' (by rw [← hx]; exact hst)
  obtain ⟨e9, he9⟩ : ∃ e9 : Nat, 9 + n = e9 := ⟨_, rfl⟩
  have he9i : 9 + (n : Int) = (e9 : Int) := by omega
  have hw9 : IntKind.i64.wrap (9 + (n : Int)) = (e9 : Int) := by rw [IntKind.wrap_i64]; omega
  have hw9' : IntKind.i64.wrap (e9 : Int) = (e9 : Int) := by rw [IntKind.wrap_i64]; omega
  have d2 : decide ((l.length : Int) < (e9 : Int)) = false := decide_eq_false (by omega)
  have d2' : decide (l.length < e9) = false := decide_eq_false (by omega)
  have hle9 : (e9 : Int) ≤ (l.length : Int) := by omega
  have h99 : (9 : Int) ≤ (e9 : Int) := by omega
  have hcut9 := cut_mid l 9 e9
  obtain ⟨p, hp⟩ : ∃ p, (l.drop 9).take n = p := ⟨_, rfl⟩
  rw [show e9 - 9 = n by omega, hp] at hcut9
  have HX2 : Hid (nxC l = frC (c.toNat : Int) (d.toNat : Int) (s : Int) p) := hid' (by
    rw [HX.out, hst, hp]
    have e3 : l.getD 3 0 = c := by rw [← hc, List.getD_eq_getElem?_getD, List.getElem?_eq_getElem (by omega)]; rfl
    have e4 : l.getD 4 0 = d := by rw [← hd, List.getD_eq_getElem?_getD, List.getElem?_eq_getElem (by omega)]; rfl
    rw [e3, e4])
  rw [HX2.out]
  clear HX HX2 hy hyl3 hn h3 hm hs hx hst hp he9
  go_enter Try.func10, Try.ntmps10
  go_wp2_with (refine wpl_alloc 23 rfl rfl _ zeroFrame ?_)
  intro b0 w0 hg0 ha0 hb0
  have HA := hid' ha0
  have HB := hid' hb0
  clear ha0 hb0
  go_wp2_with fail
  refine (rnumber_any y hyl _).mono ?_
  rintro e w1 ⟨rfl, hw⟩
  subst w1
  rw [HN.out]
  go_upto_region 8 with fail
  go_region_with (first | (go_at_call 23; refine (rid_any x s hxl HST.out _).mono ?_; rintro e w1 ⟨rfl, hw⟩; subst w1))
  all_goals go_upto_region 9 with fail
  all_goals
    rw [wrap_byte, wrap_byte]
    have hN1 : Ar (w0.alloc (.cells #[.int .i64 (c.toNat : Int), .int .i64 (d.toNat : Int), .int .i64 (s : Int), .string ⟨p.toArray⟩] 23)).drew w0.heap.size 23 (frC (c.toNat : Int) (d.toNat : Int) (s : Int) p) := Ar.drew (heap_alloc_last w0 _)
    have hb1 : Below w0.heap.size w0 (w0.alloc (.cells #[.int .i64 (c.toNat : Int), .int .i64 (d.toNat : Int), .int .i64 (s : Int), .string ⟨p.toArray⟩] 23)).drew := ((Below.refl _ _).alloc (Nat.le_refl _) _).drew
    have HA1 := hid' (HA.out.keep hb1)
    have HB1 := hid' (below_two HB.out hb1)
    have HN1 := hid' hN1
    clear hN1 hb1
    generalize (w0.alloc (.cells #[.int .i64 (c.toNat : Int), .int .i64 (d.toNat : Int), .int .i64 (s : Int), .string ⟨p.toArray⟩] 23)).drew = w2 at *
    generalize w0.heap.size = bn at *
    go_wp2_with (first | refine wpl_ldfr _ rfl rfl bn (by kernel_rfl) _ _ _ _ HN1.out ?_ | refine wpl_stf _ _ rfl rfl b0 (c.toNat : Int) (d.toNat : Int) (s : Int) p (by kernel_rfl) (by kernel_rfl) _ HA1.out rfl ?_)
    intro w3 ha3 hu3
    go_wp2
    exact bodyPost_ret (v := .tuple #[.agg (frC (c.toNat : Int) (d.toNat : Int) (s : Int) p), .int .i64 (e9 : Int), .int .i64 0]) (by simp [results, Try.results10, asAddr, ldf ha3]) rfl ⟨by rw [he9i], HB1.out.trans (hu3.below hg0)⟩

end Go.Proofs.Ytfccbeijibhnhaa
