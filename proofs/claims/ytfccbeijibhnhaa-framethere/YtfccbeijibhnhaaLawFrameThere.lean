/-
  FrameThere, by its contract.
-/
import Derived.Test.YtfccbeijibhnhaaFrX
namespace Go.Proofs.Ytfccbeijibhnhaa
open Go.RowKit

set_option maxHeartbeats 8000000 in
set_option maxRecDepth 20000 in
theorem frameThere_l (l : List UInt8) (hsz : l.length ≤ 140737488355328) (w : World) : Calls Try.prog 8 #[.string ⟨l.toArray⟩] w fun e w' => e = .returned (.bool true) ∧ Below w.heap.size w w' := by
  obtain ⟨r, hr⟩ : ∃ r, Fm.nextE l (l.length : Int) = r := ⟨_, rfl⟩
  by_cases h0 : r = 0
  · subst h0
    obtain ⟨n, hn⟩ : ∃ n, Fm.num (l.take 3) = n := ⟨_, rfl⟩
    have HX := hid' (fun w => cnext_ok l (l.length : Int) n hn hr (by omega) w)
    have h3 : ¬ l.length < 3 := by intro h; unfold Fm.nextE at hr; rw [if_pos h] at hr; cases hr
    have hm : ¬ (l.length : Int) < (n : Int) := by intro h; unfold Fm.nextE at hr; rw [if_neg h3, hn, if_pos h] at hr; cases hr
    have hs : ¬ l.length < 9 + n := by intro h; unfold Fm.nextE at hr; rw [if_neg h3, hn, if_neg hm, if_pos h] at hr; cases hr
    have hn24 := Fm.num_lt3 (l := l.take 3) (by rw [List.length_take]; omega)
    rw [hn] at hn24
    obtain ⟨k, hk⟩ : ∃ k : Nat, (l.getD 3 0).toNat = k := ⟨_, rfl⟩
    obtain ⟨f, hf⟩ : ∃ k : Nat, (l.getD 4 0).toNat = k := ⟨_, rfl⟩
    obtain ⟨s, hst⟩ : ∃ k : Nat, Fm.idn (l.drop 5) = k := ⟨_, rfl⟩
    obtain ⟨p, hp⟩ : ∃ p, (l.drop 9).take n = p := ⟨_, rfl⟩
    have hk2 : k < 256 := by rw [← hk]; exact UInt8.toNat_lt _
    have hf2 : f < 256 := by rw [← hf]; exact UInt8.toNat_lt _
    have hs2 : s < 2147483648 := by rw [← hst]; exact Fm.idn_lt _
    have hpl : p.length = n := by rw [← hp, List.length_take, List.length_drop]; omega
    have hunw : Fm.unw (k : Int) (f : Int) (s : Int) p.length = 0 := by
      unfold Fm.unw
      rw [if_pos (by unfold Fm.may; rw [decide_eq_true]; omega), if_neg (by omega)]
    have HW := hid' (fun w => cwrite_ok (k : Int) (f : Int) (s : Int) p hunw (by omega) w)
    have hnx : nxC l = frC (k : Int) (f : Int) (s : Int) p := by unfold nxC; rw [hn, hk, hf, hst, hp]
    rw [hnx] at HX
    obtain ⟨e9, he9⟩ : ∃ e9 : Nat, 9 + n = e9 := ⟨_, rfl⟩
    have he9i : 9 + (n : Int) = (e9 : Int) := by omega
    rw [he9i] at HX
    obtain ⟨wr, hwr⟩ : ∃ wr, Fm.wr (k : Int) (f : Int) (s : Int) p = wr := ⟨_, rfl⟩
    have hwl : wr.length = e9 := by rw [← hwr, Fm.wr_length, hpl, he9]
    rw [hwr] at HW
    have hcut := cut_ends l e9
    obtain ⟨t, ht⟩ : ∃ t, l.take e9 = t := ⟨_, rfl⟩
    rw [ht] at hcut
    have htl : t.length = e9 := by rw [← ht, List.length_take]; omega
    have ht5 : 5 < t.length := by omega
    obtain ⟨c, hc⟩ : ∃ c, t[5] = c := ⟨_, rfl⟩
    have c256 := UInt8.toNat_lt c
    obtain ⟨x, hx⟩ : ∃ x : UInt8, x.toNat = c.toNat % 128 := ⟨UInt8.ofNat (c.toNat % 128), by rw [UInt8.toNat_ofNat', Nat.mod_eq_of_lt (by omega)]⟩
    have hand : Go.bits .and .u8 (c.toNat : Int) 127 = (x.toNat : Int) := by rw [and127u _ c256, hx]
    have HT : Hid (wr = t.set 5 x) := hid' (by
      rw [← hwr, ← ht, ← hk, ← hf, ← hst, ← hp, ← he9]
      refine Fm.there l n hn (by omega) x ?_
      rw [hx, ← hc]
      have : t[5] = l.getD 5 0 := by
        rw [List.getD_eq_getElem?_getD, ← List.getElem?_take_of_lt (j := e9) (by omega), ht, List.getElem?_eq_getElem ht5]; rfl
      rw [this])
    have HWL := hid' hwl
    have HTL := hid' htl
    have d1 : decide ((e9 : Int) < 9) = false := decide_eq_false (by omega)
    have d2 : decide ((l.length : Int) < (e9 : Int)) = false := decide_eq_false (by omega)
    have d2' : decide (l.length < e9) = false := decide_eq_false (by omega)
    have d3 : ((wr.length : Int) != (e9 : Int)) = false := by rw [hwl]; simp
    have d3' : ((wr.length : Int) == (e9 : Int)) = true := by rw [hwl]; simp
    have hle : (e9 : Int) ≤ (l.length : Int) := by omega
    have ht5i : (5 : Int) < (t.length : Int) := by omega
    have HC := hid' hc
    clear hr hn h3 hm hs hn24 hk hf hst hp hk2 hf2 hs2 hpl hunw hnx he9 he9i hwr hwl ht htl hc hx
    go_enter Try.func8, Try.ntmps8
    go_wp2_with fail
    refine (HX.out _).mono ?_
    rintro e w1 ⟨rfl, hb1⟩
    have HB1 := hid' hb1
    clear hb1
    go_wp2_with (refine wpl_alloc 23 rfl rfl _ zeroFrame ?_)
    intro b1 w2 hg ha hb
    refine wpl_stf _ _ rfl rfl b1 (k : Int) (f : Int) (s : Int) p (by kernel_rfl) (by kernel_rfl) _ ha rfl ?_
    intro w3 ha1 hu
    have HB3 := hid' (below_two HB1.out (hb.trans (hu.below hg)))
    obtain ⟨c0, c1, c2, c3⟩ := frC_cells ha1
    clear hg ha hb hu ha1
    go_wp2_with fail
    refine (HW.out _).mono ?_
    rintro e w4 ⟨rfl, hb4⟩
    have HB4 := hid' (below_two HB3.out hb4)
    clear hb4 c0 c1 c2 c3
    go_upto_region 7 with fail
    go_wp2_with (refine wpl_tobytes _ rfl rfl t (by kernel_rfl) ?_)
    intro b5 cap w5 hg5 hcs hfs hb5
    have z5 := hcs 5 ht5
    rw [HC.out] at z5
    have f5 := hfs 5 ht5
    have HCS := hid' hcs
    have HB5 := hid' (below_two HB4.out hb5)
    have HG5 := hid' (Nat.le_trans HB4.out.size hg5)
    clear hcs hfs hb5 hg5
    go_wp2_with fail
    refine (awake7 _).mono ?_
    rintro e w6 ⟨rfl, hb6⟩
    have hcv : (convert 49 9 (.slice (some ⟨b5, 0, none⟩) t.length cap)).run Try.prog w6 = .ok (.string ⟨wr.toArray⟩) w6 := by
      have hl2 : (t.set 5 x).length = t.length := by simp
      have := run_convert_bytes_back (P := Try.prog) w6 49 9 5 ⟨b5, 0, none⟩ cap (t.set 5 x) Try.underlying49 Try.underlying5 Try.underlying9 (fun j hj => by
        rw [Addr.add_mid, Nat.zero_add]
        rw [hl2] at hj
        have hcell : (w5.setCell ⟨b5, 5, none⟩ (.int .u8 (x.toNat : Int))).cell? ⟨b5, j, none⟩ = some (.int .u8 ((t.set 5 x)[j]'(by rw [hl2]; exact hj)).toNat) := by
          by_cases h5 : j = 5
          · subst h5
            rw [World.cell?_setCell_same _ _ _ z5]
            simp
          · rw [World.cell?_setCell_other _ _ _ _ (by intro e; simp only [Addr.mk.injEq] at e; omega), HCS.out j hj]
            rw [List.getElem_set_ne (fun e => h5 e.symm)]
        exact (hb6.cell (World.block_lt_of_cell? _ _ hcell)).trans hcell)
      rw [hl2, ← HT.out] at this
      exact this
    have HB6 := hid' (below_two (HB5.out.setCell (p := ⟨b5, 5, none⟩) HG5.out (.int .u8 (x.toNat : Int))) hb6)
    clear hb6 z5 f5
    go_wp2
    go_ret
    exact ⟨rfl, HB6.out⟩
  · have HX : Hid (∀ w : World, Calls Try.prog 9 #[.string ⟨l.toArray⟩, .int .i64 (l.length : Int)] w fun e w' => e = .returned (.tuple #[.agg (frC 0 0 0 []), .int .i64 0, .int .i64 r]) ∧ Below w.heap.size w w') := hid' (fun w => cnext_bad l (l.length : Int) r hr h0 w)
    have d0 : (r != 0) = true := bne_iff_ne.2 h0
    have d1 : (r == 0) = false := beq_false_of_ne h0
    have e1 : ∀ W, (binOp .eql 23 (.agg #[.int .i64 0, .int .i64 0, .int .i64 0, .string ⟨#[]⟩]) (.agg #[.int .i64 0, .int .i64 0, .int .i64 0, .string ⟨#[]⟩])).run Try.prog W = .ok (.bool true) W := fun W => eq_frame 0 0 0 0 0 0 [] [] W
    have hng := noGuardF
    clear hr h0
    go_enter Try.func8, Try.ntmps8
    go_wp2_with fail
    refine (HX.out _).mono ?_
    rintro e w1 ⟨rfl, hb1⟩
    have HB1 := hid' hb1
    clear hb1
    go_wp2_with (refine wpl_alloc 23 rfl rfl _ zeroFrame ?_)
    intro b1 w2 hg ha hb
    refine wpl_stf _ _ rfl rfl b1 0 0 0 [] (by kernel_rfl) (by kernel_rfl) _ ha rfl ?_
    intro w3 ha1 hu
    have HB3 := hid' (below_two HB1.out (hb.trans (hu.below hg)))
    have HA3 := hid' ha1
    clear hg ha hb hu ha1
    go_wp2_with fail
    refine (awake7 _).mono ?_
    rintro e w4 ⟨rfl, hb4⟩
    have HB4 := hid' (below_two HB3.out hb4)
    obtain ⟨c0, c1, c2, c3⟩ := frC_cells (HA3.out.keep hb4)
    clear hb4
    go_wp2
    go_ret
    exact ⟨rfl, HB4.out⟩

theorem frameThere_c (s : ByteArray) (w : World) (h : s.size ≤ 140737488355328) : Calls Try.prog 8 #[.string s] w fun e w' => e = .returned (.bool true) ∧ Below w.heap.size w w' := by
  have e : s = ⟨s.data.toList.toArray⟩ := by cases s; simp
  rw [e]
  exact frameThere_l _ (by rw [← Lib.size_eq]; exact h) w

end Go.Proofs.Ytfccbeijibhnhaa
