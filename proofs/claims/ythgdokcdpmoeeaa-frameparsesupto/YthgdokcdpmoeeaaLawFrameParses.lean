/-
  FrameParses, by its contract.
-/
import Derived.Test.YthgdokcdpmoeeaaFrDv
import Derived.Test.YthgdokcdpmoeeaaFrDt
import Derived.Test.YthgdokcdpmoeeaaFrAg
import Derived.Test.YthgdokcdpmoeeaaFrMk
import Derived.Test.YthgdokcdpmoeeaaFrSm
import Derived.Test.YthgdokcdpmoeeaaFrAw
namespace Go.Proofs.Ythgdokcdpmoeeaa
open Go.RowKit

theorem st_first (l : List (Int × Int)) (h : 0 < l.length) : ∃ a ∈ l, (stCells l)[0]? = some (.int .i64 a.1) := by
  cases l with
  | nil => simp at h
  | cons a r => exact ⟨a, by simp, rfl⟩
theorem SR.nil_any {w w' : World} {v : Value} {l : List (Int × Int)} (h : SR w v l) (h0 : ¬ 0 < l.length) : SR w' v l := by
  obtain rfl : l = [] := List.eq_nil_of_length_eq_zero (by omega)
  rcases h with h | ⟨a, cap, hv, _⟩
  · exact .inl h
  · exact .inr ⟨a, cap, hv, fun j u hj => by simp [stCells] at hj⟩
theorem own_first {w : World} {B B' : Nat} {e : TypeId} {s : Nat} {v v' : Value} {n n' k : Nat} {xs xs' : List Value} (h : w.ownsRow B e s v n xs) (h' : w.ownsRow B' e s v' n' xs') (hk : v.ownBlock = some k) (hk' : v'.ownBlock = some k) (h0 : 0 < n * s) (h0' : 0 < n' * s) : xs[0]? = xs'[0]? := by
  rcases h.2 with ⟨rfl, _⟩ | ⟨g, cap, cur, rfl, _, hc, _, _, _, ht⟩
  · simp [Value.ownBlock] at hk
  rcases h'.2 with ⟨rfl, _⟩ | ⟨g', cap', cur', rfl, _, hc', _, _, _, ht'⟩
  · simp [Value.ownBlock] at hk'
  simp [Value.ownBlock] at hk hk'
  subst hk hk'
  rw [hc] at hc'
  injection hc' with hc'
  injection hc' with hc' _ _
  subst hc'
  rw [← ht, ← ht', List.getElem?_take, List.getElem?_take, if_pos h0, if_pos h0']
theorem own_set {w : World} {B : Nat} {e : TypeId} {s g n cap : Nat} {xs : List Value} (h : w.ownsRow B e s (.slice (some ⟨g, 0, none⟩) n cap) n xs) (j : Nat) (x : Value) : (w.setCell ⟨g, j, none⟩ x).ownsRow B e s (.slice (some ⟨g, 0, none⟩) n cap) n (xs.set j x) := by
  obtain ⟨h1, h2⟩ := h
  rcases h2 with ⟨hv, _⟩ | ⟨g', cap', cur, hv, hB, hc, hn, hm, hs, ht⟩
  · cases hv
  · injection hv with hv1 _ hv3
    injection hv1 with hv1
    injection hv1 with hv1 _ _
    subst hv1 hv3
    have ha : Ar w g e cur := hc
    refine ⟨by rw [List.length_set]; exact h1, .inr ⟨g, cap, _, rfl, hB, ha.set j x, hn, hm, by rw [Array.size_setIfInBounds]; exact hs, ?_⟩⟩
    rw [← ht, Array.toList_setIfInBounds, List.take_set]

set_option maxHeartbeats 8000000 in
set_option maxRecDepth 20000 in
theorem fparses (k fl st : Int) (l : List UInt8) (P : Fm.Pt) (wi wc : Bool) (we : Int) (hn : P.sets.length ≤ 1048576) (hpos : ∀ s ∈ P.sets, 0 ≤ s.1)
    (hc : ∀ w : World, Calls Try.prog 9 #[.agg (frC k fl st l)] w fun e w' => (∃ v, e = .returned (.tuple #[.agg (ptC P v), .agg (wgC wi wc we)]) ∧ w'.ownsRow w.heap.size 34 2 v P.sets.length (stCells P.sets)) ∧ Below w.heap.size w w')
    (hd : ∀ w : World, Calls Try.prog 10 #[.agg (frC k fl st l)] w fun e w' => (∃ v, e = .returned (.tuple #[.agg (ptC P v), .agg (wgC wi wc we)]) ∧ w'.ownsRow w.heap.size 34 2 v P.sets.length (stCells P.sets)) ∧ Below w.heap.size w w') (w : World) :
    Calls Try.prog 3 #[.agg (frC k fl st l)] w fun e w' => e = .returned (.bool true) ∧ Below w.heap.size w w' := by
  obtain ⟨i0, hi, hz0, hz1, hz2⟩ := info_parts' infoSetting
  have HI := hid' hi
  have HZ0 := hid' hz0
  have HZ1 := hid' hz1
  have HZ2 := hid' hz2
  have HPOS := hid' hpos
  clear hi hz0 hz1 hz2 hpos
  have HC := hid' hc
  have HD := hid' hd
  clear hc hd
  go_enter Try.func3, Try.ntmps3
  go_wp2_with (refine wpl_box 23 _ rfl rfl (frC k fl st l) (by kernel_rfl) ?_)
  intro b0 w0 hg0 ha0 hb0
  have HA0 := hid' ha0
  have HB0 := hid' hb0
  have HBS : Hid (w.heap.size ≤ w0.heap.size) := hid' hb0.size
  clear hg0 ha0 hb0
  go_wp2_with (refine wpl_ldfr _ rfl rfl b0 (by kernel_rfl) _ _ _ _ HA0.out ?_)
  go_wp2_with fail
  refine (HC.out _).mono ?_
  rintro e wa1 ⟨⟨v1, rfl, how1⟩, hba1⟩
  obtain ⟨ao1, cap1, hv1⟩ : ∃ ao cap, v1 = .slice ao P.sets.length cap := by
    rcases how1.2 with ⟨h, h0⟩ | ⟨g, cap, cur, h, _⟩
    · exact ⟨none, 0, by rw [h, h0]⟩
    · exact ⟨_, _, h⟩
  subst hv1
  have HOWa1 := hid' how1
  have HA0 := hid' (HA0.out.keep hba1)
  have HSa1 := hid' hba1.size
  have HB1a := hid' (below_two HB0.out hba1)
  clear how1 hba1
  go_wp2_with (refine wpl_open2 rfl rfl rfl rfl ?_)
  intro bp1 bw1 wb1 hgp1 hgw1 hap1 haw1 hbb1
  have HA0 := hid' (HA0.out.keep hbb1)
  have HSb1 := hid' hbb1.size
  have HOWb1 := hid' (own_keep HOWa1.out hbb1)
  have HAP1 := hid' hap1
  have HAW1 := hid' haw1
  have HGP1 := hid' hgp1
  have HGW1 := hid' hgw1
  have HB1b := hid' (below_two HB1a.out hbb1)
  clear hgp1 hgw1 hap1 haw1 hbb1
  go_wp2_with (refine wpl_st2k _ _ _ _ rfl rfl rfl rfl wa1.heap.size bp1 bw1 P ao1 P.sets.length cap1 wi wc we (by kernel_rfl) (by kernel_rfl) (by kernel_rfl) (by kernel_rfl) HAP1.out HAW1.out HGP1.out HGW1.out ?_)
  intro wz1 hp1 hw1 hbz1 hkz1
  have HP1 := hid' hp1
  have HW1 := hid' hw1
  have HOW1 := hid' (own_same HOWb1.out (fun k hk => hkz1 k (own_apart HOWb1.out HAP1.out (by decide) k hk) (own_apart HOWb1.out HAW1.out (by decide) k hk)))
  have HA0 : Hid (Ar wz1 b0 23 (frC k fl st l)) := hid' ((hkz1 b0 (HA0.out.apart HAP1.out (by decide)) (HA0.out.apart HAW1.out (by decide))).trans HA0.out)
  have HB1 : Hid (Below w.heap.size w wz1) := hid' (HB1b.out.trans (hbz1.mono (HB1a.out.size)))
  have HBP1 : Hid (w0.heap.size ≤ bp1) := hid' (Nat.le_trans HSa1.out HGP1.out)
  clear hp1 hw1 hbz1 hkz1 HAP1 HAW1 HOWa1 HOWb1 HB1a HB1b HGP1 HGW1
  have HR10 : Hid (∀ k, (Value.slice ao1 P.sets.length cap1).ownBlock = some k → k < wz1.heap.size) := hid' (fun k hk => (HOW1.out.lt k hk).2)
  go_wp2_with (refine wpl_ldfr _ rfl rfl b0 (by kernel_rfl) _ _ _ _ HA0.out ?_)
  go_wp2_with fail
  refine (HC.out _).mono ?_
  rintro e wa2 ⟨⟨v2, rfl, how2⟩, hba2⟩
  obtain ⟨ao2, cap2, hv2⟩ : ∃ ao cap, v2 = .slice ao P.sets.length cap := by
    rcases how2.2 with ⟨h, h0⟩ | ⟨g, cap, cur, h, _⟩
    · exact ⟨none, 0, by rw [h, h0]⟩
    · exact ⟨_, _, h⟩
  subst hv2
  have HOWa2 := hid' how2
  have HA0 := hid' (HA0.out.keep hba2)
  have HSa2 := hid' hba2.size
  have HB2a := hid' (below_two HB1.out hba2)
  have HP1 := hid' (HP1.out.keep hba2)
  have HW1 := hid' (HW1.out.keep hba2)
  have HOW1 := hid' (own_keep HOW1.out hba2)
  have HLP1 := hid' HP1.out.lt
  have HLW1 := hid' HW1.out.lt
  have HLR1 : Hid (∀ k, (Value.slice ao1 P.sets.length cap1).ownBlock = some k → k < wa2.heap.size) := hid' (fun k hk => (HOW1.out.lt k hk).2)
  clear how2 hba2
  go_wp2_with (refine wpl_open2 rfl rfl rfl rfl ?_)
  intro bp2 bw2 wb2 hgp2 hgw2 hap2 haw2 hbb2
  have HA0 := hid' (HA0.out.keep hbb2)
  have HSb2 := hid' hbb2.size
  have HOWb2 := hid' (own_keep HOWa2.out hbb2)
  have HAP2 := hid' hap2
  have HAW2 := hid' haw2
  have HGP2 := hid' hgp2
  have HGW2 := hid' hgw2
  have HB2b := hid' (below_two HB2a.out hbb2)
  have HP1 := hid' (HP1.out.keep hbb2)
  have HW1 := hid' (HW1.out.keep hbb2)
  have HOW1 := hid' (own_keep HOW1.out hbb2)
  clear hgp2 hgw2 hap2 haw2 hbb2
  go_wp2_with (refine wpl_st2k _ _ _ _ rfl rfl rfl rfl wa2.heap.size bp2 bw2 P ao2 P.sets.length cap2 wi wc we (by kernel_rfl) (by kernel_rfl) (by kernel_rfl) (by kernel_rfl) HAP2.out HAW2.out HGP2.out HGW2.out ?_)
  intro wz2 hp2 hw2 hbz2 hkz2
  have HP2 := hid' hp2
  have HW2 := hid' hw2
  have HOW2 := hid' (own_same HOWb2.out (fun k hk => hkz2 k (own_apart HOWb2.out HAP2.out (by decide) k hk) (own_apart HOWb2.out HAW2.out (by decide) k hk)))
  have HA0 : Hid (Ar wz2 b0 23 (frC k fl st l)) := hid' ((hkz2 b0 (HA0.out.apart HAP2.out (by decide)) (HA0.out.apart HAW2.out (by decide))).trans HA0.out)
  have HB2 : Hid (Below w.heap.size w wz2) := hid' (HB2b.out.trans (hbz2.mono (HB2a.out.size)))
  have HP1 := hid' (HP1.out.below hbz2 HLP1.out)
  have HW1 := hid' (HW1.out.below hbz2 HLW1.out)
  have HOW1 := hid' (own_same HOW1.out (fun k hk => hbz2.block k (HLR1.out k hk)))
  have HNB12 : Hid (bp2 ≠ bp1) := hid' (by have := HLP1.out; have := HGP2.out; omega)
  have HZ12 : Hid (wz1.heap.size ≤ wz2.heap.size) := hid' (Nat.le_trans HSa2.out (Nat.le_trans HSb2.out hbz2.size))
  clear hp2 hw2 hbz2 hkz2 HAP2 HAW2 HOWa2 HOWb2 HB2a HB2b HGP2 HGW2
  go_wp2_with (refine wpl_ldfr _ rfl rfl b0 (by kernel_rfl) _ _ _ _ HA0.out ?_)
  go_wp2_with fail
  refine (HD.out _).mono ?_
  rintro e wa3 ⟨⟨v3, rfl, how3⟩, hba3⟩
  obtain ⟨ao3, cap3, hv3⟩ : ∃ ao cap, v3 = .slice ao P.sets.length cap := by
    rcases how3.2 with ⟨h, h0⟩ | ⟨g, cap, cur, h, _⟩
    · exact ⟨none, 0, by rw [h, h0]⟩
    · exact ⟨_, _, h⟩
  subst hv3
  have HOWa3 := hid' how3
  have HA0 := hid' (HA0.out.keep hba3)
  have HSa3 := hid' hba3.size
  have HB3a := hid' (below_two HB2.out hba3)
  have HP1 := hid' (HP1.out.keep hba3)
  have HW1 := hid' (HW1.out.keep hba3)
  have HOW1 := hid' (own_keep HOW1.out hba3)
  have HLP1 := hid' HP1.out.lt
  have HLW1 := hid' HW1.out.lt
  have HLR1 : Hid (∀ k, (Value.slice ao1 P.sets.length cap1).ownBlock = some k → k < wa3.heap.size) := hid' (fun k hk => (HOW1.out.lt k hk).2)
  have HP2 := hid' (HP2.out.keep hba3)
  have HW2 := hid' (HW2.out.keep hba3)
  have HOW2 := hid' (own_keep HOW2.out hba3)
  have HLP2 := hid' HP2.out.lt
  have HLW2 := hid' HW2.out.lt
  have HLR2 : Hid (∀ k, (Value.slice ao2 P.sets.length cap2).ownBlock = some k → k < wa3.heap.size) := hid' (fun k hk => (HOW2.out.lt k hk).2)
  clear how3 hba3
  go_wp2_with (refine wpl_open2 rfl rfl rfl rfl ?_)
  intro bp3 bw3 wb3 hgp3 hgw3 hap3 haw3 hbb3
  have HA0 := hid' (HA0.out.keep hbb3)
  have HSb3 := hid' hbb3.size
  have HOWb3 := hid' (own_keep HOWa3.out hbb3)
  have HAP3 := hid' hap3
  have HAW3 := hid' haw3
  have HGP3 := hid' hgp3
  have HGW3 := hid' hgw3
  have HB3b := hid' (below_two HB3a.out hbb3)
  have HP1 := hid' (HP1.out.keep hbb3)
  have HW1 := hid' (HW1.out.keep hbb3)
  have HOW1 := hid' (own_keep HOW1.out hbb3)
  have HP2 := hid' (HP2.out.keep hbb3)
  have HW2 := hid' (HW2.out.keep hbb3)
  have HOW2 := hid' (own_keep HOW2.out hbb3)
  clear hgp3 hgw3 hap3 haw3 hbb3
  go_wp2_with (refine wpl_st2k _ _ _ _ rfl rfl rfl rfl wa3.heap.size bp3 bw3 P ao3 P.sets.length cap3 wi wc we (by kernel_rfl) (by kernel_rfl) (by kernel_rfl) (by kernel_rfl) HAP3.out HAW3.out HGP3.out HGW3.out ?_)
  intro wz3 hp3 hw3 hbz3 hkz3
  have HP3 := hid' hp3
  have HW3 := hid' hw3
  have HOW3 := hid' (own_same HOWb3.out (fun k hk => hkz3 k (own_apart HOWb3.out HAP3.out (by decide) k hk) (own_apart HOWb3.out HAW3.out (by decide) k hk)))
  have HA0 : Hid (Ar wz3 b0 23 (frC k fl st l)) := hid' ((hkz3 b0 (HA0.out.apart HAP3.out (by decide)) (HA0.out.apart HAW3.out (by decide))).trans HA0.out)
  have HB3 : Hid (Below w.heap.size w wz3) := hid' (HB3b.out.trans (hbz3.mono (HB3a.out.size)))
  have HP1 := hid' (HP1.out.below hbz3 HLP1.out)
  have HW1 := hid' (HW1.out.below hbz3 HLW1.out)
  have HOW1 := hid' (own_same HOW1.out (fun k hk => hbz3.block k (HLR1.out k hk)))
  have HP2 := hid' (HP2.out.below hbz3 HLP2.out)
  have HW2 := hid' (HW2.out.below hbz3 HLW2.out)
  have HOW2 := hid' (own_same HOW2.out (fun k hk => hbz3.block k (HLR2.out k hk)))
  have HNB13 : Hid (bp3 ≠ bp1) := hid' (by have := HLP1.out; have := HGP3.out; omega)
  have HZ23 : Hid (wz2.heap.size ≤ wz3.heap.size) := hid' (Nat.le_trans HSa3.out (Nat.le_trans HSb3.out hbz3.size))
  clear hp3 hw3 hbz3 hkz3 HAP3 HAW3 HOWa3 HOWb3 HB3a HB3b HGP3 HGW3
  have hnw := noGuardW
  have e1 : ∀ W, (binOp .neq 29 (.agg #[.bool wi, .bool wc, .int .i64 we]) (.agg #[.bool wi, .bool wc, .int .i64 we])).run Try.prog W = .ok (.bool false) W := fun W => by rw [neq_wrong]; simp
  obtain ⟨q0, q1, q2⟩ := wg_cells HW1.out
  obtain ⟨r0, r1, r2⟩ := wg_cells HW2.out
  obtain ⟨s0, s1, s2⟩ := wg_cells HW3.out
  obtain ⟨x0, x1, x2, x3, x4, x5, x6, x7⟩ := pt_cells HP1.out
  obtain ⟨y0, y1, y2, y3, y4, y5, y6, y7⟩ := pt_cells HP3.out
  go_wp2_with fail
  refine (csame_yes P _ _ _ (SR.of_own HOW1.out) (SR.of_own HOW3.out) (by omega)).mono ?_
  rintro e ws ⟨rfl, hbs⟩
  have HS0 : Hid (∃ xs, ws.ownsRow w0.heap.size 34 2 (.slice ao1 P.sets.length cap1) P.sets.length xs ∧ Ar ws bp1 27 (ptC P (.slice ao1 P.sets.length cap1)) ∧ Ar ws bp2 27 (ptC P (.slice ao2 P.sets.length cap2)) ∧ Ar ws bp3 27 (ptC P (.slice ao3 P.sets.length cap3)) ∧ ws.ownsRow wz1.heap.size 34 2 (.slice ao2 P.sets.length cap2) P.sets.length (stCells P.sets) ∧ ws.ownsRow wz2.heap.size 34 2 (.slice ao3 P.sets.length cap3) P.sets.length (stCells P.sets) ∧ Below w.heap.size w ws ∧ (0 < 0 → xs[0]? = some (.int .i64 (-1)))) := hid' ⟨_, own_keep HOW1.out hbs, HP1.out.keep hbs, HP2.out.keep hbs, HP3.out.keep hbs, own_keep HOW2.out hbs, own_keep HOW3.out hbs, below_two HB3.out hbs, fun h => absurd h (Nat.lt_irrefl 0)⟩
  have HSR2 := hid' (SR.of_own (own_keep HOW2.out hbs))
  have HSR3 := hid' (SR.of_own (own_keep HOW3.out hbs))
  clear hbs HOW1 HOW2 HOW3 HP1 HP2 HP3 HW1 HW2 HW3 q0 q1 q2 r0 r1 r2 s0 s1 s2 x0 x1 x2 x3 x4 x5 x6 x7 y0 y1 y2 y3 y4 y5 y6 y7 e1 HC HD HA0 HB3
  have c7 : ws.cell? ⟨bp1, 7, none⟩ = some (.slice ao1 P.sets.length cap1) := by obtain ⟨xs, _, h, _⟩ := HS0.out; exact h.cell 7 _ rfl
  go_wp2
  go_loopw [9] (fun s9 wr => ∃ i : Nat, s9 = .int .i64 (i : Int) ∧ i ≤ P.sets.length ∧ Hid (∃ xs, wr.ownsRow w0.heap.size 34 2 (.slice ao1 P.sets.length cap1) P.sets.length xs ∧ Ar wr bp1 27 (ptC P (.slice ao1 P.sets.length cap1)) ∧ Ar wr bp2 27 (ptC P (.slice ao2 P.sets.length cap2)) ∧ Ar wr bp3 27 (ptC P (.slice ao3 P.sets.length cap3)) ∧ wr.ownsRow wz1.heap.size 34 2 (.slice ao2 P.sets.length cap2) P.sets.length (stCells P.sets) ∧ wr.ownsRow wz2.heap.size 34 2 (.slice ao3 P.sets.length cap3) P.sets.length (stCells P.sets) ∧ Below w.heap.size w wr ∧ (0 < i → xs[0]? = some (.int .i64 (-1))))) (fun s9 _ => P.sets.length - (intOf s9).toNat)
  case atStart => exact ⟨0, rfl, Nat.zero_le _, HS0⟩
  case round =>
    clear HS0 c7
    obtain ⟨i, rfl, hi, HX⟩ := hrel
    have c7 : wr.cell? ⟨bp1, 7, none⟩ = some (.slice ao1 P.sets.length cap1) := by obtain ⟨xs, _, h, _⟩ := HX.out; exact h.cell 7 _ rfl
    by_cases hlt : i < P.sets.length
    · have hlt2 : (i : Int) < (P.sets.length : Int) := by omega
      obtain ⟨xs, HO1, HP1, HP2, HP3, HO2, HO3, HB, HFC⟩ : ∃ xs, Hid (wr.ownsRow w0.heap.size 34 2 (.slice ao1 P.sets.length cap1) P.sets.length xs) ∧ Hid (Ar wr bp1 27 (ptC P (.slice ao1 P.sets.length cap1))) ∧ Hid (Ar wr bp2 27 (ptC P (.slice ao2 P.sets.length cap2))) ∧ Hid (Ar wr bp3 27 (ptC P (.slice ao3 P.sets.length cap3))) ∧ Hid (wr.ownsRow wz1.heap.size 34 2 (.slice ao2 P.sets.length cap2) P.sets.length (stCells P.sets)) ∧ Hid (wr.ownsRow wz2.heap.size 34 2 (.slice ao3 P.sets.length cap3) P.sets.length (stCells P.sets)) ∧ Hid (Below w.heap.size w wr) ∧ Hid (0 < i → xs[0]? = some (.int .i64 (-1))) := by
        obtain ⟨xs, h1, h2, h3, h4, h5, h6, h7, h8⟩ := HX.out
        exact ⟨xs, h1, h2, h3, h4, h5, h6, h7, h8⟩
      obtain ⟨g, hg⟩ : ∃ g, ao1 = some ⟨g, 0, none⟩ := by
        rcases HO1.out.2 with ⟨_, h0⟩ | ⟨g, cap, cur, hv, _⟩
        · omega
        · injection hv with hv _ _
          exact ⟨g, hv⟩
      subst hg
      have hxl := HO1.out.1
      have z0 : ∃ a, wr.cell? ⟨g, i * 2, none⟩ = some a := by
        have := HO1.out.cells (g := g) rfl (i * 2) _ (List.getElem?_eq_getElem (by omega))
        rw [Addr.add_lit, Nat.zero_add] at this
        exact ⟨_, this⟩
      have z1 : ∃ a, wr.cell? ⟨g, i * 2 + 1, none⟩ = some a := by
        have := HO1.out.cells (g := g) rfl (i * 2 + 1) _ (List.getElem?_eq_getElem (by omega))
        rw [Addr.add_lit, Nat.zero_add] at this
        exact ⟨_, this⟩
      obtain ⟨a0, z0⟩ := z0
      obtain ⟨a1, z1⟩ := z1
      obtain ⟨cs, hcs⟩ : ∃ cs, Ar wr g 34 cs := by
        rcases HO1.out.2 with ⟨h, _⟩ | ⟨g', cap, cur, hv, _, h3, _⟩
        · cases h
        · injection hv with hv _ _
          injection hv with hv
          injection hv with hv _ _
          subst hv
          exact ⟨cur, h3⟩
      have f0 := hcs.free (i * 2)
      have f1 := hcs.free (i * 2 + 1)
      have hu := (upd_setCell wr g (i * 2) (.int .i64 (-1))).trans (upd_setCell _ g (i * 2 + 1) (.int .i64 0))
      have hgl := HR10.out g rfl
      have HS1 : Hid (∃ xs, ((wr.setCell ⟨g, i * 2, none⟩ (.int .i64 (-1))).setCell ⟨g, i * 2 + 1, none⟩ (.int .i64 0)).ownsRow w0.heap.size 34 2 (.slice (some ⟨g, 0, none⟩) P.sets.length cap1) P.sets.length xs ∧ Ar ((wr.setCell ⟨g, i * 2, none⟩ (.int .i64 (-1))).setCell ⟨g, i * 2 + 1, none⟩ (.int .i64 0)) bp1 27 (ptC P (.slice (some ⟨g, 0, none⟩) P.sets.length cap1)) ∧ Ar ((wr.setCell ⟨g, i * 2, none⟩ (.int .i64 (-1))).setCell ⟨g, i * 2 + 1, none⟩ (.int .i64 0)) bp2 27 (ptC P (.slice ao2 P.sets.length cap2)) ∧ Ar ((wr.setCell ⟨g, i * 2, none⟩ (.int .i64 (-1))).setCell ⟨g, i * 2 + 1, none⟩ (.int .i64 0)) bp3 27 (ptC P (.slice ao3 P.sets.length cap3)) ∧ ((wr.setCell ⟨g, i * 2, none⟩ (.int .i64 (-1))).setCell ⟨g, i * 2 + 1, none⟩ (.int .i64 0)).ownsRow wz1.heap.size 34 2 (.slice ao2 P.sets.length cap2) P.sets.length (stCells P.sets) ∧ ((wr.setCell ⟨g, i * 2, none⟩ (.int .i64 (-1))).setCell ⟨g, i * 2 + 1, none⟩ (.int .i64 0)).ownsRow wz2.heap.size 34 2 (.slice ao3 P.sets.length cap3) P.sets.length (stCells P.sets) ∧ Below w.heap.size w ((wr.setCell ⟨g, i * 2, none⟩ (.int .i64 (-1))).setCell ⟨g, i * 2 + 1, none⟩ (.int .i64 0)) ∧ (0 < i + 1 → xs[0]? = some (.int .i64 (-1)))) := hid' ⟨_, own_set (own_set HO1.out (i * 2) (.int .i64 (-1))) (i * 2 + 1) (.int .i64 0), hu.keep HP1.out (HP1.out.apart hcs (by decide)), hu.keep HP2.out (HP2.out.apart hcs (by decide)), hu.keep HP3.out (HP3.out.apart hcs (by decide)), own_same HO2.out (fun k hk => hu.block k (by have := (HO2.out.lt k hk).1; omega)), own_same HO3.out (fun k hk => hu.block k (by have := (HO3.out.lt k hk).1; have := HZ12.out; omega)), HB.out.trans (hu.below (by have := (HO1.out.lt g rfl).1; have := HBS.out; omega)), fun _ => by
        rw [List.getElem?_set_ne (by omega)]
        by_cases h0 : i = 0
        · subst h0
          rw [List.getElem?_set_self (by omega)]
        · rw [List.getElem?_set_ne (by omega)]
          exact HFC.out (by omega)⟩
      clear HO1 HP1 HP2 HP3 HO2 HO3 HB HFC hxl hcs hu hgl HX
      go_wp2
      go_roundw
      case rel => exact ⟨i + 1, by go_num, by omega, HS1⟩
      case measure => simp [intOf]; omega
    · have hlt2 : ¬ (i : Int) < (P.sets.length : Int) := by omega
      have hiN : i = P.sets.length := by omega
      have HS2 : Hid (∃ (v : Value) (n : Nat) (xs : List Value) (ao : Option Addr) (cap : Nat), v = .slice ao n cap ∧ n = P.sets.length + 0 ∧ wr.ownsRow w0.heap.size 34 2 v n xs ∧ Ar wr bp1 27 (ptC P v) ∧ Ar wr bp2 27 (ptC P (.slice ao2 P.sets.length cap2)) ∧ Ar wr bp3 27 (ptC P (.slice ao3 P.sets.length cap3)) ∧ (0 < P.sets.length → xs[0]? = some (.int .i64 (-1)) ∧ wr.ownsRow wz1.heap.size 34 2 (.slice ao2 P.sets.length cap2) P.sets.length (stCells P.sets) ∧ wr.ownsRow wz2.heap.size 34 2 (.slice ao3 P.sets.length cap3) P.sets.length (stCells P.sets)) ∧ Below w.heap.size w wr) := hid' (by
        obtain ⟨xs, h1, h2, h3, h4, h5, h6, h7, h8⟩ := HX.out
        exact ⟨_, _, xs, ao1, cap1, rfl, rfl, h1, h2, h3, h4, fun h => ⟨h8 (by omega), h5, h6⟩, h7⟩)
      clear HX hlt
      go_wp2
      go_loopw [10] (fun s10 wr => ∃ j : Nat, s10 = .int .i64 (j : Int) ∧ j ≤ 9 ∧ Hid (∃ (v : Value) (n : Nat) (xs : List Value) (ao : Option Addr) (cap : Nat), v = .slice ao n cap ∧ n = P.sets.length + j ∧ wr.ownsRow w0.heap.size 34 2 v n xs ∧ Ar wr bp1 27 (ptC P v) ∧ Ar wr bp2 27 (ptC P (.slice ao2 P.sets.length cap2)) ∧ Ar wr bp3 27 (ptC P (.slice ao3 P.sets.length cap3)) ∧ (0 < P.sets.length → xs[0]? = some (.int .i64 (-1)) ∧ wr.ownsRow wz1.heap.size 34 2 (.slice ao2 P.sets.length cap2) P.sets.length (stCells P.sets) ∧ wr.ownsRow wz2.heap.size 34 2 (.slice ao3 P.sets.length cap3) P.sets.length (stCells P.sets)) ∧ Below w.heap.size w wr)) (fun s10 _ => 9 - (intOf s10).toNat)
      case atStart => exact ⟨0, rfl, by omega, HS2⟩
      case round =>
        clear HS2 c7
        obtain ⟨j, rfl, hj, HX⟩ := hrel
        obtain ⟨n, xs, ao, cap, HN, HO, HP1, HP2, HP3, HRS, HB⟩ : ∃ (n : Nat) (xs : List Value) (ao : Option Addr) (cap : Nat), Hid (n = P.sets.length + j) ∧ Hid (wr.ownsRow w0.heap.size 34 2 (.slice ao n cap) n xs) ∧ Hid (Ar wr bp1 27 (ptC P (.slice ao n cap))) ∧ Hid (Ar wr bp2 27 (ptC P (.slice ao2 P.sets.length cap2))) ∧ Hid (Ar wr bp3 27 (ptC P (.slice ao3 P.sets.length cap3))) ∧ Hid (0 < P.sets.length → xs[0]? = some (.int .i64 (-1)) ∧ wr.ownsRow wz1.heap.size 34 2 (.slice ao2 P.sets.length cap2) P.sets.length (stCells P.sets) ∧ wr.ownsRow wz2.heap.size 34 2 (.slice ao3 P.sets.length cap3) P.sets.length (stCells P.sets)) ∧ Hid (Below w.heap.size w wr) := by
          obtain ⟨v, n, xs, ao, cap, rfl, h1, h2, h3, h4, h5, h6, h7⟩ := HX.out
          exact ⟨n, xs, ao, cap, h1, h2, h3, h4, h5, h6, h7⟩
        clear HX
        by_cases hj9 : j < 9
        · have hj9i : (j : Int) < 9 := by omega
          have p7 := HP1.out.cell 7 _ rfl
          have hnb : n ≤ 1048585 := by have := HN.out; omega
          go_wp2_with (at_builtin; refine wpList_append_own _ rfl _ _ 25 rfl w0.heap.size 34 i0 _ 2 16 Try.underlying25 HI.out HZ0.out HZ1.out HZ2.out rfl (by decide) _ _ _ rfl (World.ownsRow.alloc HO.out _) ⟨wr.heap.size, 0, none⟩ 1 1 [.int .i64 (-2), .int .i64 0] rfl rfl (two_new _ _ _ _) (fun u hu => by simp at hu; rcases hu with rfl | rfl <;> rfl) ?a1 ?a2 ?a3 ?_)
          case a1 => unfold maxLen; omega
          case a2 => omega
          case a3 => have := HP1.out.lt; have := HBP1.out; simp; omega
          intro vx w8 hown hgrow _
          obtain ⟨bo, capx, hvx⟩ : ∃ bo capx, vx = .slice bo (n + 1) capx := by
            rcases hown.2 with ⟨h, h0⟩ | ⟨g, cap, cur, h, _⟩
            · omega
            · exact ⟨_, _, h⟩
          subst hvx
          have hg8 := Fr_alloc hgrow
          have hb8 : Below w.heap.size w w8 := HB.out.trans (Below.of_grown hg8 (fun k hk => Nat.le_trans HBS.out (HO.out.lt k hk).1) HB.out.size)
          have ha1 := ar_grown HP1.out hg8 (own_apart HO.out HP1.out (by decide))
          have ha2 := ar_grown HP2.out hg8 (own_apart HO.out HP2.out (by decide))
          have ha3 := ar_grown HP3.out hg8 (own_apart HO.out HP3.out (by decide))
          have p8 := ha1.cell 7 _ rfl
          have f8 := ha1.free 7
          have hu9 := upd_setCell w8 bp1 7 (.slice bo (n + 1) capx)
          have hrow : ∀ (B' : Nat) (v' : Value), 0 < P.sets.length → wr.ownsRow B' 34 2 v' P.sets.length (stCells P.sets) → (w8.setCell ⟨bp1, 7, none⟩ (.slice bo (n + 1) capx)).ownsRow B' 34 2 v' P.sets.length (stCells P.sets) := fun B' v' h0 ho => by
            have h1 : w8.ownsRow B' 34 2 v' P.sets.length (stCells P.sets) := own_same ho (fun k hk => hg8.block k (ho.lt k hk).2 (fun e => by
              have e1 := own_first HO.out ho e.symm hk (by have := HN.out; omega) (by omega)
              obtain ⟨a, ha, e2⟩ := st_first P.sets h0
              rw [(HRS.out h0).1, e2] at e1
              injection e1 with e1
              injection e1 with _ e1
              have := HPOS.out a ha
              omega))
            exact own_same h1 (fun k hk => hu9.block k (own_apart h1 ha1 (by decide) k hk))
          have HS9 : Hid (∃ (v : Value) (nn : Nat) (xs : List Value) (ao : Option Addr) (cap : Nat), v = .slice ao nn cap ∧ nn = P.sets.length + (j + 1) ∧ (w8.setCell ⟨bp1, 7, none⟩ (.slice bo (n + 1) capx)).ownsRow w0.heap.size 34 2 v nn xs ∧ Ar (w8.setCell ⟨bp1, 7, none⟩ (.slice bo (n + 1) capx)) bp1 27 (ptC P v) ∧ Ar (w8.setCell ⟨bp1, 7, none⟩ (.slice bo (n + 1) capx)) bp2 27 (ptC P (.slice ao2 P.sets.length cap2)) ∧ Ar (w8.setCell ⟨bp1, 7, none⟩ (.slice bo (n + 1) capx)) bp3 27 (ptC P (.slice ao3 P.sets.length cap3)) ∧ (0 < P.sets.length → xs[0]? = some (.int .i64 (-1)) ∧ (w8.setCell ⟨bp1, 7, none⟩ (.slice bo (n + 1) capx)).ownsRow wz1.heap.size 34 2 (.slice ao2 P.sets.length cap2) P.sets.length (stCells P.sets) ∧ (w8.setCell ⟨bp1, 7, none⟩ (.slice bo (n + 1) capx)).ownsRow wz2.heap.size 34 2 (.slice ao3 P.sets.length cap3) P.sets.length (stCells P.sets)) ∧ Below w.heap.size w (w8.setCell ⟨bp1, 7, none⟩ (.slice bo (n + 1) capx))) := hid' ⟨_, n + 1, _, bo, capx, rfl, by have := HN.out; omega, own_same hown (fun k hk => hu9.block k (own_apart hown ha1 (by decide) k hk)), ha1.set 7 _, hu9.keep ha2 HNB12.out, hu9.keep ha3 HNB13.out, fun h0 => ⟨by
            rw [List.getElem?_append_left (by have := HO.out.1; have := HN.out; omega)]
            exact (HRS.out h0).1, hrow _ _ h0 (HRS.out h0).2.1, hrow _ _ h0 (HRS.out h0).2.2⟩, hb8.trans (hu9.below (Nat.le_trans HBS.out HBP1.out))⟩
          clear hown hgrow hg8 hb8 ha1 ha2 ha3 hu9 hrow p7 HO HP1 HP2 HP3 HRS HB HN
          go_wp2
          go_roundw
          case rel => exact ⟨j + 1, by go_num, by omega, HS9⟩
          case measure => simp [intOf]; omega
        · have hj9i : ¬ (j : Int) < 9 := by omega
          have HSZ := hid' (Nat.le_trans (Nat.le_of_lt HP1.out.lt) (Nat.le_refl _))
          go_wp2_with fail
          refine (awake7 _).mono ?_
          rintro e wk ⟨rfl, hbk⟩
          obtain ⟨x0, x1, x2, x3, x4, x5, x6, x7⟩ := pt_cells (HP2.out.keep hbk)
          obtain ⟨y0, y1, y2, y3, y4, y5, y6, y7⟩ := pt_cells (HP3.out.keep hbk)
          have HR2 : Hid (SR wk (.slice ao2 P.sets.length cap2) P.sets) := hid' (by
            by_cases h0 : 0 < P.sets.length
            · exact (SR.of_own (HRS.out h0).2.1).keep hbk
            · exact HSR2.out.nil_any h0)
          have HR3 : Hid (SR wk (.slice ao3 P.sets.length cap3) P.sets) := hid' (by
            by_cases h0 : 0 < P.sets.length
            · exact (SR.of_own (HRS.out h0).2.2).keep hbk
            · exact HSR3.out.nil_any h0)
          have HBk := hid' (HB.out.trans (hbk.mono HB.out.size))
          clear hbk
          go_wp2_with fail
          refine (csame_yes P _ _ _ HR2.out HR3.out (by omega)).mono ?_
          rintro e wm ⟨rfl, hbm⟩
          have HBm := hid' (HBk.out.trans (hbm.mono HBk.out.size))
          clear hbm
          go_wp2
          go_ret
          exact ⟨rfl, HBm.out⟩

theorem Fm.sets_data' (n : Nat) (l : List UInt8) (acc : List (Int × Int)) (p : Fm.Pt) (h : Fm.sets n l acc = .ok p) : p.data = [] := by
  induction n generalizing l acc with
  | zero => simp only [Fm.sets] at h; injection h with h; subst h; rfl
  | succ n ih =>
    simp only [Fm.sets] at h
    split at h
    · exact ih _ _ h
    · cases h
theorem Fm.parse_data' {k fl st : Int} {l : List UInt8} {p : Fm.Pt} (h : Fm.parse k fl st l = .ok p) : p.data.length ≤ l.length := by
  obtain ⟨_, _, hs⟩ := Fm.parse_ok h
  by_cases hk : k = 4
  · subst hk
    have h2 : Fm.sets (l.length / 6) l [] = .ok p := by rw [← hs]; simp [Fm.say]
    rw [Fm.sets_data' _ _ _ _ h2]; simp
  · unfold Fm.say at hs
    simp only [hk, if_false] at hs
    repeat' (split at hs)
    all_goals (first | (injection hs with hs; subst hs; simp [Fm.prio, Fm.none']; try omega) | cases hs)
theorem Fm.sets_pos (n : Nat) (l : List UInt8) (acc : List (Int × Int)) (p : Fm.Pt) (h : Fm.sets n l acc = .ok p) (ha : ∀ s ∈ acc, 0 ≤ s.1) : ∀ s ∈ p.sets, 0 ≤ s.1 := by
  induction n generalizing l acc with
  | zero => simp only [Fm.sets] at h; injection h with h; subst h; exact ha
  | succ n ih =>
    simp only [Fm.sets] at h
    split at h
    · refine ih _ _ h (fun s hs => ?_)
      rw [List.mem_append] at hs
      rcases hs with hs | hs
      · exact ha s hs
      · simp at hs
        subst hs
        simp
    · cases h

theorem frameParses_true (k fl st : Int) (l : List UInt8) (w : World) (hl : l.length ≤ 1048576) :
    Calls Try.prog 3 #[.agg (frC k fl st l)] w fun e w' => e = .returned (.bool true) ∧ Below w.heap.size w w' := by
  cases hp : Fm.parse k fl st l with
  | bad c ec =>
    refine fparses k fl st l Fm.none' true c ec (by simp [Fm.none']) (by simp [Fm.none']) (fun w => (cparse_bad k fl st l c ec hp (by omega) w).mono fun e w' h => ⟨⟨.slice none 0 0, h.1, World.ownsRow_nil _ _ _ _⟩, h.2⟩) (fun w => ?_) w
    by_cases hk : k = 4
    · subst hk
      exact (rparse_settings fl st l _ (by omega) hp w).mono fun e w' h => ⟨⟨.slice none 0 0, by obtain ⟨⟨v, hv, _⟩, _⟩ := h; exact hv, World.ownsRow_nil _ _ _ _⟩, h.2⟩
    · exact (rparse_any k fl st hk l _ (by omega) hp w).mono fun e w' h => ⟨⟨.slice none 0 0, h.1, World.ownsRow_nil _ _ _ _⟩, h.2⟩
  | ok p =>
    have hlen := Fm.parse_len hp
    have hdat := Fm.parse_data' hp
    obtain ⟨_, _, hs⟩ := Fm.parse_ok hp
    refine fparses k fl st l p false false 0 (by omega) ?_ (fun w => (cparse_ok k fl st l p hp (by omega) (by omega) w).mono fun e w' h => ⟨by obtain ⟨⟨v, hv, hv2⟩, _⟩ := h; exact ⟨v, hv, hv2.out p rfl⟩, h.2⟩) (fun w => ?_) w
    · by_cases hk : k = 4
      · subst hk
        have h2 : Fm.sets (l.length / 6) l [] = .ok p := by rw [← hs]; simp [Fm.say]
        exact Fm.sets_pos _ _ _ _ h2 (by simp)
      · rw [Fm.say_sets hk hs]; simp
    · by_cases hk : k = 4
      · subst hk
        exact (rparse_settings fl st l _ (by omega) hp w).mono fun e w' h => ⟨by obtain ⟨⟨v, hv, hv2⟩, _⟩ := h; exact ⟨v, hv, hv2.out p rfl⟩, h.2⟩
      · have h0 := Fm.say_sets hk hs
        exact (rparse_any k fl st hk l _ (by omega) hp w).mono fun e w' h => ⟨⟨.slice none 0 0, h.1, by rw [h0]; exact World.ownsRow_nil _ _ _ _⟩, h.2⟩

theorem frameParses_c (k fl st : Int) (s : ByteArray) (w : World) (h : s.size ≤ 1048576) : Calls Try.prog 3 #[.agg #[.int .i64 k, .int .i64 fl, .int .i64 st, .string s]] w fun e w' => e = .returned (.bool true) ∧ Below w.heap.size w w' := by
  have hs : s = ⟨s.data.toList.toArray⟩ := by cases s; simp
  have h2 := frameParses_true k fl st s.data.toList w (by rw [← Lib.size_eq]; exact h)
  unfold frC at h2
  rw [← hs] at h2
  exact h2

end Go.Proofs.Ythgdokcdpmoeeaa
