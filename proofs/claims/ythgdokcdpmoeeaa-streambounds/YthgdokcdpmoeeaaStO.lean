/-
  (*Book).move: by its contract.
-/
import Derived.Test.YthgdokcdpmoeeaaStN
namespace Go.Proofs.Ythgdokcdpmoeeaa
open Go.RowKit

theorem smove_same (B b : Nat) (k : Sm.Bk) (v u : Value) (n p : Nat) (w : World) (h : BK w B b k v u) :
    Calls Try.prog 47 #[.pointer (some ⟨b, 0, none⟩), .int .i64 (n : Int), .int .u8 (p : Int), .int .u8 (p : Int)] w fun e w' => e = .returned (.tuple #[]) ∧ BK w' B b k v u ∧ KF B w w' := by
  have H := hid' h
  clear h
  go_enter Try.func47, Try.ntmps47
  go_wp2
  first | go_end0 | ((try simp only [Exit.inBlock, Exit.then]); refine bodyPost_ret (results_none rfl _ _ _) rfl ?_)
  exact ⟨rfl, H.out, KF.refl _ _⟩

set_option maxHeartbeats 4000000 in
set_option maxRecDepth 20000 in
theorem smove_over (B b : Nat) (k : Sm.Bk) (v u : Value) (n : Nat) (w : World) (h : BK w B b k v u) (hm : n ∈ k.dr) (hok : Sm.Ok { k with dr := k.dr.erase n }) :
    Calls Try.prog 47 #[.pointer (some ⟨b, 0, none⟩), .int .i64 (n : Int), .int .u8 5, .int .u8 4] w fun e w' => e = .returned (.tuple #[]) ∧ (∃ u', BK w' B b { k with dr := k.dr.erase n } v u') ∧ KF B w w' := by
  have c3 := h.cells.2.2.2.1
  obtain ⟨i, hi, hil⟩ := find_mem hm
  have HX := hid' (sindex_any u k.dr n (i : Int) (by rw [hi]) w (RR.of_own h.dr) h.drn)
  have HD := hid' (sdelI_any B u k.dr.length i (i + 1) (idCells k.dr) w h.dr hil rfl h.drn (id_one _))
  have hib : i ≤ 65536 := by have := h.drn; omega
  have HIL := hid' hil
  have HE := hid' (erase_at k.dr n i hi)
  obtain ⟨ao, cap, hu⟩ := own_shape h.dr
  obtain ⟨m, hmm⟩ : ∃ m, k.dr.length = m := ⟨_, rfl⟩
  have H := hid' h
  have HOK := hid' hok
  have HM := hid' hmm
  rw [hmm] at hu
  subst hu
  rw [hmm] at HD HIL
  clear h hok hm hi hil hmm
  obtain ⟨j, hj⟩ : ∃ j, i + 1 = j := ⟨_, rfl⟩
  have hji : ((i : Int) + 1) = (j : Int) := by omega
  rw [hj] at HD HE
  have HJ := hid' hj
  clear hj
  go_enter Try.func47, Try.ntmps47
  go_wp2_with fail
  refine HX.out.mono ?_
  rintro e w1 ⟨rfl, hw1⟩
  subst w1
  go_wp2_with fail
  try rw [hji]
  refine HD.out.mono ?_
  rintro e w1 ⟨⟨u1, rfl, hown1⟩, hg1⟩
  rw [Nat.mul_one, Nat.mul_one, idCells_drop, idCells_take, ← idCells_append, ← HE.out] at hown1
  obtain ⟨bo, cap1, hu1⟩ := own_shape hown1
  subst hu1
  have hlen : (k.dr.erase n).length = m - 1 := by rw [HE.out, List.length_append, List.length_take, List.length_drop, HM.out]; have := HIL.out; have := HJ.out; omega
  obtain ⟨ha1, hk1, hf1⟩ := H.out.newDr hg1 (dr' := k.dr.erase n) (by rw [hlen]; exact hown1) HOK.out
  have c31 := ha1.cell 3 _ rfl
  have f31 := ha1.free 3
  have HK1 := hid' hk1
  have HF1 := hid' hf1
  clear hown1 hg1 ha1 hk1 hf1 hlen c3
  go_wp2
  first | go_end0 | ((try simp only [Exit.inBlock, Exit.then]); refine bodyPost_ret (results_none rfl _ _ _) rfl ?_)
  exact ⟨rfl, ⟨_, HK1.out⟩, HF1.out⟩

set_option maxHeartbeats 4000000 in
set_option maxRecDepth 20000 in
theorem smove_set (B b : Nat) (k : Sm.Bk) (v u : Value) (n fr to : Nat) (w : World) (h : BK w B b k v u) (hl : Sm.look k.op n = some fr) (hf1 : fr ≤ 3) (ht1 : 1 ≤ to) (ht3 : to ≤ 3) (hne : fr ≠ to) (hok : Sm.Ok { k with op := Sm.setPh k.op n to }) :
    Calls Try.prog 47 #[.pointer (some ⟨b, 0, none⟩), .int .i64 (n : Int), .int .u8 (fr : Int), .int .u8 (to : Int)] w fun e w' => e = .returned (.tuple #[]) ∧ BK w' B b { k with op := Sm.setPh k.op n to } v u ∧ KF B w w' := by
  have H := hid' h
  have HOK := hid' hok
  have HL := hid' hl
  have hopn : Sm.isOpen to = true := by
    unfold Sm.isOpen
    simp; omega
  have HO := hid' (sisOpen_any to (by omega))
  rw [hopn] at HO
  have q1 : ((fr : Int) == (to : Int)) = false := by simp; omega
  have q2 : (fr == to) = false := by simp; omega
  have q3 : ((fr : Int) == 5) = false := by simp; omega
  have q4 : (fr == 5) = false := by simp; omega
  clear h hok hl hopn ht1 ht3 hf1
  go_enter Try.func47, Try.ntmps47
  go_wp2_with fail
  refine (sfind_any B b k v u n w H.out).mono ?_
  rintro e w1 ⟨⟨q, rfl, hq⟩, hb1⟩
  obtain ⟨i, fb⟩ := q
  have HB1 := hid' hb1
  have hk1 := H.out.keep hb1
  have HK1 := hid' hk1
  have hs2 := hk1.cells.2.2.1
  clear hb1 hk1 q1 q2 q3 q4 hne
  simp only at hq ⊢
  rcases hq with ⟨rfl, ph, hph⟩ | ⟨rfl, hno⟩
  · have hil := (List.getElem?_eq_some_iff.1 hph).1
    have hlen := H.out.opn
    obtain ⟨g, cap, cur, rfl, _⟩ : ∃ g cap, ∃ cur : Nat, v = .slice (some ⟨g, 0, none⟩) k.op.length cap ∧ cur = 0 := by
      rcases HK1.out.op.2 with ⟨_, h0⟩ | ⟨g, cap, cur, hv, _⟩
      · omega
      · exact ⟨g, cap, 0, hv, rfl⟩
    have hcell : w1.cell? ⟨g, i * 2 + 1, none⟩ = some (.int .u8 (ph : Int)) := by
      have := HK1.out.op.cells (g := g) rfl (i * 2 + 1) _ (en_at _ _ _ hph).2
      rwa [Addr.add_lit, Nat.zero_add] at this
    obtain ⟨_, cs, hcs⟩ := own_ty HK1.out.op g rfl
    have hfr : w1.frozen? ⟨g, i * 2 + 1, none⟩ = false := Ar.free (t := 81) (c := cs) hcs _
    have HFIN := hid' (HK1.out.setOp hph HOK.out)
    obtain ⟨m, hm⟩ : ∃ m, k.op.length = m := ⟨_, rfl⟩
    rw [hm] at hil hlen hs2
    have hil2 : (i : Int) < (m : Int) := by omega
    have HM := hid' hm
    have HSZ := hid' H.out.size
    clear hph H HK1 hm hcs HOK HL
    go_wp2_with fail
    refine (HO.out _).mono ?_
    rintro e w2 ⟨rfl, hw2⟩
    subst w2
    go_wp2
    first | go_end0 | ((try simp only [Exit.inBlock, Exit.then]); refine bodyPost_ret (results_none rfl _ _ _) rfl ?_)
    exact ⟨rfl, HFIN.out.1, (KF.of_below HB1.out HSZ.out).trans HFIN.out.2⟩
  · have := HL.out
    rw [Sm.look_none.2 hno] at this
    cases this

set_option maxHeartbeats 4000000 in
set_option maxRecDepth 20000 in
/-- A stream that is open no more. -/
theorem smove_cut (B b : Nat) (k k' : Sm.Bk) (v u : Value) (n fr to : Nat) (w : World) (h : BK w B b k v u) (hl : Sm.look k.op n = some fr) (hf1 : fr ≤ 3) (ht : (to = 4 ∧ k' = { k with op := Sm.cutPh k.op n }) ∨ (to = 5 ∧ k' = Sm.drop { k with op := Sm.cutPh k.op n } n ∧ Sm.Ok k')) (hok : Sm.Ok { k with op := Sm.cutPh k.op n }) :
    Calls Try.prog 47 #[.pointer (some ⟨b, 0, none⟩), .int .i64 (n : Int), .int .u8 (fr : Int), .int .u8 (to : Int)] w fun e w' => e = .returned (.tuple #[]) ∧ (∃ v' u', BK w' B b k' v' u') ∧ KF B w w' := by
  have H := hid' h
  have HOK := hid' hok
  have HL := hid' hl
  have HT := hid' ht
  have hto : to = 4 ∨ to = 5 := by omega
  have HO := hid' (sisOpen_any to (by omega))
  rw [show Sm.isOpen to = false by rcases hto with rfl | rfl <;> rfl] at HO
  have q1 : ((fr : Int) == (to : Int)) = false := by simp; omega
  have q2 : (fr == to) = false := by simp; omega
  have q3 : ((fr : Int) == 5) = false := by simp; omega
  have q4 : (fr == 5) = false := by simp; omega
  have q5 : ¬ fr = to := by omega
  have HTO := hid' hto
  clear h hok hl ht hf1 hto
  go_enter Try.func47, Try.ntmps47
  go_wp2_with fail
  refine (sfind_any B b k v u n w H.out).mono ?_
  rintro e w1 ⟨⟨q, rfl, hq⟩, hb1⟩
  obtain ⟨i, fb⟩ := q
  have HB1 := hid' hb1
  have hk1 := H.out.keep hb1
  have HK1 := hid' hk1
  have hs2 := hk1.cells.2.2.1
  clear hb1 hk1 q1 q2 q3 q4 q5
  simp only at hq ⊢
  rcases hq with ⟨rfl, ph, hph⟩ | ⟨rfl, hno⟩
  · have hil := (List.getElem?_eq_some_iff.1 hph).1
    have HD := hid' (sdelE_any B v k.op.length i (i + 1) (enCells k.op) w1 HK1.out.op hil rfl HK1.out.opn (en_one _))
    have hib : i ≤ 65536 := by have := HK1.out.opn; omega
    have HE := hid' (cut_at H.out.ok.srt hph)
    obtain ⟨ao, cap, hv⟩ := own_shape H.out.op
    obtain ⟨m, hmm⟩ : ∃ m, k.op.length = m := ⟨_, rfl⟩
    have HM := hid' hmm
    have HIL := hid' hil
    rw [hmm] at hv HD HIL
    subst hv
    obtain ⟨j, hj⟩ : ∃ j, i + 1 = j := ⟨_, rfl⟩
    have hji : ((i : Int) + 1) = (j : Int) := by omega
    rw [hj] at HD HE
    have HJ := hid' hj
    clear hj hil hmm hph HL
    go_wp2_with fail
    refine (HO.out _).mono ?_
    rintro e w2 ⟨rfl, hw2⟩
    subst w2
    go_wp2_with fail
    try rw [hji]
    refine HD.out.mono ?_
    rintro e w2 ⟨⟨u1, rfl, hown1⟩, hg1⟩
    rw [enCells_drop, enCells_take, ← enCells_append, ← HE.out] at hown1
    obtain ⟨bo, cap1, hu1⟩ := own_shape hown1
    subst hu1
    have hlen : (Sm.cutPh k.op n).length = m - 1 := by rw [HE.out, List.length_append, List.length_take, List.length_drop, HM.out]; have := HIL.out; have := HJ.out; omega
    obtain ⟨ha1, hk1, hf1⟩ := HK1.out.newOp hg1 (op' := Sm.cutPh k.op n) (by rw [hlen]; exact hown1) HOK.out
    have c21 := ha1.cell 2 _ rfl
    have f21 := ha1.free 2
    have HF1 := hid' ((KF.of_below HB1.out H.out.size).trans hf1)
    have HK2 := hid' hk1
    clear hown1 hg1 ha1 hk1 hf1 hlen hs2 HK1 HD
    rcases HTO.out with rfl | rfl
    · have HF : Hid (k' = { k with op := Sm.cutPh k.op n }) := hid' (by rcases HT.out with h | h; exact h.2; exact absurd h.1 (by decide))
      go_wp2
      first | go_end0 | ((try simp only [Exit.inBlock, Exit.then]); refine bodyPost_ret (results_none rfl _ _ _) rfl ?_)
      exact ⟨rfl, ⟨_, _, by rw [HF.out]; exact HK2.out⟩, HF1.out⟩
    · have HF : Hid (k' = Sm.drop { k with op := Sm.cutPh k.op n } n ∧ Sm.Ok k') := hid' (by rcases HT.out with h | h; exact absurd h.1 (by decide); exact h.2)
      go_wp2_with fail
      refine (sdrop_any B b _ _ _ n _ HK2.out (by rw [← HF.out.1]; exact HF.out.2)).mono ?_
      rintro e w3 ⟨rfl, ⟨u3, hk3⟩, hf3⟩
      rw [← HF.out.1] at hk3
      have HK3 := hid' hk3
      have HF3 := hid' (HF1.out.trans hf3)
      clear hk3 hf3
      go_wp2
      first | go_end0 | ((try simp only [Exit.inBlock, Exit.then]); refine bodyPost_ret (results_none rfl _ _ _) rfl ?_)
      exact ⟨rfl, ⟨_, _, HK3.out⟩, HF3.out⟩
  · have := HL.out
    rw [Sm.look_none.2 hno] at this
    cases this

end Go.Proofs.Ythgdokcdpmoeeaa
