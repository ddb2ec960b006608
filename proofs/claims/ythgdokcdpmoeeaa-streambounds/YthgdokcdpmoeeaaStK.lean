/-
  (*Book).drop: by its contract.
-/
import Derived.Test.YthgdokcdpmoeeaaStJ
namespace Go.Proofs.Ythgdokcdpmoeeaa
open Go.RowKit

theorem ar_grown {w w' : World} {b : Nat} {T : TypeId} {c : Array Value} {row : Option Nat} (h : Ar w b T c) (hg : w.grownBy w' row) (hn : ∀ k, row = some k → k ≠ b) : Ar w' b T c := by
  have hl := h.lt
  unfold Ar at *
  rw [hg.block b hl (fun e => hn b e.symm rfl)]; exact h
theorem own_lt {w : World} {B : Nat} {e : TypeId} {s : Nat} {v : Value} {n : Nat} {xs : List Value} (h : w.ownsRow B e s v n xs) : ∀ k, v.ownBlock = some k → k < w.heap.size := fun k hk => by
  obtain ⟨_, cs, h2⟩ := own_ty h k hk
  exact (Array.getElem?_eq_some_iff.1 h2).1
theorem own_own {w : World} {B B' : Nat} {e e' : TypeId} {s s' : Nat} {v v' : Value} {n n' : Nat} {xs xs' : List Value} (h : w.ownsRow B e s v n xs) (h' : w.ownsRow B' e' s' v' n' xs') (hne : e ≠ e') : ∀ k, v.ownBlock = some k → some k ≠ v'.ownBlock := by
  intro k hk he
  obtain ⟨_, cs, h1⟩ := own_ty h k hk
  obtain ⟨_, cs', h2⟩ := own_ty h' k he.symm
  rw [h1] at h2
  injection h2 with h2
  injection h2 with _ hT _
  exact hne hT
theorem own_grown {w w' : World} {B : Nat} {e : TypeId} {s : Nat} {v : Value} {n : Nat} {xs : List Value} {row : Option Nat} (h : w.ownsRow B e s v n xs) (hg : w.grownBy w' row) (hn : ∀ k, v.ownBlock = some k → some k ≠ row) : w'.ownsRow B e s v n xs :=
  own_same h fun k hk => hg.block k (own_lt h k hk) (hn k hk)
theorem BK.drew {w : World} {B b : Nat} {k : Sm.Bk} {v u : Value} (h : BK w B b k v u) : BK w.drew B b k v u := ⟨h.lo, h.hd, h.op, h.dr, h.ok⟩
theorem KF.drew {B : Nat} {w w' : World} (h : KF B w w') : KF B w w'.drew := ⟨⟨h.bel.os, h.bel.tape, h.bel.output, h.bel.size, h.bel.block⟩, h.oth⟩
theorem BK.drewN {w : World} {B b : Nat} {k : Sm.Bk} {v u : Value} (h : BK w B b k v u) (q : Nat) : BK (w.drewN q) B b k v u := ⟨h.lo, h.hd, h.op, h.dr, h.ok⟩
theorem KF.drewN {B : Nat} {w w' : World} (q : Nat) (h : KF B (w.drewN q) w') : KF B w w' := ⟨⟨h.bel.os, h.bel.tape, h.bel.output, h.bel.size, h.bel.block⟩, h.oth⟩

/-- A book whose dropped ones lie in another row, or in their own that has changed. -/
theorem BK.newDr {w w1 : World} {B b : Nat} {k : Sm.Bk} {v u u' : Value} {dr' : List Nat} (h : BK w B b k v u) (hg : w.grownBy w1 u.ownBlock) (ho : w1.ownsRow B 3 1 u' dr'.length (idCells dr')) (hok : Sm.Ok { k with dr := dr' }) :
    Ar w1 b 79 #[.int .i64 (k.most : Int), .int .i64 (k.last : Int), v, u, .bool k.st, .int .i64 (k.pa : Int)] ∧ BK (w1.setCell ⟨b, 3, none⟩ u') B b { k with dr := dr' } v u' ∧ KF B w (w1.setCell ⟨b, 3, none⟩ u') := by
  have ha := ar_grown h.hd hg (own_apart h.dr h.hd (by decide))
  have hu := upd_setCell w1 b 3 u'
  have hop := own_grown h.op hg (own_own h.op h.dr (by decide))
  exact ⟨ha, ⟨h.lo, ha.set 3 u', own_same hop (fun j hj => hu.block j (own_apart hop ha (by decide) j hj)), own_same ho (fun j hj => hu.block j (own_apart ho ha (by decide) j hj)), hok⟩, (KF.of_grown hg h.dr (.inr rfl) h.size).trans (KF.of_upd hu ha h.lo)⟩
/-- A book whose open ones lie in another row, or in their own that has changed. -/
theorem BK.newOp {w w1 : World} {B b : Nat} {k : Sm.Bk} {v u v' : Value} {op' : List (Nat × Nat)} (h : BK w B b k v u) (hg : w.grownBy w1 v.ownBlock) (ho : w1.ownsRow B 81 2 v' op'.length (enCells op')) (hok : Sm.Ok { k with op := op' }) :
    Ar w1 b 79 #[.int .i64 (k.most : Int), .int .i64 (k.last : Int), v, u, .bool k.st, .int .i64 (k.pa : Int)] ∧ BK (w1.setCell ⟨b, 2, none⟩ v') B b { k with op := op' } v' u ∧ KF B w (w1.setCell ⟨b, 2, none⟩ v') := by
  have ha := ar_grown h.hd hg (own_apart h.op h.hd (by decide))
  have hu := upd_setCell w1 b 2 v'
  have hdr := own_grown h.dr hg (own_own h.dr h.op (by decide))
  exact ⟨ha, ⟨h.lo, ha.set 2 v', own_same ho (fun j hj => hu.block j (own_apart ho ha (by decide) j hj)), own_same hdr (fun j hj => hu.block j (own_apart hdr ha (by decide) j hj)), hok⟩, (KF.of_grown hg h.op (.inl rfl) h.size).trans (KF.of_upd hu ha h.lo)⟩
/-- Another block was written: the book is as it was. -/
theorem BK.other {w w' : World} {B b c : Nat} {k : Sm.Bk} {v u : Value} {T : TypeId} {cs : Array Value} (h : BK w B b k v u) (hu : Upd c w w') (ha : Ar w c T cs) (h1 : T ≠ 79) (h2 : T ≠ 81) (h3 : T ≠ 3) : BK w' B b k v u :=
  ⟨h.lo, hu.keep h.hd (h.hd.apart ha (fun e => h1 e.symm)), own_same h.op (fun j hj => hu.block j (own_apart h.op ha h2 j hj)), own_same h.dr (fun j hj => hu.block j (own_apart h.dr ha h3 j hj)), h.ok⟩
/-- Since w a block that is new was written. -/
theorem KF.new {B c : Nat} {w w1 w2 : World} (h : KF B w w1) (hu : Upd c w1 w2) (hc : w.heap.size ≤ c) (hB : B ≤ w.heap.size) : KF B w w2 :=
  ⟨h.bel.trans (hu.below (Nat.le_trans hB hc)), fun j cs T hj a b d => (hu.block j (fun e => by have := (Array.getElem?_eq_some_iff.1 hj).1; omega)).trans (h.oth j cs T hj a b d)⟩
theorem ok_tail {k : Sm.Bk} (h : Sm.Ok k) : Sm.Ok { k with dr := k.dr.drop 1 } :=
  ⟨h.m1, h.m2, h.srt, h.ops, h.len, fun m hm => h.drs m (List.mem_of_mem_drop hm), h.dnd.sublist (List.drop_sublist _ _), by have := h.dln; simp only [List.length_drop]; omega, h.l1, h.l2, h.pas⟩
theorem id_one (l : List Nat) : ∀ u ∈ idCells l, u.oneCell' = true := by
  intro u hu
  simp only [idCells, List.mem_map] at hu
  obtain ⟨x, _, rfl⟩ := hu
  rfl
theorem en_one (l : List (Nat × Nat)) : ∀ u ∈ enCells l, u.oneCell' = true := by
  intro u hu
  simp only [enCells, List.mem_flatMap] at hu
  obtain ⟨x, _, hu⟩ := hu
  simp at hu
  rcases hu with rfl | rfl <;> rfl
theorem idCells_drop (l : List Nat) (n : Nat) : (idCells l).drop n = idCells (l.drop n) := by simp [idCells, List.map_drop]
theorem idCells_take (l : List Nat) (n : Nat) : (idCells l).take n = idCells (l.take n) := by simp [idCells, List.map_take]

set_option maxHeartbeats 4000000 in
set_option maxRecDepth 20000 in
/-- The row of dropped ones gets one more. -/
theorem sdrop_any (B b : Nat) (k : Sm.Bk) (v u : Value) (n : Nat) (w : World) (h : BK w B b k v u) (hok : Sm.Ok (Sm.drop k n)) :
    Calls Try.prog 80 #[.pointer (some ⟨b, 0, none⟩), .int .i64 (n : Int)] w fun e w' => e = .returned (.tuple #[]) ∧ (∃ u', BK w' B b (Sm.drop k n) v u') ∧ KF B w w' := by
  obtain ⟨i0, hi, hz0, hz1, hz2⟩ := sinfo_parts sinfoI
  have HI := hid' hi
  have HZ0 := hid' hz0
  have HZ1 := hid' hz1
  have HZ2 := hid' hz2
  clear hi hz0 hz1 hz2
  have c0 := h.cells.1
  have c3 := h.cells.2.2.2.1
  have f3 := h.hd.free 3
  obtain ⟨ao, cap, hu⟩ := own_shape h.dr
  have hlen := h.drn
  have H := hid' h
  have HOK := hid' hok
  obtain ⟨m, hm⟩ : ∃ m, k.dr.length = m := ⟨_, rfl⟩
  obtain ⟨M, hM⟩ : ∃ M, k.most = M := ⟨_, rfl⟩
  have HM := hid' hm
  have HMM := hid' hM
  rw [hm] at hu hlen
  rw [hM] at c0
  subst hu
  have hM2 : M ≤ 65536 := by rw [← hM]; exact h.ok.m2
  have hM1 : 1 ≤ M := by rw [← hM]; exact h.ok.m1
  clear h hok hm hM
  by_cases hfull : m = M
  · subst hfull
    have hfi : ((m : Int) == (m : Int)) = true := by simp
    have HD := hid' (ok_tail H.out.ok)
    have HDK : Hid (Sm.drop k n = { k with dr := k.dr.drop 1 ++ [n] }) := hid' (by unfold Sm.drop; rw [if_pos (by rw [HM.out, HMM.out])])
    have HDR : Hid (∀ q, (w.drewN q).ownsRow B 3 1 (.slice ao m cap) m (idCells k.dr)) := hid' (fun q => by have := (H.out.drewN q).dr; rw [HM.out] at this; exact this)
    go_enter Try.func80, Try.ntmps80
    go_wp2
    go_quiet (fail)
    go_wp2_with fail
    refine (sdelI_any B _ m 0 1 (idCells k.dr) _ (HDR.out _) (by omega) rfl hlen (id_one _)).mono ?_
    rintro e w1 ⟨⟨u1, rfl, hown1⟩, hg1⟩
    rw [Nat.zero_mul, List.take_zero, List.nil_append, Nat.mul_one, idCells_drop] at hown1
    obtain ⟨ha1, hk1, hf1⟩ := (H.out.drewN _).newDr hg1 (dr' := k.dr.drop 1) (by rw [List.length_drop, HM.out]; exact hown1) HD.out
    have c31 := ha1.cell 3 _ rfl
    have f31 := ha1.free 3
    obtain ⟨D, hD⟩ : ∃ D, k.dr.drop 1 = D := ⟨_, rfl⟩
    rw [hD] at hk1
    obtain ⟨mm, hmm⟩ : ∃ mm, D.length = mm := ⟨_, rfl⟩
    have hmmb : mm ≤ 65536 := by rw [← hmm, ← hD, List.length_drop, HM.out]; omega
    have HD2 := hid' hmm
    obtain ⟨bo, cap1, hu1⟩ := own_shape hown1
    subst hu1
    obtain ⟨W1, hW1⟩ : ∃ W1, w1.setCell ⟨b, 3, none⟩ (.slice bo (m - 1) cap1) = W1 := ⟨_, rfl⟩
    rw [hW1] at hk1 hf1
    have HK1 := hid' hk1
    have HF1 := hid' (hf1.drewN)
    have HOKD : Hid (Sm.Ok { k with dr := D ++ [n] }) := hid' (by have := HOK.out; rw [HDK.out, hD] at this; exact this)
    rw [hD] at HDK
    have cW3 := hk1.cells.2.2.2.1
    have fW3 := hk1.hd.free 3
    clear hown1 hg1 ha1 hk1 hf1 c0 c3 f3 hD hmm
    go_upto_region 2 with fail
    try rw [hW1]
    clear hW1 c31 f31
    obtain ⟨xs, hxs'⟩ : ∃ xs, idCells D = xs := ⟨_, rfl⟩
    have HROW : Hid (W1.ownsRow B 3 1 (.slice bo (m - 1) cap1) mm xs) := hid' (by rw [← hxs', ← HD2.out]; exact HK1.out.dr)
    have HXX := hid' hxs'
    clear hxs'
    go_wp2_with (at_builtin; refine wpList_append_own _ rfl _ _ 52 rfl B 3 i0 _ 1 8 Try.underlying52 HI.out HZ0.out HZ1.out HZ2.out rfl (by decide) _ _ _ rfl (World.ownsRow.alloc HROW.out _) ⟨W1.heap.size, 0, none⟩ 1 1 [.int .i64 (n : Int)] rfl rfl (one_new _ _ _) (fun u hu => by simp at hu; rw [hu]; rfl) ?a1 ?a2 ?a3 ?_)
    case a1 => unfold maxLen; omega
    case a2 => omega
    case a3 => have := HK1.out.size; simp; omega
    intro vx w8 hown hgrow _
    obtain ⟨bo2, cap2, hvx⟩ := own_shape hown
    subst hvx
    obtain ⟨ha8, hk8, hf8⟩ := (HK1.out.keep ((Below.refl _ _).alloc (Nat.le_refl _) _)).newDr hgrow (dr' := D ++ [n]) (by rw [idCells_append, HXX.out, List.length_append, HD2.out]; exact hown) (HOKD.out)
    have c38 := ha8.cell 3 _ rfl
    have f38 := ha8.free 3
    have HK8 := hid' hk8
    have HF8 := hid' (HF1.out.trans ((KF.of_below ((Below.refl _ _).alloc (Nat.le_refl _) _) HK1.out.size).trans hf8))
    clear hown hgrow ha8 hk8 hf8
    go_wp2
    go_end0
    exact ⟨rfl, ⟨_, by rw [HDK.out]; exact HK8.out⟩, HF8.out⟩
  · have hfi : ((m : Int) == (M : Int)) = false := by simp; omega
    have HDK : Hid (Sm.drop k n = { k with dr := k.dr ++ [n] }) := hid' (by unfold Sm.drop; rw [if_neg (by rw [HM.out, HMM.out]; exact hfull)])
    go_enter Try.func80, Try.ntmps80
    go_wp2
    go_quiet (fail)
    have HROW : Hid (∀ q, (w.drewN q).ownsRow B 3 1 (.slice ao m cap) m (idCells k.dr)) := hid' (fun q => by have := (H.out.drewN q).dr; rw [HM.out] at this; exact this)
    have HSZ : Hid (B ≤ w.heap.size) := hid' H.out.size
    obtain ⟨xs, hxs'⟩ : ∃ xs, idCells k.dr = xs := ⟨_, rfl⟩
    have HXX := hid' hxs'
    rw [hxs'] at HROW
    clear hxs'
    go_wp2_with (at_builtin; refine wpList_append_own _ rfl _ _ 52 rfl B 3 i0 _ 1 8 Try.underlying52 HI.out HZ0.out HZ1.out HZ2.out rfl (by decide) _ _ _ rfl (World.ownsRow.alloc (HROW.out _) _) ⟨w.heap.size, 0, none⟩ 1 1 [.int .i64 (n : Int)] rfl rfl (one_new _ _ _) (fun u hu => by simp at hu; rw [hu]; rfl) ?a1 ?a2 ?a3 ?_)
    case a1 => unfold maxLen; omega
    case a2 => omega
    case a3 => have := HSZ.out; simp; omega
    intro vx w8 hown hgrow _
    obtain ⟨bo2, cap2, hvx⟩ := own_shape hown
    subst hvx
    obtain ⟨ha8, hk8, hf8⟩ := ((H.out.drewN _).keep ((Below.refl _ _).alloc (Nat.le_refl _) _)).newDr hgrow (dr' := k.dr ++ [n]) (by rw [idCells_append, HXX.out, List.length_append, HM.out]; exact hown) (by have := HOK.out; rw [HDK.out] at this; exact this)
    have c38 := ha8.cell 3 _ rfl
    have f38 := ha8.free 3
    have HK8 := hid' hk8
    have HF8 := hid' (((KF.of_below ((Below.refl _ _).alloc (Nat.le_refl _) _) (H.out.drewN _).size).trans hf8).drewN)
    clear hown hgrow ha8 hk8 hf8
    go_wp2
    go_end0
    exact ⟨rfl, ⟨_, by rw [HDK.out]; exact HK8.out⟩, HF8.out⟩

end Go.Proofs.Ythgdokcdpmoeeaa
