/-
  The laws' joined: two rows of pieces, a body at the seam put together, by its contract.
-/
import Derived.Test.YtbpdhcfmdkmoiaaGreatDoorPnBM
namespace Go.Proofs.YtbpdhcfmdkmoiaaGreatDoor
open Go.RowKit

/-- The cells of a row of pieces from a place on. -/
theorem own_tail21 {w : World} {B g n cap : Nat} {xs : List Value} (ho : w.ownsRow B 49 15 (.slice (some ⟨g, 0, none⟩) n cap) n xs) (j : Nat) : ∀ i u, (xs.drop (j * 15))[i]? = some u → w.cell? ((⟨g, j * 15, none⟩ : Addr).add i) = some u := by
  intro i u hi
  rw [List.getElem?_drop] at hi
  have h1 := ho.cells (g := g) rfl _ _ hi
  rw [Addr.add_mid, Nat.zero_add] at h1
  rw [Addr.add_mid]
  exact h1
/-- What is laid behind a row of pieces. -/
theorem PS21.append {X : Nat → Prop} {w w' : World} {B : Nat} {v v' : Value} {a r : List Hr.Pc} {xs ys : List Value} (ho : w.ownsRow B 49 15 v a.length xs) (hp : ∀ j q, a[j]? = some q → PV21 w B X xs (j * 15) q) (hn : ∀ k, v.ownBlock = some k → ¬ X k)
    (hr : ∀ j q, r[j]? = some q → PV21 w B X ys (j * 15) q)
    (ho' : w'.ownsRow B 49 15 v' (a.length + r.length) (xs ++ ys)) (hg : w.grownBy w' v.ownBlock) (hv : ∀ k, v'.ownBlock = some k → v.ownBlock = some k ∨ w.heap.size ≤ k) (hX : ∀ k, X k → k < w.heap.size) : PS21 w' B X v' (a ++ r) := by
  have hgr : ∀ {u : Value} {n : Nat} {zs : List Value}, w.ownsRow B 52 2 u n zs → w'.ownsRow B 52 2 u n zs := fun hu => own_grown hu hg (own_own hu ho (by decide))
  have hxl : xs.length = a.length * 15 := ho.1
  refine ⟨⟨_, by rw [List.length_append]; exact ho', fun j q hj => ?_⟩, fun k hk hx => ?_⟩
  · by_cases hlt : j < a.length
    · rw [List.getElem?_append_left hlt] at hj
      obtain ⟨rv, tv, h1, h2, h3, h4, h5⟩ := hp j q hj
      refine ⟨rv, tv, fun i u hi => ?_, hgr h2, hgr h3, h4, h5⟩
      have hi15 : i < 15 := (List.getElem?_eq_some_iff.1 hi).1
      rw [List.getElem?_append_left (by omega)]
      exact h1 i u hi
    · rw [List.getElem?_append_right (by omega)] at hj
      obtain ⟨rv, tv, h1, h2, h3, h4, h5⟩ := hr _ q hj
      refine ⟨rv, tv, fun i u hi => ?_, hgr h2, hgr h3, h4, h5⟩
      rw [List.getElem?_append_right (by omega), hxl, show j * 15 + i - a.length * 15 = (j - a.length) * 15 + i by omega]
      exact h1 i u hi
  · rcases hv k hk with h1 | h1
    · exact hn k h1 hx
    · have := hX k hx; omega

theorem pc_one21 (p : Hr.Pc) (ro tq : Option Addr) (a b c d : Nat) : ∀ u ∈ (pcC p (.slice ro a b) (.slice tq c d)).toList, u.oneCell' = true := by
  intro u hu
  simp only [pcC, List.mem_cons, List.not_mem_nil, or_false] at hu
  rcases hu with h | h | h | h | h | h | h | h | h | h | h | h | h | h | h <;> subst h <;> rfl
/-- Each cell of a row of pieces is one. -/
theorem ps_one21 {w : World} {B : Nat} {X : Nat → Prop} {ps : List Hr.Pc} {xs : List Value} (hl : xs.length = ps.length * 15) (hp : ∀ j q, ps[j]? = some q → PV21 w B X xs (j * 15) q) : ∀ u ∈ xs, u.oneCell' = true := by
  intro u hu
  obtain ⟨k, hk, rfl⟩ := List.getElem_of_mem hu
  have hj : k / 15 < ps.length := by omega
  obtain ⟨rv, tv, h1, h2, h3, _, _⟩ := hp (k / 15) ps[k / 15] (List.getElem?_eq_getElem hj)
  obtain ⟨ro, rc, rfl⟩ := own_shape h2
  obtain ⟨tq, tc, rfl⟩ := own_shape h3
  have hq : ∀ L : List Value, L.length = 15 → ∃ v, L[k % 15]? = some v := fun L hL => ⟨_, List.getElem?_eq_getElem (by omega)⟩
  obtain ⟨v, hv⟩ := hq _ (pcC_len ps[k / 15] (.slice ro ps[k / 15].rq.fs.length rc) (.slice tq ps[k / 15].fs.length tc))
  have h4 := h1 (k % 15) v hv
  rw [show k / 15 * 15 + k % 15 = k by omega, List.getElem?_eq_getElem hk] at h4
  injection h4 with h4
  rw [h4]
  exact pc_one21 _ _ _ _ _ _ _ _ (List.mem_of_getElem? hv)
/-- The pieces of a row from a place on. -/
theorem PV21.tail {w : World} {B : Nat} {X : Nat → Prop} {x : Hr.Pc} {r : List Hr.Pc} {ys : List Value} (hp : ∀ j q, (x :: r)[j]? = some q → PV21 w B X ys (j * 15) q) : ∀ j q, r[j]? = some q → PV21 w B X (ys.drop 15) (j * 15) q := by
  intro j q hj
  obtain ⟨rv, tv, h1, h2⟩ := hp (j + 1) q (by simpa using hj)
  refine ⟨rv, tv, fun i u hi => ?_, h2⟩
  rw [List.getElem?_drop, show 15 + (j * 15 + i) = (j + 1) * 15 + i by omega]
  exact h1 i u hi
/-- What another row of pieces writes. -/
theorem PS21.grown {X : Nat → Prop} {w w' : World} {B : Nat} {u v : Value} {n : Nat} {xs : List Value} {ps : List Hr.Pc} (h : PS21 w B X v ps) (ho : w.ownsRow B 49 15 u n xs) (hg : w.grownBy w' u.ownBlock) (hd : ∀ k, v.ownBlock = some k → u.ownBlock ≠ some k) : PS21 w' B X v ps := by
  obtain ⟨⟨ys, hy, hp⟩, hn⟩ := h
  refine ⟨⟨ys, own_grown hy hg (fun k hk e => hd k hk e.symm), fun j q hj => ?_⟩, hn⟩
  obtain ⟨rv, tv, h1, h2, h3, h4, h5⟩ := hp j q hj
  exact ⟨rv, tv, h1, own_grown h2 hg (own_own h2 ho (by decide)), own_grown h3 hg (own_own h3 ho (by decide)), h4, h5⟩
/-- What joined leaves. -/
structure JO21 (B : Nat) (X : Nat → Prop) (o : Option Nat) (q : List Hr.Pc) (w : World) (v : Value) (w' : World) : Prop where
  ps : PS21 w' B X v q
  lf : LF (fun k => o = some k) w w'
  fr : ∀ k, v.ownBlock = some k → o = some k ∨ w.heap.size ≤ k

set_option maxHeartbeats 8000000 in
set_option maxRecDepth 20000 in
theorem cjoined21 (B : Nat) (X : Nat → Prop) (ao bo : Option Addr) (n m ca cb : Nat) (p r : List Hr.Pc) (w : World) (h1 : PS21 w B X (.slice ao n ca) p) (h2 : PS21 w B X (.slice bo m cb) r) (hn : p.length = n) (hm : r.length = m) (hnb : n + m ≤ 8388608) (hX : ∀ k, X k → k < w.heap.size) (hB : B ≤ w.heap.size)
    (hd : ∀ k, (Value.slice ao n ca).ownBlock = some k → (Value.slice bo m cb).ownBlock ≠ some k) (hbd : ∀ x ∈ p ++ r, x.bd.size ≤ 4611686018427387903) :
    Calls Tryz.prog 10 #[.slice ao n ca, .slice bo m cb] w fun e w' => ∃ v, e = .returned v ∧ JO21 B X (Value.slice ao n ca).ownBlock (Hr.joinP p r) w v w' := by
  obtain ⟨i0, hi0, hz0, hz1, hz2⟩ := minfo_parts infoPc21
  have HI := hid' hi0
  have HZ0 := hid' hz0
  have HZ1 := hid' hz1
  have HZ2 := hid' hz2
  have H1 := hid' h1
  have H2 := hid' h2
  have HN := hid' hn
  have HM := hid' hm
  have HNB := hid' hnb
  have HX := hid' hX
  have HB := hid' hB
  have HD := hid' hd
  have HBD := hid' hbd
  clear h1 h2 hn hm hnb hX hB hd hbd hi0 hz0 hz1 hz2
  have HAPP : Hid (∀ (v3 : Value) (w9 : World) (xs ys : List Value), w.ownsRow B 49 15 (.slice ao n ca) n xs → (∀ j q, p[j]? = some q → PV21 w B X xs (j * 15) q) → (∀ j q, r[j]? = some q → PV21 w B X ys (j * 15) q) → w9.ownsRow B 49 15 v3 (n + m) (xs ++ ys) → w.grownBy w9 (Value.slice ao n ca).ownBlock → (∀ k, v3.ownBlock = some k → (Value.slice ao n ca).ownBlock = some k ∨ w.heap.size ≤ k) → JO21 B X (Value.slice ao n ca).ownBlock (p ++ r) w v3 w9) := hid' (fun v3 w9 xs ys k1 k2 k3 k4 k5 k6 => by
    have e1 := HN.out
    have e2 := HM.out
    subst e1 e2
    exact ⟨PS21.append k1 k2 H1.out.nx k3 k4 k5 k6 HX.out, LF.of_grown (S := fun k => (Value.slice ao p.length ca).ownBlock = some k) k5 (fun k hk => hk), k6⟩)
  by_cases hp0 : p = []
  · have hn0 : n = 0 := by rw [← HN.out, hp0]; rfl
    have HJ : Hid (Hr.joinP p r = p ++ r) := hid' (by
      rw [hp0]; cases r <;> rfl)
    have hng : ¬ ((n : Int) > 0) := by omega
    clear hn0 hp0
    obtain ⟨⟨xs, hxo, hxp⟩, hxn⟩ := H1.out
    obtain ⟨⟨ys, hyo, hyp⟩, hyn⟩ := H2.out
    have HONE := hid' (ps_one21 hyo.1 hyp)
    rw [HN.out] at hxo
    rw [HM.out] at hyo
    have HXO := hid' hxo
    have HXP := hid' hxp
    have HYO := hid' hyo
    have HYP := hid' hyp
    clear hxo hxp hxn hyo hyp hyn
    go_enter Tryz.func10, Tryz.ntmps10
    go_wp2_with (at_builtin; refine wpl_app21 rfl _ _ 32 rfl B B 49 i0 (.agg pcZ) 15 192 Tryz.underlying32 HI.out HZ0.out HZ1.out HZ2.out rfl (by decide) (.slice ao n ca) n xs rfl HXO.out (.slice bo m cb) m ys rfl HYO.out HONE.out (by unfold maxLen; have := HNB.out; omega) (by have := HNB.out; omega) HB.out ?_; intro v3 w9 hown3 hgrow3 hblk3; refine Hid.out ?_)
    refine hid' ?_
    have HN9 := hid' (HAPP.out v3 w9 xs ys HXO.out HXP.out HYP.out hown3 hgrow3 hblk3)
    clear hown3 hgrow3 hblk3
    go_wp2
    go_ret
    exact ⟨v3, rfl, by rw [HJ.out]; exact HN9.out⟩
  · obtain ⟨a, q, hpa⟩ : ∃ a q, p = a ++ [q] := by
      rcases List.eq_nil_or_concat p with h | ⟨a, q, h⟩
      · exact absurd h hp0
      · exact ⟨a, q, by rw [h, List.concat_eq_append]⟩
    obtain ⟨k, hk⟩ : ∃ k, a.length = k := ⟨_, rfl⟩
    have hnk : n = k + 1 := by rw [← HN.out, hpa, ← hk]; simp
    have hng : ((n : Int) > 0) := by omega
    obtain ⟨g, cp, rv', tv', hv, hcap, hBg, hgl, hgx, hcells, hf1, hf2⟩ := H1.out.cells k q (by rw [hpa, ← hk]; simp)
    simp only [Value.slice.injEq] at hv
    obtain ⟨hao, hnn, hcp⟩ := hv
    clear hnn
    subst hao hcp
    have e0 : w.cell? ⟨g, k * 15, none⟩ = some (.int .u8 q.mark) := by have h1 := hcells 0 _ rfl; rwa [Addr.add_mid, Nat.zero_add] at h1
    have hw : wrap64 ((n : Int) - 1) = (k : Int) := by rw [hnk, show (((k + 1 : Nat) : Int) - 1) = (k : Int) by omega]; have := HNB.out; unfold wrap64; omega
    have hik : (k : Int) < (n : Int) := by omega
    have hk0 : (0 : Int) ≤ (k : Int) := by omega
    have HNK := hid' hnk
    have HPA := hid' hpa
    have HCL := hid' hcells
    have HHK := hid' hk
    have HGB := hid' (And.intro hcap (And.intro hBg (And.intro hgl hgx)))
    clear hnk hpa hcells hk hf1 hf2 hcap hBg hgl hgx hp0
    by_cases hr0 : r = []
    · have hm0 : m = 0 := by rw [← HM.out, hr0]; rfl
      have HJ : Hid (Hr.joinP p r = p ++ r) := hid' (by
        rw [hr0, List.append_nil]; rfl)
      have hmg : ¬ ((m : Int) > 0) := by omega
      clear hm0 hr0
      obtain ⟨⟨xs, hxo, hxp⟩, hxn⟩ := H1.out
      obtain ⟨⟨ys, hyo, hyp⟩, hyn⟩ := H2.out
      have HONE := hid' (ps_one21 hyo.1 hyp)
      rw [HN.out] at hxo
      rw [HM.out] at hyo
      have HXO := hid' hxo
      have HXP := hid' hxp
      have HYO := hid' hyo
      have HYP := hid' hyp
      clear hxo hxp hxn hyo hyp hyn
      go_enter Tryz.func10, Tryz.ntmps10
      go_wp2_with (at_builtin; refine wpl_app21 rfl _ _ 32 rfl B B 49 i0 (.agg pcZ) 15 192 Tryz.underlying32 HI.out HZ0.out HZ1.out HZ2.out rfl (by decide) (.slice (some ⟨g, 0, none⟩) n ca) n xs rfl HXO.out (.slice bo m cb) m ys rfl HYO.out HONE.out (by unfold maxLen; have := HNB.out; omega) (by have := HNB.out; omega) HB.out ?_; intro v3 w9 hown3 hgrow3 hblk3; refine Hid.out ?_)
      refine hid' ?_
      have HN9 := hid' (HAPP.out v3 w9 xs ys HXO.out HXP.out HYP.out hown3 hgrow3 hblk3)
      clear hown3 hgrow3 hblk3
      go_wp2
      go_ret
      exact ⟨v3, rfl, by rw [HJ.out]; exact HN9.out⟩
    · obtain ⟨x, r', hrx⟩ : ∃ x r', r = x :: r' := by
        cases r with
        | nil => exact absurd rfl hr0
        | cons x r' => exact ⟨x, r', rfl⟩
      have hmg : ((m : Int) > 0) := by have h1 := HM.out; rw [hrx, List.length_cons] at h1; omega
      obtain ⟨g', cp', rv', tv', hv, hcap, hBg, hgl, hgx, hcells, hf1, hf2⟩ := H2.out.cells 0 x (by rw [hrx]; rfl)
      simp only [Value.slice.injEq] at hv
      obtain ⟨hao, hnn, hcp⟩ := hv
      clear hnn
      subst hao hcp
      have d0 : w.cell? ⟨g', 0, none⟩ = some (.int .u8 x.mark) := by have h1 := hcells 0 _ rfl; rwa [Addr.add_mid, Nat.zero_add] at h1
      have hm1 : (0 : Int) < (m : Int) := by omega
      have HRX := hid' hrx
      have HCL' := hid' hcells
      have HGB' := hid' (And.intro hcap (And.intro hBg (And.intro hgl hgx)))
      clear hrx hcells hf1 hf2 hcap hBg hgl hgx hr0
      by_cases hq : q.mark = 2
      · have hqb : (q.mark == 2) = true := by rw [beq_iff_eq]; exact hq
        by_cases hx : x.mark = 2
        · have hxb : (x.mark == 2) = true := by rw [beq_iff_eq]; exact hx
          have e12 : w.cell? ⟨g, k * 15 + 12, none⟩ = some (.string q.bd) := by have h1 := HCL.out 12 _ rfl; rwa [Addr.add_mid, Nat.zero_add] at h1
          have d12 : w.cell? ⟨g', 12, none⟩ = some (.string x.bd) := by have h1 := HCL'.out 12 _ rfl; rwa [Addr.add_mid, Nat.zero_add] at h1
          have f12 : w.frozen? ⟨g, k * 15 + 12, none⟩ = false := by
            obtain ⟨⟨xs, ho, _⟩, _⟩ := H1.out
            rw [HN.out] at ho
            exact ho.frozenAt _
          have hqs : ¬ (9223372036854775807 < q.bd.size + x.bd.size) := by
            have h1 := HBD.out q (by rw [HPA.out]; simp)
            have h2 := HBD.out x (by rw [HRX.out]; simp)
            omega
          have hbdy := PS21.body (X := X) (w := w) (B := B) (g := g) (n := n) (cap := ca) (a := a) (q := q) (by rw [← HPA.out]; exact H1.out) x.bd
          rw [HHK.out] at hbdy
          have HBY := hid' hbdy
          have hmc : (1 : Int) ≤ (m : Int) := by omega
          have hcc : (m : Int) ≤ (cb : Int) := by have h1 := HGB'.out.1; have h2 := HM.out; omega
          clear hbdy
          go_enter Tryz.func10, Tryz.ntmps10
          go_upto_region 2 with fail
          go_region
          go_upto_region 4 with fail
          obtain ⟨y, hy⟩ : ∃ y, (w.setCell ⟨g, k * 15 + 12, none⟩ (.string (q.bd ++ x.bd))).drew = y := ⟨_, rfl⟩
          rw [hy]
          have HY : Hid (PS21 y B X (.slice (some ⟨g, 0, none⟩) n ca) (a ++ [Hr.grow q x.bd]) ∧ LF (fun j => j = g) w y ∧ PS21 y B X (.slice (some ⟨g', 0, none⟩) m cb) r ∧ y.heap.size = w.heap.size) := hid' (by
            rw [← hy]
            obtain ⟨⟨xs, ho, _⟩, _⟩ := H1.out
            rw [HN.out] at ho
            have hs := ho.stored (k * 15 + 12) (.string (q.bd ++ x.bd))
            refine ⟨HBY.out.1.keep (Below.refl _ _).drew, HBY.out.2.bel21 (Below.refl _ _).drew, (H2.out.grown ho hs.2 (fun j hj e => HD.out j e hj)).keep (Below.refl _ _).drew, ?_⟩
            simp [World.setCell])
          clear hy
          obtain ⟨⟨xs, hxo, hxp⟩, hxn⟩ := HY.out.1
          obtain ⟨⟨ys, hyo, hyp⟩, hyn⟩ := HY.out.2.2.1
          have HONE := hid' (ps_one21 hyo.1 hyp)
          have HLN : Hid ((a ++ [Hr.grow q x.bd]).length = n) := hid' (by rw [List.length_append, List.length_singleton, HHK.out, HNK.out])
          rw [HLN.out] at hxo
          rw [HM.out] at hyo
          have HXO := hid' hxo
          have HXP := hid' hxp
          have HYO := hid' hyo
          have HYP := hid' hyp
          have HRN : Hid (r'.length + 1 = m) := hid' (by rw [← HM.out, HRX.out]; rfl)
          obtain ⟨ad, had, hadc⟩ : ∃ ad, (if cb = 1 then some (⟨g', 0, none⟩ : Addr) else some ⟨g', 15, none⟩) = some ad ∧ Hid (∀ i u, (ys.drop 15)[i]? = some u → y.cell? (ad.add i) = some u) := by
            by_cases hc1 : cb = 1
            · refine ⟨_, if_pos hc1, hid' (fun i u hi => ?_)⟩
              have h1 := hyo.1
              have h2 : ys.drop 15 = [] := List.drop_of_length_le (by omega)
              rw [h2] at hi
              simp at hi
            · exact ⟨_, if_neg hc1, hid' (own_tail21 hyo 1)⟩
          rw [had]
          clear hxo hxp hxn hyo hyp hyn had
          go_wp2_with (at_builtin; refine wpl_appk21 rfl _ _ 32 rfl B 49 i0 (.agg pcZ) 15 192 Tryz.underlying32 HI.out HZ0.out HZ1.out HZ2.out rfl (by decide) (.slice (some ⟨g, 0, none⟩) n ca) n xs rfl HXO.out ad (m - 1) (cb - 1) (ys.drop 15) rfl (by rw [List.length_drop, HYO.out.1]; omega) hadc.out (fun u hu => HONE.out u (List.mem_of_mem_drop hu)) (by unfold maxLen; have := HNB.out; omega) (by have := HNB.out; omega) (by rw [HY.out.2.2.2]; exact HB.out) ?_; intro v3 w9 hown3 _ hgrow3 hblk3; refine Hid.out ?_)
          refine hid' ?_
          have HN9 : Hid (JO21 B X (Value.slice (some ⟨g, 0, none⟩) n ca).ownBlock (a ++ [Hr.grow q x.bd] ++ r') w v3 w9) := hid' (by
            have hyp' := HYP.out
            rw [HRX.out] at hyp'
            have e1 := HLN.out
            have e2 : m - 1 = r'.length := by have := HRN.out; omega
            refine ⟨PS21.append (w := y) (a := a ++ [Hr.grow q x.bd]) (by rw [e1]; exact HXO.out) HXP.out HY.out.1.nx (PV21.tail hyp') (by rw [e1, ← e2]; exact hown3) hgrow3 hblk3 (fun j hj => by rw [HY.out.2.2.2]; exact HX.out j hj), ?_, fun j hj => ?_⟩
            · have hl := HY.out.2.1.trans (LF.of_grown (S := fun j => (Value.slice (some ⟨g, 0, none⟩) n ca).ownBlock = some j) hgrow3 (fun j hj => hj)) (fun j hj e => by simp only [Value.ownBlock, Option.some.injEq] at e; exact e.symm)
              exact ⟨hl.os, hl.tape, hl.output, hl.size, fun j hj hs => hl.block j hj (fun e => hs (by subst e; rfl))⟩
            · rcases hblk3 j hj with h | h
              · exact .inl h
              · rw [HY.out.2.2.2] at h; exact .inr h)
          clear hown3 hgrow3 hblk3
          go_wp2
          go_ret
          refine ⟨v3, rfl, ?_⟩
          rw [HPA.out, HRX.out, Hr.joinP, Hr.addP_b a q x hxb hqb]
          exact HN9.out
        · have hxb : (x.mark == 2) = false := by rw [beq_eq_false_iff_ne]; exact hx
          have HJ : Hid (Hr.joinP p r = p ++ r) := hid' (by
            rw [HRX.out, HPA.out, Hr.joinP, Hr.addP_last, hxb]; simp)
          obtain ⟨⟨xs, hxo, hxp⟩, hxn⟩ := H1.out
          obtain ⟨⟨ys, hyo, hyp⟩, hyn⟩ := H2.out
          have HONE := hid' (ps_one21 hyo.1 hyp)
          rw [HN.out] at hxo
          rw [HM.out] at hyo
          have HXO := hid' hxo
          have HXP := hid' hxp
          have HYO := hid' hyo
          have HYP := hid' hyp
          clear hxo hxp hxn hyo hyp hyn
          go_enter Tryz.func10, Tryz.ntmps10
          go_wp2_with (at_builtin; refine wpl_app21 rfl _ _ 32 rfl B B 49 i0 (.agg pcZ) 15 192 Tryz.underlying32 HI.out HZ0.out HZ1.out HZ2.out rfl (by decide) (.slice (some ⟨g, 0, none⟩) n ca) n xs rfl HXO.out (.slice (some ⟨g', 0, none⟩) m cb) m ys rfl HYO.out HONE.out (by unfold maxLen; have := HNB.out; omega) (by have := HNB.out; omega) HB.out ?_; intro v3 w9 hown3 hgrow3 hblk3; refine Hid.out ?_)
          refine hid' ?_
          have HN9 := hid' (HAPP.out v3 w9 xs ys HXO.out HXP.out HYP.out hown3 hgrow3 hblk3)
          clear hown3 hgrow3 hblk3
          go_wp2
          go_ret
          exact ⟨v3, rfl, by rw [HJ.out]; exact HN9.out⟩
      · have hqb : (q.mark == 2) = false := by rw [beq_eq_false_iff_ne]; exact hq
        have HJ : Hid (Hr.joinP p r = p ++ r) := hid' (by
          rw [HRX.out, HPA.out, Hr.joinP, Hr.addP_last, hqb]; simp)
        obtain ⟨⟨xs, hxo, hxp⟩, hxn⟩ := H1.out
        obtain ⟨⟨ys, hyo, hyp⟩, hyn⟩ := H2.out
        have HONE := hid' (ps_one21 hyo.1 hyp)
        rw [HN.out] at hxo
        rw [HM.out] at hyo
        have HXO := hid' hxo
        have HXP := hid' hxp
        have HYO := hid' hyo
        have HYP := hid' hyp
        clear hxo hxp hxn hyo hyp hyn
        go_enter Tryz.func10, Tryz.ntmps10
        go_wp2_with (at_builtin; refine wpl_app21 rfl _ _ 32 rfl B B 49 i0 (.agg pcZ) 15 192 Tryz.underlying32 HI.out HZ0.out HZ1.out HZ2.out rfl (by decide) (.slice (some ⟨g, 0, none⟩) n ca) n xs rfl HXO.out (.slice (some ⟨g', 0, none⟩) m cb) m ys rfl HYO.out HONE.out (by unfold maxLen; have := HNB.out; omega) (by have := HNB.out; omega) HB.out ?_; intro v3 w9 hown3 hgrow3 hblk3; refine Hid.out ?_)
        refine hid' ?_
        have HN9 := hid' (HAPP.out v3 w9 xs ys HXO.out HXP.out HYP.out hown3 hgrow3 hblk3)
        clear hown3 hgrow3 hblk3
        go_wp2
        go_ret
        exact ⟨v3, rfl, by rw [HJ.out]; exact HN9.out⟩

end Go.Proofs.YtbpdhcfmdkmoiaaGreatDoor
