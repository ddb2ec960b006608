/-
  The document's Parse: by its contract.
-/
import Derived.Test.YtdbldompjhienaaDoorRgB
namespace Go.Proofs.YtdbldompjhienaaDoor
open Go.RowKit

def rgV (r : Rg.Rn) : List Value := [.int .i64 r.a, .int .i64 r.b]
def rgC (l : List Rg.Rn) : List Value := l.flatMap rgV
theorem rgC_app (l m : List Rg.Rn) : rgC (l ++ m) = rgC l ++ rgC m := by simp [rgC]
theorem two_new16 (w : World) (T : TypeId) (x0 x1 : Value) : ∀ j v, [x0, x1][j]? = some v → (w.alloc (.cells #[x0, x1] T)).cell? ((⟨w.heap.size, 0, none⟩ : Addr).add j) = some v := by
  intro j v h
  rw [Addr.add_mid, Nat.zero_add]
  have hA : Ar (w.alloc (.cells #[x0, x1] T)) w.heap.size T #[x0, x1] := heap_alloc_last w _
  exact hA.cell j v (by simpa using h)
theorem own_str16 {w : World} {B : Nat} {e : TypeId} {ao : Option Addr} {n m cap : Nat} {l : List (List UInt8)} (h : w.ownsRow B e 1 (.slice ao n cap) m (sC16 l)) (i : Nat) (p : List UInt8) (hp : l[i]? = some p) : ∃ g, ao = some ⟨g, 0, none⟩ ∧ w.cell? ⟨g, i, none⟩ = some (.string ⟨p.toArray⟩) := by
  have hx : (sC16 l)[i]? = some (.string ⟨p.toArray⟩) := by unfold sC16; rw [List.getElem?_map, hp]; rfl
  have hlt := (List.getElem?_eq_some_iff.1 hx).1
  rcases h.2 with ⟨_, h0⟩ | ⟨g, cap', cur, h1, h2⟩
  · rw [h.1, h0] at hlt; omega
  · injection h1 with h1 h3 h4
    subst h1
    have := h.cells (g := g) rfl i _ hx
    rw [Addr.add_mid, Nat.zero_add] at this
    exact ⟨g, rfl, this⟩
theorem own_diff16 {w : World} {B B' : Nat} {e e' : TypeId} {s s' : Nat} {v v' : Value} {n n' : Nat} {xs xs' : List Value} (h : w.ownsRow B e s v n xs) (h' : w.ownsRow B' e' s' v' n' xs') (hne : e ≠ e') : ∀ k, v.ownBlock = some k → v'.ownBlock ≠ some k := fun k hk hk' => by
  obtain ⟨_, c1, h1⟩ := own_ty h k hk
  obtain ⟨_, c2, h2⟩ := own_ty h' k hk'
  rw [h1] at h2
  simp at h2
  exact hne h2.2

namespace Rg
theorem outs_take {ps : List T8} {k : Nat} {p : T8} (n : Int) (h : ps[k]? = some p) : outs (ps.take (k + 1)) n = outs (ps.take k) n ++ (if (pc p n).2.1 then [(pc p n).1] else []) := by
  unfold outs
  rw [List.take_add_one, h]
  simp only [Option.toList_some, List.filter_append, List.map_append, List.filter_cons, List.filter_nil]
  cases (pc p n).2.1 <;> rfl
theorem all_take {ps : List T8} {k : Nat} {p : T8} (g : T8 → Bool) (h : ps[k]? = some p) : (ps.take (k + 1)).all g = ((ps.take k).all g && g p) := by
  rw [List.take_add_one, h]; simp
theorem pcs_len (l : T8) : (pcs l).length ≤ l.length + 1 := by
  have key : ∀ (r cur : T8), (cutA cur r).length ≤ r.length + 1 := by
    intro r
    induction r with
    | nil => intro cur; simp [cutA]
    | cons c r ih =>
      intro cur
      rw [cutA]
      split
      · have := ih []; simp; omega
      · have := ih (cur ++ [c]); simp; omega
  have h1 := key l []
  unfold pcs
  have h2 := List.length_filter_le (fun p => !(p == [])) ((cutA [] l).map Tx.trim)
  rw [List.length_map] at h2
  exact Nat.le_trans h2 h1
theorem pcs_size {l p : T8} (h : p ∈ pcs l) : p.length ≤ l.length := by
  have key : ∀ (r cur : T8), ∀ q ∈ cutA cur r, q.length ≤ cur.length + r.length := by
    intro r
    induction r with
    | nil => intro cur q hq; simp [cutA] at hq; subst hq; simp
    | cons c r ih =>
      intro cur q hq
      rw [cutA] at hq
      split at hq
      · rcases List.mem_cons.1 hq with rfl | hq
        · simp
        · have := ih [] q hq; simp at this ⊢; omega
      · have := ih _ q hq; simp at this ⊢; omega
  unfold pcs at h
  have h1 := (List.mem_filter.1 h).1
  obtain ⟨q, hq, rfl⟩ := List.mem_map.1 h1
  have h2 := key l [] q hq
  have h3 := Tx.trim_le q
  simp at h2
  omega
end Rg
theorem head_at16 (s : ByteArray) (l : List UInt8) (hl : s.data.toList = l) : ((s.extract 0 6).toList == [98, 121, 116, 101, 115, 61]) = (l.take 6 == Rg.head6) := by
  rw [ext_td16, Lib.toList_data, hl]; rfl

set_option maxHeartbeats 4000000 in
set_option maxRecDepth 20000 in
theorem rparse16 (NM : ∀ (s : ByteArray) (w : World), s.size ≤ maxLen → Calls Tryd.prog 49 #[.string s] w fun e w' => e = .returned (.tuple #[.int .i64 (Tx.num 10 s.data.toList).1, .int .i64 (Tx.num 10 s.data.toList).2]) ∧ Below w.heap.size w w')
    (s : ByteArray) (l : List UInt8) (hl : s.data.toList = l) (n : Int) (n1 : n ≤ 9223372036854775807) (w : World) (hs : s.size ≤ 1048576) :
    Calls Tryd.prog 10 #[.string s, .int .i64 n] w fun e w' => (∃ m ro rc, e = .returned (.tuple #[.slice ro m rc, .int .i64 (Rg.err l n)]) ∧ (Rg.res l n).length = m ∧ w'.ownsRow w.heap.size 23 2 (.slice ro m rc) m (rgC (Rg.res l n))) ∧ Below w.heap.size w w' := by
  obtain ⟨i0, hi0, hz0, hz1, hz2⟩ := minfo16 infoRg16
  have HI := hid' hi0
  have HZ0 := hid' hz0
  have HZ1 := hid' hz1
  have HZ2 := hid' hz2
  clear hi0 hz0 hz1 hz2
  have hno : ∀ c : Int, Rg.err l n = c → (c == 0) = false → Rg.res l n = [] := fun c h1 h2 => by unfold Rg.res; rw [h1, h2]; rfl
  have HNO := hid' hno
  have HSZ : Hid (s.size = l.length) := hid' (by rw [Lib.size_eq, hl])
  have HL := hid' hl
  have HNM := hid' NM
  clear hno hl NM
  by_cases n0 : n < 0
  · have HE : Hid (Rg.err l n = 1) := hid' (by unfold Rg.err; rw [if_pos n0])
    have HR := hid' (HNO.out 1 HE.out (by decide))
    go_enter Tryd.func10, Tryd.ntmps10
    go_wp2
    go_ret2
    exact ⟨⟨0, none, 0, by rw [HE.out]; rfl, by rw [HR.out]; rfl, by rw [HR.out]; exact World.ownsRow_nil _ _ _ _⟩, Below.refl _ _⟩
  have hbad : ((l.take 6 == Rg.head6) = false) → Rg.err l n = 160 := fun h => by unfold Rg.err; rw [if_neg n0, h]; rfl
  have HBAD := hid' hbad
  clear hbad
  by_cases h6 : s.size < 6
  · have h6I : (s.size : Int) < 6 := by omega
    have HE : Hid (Rg.err l n = 160) := hid' (HBAD.out (by
      rw [Bool.eq_false_iff]; intro e
      have := congrArg List.length (eq_of_beq e)
      rw [List.length_take, ← HSZ.out] at this
      simp [Rg.head6] at this
      omega))
    have HR := hid' (HNO.out 160 HE.out (by decide))
    go_enter Tryd.func10, Tryd.ntmps10
    go_wp2
    go_ret2
    exact ⟨⟨0, none, 0, by rw [HE.out]; rfl, by rw [HR.out]; rfl, by rw [HR.out]; exact World.ownsRow_nil _ _ _ _⟩, Below.refl _ _⟩
  have h6I : ¬ (s.size : Int) < 6 := by omega
  have h6J : (6 : Int) ≤ (s.size : Int) := by omega
  have h6K : 6 ≤ s.size := by omega
  cases hh : (l.take 6 == Rg.head6)
  · have HE : Hid (Rg.err l n = 160) := hid' (HBAD.out hh)
    have HR := hid' (HNO.out 160 HE.out (by decide))
    have hd : ((s.extract 0 6).toList == [98, 121, 116, 101, 115, 61]) = false := by rw [head_at16 s l HL.out, hh]
    clear hh
    go_enter Tryd.func10, Tryd.ntmps10
    go_wp2
    go_ret2
    exact ⟨⟨0, none, 0, by rw [HE.out]; rfl, by rw [HR.out]; rfl, by rw [HR.out]; exact World.ownsRow_nil _ _ _ _⟩, Below.refl _ _⟩
  have hd : ((s.extract 0 6).toList == [98, 121, 116, 101, 115, 61]) = true := by rw [head_at16 s l HL.out, hh]
  obtain ⟨ps, hps⟩ : ∃ ps, Rg.pcs (l.drop 6) = ps := ⟨_, rfl⟩
  have HER : Hid (Rg.err l n = if ps.isEmpty || !ps.all (fun p => (Rg.pc p n).2.2) then 160 else if 8 < ps.length then 4 else if (Rg.outs ps n).isEmpty then 161 else 0) := hid' (by unfold Rg.err; rw [if_neg n0, if_pos hh, hps])
  have HRS : Hid (Rg.err l n = 0 → Rg.res l n = Rg.outs ps n) := hid' (fun h => by unfold Rg.res; rw [h, hps]; rfl)
  have HCU := hid' (fun W => rcut16 (s.extract 6 s.size) (l.drop 6) (by rw [ext_td16, HL.out]; exact List.take_of_length_le (by rw [List.length_drop, HSZ.out]; exact Nat.le_refl _)) W (by rw [ByteArray.size_extract]; omega))
  rw [hps] at HCU
  have HPZ : Hid (∀ p ∈ ps, p.length ≤ 1048576) := hid' (fun p hp => by
    rw [← hps] at hp
    have h1 := Rg.pcs_size hp
    rw [List.length_drop, ← HSZ.out] at h1
    omega)
  have hn0 : 0 ≤ n := by omega
  have HPSE := hid' hps
  clear hh hps
  go_enter Tryd.func10, Tryd.ntmps10
  go_wp2_with fail
  refine (HCU.out _).mono ?_
  rintro e w1 ⟨⟨m, po, pc, rfl, hm, hown⟩, hb1⟩
  have HM := hid' hm
  have HP := hid' hown
  have HB1 := hid' hb1
  have hmb2 : m ≤ 1048577 := by
    rw [← hm, ← HPSE.out]; have := Rg.pcs_len (l.drop 6); rw [List.length_drop, ← HSZ.out] at this; omega
  clear hm hown hb1 hd
  by_cases hm0 : m = 0
  · have hmB : ((m : Int) == 0) = true := by rw [beq_iff_eq]; omega
    have HE : Hid (Rg.err l n = 160) := hid' (by
      have : ps = [] := List.eq_nil_of_length_eq_zero (HM.out.trans hm0)
      rw [HER.out, this]; rfl)
    have HR := hid' (HNO.out 160 HE.out (by decide))
    clear hm0
    go_wp2
    go_ret2
    exact ⟨⟨0, none, 0, by rw [HE.out]; rfl, by rw [HR.out]; rfl, by rw [HR.out]; exact World.ownsRow_nil _ _ _ _⟩, HB1.out⟩
  have hmB : ((m : Int) == 0) = false := by rw [beq_eq_false_iff_ne]; omega
  have HNE : Hid (ps.isEmpty = false) := hid' (by
    cases hq : ps with
    | nil => exact absurd (HM.out.symm.trans (by rw [hq]; rfl)) hm0
    | cons a b => rfl)
  clear hm0
  go_wp2
  go_loopw [7, 8] (fun s7 s8 wr => ∃ (k c : Nat) (ro : Option Addr) (rc : Nat), s8 = .int .i64 (k : Int) ∧ s7 = .slice ro c rc ∧ k ≤ m ∧ c ≤ k ∧ Hid ((ps.take k).all (fun p => (Rg.pc p n).2.2) = true) ∧ Hid ((Rg.outs (ps.take k) n).length = c) ∧ Hid (wr.ownsRow w.heap.size 23 2 (.slice ro c rc) c (rgC (Rg.outs (ps.take k) n))) ∧ Hid (wr.ownsRow w.heap.size 9 1 (.slice po m pc) m (sC16 ps)) ∧ Hid (Below w.heap.size w wr)) (fun _ s8 _ => m - (intOf s8).toNat)
  case atStart => exact ⟨0, 0, none, 0, rfl, rfl, Nat.zero_le _, Nat.le_refl _, hid' rfl, hid' rfl, hid' (World.ownsRow_nil _ _ _ _), HP, HB1⟩
  case round =>
    obtain ⟨k, c, ro, rc, rfl, rfl, hk, hck, HGD, HCL, HO, HPr, HB⟩ := hrel
    by_cases hlt : k < m
    · have hlt2 : (k : Int) < (m : Int) := by omega
      obtain ⟨p, hp⟩ : ∃ p, ps[k]? = some p := ⟨_, List.getElem?_eq_getElem (by rw [HM.out]; exact hlt)⟩
      obtain ⟨g, rfl, y0⟩ := own_str16 HPr.out k p hp
      have HOT := hid' (Rg.outs_take n hp)
      have HAT := hid' (Rg.all_take (fun p => (Rg.pc p n).2.2) hp)
      have HPL := hid' (HPZ.out p (List.mem_of_getElem? hp))
      have HMEM := hid' (List.mem_of_getElem? hp)
      have HPI := hid' (fun W => rpiece16 HNM.out ⟨p.toArray⟩ p rfl n hn0 n1 W (by have := HPL.out; simp [ByteArray.size]; omega))
      unfold pcV at HPI
      obtain ⟨q, hq⟩ : ∃ q, Rg.pc p n = q := ⟨_, rfl⟩
      obtain ⟨⟨qa, qb⟩, qi, qg⟩ := q
      rw [hq] at HOT HPI
      have HQG : Hid ((Rg.pc p n).2.2 = qg) := hid' (by rw [hq])
      simp only at HOT HPI
      clear hp hq
      go_wp2_with fail
      refine (HPI.out _).mono ?_
      rintro e wq ⟨rfl, hbq⟩
      have HBq := hid' (below_two HB.out hbq)
      have HOq := hid' (own_kp16 HO.out hbq)
      have HPq := hid' (own_kp16 HPr.out hbq)
      have HBa := hid' (below_two HBq.out (bl_alloc wq (.cells #[.int .i64 qa, .int .i64 qb] 23)))
      have HOa := hid' (HOq.out.alloc (.cells #[.int .i64 qa, .int .i64 qb] 23))
      have HPa := hid' (HPq.out.alloc (.cells #[.int .i64 qa, .int .i64 qb] 23))
      have HLa : Hid (Ar (wq.alloc (.cells #[.int .i64 qa, .int .i64 qb] 23)) wq.heap.size 23 #[.int .i64 qa, .int .i64 qb]) := hid' (heap_alloc_last wq _)
      clear hbq y0 HOq HPq
      cases qg
      · have HE : Hid (Rg.err l n = 160) := hid' (by
          rw [HER.out]
          have : ps.all (fun p => (Rg.pc p n).2.2) = false := by
            rw [Bool.eq_false_iff]; intro ht
            have := List.all_eq_true.1 ht p HMEM.out
            rw [HQG.out] at this; cases this
          rw [this, Bool.not_false, Bool.or_true]; rfl)
        have HR := hid' (HNO.out 160 HE.out (by decide))
        go_wp2
        go_ret2
        exact ⟨⟨0, none, 0, by rw [HE.out]; rfl, by rw [HR.out]; rfl, by rw [HR.out]; exact World.ownsRow_nil _ _ _ _⟩, HBa.out⟩
      have HG2 : Hid ((ps.take (k + 1)).all (fun p => (Rg.pc p n).2.2) = true) := hid' (by rw [HAT.out, HGD.out, HQG.out]; rfl)
      cases qi
      · have hot := HOT.out
        rw [if_neg (by decide), List.append_nil] at hot
        have s1 : Hid ((Rg.outs (ps.take (k + 1)) n).length = c) := hid' (by rw [hot]; exact HCL.out)
        have s2 : Hid ((wq.alloc (.cells #[.int .i64 qa, .int .i64 qb] 23)).ownsRow w.heap.size 23 2 (.slice ro c rc) c (rgC (Rg.outs (ps.take (k + 1)) n))) := hid' (by rw [hot]; exact HOa.out)
        clear hot
        go_wp2
        go_roundw
        case rel => exact ⟨k + 1, c, ro, rc, by go_num, rfl, by omega, by omega, HG2, s1, s2, HPa, HBa⟩
        case measure => simp [intOf]; omega
      · have HKF : Hid (Rg.outs (ps.take (k + 1)) n = Rg.outs (ps.take k) n ++ [⟨qa, qb⟩]) := hid' (by have hh := HOT.out; rwa [if_pos rfl] at hh)
        go_upto_region 16 with fail
        obtain ⟨fb, hfb⟩ : ∃ fb, wq.heap.size = fb := ⟨_, rfl⟩
        rw [hfb] at HLa ⊢
        generalize wq.alloc (.cells #[.int .i64 qa, .int .i64 qb] 23) = w2 at *
        have p0 := HLa.out.cell 0 _ rfl
        have p1 := HLa.out.cell 1 _ rfl
        have HA : Hid ((w2.alloc (.cells #[.int .i64 qa, .int .i64 qb] 23)).ownsRow w.heap.size 23 2 (.slice ro c rc) c (rgC (Rg.outs (ps.take k) n))) := hid' (HOa.out.alloc _)
        have HPb : Hid ((w2.alloc (.cells #[.int .i64 qa, .int .i64 qb] 23)).ownsRow w.heap.size 9 1 (.slice (some ⟨g, 0, none⟩) m pc) m (sC16 ps)) := hid' (HPa.out.alloc _)
        clear hfb
        go_wp2_with (at_builtin; refine wpList_append_own_at _ rfl _ _ 24 rfl w.heap.size 23 i0 (.agg #[.int .i64 0, .int .i64 0]) 2 16 Tryd.underlying24 HI.out HZ0.out HZ1.out HZ2.out rfl (by decide) (.slice ro c rc) c (rgC (Rg.outs (ps.take k) n)) rfl HA.out ⟨w2.heap.size, 0, none⟩ 1 1 [.int .i64 qa, .int .i64 qb] rfl rfl (two_new16 _ _ _ _) (by simp [Value.oneCell']) (by unfold maxLen; omega) (by have := hmb2; omega) (by simp; have := HBa.out.size; omega) ?_; intro v3 w3 hown3 hgrow3 _ _; refine Hid.out ?_)
        refine hid' ?_
        have e : rgC (Rg.outs (ps.take k) n) ++ [Value.int .i64 qa, .int .i64 qb] = rgC (Rg.outs (ps.take (k + 1)) n) := by rw [HKF.out, rgC_app]; simp [rgC, rgV]
        rw [e] at hown3
        obtain ⟨v3o, v3c, hv3⟩ := own_shape16 hown3
        subst hv3
        have HO3 := hid' hown3
        have HP3 := hid' (own_grown HPb.out hgrow3 (fun j hj e => own_diff16 HPb.out HA.out (by decide) j hj e.symm))
        have HB3 : Hid (Below w.heap.size w w3) := hid' ((HBa.out.alloc HBa.out.size _).grown hgrow3 (by simp; have := HBa.out.size; omega) (fun k hk => (HA.out.lt k hk).1))
        clear hown3 hgrow3 e p0 p1
        go_wp2
        go_roundw
        case rel => exact ⟨k + 1, c + 1, v3o, v3c, by go_num, rfl, by omega, by omega, HG2, hid' (by rw [HKF.out, List.length_append, HCL.out]; rfl), HO3, HP3, HB3⟩
        case measure => simp [intOf]; omega
    · have hkm : m = k := by omega
      subst hkm
      have hlt2 : ¬ (m : Int) < (m : Int) := by omega
      have HT : Hid (ps.take m = ps) := hid' (List.take_of_length_le (by rw [HM.out]; exact Nat.le_refl _))
      rw [HT.out] at HGD HCL HO
      have HE0 : Hid (Rg.err l n = if 8 < m then 4 else if (Rg.outs ps n).isEmpty then 161 else 0) := hid' (by rw [HER.out, HNE.out, HGD.out, HM.out]; rfl)
      clear hlt
      by_cases h8 : 8 < m
      · have h8I : (8 : Int) < (m : Int) := by omega
        have HE : Hid (Rg.err l n = 4) := hid' (by rw [HE0.out, if_pos h8])
        have HR := hid' (HNO.out 4 HE.out (by decide))
        go_wp2
        go_ret2
        exact ⟨⟨0, none, 0, by rw [HE.out]; rfl, by rw [HR.out]; rfl, by rw [HR.out]; exact World.ownsRow_nil _ _ _ _⟩, HB.out⟩
      have h8I : ¬ (8 : Int) < (m : Int) := by omega
      by_cases hc0 : c = 0
      · have hcB : ((c : Int) == 0) = true := by rw [beq_iff_eq]; omega
        have HE : Hid (Rg.err l n = 161) := hid' (by
          have : Rg.outs ps n = [] := List.eq_nil_of_length_eq_zero (HCL.out.trans hc0)
          rw [HE0.out, if_neg h8, this]; rfl)
        have HR := hid' (HNO.out 161 HE.out (by decide))
        clear hc0
        go_wp2
        go_ret2
        exact ⟨⟨0, none, 0, by rw [HE.out]; rfl, by rw [HR.out]; rfl, by rw [HR.out]; exact World.ownsRow_nil _ _ _ _⟩, HB.out⟩
      · have hcB : ((c : Int) == 0) = false := by rw [beq_eq_false_iff_ne]; omega
        have HE : Hid (Rg.err l n = 0) := hid' (by
          rw [HE0.out, if_neg h8]
          cases hq : Rg.outs ps n with
          | nil => rw [hq] at HCL; exact absurd HCL.out.symm hc0
          | cons a b => rfl)
        have HR := hid' (HRS.out HE.out)
        clear hc0
        go_wp2
        go_ret2
        exact ⟨⟨c, ro, rc, by rw [HE.out]; rfl, by rw [HR.out]; exact HCL.out, by rw [HR.out]; exact HO.out⟩, HB.out⟩

end Go.Proofs.YtdbldompjhienaaDoor
