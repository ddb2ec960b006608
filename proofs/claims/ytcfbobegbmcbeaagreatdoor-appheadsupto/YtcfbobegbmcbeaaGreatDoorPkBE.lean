/-
  What the row stands on.
-/
import Derived.Test.YtcfbobegbmcbeaaGreatDoorPkBD
namespace Go.Proofs.YtcfbobegbmcbeaaGreatDoor
set_option maxHeartbeats 64000000
open Go.RowKit

theorem infoUp18 : (Tryz.prog.info? 116).map (fun i => (i.zero, i.size, i.bytes)) = some (some .nilIface, 1, 16) := by kernel_rfl
def pCU18 (ps : List Rt.Prt) : List Value := ps.map pU18
theorem pCU18_snoc (ps : List Rt.Prt) (p : Rt.Prt) : pCU18 (ps ++ [p]) = pCU18 ps ++ [pU18 p] := by unfold pCU18; rw [List.map_append]; rfl
theorem PU18.own {w : World} {B : Nat} {ao : Option Addr} {n m ac : Nat} {ps : List Rt.Prt} (h : w.ownsRow B 116 1 (.slice ao n ac) m (pCU18 ps)) : PU18 w ao ps := fun i p hp => by
 rcases h.2 with ⟨hv, hn⟩ | ⟨g, cap, cur, hv, _, h3, _⟩
 ·have hl := h.1
  have hi := (List.getElem?_eq_some_iff.1 hp).1
  unfold pCU18 at hl
  rw [List.length_map] at hl
  omega
 ·injection hv with h1 _ _
  refine ⟨g, h1, (Array.getElem?_eq_some_iff.1 h3).1, ?_⟩
  have := h.cells (g := g) (by rw [h1]; rfl) i (pU18 p) (by unfold pCU18; rw [List.getElem?_map, hp]; rfl)
  rw [Addr.add_mid, Nat.zero_add] at this
  exact this
theorem own_other18 {w w' : World} {B B' : Nat} {e e' : TypeId} {s s' : Nat} {v v' : Value} {n n' : Nat} {xs xs' : List Value} (h : w.ownsRow B e s v n xs) (h' : w.ownsRow B' e' s' v' n' xs') (hg : w.grownBy w' v'.ownBlock) (hne : e ≠ e') : w'.ownsRow B e s v n xs := by
 refine own_same h (fun j hj => hg.block j (own_lt h j hj) (fun e => ?_))
 obtain ⟨_, cs, h1⟩ := own_ty h j hj
 obtain ⟨_, cs', h2⟩ := own_ty h' j e.symm
 rw [h1] at h2
 injection h2 with h2
 injection h2 with _ h2 _
 exact hne h2
def psR18 (w : World) (l : List UInt8) (e : Ending) (w' : World) : Prop := ∃ ao n ac no c nc b, e = .returned (.tuple #[.slice ao n ac, .slice no c nc, .bool b]) ∧ b = (Rt.pattern l).isSome ∧ ∀ ps, Rt.pattern l = some ps → ps.length = n ∧ (Rt.names ps).length = c ∧ w'.ownsRow w.heap.size 116 1 (.slice ao n ac) n (pCU18 ps) ∧ w'.ownsRow w.heap.size 9 1 (.slice no c nc) c (sC17 (Rt.names ps))
theorem psR18_none {w w' : World} {l : List UInt8} (h : Rt.pattern l = none) : psR18 w l (.returned (.tuple #[.slice none 0 0, .slice none 0 0, .bool false])) w' := ⟨none, 0, 0, none, 0, 0, false, rfl, by rw [h]; rfl, fun ps hp => by rw [h] at hp; cases hp⟩
namespace Rt
theorem cgo_at {xs : List T8} {i : Nat} {x : T8} (hx : xs[i]? = some x) (out : List Prt) : cgo out (xs.drop i) = if !(prt x).2 || lastR out then none else cgo (out ++ [(prt x).1]) (xs.drop (i + 1)) := by
 obtain ⟨h, he⟩ := List.getElem?_eq_some_iff.1 hx
 rw [List.drop_eq_getElem_cons h, he, cgo]
theorem lastR_at {out : List Prt} {q : Nat} {p : Prt} (h : out[q]? = some p) (hl : out.length = q + 1) : lastR out = (p.k == 2) := by
 unfold lastR
 rw [List.getLast?_eq_getElem?, hl, Nat.add_sub_cancel, h]
 rfl
theorem namesU_len (ps : List Prt) : (names ps).length ≤ ps.length := by
 unfold names
 rw [List.length_map]
 exact List.length_filter_le _ _
theorem piece_len : ∀ (l cur : T8) (p : T8), p ∈ Pt.cutS cur l → p.length ≤ cur.length + l.length := by
 intro l
 induction l with
 | nil => intro cur p hp; rw [Pt.cutS] at hp; simp at hp; subst hp; simp
 | cons c r ih =>
  intro cur p hp
  rw [Pt.cutS] at hp
  split at hp
  ·rcases List.mem_cons.1 hp with rfl | hp
   ·simp
   ·have := ih [] p hp; simp at *; omega
  ·have := ih (cur ++ [c]) p hp; simp at *; omega
end Rt

set_option maxRecDepth 20000 in
theorem cparse18 (s : ByteArray) (l : List UInt8) (hl : s.data.toList = l) (w : World) (hs : s.size ≤ 4194304) :
  Calls Tryz.prog 27 #[.string s] w fun e w' => psR18 w l e w' ∧ Below w.heap.size w w' := by
 have hsz : s.size = l.length := by rw [Lib.size_eq, hl]
 by_cases h1 : (l.head? == some 47) = true
 ·obtain ⟨r, hr⟩ : ∃ r, l = 47 :: r := by
   cases l with
   | nil => cases h1
   | cons a r => simp at h1; exact ⟨r, by rw [h1]⟩
  obtain ⟨z, hz⟩ : ∃ z : ByteArray, z.data.toList = r := ⟨⟨r.toArray⟩, by simp⟩
  have hzs : z.size ≤ 4194304 := by rw [Lib.size_eq, hz]; rw [hr] at hsz; simp at hsz; omega
  have HC1 := hid' (fun W => cutp_yes18 s z 47 r (by rw [hl, hr]) hz W)
  by_cases h2 : r = []
  ·have hz0 : (z.toList == []) = true := by rw [Lib.toList_data, hz, h2]; rfl
   have HP : Hid (Rt.pattern l = some []) := hid' (by rw [hr, h2]; rfl)
   clear hl hsz h1 hr hz h2
   go_enter Tryz.func27, Tryz.ntmps27
   go_wp2_with fail
   refine (HC1.out _).mono ?_
   rintro e w1 ⟨rfl, hw1⟩; subst w1
   go_wp2
   go_ret3
   exact ⟨⟨none, 0, 0, none, 0, 0, true, rfl, by rw [HP.out]; rfl, fun ps hp => by rw [HP.out] at hp; injection hp with hp; subst hp; exact ⟨rfl, rfl, World.ownsRow_nil _ _ _ _, World.ownsRow_nil _ _ _ _⟩⟩, Below.refl _ _⟩
  ·have hz0 : (z.toList == []) = false := by rw [Lib.toList_data, hz]; exact beq_false_of_ne h2
   have HP : Hid (Rt.pattern l = (Rt.cgo [] (Pt.cutS [] r)).bind (fun ps => if (Rt.names ps).Nodup then some ps else none)) := hid' (by
    rw [Rt.pattern_cgo, if_neg (by rw [hr]; simpa using h2), if_pos h1, hr]; rfl)
   have HSP := hid' (fun W => split17 z r hz W hzs)
   have hpl : (Pt.cutS [] r).length ≤ 4194305 := by have := Pt.cutS_len r; rw [← hz, ← Lib.size_eq] at this; rw [← hz]; omega
   have HPC : Hid (∀ x ∈ Pt.cutS [] r, x.length ≤ 4194304) := hid' (fun x hx => by have := Rt.piece_len r [] x hx; rw [Lib.size_eq, hz] at hzs; simp at this; omega)
   obtain ⟨xs, hxs⟩ : ∃ xs, Pt.cutS [] r = xs := ⟨_, rfl⟩
   rw [hxs] at HP HSP hpl HPC
   obtain ⟨i0, hi0, hy0, hy1, hy2⟩ := minfo17 infoS17
   have HI := hid' hi0
   have HZ0 := hid' hy0
   have HZ1 := hid' hy1
   have HZ2 := hid' hy2
   clear hi0 hy0 hy1 hy2
   obtain ⟨j0, hi0, hy0, hy1, hy2⟩ := minfo17 infoUp18
   have HJ := hid' hi0
   have HY0 := hid' hy0
   have HY1 := hid' hy1
   have HY2 := hid' hy2
   clear hi0 hy0 hy1 hy2 hl hsz h1 hr hz h2 hxs
   go_enter Tryz.func27, Tryz.ntmps27
   go_wp2_with fail
   refine (HC1.out _).mono ?_
   rintro e w1 ⟨rfl, hw1⟩; subst w1
   go_wp2_with fail
   refine (HSP.out _).mono ?_
   rintro e w1 ⟨⟨m, sg, rfl, hm, hsr⟩, hb1⟩
   have HM := hid' hm
   have HSR := hid' hsr
   have HB1 := hid' hb1
   rw [hm] at hpl
   clear hm hsr hb1
   go_wp2
   go_loopw [7, 8, 26] (fun s7 s8 s26 wr => ∃ (i n ac c nc : Nat) (ao no : Option Addr) (out : List Rt.Prt), s26 = .int .i64 (i : Int) ∧ s7 = .slice ao n ac ∧ s8 = .slice no c nc ∧ i ≤ m ∧ n ≤ i ∧ c ≤ i ∧ Hid (out.length = n) ∧ Hid ((Rt.names out).length = c) ∧ Hid (Rt.cgo [] xs = Rt.cgo out (xs.drop i)) ∧ Hid (∀ p ∈ out, p.k ≠ 0 → p.k ≠ 1 → p.k = 2) ∧ Hid (wr.ownsRow w1.heap.size 116 1 (.slice ao n ac) n (pCU18 out)) ∧ Hid (wr.ownsRow w1.heap.size 9 1 (.slice no c nc) c (sC17 (Rt.names out))) ∧ Hid (Below w1.heap.size w1 wr)) (fun _ _ s26 _ => m - (intOf s26).toNat)
   case atStart => exact ⟨0, 0, 0, 0, 0, none, none, [], rfl, rfl, rfl, Nat.zero_le _, Nat.le_refl _, Nat.le_refl _, hid' rfl, hid' rfl, hid' (by rw [List.drop_zero]), hid' (fun p hp => by simp at hp), hid' (World.ownsRow_nil _ _ _ _), hid' (World.ownsRow_nil _ _ _ _), hid' (Below.refl _ _)⟩
   case round =>
    obtain ⟨i, n, ac, c, nc, ao, no, out, rfl, rfl, rfl, hi, hni, hci, HOL, HNL, HG, HLK, HO, HON, HB⟩ := hrel
    by_cases hlt : i < m
    ·have hlt2 : (i : Int) < (m : Int) := by omega
     obtain ⟨x, hx⟩ : ∃ x, xs[i]? = some x := ⟨_, List.getElem?_eq_getElem (by rw [HM.out]; exact hlt)⟩
     obtain ⟨g, hgg, _, y0⟩ := (HSR.out.below HB.out) i x hx
     obtain rfl : sg = g := by injection hgg with h; injection h
     have HGA := hid' (Rt.cgo_at hx out)
     have hxl := HPC.out x (List.mem_of_getElem? hx)
     obtain ⟨y, hy⟩ : ∃ y : ByteArray, (⟨x.toArray⟩ : ByteArray) = y := ⟨_, rfl⟩
     rw [hy] at y0
     have HCP := hid' (cpart18 y x (by rw [← hy]) wr (by rw [← hy]; simp [ByteArray.size]; exact hxl))
     clear hx hgg hy hxl
     go_wp2_with fail
     refine HCP.out.mono ?_
     rintro e w2 ⟨⟨v, nm, b, rfl, hb, hv⟩, hb2⟩
     have HB2 : Hid (Below w1.heap.size w1 w2) := hid' (HB.out.trans (hb2.mono HB.out.size))
     have HO2 := hid' (own_kp17 HO.out hb2)
     have HON2 := hid' (own_kp17 HON.out hb2)
     clear hb2 y0
     cases b
     ·have HN0 : Hid (Rt.pattern l = none) := hid' (by rw [HP.out, HG.out, HGA.out, ← hb]; rfl)
      clear hv hb
      go_wp2
      go_ret3
      exact ⟨psR18_none HN0.out, below_two HB1.out HB2.out⟩
     ·obtain ⟨hv1, hv2⟩ := hv rfl
      have HVV := hid' hv1
      have HNM := hid' hv2
      have HBT : Hid ((Rt.prt x).2 = true) := hid' hb.symm
      clear hv hb hv1 hv2
      obtain ⟨p, hpp⟩ : ∃ p, (Rt.prt x).1 = p := ⟨_, rfl⟩
      rw [hpp] at HVV HNM HGA
      have hpk : p.k = 0 ∨ p.k = 1 ∨ p.k = 2 := by have := Rt.prt_k x; rw [hpp] at this; omega
      have HLK2 : Hid (∀ q ∈ out ++ [p], q.k ≠ 0 → q.k ≠ 1 → q.k = 2) := hid' (fun q hq h0 h1 => by
       rcases List.mem_append.1 hq with h | h
       ·exact HLK.out q h h0 h1
       ·simp at h; subst h; omega)
      clear hpp
      by_cases hn0 : n = 0
      ·subst hn0
       have HLR : Hid (Rt.lastR out = false) := hid' (by rw [List.eq_nil_of_length_eq_zero HOL.out]; rfl)
       have HO4 := HO2
       have HON4 := HON2
       have HB4 := HB2
       rcases hpk with hpk | hpk | hpk
       ·have e1 : pU18 p = .iface 147 (.string ⟨p.t.toArray⟩) := by unfold pU18; rw [hpk]; rfl
        have mmp := mkindP18 ⟨p.t.toArray⟩
        have HNX : Hid (Rt.cgo [] xs = Rt.cgo (out ++ [p]) (xs.drop (i + 1))) := hid' (by rw [HG.out, HGA.out, HBT.out, HLR.out]; rfl)
        have HNA : Hid (Rt.names (out ++ [p]) = Rt.names out) := hid' (by rw [Rt.namesU_app, Rt.names_one, hpk]; simp)
        have HVE : Hid (v = .iface 147 (.string ⟨p.t.toArray⟩)) := hid' (HVV.out.trans e1)
        obtain rfl := HVE.out
        have HQ : Hid (pCU18 (out ++ [p]) = pCU18 out ++ [.iface 147 (.string ⟨p.t.toArray⟩)]) := hid' (by rw [pCU18_snoc, e1])
        have HA : Hid ((w2.alloc (.cells #[.iface 147 (.string ⟨p.t.toArray⟩)] 116)).ownsRow w1.heap.size 116 1 (.slice ao 0 ac) 0 (pCU18 out)) := hid' (HO4.out.alloc _)
        have HAN : Hid ((w2.alloc (.cells #[.iface 147 (.string ⟨p.t.toArray⟩)] 116)).ownsRow w1.heap.size 9 1 (.slice no c nc) c (sC17 (Rt.names out))) := hid' (HON4.out.alloc _)
        clear e1 hpk
        go_wp2_with (at_builtin; refine wpList_append_own_at _ rfl _ _ 85 rfl w1.heap.size 116 j0 .nilIface 1 16 Tryz.underlying85 HJ.out HY0.out HY1.out HY2.out rfl (by decide) (.slice ao 0 ac) 0 (pCU18 out) rfl HA.out ⟨w2.heap.size, 0, none⟩ 1 1 [.iface 147 (.string ⟨p.t.toArray⟩)] rfl rfl (one_cell17 _ _ _) (by simp [Value.oneCell']) (by unfold maxLen; omega) (by omega) (by simp; have := HB4.out.size; omega) ?_; intro v5 w5 hown5 hgrow5 _ _; refine Hid.out ?_)
        refine hid' ?_
        rw [← HQ.out] at hown5
        obtain ⟨v5o, v5c, hv5⟩ := own_shape17 hown5
        subst hv5
        have HO5 := hid' hown5
        have HON5 := hid' (own_other18 HAN.out HA.out hgrow5 (by decide))
        have HB5 : Hid (Below w1.heap.size w1 w5) := hid' ((HB4.out.alloc HB4.out.size _).grown hgrow5 (by simp; have := HB4.out.size; omega) (fun k hk => (HA.out.lt k hk).1))
        clear hown5 hgrow5
        go_wp2_with fail
        refine (kindP18 ⟨p.t.toArray⟩ w5).mono ?_
        rintro e w6 ⟨rfl, hb6⟩
        have HB6 := hid' (HB5.out.trans (hb6.mono HB5.out.size))
        have HO6 := hid' (own_kp17 HO5.out hb6)
        have HON6 := hid' (own_kp17 HON5.out hb6)
        clear hb6
        go_wp2
        go_roundw
        case rel => exact ⟨i + 1, 0 + 1, v5c, c, nc, v5o, no, out ++ [p], by go_num, rfl, rfl, by omega, by omega, by omega, hid' (by rw [List.length_append, HOL.out]; rfl), hid' (by rw [HNA.out]; exact HNL.out), HNX, HLK2, HO6, hid' (by rw [HNA.out]; exact HON6.out), HB6⟩
        case measure => simp [intOf]; omega
       ·have e1 : pU18 p = .iface 150 (.agg #[]) := by unfold pU18; rw [hpk]; rfl
        have mmp := mkindC18
        have HNX : Hid (Rt.cgo [] xs = Rt.cgo (out ++ [p]) (xs.drop (i + 1))) := hid' (by rw [HG.out, HGA.out, HBT.out, HLR.out]; rfl)
        have HNA : Hid (Rt.names (out ++ [p]) = Rt.names out ++ [p.t]) := hid' (by rw [Rt.namesU_app, Rt.names_one, hpk]; rfl)
        have HVE : Hid (v = .iface 150 (.agg #[])) := hid' (HVV.out.trans e1)
        obtain rfl := HVE.out
        have HQ : Hid (pCU18 (out ++ [p]) = pCU18 out ++ [.iface 150 (.agg #[])]) := hid' (by rw [pCU18_snoc, e1])
        have HNE : Hid (nm = ⟨p.t.toArray⟩) := hid' (by rw [HNM.out]; unfold nmU18; rw [hpk]; rfl)
        have HA : Hid ((w2.alloc (.cells #[.iface 150 (.agg #[])] 116)).ownsRow w1.heap.size 116 1 (.slice ao 0 ac) 0 (pCU18 out)) := hid' (HO4.out.alloc _)
        have HAN : Hid ((w2.alloc (.cells #[.iface 150 (.agg #[])] 116)).ownsRow w1.heap.size 9 1 (.slice no c nc) c (sC17 (Rt.names out))) := hid' (HON4.out.alloc _)
        clear e1 hpk
        go_wp2_with (at_builtin; refine wpList_append_own_at _ rfl _ _ 85 rfl w1.heap.size 116 j0 .nilIface 1 16 Tryz.underlying85 HJ.out HY0.out HY1.out HY2.out rfl (by decide) (.slice ao 0 ac) 0 (pCU18 out) rfl HA.out ⟨w2.heap.size, 0, none⟩ 1 1 [.iface 150 (.agg #[])] rfl rfl (one_cell17 _ _ _) (by simp [Value.oneCell']) (by unfold maxLen; omega) (by omega) (by simp; have := HB4.out.size; omega) ?_; intro v5 w5 hown5 hgrow5 _ _; refine Hid.out ?_)
        refine hid' ?_
        rw [← HQ.out] at hown5
        obtain ⟨v5o, v5c, hv5⟩ := own_shape17 hown5
        subst hv5
        have HO5 := hid' hown5
        have HON5 := hid' (own_other18 HAN.out HA.out hgrow5 (by decide))
        have HB5 : Hid (Below w1.heap.size w1 w5) := hid' ((HB4.out.alloc HB4.out.size _).grown hgrow5 (by simp; have := HB4.out.size; omega) (fun k hk => (HA.out.lt k hk).1))
        clear hown5 hgrow5
        go_wp2_with fail
        refine (kindC18 w5).mono ?_
        rintro e w6 ⟨rfl, hb6⟩
        have HB6 := hid' (HB5.out.trans (hb6.mono HB5.out.size))
        have HO6 := hid' (own_kp17 HO5.out hb6)
        have HON6 := hid' (own_kp17 HON5.out hb6)
        clear hb6
        have HA7 : Hid ((w6.alloc (.cells #[.string nm] 9)).ownsRow w1.heap.size 9 1 (.slice no c nc) c (sC17 (Rt.names out))) := hid' (HON6.out.alloc _)
        have HAP7 : Hid ((w6.alloc (.cells #[.string nm] 9)).ownsRow w1.heap.size 116 1 (.slice v5o (0 + 1) v5c) (0 + 1) (pCU18 (out ++ [p]))) := hid' (HO6.out.alloc _)
        go_wp2_with (at_builtin; refine wpList_append_own_at _ rfl _ _ 78 rfl w1.heap.size 9 i0 (.string ⟨#[]⟩) 1 16 Tryz.underlying78 HI.out HZ0.out HZ1.out HZ2.out rfl (by decide) (.slice no c nc) c (sC17 (Rt.names out)) rfl HA7.out ⟨w6.heap.size, 0, none⟩ 1 1 [.string nm] rfl rfl (one_cell17 _ _ _) (by simp [Value.oneCell']) (by unfold maxLen; omega) (by omega) (by simp; have := HB6.out.size; omega) ?_; intro v8 w8 hown8 hgrow8 _ _; refine Hid.out ?_)
        refine hid' ?_
        have e8 : sC17 (Rt.names out) ++ [Value.string nm] = sC17 (Rt.names (out ++ [p])) := by rw [HNA.out, sC17_app, HNE.out]; rfl
        rw [e8] at hown8
        obtain ⟨v8o, v8c, hv8⟩ := own_shape17 hown8
        subst hv8
        have HON8 := hid' hown8
        have HO8 := hid' (own_other18 HAP7.out HA7.out hgrow8 (by decide))
        have HB8 : Hid (Below w1.heap.size w1 w8) := hid' ((HB6.out.alloc HB6.out.size _).grown hgrow8 (by simp; have := HB6.out.size; omega) (fun k hk => (HA7.out.lt k hk).1))
        clear hown8 hgrow8 e8
        go_wp2
        go_roundw
        case rel => exact ⟨i + 1, 0 + 1, v5c, c + 1, v8c, v5o, v8o, out ++ [p], by go_num, rfl, rfl, by omega, by omega, by omega, hid' (by rw [List.length_append, HOL.out]; rfl), hid' (by rw [HNA.out, List.length_append, HNL.out]; rfl), HNX, HLK2, HO8, HON8, HB8⟩
        case measure => simp [intOf]; omega
       ·have e1 : pU18 p = .iface 149 (.agg #[]) := by unfold pU18; rw [hpk]; rfl
        have mmp := mkindR18
        have HNX : Hid (Rt.cgo [] xs = Rt.cgo (out ++ [p]) (xs.drop (i + 1))) := hid' (by rw [HG.out, HGA.out, HBT.out, HLR.out]; rfl)
        have HNA : Hid (Rt.names (out ++ [p]) = Rt.names out ++ [p.t]) := hid' (by rw [Rt.namesU_app, Rt.names_one, hpk]; rfl)
        have HVE : Hid (v = .iface 149 (.agg #[])) := hid' (HVV.out.trans e1)
        obtain rfl := HVE.out
        have HQ : Hid (pCU18 (out ++ [p]) = pCU18 out ++ [.iface 149 (.agg #[])]) := hid' (by rw [pCU18_snoc, e1])
        have HNE : Hid (nm = ⟨p.t.toArray⟩) := hid' (by rw [HNM.out]; unfold nmU18; rw [hpk]; rfl)
        have HA : Hid ((w2.alloc (.cells #[.iface 149 (.agg #[])] 116)).ownsRow w1.heap.size 116 1 (.slice ao 0 ac) 0 (pCU18 out)) := hid' (HO4.out.alloc _)
        have HAN : Hid ((w2.alloc (.cells #[.iface 149 (.agg #[])] 116)).ownsRow w1.heap.size 9 1 (.slice no c nc) c (sC17 (Rt.names out))) := hid' (HON4.out.alloc _)
        clear e1 hpk
        go_wp2_with (at_builtin; refine wpList_append_own_at _ rfl _ _ 85 rfl w1.heap.size 116 j0 .nilIface 1 16 Tryz.underlying85 HJ.out HY0.out HY1.out HY2.out rfl (by decide) (.slice ao 0 ac) 0 (pCU18 out) rfl HA.out ⟨w2.heap.size, 0, none⟩ 1 1 [.iface 149 (.agg #[])] rfl rfl (one_cell17 _ _ _) (by simp [Value.oneCell']) (by unfold maxLen; omega) (by omega) (by simp; have := HB4.out.size; omega) ?_; intro v5 w5 hown5 hgrow5 _ _; refine Hid.out ?_)
        refine hid' ?_
        rw [← HQ.out] at hown5
        obtain ⟨v5o, v5c, hv5⟩ := own_shape17 hown5
        subst hv5
        have HO5 := hid' hown5
        have HON5 := hid' (own_other18 HAN.out HA.out hgrow5 (by decide))
        have HB5 : Hid (Below w1.heap.size w1 w5) := hid' ((HB4.out.alloc HB4.out.size _).grown hgrow5 (by simp; have := HB4.out.size; omega) (fun k hk => (HA.out.lt k hk).1))
        clear hown5 hgrow5
        go_wp2_with fail
        refine (kindR18 w5).mono ?_
        rintro e w6 ⟨rfl, hb6⟩
        have HB6 := hid' (HB5.out.trans (hb6.mono HB5.out.size))
        have HO6 := hid' (own_kp17 HO5.out hb6)
        have HON6 := hid' (own_kp17 HON5.out hb6)
        clear hb6
        have HA7 : Hid ((w6.alloc (.cells #[.string nm] 9)).ownsRow w1.heap.size 9 1 (.slice no c nc) c (sC17 (Rt.names out))) := hid' (HON6.out.alloc _)
        have HAP7 : Hid ((w6.alloc (.cells #[.string nm] 9)).ownsRow w1.heap.size 116 1 (.slice v5o (0 + 1) v5c) (0 + 1) (pCU18 (out ++ [p]))) := hid' (HO6.out.alloc _)
        go_wp2_with (at_builtin; refine wpList_append_own_at _ rfl _ _ 78 rfl w1.heap.size 9 i0 (.string ⟨#[]⟩) 1 16 Tryz.underlying78 HI.out HZ0.out HZ1.out HZ2.out rfl (by decide) (.slice no c nc) c (sC17 (Rt.names out)) rfl HA7.out ⟨w6.heap.size, 0, none⟩ 1 1 [.string nm] rfl rfl (one_cell17 _ _ _) (by simp [Value.oneCell']) (by unfold maxLen; omega) (by omega) (by simp; have := HB6.out.size; omega) ?_; intro v8 w8 hown8 hgrow8 _ _; refine Hid.out ?_)
        refine hid' ?_
        have e8 : sC17 (Rt.names out) ++ [Value.string nm] = sC17 (Rt.names (out ++ [p])) := by rw [HNA.out, sC17_app, HNE.out]; rfl
        rw [e8] at hown8
        obtain ⟨v8o, v8c, hv8⟩ := own_shape17 hown8
        subst hv8
        have HON8 := hid' hown8
        have HO8 := hid' (own_other18 HAP7.out HA7.out hgrow8 (by decide))
        have HB8 : Hid (Below w1.heap.size w1 w8) := hid' ((HB6.out.alloc HB6.out.size _).grown hgrow8 (by simp; have := HB6.out.size; omega) (fun k hk => (HA7.out.lt k hk).1))
        clear hown8 hgrow8 e8
        go_wp2
        go_roundw
        case rel => exact ⟨i + 1, 0 + 1, v5c, c + 1, v8c, v5o, v8o, out ++ [p], by go_num, rfl, rfl, by omega, by omega, by omega, hid' (by rw [List.length_append, HOL.out]; rfl), hid' (by rw [HNA.out, List.length_append, HNL.out]; rfl), HNX, HLK2, HO8, HON8, HB8⟩
        case measure => simp [intOf]; omega
      ·obtain ⟨q, rfl⟩ : ∃ q, n = q + 1 := ⟨n - 1, by omega⟩
       have hq1 : (0 : Int) < ((q + 1 : Nat) : Int) := by omega
       have hq3 : (((q + 1 : Nat) : Int) - 1) = (q : Int) := by omega
       have hq4 : (0 : Int) ≤ (q : Int) := by omega
       have hq5 : (q : Int) < ((q + 1 : Nat) : Int) := by omega
       obtain ⟨lp, hlp⟩ : ∃ lp, out[q]? = some lp := ⟨_, List.getElem?_eq_getElem (by rw [HOL.out]; omega)⟩
       have HLA := hid' (Rt.lastR_at hlp HOL.out)
       have HLW : Hid (∀ W, Below w2.heap.size w2 W → ∃ g2, ao = some ⟨g2, 0, none⟩ ∧ W.cell? ⟨g2, q, none⟩ = some (pU18 lp)) := hid' (fun W hW => by
        obtain ⟨g2, h1, _, h3⟩ := (PU18.own (own_kp17 HO2.out hW)) q lp hlp
        exact ⟨g2, h1, h3⟩)
       obtain ⟨g2, rfl, hg2, z0⟩ := (PU18.own HO2.out) q lp hlp
       have hlk : lp.k = 0 ∨ lp.k = 1 ∨ lp.k = 2 := by
        by_cases h0 : lp.k = 0
        ·exact .inl h0
        ·by_cases h1 : lp.k = 1
         ·exact .inr (.inl h1)
         ·exact .inr (.inr (HLK.out lp (List.mem_of_getElem? hlp) h0 h1))
       clear hlp hn0 HLW
       rcases hlk with hlk | hlk | hlk
       ·have el : pU18 lp = .iface 147 (.string ⟨lp.t.toArray⟩) := by unfold pU18; rw [hlk]; rfl
        rw [el] at z0
        have mml := mkindP18 ⟨lp.t.toArray⟩
        have HLR : Hid (Rt.lastR out = false) := hid' (by rw [HLA.out, hlk]; rfl)
        clear el hlk
        go_wp2_with fail
        refine (kindP18 ⟨lp.t.toArray⟩ w2).mono ?_
        rintro e w4 ⟨rfl, hb4⟩
        have HB4 := hid' (HB2.out.trans (hb4.mono HB2.out.size))
        have HO4 := hid' (own_kp17 HO2.out hb4)
        have HON4 := hid' (own_kp17 HON2.out hb4)
        clear hb4 z0 hg2
        rcases hpk with hpk | hpk | hpk
        ·have e1 : pU18 p = .iface 147 (.string ⟨p.t.toArray⟩) := by unfold pU18; rw [hpk]; rfl
         have mmp := mkindP18 ⟨p.t.toArray⟩
         have HNX : Hid (Rt.cgo [] xs = Rt.cgo (out ++ [p]) (xs.drop (i + 1))) := hid' (by rw [HG.out, HGA.out, HBT.out, HLR.out]; rfl)
         have HNA : Hid (Rt.names (out ++ [p]) = Rt.names out) := hid' (by rw [Rt.namesU_app, Rt.names_one, hpk]; simp)
         have HVE : Hid (v = .iface 147 (.string ⟨p.t.toArray⟩)) := hid' (HVV.out.trans e1)
         obtain rfl := HVE.out
         have HQ : Hid (pCU18 (out ++ [p]) = pCU18 out ++ [.iface 147 (.string ⟨p.t.toArray⟩)]) := hid' (by rw [pCU18_snoc, e1])
         have HA : Hid ((w4.alloc (.cells #[.iface 147 (.string ⟨p.t.toArray⟩)] 116)).ownsRow w1.heap.size 116 1 (.slice (some ⟨g2, 0, none⟩) (q + 1) ac) (q + 1) (pCU18 out)) := hid' (HO4.out.alloc _)
         have HAN : Hid ((w4.alloc (.cells #[.iface 147 (.string ⟨p.t.toArray⟩)] 116)).ownsRow w1.heap.size 9 1 (.slice no c nc) c (sC17 (Rt.names out))) := hid' (HON4.out.alloc _)
         clear e1 hpk
         go_wp2_with (at_builtin; refine wpList_append_own_at _ rfl _ _ 85 rfl w1.heap.size 116 j0 .nilIface 1 16 Tryz.underlying85 HJ.out HY0.out HY1.out HY2.out rfl (by decide) (.slice (some ⟨g2, 0, none⟩) (q + 1) ac) (q + 1) (pCU18 out) rfl HA.out ⟨w4.heap.size, 0, none⟩ 1 1 [.iface 147 (.string ⟨p.t.toArray⟩)] rfl rfl (one_cell17 _ _ _) (by simp [Value.oneCell']) (by unfold maxLen; omega) (by omega) (by simp; have := HB4.out.size; omega) ?_; intro v5 w5 hown5 hgrow5 _ _; refine Hid.out ?_)
         refine hid' ?_
         rw [← HQ.out] at hown5
         obtain ⟨v5o, v5c, hv5⟩ := own_shape17 hown5
         subst hv5
         have HO5 := hid' hown5
         have HON5 := hid' (own_other18 HAN.out HA.out hgrow5 (by decide))
         have HB5 : Hid (Below w1.heap.size w1 w5) := hid' ((HB4.out.alloc HB4.out.size _).grown hgrow5 (by simp; have := HB4.out.size; omega) (fun k hk => (HA.out.lt k hk).1))
         clear hown5 hgrow5
         go_wp2_with fail
         refine (kindP18 ⟨p.t.toArray⟩ w5).mono ?_
         rintro e w6 ⟨rfl, hb6⟩
         have HB6 := hid' (HB5.out.trans (hb6.mono HB5.out.size))
         have HO6 := hid' (own_kp17 HO5.out hb6)
         have HON6 := hid' (own_kp17 HON5.out hb6)
         clear hb6
         go_wp2
         go_roundw
         case rel => exact ⟨i + 1, q + 1 + 1, v5c, c, nc, v5o, no, out ++ [p], by go_num, rfl, rfl, by omega, by omega, by omega, hid' (by rw [List.length_append, HOL.out]; rfl), hid' (by rw [HNA.out]; exact HNL.out), HNX, HLK2, HO6, hid' (by rw [HNA.out]; exact HON6.out), HB6⟩
         case measure => simp [intOf]; omega
        ·have e1 : pU18 p = .iface 150 (.agg #[]) := by unfold pU18; rw [hpk]; rfl
         have mmp := mkindC18
         have HNX : Hid (Rt.cgo [] xs = Rt.cgo (out ++ [p]) (xs.drop (i + 1))) := hid' (by rw [HG.out, HGA.out, HBT.out, HLR.out]; rfl)
         have HNA : Hid (Rt.names (out ++ [p]) = Rt.names out ++ [p.t]) := hid' (by rw [Rt.namesU_app, Rt.names_one, hpk]; rfl)
         have HVE : Hid (v = .iface 150 (.agg #[])) := hid' (HVV.out.trans e1)
         obtain rfl := HVE.out
         have HQ : Hid (pCU18 (out ++ [p]) = pCU18 out ++ [.iface 150 (.agg #[])]) := hid' (by rw [pCU18_snoc, e1])
         have HNE : Hid (nm = ⟨p.t.toArray⟩) := hid' (by rw [HNM.out]; unfold nmU18; rw [hpk]; rfl)
         have HA : Hid ((w4.alloc (.cells #[.iface 150 (.agg #[])] 116)).ownsRow w1.heap.size 116 1 (.slice (some ⟨g2, 0, none⟩) (q + 1) ac) (q + 1) (pCU18 out)) := hid' (HO4.out.alloc _)
         have HAN : Hid ((w4.alloc (.cells #[.iface 150 (.agg #[])] 116)).ownsRow w1.heap.size 9 1 (.slice no c nc) c (sC17 (Rt.names out))) := hid' (HON4.out.alloc _)
         clear e1 hpk
         go_wp2_with (at_builtin; refine wpList_append_own_at _ rfl _ _ 85 rfl w1.heap.size 116 j0 .nilIface 1 16 Tryz.underlying85 HJ.out HY0.out HY1.out HY2.out rfl (by decide) (.slice (some ⟨g2, 0, none⟩) (q + 1) ac) (q + 1) (pCU18 out) rfl HA.out ⟨w4.heap.size, 0, none⟩ 1 1 [.iface 150 (.agg #[])] rfl rfl (one_cell17 _ _ _) (by simp [Value.oneCell']) (by unfold maxLen; omega) (by omega) (by simp; have := HB4.out.size; omega) ?_; intro v5 w5 hown5 hgrow5 _ _; refine Hid.out ?_)
         refine hid' ?_
         rw [← HQ.out] at hown5
         obtain ⟨v5o, v5c, hv5⟩ := own_shape17 hown5
         subst hv5
         have HO5 := hid' hown5
         have HON5 := hid' (own_other18 HAN.out HA.out hgrow5 (by decide))
         have HB5 : Hid (Below w1.heap.size w1 w5) := hid' ((HB4.out.alloc HB4.out.size _).grown hgrow5 (by simp; have := HB4.out.size; omega) (fun k hk => (HA.out.lt k hk).1))
         clear hown5 hgrow5
         go_wp2_with fail
         refine (kindC18 w5).mono ?_
         rintro e w6 ⟨rfl, hb6⟩
         have HB6 := hid' (HB5.out.trans (hb6.mono HB5.out.size))
         have HO6 := hid' (own_kp17 HO5.out hb6)
         have HON6 := hid' (own_kp17 HON5.out hb6)
         clear hb6
         have HA7 : Hid ((w6.alloc (.cells #[.string nm] 9)).ownsRow w1.heap.size 9 1 (.slice no c nc) c (sC17 (Rt.names out))) := hid' (HON6.out.alloc _)
         have HAP7 : Hid ((w6.alloc (.cells #[.string nm] 9)).ownsRow w1.heap.size 116 1 (.slice v5o (q + 1 + 1) v5c) (q + 1 + 1) (pCU18 (out ++ [p]))) := hid' (HO6.out.alloc _)
         go_wp2_with (at_builtin; refine wpList_append_own_at _ rfl _ _ 78 rfl w1.heap.size 9 i0 (.string ⟨#[]⟩) 1 16 Tryz.underlying78 HI.out HZ0.out HZ1.out HZ2.out rfl (by decide) (.slice no c nc) c (sC17 (Rt.names out)) rfl HA7.out ⟨w6.heap.size, 0, none⟩ 1 1 [.string nm] rfl rfl (one_cell17 _ _ _) (by simp [Value.oneCell']) (by unfold maxLen; omega) (by omega) (by simp; have := HB6.out.size; omega) ?_; intro v8 w8 hown8 hgrow8 _ _; refine Hid.out ?_)
         refine hid' ?_
         have e8 : sC17 (Rt.names out) ++ [Value.string nm] = sC17 (Rt.names (out ++ [p])) := by rw [HNA.out, sC17_app, HNE.out]; rfl
         rw [e8] at hown8
         obtain ⟨v8o, v8c, hv8⟩ := own_shape17 hown8
         subst hv8
         have HON8 := hid' hown8
         have HO8 := hid' (own_other18 HAP7.out HA7.out hgrow8 (by decide))
         have HB8 : Hid (Below w1.heap.size w1 w8) := hid' ((HB6.out.alloc HB6.out.size _).grown hgrow8 (by simp; have := HB6.out.size; omega) (fun k hk => (HA7.out.lt k hk).1))
         clear hown8 hgrow8 e8
         go_wp2
         go_roundw
         case rel => exact ⟨i + 1, q + 1 + 1, v5c, c + 1, v8c, v5o, v8o, out ++ [p], by go_num, rfl, rfl, by omega, by omega, by omega, hid' (by rw [List.length_append, HOL.out]; rfl), hid' (by rw [HNA.out, List.length_append, HNL.out]; rfl), HNX, HLK2, HO8, HON8, HB8⟩
         case measure => simp [intOf]; omega
        ·have e1 : pU18 p = .iface 149 (.agg #[]) := by unfold pU18; rw [hpk]; rfl
         have mmp := mkindR18
         have HNX : Hid (Rt.cgo [] xs = Rt.cgo (out ++ [p]) (xs.drop (i + 1))) := hid' (by rw [HG.out, HGA.out, HBT.out, HLR.out]; rfl)
         have HNA : Hid (Rt.names (out ++ [p]) = Rt.names out ++ [p.t]) := hid' (by rw [Rt.namesU_app, Rt.names_one, hpk]; rfl)
         have HVE : Hid (v = .iface 149 (.agg #[])) := hid' (HVV.out.trans e1)
         obtain rfl := HVE.out
         have HQ : Hid (pCU18 (out ++ [p]) = pCU18 out ++ [.iface 149 (.agg #[])]) := hid' (by rw [pCU18_snoc, e1])
         have HNE : Hid (nm = ⟨p.t.toArray⟩) := hid' (by rw [HNM.out]; unfold nmU18; rw [hpk]; rfl)
         have HA : Hid ((w4.alloc (.cells #[.iface 149 (.agg #[])] 116)).ownsRow w1.heap.size 116 1 (.slice (some ⟨g2, 0, none⟩) (q + 1) ac) (q + 1) (pCU18 out)) := hid' (HO4.out.alloc _)
         have HAN : Hid ((w4.alloc (.cells #[.iface 149 (.agg #[])] 116)).ownsRow w1.heap.size 9 1 (.slice no c nc) c (sC17 (Rt.names out))) := hid' (HON4.out.alloc _)
         clear e1 hpk
         go_wp2_with (at_builtin; refine wpList_append_own_at _ rfl _ _ 85 rfl w1.heap.size 116 j0 .nilIface 1 16 Tryz.underlying85 HJ.out HY0.out HY1.out HY2.out rfl (by decide) (.slice (some ⟨g2, 0, none⟩) (q + 1) ac) (q + 1) (pCU18 out) rfl HA.out ⟨w4.heap.size, 0, none⟩ 1 1 [.iface 149 (.agg #[])] rfl rfl (one_cell17 _ _ _) (by simp [Value.oneCell']) (by unfold maxLen; omega) (by omega) (by simp; have := HB4.out.size; omega) ?_; intro v5 w5 hown5 hgrow5 _ _; refine Hid.out ?_)
         refine hid' ?_
         rw [← HQ.out] at hown5
         obtain ⟨v5o, v5c, hv5⟩ := own_shape17 hown5
         subst hv5
         have HO5 := hid' hown5
         have HON5 := hid' (own_other18 HAN.out HA.out hgrow5 (by decide))
         have HB5 : Hid (Below w1.heap.size w1 w5) := hid' ((HB4.out.alloc HB4.out.size _).grown hgrow5 (by simp; have := HB4.out.size; omega) (fun k hk => (HA.out.lt k hk).1))
         clear hown5 hgrow5
         go_wp2_with fail
         refine (kindR18 w5).mono ?_
         rintro e w6 ⟨rfl, hb6⟩
         have HB6 := hid' (HB5.out.trans (hb6.mono HB5.out.size))
         have HO6 := hid' (own_kp17 HO5.out hb6)
         have HON6 := hid' (own_kp17 HON5.out hb6)
         clear hb6
         have HA7 : Hid ((w6.alloc (.cells #[.string nm] 9)).ownsRow w1.heap.size 9 1 (.slice no c nc) c (sC17 (Rt.names out))) := hid' (HON6.out.alloc _)
         have HAP7 : Hid ((w6.alloc (.cells #[.string nm] 9)).ownsRow w1.heap.size 116 1 (.slice v5o (q + 1 + 1) v5c) (q + 1 + 1) (pCU18 (out ++ [p]))) := hid' (HO6.out.alloc _)
         go_wp2_with (at_builtin; refine wpList_append_own_at _ rfl _ _ 78 rfl w1.heap.size 9 i0 (.string ⟨#[]⟩) 1 16 Tryz.underlying78 HI.out HZ0.out HZ1.out HZ2.out rfl (by decide) (.slice no c nc) c (sC17 (Rt.names out)) rfl HA7.out ⟨w6.heap.size, 0, none⟩ 1 1 [.string nm] rfl rfl (one_cell17 _ _ _) (by simp [Value.oneCell']) (by unfold maxLen; omega) (by omega) (by simp; have := HB6.out.size; omega) ?_; intro v8 w8 hown8 hgrow8 _ _; refine Hid.out ?_)
         refine hid' ?_
         have e8 : sC17 (Rt.names out) ++ [Value.string nm] = sC17 (Rt.names (out ++ [p])) := by rw [HNA.out, sC17_app, HNE.out]; rfl
         rw [e8] at hown8
         obtain ⟨v8o, v8c, hv8⟩ := own_shape17 hown8
         subst hv8
         have HON8 := hid' hown8
         have HO8 := hid' (own_other18 HAP7.out HA7.out hgrow8 (by decide))
         have HB8 : Hid (Below w1.heap.size w1 w8) := hid' ((HB6.out.alloc HB6.out.size _).grown hgrow8 (by simp; have := HB6.out.size; omega) (fun k hk => (HA7.out.lt k hk).1))
         clear hown8 hgrow8 e8
         go_wp2
         go_roundw
         case rel => exact ⟨i + 1, q + 1 + 1, v5c, c + 1, v8c, v5o, v8o, out ++ [p], by go_num, rfl, rfl, by omega, by omega, by omega, hid' (by rw [List.length_append, HOL.out]; rfl), hid' (by rw [HNA.out, List.length_append, HNL.out]; rfl), HNX, HLK2, HO8, HON8, HB8⟩
         case measure => simp [intOf]; omega
       ·have el : pU18 lp = .iface 150 (.agg #[]) := by unfold pU18; rw [hlk]; rfl
        rw [el] at z0
        have mml := mkindC18
        have HLR : Hid (Rt.lastR out = false) := hid' (by rw [HLA.out, hlk]; rfl)
        clear el hlk
        go_wp2_with fail
        refine (kindC18 w2).mono ?_
        rintro e w4 ⟨rfl, hb4⟩
        have HB4 := hid' (HB2.out.trans (hb4.mono HB2.out.size))
        have HO4 := hid' (own_kp17 HO2.out hb4)
        have HON4 := hid' (own_kp17 HON2.out hb4)
        clear hb4 z0 hg2
        rcases hpk with hpk | hpk | hpk
        ·have e1 : pU18 p = .iface 147 (.string ⟨p.t.toArray⟩) := by unfold pU18; rw [hpk]; rfl
         have mmp := mkindP18 ⟨p.t.toArray⟩
         have HNX : Hid (Rt.cgo [] xs = Rt.cgo (out ++ [p]) (xs.drop (i + 1))) := hid' (by rw [HG.out, HGA.out, HBT.out, HLR.out]; rfl)
         have HNA : Hid (Rt.names (out ++ [p]) = Rt.names out) := hid' (by rw [Rt.namesU_app, Rt.names_one, hpk]; simp)
         have HVE : Hid (v = .iface 147 (.string ⟨p.t.toArray⟩)) := hid' (HVV.out.trans e1)
         obtain rfl := HVE.out
         have HQ : Hid (pCU18 (out ++ [p]) = pCU18 out ++ [.iface 147 (.string ⟨p.t.toArray⟩)]) := hid' (by rw [pCU18_snoc, e1])
         have HA : Hid ((w4.alloc (.cells #[.iface 147 (.string ⟨p.t.toArray⟩)] 116)).ownsRow w1.heap.size 116 1 (.slice (some ⟨g2, 0, none⟩) (q + 1) ac) (q + 1) (pCU18 out)) := hid' (HO4.out.alloc _)
         have HAN : Hid ((w4.alloc (.cells #[.iface 147 (.string ⟨p.t.toArray⟩)] 116)).ownsRow w1.heap.size 9 1 (.slice no c nc) c (sC17 (Rt.names out))) := hid' (HON4.out.alloc _)
         clear e1 hpk
         go_wp2_with (at_builtin; refine wpList_append_own_at _ rfl _ _ 85 rfl w1.heap.size 116 j0 .nilIface 1 16 Tryz.underlying85 HJ.out HY0.out HY1.out HY2.out rfl (by decide) (.slice (some ⟨g2, 0, none⟩) (q + 1) ac) (q + 1) (pCU18 out) rfl HA.out ⟨w4.heap.size, 0, none⟩ 1 1 [.iface 147 (.string ⟨p.t.toArray⟩)] rfl rfl (one_cell17 _ _ _) (by simp [Value.oneCell']) (by unfold maxLen; omega) (by omega) (by simp; have := HB4.out.size; omega) ?_; intro v5 w5 hown5 hgrow5 _ _; refine Hid.out ?_)
         refine hid' ?_
         rw [← HQ.out] at hown5
         obtain ⟨v5o, v5c, hv5⟩ := own_shape17 hown5
         subst hv5
         have HO5 := hid' hown5
         have HON5 := hid' (own_other18 HAN.out HA.out hgrow5 (by decide))
         have HB5 : Hid (Below w1.heap.size w1 w5) := hid' ((HB4.out.alloc HB4.out.size _).grown hgrow5 (by simp; have := HB4.out.size; omega) (fun k hk => (HA.out.lt k hk).1))
         clear hown5 hgrow5
         go_wp2_with fail
         refine (kindP18 ⟨p.t.toArray⟩ w5).mono ?_
         rintro e w6 ⟨rfl, hb6⟩
         have HB6 := hid' (HB5.out.trans (hb6.mono HB5.out.size))
         have HO6 := hid' (own_kp17 HO5.out hb6)
         have HON6 := hid' (own_kp17 HON5.out hb6)
         clear hb6
         go_wp2
         go_roundw
         case rel => exact ⟨i + 1, q + 1 + 1, v5c, c, nc, v5o, no, out ++ [p], by go_num, rfl, rfl, by omega, by omega, by omega, hid' (by rw [List.length_append, HOL.out]; rfl), hid' (by rw [HNA.out]; exact HNL.out), HNX, HLK2, HO6, hid' (by rw [HNA.out]; exact HON6.out), HB6⟩
         case measure => simp [intOf]; omega
        ·have e1 : pU18 p = .iface 150 (.agg #[]) := by unfold pU18; rw [hpk]; rfl
         have mmp := mkindC18
         have HNX : Hid (Rt.cgo [] xs = Rt.cgo (out ++ [p]) (xs.drop (i + 1))) := hid' (by rw [HG.out, HGA.out, HBT.out, HLR.out]; rfl)
         have HNA : Hid (Rt.names (out ++ [p]) = Rt.names out ++ [p.t]) := hid' (by rw [Rt.namesU_app, Rt.names_one, hpk]; rfl)
         have HVE : Hid (v = .iface 150 (.agg #[])) := hid' (HVV.out.trans e1)
         obtain rfl := HVE.out
         have HQ : Hid (pCU18 (out ++ [p]) = pCU18 out ++ [.iface 150 (.agg #[])]) := hid' (by rw [pCU18_snoc, e1])
         have HNE : Hid (nm = ⟨p.t.toArray⟩) := hid' (by rw [HNM.out]; unfold nmU18; rw [hpk]; rfl)
         have HA : Hid ((w4.alloc (.cells #[.iface 150 (.agg #[])] 116)).ownsRow w1.heap.size 116 1 (.slice (some ⟨g2, 0, none⟩) (q + 1) ac) (q + 1) (pCU18 out)) := hid' (HO4.out.alloc _)
         have HAN : Hid ((w4.alloc (.cells #[.iface 150 (.agg #[])] 116)).ownsRow w1.heap.size 9 1 (.slice no c nc) c (sC17 (Rt.names out))) := hid' (HON4.out.alloc _)
         clear e1 hpk
         go_wp2_with (at_builtin; refine wpList_append_own_at _ rfl _ _ 85 rfl w1.heap.size 116 j0 .nilIface 1 16 Tryz.underlying85 HJ.out HY0.out HY1.out HY2.out rfl (by decide) (.slice (some ⟨g2, 0, none⟩) (q + 1) ac) (q + 1) (pCU18 out) rfl HA.out ⟨w4.heap.size, 0, none⟩ 1 1 [.iface 150 (.agg #[])] rfl rfl (one_cell17 _ _ _) (by simp [Value.oneCell']) (by unfold maxLen; omega) (by omega) (by simp; have := HB4.out.size; omega) ?_; intro v5 w5 hown5 hgrow5 _ _; refine Hid.out ?_)
         refine hid' ?_
         rw [← HQ.out] at hown5
         obtain ⟨v5o, v5c, hv5⟩ := own_shape17 hown5
         subst hv5
         have HO5 := hid' hown5
         have HON5 := hid' (own_other18 HAN.out HA.out hgrow5 (by decide))
         have HB5 : Hid (Below w1.heap.size w1 w5) := hid' ((HB4.out.alloc HB4.out.size _).grown hgrow5 (by simp; have := HB4.out.size; omega) (fun k hk => (HA.out.lt k hk).1))
         clear hown5 hgrow5
         go_wp2_with fail
         refine (kindC18 w5).mono ?_
         rintro e w6 ⟨rfl, hb6⟩
         have HB6 := hid' (HB5.out.trans (hb6.mono HB5.out.size))
         have HO6 := hid' (own_kp17 HO5.out hb6)
         have HON6 := hid' (own_kp17 HON5.out hb6)
         clear hb6
         have HA7 : Hid ((w6.alloc (.cells #[.string nm] 9)).ownsRow w1.heap.size 9 1 (.slice no c nc) c (sC17 (Rt.names out))) := hid' (HON6.out.alloc _)
         have HAP7 : Hid ((w6.alloc (.cells #[.string nm] 9)).ownsRow w1.heap.size 116 1 (.slice v5o (q + 1 + 1) v5c) (q + 1 + 1) (pCU18 (out ++ [p]))) := hid' (HO6.out.alloc _)
         go_wp2_with (at_builtin; refine wpList_append_own_at _ rfl _ _ 78 rfl w1.heap.size 9 i0 (.string ⟨#[]⟩) 1 16 Tryz.underlying78 HI.out HZ0.out HZ1.out HZ2.out rfl (by decide) (.slice no c nc) c (sC17 (Rt.names out)) rfl HA7.out ⟨w6.heap.size, 0, none⟩ 1 1 [.string nm] rfl rfl (one_cell17 _ _ _) (by simp [Value.oneCell']) (by unfold maxLen; omega) (by omega) (by simp; have := HB6.out.size; omega) ?_; intro v8 w8 hown8 hgrow8 _ _; refine Hid.out ?_)
         refine hid' ?_
         have e8 : sC17 (Rt.names out) ++ [Value.string nm] = sC17 (Rt.names (out ++ [p])) := by rw [HNA.out, sC17_app, HNE.out]; rfl
         rw [e8] at hown8
         obtain ⟨v8o, v8c, hv8⟩ := own_shape17 hown8
         subst hv8
         have HON8 := hid' hown8
         have HO8 := hid' (own_other18 HAP7.out HA7.out hgrow8 (by decide))
         have HB8 : Hid (Below w1.heap.size w1 w8) := hid' ((HB6.out.alloc HB6.out.size _).grown hgrow8 (by simp; have := HB6.out.size; omega) (fun k hk => (HA7.out.lt k hk).1))
         clear hown8 hgrow8 e8
         go_wp2
         go_roundw
         case rel => exact ⟨i + 1, q + 1 + 1, v5c, c + 1, v8c, v5o, v8o, out ++ [p], by go_num, rfl, rfl, by omega, by omega, by omega, hid' (by rw [List.length_append, HOL.out]; rfl), hid' (by rw [HNA.out, List.length_append, HNL.out]; rfl), HNX, HLK2, HO8, HON8, HB8⟩
         case measure => simp [intOf]; omega
        ·have e1 : pU18 p = .iface 149 (.agg #[]) := by unfold pU18; rw [hpk]; rfl
         have mmp := mkindR18
         have HNX : Hid (Rt.cgo [] xs = Rt.cgo (out ++ [p]) (xs.drop (i + 1))) := hid' (by rw [HG.out, HGA.out, HBT.out, HLR.out]; rfl)
         have HNA : Hid (Rt.names (out ++ [p]) = Rt.names out ++ [p.t]) := hid' (by rw [Rt.namesU_app, Rt.names_one, hpk]; rfl)
         have HVE : Hid (v = .iface 149 (.agg #[])) := hid' (HVV.out.trans e1)
         obtain rfl := HVE.out
         have HQ : Hid (pCU18 (out ++ [p]) = pCU18 out ++ [.iface 149 (.agg #[])]) := hid' (by rw [pCU18_snoc, e1])
         have HNE : Hid (nm = ⟨p.t.toArray⟩) := hid' (by rw [HNM.out]; unfold nmU18; rw [hpk]; rfl)
         have HA : Hid ((w4.alloc (.cells #[.iface 149 (.agg #[])] 116)).ownsRow w1.heap.size 116 1 (.slice (some ⟨g2, 0, none⟩) (q + 1) ac) (q + 1) (pCU18 out)) := hid' (HO4.out.alloc _)
         have HAN : Hid ((w4.alloc (.cells #[.iface 149 (.agg #[])] 116)).ownsRow w1.heap.size 9 1 (.slice no c nc) c (sC17 (Rt.names out))) := hid' (HON4.out.alloc _)
         clear e1 hpk
         go_wp2_with (at_builtin; refine wpList_append_own_at _ rfl _ _ 85 rfl w1.heap.size 116 j0 .nilIface 1 16 Tryz.underlying85 HJ.out HY0.out HY1.out HY2.out rfl (by decide) (.slice (some ⟨g2, 0, none⟩) (q + 1) ac) (q + 1) (pCU18 out) rfl HA.out ⟨w4.heap.size, 0, none⟩ 1 1 [.iface 149 (.agg #[])] rfl rfl (one_cell17 _ _ _) (by simp [Value.oneCell']) (by unfold maxLen; omega) (by omega) (by simp; have := HB4.out.size; omega) ?_; intro v5 w5 hown5 hgrow5 _ _; refine Hid.out ?_)
         refine hid' ?_
         rw [← HQ.out] at hown5
         obtain ⟨v5o, v5c, hv5⟩ := own_shape17 hown5
         subst hv5
         have HO5 := hid' hown5
         have HON5 := hid' (own_other18 HAN.out HA.out hgrow5 (by decide))
         have HB5 : Hid (Below w1.heap.size w1 w5) := hid' ((HB4.out.alloc HB4.out.size _).grown hgrow5 (by simp; have := HB4.out.size; omega) (fun k hk => (HA.out.lt k hk).1))
         clear hown5 hgrow5
         go_wp2_with fail
         refine (kindR18 w5).mono ?_
         rintro e w6 ⟨rfl, hb6⟩
         have HB6 := hid' (HB5.out.trans (hb6.mono HB5.out.size))
         have HO6 := hid' (own_kp17 HO5.out hb6)
         have HON6 := hid' (own_kp17 HON5.out hb6)
         clear hb6
         have HA7 : Hid ((w6.alloc (.cells #[.string nm] 9)).ownsRow w1.heap.size 9 1 (.slice no c nc) c (sC17 (Rt.names out))) := hid' (HON6.out.alloc _)
         have HAP7 : Hid ((w6.alloc (.cells #[.string nm] 9)).ownsRow w1.heap.size 116 1 (.slice v5o (q + 1 + 1) v5c) (q + 1 + 1) (pCU18 (out ++ [p]))) := hid' (HO6.out.alloc _)
         go_wp2_with (at_builtin; refine wpList_append_own_at _ rfl _ _ 78 rfl w1.heap.size 9 i0 (.string ⟨#[]⟩) 1 16 Tryz.underlying78 HI.out HZ0.out HZ1.out HZ2.out rfl (by decide) (.slice no c nc) c (sC17 (Rt.names out)) rfl HA7.out ⟨w6.heap.size, 0, none⟩ 1 1 [.string nm] rfl rfl (one_cell17 _ _ _) (by simp [Value.oneCell']) (by unfold maxLen; omega) (by omega) (by simp; have := HB6.out.size; omega) ?_; intro v8 w8 hown8 hgrow8 _ _; refine Hid.out ?_)
         refine hid' ?_
         have e8 : sC17 (Rt.names out) ++ [Value.string nm] = sC17 (Rt.names (out ++ [p])) := by rw [HNA.out, sC17_app, HNE.out]; rfl
         rw [e8] at hown8
         obtain ⟨v8o, v8c, hv8⟩ := own_shape17 hown8
         subst hv8
         have HON8 := hid' hown8
         have HO8 := hid' (own_other18 HAP7.out HA7.out hgrow8 (by decide))
         have HB8 : Hid (Below w1.heap.size w1 w8) := hid' ((HB6.out.alloc HB6.out.size _).grown hgrow8 (by simp; have := HB6.out.size; omega) (fun k hk => (HA7.out.lt k hk).1))
         clear hown8 hgrow8 e8
         go_wp2
         go_roundw
         case rel => exact ⟨i + 1, q + 1 + 1, v5c, c + 1, v8c, v5o, v8o, out ++ [p], by go_num, rfl, rfl, by omega, by omega, by omega, hid' (by rw [List.length_append, HOL.out]; rfl), hid' (by rw [HNA.out, List.length_append, HNL.out]; rfl), HNX, HLK2, HO8, HON8, HB8⟩
         case measure => simp [intOf]; omega
       ·have el : pU18 lp = .iface 149 (.agg #[]) := by unfold pU18; rw [hlk]; rfl
        rw [el] at z0
        have mml := mkindR18
        have HLR : Hid (Rt.lastR out = true) := hid' (by rw [HLA.out, hlk]; rfl)
        clear el hlk
        go_wp2_with fail
        refine (kindR18 w2).mono ?_
        rintro e w4 ⟨rfl, hb4⟩
        have HB4 := hid' (HB2.out.trans (hb4.mono HB2.out.size))
        have HO4 := hid' (own_kp17 HO2.out hb4)
        have HON4 := hid' (own_kp17 HON2.out hb4)
        clear hb4 z0 hg2
        have HN0 : Hid (Rt.pattern l = none) := hid' (by rw [HP.out, HG.out, HGA.out, HLR.out, Bool.or_true]; rfl)
        go_wp2
        go_ret3
        exact ⟨psR18_none HN0.out, below_two HB1.out HB4.out⟩
    ·have hlt2 : ¬ (i : Int) < (m : Int) := by omega
     have HCG : Hid (Rt.pattern l = if (Rt.names out).Nodup then some out else none) := hid' (by rw [HP.out, HG.out, List.drop_eq_nil_of_le (by rw [HM.out]; omega), Rt.cgo]; rfl)
     have HRP := hid' (crep18 no c nc (Rt.names out) HNL.out (by omega) w1.heap.size wr HON.out)
     by_cases hnd : (Rt.names out).Nodup
     ·have HND := hid' hnd
      rw [decide_eq_true hnd] at HRP
      clear hnd
      go_wp2_with fail
      refine HRP.out.mono ?_
      rintro e w2 ⟨rfl, hb2⟩
      have HB2 := hid' hb2
      clear hb2
      go_wp2
      go_ret3
      refine ⟨⟨ao, n, ac, no, c, nc, true, rfl, by rw [HCG.out, if_pos HND.out]; rfl, fun ps hp => ?_⟩, below_two HB1.out (below_two HB.out HB2.out)⟩
      rw [HCG.out, if_pos HND.out] at hp
      injection hp with hp
      subst hp
      exact ⟨HOL.out, HNL.out, own_base17 (own_kp17 HO.out HB2.out) HB1.out.size, own_base17 (own_kp17 HON.out HB2.out) HB1.out.size⟩
     ·have HND := hid' hnd
      rw [decide_eq_false hnd] at HRP
      clear hnd
      go_wp2_with fail
      refine HRP.out.mono ?_
      rintro e w2 ⟨rfl, hb2⟩
      have HB2 := hid' hb2
      clear hb2
      go_wp2
      go_ret3
      refine ⟨⟨ao, n, ac, no, c, nc, false, rfl, by rw [HCG.out, if_neg HND.out]; rfl, fun ps hp => ?_⟩, below_two HB1.out (below_two HB.out HB2.out)⟩
      rw [HCG.out, if_neg HND.out] at hp
      cases hp
 ·rw [Bool.not_eq_true] at h1
  have HC1 := hid' (fun W => cutp_no18 s 47 (by rw [hl]; exact h1) W)
  have HP : Hid (Rt.pattern l = none) := hid' (by
   unfold Rt.pattern
   rw [h1, if_neg (by intro h; rw [eq_of_beq h] at h1; cases h1)]; rfl)
  clear hl hsz h1
  go_enter Tryz.func27, Tryz.ntmps27
  go_wp2_with fail
  refine (HC1.out _).mono ?_
  rintro e w1 ⟨rfl, hw1⟩; subst w1
  go_wp2
  go_ret3
  exact ⟨psR18_none HP.out, Below.refl _ _⟩

end Go.Proofs.YtcfbobegbmcbeaaGreatDoor
