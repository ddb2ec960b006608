/-
  RoutePlain: its contract.
-/
import Derived.Test.YtfdjimjiikeciaaGreatDoorRtZb
import Derived.Test.YtfdjimjiikeciaaGreatDoorLawRouteOrder
namespace Go.Proofs.YtfdjimjiikeciaaGreatDoor
open Go.RowKit

/-- Texts that can be read. -/
def TW18 (w : World) (ao : Option Addr) (l : List ByteArray) : Prop := ∀ (i : Nat) (x : ByteArray), l[i]? = some x → ∃ a : Addr, ao = some a ∧ (a.add i).block < w.heap.size ∧ w.cell? (a.add i) = some (.string x)
theorem TW18.below {w w' : World} {ao : Option Addr} {l : List ByteArray} (h : TW18 w ao l) (hb : Below w.heap.size w w') : TW18 w' ao l := fun i x hx => by
  obtain ⟨a, h1, h2, h3⟩ := h i x hx
  exact ⟨a, h1, Nat.lt_of_lt_of_le h2 hb.size, (hb.cell h2).trans h3⟩
theorem ask_ne18 {w : World} {xb B : Nat} {c : Array Value} {v : Value} {n : Nat} {xs : List Value} (ha : Ar w xb 38 c) (ho : w.ownsRow B 26 4 v n xs) (j : Nat) (hj : v.ownBlock = some j) : j ≠ xb := by
  rintro rfl
  rcases ho.2 with ⟨h1, _⟩ | ⟨g, cap, cur, h1, _, h3, _⟩
  · rw [h1] at hj; simp [Value.ownBlock] at hj
  · rw [h1] at hj
    simp [Value.ownBlock] at hj
    subst hj
    unfold Ar at ha
    rw [ha] at h3
    injection h3 with h3
    injection h3 with _ h3 _
    revert h3; decide
namespace Rt
def pj (l : List ByteArray) : T8 := l.flatMap (fun x => 47 :: x.data.toList)
theorem pj_take {l : List ByteArray} {i : Nat} {x : ByteArray} (h : l[i]? = some x) : pj (l.take (i + 1)) = pj (l.take i) ++ 47 :: x.data.toList := by
  unfold pj
  rw [List.take_add_one, h, List.flatMap_append]
  simp
theorem pj_len (l : List ByteArray) : (pj l).length = (l.map (·.size)).sum + l.length := by
  unfold pj
  induction l with
  | nil => rfl
  | cons a r ih =>
    rw [List.flatMap_cons, List.length_append, ih]
    simp only [List.length_cons, List.map_cons, List.sum_cons]
    rw [← Lib.size_eq]
    omega
theorem sum_take (l : List ByteArray) (i : Nat) : ((l.take i).map (·.size)).sum + (l.take i).length ≤ (l.map (·.size)).sum + l.length := by
  have h1 : ((l.take i).map (·.size)).sum ≤ (l.map (·.size)).sum := by
    conv => rhs; rw [← List.take_append_drop i l, List.map_append, List.sum_append]
    omega
  have h2 : (l.take i).length ≤ l.length := by rw [List.length_take]; omega
  omega
theorem check_pat {rs : List Ro} {r : Ro} (h : check (r :: rs) = 0) : ∃ ps, pattern r.p = some ps := by
  have h1 := (check_ok.1 h).2.1 r (by simp)
  unfold badRo at h1
  rw [Bool.or_eq_false_iff] at h1
  cases hp : pattern r.p with
  | none => rw [hp] at h1; cases h1.1
  | some ps => exact ⟨ps, rfl⟩
theorem both_plain {rs : List Ro} {m p1 p2 : T8} {r0 : Ro} (h0 : r0 ∈ rs) (hm : r0.m = []) (hk : ∀ p ∈ pat r0, p.k = 0) (h1 : Pt.parts p1 = (pat r0).map (·.t)) (h2 : Pt.parts p2 = (pat r0).map (·.t)) : ∃ k : Nat, find rs m p1 = ⟨200, k, [], []⟩ ∧ find rs m p2 = ⟨200, k, [], []⟩ := by
  obtain ⟨q, k, hb, hs, hf⟩ := find_plain (m := m) h0 hm hk h1
  obtain ⟨q', k', hb', hs', hf'⟩ := find_plain (m := m) h0 hm hk h2
  rw [h1] at hb
  rw [h2, hb] at hb'
  injection hb' with hb'
  subst hb'
  rw [hs] at hs'
  injection hs' with hs'
  subst hs'
  exact ⟨k, hf, hf'⟩
end Rt

set_option maxHeartbeats 32000000 in
set_option maxRecDepth 20000 in
theorem routePlain_any (tO ao : Option Addr) (tn tc n cap : Nat) (xs : List ByteArray) (s t : ByteArray) (l : List Fr18) (htn : xs.length = tn) (hsz : (xs.map (·.size)).sum + xs.length ≤ 2097152) (ht : t.size ≤ 1048576) (hn : l.length = n) (hnb : n ≤ 1048576) (hbd : BD18 l) (w : World) (hx : TW18 w tO xs) (h : RW18 w (.slice ao n cap) l) :
    Calls Tryz.prog 7 #[.slice tO tn tc, .agg #[.string s, .string t], .slice ao n cap] w fun e w' => e = .returned (.bool true) ∧ Below w.heap.size w w' := by
  obtain ⟨w0, hw0⟩ : ∃ w0, w.alloc (.cells #[.string s, .string t] 38) = w0 := ⟨_, rfl⟩
  have hb0 : Below w.heap.size w w0 := by rw [← hw0]; exact bl_alloc17 w _
  obtain ⟨xb, hxb⟩ : ∃ xb, w.heap.size = xb := ⟨_, rfl⟩
  have hX : Ar w0 xb 38 #[.string s, .string t] := by rw [← hw0, ← hxb]; exact heap_alloc_last w _
  have HW0 := hid' hw0
  have HXB := hid' hxb
  have HX := hid' hX
  have HB0 := hid' hb0
  have HT := hid' (hx.below hb0)
  have H := hid' (h.keep hb0)
  have HN := hid' hn
  have HTN := hid' htn
  have HBD := hid' hbd
  have HSZ := hid' hsz
  clear h hx hn htn hbd hsz hX hb0 hw0 hxb
  go_enter Tryz.func7, Tryz.ntmps7
  go_upto_region 1 with fail
  rw [HW0.out, HXB.out]
  have htnb : tn ≤ 2097152 := by rw [← HTN.out]; have := HSZ.out; omega
  go_wp2
  go_loopw [7, 8] (fun s7 s8 wr => ∃ (i : Nat) (y : ByteArray), s8 = .int .i64 (i : Int) ∧ s7 = .string y ∧ i ≤ tn ∧ y.size ≤ 2097152 ∧ Hid (y.data.toList = Rt.pj (xs.take i)) ∧ Hid (wr = w0)) (fun _ s8 _ => tn - (intOf s8).toNat)
  case atStart => exact ⟨0, ⟨#[]⟩, rfl, rfl, Nat.zero_le _, by decide, hid' rfl, hid' rfl⟩
  case round =>
    obtain ⟨i, y, rfl, rfl, hi, hyz, HY, HWR⟩ := hrel
    obtain rfl := HWR.out
    by_cases hlt : i < tn
    · have hlt2 : (i : Int) < (tn : Int) := by omega
      obtain ⟨x, hxx⟩ : ∃ x, xs[i]? = some x := ⟨_, List.getElem?_eq_getElem (by rw [HTN.out]; exact hlt)⟩
      obtain ⟨a, e1, _, x0⟩ := HT.out i x hxx
      subst e1
      have HPT := hid' (Rt.pj_take hxx)
      have HNZ : Hid ((y ++ ⟨#[47]⟩ ++ x).data.toList = Rt.pj (xs.take (i + 1))) := hid' (by rw [HPT.out, ← HY.out]; simp)
      have hnz : (y ++ ⟨#[47]⟩ ++ x).size ≤ 2097152 := by
        rw [Lib.size_eq, HNZ.out, Rt.pj_len]
        exact Nat.le_trans (Rt.sum_take xs (i + 1)) HSZ.out
      have hxz : x.size ≤ 2097152 := by
        rw [Lib.size_eq, HNZ.out, HPT.out, List.length_append, List.length_cons, ← Lib.size_eq x] at hnz
        omega
      have hnz2 := hnz
      have k1 : ¬ 9223372036854775807 < y.size + 1 := by omega
      have k2 : ¬ 9223372036854775807 < y.size + 1 + x.size := by omega
      have HNZ2 := hid' hnz
      clear hxx hnz hnz2
      go_wp2
      go_roundw
      case rel => exact ⟨i + 1, y ++ ⟨#[47]⟩ ++ x, by go_num, rfl, by omega, HNZ2.out, HNZ, hid' (by trivial)⟩
      case measure => simp [intOf]; omega
    · have hlt2 : ¬ (i : Int) < (tn : Int) := by omega
      clear hlt
      go_upto_if 32 with fail
      go_cut [7] from 31 (fun s7 wx => ∃ pp : ByteArray, s7 = .string pp ∧ pp.size ≤ 2097152 ∧ wx = wr)
      case first =>
        go_wp2
        all_goals
          go_meet
          first
            | exact ⟨y, rfl, hyz, by trivial⟩
            | exact ⟨⟨#[47]⟩, rfl, by decide, by trivial⟩
      case rest =>
        obtain ⟨pp, rfl, hpp, hwc⟩ := hcut
        subst hwc
        clear HY hyz
        obtain ⟨pl, hpl⟩ : ∃ pl, pp.data.toList = pl := ⟨_, rfl⟩
        have HPL := hid' hpl
        have HPAT := hid' (fun W => rpat18 pp pl hpl W (by omega))
        obtain ⟨r0, hr0⟩ : ∃ r0 : Rt.Ro, r0 = ⟨[], pl, 3⟩ := ⟨_, rfl⟩
        have HR0p : Hid (pl = r0.p) := hid' (by rw [hr0])
        have HR0 := hid' hr0
        have HLP : Hid (pl.length ≤ 2097152) := hid' (by rw [← hpl, ← Lib.size_eq]; exact hpp)
        rw [HR0p.out] at HPAT
        clear hpl hr0
        go_wp2_with (go_at_call 14; refine (HPAT.out _).mono ?_; rintro e w1 ⟨hp1, hb1⟩; obtain ⟨m1, ro1, rc1, b1, rfl, hm1, hpr1, hbb⟩ := hp1.get; have HBB := hid' hbb; clear hbb; refine Hid.out ?_)
        refine hid' ?_
        have HB1 := hid' (below_two HB0.out hb1)
        have HX1 := hid' (HX.out.keep hb1)
        have H1 := hid' (H.out.keep hb1)
        have HM1 := hid' hm1
        have HP1 := hid' hpr1
        have hm1b : m1 ≤ 4194305 := by rw [← hm1]; have := Rt.pat_len18 r0; have h2 := HLP.out; rw [HR0p.out] at h2; omega
        clear hp1 hb1 hm1 hpr1
        go_wp2
        go_loopw [11] (fun s11 wr => ∃ j : Nat, s11 = .int .i64 (j : Int) ∧ j ≤ m1 ∧ Hid (∀ (i : Nat) (p : Rt.Prt), i < j → (Rt.pat r0)[i]? = some p → p.k = 0) ∧ Hid (wr = w1)) (fun s11 _ => m1 - (intOf s11).toNat)
        case atStart => exact ⟨0, rfl, Nat.zero_le _, hid' (fun i p hi => absurd hi (Nat.not_lt_zero _)), hid' rfl⟩
        case round =>
          obtain ⟨j, rfl, hj, HV, HWR⟩ := hrel
          obtain rfl := HWR.out
          by_cases hjm : j < m1
          · have hjm2 : (j : Int) < (m1 : Int) := by omega
            obtain ⟨p, hp⟩ : ∃ p, (Rt.pat r0)[j]? = some p := ⟨_, List.getElem?_eq_getElem (by rw [HM1.out]; exact hjm)⟩
            obtain ⟨g4, e1, l1, x0, x1⟩ := HP1.out j p hp
            subst e1
            cases hk0 : (p.k == 0)
            · have hkn : ((p.k : Int) != 0) = true := by have := beq_eq_false_iff_ne.1 hk0; simp; omega
              clear hk0 hp l1 x1
              go_wp2_with fail
              refine (awake18 _).mono ?_
              rintro e w9 ⟨rfl, hb9⟩
              have HB9 := hid' (below_two HB1.out hb9)
              clear hb9
              go_wp2
              go_ret
              exact ⟨rfl, HB9.out⟩
            · have hk1 : p.k = 0 := eq_of_beq hk0
              have hkn : ((p.k : Int) != 0) = false := by rw [hk1]; rfl
              have HV2 : Hid (∀ (i : Nat) (p : Rt.Prt), i < j + 1 → (Rt.pat r0)[i]? = some p → p.k = 0) := hid' (fun i p' hi hp' => by
                by_cases hij : i = j
                · subst hij
                  rw [hp] at hp'
                  injection hp' with hp'
                  rw [← hp']; exact hk1
                · exact HV.out i p' (by omega) hp')
              clear hk0 hp l1 x1 hk1
              go_wp2
              go_roundw
              case rel => exact ⟨j + 1, by go_num, by omega, HV2, hid' (by trivial)⟩
              case measure => simp [intOf]; omega
          · have hjm2 : ¬ (j : Int) < (m1 : Int) := by omega
            have HPK : Hid (∀ p ∈ Rt.pat r0, p.k = 0) := hid' (fun p hp => by
              obtain ⟨i, hi⟩ := List.getElem?_of_mem hp
              exact HV.out i p (by have := (List.getElem?_eq_some_iff.1 hi).1; have := HM1.out; omega) hi)
            clear hjm HV
            have HLIT : Hid ((wr.alloc (.cells #[.string ⟨#[]⟩, .string pp, .int .u8 3, .string ⟨#[]⟩] 26)).ownsRow w.heap.size 26 4 (.slice (some ⟨wr.heap.size, 0, none⟩) 1 1) 1 (rC18 [(r0, ⟨#[]⟩)])) := hid' (by
              have e : rC18 [(r0, (⟨#[]⟩ : ByteArray))] = [.string ⟨#[]⟩, .string pp, .int .u8 3, .string ⟨#[]⟩] := by
                rw [HR0.out, ← HPL.out]; rfl
              rw [e]
              exact own_lit18 wr 26 _ 1 4 rfl (by decide) w.heap.size HB1.out.size)
            have HBL := hid' (below_two HB1.out (bl_alloc17 wr (.cells #[.string ⟨#[]⟩, .string pp, .int .u8 3, .string ⟨#[]⟩] 26)))
            have HXL := hid' (HX1.out.keep (bl_alloc17 wr (.cells #[.string ⟨#[]⟩, .string pp, .int .u8 3, .string ⟨#[]⟩] 26)))
            have HL := hid' (H1.out.keep (bl_alloc17 wr (.cells #[.string ⟨#[]⟩, .string pp, .int .u8 3, .string ⟨#[]⟩] 26)))
            go_upto_region 15 with fail
            obtain ⟨lb, hlb⟩ : ∃ lb, wr.heap.size = lb := ⟨_, rfl⟩
            rw [hlb] at HLIT ⊢
            have HLB : Hid (w.heap.size ≤ lb) := hid' (by rw [← hlb]; exact HB1.out.size)
            generalize wr.alloc (.cells #[.string ⟨#[]⟩, .string pp, .int .u8 3, .string ⟨#[]⟩] 26) = w2 at *
            clear hlb HX1 H1
            go_wp2_with (at_builtin; refine wpl_appR18 rfl _ _ rfl w.heap.size (.slice (some ⟨lb, 0, none⟩) 1 1) 1 (rC18 [(r0, ⟨#[]⟩)]) rfl HLIT.out _ l rfl HL.out (by have := HN.out; omega) HBL.out.size ?_; intro v3 w3 hown3 hgrow3 _; refine Hid.out ?_)
            refine hid' ?_
            rw [← rC18_app, HN.out] at hown3
            obtain ⟨v3o, v3c, hv3⟩ := own_shape17 hown3
            subst hv3
            have HB3 : Hid (Below w.heap.size w w3) := hid' (below_gr18 HBL.out HBL.out.size HLIT.out hgrow3)
            have HX3 : Hid (Ar w3 xb 38 #[.string s, .string t]) := hid' ((hgrow3.block xb HXL.out.lt (fun e => ask_ne18 HXL.out HLIT.out xb e.symm rfl)).trans HXL.out)
            obtain ⟨L, hL⟩ : ∃ L, [(r0, (⟨#[]⟩ : ByteArray))] ++ l = L := ⟨_, rfl⟩
            rw [hL] at hown3
            have HLL : Hid (L.length = 1 + n) := hid' (by rw [← hL, List.length_append, HN.out]; rfl)
            have HLR : Hid (L.map (·.1) = r0 :: l.map (·.1)) := hid' (by rw [← hL]; rfl)
            have HLD : Hid (BD18 L) := hid' (fun x hx => by
              rw [← hL] at hx
              rcases List.mem_append.1 hx with hx | hx
              · rw [List.mem_singleton.1 hx, HR0.out]
                have := HLP.out
                exact ⟨by show pl.length ≤ 4194304; omega, by show ([] : List UInt8).length ≤ 4194304; simp⟩
              · exact HBD.out x hx)
            have HC := hid' (cnew18 v3o (1 + n) v3c L HLL.out (by omega) HLD.out w3 (RW18.of_own (by rw [HLL.out]; exact hown3)))
            rw [HLR.out] at HC
            clear hown3 hgrow3 hL HLIT HBL HXL HL
            obtain ⟨rs, hrs⟩ : ∃ rs, r0 :: l.map (·.1) = rs := ⟨_, rfl⟩
            have HRS := hid' hrs
            rw [hrs] at HC
            clear hrs
            go_wp2_with fail
            refine HC.out.mono ?_
            rintro e w4 ⟨hn4, hb4⟩
            have HB4 := hid' (below_two HB3.out hb4)
            have HX4 := hid' (HX3.out.keep hb4)
            clear hb4 HC
            rcases hn4 with ⟨h0, rfl⟩ | ⟨h0, b, rfl, hbl, hbs, hrt⟩
            · obtain ⟨c, hc⟩ : ∃ c, Rt.check rs = c := ⟨_, rfl⟩
              rw [hc] at h0 ⊢
              have h0n : (c != 0) = true := by unfold bne; rw [h0]; rfl
              clear hc
              cases b1
              · go_wp2_with fail
                refine (awake18 _).mono ?_
                rintro e w9 ⟨rfl, hb9⟩
                have HB9 := hid' (below_two HB4.out hb9)
                clear hb9
                go_wp2
                go_ret
                exact ⟨rfl, HB9.out⟩
              · go_wp2_with fail
                refine (awake18 _).mono ?_
                rintro e w9 ⟨rfl, hb9⟩
                have HB9 := hid' (below_two HB4.out hb9)
                clear hb9
                go_wp2
                go_ret
                exact ⟨rfl, HB9.out⟩
            · obtain ⟨ps, hps⟩ := Rt.check_pat (rs := l.map (·.1)) (r := r0) (by rw [HRS.out]; exact h0)
              have hbt : b1 = true := by rw [HBB.out, hps]; rfl
              subst hbt
              have HPP : Hid (Rt.pat r0 = ps) := hid' (by unfold Rt.pat; rw [hps]; rfl)
              have HPM : Hid (Pt.parts pl = (Rt.pat r0).map (·.t)) := hid' (by
                have h1 := Rt.plain_pat hps (by rw [← HPP.out]; exact HPK.out)
                rw [HR0p.out, HPP.out]; exact h1)
              have HRT := hid' hrt
              have HMEM : Hid (r0 ∈ rs) := hid' (by rw [← HRS.out]; simp)
              have HAT0 : Hid (rs[0]? = some r0) := hid' (by rw [← HRS.out]; rfl)
              have HM0 : Hid (r0.m = []) := hid' (by rw [HR0.out])
              clear hps h0 hbl hbs hrt HBB
              have HPa := hid' (fun W => rparts17 t t.data.toList rfl W (by omega))
              have HPb := hid' (fun W => rparts17 pp pl HPL.out W (by omega))
              have HSa := hid' (Rt.parts_sum t.data.toList)
              have HSb := hid' (Rt.parts_sum pl)
              rw [← Lib.size_eq] at HSa
              have x1 := HX4.out.cell 1 _ rfl
              go_wp2_with fail
              refine (HPa.out _).mono ?_
              rintro e w5 ⟨⟨m5, r5, c5, rfl, hm5, ho5⟩, hb5⟩
              have HB5 := hid' (below_two HB4.out hb5)
              have HX5 := hid' (HX4.out.keep hb5)
              have HRT5 := hid' (HRT.out.below hb5)
              have HJa := hid' (rjoin17 r5 m5 c5 (Pt.parts t.data.toList) hm5 w5 (SR17.own ho5) (by have := HSa.out; omega) (by have := HSa.out; omega))
              clear ho5 hb5 hm5
              go_wp2_with fail
              refine HJa.out.mono ?_
              rintro e w6 ⟨rfl, hw6⟩
              subst w6
              go_wp2_with fail
              refine (HPb.out _).mono ?_
              rintro e w6 ⟨⟨m6, r6, c6, rfl, hm6, ho6⟩, hb6⟩
              have HB6 := hid' (below_two HB5.out hb6)
              have HX6 := hid' (HX5.out.keep hb6)
              have HRT6 := hid' (HRT5.out.below hb6)
              have HJb := hid' (rjoin17 r6 m6 c6 (Pt.parts pl) hm6 w6 (SR17.own ho6) (by have := HSb.out; have := HLP.out; omega) (by have := HSb.out; have := HLP.out; omega))
              clear ho6 hb6 hm6
              go_wp2_with fail
              refine HJb.out.mono ?_
              rintro e w7 ⟨rfl, hw7⟩
              subst w7
              obtain ⟨ja, hja⟩ : ∃ x : ByteArray, (⟨(Pt.join (Pt.parts t.data.toList)).toArray⟩ : ByteArray) = x := ⟨_, rfl⟩
              obtain ⟨jb, hjb⟩ : ∃ x : ByteArray, (⟨(Pt.join (Pt.parts pl)).toArray⟩ : ByteArray) = x := ⟨_, rfl⟩
              have HJE : Hid ((ja.toList == jb.toList) = true → Pt.parts t.data.toList = Pt.parts pl) := hid' (fun h => by
                refine Rt.join_inj (fun x hx => Rt.parts_gd hx) (fun x hx => Rt.parts_gd hx) ?_
                have h1 := eq_of_beq h
                rw [← hja, ← hjb, Lib.toList_data, Lib.toList_data] at h1
                simpa using h1)
              have HJN : Hid ((ja.toList == jb.toList) = false → ¬ Pt.parts t.data.toList = Pt.parts pl) := hid' (fun h e => by
                rw [← hja, ← hjb, e] at h
                simp at h)
              rw [hja, hjb]
              have hx0 := HX6.out.cell 0 _ rfl
              have hx1 := HX6.out.cell 1 _ rfl
              obtain ⟨q, hq⟩ : ∃ q, Rt.find rs s.data.toList t.data.toList = q := ⟨_, rfl⟩
              have HFA : Hid (∀ W, RT18 W w3.heap.size b rs → Calls Tryz.prog 11 #[.pointer (some ⟨b, 0, none⟩), .string s, .string t] W fun e w' => mtR18 W q e w' ∧ Below W.heap.size W w') := hid' (fun W hW => by
                have := cfind18 _ b rs s _ rfl t _ rfl (by omega) W hW
                rw [hq] at this
                exact this)
              clear hja hjb x1 HJa HJb
              cases hsm : (ja.toList == jb.toList)
              · have HNE : Hid ((q.ro != 0) = true) := hid' (by
                  rw [bne_iff_ne]
                  intro e
                  refine HJN.out hsm ?_
                  rw [HPM.out]
                  exact Rt.find_other HAT0.out HPK.out (by rw [hq]; exact e))
                clear hq
                go_wp2_with fail
                refine (HFA.out _ HRT6.out).mono ?_
                rintro e wz ⟨⟨pm, po, pc, rfl, hpm, hpo⟩, hbz⟩
                have HBz := hid' hbz
                clear hpo hbz
                go_wp2_with (refine wpl_alloc 35 rfl rfl _ zeroMt18 ?_)
                intro ab wy hab hay hby
                have HAy := hid' hay
                have HBy := hid' hby
                have HAB := hid' hab
                clear hay hby hab
                go_wp2_with (refine wpl_store 35 _ _ rfl rfl ab #[.int .i64 q.st, .int .i64 q.ro, .slice po pm pc, .string ⟨q.al.toArray⟩] (by kernel_rfl) (by kernel_rfl) _ _ HAy.out sizeMt18 rfl (by simp [Value.oneCell']) ?_)
                intro wf hwf huf
                have hzf : Below wz.heap.size wz wf := HBy.out.trans (huf.below HAB.out)
                have h6f : Below w6.heap.size w6 wf := below_two HBz.out hzf
                have HAa := hid' hwf
                have HBa := hid' (below_two HB6.out h6f)
                clear hzf h6f hwf huf hpm HBz HAy HBy HAB
                have hne := HNE.out
                have a1 := HAa.out.cell 1 _ rfl
                go_wp2_with fail
                refine (awake18 _).mono ?_
                rintro e w9 ⟨rfl, hb9⟩
                have HB9 := hid' (below_two HBa.out hb9)
                clear hb9
                go_wp2
                go_ret
                exact ⟨rfl, HB9.out⟩
              · obtain ⟨kk, hf1, hf2⟩ := Rt.both_plain (m := s.data.toList) HMEM.out HM0.out HPK.out ((HJE.out hsm).trans HPM.out) HPM.out
                rw [hq] at hf1
                subst hf1
                have HFB : Hid (∀ W, RT18 W w3.heap.size b rs → Calls Tryz.prog 11 #[.pointer (some ⟨b, 0, none⟩), .string s, .string pp] W fun e w' => mtR18 W ⟨200, (kk : Int), [], []⟩ e w' ∧ Below W.heap.size W w') := hid' (fun W hW => by
                  have := cfind18 _ b rs s _ rfl pp pl HPL.out (by omega) W hW
                  rw [hf2] at this
                  exact this)
                clear hq hf2
                go_wp2_with fail
                refine (HFA.out _ HRT6.out).mono ?_
                rintro e wz ⟨⟨pm, po, pc, rfl, hpm, hpo⟩, hbz⟩
                obtain rfl : 0 = pm := hpm
                have HBz := hid' hbz
                clear hpo hbz
                go_wp2_with (refine wpl_alloc 35 rfl rfl _ zeroMt18 ?_)
                intro ab wy hab hay hby
                have HAy := hid' hay
                have HBy := hid' hby
                have HAB := hid' hab
                clear hay hby hab
                go_wp2_with (refine wpl_store 35 _ _ rfl rfl ab #[.int .i64 200, .int .i64 (kk : Int), .slice po 0 pc, .string ⟨#[]⟩] (by kernel_rfl) (by kernel_rfl) _ _ HAy.out sizeMt18 rfl (by simp [Value.oneCell']) ?_)
                intro wf hwf huf
                have hzf : Below wz.heap.size wz wf := HBy.out.trans (huf.below HAB.out)
                have h6f : Below w6.heap.size w6 wf := below_two HBz.out hzf
                have HAa := hid' hwf
                have HBa := hid' (below_two HB6.out h6f)
                have HXf := hid' (HX6.out.keep h6f)
                have HRTf := hid' (HRT6.out.below h6f)
                have hy0 := HXf.out.cell 0 _ rfl
                clear hzf h6f hwf huf HBz HAy HBy HAB hx0 hx1
                go_wp2_with fail
                refine (HFB.out _ HRTf.out).mono ?_
                rintro e wz ⟨⟨pm2, po2, pc2, rfl, hpm, hpo⟩, hbz⟩
                obtain rfl : 0 = pm2 := hpm
                have HBz := hid' hbz
                clear hpo hbz
                go_wp2_with (refine wpl_alloc 35 rfl rfl _ zeroMt18 ?_)
                intro ab2 wy hab hay hby
                have HAy := hid' hay
                have HBy := hid' hby
                have HAB := hid' hab
                clear hay hby hab
                go_wp2_with (refine wpl_store 35 _ _ rfl rfl ab2 #[.int .i64 200, .int .i64 (kk : Int), .slice po2 0 pc2, .string ⟨#[]⟩] (by kernel_rfl) (by kernel_rfl) _ _ HAy.out sizeMt18 rfl (by simp [Value.oneCell']) ?_)
                intro wg hwf huf
                have hzf : Below wz.heap.size wz wg := HBy.out.trans (huf.below HAB.out)
                have h6f : Below wf.heap.size wf wg := below_two HBz.out hzf
                have HAb := hid' hwf
                have HBb := hid' (below_two HBa.out h6f)
                have HAa2 := hid' (HAa.out.keep h6f)
                clear hzf h6f hwf huf HBz HAy HBy HAB hy0
                have HLN0 : Hid (([] : List (List UInt8 × List UInt8)).length = 0) := hid' rfl
                have a0 := HAa2.out.cell 0 _ rfl
                have a1 := HAa2.out.cell 1 _ rfl
                have a2 := HAa2.out.cell 2 _ rfl
                have a3 := HAa2.out.cell 3 _ rfl
                have c0 := HAb.out.cell 0 _ rfl
                have c1 := HAb.out.cell 1 _ rfl
                have c2 := HAb.out.cell 2 _ rfl
                have c3 := HAb.out.cell 3 _ rfl
                go_wp2_with fail
                refine (rsame18 200 (kk : Int) ⟨#[]⟩ po po2 0 pc pc2 [] rfl (by decide) _ (PM18.nil _ _) (PM18.nil _ _)).mono ?_
                rintro e wh ⟨rfl, hbh⟩
                have HBh := hid' (below_two HBb.out hbh)
                have HAh := hid' (HAa2.out.keep hbh)
                have d2 := HAh.out.cell 2 _ rfl
                clear hbh a0 a1 a2 a3 c0 c1 c2 c3
                go_wp2_with fail
                refine (awake18 _).mono ?_
                rintro e w9 ⟨rfl, hb9⟩
                have HB9 := hid' (below_two HBh.out hb9)
                clear hb9
                go_wp2
                go_ret
                exact ⟨rfl, HB9.out⟩

end Go.Proofs.YtfdjimjiikeciaaGreatDoor
