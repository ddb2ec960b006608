/-
  RouteFinds: its contract.
-/
import Derived.Test.YtfdjimjiikeciaaGreatDoorRtZb
import Derived.Test.YtfdjimjiikeciaaGreatDoorLawRouteOrder
namespace Go.Proofs.YtfdjimjiikeciaaGreatDoor
open Go.RowKit

def mk18 : Fr18 := (⟨[109, 97, 114, 107], [], 0⟩, ⟨#[]⟩)
/-- All blocks but the row's are as they were. -/
def FR18 (P : Nat → Prop) (w w' : World) : Prop := ∀ k, ¬ P k → w'.heap[k]? = w.heap[k]?

set_option maxHeartbeats 32000000 in
set_option maxRecDepth 20000 in
theorem routeFinds_any (ao ko : Option Addr) (n cap kn kc : Nat) (l : List Fr18) (ks : List Ak18) (hn : l.length = n) (hk : ks.length = kn) (hnb : n ≤ 1048576) (hkb : kn ≤ 1048576) (hbd : BD18 l) (w : World) (h : RW18 w (.slice ao n cap) l) (hw : KW18 w ko ks) :
    Calls Tryz.prog 3 #[.slice ao n cap, .slice ko kn kc] w fun e w' => e = .returned (.bool true) ∧ Below w.heap.size w w' := by
  have H := hid' h
  have HN := hid' hn
  have HKW := hid' hw
  have HKN := hid' hk
  have HBD := hid' hbd
  clear h hn hw hk hbd
  go_enter Tryz.func3, Tryz.ntmps3
  go_wp2_with (at_builtin; refine wpl_appR18 rfl _ _ rfl w.heap.size (.slice none 0 0) 0 [] rfl (World.ownsRow_nil _ _ _ _) _ l rfl H.out (by have := HN.out; omega) (Nat.le_refl _) ?_; intro v1 w1 hown1 hgrow1 _; refine Hid.out ?_)
  refine hid' ?_
  rw [Nat.zero_add, List.nil_append, HN.out] at hown1
  have HB1 : Hid (Below w.heap.size w w1) := hid' (below_gr18 (e := 26) (s := 4) (v := .slice none 0 0) (n := 0) (xs := []) (Below.refl _ _) (Nat.le_refl _) (World.ownsRow_nil _ _ _ _) hgrow1)
  obtain ⟨v1o, v1c, hv1⟩ := own_shape17 hown1
  subst hv1
  have HO1 : Hid ((w1.alloc (.cells #[.string ⟨#[109, 97, 114, 107]⟩, .string ⟨#[]⟩, .int .u8 0, .string ⟨#[]⟩] 26)).ownsRow w.heap.size 26 4 (.slice v1o n v1c) n (rC18 l)) := hid' (hown1.alloc _)
  have HRL : Hid (RW18 (w1.alloc (.cells #[.string ⟨#[109, 97, 114, 107]⟩, .string ⟨#[]⟩, .int .u8 0, .string ⟨#[]⟩] 26)) (.slice (some ⟨w1.heap.size, 0, none⟩) 1 1) [mk18]) := hid' (rw_lit18 w1 [mk18] 1 rfl (by decide))
  have HBA := hid' (below_two HB1.out (bl_alloc17 w1 (.cells #[.string ⟨#[109, 97, 114, 107]⟩, .string ⟨#[]⟩, .int .u8 0, .string ⟨#[]⟩] 26)))
  clear hown1 hgrow1
  go_wp2_with (at_builtin; refine wpl_appR18 rfl _ _ rfl w.heap.size (.slice v1o n v1c) n (rC18 l) rfl HO1.out _ [mk18] rfl HRL.out (by simp; omega) HBA.out.size ?_; intro v2 w2 hown2 hgrow2 _; refine Hid.out ?_)
  refine hid' ?_
  rw [← rC18_app, show n + [mk18].length = n + 1 from rfl] at hown2
  have HB2 : Hid (Below w.heap.size w w2) := hid' (below_gr18 HBA.out HBA.out.size HO1.out hgrow2)
  obtain ⟨g, c2, hv2⟩ : ∃ g cap, v2 = .slice (some ⟨g, 0, none⟩) (n + 1) cap := by
    rcases hown2.2 with ⟨_, h0⟩ | ⟨g, cap, cur, h1, _⟩
    · omega
    · exact ⟨g, cap, h1⟩
  subst hv2
  have hrw := RW18.of_own (l := l ++ [mk18]) (by rw [List.length_append, HN.out]; exact hown2)
  obtain ⟨hrw2, hcap⟩ := hrw.init HN.out
  obtain ⟨a', ea, _, mk0, _⟩ := hrw.four n mk18 (by rw [List.getElem?_append_right (by rw [HN.out]; omega), HN.out]; simp)
  obtain rfl : (⟨g, 0, none⟩ : Addr) = a' := by injection ea
  rw [Addr.add_mid, Nat.zero_add] at mk0
  have HMK : Hid (w2.cell? ⟨g, n * 4, none⟩ = some (.string ⟨#[109, 97, 114, 107]⟩)) := hid' mk0
  have HOW := hid' (OW18.of_own hown2)
  have HGE := hid' (own_ge18 hown2 g rfl)
  have HGL := hid' (own_lt hown2 g rfl)
  have HRW := hid' hrw2
  have hcI : (n : Int) ≤ (c2 : Int) := by omega
  clear hown2 hgrow2 hrw hrw2 ea mk0 HO1 HRL HBA HB1
  have HC := hid' (cnew18 (some ⟨g, 0, none⟩) n c2 l HN.out (by omega) HBD.out w2 HRW.out)
  have HCK := hid' (fun W (hW : Below w.heap.size w W) => rcheck18 ao n cap (l.map (·.1)) (by rw [List.length_map]; exact HN.out) (by omega) W ((H.out.keep hW).rr HBD.out))
  obtain ⟨rs, hrs⟩ : ∃ rs, l.map (·.1) = rs := ⟨_, rfl⟩
  have HRS := hid' hrs
  have HRP : Hid (∀ r ∈ rs, r.p.length ≤ 4194304) := hid' (fun r hr => by
    rw [← hrs, List.mem_map] at hr
    obtain ⟨x, hx, rfl⟩ := hr
    exact (HBD.out x hx).1)
  rw [hrs] at HC HCK
  clear hrs
  go_wp2_with fail
  refine HC.out.mono ?_
  rintro e w3 ⟨hn3, hb3⟩
  have HB3 := hid' (below_two HB2.out hb3)
  have HOW3 := hid' (HOW.out.keep hb3)
  have HMK3 : Hid (w3.cell? ⟨g, n * 4, none⟩ = some (.string ⟨#[109, 97, 114, 107]⟩)) := hid' ((hb3.cell (p := ⟨g, n * 4, none⟩) HGL.out).trans HMK.out)
  have hS23 := hb3.size
  clear hb3 HOW HMK
  have hn1 : (n : Int) < (n : Int) + 1 := by omega
  rcases hn3 with ⟨h0, rfl⟩ | ⟨h0, b, rfl, hbl, hbs, hrt⟩
  · obtain ⟨c, hc⟩ : ∃ c, Rt.check rs = c := ⟨_, rfl⟩
    rw [hc] at h0 HCK ⊢
    have h0n : (c != 0) = true := by unfold bne; rw [h0]; rfl
    have hcc : (c != c) = false := by simp
    clear hc
    go_wp2_with (go_at_call 9; refine (HCK.out _ HB3.out).mono ?_; rintro e w4 ⟨rfl, hb4⟩; refine Hid.out ?_)
    refine hid' ?_
    have HB4 := hid' (below_two HB3.out hb4)
    have HOW4 := hid' (HOW3.out.keep hb4)
    have m4 := (hb4.cell (p := ⟨g, n * 4, none⟩) (Nat.lt_of_lt_of_le HGL.out hS23)).trans HMK3.out
    have HS4 : Hid (w3.heap.size ≤ w4.heap.size) := hid' hb4.size
    clear hb4
    go_wp2
    clear m4
    go_loopw [8] (fun s8 wr => ∃ i : Nat, s8 = .int .i64 (i : Int) ∧ i ≤ n ∧ Hid (OW18 wr g i l) ∧ Hid (FR18 (fun k => k = g) w4 wr) ∧ Hid (w4.heap.size = wr.heap.size) ∧ Hid (Below w.heap.size w wr)) (fun s8 _ => n - (intOf s8).toNat)
    case atStart => exact ⟨0, rfl, Nat.zero_le _, HOW4, hid' (fun _ _ => rfl), hid' rfl, HB4⟩
    case round =>
      obtain ⟨i, rfl, hi, HO, HFR, HSZ, HB⟩ := hrel
      by_cases hlt : i < n
      · have hlt2 : (i : Int) < (n : Int) := by omega
        have hlt3 : (i : Int) < (n : Int) + 1 := by omega
        obtain ⟨x, hx⟩ : ∃ x, l[i]? = some x := ⟨_, List.getElem?_eq_getElem (by rw [HN.out]; exact hlt)⟩
        obtain ⟨a, e1, l1, x0, x1, x2, x3⟩ := (H.out.keep HB.out).four i x hx
        subst e1
        obtain ⟨z0, z1, z2, z3⟩ := HO.out.four x hx
        have hne := neqR18 ⟨x.1.m.toArray⟩ ⟨x.1.p.toArray⟩ x.2 x.1.h
        obtain ⟨cs, ha, hcs, hcc⟩ := HO.out
        have HA := hid' ha
        have HCS := hid' hcs
        have HCC := hid' hcc
        clear hx l1 ha hcs hcc
        go_upto_region 10 with fail
        go_quiet (fail)
        have HA2 : Hid (Ar (wr.drewN nq) g 26 cs) := hid' HA.out
        have HFR2 : Hid (FR18 (fun k => k = g) w4 (wr.drewN nq)) := hid' HFR.out
        have HSZ2 : Hid (w4.heap.size = (wr.drewN nq).heap.size) := hid' HSZ.out
        have HB2 : Hid (Below w.heap.size w (wr.drewN nq)) := hid' (below_two HB.out (below_dN18 wr nq))
        go_upto_region 12 with fail
        generalize wr.drewN nq = wd at *
        clear x0 x1 x2 x3 z0 z1 z2 z3 hne
        go_wp2_with (refine wpl_put18 26 _ _ rfl rfl g (i * 4) [.string ⟨#[]⟩, .string ⟨#[]⟩, .int .u8 0, .string ⟨#[]⟩] ?_ ?_ 26 cs HA2.out (by kernel_rfl) (by have := HCS.out; have := HN.out; simp; omega) (by simp [Value.oneCell']) ?_)
        · first
            | rfl
            | (simp [Act.eval, Addr.add]; done)
            | (simp [Act.eval]; rfl)
        · first
            | rfl
            | (simp [Act.eval]; done)
        intro w7 cs7 hs7 hc7 ha7 hu7
        have HO7 : Hid (OW18 w7 g (i + 1) l) := hid' ⟨cs7, ha7, by rw [hs7]; exact HCS.out, fun j u hj hu => by rw [hc7 j (.inr (show i * 4 + 4 ≤ j by omega))]; exact HCC.out j u (by omega) hu⟩
        have HFR7 : Hid (FR18 (fun k => k = g) w4 w7) := hid' (fun k hk => (hu7.block k hk).trans (HFR2.out k hk))
        have HSZ7 : Hid (w4.heap.size = w7.heap.size) := hid' (HSZ2.out.trans hu7.size.symm)
        have HB7 : Hid (Below w.heap.size w w7) := hid' (HB2.out.trans (hu7.below HGE.out))
        clear hs7 hc7 ha7 hu7
        go_wp2
        go_roundw
        case rel => exact ⟨i + 1, by go_num, by omega, HO7, HFR7, HSZ7, HB7⟩
        case measure => simp [intOf]; omega
      · have hlt2 : ¬ (i : Int) < (n : Int) := by omega
        clear hlt
        go_wp2_with fail
        refine (awake18 _).mono ?_
        rintro e w9 ⟨rfl, hb9⟩
        have HB9 := hid' (below_two HB.out hb9)
        clear hb9
        go_wp2
        go_ret
        exact ⟨rfl, HB9.out⟩
  · have HOK := hid' h0
    have HN2 : Hid (n ≤ 256) := hid' (by have := check_len18 h0; rw [← HRS.out, List.length_map, HN.out] at this; exact this)
    rw [h0] at HCK
    have HR3 := hid' hrt
    clear h0 hrt hbl hbs
    go_wp2_with (go_at_call 9; refine (HCK.out _ HB3.out).mono ?_; rintro e w4 ⟨rfl, hb4⟩; refine Hid.out ?_)
    refine hid' ?_
    have HB4 := hid' (below_two HB3.out hb4)
    have HOW4 := hid' (HOW3.out.keep hb4)
    have m4 := (hb4.cell (p := ⟨g, n * 4, none⟩) (Nat.lt_of_lt_of_le HGL.out hS23)).trans HMK3.out
    have HS4 : Hid (w3.heap.size ≤ w4.heap.size) := hid' hb4.size
    have HRT := hid' (HR3.out.below hb4)
    clear hb4
    go_wp2
    clear m4
    go_loopw [8] (fun s8 wr => ∃ i : Nat, s8 = .int .i64 (i : Int) ∧ i ≤ n ∧ Hid (OW18 wr g i l) ∧ Hid (FR18 (fun k => k = g) w4 wr) ∧ Hid (w4.heap.size = wr.heap.size) ∧ Hid (Below w.heap.size w wr)) (fun s8 _ => n - (intOf s8).toNat)
    case atStart => exact ⟨0, rfl, Nat.zero_le _, HOW4, hid' (fun _ _ => rfl), hid' rfl, HB4⟩
    case round =>
      obtain ⟨i, rfl, hi, HO, HFR, HSZ, HB⟩ := hrel
      by_cases hlt : i < n
      · have hlt2 : (i : Int) < (n : Int) := by omega
        have hlt3 : (i : Int) < (n : Int) + 1 := by omega
        obtain ⟨x, hx⟩ : ∃ x, l[i]? = some x := ⟨_, List.getElem?_eq_getElem (by rw [HN.out]; exact hlt)⟩
        obtain ⟨a, e1, l1, x0, x1, x2, x3⟩ := (H.out.keep HB.out).four i x hx
        subst e1
        obtain ⟨z0, z1, z2, z3⟩ := HO.out.four x hx
        have hne := neqR18 ⟨x.1.m.toArray⟩ ⟨x.1.p.toArray⟩ x.2 x.1.h
        obtain ⟨cs, ha, hcs, hcc⟩ := HO.out
        have HA := hid' ha
        have HCS := hid' hcs
        have HCC := hid' hcc
        clear hx l1 ha hcs hcc
        go_upto_region 10 with fail
        go_quiet (fail)
        have HA2 : Hid (Ar (wr.drewN nq) g 26 cs) := hid' HA.out
        have HFR2 : Hid (FR18 (fun k => k = g) w4 (wr.drewN nq)) := hid' HFR.out
        have HSZ2 : Hid (w4.heap.size = (wr.drewN nq).heap.size) := hid' HSZ.out
        have HB2 : Hid (Below w.heap.size w (wr.drewN nq)) := hid' (below_two HB.out (below_dN18 wr nq))
        go_upto_region 12 with fail
        generalize wr.drewN nq = wd at *
        clear x0 x1 x2 x3 z0 z1 z2 z3 hne
        go_wp2_with (refine wpl_put18 26 _ _ rfl rfl g (i * 4) [.string ⟨#[]⟩, .string ⟨#[]⟩, .int .u8 0, .string ⟨#[]⟩] ?_ ?_ 26 cs HA2.out (by kernel_rfl) (by have := HCS.out; have := HN.out; simp; omega) (by simp [Value.oneCell']) ?_)
        · first
            | rfl
            | (simp [Act.eval, Addr.add]; done)
            | (simp [Act.eval]; rfl)
        · first
            | rfl
            | (simp [Act.eval]; done)
        intro w7 cs7 hs7 hc7 ha7 hu7
        have HO7 : Hid (OW18 w7 g (i + 1) l) := hid' ⟨cs7, ha7, by rw [hs7]; exact HCS.out, fun j u hj hu => by rw [hc7 j (.inr (show i * 4 + 4 ≤ j by omega))]; exact HCC.out j u (by omega) hu⟩
        have HFR7 : Hid (FR18 (fun k => k = g) w4 w7) := hid' (fun k hk => (hu7.block k hk).trans (HFR2.out k hk))
        have HSZ7 : Hid (w4.heap.size = w7.heap.size) := hid' (HSZ2.out.trans hu7.size.symm)
        have HB7 : Hid (Below w.heap.size w w7) := hid' (HB2.out.trans (hu7.below HGE.out))
        clear hs7 hc7 ha7 hu7
        go_wp2
        go_roundw
        case rel => exact ⟨i + 1, by go_num, by omega, HO7, HFR7, HSZ7, HB7⟩
        case measure => simp [intOf]; omega
      · have hlt2 : ¬ (i : Int) < (n : Int) := by omega
        clear hlt
        generalize wr = w5 at *
        have HB5 := hid' HB.out
        have HRT5 : Hid (RT18 w5 w2.heap.size b rs) := hid' (HRT.out.keep (fun x hx _ => HFR.out x (fun e => by subst e; have := HGL.out; omega)))
        go_wp2
        go_loopw [9] (fun s9 wr => ∃ k : Nat, s9 = .int .i64 (k : Int) ∧ k ≤ kn ∧ Hid (Below w5.heap.size w5 wr)) (fun s9 _ => kn - (intOf s9).toNat)
        case atStart => exact ⟨0, rfl, Nat.zero_le _, hid' (Below.refl _ _)⟩
        case round =>
          obtain ⟨k, rfl, hkn, HBk⟩ := hrel
          by_cases hlk : k < kn
          · have hlk2 : (k : Int) < (kn : Int) := by omega
            obtain ⟨ask, hask⟩ : ∃ x, ks[k]? = some x := ⟨_, List.getElem?_eq_getElem (by rw [HKN.out]; exact hlk)⟩
            generalize wr = wq at *
            have HBw := hid' (below_two HB5.out HBk.out)
            obtain ⟨ka, e1, hka, x0, x1, hpz⟩ := (HKW.out.below HBw.out) k ask hask
            subst e1
            obtain ⟨s, hs⟩ : ∃ s, ask.m = s := ⟨_, rfl⟩
            obtain ⟨t, ht⟩ : ∃ t, ask.p = t := ⟨_, rfl⟩
            rw [hs] at x0
            rw [ht] at x1 hpz
            have HX0 := hid' x0
            have HX1 := hid' x1
            have HKA := hid' hka
            obtain ⟨q, hq⟩ : ∃ q, Rt.find rs s.data.toList t.data.toList = q := ⟨_, rfl⟩
            have HFA : Hid (∀ W, Below wq.heap.size wq W → Calls Tryz.prog 11 #[.pointer (some ⟨b, 0, none⟩), .string s, .string t] W fun e w' => mtR18 W q e w' ∧ Below W.heap.size W w') := hid' (fun W hW => by
              have := cfind18 _ b rs s _ rfl t _ rfl hpz W (HRT5.out.below (below_two HBk.out hW))
              rw [hq] at this
              exact this)
            have HFW : Hid (∀ W, Below wq.heap.size wq W → Calls Tryz.prog 12 #[.slice ao n cap, .string s, .string t] W fun e w' => mtR18 W q e w' ∧ Below W.heap.size W w') := hid' (fun W hW => by
              have hR := (H.out.keep (below_two HBw.out hW)).rr HBD.out
              rw [HRS.out] at hR
              have := rfind18 ao n cap rs s _ rfl t _ rfl (by rw [← HRS.out, List.length_map]; exact HN.out) (by have := HN2.out; omega) W hR hpz
              rw [hq] at this
              exact this)
            have hpmb : q.ps.length ≤ 4194305 := by rw [← hq]; exact Rt.find_ps HRP.out _ _
            clear hask hs ht hq hpz
            go_upto_region 18 with fail
            go_cut [10] from 71 to 132 (fun sd wx => ∃ ab pm po pc, sd = .pointer (some ⟨ab, 0, none⟩) ∧ Hid (MB18 wq ab q pm po pc wx))
            case first =>
              have sOf : ∀ W W1 : World, (Below wq.heap.size wq W ∧ W.cell? (ka.add (k * 2)) = some (.string s) ∧ W.cell? ⟨(ka.add (k * 2)).block, (ka.add (k * 2)).off + 1, none⟩ = some (.string t)) → Below W.heap.size W W1 → (Below wq.heap.size wq W1 ∧ W1.cell? (ka.add (k * 2)) = some (.string s) ∧ W1.cell? ⟨(ka.add (k * 2)).block, (ka.add (k * 2)).off + 1, none⟩ = some (.string t)) := fun W W1 h hb => ⟨below_two h.1 hb, (hb.cell (Nat.lt_of_lt_of_le hka h.1.size)).trans h.2.1, (hb.cell (p := ⟨(ka.add (k * 2)).block, (ka.add (k * 2)).off + 1, none⟩) (Nat.lt_of_lt_of_le hka h.1.size)).trans h.2.2⟩
              have hS : Below wq.heap.size wq wq ∧ wq.cell? (ka.add (k * 2)) = some (.string s) ∧ wq.cell? ⟨(ka.add (k * 2)).block, (ka.add (k * 2)).off + 1, none⟩ = some (.string t) := ⟨Below.refl _ _, x0, x1⟩
              refine wp_region_held_drew (S := fun W => Below wq.heap.size wq W ∧ W.cell? (ka.add (k * 2)) = some (.string s) ∧ W.cell? ⟨(ka.add (k * 2)).block, (ka.add (k * 2)).off + 1, none⟩ = some (.string t)) (by kernel_rfl) (sOf _ _ hS ((Below.refl _ _).drew)) (fun hHeld => ?_)
              refine take_d18 (i := 0) (d := some 77) (v := ?_) rfl rfl (by kernel_rfl) (by kernel_rfl) (by kernel_rfl) (fun _ _ _ h => h) (Or.inl ⟨by rfl, ?_⟩) (by assumption) ?_
              rotate_left
              · intro w hSw
                (try dsimp only at hSw)
                obtain ⟨_, s1, s2⟩ := hSw
                go_simp
                try with_reducible rfl
              try simp only [Act.put, List.setIfInBounds_toArray, List.set_cons_zero, List.set_cons_succ]
              refine take_d18 (i := 1) (d := some 78) (v := ?_) rfl rfl (by kernel_rfl) (by kernel_rfl) (by kernel_rfl) (fun _ _ _ h => h) (Or.inl ⟨by rfl, ?_⟩) (by assumption) ?_
              rotate_left
              · intro w hSw
                (try dsimp only at hSw)
                obtain ⟨_, s1, s2⟩ := hSw
                go_simp
                try with_reducible rfl
              try simp only [Act.put, List.setIfInBounds_toArray, List.set_cons_zero, List.set_cons_succ]
              refine take_d18 (i := 2) (d := some 79) (v := ?_) rfl rfl (by kernel_rfl) (by kernel_rfl) (by kernel_rfl) (fun _ _ _ h => h) (Or.inl ⟨by rfl, ?_⟩) (by assumption) ?_
              rotate_left
              · intro w hSw
                (try dsimp only at hSw)
                obtain ⟨_, s1, s2⟩ := hSw
                go_simp
                try with_reducible rfl
              try simp only [Act.put, List.setIfInBounds_toArray, List.set_cons_zero, List.set_cons_succ]
              refine take_d18 (i := 3) (d := some 80) (v := ?_) rfl rfl (by kernel_rfl) (by kernel_rfl) (by kernel_rfl) (fun _ _ _ h => h) (Or.inl ⟨by rfl, ?_⟩) (by assumption) ?_
              rotate_left
              · intro w hSw
                (try dsimp only at hSw)
                obtain ⟨_, s1, s2⟩ := hSw
                go_simp
                try with_reducible rfl
              try simp only [Act.put, List.setIfInBounds_toArray, List.set_cons_zero, List.set_cons_succ]
              refine take_d18 (i := 4) (d := some 81) (v := ?_) rfl rfl (by kernel_rfl) (by kernel_rfl) (by kernel_rfl) (fun _ _ _ h => h) (Or.inl ⟨by rfl, ?_⟩) (by assumption) ?_
              rotate_left
              · intro w hSw
                (try dsimp only at hSw)
                obtain ⟨_, s1, s2⟩ := hSw
                go_simp
                try with_reducible rfl
              try simp only [Act.put, List.setIfInBounds_toArray, List.set_cons_zero, List.set_cons_succ]
              refine take_d18 (i := 5) (d := some 82) (v := ?_) rfl rfl (by kernel_rfl) (by kernel_rfl) (by kernel_rfl) (fun _ _ _ h => h) (Or.inl ⟨by rfl, ?_⟩) (by assumption) ?_
              rotate_left
              · intro w hSw
                (try dsimp only at hSw)
                obtain ⟨_, s1, s2⟩ := hSw
                go_simp
                try with_reducible rfl
              try simp only [Act.put, List.setIfInBounds_toArray, List.set_cons_zero, List.set_cons_succ]
              refine take_d18 (i := 6) (d := some 83) (v := ?_) rfl rfl (by kernel_rfl) (by kernel_rfl) (by kernel_rfl) (fun _ _ _ h => h) (Or.inl ⟨by rfl, ?_⟩) (by assumption) ?_
              rotate_left
              · intro w hSw
                (try dsimp only at hSw)
                obtain ⟨_, s1, s2⟩ := hSw
                go_simp
                try with_reducible rfl
              try simp only [Act.put, List.setIfInBounds_toArray, List.set_cons_zero, List.set_cons_succ]
              refine take_d18 (i := 7) (d := some 84) (v := ?_) rfl rfl (by kernel_rfl) (by kernel_rfl) (by kernel_rfl) (fun _ _ _ h => h) (Or.inl ⟨by rfl, ?_⟩) (by assumption) ?_
              rotate_left
              · intro w hSw
                (try dsimp only at hSw)
                obtain ⟨_, s1, s2⟩ := hSw
                go_simp
                try with_reducible rfl
              try simp only [Act.put, List.setIfInBounds_toArray, List.set_cons_zero, List.set_cons_succ]
              refine take_d18 (i := 8) (d := some 85) (v := ?_) rfl rfl (by kernel_rfl) (by kernel_rfl) (by kernel_rfl) (fun _ _ _ h => h) (Or.inl ⟨by rfl, ?_⟩) (by assumption) ?_
              rotate_left
              · intro w hSw
                (try dsimp only at hSw)
                obtain ⟨_, s1, s2⟩ := hSw
                go_simp
                try with_reducible rfl
              try simp only [Act.put, List.setIfInBounds_toArray, List.set_cons_zero, List.set_cons_succ]
              refine take_d18 (i := 9) (d := some 86) (v := ?_) rfl rfl (by kernel_rfl) (by kernel_rfl) (by kernel_rfl) (fun _ _ _ h => h) (Or.inl ⟨by rfl, ?_⟩) (by assumption) ?_
              rotate_left
              · intro w hSw
                (try dsimp only at hSw)
                obtain ⟨_, s1, s2⟩ := hSw
                go_simp
                try with_reducible rfl
              try simp only [Act.put, List.setIfInBounds_toArray, List.set_cons_zero, List.set_cons_succ]
              refine take_d18 (i := 10) (d := some 87) (v := ?_) rfl rfl (by kernel_rfl) (by kernel_rfl) (by kernel_rfl) (fun _ _ _ h => h) (Or.inl ⟨by rfl, ?_⟩) (by assumption) ?_
              rotate_left
              · intro w hSw
                (try dsimp only at hSw)
                obtain ⟨_, s1, s2⟩ := hSw
                go_simp
                try with_reducible rfl
              try simp only [Act.put, List.setIfInBounds_toArray, List.set_cons_zero, List.set_cons_succ]
              refine wpAnyH_ready (rs := [11, 12]) (by kernel_rfl) (by simp) ?_
              refine AllReadyH.cons rfl (fun K hK => ?_) (AllReadyH.cons rfl (fun K hK => ?_) AllReadyH.nil)
              · go_simp
                refine (HFA.out _ hHeld.1).mono ?_
                rintro e wA ⟨⟨pm, po, pc, rfl, hpm, hpo⟩, hbA⟩
                go_wp2_with fail
                refine hK.out _ _ (sOf _ _ hHeld hbA) (fun hHeld2 => ?_)
                clear hK K
                try simp only [Act.put, List.setIfInBounds_toArray, List.set_cons_zero, List.set_cons_succ]
                refine wpAnyH_ready (rs := [12]) (by kernel_rfl) (by simp) ?_
                refine AllReadyH.cons rfl (fun K hK => ?_) AllReadyH.nil
                go_simp
                refine hK.out _ _ (sOf _ _ hHeld2 (bl_alloc17 wA _)) (fun hHeld3 => ?_)
                clear hK K
                try simp only [Act.put, List.setIfInBounds_toArray, List.set_cons_zero, List.set_cons_succ]
                refine wpAnyH_ready (rs := [13]) (by kernel_rfl) (by simp) ?_
                refine AllReadyH.cons rfl (fun K hK => ?_) AllReadyH.nil
                refine step_store18 rfl 35 _ _ rfl wA.heap.size #[.int .i64 q.st, .int .i64 q.ro, .slice po pm pc, .string ⟨q.al.toArray⟩] rfl rfl 35 _ (heap_alloc_last wA _) sizeMt18 rfl (by simp [Value.oneCell']) ?_
                intro wf haf huf
                have hmb := MB18.one hHeld.1 hbA hpm hpo haf huf
                refine hK.out _ _ (sOf _ _ hS hmb.bel) (fun _ => ?_)
                clear hK K haf huf hpo hbA
                try simp only [Act.put]
                refine wpAnyH_done (by kernel_rfl) ?_ _
                go_wp2_with fail
                go_meet
                exact ⟨_, _, _, _, rfl, hid' hmb⟩
              · go_simp
                refine hK.out _ _ (sOf _ _ hHeld (bl_alloc17 _ _)) (fun hHeld2 => ?_)
                clear hK K
                try simp only [Act.put, List.setIfInBounds_toArray, List.set_cons_zero, List.set_cons_succ]
                refine wpAnyH_ready (rs := [11]) (by kernel_rfl) (by simp) ?_
                refine AllReadyH.cons rfl (fun K hK => ?_) AllReadyH.nil
                go_simp
                refine (HFA.out _ hHeld2.1).mono ?_
                rintro e wA ⟨⟨pm, po, pc, rfl, hpm, hpo⟩, hbA⟩
                go_wp2_with fail
                refine hK.out _ _ (sOf _ _ hHeld2 hbA) (fun hHeld3 => ?_)
                clear hK K
                try simp only [Act.put, List.setIfInBounds_toArray, List.set_cons_zero, List.set_cons_succ]
                refine wpAnyH_ready (rs := [13]) (by kernel_rfl) (by simp) ?_
                refine AllReadyH.cons rfl (fun K hK => ?_) AllReadyH.nil
                refine step_store18 rfl 35 _ _ rfl wq.heap.size #[.int .i64 q.st, .int .i64 q.ro, .slice po pm pc, .string ⟨q.al.toArray⟩] rfl rfl 35 _ (Ar.keep (heap_alloc_last wq.drew (.cells #[.int .i64 0, .int .i64 0, .slice none 0 0, .string ⟨#[]⟩] 35)) hbA) sizeMt18 rfl (by simp [Value.oneCell']) ?_
                intro wf haf huf
                have hmb := MB18.two (w1 := wq.drew) hHeld.1 hbA hpm hpo haf huf
                refine hK.out _ _ (sOf _ _ hS hmb.bel) (fun _ => ?_)
                clear hK K haf huf hpo hbA
                try simp only [Act.put]
                refine wpAnyH_done (by kernel_rfl) ?_ _
                go_wp2_with fail
                go_meet
                exact ⟨_, _, _, _, rfl, hid' hmb⟩
            case rest =>
              obtain ⟨ab, pm, po, pc, rfl, HMA⟩ := hcut
              generalize wc = wa at *
              have x0 := (HMA.out.bel.cell HKA.out).trans HX0.out
              have x1 := (HMA.out.bel.cell (p := ⟨(ka.add (k * 2)).block, (ka.add (k * 2)).off + 1, none⟩) HKA.out).trans HX1.out
              have hka : (ka.add (k * 2)).block < wa.heap.size := Nat.lt_of_lt_of_le HKA.out HMA.out.bel.size
              have HFB : Hid (∀ W, Below wa.heap.size wa W → Calls Tryz.prog 11 #[.pointer (some ⟨b, 0, none⟩), .string s, .string t] W fun e w' => mtR18 W q e w' ∧ Below W.heap.size W w') := hid' (fun W hW => HFA.out W (below_two HMA.out.bel hW))
              go_upto_region 19 with fail
              go_cut [11] from 71 to 132 (fun sd wx => ∃ ab pm po pc, sd = .pointer (some ⟨ab, 0, none⟩) ∧ Hid (MB18 wa ab q pm po pc wx))
              case first =>
                have sOf : ∀ W W1 : World, (Below wa.heap.size wa W ∧ W.cell? (ka.add (k * 2)) = some (.string s) ∧ W.cell? ⟨(ka.add (k * 2)).block, (ka.add (k * 2)).off + 1, none⟩ = some (.string t)) → Below W.heap.size W W1 → (Below wa.heap.size wa W1 ∧ W1.cell? (ka.add (k * 2)) = some (.string s) ∧ W1.cell? ⟨(ka.add (k * 2)).block, (ka.add (k * 2)).off + 1, none⟩ = some (.string t)) := fun W W1 h hb => ⟨below_two h.1 hb, (hb.cell (Nat.lt_of_lt_of_le hka h.1.size)).trans h.2.1, (hb.cell (p := ⟨(ka.add (k * 2)).block, (ka.add (k * 2)).off + 1, none⟩) (Nat.lt_of_lt_of_le hka h.1.size)).trans h.2.2⟩
                have hS : Below wa.heap.size wa wa ∧ wa.cell? (ka.add (k * 2)) = some (.string s) ∧ wa.cell? ⟨(ka.add (k * 2)).block, (ka.add (k * 2)).off + 1, none⟩ = some (.string t) := ⟨Below.refl _ _, x0, x1⟩
                refine wp_region_held_drew (S := fun W => Below wa.heap.size wa W ∧ W.cell? (ka.add (k * 2)) = some (.string s) ∧ W.cell? ⟨(ka.add (k * 2)).block, (ka.add (k * 2)).off + 1, none⟩ = some (.string t)) (by kernel_rfl) (sOf _ _ hS ((Below.refl _ _).drew)) (fun hHeld => ?_)
                refine take_d18 (i := 0) (d := some 89) (v := ?_) rfl rfl (by kernel_rfl) (by kernel_rfl) (by kernel_rfl) (fun _ _ _ h => h) (Or.inl ⟨by rfl, ?_⟩) (by assumption) ?_
                rotate_left
                · intro w hSw
                  (try dsimp only at hSw)
                  obtain ⟨_, s1, s2⟩ := hSw
                  go_simp
                  try with_reducible rfl
                try simp only [Act.put, List.setIfInBounds_toArray, List.set_cons_zero, List.set_cons_succ]
                refine take_d18 (i := 1) (d := some 90) (v := ?_) rfl rfl (by kernel_rfl) (by kernel_rfl) (by kernel_rfl) (fun _ _ _ h => h) (Or.inl ⟨by rfl, ?_⟩) (by assumption) ?_
                rotate_left
                · intro w hSw
                  (try dsimp only at hSw)
                  obtain ⟨_, s1, s2⟩ := hSw
                  go_simp
                  try with_reducible rfl
                try simp only [Act.put, List.setIfInBounds_toArray, List.set_cons_zero, List.set_cons_succ]
                refine take_d18 (i := 2) (d := some 91) (v := ?_) rfl rfl (by kernel_rfl) (by kernel_rfl) (by kernel_rfl) (fun _ _ _ h => h) (Or.inl ⟨by rfl, ?_⟩) (by assumption) ?_
                rotate_left
                · intro w hSw
                  (try dsimp only at hSw)
                  obtain ⟨_, s1, s2⟩ := hSw
                  go_simp
                  try with_reducible rfl
                try simp only [Act.put, List.setIfInBounds_toArray, List.set_cons_zero, List.set_cons_succ]
                refine take_d18 (i := 3) (d := some 92) (v := ?_) rfl rfl (by kernel_rfl) (by kernel_rfl) (by kernel_rfl) (fun _ _ _ h => h) (Or.inl ⟨by rfl, ?_⟩) (by assumption) ?_
                rotate_left
                · intro w hSw
                  (try dsimp only at hSw)
                  obtain ⟨_, s1, s2⟩ := hSw
                  go_simp
                  try with_reducible rfl
                try simp only [Act.put, List.setIfInBounds_toArray, List.set_cons_zero, List.set_cons_succ]
                refine take_d18 (i := 4) (d := some 93) (v := ?_) rfl rfl (by kernel_rfl) (by kernel_rfl) (by kernel_rfl) (fun _ _ _ h => h) (Or.inl ⟨by rfl, ?_⟩) (by assumption) ?_
                rotate_left
                · intro w hSw
                  (try dsimp only at hSw)
                  obtain ⟨_, s1, s2⟩ := hSw
                  go_simp
                  try with_reducible rfl
                try simp only [Act.put, List.setIfInBounds_toArray, List.set_cons_zero, List.set_cons_succ]
                refine take_d18 (i := 5) (d := some 94) (v := ?_) rfl rfl (by kernel_rfl) (by kernel_rfl) (by kernel_rfl) (fun _ _ _ h => h) (Or.inl ⟨by rfl, ?_⟩) (by assumption) ?_
                rotate_left
                · intro w hSw
                  (try dsimp only at hSw)
                  obtain ⟨_, s1, s2⟩ := hSw
                  go_simp
                  try with_reducible rfl
                try simp only [Act.put, List.setIfInBounds_toArray, List.set_cons_zero, List.set_cons_succ]
                refine take_d18 (i := 6) (d := some 95) (v := ?_) rfl rfl (by kernel_rfl) (by kernel_rfl) (by kernel_rfl) (fun _ _ _ h => h) (Or.inl ⟨by rfl, ?_⟩) (by assumption) ?_
                rotate_left
                · intro w hSw
                  (try dsimp only at hSw)
                  obtain ⟨_, s1, s2⟩ := hSw
                  go_simp
                  try with_reducible rfl
                try simp only [Act.put, List.setIfInBounds_toArray, List.set_cons_zero, List.set_cons_succ]
                refine take_d18 (i := 7) (d := some 96) (v := ?_) rfl rfl (by kernel_rfl) (by kernel_rfl) (by kernel_rfl) (fun _ _ _ h => h) (Or.inl ⟨by rfl, ?_⟩) (by assumption) ?_
                rotate_left
                · intro w hSw
                  (try dsimp only at hSw)
                  obtain ⟨_, s1, s2⟩ := hSw
                  go_simp
                  try with_reducible rfl
                try simp only [Act.put, List.setIfInBounds_toArray, List.set_cons_zero, List.set_cons_succ]
                refine take_d18 (i := 8) (d := some 97) (v := ?_) rfl rfl (by kernel_rfl) (by kernel_rfl) (by kernel_rfl) (fun _ _ _ h => h) (Or.inl ⟨by rfl, ?_⟩) (by assumption) ?_
                rotate_left
                · intro w hSw
                  (try dsimp only at hSw)
                  obtain ⟨_, s1, s2⟩ := hSw
                  go_simp
                  try with_reducible rfl
                try simp only [Act.put, List.setIfInBounds_toArray, List.set_cons_zero, List.set_cons_succ]
                refine take_d18 (i := 9) (d := some 98) (v := ?_) rfl rfl (by kernel_rfl) (by kernel_rfl) (by kernel_rfl) (fun _ _ _ h => h) (Or.inl ⟨by rfl, ?_⟩) (by assumption) ?_
                rotate_left
                · intro w hSw
                  (try dsimp only at hSw)
                  obtain ⟨_, s1, s2⟩ := hSw
                  go_simp
                  try with_reducible rfl
                try simp only [Act.put, List.setIfInBounds_toArray, List.set_cons_zero, List.set_cons_succ]
                refine take_d18 (i := 10) (d := some 99) (v := ?_) rfl rfl (by kernel_rfl) (by kernel_rfl) (by kernel_rfl) (fun _ _ _ h => h) (Or.inl ⟨by rfl, ?_⟩) (by assumption) ?_
                rotate_left
                · intro w hSw
                  (try dsimp only at hSw)
                  obtain ⟨_, s1, s2⟩ := hSw
                  go_simp
                  try with_reducible rfl
                try simp only [Act.put, List.setIfInBounds_toArray, List.set_cons_zero, List.set_cons_succ]
                refine wpAnyH_ready (rs := [11, 12]) (by kernel_rfl) (by simp) ?_
                refine AllReadyH.cons rfl (fun K hK => ?_) (AllReadyH.cons rfl (fun K hK => ?_) AllReadyH.nil)
                · go_simp
                  refine (HFB.out _ hHeld.1).mono ?_
                  rintro e wA ⟨⟨pm, po, pc, rfl, hpm, hpo⟩, hbA⟩
                  go_wp2_with fail
                  refine hK.out _ _ (sOf _ _ hHeld hbA) (fun hHeld2 => ?_)
                  clear hK K
                  try simp only [Act.put, List.setIfInBounds_toArray, List.set_cons_zero, List.set_cons_succ]
                  refine wpAnyH_ready (rs := [12]) (by kernel_rfl) (by simp) ?_
                  refine AllReadyH.cons rfl (fun K hK => ?_) AllReadyH.nil
                  go_simp
                  refine hK.out _ _ (sOf _ _ hHeld2 (bl_alloc17 wA _)) (fun hHeld3 => ?_)
                  clear hK K
                  try simp only [Act.put, List.setIfInBounds_toArray, List.set_cons_zero, List.set_cons_succ]
                  refine wpAnyH_ready (rs := [13]) (by kernel_rfl) (by simp) ?_
                  refine AllReadyH.cons rfl (fun K hK => ?_) AllReadyH.nil
                  refine step_store18 rfl 35 _ _ rfl wA.heap.size #[.int .i64 q.st, .int .i64 q.ro, .slice po pm pc, .string ⟨q.al.toArray⟩] rfl rfl 35 _ (heap_alloc_last wA _) sizeMt18 rfl (by simp [Value.oneCell']) ?_
                  intro wf haf huf
                  have hmb := MB18.one hHeld.1 hbA hpm hpo haf huf
                  refine hK.out _ _ (sOf _ _ hS hmb.bel) (fun _ => ?_)
                  clear hK K haf huf hpo hbA
                  try simp only [Act.put]
                  refine wpAnyH_done (by kernel_rfl) ?_ _
                  go_wp2_with fail
                  go_meet
                  exact ⟨_, _, _, _, rfl, hid' hmb⟩
                · go_simp
                  refine hK.out _ _ (sOf _ _ hHeld (bl_alloc17 _ _)) (fun hHeld2 => ?_)
                  clear hK K
                  try simp only [Act.put, List.setIfInBounds_toArray, List.set_cons_zero, List.set_cons_succ]
                  refine wpAnyH_ready (rs := [11]) (by kernel_rfl) (by simp) ?_
                  refine AllReadyH.cons rfl (fun K hK => ?_) AllReadyH.nil
                  go_simp
                  refine (HFB.out _ hHeld2.1).mono ?_
                  rintro e wA ⟨⟨pm, po, pc, rfl, hpm, hpo⟩, hbA⟩
                  go_wp2_with fail
                  refine hK.out _ _ (sOf _ _ hHeld2 hbA) (fun hHeld3 => ?_)
                  clear hK K
                  try simp only [Act.put, List.setIfInBounds_toArray, List.set_cons_zero, List.set_cons_succ]
                  refine wpAnyH_ready (rs := [13]) (by kernel_rfl) (by simp) ?_
                  refine AllReadyH.cons rfl (fun K hK => ?_) AllReadyH.nil
                  refine step_store18 rfl 35 _ _ rfl wa.heap.size #[.int .i64 q.st, .int .i64 q.ro, .slice po pm pc, .string ⟨q.al.toArray⟩] rfl rfl 35 _ (Ar.keep (heap_alloc_last wa.drew (.cells #[.int .i64 0, .int .i64 0, .slice none 0 0, .string ⟨#[]⟩] 35)) hbA) sizeMt18 rfl (by simp [Value.oneCell']) ?_
                  intro wf haf huf
                  have hmb := MB18.two (w1 := wa.drew) hHeld.1 hbA hpm hpo haf huf
                  refine hK.out _ _ (sOf _ _ hS hmb.bel) (fun _ => ?_)
                  clear hK K haf huf hpo hbA
                  try simp only [Act.put]
                  refine wpAnyH_done (by kernel_rfl) ?_ _
                  go_wp2_with fail
                  go_meet
                  exact ⟨_, _, _, _, rfl, hid' hmb⟩
              case rest =>
                obtain ⟨ab2, pm2, po2, pc2, rfl, HMB⟩ := hcut
                generalize wc = wb at *
                have HBab := hid' (below_two HMA.out.bel HMB.out.bel)
                have x0 := (HBab.out.cell HKA.out).trans HX0.out
                have x1 := (HBab.out.cell (p := ⟨(ka.add (k * 2)).block, (ka.add (k * 2)).off + 1, none⟩) HKA.out).trans HX1.out
                have hka : (ka.add (k * 2)).block < wb.heap.size := Nat.lt_of_lt_of_le HKA.out HBab.out.size
                have HFC : Hid (∀ W, Below wb.heap.size wb W → Calls Tryz.prog 12 #[.slice ao n cap, .string s, .string t] W fun e w' => mtR18 W q e w' ∧ Below W.heap.size W w') := hid' (fun W hW => HFW.out W (below_two HBab.out hW))
                go_upto_region 20 with fail
                go_cut [12] from 71 to 132 (fun sd wx => ∃ ab pm po pc, sd = .pointer (some ⟨ab, 0, none⟩) ∧ Hid (MB18 wb ab q pm po pc wx))
                case first =>
                  have sOf : ∀ W W1 : World, (Below wb.heap.size wb W ∧ W.cell? (ka.add (k * 2)) = some (.string s) ∧ W.cell? ⟨(ka.add (k * 2)).block, (ka.add (k * 2)).off + 1, none⟩ = some (.string t)) → Below W.heap.size W W1 → (Below wb.heap.size wb W1 ∧ W1.cell? (ka.add (k * 2)) = some (.string s) ∧ W1.cell? ⟨(ka.add (k * 2)).block, (ka.add (k * 2)).off + 1, none⟩ = some (.string t)) := fun W W1 h hb => ⟨below_two h.1 hb, (hb.cell (Nat.lt_of_lt_of_le hka h.1.size)).trans h.2.1, (hb.cell (p := ⟨(ka.add (k * 2)).block, (ka.add (k * 2)).off + 1, none⟩) (Nat.lt_of_lt_of_le hka h.1.size)).trans h.2.2⟩
                  have hS : Below wb.heap.size wb wb ∧ wb.cell? (ka.add (k * 2)) = some (.string s) ∧ wb.cell? ⟨(ka.add (k * 2)).block, (ka.add (k * 2)).off + 1, none⟩ = some (.string t) := ⟨Below.refl _ _, x0, x1⟩
                  refine wp_region_held_drew (S := fun W => Below wb.heap.size wb W ∧ W.cell? (ka.add (k * 2)) = some (.string s) ∧ W.cell? ⟨(ka.add (k * 2)).block, (ka.add (k * 2)).off + 1, none⟩ = some (.string t)) (by kernel_rfl) (sOf _ _ hS ((Below.refl _ _).drew)) (fun hHeld => ?_)
                  refine take_d18 (i := 0) (d := some 101) (v := ?_) rfl rfl (by kernel_rfl) (by kernel_rfl) (by kernel_rfl) (fun _ _ _ h => h) (Or.inl ⟨by rfl, ?_⟩) (by assumption) ?_
                  rotate_left
                  · intro w hSw
                    (try dsimp only at hSw)
                    obtain ⟨_, s1, s2⟩ := hSw
                    go_simp
                    try with_reducible rfl
                  try simp only [Act.put, List.setIfInBounds_toArray, List.set_cons_zero, List.set_cons_succ]
                  refine take_d18 (i := 1) (d := some 102) (v := ?_) rfl rfl (by kernel_rfl) (by kernel_rfl) (by kernel_rfl) (fun _ _ _ h => h) (Or.inl ⟨by rfl, ?_⟩) (by assumption) ?_
                  rotate_left
                  · intro w hSw
                    (try dsimp only at hSw)
                    obtain ⟨_, s1, s2⟩ := hSw
                    go_simp
                    try with_reducible rfl
                  try simp only [Act.put, List.setIfInBounds_toArray, List.set_cons_zero, List.set_cons_succ]
                  refine take_d18 (i := 2) (d := some 103) (v := ?_) rfl rfl (by kernel_rfl) (by kernel_rfl) (by kernel_rfl) (fun _ _ _ h => h) (Or.inl ⟨by rfl, ?_⟩) (by assumption) ?_
                  rotate_left
                  · intro w hSw
                    (try dsimp only at hSw)
                    obtain ⟨_, s1, s2⟩ := hSw
                    go_simp
                    try with_reducible rfl
                  try simp only [Act.put, List.setIfInBounds_toArray, List.set_cons_zero, List.set_cons_succ]
                  refine take_d18 (i := 3) (d := some 104) (v := ?_) rfl rfl (by kernel_rfl) (by kernel_rfl) (by kernel_rfl) (fun _ _ _ h => h) (Or.inl ⟨by rfl, ?_⟩) (by assumption) ?_
                  rotate_left
                  · intro w hSw
                    (try dsimp only at hSw)
                    obtain ⟨_, s1, s2⟩ := hSw
                    go_simp
                    try with_reducible rfl
                  try simp only [Act.put, List.setIfInBounds_toArray, List.set_cons_zero, List.set_cons_succ]
                  refine take_d18 (i := 4) (d := some 105) (v := ?_) rfl rfl (by kernel_rfl) (by kernel_rfl) (by kernel_rfl) (fun _ _ _ h => h) (Or.inl ⟨by rfl, ?_⟩) (by assumption) ?_
                  rotate_left
                  · intro w hSw
                    (try dsimp only at hSw)
                    obtain ⟨_, s1, s2⟩ := hSw
                    go_simp
                    try with_reducible rfl
                  try simp only [Act.put, List.setIfInBounds_toArray, List.set_cons_zero, List.set_cons_succ]
                  refine take_d18 (i := 5) (d := some 106) (v := ?_) rfl rfl (by kernel_rfl) (by kernel_rfl) (by kernel_rfl) (fun _ _ _ h => h) (Or.inl ⟨by rfl, ?_⟩) (by assumption) ?_
                  rotate_left
                  · intro w hSw
                    (try dsimp only at hSw)
                    obtain ⟨_, s1, s2⟩ := hSw
                    go_simp
                    try with_reducible rfl
                  try simp only [Act.put, List.setIfInBounds_toArray, List.set_cons_zero, List.set_cons_succ]
                  refine take_d18 (i := 6) (d := some 107) (v := ?_) rfl rfl (by kernel_rfl) (by kernel_rfl) (by kernel_rfl) (fun _ _ _ h => h) (Or.inl ⟨by rfl, ?_⟩) (by assumption) ?_
                  rotate_left
                  · intro w hSw
                    (try dsimp only at hSw)
                    obtain ⟨_, s1, s2⟩ := hSw
                    go_simp
                    try with_reducible rfl
                  try simp only [Act.put, List.setIfInBounds_toArray, List.set_cons_zero, List.set_cons_succ]
                  refine take_d18 (i := 7) (d := some 108) (v := ?_) rfl rfl (by kernel_rfl) (by kernel_rfl) (by kernel_rfl) (fun _ _ _ h => h) (Or.inl ⟨by rfl, ?_⟩) (by assumption) ?_
                  rotate_left
                  · intro w hSw
                    (try dsimp only at hSw)
                    obtain ⟨_, s1, s2⟩ := hSw
                    go_simp
                    try with_reducible rfl
                  try simp only [Act.put, List.setIfInBounds_toArray, List.set_cons_zero, List.set_cons_succ]
                  refine take_d18 (i := 8) (d := some 109) (v := ?_) rfl rfl (by kernel_rfl) (by kernel_rfl) (by kernel_rfl) (fun _ _ _ h => h) (Or.inl ⟨by rfl, ?_⟩) (by assumption) ?_
                  rotate_left
                  · intro w hSw
                    (try dsimp only at hSw)
                    obtain ⟨_, s1, s2⟩ := hSw
                    go_simp
                    try with_reducible rfl
                  try simp only [Act.put, List.setIfInBounds_toArray, List.set_cons_zero, List.set_cons_succ]
                  refine take_d18 (i := 9) (d := some 110) (v := ?_) rfl rfl (by kernel_rfl) (by kernel_rfl) (by kernel_rfl) (fun _ _ _ h => h) (Or.inl ⟨by rfl, ?_⟩) (by assumption) ?_
                  rotate_left
                  · intro w hSw
                    (try dsimp only at hSw)
                    obtain ⟨_, s1, s2⟩ := hSw
                    go_simp
                    try with_reducible rfl
                  try simp only [Act.put, List.setIfInBounds_toArray, List.set_cons_zero, List.set_cons_succ]
                  refine take_d18 (i := 10) (d := some 111) (v := ?_) rfl rfl (by kernel_rfl) (by kernel_rfl) (by kernel_rfl) (fun _ _ _ h => h) (Or.inl ⟨by rfl, ?_⟩) (by assumption) ?_
                  rotate_left
                  · intro w hSw
                    (try dsimp only at hSw)
                    obtain ⟨_, s1, s2⟩ := hSw
                    go_simp
                    try with_reducible rfl
                  try simp only [Act.put, List.setIfInBounds_toArray, List.set_cons_zero, List.set_cons_succ]
                  refine wpAnyH_ready (rs := [11, 12]) (by kernel_rfl) (by simp) ?_
                  refine AllReadyH.cons rfl (fun K hK => ?_) (AllReadyH.cons rfl (fun K hK => ?_) AllReadyH.nil)
                  · go_simp
                    refine (HFC.out _ hHeld.1).mono ?_
                    rintro e wA ⟨⟨pm, po, pc, rfl, hpm, hpo⟩, hbA⟩
                    go_wp2_with fail
                    refine hK.out _ _ (sOf _ _ hHeld hbA) (fun hHeld2 => ?_)
                    clear hK K
                    try simp only [Act.put, List.setIfInBounds_toArray, List.set_cons_zero, List.set_cons_succ]
                    refine wpAnyH_ready (rs := [12]) (by kernel_rfl) (by simp) ?_
                    refine AllReadyH.cons rfl (fun K hK => ?_) AllReadyH.nil
                    go_simp
                    refine hK.out _ _ (sOf _ _ hHeld2 (bl_alloc17 wA _)) (fun hHeld3 => ?_)
                    clear hK K
                    try simp only [Act.put, List.setIfInBounds_toArray, List.set_cons_zero, List.set_cons_succ]
                    refine wpAnyH_ready (rs := [13]) (by kernel_rfl) (by simp) ?_
                    refine AllReadyH.cons rfl (fun K hK => ?_) AllReadyH.nil
                    refine step_store18 rfl 35 _ _ rfl wA.heap.size #[.int .i64 q.st, .int .i64 q.ro, .slice po pm pc, .string ⟨q.al.toArray⟩] rfl rfl 35 _ (heap_alloc_last wA _) sizeMt18 rfl (by simp [Value.oneCell']) ?_
                    intro wf haf huf
                    have hmb := MB18.one hHeld.1 hbA hpm hpo haf huf
                    refine hK.out _ _ (sOf _ _ hS hmb.bel) (fun _ => ?_)
                    clear hK K haf huf hpo hbA
                    try simp only [Act.put]
                    refine wpAnyH_done (by kernel_rfl) ?_ _
                    go_wp2_with fail
                    go_meet
                    exact ⟨_, _, _, _, rfl, hid' hmb⟩
                  · go_simp
                    refine hK.out _ _ (sOf _ _ hHeld (bl_alloc17 _ _)) (fun hHeld2 => ?_)
                    clear hK K
                    try simp only [Act.put, List.setIfInBounds_toArray, List.set_cons_zero, List.set_cons_succ]
                    refine wpAnyH_ready (rs := [11]) (by kernel_rfl) (by simp) ?_
                    refine AllReadyH.cons rfl (fun K hK => ?_) AllReadyH.nil
                    go_simp
                    refine (HFC.out _ hHeld2.1).mono ?_
                    rintro e wA ⟨⟨pm, po, pc, rfl, hpm, hpo⟩, hbA⟩
                    go_wp2_with fail
                    refine hK.out _ _ (sOf _ _ hHeld2 hbA) (fun hHeld3 => ?_)
                    clear hK K
                    try simp only [Act.put, List.setIfInBounds_toArray, List.set_cons_zero, List.set_cons_succ]
                    refine wpAnyH_ready (rs := [13]) (by kernel_rfl) (by simp) ?_
                    refine AllReadyH.cons rfl (fun K hK => ?_) AllReadyH.nil
                    refine step_store18 rfl 35 _ _ rfl wb.heap.size #[.int .i64 q.st, .int .i64 q.ro, .slice po pm pc, .string ⟨q.al.toArray⟩] rfl rfl 35 _ (Ar.keep (heap_alloc_last wb.drew (.cells #[.int .i64 0, .int .i64 0, .slice none 0 0, .string ⟨#[]⟩] 35)) hbA) sizeMt18 rfl (by simp [Value.oneCell']) ?_
                    intro wf haf huf
                    have hmb := MB18.two (w1 := wb.drew) hHeld.1 hbA hpm hpo haf huf
                    refine hK.out _ _ (sOf _ _ hS hmb.bel) (fun _ => ?_)
                    clear hK K haf huf hpo hbA
                    try simp only [Act.put]
                    refine wpAnyH_done (by kernel_rfl) ?_ _
                    go_wp2_with fail
                    go_meet
                    exact ⟨_, _, _, _, rfl, hid' hmb⟩
                case rest =>
                  obtain ⟨ab3, pm3, po3, pc3, rfl, HMC⟩ := hcut
                  generalize wc = wg at *
                  obtain rfl : pm2 = pm := HMB.out.len.symm.trans HMA.out.len
                  obtain rfl : pm3 = pm2 := HMC.out.len.symm.trans HMB.out.len
                  have HMA2 := hid' ((HMA.out.keep HMB.out.bel).keep HMC.out.bel)
                  have HMB2 := hid' (HMB.out.keep HMC.out.bel)
                  have hpmb2 : pm3 ≤ 4194305 := by rw [← HMA.out.len]; exact hpmb
                  have HLN := hid' HMA.out.len
                  have HB6 := hid' (below_two HBk.out (below_two HBab.out HMC.out.bel))
                  have HSa : Hid (wq.heap.size ≤ wa.heap.size) := hid' HMA.out.bel.size
                  have HOa := hid' HMA.out.own
                  obtain ⟨st, hst⟩ : ∃ z, q.st = z := ⟨_, rfl⟩
                  obtain ⟨ro, hro⟩ : ∃ z, q.ro = z := ⟨_, rfl⟩
                  obtain ⟨al, hal⟩ : ∃ z : ByteArray, (⟨q.al.toArray⟩ : ByteArray) = z := ⟨_, rfl⟩
                  have HAa := hid' HMA2.out.at'
                  have HAb := hid' HMB2.out.at'
                  have HAc := hid' HMC.out.at'
                  rw [hst, hro, hal] at HAa HAb HAc
                  have HPa := hid' HMA2.out.own
                  have HPb := hid' HMB2.out.own
                  have HPc := hid' HMC.out.own
                  have HSab : Hid (wa.heap.size ≤ wb.heap.size) := hid' HMB.out.bel.size
                  clear x0 x1 hka HMA HMB HMC HMA2 HMB2 HFA HFB HFC HFW hst hro hal hpmb HBab
                  have a0 := HAa.out.cell 0 _ rfl
                  have a1 := HAa.out.cell 1 _ rfl
                  have a2 := HAa.out.cell 2 _ rfl
                  have a3 := HAa.out.cell 3 _ rfl
                  have c0 := HAc.out.cell 0 _ rfl
                  have c1 := HAc.out.cell 1 _ rfl
                  have c2 := HAc.out.cell 2 _ rfl
                  have c3 := HAc.out.cell 3 _ rfl
                  go_wp2_with fail
                  refine (rsame18 st ro al po po3 pm3 pc pc3 q.ps HLN.out hpmb2 wg (PM18.own HPa.out) (PM18.own HPc.out)).mono ?_
                  rintro e wh ⟨rfl, hbh⟩
                  have HB7 := hid' (below_two HB6.out hbh)
                  have HAah := hid' (HAa.out.keep hbh)
                  have HAbh := hid' (HAb.out.keep hbh)
                  have HAch := hid' (HAc.out.keep hbh)
                  have HPah := hid' (own_kp17 HPa.out hbh)
                  have HPbh := hid' (own_kp17 HPb.out hbh)
                  have HPch := hid' (own_kp17 HPc.out hbh)
                  clear hbh a0 a1 a2 a3 c0 c1 c2 c3 HAa HAb HAc HPa HPb HPc
                  have HPX : Hid (∀ x, po = some ⟨x, 0, none⟩ → wq.heap.size ≤ x ∧ x < wa.heap.size ∧ x ≠ ab ∧ x ≠ ab2 ∧ x ≠ ab3) := hid' (fun x hx => by
                    subst hx
                    exact ⟨own_ge18 HOa.out x rfl, own_lt HOa.out x rfl, pm_ne18 HAah.out HPah.out x rfl, pm_ne18 HAbh.out HPah.out x rfl, pm_ne18 HAch.out HPah.out x rfl⟩)
                  go_wp2
                  go_loopw [13] (fun s13 wr => ∃ j : Nat, s13 = .int .i64 (j : Int) ∧ j ≤ pm3 ∧ Hid (PW18 wr po pm3 wq.heap.size) ∧ Hid (FR18 (fun x => po = some ⟨x, 0, none⟩) wh wr) ∧ Hid (Below w5.heap.size w5 wr)) (fun s13 _ => pm3 - (intOf s13).toNat)
                  case atStart => exact ⟨0, rfl, Nat.zero_le _, hid' (PW18.of_own HPah.out), hid' (fun _ _ => rfl), HB7⟩
                  case round =>
                    obtain ⟨j, rfl, hj, HPW, HFX, HBX⟩ := hrel
                    have HA4 : Hid (Ar wr ab 35 #[.int .i64 st, .int .i64 ro, .slice po pm3 pc, .string al]) := hid' ((HFX.out ab (fun hx => (HPX.out ab hx).2.2.1 rfl)).trans HAah.out)
                    have a2 := HA4.out.cell 2 _ rfl
                    by_cases hjm : j < pm3
                    · have hjm2 : (j : Int) < (pm3 : Int) := by omega
                      obtain ⟨pg, cs, hpo, hpg, hpa, hps⟩ := HPW.out.resolve_left (by omega)
                      have HPO := hid' hpo
                      have HPA := hid' hpa
                      have HPG := hid' hpg
                      have HPS := hid' hps
                      rw [hpo] at a2
                      clear hpa hps hpg hpo
                      go_wp2_with (refine wpl_put18 42 _ _ rfl rfl pg (j * 2) [.string ⟨#[]⟩, .string ⟨#[]⟩] ?_ ?_ 42 cs HPA.out (by kernel_rfl) (by have := HPS.out; simp; omega) (by simp [Value.oneCell']) ?_)
                      · first
                          | rfl
                          | (simp [Act.eval, Addr.add]; done)
                          | (simp [Act.eval]; rfl)
                      · first
                          | rfl
                          | (simp [Act.eval]; done)
                      intro w7 cs7 hs7 hc7 ha7 hu7
                      have HPW7 : Hid (PW18 w7 po pm3 wq.heap.size) := hid' (.inr ⟨pg, cs7, HPO.out, HPG.out, ha7, by rw [hs7]; exact HPS.out⟩)
                      have HFX7 : Hid (FR18 (fun x => po = some ⟨x, 0, none⟩) wh w7) := hid' (fun x hx => (hu7.block x (fun e => hx (by rw [e]; exact HPO.out))).trans (HFX.out x hx))
                      have HBX7 : Hid (Below w5.heap.size w5 w7) := hid' (HBX.out.trans (hu7.below (Nat.le_trans HBk.out.size HPG.out)))
                      clear hs7 hc7 ha7 hu7
                      go_wp2
                      go_roundw
                      case rel => exact ⟨j + 1, by go_num, by omega, HPW7, HFX7, HBX7⟩
                      case measure => simp [intOf]; omega
                    · have hjm2 : ¬ (j : Int) < (pm3 : Int) := by omega
                      clear hjm
                      have HA5 : Hid (Ar wr ab2 35 #[.int .i64 st, .int .i64 ro, .slice po2 pm3 pc2, .string al]) := hid' ((HFX.out ab2 (fun hx => (HPX.out ab2 hx).2.2.2.1 rfl)).trans HAbh.out)
                      have HA6 : Hid (Ar wr ab3 35 #[.int .i64 st, .int .i64 ro, .slice po3 pm3 pc3, .string al]) := hid' ((HFX.out ab3 (fun hx => (HPX.out ab3 hx).2.2.2.2 rfl)).trans HAch.out)
                      have HP5 : Hid (PM18 wr po2 q.ps) := hid' (PM18.own (own_same HPbh.out (fun x hx => HFX.out x (fun hpx => by
                        have h1 := own_ge18 HPbh.out x hx
                        have h2 := (HPX.out x hpx).2.1
                        omega))))
                      have HP6 : Hid (PM18 wr po3 q.ps) := hid' (PM18.own (own_same HPch.out (fun x hx => HFX.out x (fun hpx => by
                        have h1 := own_ge18 HPch.out x hx
                        have h2 := (HPX.out x hpx).2.1
                        have h3 := HSab.out
                        omega))))
                      have b0 := HA5.out.cell 0 _ rfl
                      have b1 := HA5.out.cell 1 _ rfl
                      have b2 := HA5.out.cell 2 _ rfl
                      have b3 := HA5.out.cell 3 _ rfl
                      have c0 := HA6.out.cell 0 _ rfl
                      have c1 := HA6.out.cell 1 _ rfl
                      have c2 := HA6.out.cell 2 _ rfl
                      have c3 := HA6.out.cell 3 _ rfl
                      go_wp2_with fail
                      refine (rsame18 st ro al po2 po3 pm3 pc2 pc3 q.ps HLN.out hpmb2 wr HP5.out HP6.out).mono ?_
                      rintro e wi ⟨rfl, hbi⟩
                      have HBi := hid' (below_two HBX.out hbi)
                      clear hbi
                      go_wp2
                      go_roundw
                      case rel => exact ⟨k + 1, by go_num, by omega, HBi⟩
                      case measure => simp [intOf]; omega
          · have hlk2 : ¬ (k : Int) < (kn : Int) := by omega
            have HBz := hid' (below_two HB5.out HBk.out)
            clear hlk
            go_wp2_with fail
            refine (awake18 _).mono ?_
            rintro e w9 ⟨rfl, hb9⟩
            have HB9 := hid' (below_two HBz.out hb9)
            clear hb9
            go_wp2
            go_ret
            exact ⟨rfl, HB9.out⟩

end Go.Proofs.YtfdjimjiikeciaaGreatDoor
