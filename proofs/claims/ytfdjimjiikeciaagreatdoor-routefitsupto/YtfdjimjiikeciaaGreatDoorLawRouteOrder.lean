/-
  RouteOrder: its contract.
-/
import Derived.Test.YtfdjimjiikeciaaGreatDoorRtZ
namespace Go.Proofs.YtfdjimjiikeciaaGreatDoor
open Go.RowKit

theorem set1_18 {w : World} {b : Nat} {x0 x1 x2 x3 y : Value} (h : Ar w b 35 #[x0, x1, x2, x3]) : Ar (w.setCell ⟨b, 1, none⟩ y) b 35 #[x0, y, x2, x3] := by
  unfold Ar at *
  simp [World.setCell, Array.getElem?_modify, h]
namespace Rt
theorem ro_turn {n k : Nat} (h : k < n) : n - 1 - (n - 1 - k) = k := by omega
theorem find_ro (rs : List Ro) (m p : T8) : (find rs m p).ro = -1 ∨ ∃ k : Nat, k < rs.length ∧ (find rs m p).ro = (k : Int) := by
  unfold find
  cases best rs (Pt.parts p) with
  | none => exact .inl rfl
  | some q =>
    simp only []
    cases hs : sel rs q m with
    | none => exact .inl rfl
    | some k =>
      obtain ⟨r, hr, _⟩ := sel_some hs
      exact .inr ⟨k, (List.getElem?_eq_some_iff.1 hr).1, rfl⟩
theorem caught_len : ∀ (a : List Prt) (l : List T8) (e : Bool), (caught a l e).length ≤ a.length := by
  intro a
  induction a with
  | nil => intro l e; simp [caught]
  | cons p x ih =>
    intro l e
    rw [caught]
    split
    · simp only [List.length_cons]; have := ih l.tail e; omega
    · split
      · simp only [List.length_cons]; have := ih l.tail e; omega
      · have := ih l.tail e; simp only [List.length_cons]; omega
theorem find_ps {rs : List Ro} (h : ∀ r ∈ rs, r.p.length ≤ 4194304) (m p : T8) : (find rs m p).ps.length ≤ 4194305 := by
  unfold find
  cases best rs (Pt.parts p) with
  | none => simp
  | some q =>
    simp only []
    cases hs : sel rs q m with
    | none => simp
    | some k =>
      obtain ⟨r, hr, _⟩ := sel_some hs
      simp only [hr, Option.map_some, Option.getD_some]
      have h1 := caught_len (pat r) (Pt.parts p) (ends p)
      have h2 := pat_len18 r
      have h3 := h r (List.mem_of_getElem? hr)
      omega
theorem take_rev {α : Type} {l : List α} {i : Nat} {x : α} (h : l[l.length - 1 - i]? = some x) (hi : i < l.length) : (l.reverse).take (i + 1) = l.reverse.take i ++ [x] := by
  rw [List.take_add_one, List.getElem?_reverse hi, h]
  rfl
end Rt

set_option maxHeartbeats 16000000 in
set_option maxRecDepth 20000 in
theorem routeOrder_any (ao ko : Option Addr) (n cap kn kc : Nat) (l : List Fr18) (ks : List Ak18) (hn : l.length = n) (hk : ks.length = kn) (hnb : n ≤ 1048576) (hkb : kn ≤ 1048576) (hbd : BD18 l) (w : World) (h : RW18 w (.slice ao n cap) l) (hw : KW18 w ko ks) :
    Calls Tryz.prog 4 #[.slice ao n cap, .slice ko kn kc] w fun e w' => e = .returned (.bool true) ∧ Below w.heap.size w w' := by
  have H := hid' h
  have HN := hid' hn
  have HKW := hid' hw
  have HKN := hid' hk
  have HBD := hid' hbd
  have HBR : Hid (BD18 l.reverse) := hid' (fun x hx => hbd x (List.mem_reverse.1 hx))
  have HRM : Hid (l.reverse.map (·.1) = (l.map (·.1)).reverse) := hid' (List.map_reverse)
  clear h hn hw hk hbd
  go_enter Tryz.func4, Tryz.ntmps4
  go_wp2
  go_loopw [6, 7] (fun s6 s7 wr => ∃ (i : Nat) (ro : Option Addr) (rc : Nat), s7 = .int .i64 (i : Int) ∧ s6 = .slice ro i rc ∧ i ≤ n ∧ Hid (wr.ownsRow w.heap.size 26 4 (.slice ro i rc) i (rC18 (l.reverse.take i))) ∧ Hid (Below w.heap.size w wr)) (fun _ s7 _ => n - (intOf s7).toNat)
  case atStart => exact ⟨0, none, 0, rfl, rfl, Nat.zero_le _, hid' (World.ownsRow_nil _ _ _ _), hid' (Below.refl _ _)⟩
  case round =>
    obtain ⟨i, ro, rc, rfl, rfl, hi, HO, HB⟩ := hrel
    by_cases hlt : i < n
    · have hlt2 : (i : Int) < (n : Int) := by omega
      obtain ⟨j, hj⟩ : ∃ j : Nat, (n : Int) - 1 - (i : Int) = (j : Int) := ⟨n - 1 - i, by omega⟩
      have hjn : j < n := by omega
      have hjI : (j : Int) < (n : Int) := by omega
      have hj0 : (0 : Int) ≤ (j : Int) := by omega
      have HJ : Hid (j = n - 1 - i) := hid' (by omega)
      obtain ⟨x, hx⟩ : ∃ x, l[j]? = some x := ⟨_, List.getElem?_eq_getElem (by rw [HN.out]; exact hjn)⟩
      obtain ⟨a, e1, l1, x0, x1, x2, x3⟩ := (H.out.keep HB.out).four j x hx
      subst e1
      have HTK : Hid (l.reverse.take (i + 1) = l.reverse.take i ++ [x]) := hid' (Rt.take_rev (by rw [HN.out, ← HJ.out]; exact hx) (by rw [HN.out]; exact hlt))
      obtain ⟨y0, hy0⟩ : ∃ z : ByteArray, (⟨x.1.m.toArray⟩ : ByteArray) = z := ⟨_, rfl⟩
      obtain ⟨y1, hy1⟩ : ∃ z : ByteArray, (⟨x.1.p.toArray⟩ : ByteArray) = z := ⟨_, rfl⟩
      have HRV : Hid ([Value.string y0, .string y1, .int .u8 x.1.h, .string x.2] = rC18 [x]) := hid' (by rw [← hy0, ← hy1]; rfl)
      rw [hy0] at x0
      rw [hy1] at x1
      have HA : Hid ((wr.alloc (.cells #[.string y0, .string y1, .int .u8 x.1.h, .string x.2] 26)).ownsRow w.heap.size 26 4 (.slice ro i rc) i (rC18 (l.reverse.take i))) := hid' (HO.out.alloc _)
      have HRL : Hid (RW18 (wr.alloc (.cells #[.string y0, .string y1, .int .u8 x.1.h, .string x.2] 26)) (.slice (some ⟨wr.heap.size, 0, none⟩) 1 1) [x]) := hid' (by
        have h1 := rw_lit18 wr [x] 1 rfl (by decide)
        rw [← HRV.out] at h1
        exact h1)
      have HBA := hid' (below_two HB.out (bl_alloc17 wr (.cells #[.string y0, .string y1, .int .u8 x.1.h, .string x.2] 26)))
      clear hx hy0 hy1 l1
      go_wp2_with (at_builtin; refine wpl_appR18 rfl _ _ rfl w.heap.size (.slice ro i rc) i (rC18 (l.reverse.take i)) rfl HA.out _ [x] rfl HRL.out (by simp; omega) HBA.out.size ?_; intro v3 w3 hown3 hgrow3 _; refine Hid.out ?_)
      refine hid' ?_
      rw [← rC18_app, ← HTK.out, show i + [x].length = i + 1 from rfl] at hown3
      obtain ⟨v3o, v3c, hv3⟩ := own_shape17 hown3
      subst hv3
      have HO3 := hid' hown3
      have HB3 : Hid (Below w.heap.size w w3) := hid' (below_gr18 HBA.out HBA.out.size HA.out hgrow3)
      clear hown3 hgrow3
      go_wp2
      go_roundw
      case rel => exact ⟨i + 1, v3o, v3c, by go_num, rfl, by omega, HO3, HB3⟩
      case measure => simp [intOf]; omega
    · obtain rfl : i = n := by omega
      have hlt2 : ¬ (i : Int) < (i : Int) := by omega
      have HTK : Hid (l.reverse.take i = l.reverse) := hid' (List.take_of_length_le (by rw [List.length_reverse, HN.out]; omega))
      rw [HTK.out] at HO
      have HT := hid' (RW18.of_own (l := l.reverse) (by rw [List.length_reverse, HN.out]; exact HO.out))
      clear hlt
      have HC1 := hid' (cnew18 ao i cap l HN.out (by omega) HBD.out wr (H.out.keep HB.out))
      obtain ⟨rs, hrs⟩ : ∃ rs, l.map (·.1) = rs := ⟨_, rfl⟩
      have HRL : Hid (rs.length = i) := hid' (by rw [← hrs, List.length_map]; exact HN.out)
      have HRP : Hid (∀ r ∈ rs, r.p.length ≤ 4194304) := hid' (fun r hr => by
        rw [← hrs, List.mem_map] at hr
        obtain ⟨x, hx, rfl⟩ := hr
        exact (HBD.out x hx).1)
      rw [hrs] at HC1 HRM
      clear hrs
      go_wp2_with fail
      refine HC1.out.mono ?_
      rintro e w1 ⟨hn1, hb1⟩
      have HB1 := hid' (below_two HB.out hb1)
      have HT1 := hid' (HT.out.keep hb1)
      have HC2 := hid' (cnew18 ro i rc l.reverse (by rw [List.length_reverse]; exact HN.out) (by omega) HBR.out w1 HT1.out)
      rw [HRM.out] at HC2
      rcases hn1 with ⟨h0, rfl⟩ | ⟨h0, b, rfl, hbl, hbs, hrt⟩
      · have HS1 : Hid ((Rt.check rs.reverse == 0) = false) := hid' (by
          rw [beq_eq_false_iff_ne] at h0 ⊢
          exact fun e => h0 ((Rt.check_turned rs).1 e))
        obtain ⟨c, hc⟩ : ∃ c, Rt.check rs = c := ⟨_, rfl⟩
        rw [hc] at h0 ⊢
        have h0n : (c != 0) = true := by unfold bne; rw [h0]; rfl
        clear hb1 hc
        go_wp2_with fail
        refine HC2.out.mono ?_
        rintro e w2 ⟨hn2, hb2⟩
        have HB2 := hid' (below_two HB1.out hb2)
        obtain ⟨d, rfl, hd⟩ : ∃ d, e = .returned (.tuple #[.pointer none, .int .i64 d]) ∧ (d == 0) = false := by
          rcases hn2 with ⟨h2, h⟩ | ⟨h2, _⟩
          · exact ⟨_, h, h2⟩
          · have h3 := HS1.out
            rw [h2] at h3; cases h3
        clear hn2 hb2
        go_wp2_with fail
        refine (awake18 _).mono ?_
        rintro e w3 ⟨rfl, hb3⟩
        have HB3 := hid' (below_two HB2.out hb3)
        clear hb3
        go_wp2
        go_ret
        exact ⟨rfl, HB3.out⟩
      · have HR1 := hid' hrt
        have HOK := hid' h0
        clear hrt hb1 hbl hbs
        go_wp2_with fail
        refine HC2.out.mono ?_
        rintro e w2 ⟨hn2, hb2⟩
        obtain ⟨b2, rfl, hrt2⟩ : ∃ b2, e = .returned (.tuple #[.pointer (some ⟨b2, 0, none⟩), .int .i64 0]) ∧ RT18 w2 w1.heap.size b2 rs.reverse := by
          rcases hn2 with ⟨h2, _⟩ | ⟨_, b2, h, _, _, hr⟩
          · rw [(Rt.check_turned rs).2 HOK.out] at h2; cases h2
          · exact ⟨b2, h, hr⟩
        have HB2 := hid' (below_two HB1.out hb2)
        have HRa := hid' (HR1.out.below hb2)
        have HRb := hid' hrt2
        have HPW : Hid (rs.Pairwise (fun q r => Rt.same q r = false)) := hid' ((Rt.check_ok.1 HOK.out).2.2)
        clear hn2 hb2 hrt2 h0
        go_wp2
        go_loopw [12] (fun s12 wr2 => ∃ k : Nat, s12 = .int .i64 (k : Int) ∧ k ≤ kn ∧ Hid (Below w2.heap.size w2 wr2)) (fun s12 _ => kn - (intOf s12).toNat)
        case atStart => exact ⟨0, rfl, Nat.zero_le _, hid' (Below.refl _ _)⟩
        case round =>
          obtain ⟨k, rfl, hkn, HBk⟩ := hrel
          by_cases hlk : k < kn
          · have hlk2 : (k : Int) < (kn : Int) := by omega
            obtain ⟨ask, hask⟩ : ∃ x, ks[k]? = some x := ⟨_, List.getElem?_eq_getElem (by rw [HKN.out]; exact hlk)⟩
            have HBw := hid' (below_two HB2.out HBk.out)
            obtain ⟨ka, e1, hka, x0, x1, hpz⟩ := (HKW.out.below HBw.out) k ask hask
            subst e1
            obtain ⟨s, hs⟩ : ∃ s, ask.m = s := ⟨_, rfl⟩
            obtain ⟨t, ht⟩ : ∃ t, ask.p = t := ⟨_, rfl⟩
            rw [hs] at x0
            rw [ht] at x1 hpz
            have HX0 := hid' x0
            have HX1 := hid' x1
            have HKA := hid' hka
            obtain ⟨q, hq⟩ : ∃ q, Rt.find rs s.data.toList t.data.toList = q := ⟨_, rfl⟩
            obtain ⟨q2, hq2⟩ : ∃ q2, Rt.find rs.reverse s.data.toList t.data.toList = q2 := ⟨_, rfl⟩
            have HFT := hid' (Rt.find_turned HPW.out s.data.toList t.data.toList)
            have HFA : Hid (∀ W, Below wr.heap.size wr W → Calls Tryz.prog 11 #[.pointer (some ⟨b, 0, none⟩), .string s, .string t] W fun e w' => mtR18 W q e w' ∧ Below W.heap.size W w') := hid' (fun W hW => by
              have := cfind18 _ b rs s _ rfl t _ rfl hpz W (HRa.out.below (below_two HBk.out hW))
              rw [hq] at this
              exact this)
            clear hask hs ht
            go_upto_region 16 with fail
            go_cut [13] from 62 to 104 (fun sd wx => ∃ ab pm po pc, sd = .pointer (some ⟨ab, 0, none⟩) ∧ Hid (MB18 wr ab q pm po pc wx))
            case first =>
              have sOf : ∀ W W1 : World, (Below wr.heap.size wr W ∧ W.cell? (ka.add (k * 2)) = some (.string s) ∧ W.cell? ⟨(ka.add (k * 2)).block, (ka.add (k * 2)).off + 1, none⟩ = some (.string t)) → Below W.heap.size W W1 → (Below wr.heap.size wr W1 ∧ W1.cell? (ka.add (k * 2)) = some (.string s) ∧ W1.cell? ⟨(ka.add (k * 2)).block, (ka.add (k * 2)).off + 1, none⟩ = some (.string t)) := fun W W1 h hb => ⟨below_two h.1 hb, (hb.cell (Nat.lt_of_lt_of_le hka h.1.size)).trans h.2.1, (hb.cell (p := ⟨(ka.add (k * 2)).block, (ka.add (k * 2)).off + 1, none⟩) (Nat.lt_of_lt_of_le hka h.1.size)).trans h.2.2⟩
              have hS : Below wr.heap.size wr wr ∧ wr.cell? (ka.add (k * 2)) = some (.string s) ∧ wr.cell? ⟨(ka.add (k * 2)).block, (ka.add (k * 2)).off + 1, none⟩ = some (.string t) := ⟨Below.refl _ _, x0, x1⟩
              refine wp_region_held_drew (S := fun W => Below wr.heap.size wr W ∧ W.cell? (ka.add (k * 2)) = some (.string s) ∧ W.cell? ⟨(ka.add (k * 2)).block, (ka.add (k * 2)).off + 1, none⟩ = some (.string t)) (by kernel_rfl) (sOf _ _ hS ((Below.refl _ _).drew)) (fun hHeld => ?_)
              refine take_d18 (i := 0) (d := some 68) (v := ?_) rfl rfl (by kernel_rfl) (by kernel_rfl) (by kernel_rfl) (fun _ _ _ h => h) (Or.inl ⟨by rfl, ?_⟩) (by assumption) ?_
              rotate_left
              · intro w hSw
                (try dsimp only at hSw)
                obtain ⟨_, s1, s2⟩ := hSw
                go_simp
                try with_reducible rfl
              try simp only [Act.put, List.setIfInBounds_toArray, List.set_cons_zero, List.set_cons_succ]
              refine take_d18 (i := 1) (d := some 69) (v := ?_) rfl rfl (by kernel_rfl) (by kernel_rfl) (by kernel_rfl) (fun _ _ _ h => h) (Or.inl ⟨by rfl, ?_⟩) (by assumption) ?_
              rotate_left
              · intro w hSw
                (try dsimp only at hSw)
                obtain ⟨_, s1, s2⟩ := hSw
                go_simp
                try with_reducible rfl
              try simp only [Act.put, List.setIfInBounds_toArray, List.set_cons_zero, List.set_cons_succ]
              refine take_d18 (i := 2) (d := some 70) (v := ?_) rfl rfl (by kernel_rfl) (by kernel_rfl) (by kernel_rfl) (fun _ _ _ h => h) (Or.inl ⟨by rfl, ?_⟩) (by assumption) ?_
              rotate_left
              · intro w hSw
                (try dsimp only at hSw)
                obtain ⟨_, s1, s2⟩ := hSw
                go_simp
                try with_reducible rfl
              try simp only [Act.put, List.setIfInBounds_toArray, List.set_cons_zero, List.set_cons_succ]
              refine take_d18 (i := 3) (d := some 71) (v := ?_) rfl rfl (by kernel_rfl) (by kernel_rfl) (by kernel_rfl) (fun _ _ _ h => h) (Or.inl ⟨by rfl, ?_⟩) (by assumption) ?_
              rotate_left
              · intro w hSw
                (try dsimp only at hSw)
                obtain ⟨_, s1, s2⟩ := hSw
                go_simp
                try with_reducible rfl
              try simp only [Act.put, List.setIfInBounds_toArray, List.set_cons_zero, List.set_cons_succ]
              refine take_d18 (i := 4) (d := some 72) (v := ?_) rfl rfl (by kernel_rfl) (by kernel_rfl) (by kernel_rfl) (fun _ _ _ h => h) (Or.inl ⟨by rfl, ?_⟩) (by assumption) ?_
              rotate_left
              · intro w hSw
                (try dsimp only at hSw)
                obtain ⟨_, s1, s2⟩ := hSw
                go_simp
                try with_reducible rfl
              try simp only [Act.put, List.setIfInBounds_toArray, List.set_cons_zero, List.set_cons_succ]
              refine take_d18 (i := 5) (d := some 73) (v := ?_) rfl rfl (by kernel_rfl) (by kernel_rfl) (by kernel_rfl) (fun _ _ _ h => h) (Or.inl ⟨by rfl, ?_⟩) (by assumption) ?_
              rotate_left
              · intro w hSw
                (try dsimp only at hSw)
                obtain ⟨_, s1, s2⟩ := hSw
                go_simp
                try with_reducible rfl
              try simp only [Act.put, List.setIfInBounds_toArray, List.set_cons_zero, List.set_cons_succ]
              refine take_d18 (i := 6) (d := some 74) (v := ?_) rfl rfl (by kernel_rfl) (by kernel_rfl) (by kernel_rfl) (fun _ _ _ h => h) (Or.inl ⟨by rfl, ?_⟩) (by assumption) ?_
              rotate_left
              · intro w hSw
                (try dsimp only at hSw)
                obtain ⟨_, s1, s2⟩ := hSw
                go_simp
                try with_reducible rfl
              try simp only [Act.put, List.setIfInBounds_toArray, List.set_cons_zero, List.set_cons_succ]
              refine take_d18 (i := 7) (d := some 75) (v := ?_) rfl rfl (by kernel_rfl) (by kernel_rfl) (by kernel_rfl) (fun _ _ _ h => h) (Or.inl ⟨by rfl, ?_⟩) (by assumption) ?_
              rotate_left
              · intro w hSw
                (try dsimp only at hSw)
                obtain ⟨_, s1, s2⟩ := hSw
                go_simp
                try with_reducible rfl
              try simp only [Act.put, List.setIfInBounds_toArray, List.set_cons_zero, List.set_cons_succ]
              refine take_d18 (i := 8) (d := some 76) (v := ?_) rfl rfl (by kernel_rfl) (by kernel_rfl) (by kernel_rfl) (fun _ _ _ h => h) (Or.inl ⟨by rfl, ?_⟩) (by assumption) ?_
              rotate_left
              · intro w hSw
                (try dsimp only at hSw)
                obtain ⟨_, s1, s2⟩ := hSw
                go_simp
                try with_reducible rfl
              try simp only [Act.put, List.setIfInBounds_toArray, List.set_cons_zero, List.set_cons_succ]
              refine take_d18 (i := 9) (d := some 77) (v := ?_) rfl rfl (by kernel_rfl) (by kernel_rfl) (by kernel_rfl) (fun _ _ _ h => h) (Or.inl ⟨by rfl, ?_⟩) (by assumption) ?_
              rotate_left
              · intro w hSw
                (try dsimp only at hSw)
                obtain ⟨_, s1, s2⟩ := hSw
                go_simp
                try with_reducible rfl
              try simp only [Act.put, List.setIfInBounds_toArray, List.set_cons_zero, List.set_cons_succ]
              refine take_d18 (i := 10) (d := some 78) (v := ?_) rfl rfl (by kernel_rfl) (by kernel_rfl) (by kernel_rfl) (fun _ _ _ h => h) (Or.inl ⟨by rfl, ?_⟩) (by assumption) ?_
              rotate_left
              · intro w hSw
                (try dsimp only at hSw)
                obtain ⟨_, s1, s2⟩ := hSw
                go_simp
                try with_reducible rfl
              try simp only [Act.put, List.setIfInBounds_toArray, List.set_cons_zero, List.set_cons_succ]
              refine wpAnyH_ready (rs := [11, 12]) (by kernel_rfl) (by simp) ?_
              refine AllReadyH.cons rfl (fun K hK => ?_) (AllReadyH.cons rfl (fun K hK => ?_) AllReadyH.nil)
              · go_simp
                refine (HFA.out _ hHeld.1).mono ?_
                rintro e wA ⟨⟨pm, po, pc, rfl, hpm, hpo⟩, hbA⟩
                go_wp2_with fail
                refine hK.out _ _ (sOf _ _ hHeld hbA) (fun hHeld2 => ?_)
                clear hK K
                try simp only [Act.put, List.setIfInBounds_toArray, List.set_cons_zero, List.set_cons_succ]
                refine wpAnyH_ready (rs := [12]) (by kernel_rfl) (by simp) ?_
                refine AllReadyH.cons rfl (fun K hK => ?_) AllReadyH.nil
                go_simp
                refine hK.out _ _ (sOf _ _ hHeld2 (bl_alloc17 wA _)) (fun hHeld3 => ?_)
                clear hK K
                try simp only [Act.put, List.setIfInBounds_toArray, List.set_cons_zero, List.set_cons_succ]
                refine wpAnyH_ready (rs := [13]) (by kernel_rfl) (by simp) ?_
                refine AllReadyH.cons rfl (fun K hK => ?_) AllReadyH.nil
                refine step_store18 rfl 35 _ _ rfl wA.heap.size #[.int .i64 q.st, .int .i64 q.ro, .slice po pm pc, .string ⟨q.al.toArray⟩] rfl rfl 35 _ (heap_alloc_last wA _) sizeMt18 rfl (by simp [Value.oneCell']) ?_
                intro wf haf huf
                have hmb := MB18.one hHeld.1 hbA hpm hpo haf huf
                refine hK.out _ _ (sOf _ _ hS hmb.bel) (fun _ => ?_)
                clear hK K haf huf hpo hbA
                try simp only [Act.put]
                refine wpAnyH_done (by kernel_rfl) ?_ _
                go_wp2_with fail
                go_meet
                exact ⟨_, _, _, _, rfl, hid' hmb⟩
              · go_simp
                refine hK.out _ _ (sOf _ _ hHeld (bl_alloc17 _ _)) (fun hHeld2 => ?_)
                clear hK K
                try simp only [Act.put, List.setIfInBounds_toArray, List.set_cons_zero, List.set_cons_succ]
                refine wpAnyH_ready (rs := [11]) (by kernel_rfl) (by simp) ?_
                refine AllReadyH.cons rfl (fun K hK => ?_) AllReadyH.nil
                go_simp
                refine (HFA.out _ hHeld2.1).mono ?_
                rintro e wA ⟨⟨pm, po, pc, rfl, hpm, hpo⟩, hbA⟩
                go_wp2_with fail
                refine hK.out _ _ (sOf _ _ hHeld2 hbA) (fun hHeld3 => ?_)
                clear hK K
                try simp only [Act.put, List.setIfInBounds_toArray, List.set_cons_zero, List.set_cons_succ]
                refine wpAnyH_ready (rs := [13]) (by kernel_rfl) (by simp) ?_
                refine AllReadyH.cons rfl (fun K hK => ?_) AllReadyH.nil
                refine step_store18 rfl 35 _ _ rfl wr.heap.size #[.int .i64 q.st, .int .i64 q.ro, .slice po pm pc, .string ⟨q.al.toArray⟩] rfl rfl 35 _ (Ar.keep (heap_alloc_last wr.drew (.cells #[.int .i64 0, .int .i64 0, .slice none 0 0, .string ⟨#[]⟩] 35)) hbA) sizeMt18 rfl (by simp [Value.oneCell']) ?_
                intro wf haf huf
                have hmb := MB18.two (w1 := wr.drew) hHeld.1 hbA hpm hpo haf huf
                refine hK.out _ _ (sOf _ _ hS hmb.bel) (fun _ => ?_)
                clear hK K haf huf hpo hbA
                try simp only [Act.put]
                refine wpAnyH_done (by kernel_rfl) ?_ _
                go_wp2_with fail
                go_meet
                exact ⟨_, _, _, _, rfl, hid' hmb⟩
            case rest =>
              obtain ⟨ab, pm, po, pc, rfl, HMA⟩ := hcut
              generalize wc = w5 at *
              have HBd := hid' (below_two HBk.out HMA.out.bel)
              have x0 := (HMA.out.bel.cell HKA.out).trans HX0.out
              have x1 := (HMA.out.bel.cell (p := ⟨(ka.add (k * 2)).block, (ka.add (k * 2)).off + 1, none⟩) HKA.out).trans HX1.out
              have hka : (ka.add (k * 2)).block < w5.heap.size := Nat.lt_of_lt_of_le HKA.out HMA.out.bel.size
              have HFB : Hid (∀ W, Below w5.heap.size w5 W → Calls Tryz.prog 11 #[.pointer (some ⟨b2, 0, none⟩), .string s, .string t] W fun e w' => mtR18 W q2 e w' ∧ Below W.heap.size W w') := hid' (fun W hW => by
                have := cfind18 _ b2 rs.reverse s _ rfl t _ rfl hpz W (HRb.out.below (below_two HBd.out hW))
                rw [hq2] at this
                exact this)
              go_upto_region 17 with fail
              go_cut [14] from 62 to 104 (fun sd wx => ∃ ab pm po pc, sd = .pointer (some ⟨ab, 0, none⟩) ∧ Hid (MB18 w5 ab q2 pm po pc wx))
              case first =>
                have sOf : ∀ W W1 : World, (Below w5.heap.size w5 W ∧ W.cell? (ka.add (k * 2)) = some (.string s) ∧ W.cell? ⟨(ka.add (k * 2)).block, (ka.add (k * 2)).off + 1, none⟩ = some (.string t)) → Below W.heap.size W W1 → (Below w5.heap.size w5 W1 ∧ W1.cell? (ka.add (k * 2)) = some (.string s) ∧ W1.cell? ⟨(ka.add (k * 2)).block, (ka.add (k * 2)).off + 1, none⟩ = some (.string t)) := fun W W1 h hb => ⟨below_two h.1 hb, (hb.cell (Nat.lt_of_lt_of_le hka h.1.size)).trans h.2.1, (hb.cell (p := ⟨(ka.add (k * 2)).block, (ka.add (k * 2)).off + 1, none⟩) (Nat.lt_of_lt_of_le hka h.1.size)).trans h.2.2⟩
                have hS : Below w5.heap.size w5 w5 ∧ w5.cell? (ka.add (k * 2)) = some (.string s) ∧ w5.cell? ⟨(ka.add (k * 2)).block, (ka.add (k * 2)).off + 1, none⟩ = some (.string t) := ⟨Below.refl _ _, x0, x1⟩
                refine wp_region_held_drew (S := fun W => Below w5.heap.size w5 W ∧ W.cell? (ka.add (k * 2)) = some (.string s) ∧ W.cell? ⟨(ka.add (k * 2)).block, (ka.add (k * 2)).off + 1, none⟩ = some (.string t)) (by kernel_rfl) (sOf _ _ hS ((Below.refl _ _).drew)) (fun hHeld => ?_)
                refine take_d18 (i := 0) (d := some 80) (v := ?_) rfl rfl (by kernel_rfl) (by kernel_rfl) (by kernel_rfl) (fun _ _ _ h => h) (Or.inl ⟨by rfl, ?_⟩) (by assumption) ?_
                rotate_left
                · intro w hSw
                  (try dsimp only at hSw)
                  obtain ⟨_, s1, s2⟩ := hSw
                  go_simp
                  try with_reducible rfl
                try simp only [Act.put, List.setIfInBounds_toArray, List.set_cons_zero, List.set_cons_succ]
                refine take_d18 (i := 1) (d := some 81) (v := ?_) rfl rfl (by kernel_rfl) (by kernel_rfl) (by kernel_rfl) (fun _ _ _ h => h) (Or.inl ⟨by rfl, ?_⟩) (by assumption) ?_
                rotate_left
                · intro w hSw
                  (try dsimp only at hSw)
                  obtain ⟨_, s1, s2⟩ := hSw
                  go_simp
                  try with_reducible rfl
                try simp only [Act.put, List.setIfInBounds_toArray, List.set_cons_zero, List.set_cons_succ]
                refine take_d18 (i := 2) (d := some 82) (v := ?_) rfl rfl (by kernel_rfl) (by kernel_rfl) (by kernel_rfl) (fun _ _ _ h => h) (Or.inl ⟨by rfl, ?_⟩) (by assumption) ?_
                rotate_left
                · intro w hSw
                  (try dsimp only at hSw)
                  obtain ⟨_, s1, s2⟩ := hSw
                  go_simp
                  try with_reducible rfl
                try simp only [Act.put, List.setIfInBounds_toArray, List.set_cons_zero, List.set_cons_succ]
                refine take_d18 (i := 3) (d := some 83) (v := ?_) rfl rfl (by kernel_rfl) (by kernel_rfl) (by kernel_rfl) (fun _ _ _ h => h) (Or.inl ⟨by rfl, ?_⟩) (by assumption) ?_
                rotate_left
                · intro w hSw
                  (try dsimp only at hSw)
                  obtain ⟨_, s1, s2⟩ := hSw
                  go_simp
                  try with_reducible rfl
                try simp only [Act.put, List.setIfInBounds_toArray, List.set_cons_zero, List.set_cons_succ]
                refine take_d18 (i := 4) (d := some 84) (v := ?_) rfl rfl (by kernel_rfl) (by kernel_rfl) (by kernel_rfl) (fun _ _ _ h => h) (Or.inl ⟨by rfl, ?_⟩) (by assumption) ?_
                rotate_left
                · intro w hSw
                  (try dsimp only at hSw)
                  obtain ⟨_, s1, s2⟩ := hSw
                  go_simp
                  try with_reducible rfl
                try simp only [Act.put, List.setIfInBounds_toArray, List.set_cons_zero, List.set_cons_succ]
                refine take_d18 (i := 5) (d := some 85) (v := ?_) rfl rfl (by kernel_rfl) (by kernel_rfl) (by kernel_rfl) (fun _ _ _ h => h) (Or.inl ⟨by rfl, ?_⟩) (by assumption) ?_
                rotate_left
                · intro w hSw
                  (try dsimp only at hSw)
                  obtain ⟨_, s1, s2⟩ := hSw
                  go_simp
                  try with_reducible rfl
                try simp only [Act.put, List.setIfInBounds_toArray, List.set_cons_zero, List.set_cons_succ]
                refine take_d18 (i := 6) (d := some 86) (v := ?_) rfl rfl (by kernel_rfl) (by kernel_rfl) (by kernel_rfl) (fun _ _ _ h => h) (Or.inl ⟨by rfl, ?_⟩) (by assumption) ?_
                rotate_left
                · intro w hSw
                  (try dsimp only at hSw)
                  obtain ⟨_, s1, s2⟩ := hSw
                  go_simp
                  try with_reducible rfl
                try simp only [Act.put, List.setIfInBounds_toArray, List.set_cons_zero, List.set_cons_succ]
                refine take_d18 (i := 7) (d := some 87) (v := ?_) rfl rfl (by kernel_rfl) (by kernel_rfl) (by kernel_rfl) (fun _ _ _ h => h) (Or.inl ⟨by rfl, ?_⟩) (by assumption) ?_
                rotate_left
                · intro w hSw
                  (try dsimp only at hSw)
                  obtain ⟨_, s1, s2⟩ := hSw
                  go_simp
                  try with_reducible rfl
                try simp only [Act.put, List.setIfInBounds_toArray, List.set_cons_zero, List.set_cons_succ]
                refine take_d18 (i := 8) (d := some 88) (v := ?_) rfl rfl (by kernel_rfl) (by kernel_rfl) (by kernel_rfl) (fun _ _ _ h => h) (Or.inl ⟨by rfl, ?_⟩) (by assumption) ?_
                rotate_left
                · intro w hSw
                  (try dsimp only at hSw)
                  obtain ⟨_, s1, s2⟩ := hSw
                  go_simp
                  try with_reducible rfl
                try simp only [Act.put, List.setIfInBounds_toArray, List.set_cons_zero, List.set_cons_succ]
                refine take_d18 (i := 9) (d := some 89) (v := ?_) rfl rfl (by kernel_rfl) (by kernel_rfl) (by kernel_rfl) (fun _ _ _ h => h) (Or.inl ⟨by rfl, ?_⟩) (by assumption) ?_
                rotate_left
                · intro w hSw
                  (try dsimp only at hSw)
                  obtain ⟨_, s1, s2⟩ := hSw
                  go_simp
                  try with_reducible rfl
                try simp only [Act.put, List.setIfInBounds_toArray, List.set_cons_zero, List.set_cons_succ]
                refine take_d18 (i := 10) (d := some 90) (v := ?_) rfl rfl (by kernel_rfl) (by kernel_rfl) (by kernel_rfl) (fun _ _ _ h => h) (Or.inl ⟨by rfl, ?_⟩) (by assumption) ?_
                rotate_left
                · intro w hSw
                  (try dsimp only at hSw)
                  obtain ⟨_, s1, s2⟩ := hSw
                  go_simp
                  try with_reducible rfl
                try simp only [Act.put, List.setIfInBounds_toArray, List.set_cons_zero, List.set_cons_succ]
                refine wpAnyH_ready (rs := [11, 12]) (by kernel_rfl) (by simp) ?_
                refine AllReadyH.cons rfl (fun K hK => ?_) (AllReadyH.cons rfl (fun K hK => ?_) AllReadyH.nil)
                · go_simp
                  refine (HFB.out _ hHeld.1).mono ?_
                  rintro e wA ⟨⟨pm, po, pc, rfl, hpm, hpo⟩, hbA⟩
                  go_wp2_with fail
                  refine hK.out _ _ (sOf _ _ hHeld hbA) (fun hHeld2 => ?_)
                  clear hK K
                  try simp only [Act.put, List.setIfInBounds_toArray, List.set_cons_zero, List.set_cons_succ]
                  refine wpAnyH_ready (rs := [12]) (by kernel_rfl) (by simp) ?_
                  refine AllReadyH.cons rfl (fun K hK => ?_) AllReadyH.nil
                  go_simp
                  refine hK.out _ _ (sOf _ _ hHeld2 (bl_alloc17 wA _)) (fun hHeld3 => ?_)
                  clear hK K
                  try simp only [Act.put, List.setIfInBounds_toArray, List.set_cons_zero, List.set_cons_succ]
                  refine wpAnyH_ready (rs := [13]) (by kernel_rfl) (by simp) ?_
                  refine AllReadyH.cons rfl (fun K hK => ?_) AllReadyH.nil
                  refine step_store18 rfl 35 _ _ rfl wA.heap.size #[.int .i64 q2.st, .int .i64 q2.ro, .slice po pm pc, .string ⟨q2.al.toArray⟩] rfl rfl 35 _ (heap_alloc_last wA _) sizeMt18 rfl (by simp [Value.oneCell']) ?_
                  intro wf haf huf
                  have hmb := MB18.one hHeld.1 hbA hpm hpo haf huf
                  refine hK.out _ _ (sOf _ _ hS hmb.bel) (fun _ => ?_)
                  clear hK K haf huf hpo hbA
                  try simp only [Act.put]
                  refine wpAnyH_done (by kernel_rfl) ?_ _
                  go_wp2_with fail
                  go_meet
                  exact ⟨_, _, _, _, rfl, hid' hmb⟩
                · go_simp
                  refine hK.out _ _ (sOf _ _ hHeld (bl_alloc17 _ _)) (fun hHeld2 => ?_)
                  clear hK K
                  try simp only [Act.put, List.setIfInBounds_toArray, List.set_cons_zero, List.set_cons_succ]
                  refine wpAnyH_ready (rs := [11]) (by kernel_rfl) (by simp) ?_
                  refine AllReadyH.cons rfl (fun K hK => ?_) AllReadyH.nil
                  go_simp
                  refine (HFB.out _ hHeld2.1).mono ?_
                  rintro e wA ⟨⟨pm, po, pc, rfl, hpm, hpo⟩, hbA⟩
                  go_wp2_with fail
                  refine hK.out _ _ (sOf _ _ hHeld2 hbA) (fun hHeld3 => ?_)
                  clear hK K
                  try simp only [Act.put, List.setIfInBounds_toArray, List.set_cons_zero, List.set_cons_succ]
                  refine wpAnyH_ready (rs := [13]) (by kernel_rfl) (by simp) ?_
                  refine AllReadyH.cons rfl (fun K hK => ?_) AllReadyH.nil
                  refine step_store18 rfl 35 _ _ rfl w5.heap.size #[.int .i64 q2.st, .int .i64 q2.ro, .slice po pm pc, .string ⟨q2.al.toArray⟩] rfl rfl 35 _ (Ar.keep (heap_alloc_last w5.drew (.cells #[.int .i64 0, .int .i64 0, .slice none 0 0, .string ⟨#[]⟩] 35)) hbA) sizeMt18 rfl (by simp [Value.oneCell']) ?_
                  intro wf haf huf
                  have hmb := MB18.two (w1 := w5.drew) hHeld.1 hbA hpm hpo haf huf
                  refine hK.out _ _ (sOf _ _ hS hmb.bel) (fun _ => ?_)
                  clear hK K haf huf hpo hbA
                  try simp only [Act.put]
                  refine wpAnyH_done (by kernel_rfl) ?_ _
                  go_wp2_with fail
                  go_meet
                  exact ⟨_, _, _, _, rfl, hid' hmb⟩
              case rest =>
                obtain ⟨ab2, pm2, po2, pc2, rfl, HMB⟩ := hcut
                generalize wc = w6 at *
                have HMA6 := hid' (HMA.out.keep HMB.out.bel)
                obtain ⟨f1, f2, f3, f4⟩ := HFT.out
                rw [hq, hq2] at f1 f2 f3 f4
                have HFR := hid' (Rt.find_ro rs.reverse s.data.toList t.data.toList)
                rw [hq2, List.length_reverse, HRL.out] at HFR
                have HPM : Hid (pm2 = pm) := hid' (by rw [← HMB.out.len, ← HMA.out.len, f2])
                have HM2 : Hid (Ar w6 ab2 35 #[.int .i64 q.st, .int .i64 q2.ro, .slice po2 pm pc2, .string ⟨q.al.toArray⟩]) := hid' (by have := HMB.out.at'; rw [f1, f3, HPM.out] at this; exact this)
                have HO2 : Hid (w6.ownsRow w5.heap.size 42 2 (.slice po2 pm pc2) pm (qC18 q.ps)) := hid' (by have := HMB.out.own; rw [f2, HPM.out] at this; exact this)
                have HB6 := hid' (below_two HBd.out HMB.out.bel)
                have HNE : Hid (ab ≠ ab2) := hid' (by have h1 := HMA.out.at'.lt; have h2 := HMB.out.ge; omega)
                have HGE : Hid (w2.heap.size ≤ ab2) := hid' (Nat.le_trans HBd.out.size HMB.out.ge)
                have hpmb : pm ≤ 4194305 := by
                  rw [← HMA.out.len, ← hq]
                  exact Rt.find_ps HRP.out _ _
                obtain ⟨st, hst⟩ : ∃ z, q.st = z := ⟨_, rfl⟩
                obtain ⟨al, hal⟩ : ∃ z : ByteArray, (⟨q.al.toArray⟩ : ByteArray) = z := ⟨_, rfl⟩
                have HLN := hid' HMA.out.len
                have HA0 := hid' HMA6.out.at'
                have HO0 := hid' HMA6.out.own
                rw [hst, hal] at HM2 HA0
                clear hq hq2 f1 f2 f3 x0 x1 hka HMA HMB HFB HFA HMA6 HFT HPM hst hal hpz
                rcases HFR.out with hneg | ⟨k2, hk2, hro⟩
                · have HRO : Hid (q.ro = -1) := hid' (by rw [f4, hneg]; rfl)
                  rw [hneg] at HM2
                  rw [HRO.out] at HA0
                  have a0 := HA0.out.cell 0 _ rfl
                  have a1 := HA0.out.cell 1 _ rfl
                  have a2 := HA0.out.cell 2 _ rfl
                  have a3 := HA0.out.cell 3 _ rfl
                  have c0 := HM2.out.cell 0 _ rfl
                  have c1 := HM2.out.cell 1 _ rfl
                  have c2 := HM2.out.cell 2 _ rfl
                  have c3 := HM2.out.cell 3 _ rfl
                  clear f4 hneg HFR
                  go_wp2_with fail
                  refine (rsame18 st (-1) al po po2 pm pc pc2 q.ps HLN.out hpmb w6 (PM18.own HO0.out) (PM18.own HO2.out)).mono ?_
                  rintro e w8 ⟨rfl, hb8⟩
                  have HB8 := hid' (below_two HB6.out hb8)
                  clear hb8
                  go_wp2
                  go_roundw
                  case rel => exact ⟨k + 1, by go_num, by omega, HB8⟩
                  case measure => simp [intOf]; omega
                · obtain ⟨j, hj⟩ : ∃ j : Nat, (i : Int) - 1 - (k2 : Int) = (j : Int) := ⟨i - 1 - k2, by omega⟩
                  have HRO : Hid (q.ro = (j : Int)) := hid' (by rw [f4, hro, if_pos (by omega), HRL.out]; exact hj)
                  rw [hro] at HM2
                  rw [HRO.out] at HA0
                  have c1 := HM2.out.cell 1 _ rfl
                  have z1 := HM2.out.free 1
                  have hk20 : (0 : Int) ≤ (k2 : Int) := by omega
                  have hi0 : (0 : Int) ≤ (i : Int) - 1 := by omega
                  obtain ⟨w7, hw7⟩ : ∃ w7, w6.setCell ⟨ab2, 1, none⟩ (.int .i64 (j : Int)) = w7 := ⟨_, rfl⟩
                  have hu : Upd ab2 w6 w7 := by rw [← hw7]; exact upd_setCell w6 ab2 1 _
                  have hm7 : Ar w7 ab2 35 #[.int .i64 st, .int .i64 (j : Int), .slice po2 pm pc2, .string al] := by rw [← hw7]; exact set1_18 HM2.out
                  have ha7 : Ar w7 ab 35 #[.int .i64 st, .int .i64 (j : Int), .slice po pm pc, .string al] := (hu.block ab HNE.out).trans HA0.out
                  have HP1 : Hid (PM18 w7 po q.ps) := hid' (PM18.own (own_same HO0.out (fun x hx => hu.block x (pm_ne18 HM2.out HO0.out x hx))))
                  have HP2 : Hid (PM18 w7 po2 q.ps) := hid' (PM18.own (own_same HO2.out (fun x hx => hu.block x (pm_ne18 HM2.out HO2.out x hx))))
                  have HB7 : Hid (Below w2.heap.size w2 w7) := hid' (HB6.out.trans (hu.below HGE.out))
                  have HW7 := hid' hw7
                  have HM7 := hid' hm7
                  have HA7 := hid' ha7
                  clear f4 hro HFR hu hm7 ha7 hw7
                  go_upto_region 20 with fail
                  rw [HW7.out]
                  have a0 := HA7.out.cell 0 _ rfl
                  have a1 := HA7.out.cell 1 _ rfl
                  have a2 := HA7.out.cell 2 _ rfl
                  have a3 := HA7.out.cell 3 _ rfl
                  have c0 := HM7.out.cell 0 _ rfl
                  have c4 := HM7.out.cell 1 _ rfl
                  have c2 := HM7.out.cell 2 _ rfl
                  have c3 := HM7.out.cell 3 _ rfl
                  clear c1 z1 HW7
                  go_wp2_with fail
                  refine (rsame18 st (j : Int) al po po2 pm pc pc2 q.ps HLN.out hpmb w7 HP1.out HP2.out).mono ?_
                  rintro e w8 ⟨rfl, hb8⟩
                  have HB8 := hid' (below_two HB7.out hb8)
                  clear hb8
                  go_wp2
                  go_roundw
                  case rel => exact ⟨k + 1, by go_num, by omega, HB8⟩
                  case measure => simp [intOf]; omega
          · have hlk2 : ¬ (k : Int) < (kn : Int) := by omega
            have HB9 := hid' (below_two HB2.out HBk.out)
            clear hlk
            go_wp2_with fail
            refine (awake18 _).mono ?_
            rintro e w3 ⟨rfl, hb3⟩
            have HB3 := hid' (below_two HB9.out hb3)
            clear hb3
            go_wp2
            go_ret
            exact ⟨rfl, HB3.out⟩

end Go.Proofs.YtfdjimjiikeciaaGreatDoor
