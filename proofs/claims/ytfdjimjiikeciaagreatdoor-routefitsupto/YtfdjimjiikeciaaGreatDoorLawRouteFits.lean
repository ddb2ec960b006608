/-
  RouteFits: its contract.
-/
import Derived.Test.YtfdjimjiikeciaaGreatDoorRtZb
import Derived.Test.YtfdjimjiikeciaaGreatDoorLawRouteOrder
namespace Go.Proofs.YtfdjimjiikeciaaGreatDoor
open Go.RowKit

namespace Rt
theorem caught_val : ∀ (a : List Prt) (l : List T8) (e : Bool), ∀ c ∈ caught a l e, c.2.length ≤ (l.map List.length).sum + l.length + 1 := by
  intro a
  induction a with
  | nil => intro l e c hc; simp [caught] at hc
  | cons p x ih =>
    intro l e c hc
    have ht : ∀ c ∈ caught x l.tail e, c.2.length ≤ (l.map List.length).sum + l.length + 1 := fun c hc => by
      have h1 := ih l.tail e c hc
      cases l with
      | nil => simpa using h1
      | cons d r => simp only [List.tail_cons, List.map_cons, List.sum_cons, List.length_cons] at *; omega
    rw [caught] at hc
    split at hc
    · rcases List.mem_cons.1 hc with rfl | hc
      · cases l with
        | nil => simp
        | cons d r => simp only [List.headD_cons, List.map_cons, List.sum_cons, List.length_cons]; omega
      · exact ht c hc
    · split at hc
      · rcases List.mem_cons.1 hc with rfl | hc
        · have h1 := Pt.join_len l
          simp only [List.length_append]
          split
          · simp only [List.length_cons, List.length_nil]; omega
          · simp only [List.length_nil]; omega
        · exact ht c hc
      · exact ht c hc
theorem prt_len (x : T8) : (prt x).1.t.length ≤ x.length := by
  unfold prt
  split
  · split
    · simp only [List.length_take, List.length_drop]; omega
    · simp only [List.length_take, List.length_drop]; omega
  · split
    · exact Nat.le_refl _
    · simp
theorem pat_txt {r : Ro} {p : Prt} (h : p ∈ pat r) : p.t.length ≤ r.p.length := by
  unfold pat pattern at h
  split at h
  · simp at h
  · split at h
    · cases hp : pats [] (Pt.cutS [] (r.p.drop 1)) with
      | none => rw [hp] at h; simp at h
      | some ps =>
        rw [hp] at h
        simp only [Option.getD_some] at h
        have h1 := (pats_out _ _ _ hp).1
        rw [h1, List.nil_append, List.mem_map] at h
        obtain ⟨x, hx, rfl⟩ := h
        have h2 := Pt.cutS_size (r.p.drop 1) x hx
        have h3 := prt_len x
        rw [List.length_drop] at h2
        omega
    · simp at h
theorem find_caught (rs : List Ro) (m p : T8) : ∃ P, (find rs m p).ps = [] ∨ (find rs m p).ps = caught P (Pt.parts p) (ends p) := by
  unfold find
  cases best rs (Pt.parts p) with
  | none => exact ⟨[], .inl rfl⟩
  | some q =>
    simp only []
    cases sel rs q m with
    | none => exact ⟨[], .inl rfl⟩
    | some k => exact ⟨_, .inr rfl⟩
def cnt (ps : List Prt) : Nat := (ps.filter (fun p => !(p.k == 0))).length
theorem names_len (ps : List Prt) : (names ps).length = cnt ps := by unfold names cnt; rw [List.length_map]
theorem names_app (a b : List Prt) : names (a ++ b) = names a ++ names b := by unfold names; rw [List.filter_append, List.map_append]
theorem cnt_take {ps : List Prt} {j : Nat} {p : Prt} (h : ps[j]? = some p) : cnt (ps.take (j + 1)) = cnt (ps.take j) + (if p.k == 0 then 0 else 1) := by
  unfold cnt
  rw [List.take_add_one, h, List.filter_append, List.length_append]
  cases hp : (p.k == 0) <;> simp [hp]
theorem names_at {ps : List Prt} {j : Nat} {p : Prt} (h : ps[j]? = some p) (hk : (p.k == 0) = false) : (names ps)[cnt (ps.take j)]? = some p.t := by
  obtain ⟨h1, h2⟩ := List.getElem?_eq_some_iff.1 h
  have e : ps = ps.take j ++ p :: ps.drop (j + 1) := by
    conv => lhs; rw [← List.take_append_drop j ps, List.drop_eq_getElem_cons h1, h2]
  have e2 : names ps = names (ps.take j) ++ (p.t :: names (ps.drop (j + 1))) := by
    conv => lhs; rw [e, names_app]
    congr 1
    unfold names
    rw [List.filter_cons, hk]
    rfl
  rw [e2, List.getElem?_append_right (by rw [names_len]; exact Nat.le_refl _), names_len]
  simp
theorem back_at {ps : List Prt} {j : Nat} {p : Prt} (h : ps[j]? = some p) (cs : List (T8 × T8)) : back (ps.drop j) cs = if p.k == 0 then Pt.parts p.t ++ back (ps.drop (j + 1)) cs else (match cs with | [] => [] | c :: cs' => Pt.parts c.2 ++ back (ps.drop (j + 1)) cs') := by
  obtain ⟨h1, h2⟩ := List.getElem?_eq_some_iff.1 h
  rw [List.drop_eq_getElem_cons h1, h2, back_cons]
  cases cs <;> rfl
end Rt
theorem sC18_one (l : List (List UInt8)) : ∀ u ∈ sC17 l, u.oneCell' = true := by
  intro u hu
  unfold sC17 at hu
  rw [List.mem_map] at hu
  obtain ⟨x, _, rfl⟩ := hu
  rfl
theorem wpl_appS18 {w : World} {ops : Array Oper} {rest : List Oper} {o : Oper} {a : Act} {Q : Exit → Act → World → Prop} (hgd : o.guard = none) (s x : Operand)
    (ho : o.op = .call { callee := .builtin .append, args := #[s, x], argTypes := #[47, 47] })
    (B : Nat) (v : Value) (n : Nat) (xs : List Value) (hs : a.eval s = v) (hown : w.ownsRow B 9 1 v n xs) (B2 : Nat) (y : Value) (m : Nat) (l : List (List UInt8)) (hx : a.eval x = y) (hy : w.ownsRow B2 9 1 y m (sC17 l))
    (h63 : n + m ≤ 8388612) (hB : B ≤ w.heap.size)
    (h : ∀ v' w', w'.ownsRow B 9 1 v' (n + m) (xs ++ sC17 l) → w.grownBy w' v.ownBlock → wpList Tryz.prog ops Q rest (a.put o.dst v') w') :
    wpList Tryz.prog ops Q (o :: rest) a w := by
  obtain ⟨i0, hi0, hz0, hz1, hz2⟩ := minfo17 infoS17
  have hl := hy.1
  rw [Nat.mul_one] at hl
  rcases hy.2 with ⟨rfl, rfl⟩ | ⟨g, cap, cur, rfl, h2⟩
  · have h0 : sC17 l = [] := List.eq_nil_of_length_eq_zero hl
    refine wpList_append_own_none hgd s x 47 ho B 9 i0 1 Tryz.underlying47 hi0 v n xs hs hown hx ?_
    refine h v w ?_ ⟨rfl, rfl, rfl, Nat.le_refl _, fun _ _ _ => rfl⟩
    rw [h0, List.append_nil]
    exact hown
  · refine wpList_append_own_at w hgd s x 47 ho B 9 i0 (.string ⟨#[]⟩) 1 16 Tryz.underlying47 hi0 hz0 hz1 hz2 rfl (by decide) v n xs hs hown ⟨g, 0, none⟩ m cap (sC17 l) hx (by rw [Nat.mul_one]; exact hl) (fun j u hj => hy.cells (g := g) rfl j u hj) (sC18_one l) (by unfold maxLen; omega) (by omega) hB ?_
    intro v' w' h1 h3 _ _
    exact h v' w' h1 h3

set_option maxHeartbeats 32000000 in
set_option maxRecDepth 20000 in
theorem routeFits_any (ao ko : Option Addr) (n cap kn kc : Nat) (l : List Fr18) (ks : List Ak18) (hn : l.length = n) (hk : ks.length = kn) (hnb : n ≤ 1048576) (hkb : kn ≤ 1048576) (hbd : BD18 l) (hkp : ∀ k ∈ ks, k.p.size ≤ 1048576) (w : World) (h : RW18 w (.slice ao n cap) l) (hw : KW18 w ko ks) :
    Calls Tryz.prog 5 #[.slice ao n cap, .slice ko kn kc] w fun e w' => e = .returned (.bool true) ∧ Below w.heap.size w w' := by
  have H := hid' h
  have HN := hid' hn
  have HKW := hid' hw
  have HKN := hid' hk
  have HBD := hid' hbd
  have HKP := hid' hkp
  clear h hn hw hk hbd hkp
  have HC := hid' (cnew18 ao n cap l HN.out (by omega) HBD.out w H.out)
  have HRR := hid' (H.out.rr HBD.out)
  obtain ⟨rs, hrs⟩ : ∃ rs, l.map (·.1) = rs := ⟨_, rfl⟩
  have HRL : Hid (rs.length = n) := hid' (by rw [← hrs, List.length_map]; exact HN.out)
  have HRP : Hid (∀ r ∈ rs, r.p.length ≤ 4194304) := hid' (fun r hr => by
    rw [← hrs, List.mem_map] at hr
    obtain ⟨x, hx, rfl⟩ := hr
    exact (HBD.out x hx).1)
  rw [hrs] at HC HRR
  clear hrs
  go_enter Tryz.func5, Tryz.ntmps5
  go_wp2_with fail
  refine HC.out.mono ?_
  rintro e w3 ⟨hn3, hb3⟩
  have HB3 := hid' hb3
  clear hb3
  rcases hn3 with ⟨h0, rfl⟩ | ⟨h0, b, rfl, hbl, hbs, hrt⟩
  · obtain ⟨c, hc⟩ : ∃ c, Rt.check rs = c := ⟨_, rfl⟩
    rw [hc] at h0 ⊢
    have h0n : (c != 0) = true := by unfold bne; rw [h0]; rfl
    clear hc
    go_wp2_with fail
    refine (awake18 _).mono ?_
    rintro e w9 ⟨rfl, hb9⟩
    have HB9 := hid' (below_two HB3.out hb9)
    clear hb9
    go_wp2
    go_ret
    exact ⟨rfl, HB9.out⟩
  · have HRT := hid' hrt
    clear h0 hrt hbl hbs HC
    go_wp2
    go_loopw [7] (fun s7 wr => ∃ k : Nat, s7 = .int .i64 (k : Int) ∧ k ≤ kn ∧ Hid (Below w3.heap.size w3 wr)) (fun s7 _ => kn - (intOf s7).toNat)
    case atStart => exact ⟨0, rfl, Nat.zero_le _, hid' (Below.refl _ _)⟩
    case round =>
      obtain ⟨k, rfl, hkn, HBk⟩ := hrel
      by_cases hlk : k < kn
      · have hlk2 : (k : Int) < (kn : Int) := by omega
        obtain ⟨ask, hask⟩ : ∃ x, ks[k]? = some x := ⟨_, List.getElem?_eq_getElem (by rw [HKN.out]; exact hlk)⟩
        generalize wr = wq at *
        have HBw := hid' (below_two HB3.out HBk.out)
        obtain ⟨ka, e1, hka, x0, x1, hpz⟩ := (HKW.out.below HBw.out) k ask hask
        subst e1
        have hpq := HKP.out ask (List.mem_of_getElem? hask)
        obtain ⟨s, hs⟩ : ∃ s, ask.m = s := ⟨_, rfl⟩
        obtain ⟨t, ht⟩ : ∃ t, ask.p = t := ⟨_, rfl⟩
        rw [hs] at x0
        rw [ht] at x1 hpz hpq
        have HX0 := hid' x0
        have HX1 := hid' x1
        have HKA := hid' hka
        obtain ⟨q, hq⟩ : ∃ q, Rt.find rs s.data.toList t.data.toList = q := ⟨_, rfl⟩
        have HFA : Hid (∀ W, Below wq.heap.size wq W → Calls Tryz.prog 11 #[.pointer (some ⟨b, 0, none⟩), .string s, .string t] W fun e w' => mtR18 W q e w' ∧ Below W.heap.size W w') := hid' (fun W hW => by
          have := cfind18 _ b rs s _ rfl t _ rfl hpz W (HRT.out.below (below_two HBk.out hW))
          rw [hq] at this
          exact this)
        have HFD := hid' hq
        clear hask hs ht hq
        go_upto_region 7 with fail
        go_cut [8] from 32 to 167 (fun sd wx => ∃ ab pm po pc, sd = .pointer (some ⟨ab, 0, none⟩) ∧ Hid (MB18 wq ab q pm po pc wx))
        case first =>
          have sOf : ∀ W W1 : World, (Below wq.heap.size wq W ∧ W.cell? (ka.add (k * 2)) = some (.string s) ∧ W.cell? ⟨(ka.add (k * 2)).block, (ka.add (k * 2)).off + 1, none⟩ = some (.string t)) → Below W.heap.size W W1 → (Below wq.heap.size wq W1 ∧ W1.cell? (ka.add (k * 2)) = some (.string s) ∧ W1.cell? ⟨(ka.add (k * 2)).block, (ka.add (k * 2)).off + 1, none⟩ = some (.string t)) := fun W W1 h hb => ⟨below_two h.1 hb, (hb.cell (Nat.lt_of_lt_of_le hka h.1.size)).trans h.2.1, (hb.cell (p := ⟨(ka.add (k * 2)).block, (ka.add (k * 2)).off + 1, none⟩) (Nat.lt_of_lt_of_le hka h.1.size)).trans h.2.2⟩
          have hS : Below wq.heap.size wq wq ∧ wq.cell? (ka.add (k * 2)) = some (.string s) ∧ wq.cell? ⟨(ka.add (k * 2)).block, (ka.add (k * 2)).off + 1, none⟩ = some (.string t) := ⟨Below.refl _ _, x0, x1⟩
          refine wp_region_held_drew (S := fun W => Below wq.heap.size wq W ∧ W.cell? (ka.add (k * 2)) = some (.string s) ∧ W.cell? ⟨(ka.add (k * 2)).block, (ka.add (k * 2)).off + 1, none⟩ = some (.string t)) (by kernel_rfl) (sOf _ _ hS ((Below.refl _ _).drew)) (fun hHeld => ?_)
          refine take_d18 (i := 0) (d := some 38) (v := ?_) rfl rfl (by kernel_rfl) (by kernel_rfl) (by kernel_rfl) (fun _ _ _ h => h) (Or.inl ⟨by rfl, ?_⟩) (by assumption) ?_
          rotate_left
          · intro w hSw
            (try dsimp only at hSw)
            obtain ⟨_, s1, s2⟩ := hSw
            go_simp
            try with_reducible rfl
          try simp only [Act.put, List.setIfInBounds_toArray, List.set_cons_zero, List.set_cons_succ]
          refine take_d18 (i := 1) (d := some 39) (v := ?_) rfl rfl (by kernel_rfl) (by kernel_rfl) (by kernel_rfl) (fun _ _ _ h => h) (Or.inl ⟨by rfl, ?_⟩) (by assumption) ?_
          rotate_left
          · intro w hSw
            (try dsimp only at hSw)
            obtain ⟨_, s1, s2⟩ := hSw
            go_simp
            try with_reducible rfl
          try simp only [Act.put, List.setIfInBounds_toArray, List.set_cons_zero, List.set_cons_succ]
          refine take_d18 (i := 2) (d := some 40) (v := ?_) rfl rfl (by kernel_rfl) (by kernel_rfl) (by kernel_rfl) (fun _ _ _ h => h) (Or.inl ⟨by rfl, ?_⟩) (by assumption) ?_
          rotate_left
          · intro w hSw
            (try dsimp only at hSw)
            obtain ⟨_, s1, s2⟩ := hSw
            go_simp
            try with_reducible rfl
          try simp only [Act.put, List.setIfInBounds_toArray, List.set_cons_zero, List.set_cons_succ]
          refine take_d18 (i := 3) (d := some 41) (v := ?_) rfl rfl (by kernel_rfl) (by kernel_rfl) (by kernel_rfl) (fun _ _ _ h => h) (Or.inl ⟨by rfl, ?_⟩) (by assumption) ?_
          rotate_left
          · intro w hSw
            (try dsimp only at hSw)
            obtain ⟨_, s1, s2⟩ := hSw
            go_simp
            try with_reducible rfl
          try simp only [Act.put, List.setIfInBounds_toArray, List.set_cons_zero, List.set_cons_succ]
          refine take_d18 (i := 4) (d := some 42) (v := ?_) rfl rfl (by kernel_rfl) (by kernel_rfl) (by kernel_rfl) (fun _ _ _ h => h) (Or.inl ⟨by rfl, ?_⟩) (by assumption) ?_
          rotate_left
          · intro w hSw
            (try dsimp only at hSw)
            obtain ⟨_, s1, s2⟩ := hSw
            go_simp
            try with_reducible rfl
          try simp only [Act.put, List.setIfInBounds_toArray, List.set_cons_zero, List.set_cons_succ]
          refine take_d18 (i := 5) (d := some 43) (v := ?_) rfl rfl (by kernel_rfl) (by kernel_rfl) (by kernel_rfl) (fun _ _ _ h => h) (Or.inl ⟨by rfl, ?_⟩) (by assumption) ?_
          rotate_left
          · intro w hSw
            (try dsimp only at hSw)
            obtain ⟨_, s1, s2⟩ := hSw
            go_simp
            try with_reducible rfl
          try simp only [Act.put, List.setIfInBounds_toArray, List.set_cons_zero, List.set_cons_succ]
          refine take_d18 (i := 6) (d := some 44) (v := ?_) rfl rfl (by kernel_rfl) (by kernel_rfl) (by kernel_rfl) (fun _ _ _ h => h) (Or.inl ⟨by rfl, ?_⟩) (by assumption) ?_
          rotate_left
          · intro w hSw
            (try dsimp only at hSw)
            obtain ⟨_, s1, s2⟩ := hSw
            go_simp
            try with_reducible rfl
          try simp only [Act.put, List.setIfInBounds_toArray, List.set_cons_zero, List.set_cons_succ]
          refine take_d18 (i := 7) (d := some 45) (v := ?_) rfl rfl (by kernel_rfl) (by kernel_rfl) (by kernel_rfl) (fun _ _ _ h => h) (Or.inl ⟨by rfl, ?_⟩) (by assumption) ?_
          rotate_left
          · intro w hSw
            (try dsimp only at hSw)
            obtain ⟨_, s1, s2⟩ := hSw
            go_simp
            try with_reducible rfl
          try simp only [Act.put, List.setIfInBounds_toArray, List.set_cons_zero, List.set_cons_succ]
          refine take_d18 (i := 8) (d := some 46) (v := ?_) rfl rfl (by kernel_rfl) (by kernel_rfl) (by kernel_rfl) (fun _ _ _ h => h) (Or.inl ⟨by rfl, ?_⟩) (by assumption) ?_
          rotate_left
          · intro w hSw
            (try dsimp only at hSw)
            obtain ⟨_, s1, s2⟩ := hSw
            go_simp
            try with_reducible rfl
          try simp only [Act.put, List.setIfInBounds_toArray, List.set_cons_zero, List.set_cons_succ]
          refine take_d18 (i := 9) (d := some 47) (v := ?_) rfl rfl (by kernel_rfl) (by kernel_rfl) (by kernel_rfl) (fun _ _ _ h => h) (Or.inl ⟨by rfl, ?_⟩) (by assumption) ?_
          rotate_left
          · intro w hSw
            (try dsimp only at hSw)
            obtain ⟨_, s1, s2⟩ := hSw
            go_simp
            try with_reducible rfl
          try simp only [Act.put, List.setIfInBounds_toArray, List.set_cons_zero, List.set_cons_succ]
          refine take_d18 (i := 10) (d := some 48) (v := ?_) rfl rfl (by kernel_rfl) (by kernel_rfl) (by kernel_rfl) (fun _ _ _ h => h) (Or.inl ⟨by rfl, ?_⟩) (by assumption) ?_
          rotate_left
          · intro w hSw
            (try dsimp only at hSw)
            obtain ⟨_, s1, s2⟩ := hSw
            go_simp
            try with_reducible rfl
          try simp only [Act.put, List.setIfInBounds_toArray, List.set_cons_zero, List.set_cons_succ]
          refine wpAnyH_ready (rs := [11, 12]) (by kernel_rfl) (by simp) ?_
          refine AllReadyH.cons rfl (fun K hK => ?_) (AllReadyH.cons rfl (fun K hK => ?_) AllReadyH.nil)
          · go_simp
            refine (HFA.out _ hHeld.1).mono ?_
            rintro e wA ⟨⟨pm, po, pc, rfl, hpm, hpo⟩, hbA⟩
            go_wp2_with fail
            refine hK.out _ _ (sOf _ _ hHeld hbA) (fun hHeld2 => ?_)
            clear hK K
            try simp only [Act.put, List.setIfInBounds_toArray, List.set_cons_zero, List.set_cons_succ]
            refine wpAnyH_ready (rs := [12]) (by kernel_rfl) (by simp) ?_
            refine AllReadyH.cons rfl (fun K hK => ?_) AllReadyH.nil
            go_simp
            refine hK.out _ _ (sOf _ _ hHeld2 (bl_alloc17 wA _)) (fun hHeld3 => ?_)
            clear hK K
            try simp only [Act.put, List.setIfInBounds_toArray, List.set_cons_zero, List.set_cons_succ]
            refine wpAnyH_ready (rs := [13]) (by kernel_rfl) (by simp) ?_
            refine AllReadyH.cons rfl (fun K hK => ?_) AllReadyH.nil
            refine step_store18 rfl 35 _ _ rfl wA.heap.size #[.int .i64 q.st, .int .i64 q.ro, .slice po pm pc, .string ⟨q.al.toArray⟩] rfl rfl 35 _ (heap_alloc_last wA _) sizeMt18 rfl (by simp [Value.oneCell']) ?_
            intro wf haf huf
            have hmb := MB18.one hHeld.1 hbA hpm hpo haf huf
            refine hK.out _ _ (sOf _ _ hS hmb.bel) (fun _ => ?_)
            clear hK K haf huf hpo hbA
            try simp only [Act.put]
            refine wpAnyH_done (by kernel_rfl) ?_ _
            go_wp2_with fail
            go_meet
            exact ⟨_, _, _, _, rfl, hid' hmb⟩
          · go_simp
            refine hK.out _ _ (sOf _ _ hHeld (bl_alloc17 _ _)) (fun hHeld2 => ?_)
            clear hK K
            try simp only [Act.put, List.setIfInBounds_toArray, List.set_cons_zero, List.set_cons_succ]
            refine wpAnyH_ready (rs := [11]) (by kernel_rfl) (by simp) ?_
            refine AllReadyH.cons rfl (fun K hK => ?_) AllReadyH.nil
            go_simp
            refine (HFA.out _ hHeld2.1).mono ?_
            rintro e wA ⟨⟨pm, po, pc, rfl, hpm, hpo⟩, hbA⟩
            go_wp2_with fail
            refine hK.out _ _ (sOf _ _ hHeld2 hbA) (fun hHeld3 => ?_)
            clear hK K
            try simp only [Act.put, List.setIfInBounds_toArray, List.set_cons_zero, List.set_cons_succ]
            refine wpAnyH_ready (rs := [13]) (by kernel_rfl) (by simp) ?_
            refine AllReadyH.cons rfl (fun K hK => ?_) AllReadyH.nil
            refine step_store18 rfl 35 _ _ rfl wq.heap.size #[.int .i64 q.st, .int .i64 q.ro, .slice po pm pc, .string ⟨q.al.toArray⟩] rfl rfl 35 _ (Ar.keep (heap_alloc_last wq.drew (.cells #[.int .i64 0, .int .i64 0, .slice none 0 0, .string ⟨#[]⟩] 35)) hbA) sizeMt18 rfl (by simp [Value.oneCell']) ?_
            intro wf haf huf
            have hmb := MB18.two (w1 := wq.drew) hHeld.1 hbA hpm hpo haf huf
            refine hK.out _ _ (sOf _ _ hS hmb.bel) (fun _ => ?_)
            clear hK K haf huf hpo hbA
            try simp only [Act.put]
            refine wpAnyH_done (by kernel_rfl) ?_ _
            go_wp2_with fail
            go_meet
            exact ⟨_, _, _, _, rfl, hid' hmb⟩
        case rest =>
          obtain ⟨ab, pm, po, pc, rfl, HMA⟩ := hcut
          generalize wc = wa at *
          have HBa := hid' (below_two HBk.out HMA.out.bel)
          have HAa := hid' HMA.out.at'
          have HPa := hid' HMA.out.own
          have HLN := hid' HMA.out.len
          have y0 := (HMA.out.bel.cell HKA.out).trans HX0.out
          have HKA2 : Hid ((ka.add (k * 2)).block < wa.heap.size) := hid' (Nat.lt_of_lt_of_le HKA.out HMA.out.bel.size)
          have HX1a := hid' ((HMA.out.bel.cell (p := ⟨(ka.add (k * 2)).block, (ka.add (k * 2)).off + 1, none⟩) HKA.out).trans HX1.out)
          have HFR := hid' (Rt.find_ro rs s.data.toList t.data.toList)
          rw [HFD.out, HRL.out] at HFR
          clear HMA HFA
          rcases HFR.out with hneg | ⟨kk, hkk, hro⟩
          · have HNN := hid' (Rt.find_none (rs := rs) (m := s.data.toList) (path := t.data.toList) (by rw [HFD.out, hneg]; omega))
            rw [HFD.out] at HNN
            have hpm0 : pm = 0 := by rw [← HLN.out, HNN.out.1]; rfl
            subst hpm0
            rw [hneg] at HAa
            obtain ⟨st, hst⟩ : ∃ z, q.st = z := ⟨_, rfl⟩
            rw [hst] at HAa
            have HSO : Hid ((st == 200) = true → (s.toList == [79, 80, 84, 73, 79, 78, 83]) = true) := hid' (fun h => by
              have h1 := HNN.out.2 (by rw [hst]; exact eq_of_beq h)
              rw [Lib.toList_data, h1]
              rfl)
            have a0 := HAa.out.cell 0 _ rfl
            have a1 := HAa.out.cell 1 _ rfl
            have a2 := HAa.out.cell 2 _ rfl
            clear hneg hst HFR HNN
            cases h2 : (st == 200)
            · have h3 : ¬ st = 200 := beq_eq_false_iff_ne.1 h2
              go_wp2
              exact ⟨⟨k + 1, by go_num, by omega, HBa⟩, by simp [intOf]; omega⟩
            · have hs2 := HSO.out h2
              go_wp2
              exact ⟨⟨k + 1, by go_num, by omega, HBa⟩, by simp [intOf]; omega⟩
          · have HFF := hid' (Rt.find_fits (rs := rs) (m := s.data.toList) (path := t.data.toList) (k := kk) (ps := q.ps) (al := q.al) (st := q.st) (by rw [HFD.out, ← hro]))
            obtain ⟨f1, f2, r, hr, hback, hnames⟩ := HFF.out
            have hal : (⟨q.al.toArray⟩ : ByteArray) = ⟨#[]⟩ := by rw [f2]
            rw [f1, hro, hal] at HAa
            obtain ⟨ra, e1, l1, _, r1, _, hrpl, _⟩ := (HRR.out.below (below_two HB3.out HBa.out)) kk r hr
            subst e1
            obtain ⟨y, hy⟩ : ∃ x : ByteArray, (⟨r.p.toArray⟩ : ByteArray) = x := ⟨_, rfl⟩
            have HRPT : Hid (∀ W, Calls Tryz.prog 14 #[.string y] W fun e w' => patR18 W (Rt.pattern r.p) e w' ∧ Below W.heap.size W w') := hid' (fun W => rpat18 y r.p (by rw [← hy]) W (by rw [← hy]; simpa [ByteArray.size] using hrpl))
            rw [hy] at r1
            have HRLN : Hid (r.p.length ≤ 4194304) := hid' hrpl
            have HPLB : Hid ((Rt.pat r).length ≤ 4194305) := hid' (by have := Rt.pat_len18 r; omega)
            have HVAL : Hid (∀ c ∈ q.ps, c.2.length ≤ 4194304) := hid' (fun c hc => by
              obtain ⟨P, hP⟩ := Rt.find_caught rs s.data.toList t.data.toList
              rw [HFD.out] at hP
              rcases hP with hP | hP
              · rw [hP] at hc; simp at hc
              · rw [hP] at hc
                have h1 := Rt.caught_val _ _ _ c hc
                have h2 := Rt.parts_sum t.data.toList
                rw [← Lib.size_eq] at h2
                omega)
            have HPTB : Hid ((Pt.parts t.data.toList).length ≤ 4194305) := hid' (by
              have h2 := Rt.parts_sum t.data.toList
              rw [← Lib.size_eq] at h2
              omega)
            have HJB : Hid (((Pt.parts t.data.toList).map List.length).sum + (Pt.parts t.data.toList).length ≤ 16777216) := hid' (by
              have h2 := Rt.parts_sum t.data.toList
              rw [← Lib.size_eq] at h2
              omega)
            have hkkI : (kk : Int) < (n : Int) := by omega
            have hkk0 : ¬ (kk : Int) < 0 := by omega
            have hkk1 : ¬ (n : Int) ≤ (kk : Int) := by omega
            have a0 := HAa.out.cell 0 _ rfl
            have a1 := HAa.out.cell 1 _ rfl
            have a3 := HAa.out.cell 3 _ rfl
            have HBKK := hid' hback
            have HNMS := hid' hnames
            clear hr l1 hrpl hy f1 f2 hal hro HFR HFF hback hnames y0
            go_wp2_with (go_at_call 14; refine (HRPT.out _).mono ?_; rintro e w4 ⟨hp4, hb4⟩; obtain ⟨m4, ro4, rc4, b4, rfl, hm4, hpr4, -⟩ := hp4.cap; refine Hid.out ?_)
            refine hid' ?_
            have HB4 := hid' (below_two HBa.out hb4)
            have HM4 := hid' hm4
            have HP4 := hid' hpr4
            have HA4 := hid' (HAa.out.keep hb4)
            have HPa4 := hid' (own_kp17 HPa.out hb4)
            have HX14 := hid' ((hb4.cell (p := ⟨(ka.add (k * 2)).block, (ka.add (k * 2)).off + 1, none⟩) HKA2.out).trans HX1a.out)
            have HKA4 : Hid ((ka.add (k * 2)).block < w4.heap.size) := hid' (Nat.lt_of_lt_of_le HKA2.out hb4.size)
            have hm4b : m4 ≤ 4194305 := by rw [← hm4]; exact HPLB.out
            clear hp4 hb4 hm4 hpr4 a0 a1 a3 r1 HAa HPa
            have HPX : Hid (∀ p ∈ Rt.pat r, p.t.length ≤ r.p.length) := hid' (fun p hp => Rt.pat_txt hp); generalize Rt.pat r = P at *
            have hpmB : pm ≤ 4194305 := by rw [← HLN.out, show q.ps.length = (q.ps.map (·.1)).length by rw [List.length_map], HNMS.out, Rt.names_len]; unfold Rt.cnt; exact Nat.le_trans (List.length_filter_le _ _) HPLB.out
            go_wp2
            go_loopw [11, 12, 13] (fun s11 s12 s13 wr => ∃ (j at' zn : Nat) (zo : Option Addr) (zc : Nat) (Z : List (List UInt8)), s13 = .int .i64 (j : Int) ∧ s12 = .int .i64 (at' : Int) ∧ s11 = .slice zo zn zc ∧ j ≤ m4 ∧ at' ≤ j ∧ Hid (Z.length = zn) ∧ Hid (Rt.cnt (P.take j) = at') ∧ Hid (Rt.back P q.ps = Z ++ Rt.back (P.drop j) (q.ps.drop at')) ∧ Hid (wr.ownsRow w4.heap.size 9 1 (.slice zo zn zc) zn (sC17 Z)) ∧ Hid (Below w4.heap.size w4 wr)) (fun _ _ s13 _ => m4 - (intOf s13).toNat)
            case atStart => exact ⟨0, 0, 0, none, 0, [], rfl, rfl, rfl, Nat.zero_le _, Nat.le_refl _, hid' rfl, hid' rfl, hid' (by simp), hid' (World.ownsRow_nil _ _ _ _), hid' (Below.refl _ _)⟩
            case round =>
              obtain ⟨j, at', zn, zo, zc, Z, rfl, rfl, rfl, hj, hat, HZL, HCT, HBK, HO, HB⟩ := hrel
              by_cases hjm : j < m4
              · have hjm2 : (j : Int) < (m4 : Int) := by omega
                obtain ⟨p, hp⟩ : ∃ p, P[j]? = some p := ⟨_, List.getElem?_eq_getElem (by rw [HM4.out]; exact hjm)⟩
                obtain ⟨g4, e1, l1, x0, x1⟩ := (HP4.out.below HB.out) j p hp
                subst e1
                have HPT0 := hid' (HPX.out p (List.mem_of_getElem? hp))
                have HBA := hid' (Rt.back_at hp (q.ps.drop at'))
                have HCA := hid' (Rt.cnt_take hp)
                have HNA := hid' (fun h => Rt.names_at hp h)
                obtain ⟨x, hx⟩ : ∃ x : ByteArray, (⟨p.t.toArray⟩ : ByteArray) = x := ⟨_, rfl⟩
                have HXD : Hid (x.data.toList = p.t) := hid' (by rw [← hx])
                have HXX := hid' hx
                rw [hx] at x1
                have e2 : ((p.k : Int) == 0) = (p.k == 0) := by rw [Bool.eq_iff_iff, beq_iff_eq, beq_iff_eq]; omega
                clear hp hx l1
                cases hk0 : (p.k == 0)
                · have hkp : (0 : Int) < (p.k : Int) := by have := beq_eq_false_iff_ne.1 hk0; omega
                  have HN1 := hid' (HNA.out hk0)
                  obtain ⟨c, hc⟩ : ∃ c, q.ps[at']? = some c := by
                    have h1 := HN1.out
                    rw [HCT.out, ← HNMS.out, List.getElem?_map] at h1
                    obtain ⟨c, hc, _⟩ := Option.map_eq_some_iff.1 h1
                    exact ⟨c, hc⟩
                  have hcn : c.1 = p.t := by
                    have h1 := HN1.out
                    rw [HCT.out, ← HNMS.out, List.getElem?_map, hc] at h1
                    simpa using h1
                  have hatp : at' < pm := by rw [← HLN.out]; exact (List.getElem?_eq_some_iff.1 hc).1
                  have hatI : ¬ (pm : Int) ≤ (at' : Int) := by omega
                  have hatL : (at' : Int) < (pm : Int) := by omega
                  obtain ⟨pg, hpo, hpl, v0, v1⟩ := pm_own18 (own_kp17 HPa4.out HB.out) at' c hc
                  rw [hcn, HXX.out] at v0
                  obtain ⟨ct, hct⟩ : ∃ ct, c.2 = ct := ⟨_, rfl⟩
                  rw [hct] at v1
                  obtain ⟨cy, hcy⟩ : ∃ x : ByteArray, (⟨ct.toArray⟩ : ByteArray) = x := ⟨_, rfl⟩
                  rw [hcy] at v1
                  have HPT := hid' (fun W => rparts17 cy ct (by rw [← hcy]) W (by
                    have := HVAL.out c (List.mem_of_getElem? hc)
                    rw [hct] at this
                    rw [← hcy]
                    simpa [ByteArray.size] using this))
                  have HDR : Hid (q.ps.drop at' = c :: q.ps.drop (at' + 1)) := hid' (by
                    obtain ⟨h1, h2⟩ := List.getElem?_eq_some_iff.1 hc
                    rw [List.drop_eq_getElem_cons h1, h2])
                  have HBK2 : Hid (Rt.back P q.ps = (Z ++ Pt.parts ct) ++ Rt.back (P.drop (j + 1)) (q.ps.drop (at' + 1))) := hid' (by
                    rw [HBK.out, HBA.out, HDR.out, hk0]
                    simp only [Bool.false_eq_true, if_false]
                    rw [hct, List.append_assoc])
                  have HBKN : Hid (Pt.parts t.data.toList = (Z ++ Pt.parts ct) ++ Rt.back (P.drop (j + 1)) (q.ps.drop (at' + 1))) := hid' (by rw [← HBK2.out]; exact HBKK.out.symm)
                  have HCT2 : Hid (Rt.cnt (P.take (j + 1)) = at' + 1) := hid' (by rw [HCA.out, HCT.out, hk0]; rfl)
                  have hxx : (x.toList != x.toList) = false := by simp
                  have HA5 := hid' (HA4.out.keep HB.out)
                  have a2 := HA5.out.cell 2 _ rfl
                  have HPO := hid' hpo
                  rw [hpo] at a2
                  clear hc hcn hct hcy hpo hpl hk0 e2
                  go_upto_region 21 with fail
                  go_quiet (fail)
                  have HO := hid' (own_kp17 HO.out (below_dN18 wr nq))
                  have HB := hid' (below_two HB.out (below_dN18 wr nq))
                  go_upto_region 25 with fail
                  generalize wr.drewN nq = wd at *
                  clear x0 x1 v0 v1 a2 HA5 hxx
                  go_wp2_with fail
                  refine (HPT.out _).mono ?_
                  rintro e w6 ⟨⟨m6, r6, c6, rfl, hm6, ho6⟩, hb6⟩
                  have HO6 := hid' ho6
                  have HOz := hid' (own_kp17 HO.out hb6)
                  have HB6 := hid' (below_two HB.out hb6)
                  have HM6 := hid' hm6
                  have HZB : Hid (zn + m6 ≤ 4194306) := hid' (by
                    have h1 := HBKN.out
                    have h2 := HPTB.out
                    rw [h1] at h2
                    simp only [List.length_append] at h2
                    rw [← HZL.out, ← hm6]
                    omega)
                  clear ho6 hm6 hb6
                  go_wp2_with (at_builtin; refine wpl_appS18 rfl _ _ rfl w4.heap.size (.slice zo zn zc) zn (sC17 Z) rfl HOz.out _ (.slice r6 m6 c6) m6 (Pt.parts ct) rfl HO6.out (by have := HZB.out; omega) HB6.out.size ?_; intro v7 w7 hown7 hgrow7; refine Hid.out ?_)
                  refine hid' ?_
                  rw [← sC17_app] at hown7
                  obtain ⟨v7o, v7c, hv7⟩ := own_shape17 hown7
                  subst hv7
                  have HO7 := hid' hown7
                  have HB7 : Hid (Below w4.heap.size w4 w7) := hid' (below_gr18 HB6.out HB6.out.size HOz.out hgrow7)
                  clear hown7 hgrow7
                  go_wp2
                  go_roundw
                  case rel => exact ⟨j + 1, at' + 1, zn + m6, v7o, v7c, Z ++ Pt.parts ct, by go_num, by first | rfl | go_num, rfl, by omega, by omega, hid' (by rw [List.length_append, HZL.out, HM6.out]), HCT2, HBK2, HO7, HB7⟩
                  case measure => simp [intOf]; omega
                · have hkp : ¬ (0 : Int) < (p.k : Int) := by have := eq_of_beq hk0; omega
                  obtain ⟨ct, hct⟩ : ∃ ct, p.t = ct := ⟨_, rfl⟩
                  have HPT := hid' (fun W => rparts17 x ct (by rw [← hct]; exact HXD.out) W (by
                    rw [Lib.size_eq, HXD.out]
                    exact Nat.le_trans HPT0.out HRLN.out))
                  have HBK2 : Hid (Rt.back P q.ps = (Z ++ Pt.parts ct) ++ Rt.back (P.drop (j + 1)) (q.ps.drop at')) := hid' (by
                    rw [HBK.out, HBA.out, hk0]
                    simp only [if_true]
                    rw [hct, List.append_assoc])
                  have HBKN : Hid (Pt.parts t.data.toList = (Z ++ Pt.parts ct) ++ Rt.back (P.drop (j + 1)) (q.ps.drop at')) := hid' (by rw [← HBK2.out]; exact HBKK.out.symm)
                  have HCT2 : Hid (Rt.cnt (P.take (j + 1)) = at') := hid' (by rw [HCA.out, HCT.out, hk0]; rfl)
                  clear hct hk0 e2
                  go_wp2_with fail
                  refine (HPT.out _).mono ?_
                  rintro e w6 ⟨⟨m6, r6, c6, rfl, hm6, ho6⟩, hb6⟩
                  have HO6 := hid' ho6
                  have HOz := hid' (own_kp17 HO.out hb6)
                  have HB6 := hid' (below_two HB.out hb6)
                  have HM6 := hid' hm6
                  have HZB : Hid (zn + m6 ≤ 4194306) := hid' (by
                    have h1 := HBKN.out
                    have h2 := HPTB.out
                    rw [h1] at h2
                    simp only [List.length_append] at h2
                    rw [← HZL.out, ← hm6]
                    omega)
                  clear ho6 hm6 hb6
                  go_wp2_with (at_builtin; refine wpl_appS18 rfl _ _ rfl w4.heap.size (.slice zo zn zc) zn (sC17 Z) rfl HOz.out _ (.slice r6 m6 c6) m6 (Pt.parts ct) rfl HO6.out (by have := HZB.out; omega) HB6.out.size ?_; intro v7 w7 hown7 hgrow7; refine Hid.out ?_)
                  refine hid' ?_
                  rw [← sC17_app] at hown7
                  obtain ⟨v7o, v7c, hv7⟩ := own_shape17 hown7
                  subst hv7
                  have HO7 := hid' hown7
                  have HB7 : Hid (Below w4.heap.size w4 w7) := hid' (below_gr18 HB6.out HB6.out.size HOz.out hgrow7)
                  clear hown7 hgrow7
                  go_wp2
                  go_roundw
                  case rel => exact ⟨j + 1, at', zn + m6, v7o, v7c, Z ++ Pt.parts ct, by go_num, by first | rfl | go_num, rfl, by omega, by omega, hid' (by rw [List.length_append, HZL.out, HM6.out]), HCT2, HBK2, HO7, HB7⟩
                  case measure => simp [intOf]; omega
              · have hjm2 : ¬ (j : Int) < (m4 : Int) := by omega
                have hjl : P.length ≤ j := by rw [HM4.out]; omega
                have HZE : Hid (Z = Pt.parts t.data.toList) := hid' (by
                  have h1 := HBK.out
                  rw [List.drop_eq_nil_of_le hjl] at h1
                  simp only [Rt.back, List.append_nil] at h1
                  rw [← h1]; exact HBKK.out)
                have hae : at' = pm := by
                  have h1 := HCT.out
                  rw [List.take_of_length_le hjl, ← Rt.names_len, ← HNMS.out, List.length_map, HLN.out] at h1
                  exact h1.symm
                subst hae
                rw [HZE.out] at HO HZL
                have HPT := hid' (fun W => rparts17 t t.data.toList rfl W hpz)
                have HA5 := hid' (HA4.out.keep HB.out)
                have hx1 := (HB.out.cell (p := ⟨(ka.add (k * 2)).block, (ka.add (k * 2)).off + 1, none⟩) HKA4.out).trans HX14.out
                clear hjm hjl
                go_wp2_with fail
                refine (HPT.out _).mono ?_
                rintro e w6 ⟨⟨m6, r6, c6, rfl, hm6, ho6⟩, hb6⟩
                obtain rfl : m6 = zn := hm6.symm.trans HZL.out
                have HS6 := hid' (SR17.own ho6)
                have HSz := hid' (SR17.own (own_kp17 HO.out hb6))
                have HB6 := hid' (below_two HB.out hb6)
                have HA6 := hid' (HA5.out.keep hb6)
                have a2 := HA6.out.cell 2 _ rfl
                have hnn : ((m6 : Int) != (m6 : Int)) = false := by simp
                have haa : ((at' : Int) != (at' : Int)) = false := by simp
                have hzb : m6 ≤ 4194305 := by rw [← HZL.out]; exact HPTB.out
                clear ho6 hb6 hm6 hx1
                go_wp2_with fail
                refine (rjoin17 zo m6 zc (Pt.parts t.data.toList) HZL.out w6 HSz.out hzb HJB.out).mono ?_
                rintro e w7 ⟨rfl, hw7⟩
                subst w7
                go_wp2_with fail
                refine (rjoin17 r6 m6 c6 (Pt.parts t.data.toList) HZL.out w6 HS6.out hzb HJB.out).mono ?_
                rintro e w7 ⟨rfl, hw7⟩
                subst w7
                obtain ⟨jn, hjn⟩ : ∃ x : ByteArray, (⟨(Pt.join (Pt.parts t.data.toList)).toArray⟩ : ByteArray) = x := ⟨_, rfl⟩
                rw [hjn]
                have hjj : (jn.toList != jn.toList) = false := by simp
                have HB8 := hid' (below_two HB4.out HB6.out)
                clear hjn
                go_wp2
                go_roundw
                case rel => exact ⟨k + 1, by go_num, by omega, HB8⟩
                case measure => simp [intOf]; omega
      · have hlk2 : ¬ (k : Int) < (kn : Int) := by omega
        have HBz := hid' (below_two HB3.out HBk.out)
        clear hlk
        go_wp2_with fail
        refine (awake18 _).mono ?_
        rintro e w9 ⟨rfl, hb9⟩
        have HB9 := hid' (below_two HBz.out hb9)
        clear hb9
        go_wp2
        go_ret
        exact ⟨rfl, HB9.out⟩

end Go.Proofs.YtfdjimjiikeciaaGreatDoor
