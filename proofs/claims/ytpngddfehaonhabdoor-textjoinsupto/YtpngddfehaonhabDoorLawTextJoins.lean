/-
  The law TextJoins, by its contract: it returns true for every list of texts that is not too great, and every number.
-/
import Derived.Test.YtpngddfehaonhabDoorAwake
import Derived.Test.YtpngddfehaonhabDoorOwn
import Derived.Test.YtpngddfehaonhabDoorPureJoin
import Derived.Lib.AppendStr
namespace Go.Proofs.YtpngddfehaonhabDoor
open Go.RowKit

theorem str_snoc' (q : List UInt8) (c : UInt8) : (⟨q.toArray⟩ : ByteArray) ++ ⟨#[c]⟩ = ⟨(q ++ [c]).toArray⟩ := by
  apply ByteArray.ext; simp
theorem apart_rows {w : World} {B e e' n n' : Nat} {v v' : Value} {xs xs' : List Value} (h : w.ownsRow B e 1 v n xs) (h' : w.ownsRow B e' 1 v' n' xs') (hne : e ≠ e') : v.ownBlock = none ∨ v.ownBlock ≠ v'.ownBlock := by
  rcases h.2 with ⟨rfl, _⟩ | ⟨g, cap, cur, rfl, _, hg, _⟩
  · exact .inl rfl
  · rcases h'.2 with ⟨rfl, _⟩ | ⟨g', cap', cur', rfl, _, hg', _⟩
    · exact .inr (by simp [Value.ownBlock])
    · refine .inr fun e0 => ?_
      simp only [Value.ownBlock, Option.some.injEq] at e0
      subst e0
      rw [hg] at hg'
      simp at hg'
      exact hne hg'.2
theorem own_form {w : World} {B e n : Nat} {v : Value} {xs : List Value} (h : w.ownsRow B e 1 v n xs) : ∃ a cap, v = .slice a n cap := by
  rcases h.2 with ⟨rfl, rfl⟩ | ⟨g, cap, cur, rfl, _⟩
  · exact ⟨_, _, rfl⟩
  · exact ⟨_, _, rfl⟩
theorem strs_below' {w w' : World} {v : Value} {l : List (List UInt8)} (h : Strs w v l) (hb : Below w.heap.size w w') : Strs w' v l := by
  obtain ⟨a, cap, rfl, hc⟩ := h
  refine ⟨a, cap, rfl, fun j hj => ?_⟩
  obtain ⟨b, o, e, h'⟩ := hc j hj
  exact ⟨b, o, e, (hb.cell (World.block_lt_of_cell? w _ h')).trans h'⟩
theorem str_cells (s : ByteArray) : Lib.strCells s = byteCells s.data.toList := rfl
theorem new_one' (w : World) (u : Value) (t : TypeId) : ∀ (j : Nat) (x : Value), [u][j]? = some x → (w.alloc (.cells #[u] t)).cell? ((⟨w.heap.size, 0, none⟩ : Addr).add j) = some x := by
  intro j x hj
  match j, hj with
  | 0, hj => simp at hj; subst hj; simp [Addr.add]
theorem one_str (s : ByteArray) : ∀ u ∈ [Value.string s], u.oneCell' = true := by
  intro u hu; simp at hu; subst hu; rfl
theorem strCells_snoc (l : List (List UInt8)) (c : List UInt8) : strCells (l ++ [c]) = strCells l ++ [.string ⟨c.toArray⟩] := by unfold strCells; rw [List.map_append]; rfl
theorem byteCells_append (a b : List UInt8) : byteCells (a ++ b) = byteCells a ++ byteCells b := by unfold byteCells; rw [List.map_append]

/-- The tokens among the first k texts. -/
def toks (ws : List (List UInt8)) (k : Nat) : List (List UInt8) := (ws.take k).filter fun x => Tx.isTok x
theorem toks_snoc (ws : List (List UInt8)) (k : Nat) (h : k < ws.length) : toks ws (k + 1) = if Tx.isTok ws[k] then toks ws k ++ [ws[k]] else toks ws k := by
  unfold toks
  rw [List.take_succ_eq_append_getElem h, List.filter_append, List.filter_cons, List.filter_nil]
  split <;> simp
theorem toks_le (ws : List (List UInt8)) (k : Nat) : (toks ws k).length ≤ ws.length :=
  Nat.le_trans (List.length_filter_le ..) (List.length_take_le' ..)
theorem filter_flat (p : List UInt8 → Bool) (ws : List (List UInt8)) : (ws.filter p).flatten.length ≤ ws.flatten.length := by
  induction ws with
  | nil => simp
  | cons x r ih =>
    rw [List.filter_cons]
    split
    · rw [List.flatten_cons, List.flatten_cons, List.length_append, List.length_append]; omega
    · rw [List.flatten_cons, List.length_append]; omega
theorem toks_flat (ws : List (List UInt8)) (k : Nat) : (toks ws k).flatten.length ≤ ws.flatten.length := by
  have h1 := filter_flat (fun x => Tx.isTok x) (ws.take k)
  have h2 : (ws.take k).flatten.length ≤ ws.flatten.length := by
    conv => rhs; rw [← List.take_append_drop k ws, List.flatten_append, List.length_append]
    omega
  exact Nat.le_trans h1 h2
theorem toks_all (ws : List (List UInt8)) (k : Nat) : ∀ x ∈ toks ws k, Tx.isTok x = true := fun _ hx => (List.mem_filter.1 hx).2
theorem flat_mem (ws : List (List UInt8)) (k : Nat) (h : k < ws.length) : ws[k].length ≤ ws.flatten.length := by
  have : ws.flatten = (ws.take k).flatten ++ ws[k] ++ (ws.drop (k + 1)).flatten := by
    conv => lhs; rw [← List.take_append_drop k ws, List.flatten_append, List.drop_eq_getElem_cons h, List.flatten_cons, ← List.append_assoc]
  rw [this, List.length_append, List.length_append]; omega

set_option maxRecDepth 20000 in
set_option maxHeartbeats 4000000 in
theorem textJoins_any (v : Value) (ws : List (List UInt8)) (z : Int) (w : World) (hv : Strs w v ws) (hn : ws.length ≤ 1048576) (hf : ws.flatten.length ≤ 1048576)
    (htab : Lib.TabIs Tryd.prog w "internal/strconv.uint64pow10" .u64 Lib.pow10Tab) :
    Calls Tryd.prog 3 #[v, .int .i64 z] w fun e w' => e = .returned (.bool true) ∧ Below w.heap.size w w' := by
  have HT := hid htab
  clear htab
  obtain ⟨i0, hi, hz0, hz1, hz2⟩ := info_parts Tryd.info5
  obtain ⟨i9, hi9, hy0, hy1, hy2⟩ := info_parts Tryd.info9
  obtain ⟨a, cap, rfl, hc⟩ := hv
  have HC := hid hc
  clear hc
  go_enter Tryd.func3, Tryd.ntmps3
  go_wp2
  go_loop [5, 6] (fun g i => ∃ (k : Nat) (gp : List UInt8), k ≤ 5 ∧ i = .int .i64 k ∧ g = .string ⟨gp.toArray⟩ ∧ gp = 44 :: List.replicate k 32) (fun _ i => 5 - (intOf i).toNat)
  case atStart => exact ⟨0, [44], Nat.zero_le _, rfl, rfl, rfl⟩
  case round =>
    obtain ⟨k, gp, hk, rfl, rfl, hgp⟩ := hrel
    have hgl : gp.length ≤ 6 := by rw [hgp]; simp; omega
    have HGP := hid hgp
    clear hgp
    by_cases hlt : (k : Int) < z ∧ k < 5
    · obtain ⟨hlt, hlt2⟩ := hlt
      go_wp2
      go_round
      case rel => exact ⟨k + 1, gp ++ [32], by omega, by go_num, congrArg Value.string (str_snoc' gp 32), by rw [HGP.out, List.replicate_succ']; rfl⟩
      case measure => simp [intOf]; omega
    · have HJ : Hid (∀ ts : List (List UInt8), (∀ x ∈ ts, Tx.isTok x = true) → Tx.list (Tx.joined gp ts) = ts) := hid (fun ts h => by rw [HGP.out]; exact Tx.list_joined k ts h)
      clear HGP
      have hk5 : (k : Int) < z → decide ((k : Int) < 5) = false := fun h => decide_eq_false (by omega)
      clear hlt
      by_cases hz : (k : Int) < z
      all_goals
        first | (have hk5' := hk5 hz) | skip
        clear hk5
        go_wp2
        go_loopw [7, 8, 9] (fun bv wv iv w' => ∃ k2 : Nat, k2 ≤ ws.length ∧ iv = .int .i64 k2 ∧ w'.ownsRow w.heap.size 5 1 bv (Tx.joined gp (toks ws k2)).length (byteCells (Tx.joined gp (toks ws k2))) ∧ w'.ownsRow w.heap.size 9 1 wv (toks ws k2).length (strCells (toks ws k2)) ∧ Below w.heap.size w w') (fun _ _ iv _ => ws.length - (intOf iv).toNat)
        case atStart => exact ⟨0, Nat.zero_le _, rfl, World.ownsRow_nil _ _ _ _, World.ownsRow_nil _ _ _ _, Below.refl _ _⟩
        case round =>
          obtain ⟨k2, hk2, rfl, hob, how, hbel⟩ := hrel
          have hsz := hbel.size
          have hjl : (Tx.joined gp (toks ws k2)).length ≤ 7340032 := by
            have h1 := Tx.joined_le gp (toks ws k2)
            have h2 := toks_flat ws k2
            have h3 := toks_le ws k2
            have h4 : (toks ws k2).length * gp.length ≤ (toks ws k2).length * 6 := Nat.mul_le_mul_left _ hgl
            omega
          have htl := toks_le ws k2
          by_cases hlt2 : k2 < ws.length
          · obtain ⟨b, o, rfl, hcell⟩ := HC.out k2 hlt2
            have HBLK : Hid (b < w.heap.size) := hid (World.block_lt_of_cell? w _ hcell)
            have hwc := hcell
            replace hcell := (hbel.cell (p := ⟨b, o + k2, none⟩) HBLK.out).trans hcell
            obtain ⟨x, hx⟩ : ∃ x, x = ws[k2] := ⟨_, rfl⟩
            have hxl : x.length ≤ 1048576 := by rw [hx]; have := flat_mem ws k2 hlt2; omega
            have HTK : Hid (toks ws (k2 + 1) = if Tx.isTok x then toks ws k2 ++ [x] else toks ws k2) := hid (by rw [hx]; exact toks_snoc ws k2 hlt2)
            rw [← hx] at hcell hwc
            clear hx
            obtain ⟨X, hX⟩ : ∃ X : ByteArray, X = ⟨x.toArray⟩ := ⟨_, rfl⟩
            rw [← hX] at hcell hwc
            have HWC := hid hwc
            clear hwc
            have hXd : X.data.toList = x := by rw [hX]
            have hXs : X.size = x.length := by rw [Lib.size_eq, hXd]
            obtain ⟨ts, hts⟩ : ∃ ts, ts = toks ws k2 := ⟨_, rfl⟩
            rw [← hts] at hob how hjl htl HTK
            clear hts
            have HBEL := hid hbel
            have HXD := hid hXd
            have HX := hid hX
            have hXl : X.size ≤ 1048576 := by omega
            obtain ⟨tk, htk⟩ : ∃ tk, tk = Tx.isTok x := ⟨_, rfl⟩
            have HTOK : Hid (∀ W, Calls Tryd.prog 5 #[.string X] W fun e w' => e = .returned (.bool tk) ∧ W = w') := hid (fun W => by
              have := token_any X W (by unfold maxLen; omega)
              rw [hXd, ← htk] at this
              exact this.mono fun e w' h => ⟨h.1, h.2.symm⟩)
            rw [← htk] at HTK
            clear htk hXd hX hXs hbel
            obtain ⟨aw, cw, rfl⟩ := own_form how
            cases tk
            · have HTK' : Hid (toks ws (k2 + 1) = ts) := hid HTK.out
              go_wp2_with (go_at_call 5; refine (HTOK.out _).mono ?_; rintro e w' ⟨rfl, rfl⟩)
              go_roundw
              case rel => exact ⟨k2 + 1, by omega, by go_num, by rw [HTK'.out]; exact hob, by rw [HTK'.out]; exact how, HBEL.out⟩
              case measure => simp [intOf]; omega
            · have HTK' : Hid (toks ws (k2 + 1) = ts ++ [x]) := hid HTK.out
              by_cases hpos : 0 < ts.length
              · have HJN : Hid (Tx.joined gp (ts ++ [x]) = Tx.joined gp ts ++ gp ++ x) := hid (Tx.joined_snoc gp x ts (fun e => by rw [e] at hpos; simp at hpos))
                have hgs : (⟨gp.toArray⟩ : ByteArray).size ≤ 6 := by rw [size_l']; exact hgl
                go_wp2_with (first | (go_at_call 5; refine (HTOK.out _).mono ?_; rintro e w' ⟨rfl, rfl⟩) | (at_builtin; refine Lib.wpList_append_own_string _ rfl (.tmp 36) (.tmp 37) 23 9 rfl w.heap.size 5 i0 Tryd.underlying23 Tryd.underlying9 hi hz0 hz1 hz2 _ _ _ rfl hob ⟨gp.toArray⟩ rfl (by unfold maxLen; omega) (by omega) (by omega) ?_; intro v1 w3 hob1 hg1 _; refine Hid.out ?_))
                refine hid ?_
                have how1 := how.kept hg1 (apart_rows how hob (by decide))
                have hb1 := HBEL.out.grown hg1 hsz (fun k hk => (hob.lt k hk).1)
                have hc1 := (hb1.cell (p := ⟨b, o + k2, none⟩) HBLK.out).trans HWC.out
                have hs1 := hb1.size
                have HB1 := hid hb1
                clear hg1 hcell how hob hb1
                go_wp2_with (at_builtin; refine Lib.wpList_append_own_string _ rfl (.tmp 39) (.tmp 43) 23 9 rfl w.heap.size 5 i0 Tryd.underlying23 Tryd.underlying9 hi hz0 hz1 hz2 _ _ _ rfl hob1 X rfl (by unfold maxLen; omega) (by omega) (by omega) ?_; intro v2 w4 hob2 hg2 _; refine Hid.out ?_)
                refine hid ?_
                have how2 := how1.kept hg2 (apart_rows how1 hob1 (by decide))
                have hb2 := HB1.out.grown hg2 hs1 (fun k hk => (hob1.lt k hk).1)
                have hc2 := (hb2.cell (p := ⟨b, o + k2, none⟩) HBLK.out).trans HWC.out
                have hs2 := hb2.size
                have HB2 := hid hb2
                clear hg2 hc1 how1 hob1 hb2 HB1
                go_wp2_with (at_builtin; refine wpList_append_own _ rfl (.tmp 45) (.tmp 50) 22 rfl w.heap.size 9 i9 (.string ByteArray.empty) 1 16 Tryd.underlying22 hi9 hy0 hy1 hy2 rfl (by decide) _ _ _ rfl (how2.alloc _) ⟨_, 0, none⟩ 1 1 [.string X] rfl rfl (new_one' _ _ _) (one_str _) (by unfold maxLen; omega) (by omega) (by simp; omega) ?_; intro v9 w9 how9 hg9 _; refine Hid.out ?_)
                refine hid ?_
                have HOB : Hid (w9.ownsRow w.heap.size 5 1 _ _ _) := hid ((hob2.alloc _).kept hg9 (apart_rows hob2 how2 (by decide)))
                have HBN := hid ((HB2.out.alloc hs2 _).grown hg9 (by simp; omega) (fun k hk => (how2.lt k hk).1))
                have HON := hid how9
                clear hg9 hc2 how2 hob2 HB2 how9
                go_wp2
                go_roundw
                case rel =>
                  refine ⟨k2 + 1, by omega, by go_num, ?_, ?_, HBN.out⟩
                  · rw [HTK'.out, HJN.out]
                    have := HOB.out
                    rw [str_cells, str_cells, HXD.out, size_l', Lib.size_eq, HXD.out, ← byteCells_append, ← byteCells_append] at this
                    rw [List.length_append, List.length_append]; exact this
                  · rw [HTK'.out, strCells_snoc, List.length_append, ← HX.out]; exact HON.out
                case measure => simp [intOf]; omega
              · have hnil : ts = [] := List.eq_nil_of_length_eq_zero (by omega)
                subst hnil
                go_wp2_with (first | (go_at_call 5; refine (HTOK.out _).mono ?_; rintro e w' ⟨rfl, rfl⟩) | (at_builtin; refine Lib.wpList_append_own_string _ rfl (.tmp 39) (.tmp 43) 23 9 rfl w.heap.size 5 i0 Tryd.underlying23 Tryd.underlying9 hi hz0 hz1 hz2 _ _ _ rfl hob X rfl (by unfold maxLen; omega) (by omega) (by omega) ?_; intro v1 w3 hob1 hg1 _; refine Hid.out ?_))
                refine hid ?_
                have how1 := how.kept hg1 (apart_rows how hob (by decide))
                have hb1 := HBEL.out.grown hg1 hsz (fun k hk => (hob.lt k hk).1)
                have hc1 := (hb1.cell (p := ⟨b, o + k2, none⟩) HBLK.out).trans HWC.out
                have hs1 := hb1.size
                have HB1 := hid hb1
                clear hg1 hcell how hob hb1
                go_wp2_with (at_builtin; refine wpList_append_own _ rfl (.tmp 45) (.tmp 50) 22 rfl w.heap.size 9 i9 (.string ByteArray.empty) 1 16 Tryd.underlying22 hi9 hy0 hy1 hy2 rfl (by decide) _ _ _ rfl (how1.alloc _) ⟨_, 0, none⟩ 1 1 [.string X] rfl rfl (new_one' _ _ _) (one_str _) (by unfold maxLen; omega) (by omega) (by simp; omega) ?_; intro v9 w9 how9 hg9 _; refine Hid.out ?_)
                refine hid ?_
                have HOB : Hid (w9.ownsRow w.heap.size 5 1 _ _ _) := hid ((hob1.alloc _).kept hg9 (apart_rows hob1 how1 (by decide)))
                have HBN := hid ((HB1.out.alloc hs1 _).grown hg9 (by simp; omega) (fun k hk => (how1.lt k hk).1))
                have HON := hid how9
                clear hg9 hc1 how1 hob1 HB1 how9
                go_wp2
                go_roundw
                case rel =>
                  refine ⟨k2 + 1, by omega, by go_num, ?_, ?_, HBN.out⟩
                  · rw [HTK'.out]
                    have := HOB.out
                    rw [str_cells, HXD.out, Lib.size_eq, HXD.out] at this
                    show World.ownsRow _ _ _ _ _ x.length (byteCells x)
                    simpa [Tx.joined, byteCells] using this
                  · rw [HTK'.out, strCells_snoc, List.length_append, ← HX.out]; exact HON.out
                case measure => simp [intOf]; omega
          · obtain ⟨ts, hts⟩ : ∃ ts, ts = toks ws k2 := ⟨_, rfl⟩
            have hall : ∀ x ∈ ts, Tx.isTok x = true := by rw [hts]; exact toks_all ws k2
            rw [← hts] at hob how hjl htl
            clear hts
            have HLJ := hid (HJ.out ts hall)
            obtain ⟨J, hJ⟩ : ∃ J, J = Tx.joined gp ts := ⟨_, rfl⟩
            rw [← hJ] at hob hjl HLJ
            have HOB := hid hob
            have HOW := hid how
            have HBEL := hid hbel
            clear hJ hall hob how hbel
            go_wp2_with fail
            refine (awake_any _ (tab_below HT.out HBEL.out)).mono ?_
            rintro e w5 ⟨rfl, hb5⟩
            have hconv := own_string (own_below HOB.out hb5)
            have HOW5 := hid (strs_own (own_below HOW.out hb5))
            have HB5 := hid (below_two HBEL.out hb5)
            clear hb5
            go_wp2_with fail
            refine (list_any ⟨J.toArray⟩ _ (by rw [size_l']; omega)).mono ?_
            rintro e w6 ⟨v6, rfl, how6, hb6⟩
            have HV6 : Hid (Strs w6 v6 ts) := hid (by have := strs_own how6; rw [show (⟨J.toArray⟩ : ByteArray).data.toList = J from rfl, HLJ.out] at this; exact this)
            have HV5 := hid (strs_below' HOW5.out hb6)
            have HB6 := hid (below_two HB5.out hb6)
            have htm : ts.length ≤ maxLen := by unfold maxLen; omega
            clear how6 hb6 hconv
            go_wp2_with fail
            refine (sameTexts_any v6 _ ts ts _ HV6.out HV5.out htm htm).mono ?_
            rintro e w7 ⟨rfl, n7, hw7⟩
            have HB7 : Hid (Below w.heap.size w w7) := hid (by rw [hw7]; exact below_two HB6.out (below_drewN _ _))
            clear hw7
            have heq : (ts == ts) = true := by simp
            go_wp2
            go_ret
            exact ⟨rfl, HB7.out⟩

end Go.Proofs.YtpngddfehaonhabDoor
