/-
  MsgClean: its contract.
-/
import Derived.Test.YtkfekopenahmdaaDoorMcU
namespace Go.Proofs.YtkfekopenahmdaaDoor
open Go.RowKit

namespace Ms
theorem keep_clean {l : List Fd} (hw : walk [] false l = 0) {f : Fd} (hf : f ∈ keep l) : psd f.n = false ∧ plain f = true ∧ (f.n.toList == [104, 111, 115, 116]) = false ∧ (f.n.toList == [116, 101]) = false := by
  obtain ⟨h1, h2⟩ := List.mem_filter.1 hf
  unfold keepB at h2
  simp only [Bool.and_eq_true, Bool.not_eq_true'] at h2
  exact ⟨h2.1.1, walk_plain l _ _ hw f h1 h2.1.1, h2.1.2, h2.2⟩
theorem keep_strip {l : List Fd} (hw : walk [] false l = 0) : strip (keep l) = keep l := by
  unfold strip
  rw [List.filter_eq_self]
  intro f hf
  have := (plain_parts (keep_clean hw hf).2.1).2.2.2
  rw [this]; rfl
end Ms

set_option maxHeartbeats 8000000 in
set_option maxRecDepth 20000 in
theorem msgClean_any (v : Value) (l : List Fd) (w : World) (h : FW w v l) (hT : TB w) (hl : l.length ≤ 4398046510976) (hs : ∀ f ∈ l, f.n.size ≤ 140737488355328 ∧ f.v.size ≤ 140737488355328) :
    Calls Tryd.prog 3 #[v] w fun e w' => e = .returned (.bool true) ∧ Below w.heap.size w w' := by
  have H := hid' h
  have HTB := hid' hT
  have HS : Hid (∀ f ∈ l, f.n.size ≤ 140737488355328 ∧ f.v.size ≤ 140737488355328) := hid' (fun f hf => ⟨by have := (hs f hf).1; omega, by have := (hs f hf).2; omega⟩)
  have HL := hid' hl
  obtain ⟨ao, cap, hv⟩ := h.shape
  subst hv
  clear h hT hs
  go_enter Tryd.func3, Tryd.ntmps3
  go_wp2_with fail
  refine (ctwo14 _ l w H.out HTB.out HL.out HS.out).mono ?_
  rintro e w1 ⟨⟨fv, he, hrow⟩, hb1⟩
  have hF1 : FW w1 fv (Ms.twoR l).fs := FW.of_own hrow
  obtain ⟨fo, fc, hfv⟩ := hF1.shape
  subst hfv
  obtain ⟨c, hc⟩ : ∃ c, Ms.twoE l = c := ⟨_, rfl⟩
  rw [hc] at he
  subst he
  have HB1 := hid' hb1
  have HF1 := hid' hF1
  have HC := hid' hc
  clear hrow hb1 hF1
  cases z1 : (c == 0)
  · have z2 : (c != 0) = true := by unfold bne; rw [z1]; rfl
    have z3 : ¬ c = 0 := by intro e; rw [e] at z1; simp at z1
    have hR : Ms.twoR l = Ms.rq0 := by unfold Ms.twoR; rw [hc, z1]; rfl
    rw [hR]
    unfold rqV rqC
    simp only [Ms.rq0, Ms.e0, List.length_nil]
    have hv4 := Ms.twoE_vals l
    rw [hc] at hv4
    have hb2 := bl_alloc w1 (.cells #[.string ⟨#[]⟩, .string ⟨#[]⟩, .string ⟨#[]⟩, .string ⟨#[]⟩, .slice fo 0 fc, .string ⟨#[]⟩, .slice none 0 0] 24)
    have hA2 := rq_cells w1 #[.string ⟨#[]⟩, .string ⟨#[]⟩, .string ⟨#[]⟩, .string ⟨#[]⟩, .slice fo 0 fc, .string ⟨#[]⟩, .slice none 0 0] 24
    have HB2 := hid' (below_two HB1.out hb2)
    have x0 := hA2.cell 0 _ rfl
    have x4 := hA2.cell 4 _ rfl
    clear hb2 hA2 hR hc
    have fin : ∀ cc : Int, c = cc → (cc = 140 ∨ cc = 141 ∨ cc = 142) → True := fun _ _ _ => trivial
    clear fin
    rcases hv4 with h0 | rfl | rfl | rfl
    · exact absurd h0 z3
    all_goals
      clear z1 z2 z3
      go_wp2_with fail
      refine (awake14 _ (HTB.out.keep HB2.out)).mono ?_
      rintro e w5 ⟨rfl, hb5⟩
      have HB5 := hid' (below_two HB2.out hb5)
      clear hb5
      go_wp2
      go_ret
      exact ⟨rfl, HB5.out⟩
  · obtain rfl : c = 0 := beq_iff_eq.1 z1
    have hw0 := Ms.twoE_walk hc
    have hR : Ms.twoR l = ⟨Ms.gd Ms.sMethod l, Ms.gd Ms.sScheme l, Ms.auth l, Ms.gd Ms.sPath l, Ms.keep l⟩ := by unfold Ms.twoR; rw [hc]; rfl
    have hgo : Ms.goes (Ms.gd Ms.sMethod l) (Ms.gd Ms.sPath l) = true := by have := Ms.twoE_lines hc; unfold Ms.lines at this; rw [Bool.and_eq_true] at this; exact this.2
    rw [hR] at HF1
    rw [hR]
    unfold rqV rqC
    simp only at HF1 ⊢
    obtain ⟨m, hm⟩ : ∃ m, Ms.gd Ms.sMethod l = m := ⟨_, rfl⟩
    obtain ⟨s, hs⟩ : ∃ s, Ms.gd Ms.sScheme l = s := ⟨_, rfl⟩
    obtain ⟨au, hau⟩ : ∃ au, Ms.auth l = au := ⟨_, rfl⟩
    obtain ⟨p, hp⟩ : ∃ p, Ms.gd Ms.sPath l = p := ⟨_, rfl⟩
    rw [hm, hp] at hgo
    rw [hm, hs, hau, hp]
    obtain ⟨K, hK⟩ : ∃ K, Ms.keep l = K := ⟨_, rfl⟩
    have HKC : Hid (∀ f ∈ K, Ms.psd f.n = false ∧ Ms.plain f = true ∧ (f.n.toList == [104, 111, 115, 116]) = false ∧ (f.n.toList == [116, 101]) = false) := hid' (fun f hf => Ms.keep_clean hw0 (hK ▸ hf))
    have HKS : Hid (Ms.strip K = K) := hid' (by rw [← hK]; exact Ms.keep_strip hw0)
    have HKZ : Hid (∀ f ∈ K, f.n.size ≤ 140737488355328 ∧ f.v.size ≤ 140737488355328) := hid' (fun f hf => HS.out f (List.mem_filter.1 (hK ▸ hf : f ∈ Ms.keep l)).1)
    have HKL : Hid (K.length ≤ 4398046510976) := hid' (by rw [← hK]; exact Nat.le_trans (List.length_filter_le _ _) HL.out)
    rw [hK] at HF1 ⊢
    obtain ⟨n, hn⟩ : ∃ n, K.length = n := ⟨_, rfl⟩
    have HN := hid' hn
    rw [hn] at HF1 ⊢
    have hn2 : n ≤ 4398046510976 := by rw [← hn]; exact HKL.out
    have hb2 := bl_alloc w1 (.cells #[.string m, .string s, .string au, .string p, .slice fo n fc, .string ⟨#[]⟩, .slice none 0 0] 24)
    have HA2 := hid' (rq_cells w1 #[.string m, .string s, .string au, .string p, .slice fo n fc, .string ⟨#[]⟩, .slice none 0 0] 24)
    have HB2 := hid' (below_two HB1.out hb2)
    have HF2 := hid' (HF1.out.keep hb2)
    clear hb2 hR hc hw0 hm hs hau hp hK hn z1
    go_upto_region 2 with fail
    obtain ⟨qb, hqb⟩ : ∃ qb, w1.heap.size = qb := ⟨_, rfl⟩
    rw [hqb] at HA2
    try rw [hqb]
    clear hqb
    generalize w1.alloc (.cells #[.string m, .string s, .string au, .string p, .slice fo n fc, .string ⟨#[]⟩, .slice none 0 0] 24) = w2 at *
    go_wp2
    go_loopw [5] (fun s5 wr => ∃ (k : Nat), s5 = .int .i64 (k : Int) ∧ k ≤ n ∧ Hid (Below w2.heap.size w2 wr)) (fun s5 _ => n - (intOf s5).toNat)
    case atStart => exact ⟨0, rfl, Nat.zero_le _, hid' (Below.refl _ _)⟩
    case round =>
      obtain ⟨k, rfl, hk, HB⟩ := hrel
      have x4 := (HA2.out.keep HB.out).cell 4 _ rfl
      by_cases hlt : k < n
      · have hlt2 : (k : Int) < (n : Int) := by omega
        obtain ⟨f, hf⟩ : ∃ f, K[k]? = some f := ⟨_, List.getElem?_eq_getElem (by rw [HN.out]; exact hlt)⟩
        obtain ⟨k1, k2, k3, k4⟩ := HKC.out f (List.mem_of_getElem? hf)
        obtain ⟨j1, j2, _, j4⟩ := Ms.plain_parts k2
        have HPS := hid' (HKZ.out f (List.mem_of_getElem? hf)).1
        obtain ⟨a, hao, y0, _⟩ := (HF2.out.keep HB.out).two k f hf
        subst hao
        have hpos : 0 < f.n.size := by
          rcases Nat.eq_zero_or_pos f.n.size with h | h
          · have h9 : f.n.data.toList = [] := List.eq_nil_of_length_eq_zero (by rw [← Lib.size_eq]; omega)
            unfold Tx.isTok Ms.tx at j1
            rw [h9] at j1
            simp at j1
          · exact h
        have i1 : (f.n.toList == []) = false := by
          apply beq_false_of_ne
          intro e
          rw [Lib.toList_data] at e
          have : f.n.data.toList.length = 0 := by rw [e]; rfl
          rw [← Lib.size_eq] at this
          omega
        have i2 : ((f.n[0].toNat : Int) == 58) = false := by rw [← psd_yes hpos]; exact k1
        obtain ⟨y, hy⟩ : ∃ y : ByteArray, (⟨(Tx.lower f.n.data.toList).toArray⟩ : ByteArray) = y := ⟨_, rfl⟩
        have i4 : y.toList = f.n.toList := by rw [← hy, ba_list, Ms.tl_tx]; exact j2
        have i3 : (y.toList != f.n.toList) = false := by unfold bne; rw [i4]; simp
        have HBd := hid' (cbnd14 f.n false j4 wr HPS.out)
        have hpos2 : (0 : Int) < (f.n.size : Int) := by omega
        clear hf k1 k2 j1 j2 j4
        go_wp2_with fail
        refine HBd.out.mono ?_
        rintro e w5 ⟨rfl, hb5⟩
        have HB5 := hid' (below_two HB.out hb5)
        clear hb5 y0 x4
        go_wp2_with fail
        refine (rLower_any f.n w5 (by have := HPS.out; unfold maxLen; omega)).mono ?_
        rw [hy]
        rintro e w6 ⟨rfl, hb6⟩
        have HB6 := hid' (below_two HB5.out hb6)
        clear hb6 hy
        go_wp2
        go_roundw
        case rel => exact ⟨k + 1, by go_num, by omega, HB6⟩
        case measure => simp [intOf]; omega
      · obtain rfl : k = n := by omega
        have hlt2 : ¬ (k : Int) < (k : Int) := by omega
        have HBr := hid' (HB2.out.trans (HB.out.mono HB2.out.size))
        have HFr := hid' (HF2.out.keep HB.out)
        have HAr := hid' (HA2.out.keep HB.out)
        have x0 := HAr.out.cell 0 _ rfl
        have x3 := HAr.out.cell 3 _ rfl
        have x5 := HAr.out.cell 5 _ rfl
        clear hlt
        have HST : Hid (∀ W, Below wr.heap.size wr W → Calls Tryd.prog 8 #[.slice fo k fc] W fun e w' => (∃ ro rc, e = .returned (.slice ro k rc)) ∧ Below W.heap.size W w') := hid' (fun W hW => (cstrip14 _ K W (HFr.out.keep hW) HKL.out (fun f hf => (HKZ.out f hf).1)).mono (fun e w' ⟨⟨m5, ro, rc, he, hm5, _⟩, hb⟩ => ⟨⟨ro, rc, by rw [he]; rw [HKS.out, HN.out] at hm5; rw [hm5]⟩, hb⟩))
        have HAW : Hid (∀ W, Below wr.heap.size wr W → Calls Tryd.prog 5 #[] W fun e w' => e = .returned (.bool true) ∧ Below W.heap.size W w') := hid' (fun W hW => awake14 W (HTB.out.keep (below_two HBr.out hW)))
        have kS : ∀ W W1 : World, (Below wr.heap.size wr W ∧ W.cell? ⟨qb, 3, none⟩ = some (.string p) ∧ W.cell? ⟨qb, 4, none⟩ = some (.slice fo k fc) ∧ W.cell? ⟨qb, 5, none⟩ = some (.string ⟨#[]⟩)) → Below W.heap.size W W1 → Below wr.heap.size wr W1 ∧ W1.cell? ⟨qb, 3, none⟩ = some (.string p) ∧ W1.cell? ⟨qb, 4, none⟩ = some (.slice fo k fc) ∧ W1.cell? ⟨qb, 5, none⟩ = some (.string ⟨#[]⟩) := fun W W1 ⟨h0, h3, h4, h5⟩ hb => ⟨below_two h0 hb, (hb.cell (cell_lt h3)).trans h3, (hb.cell (cell_lt h4)).trans h4, (hb.cell (cell_lt h5)).trans h5⟩
        have hS : Below wr.heap.size wr wr ∧ wr.cell? ⟨qb, 3, none⟩ = some (.string p) ∧ wr.cell? ⟨qb, 4, none⟩ = some (.slice fo k fc) ∧ wr.cell? ⟨qb, 5, none⟩ = some (.string ⟨#[]⟩) := ⟨Below.refl _ _, x3, x4, x5⟩
        have hS0 := kS _ _ hS ((Below.refl _ wr).drew)
        unfold Ms.goes at hgo
        rw [← Ms.tl_tx] at hgo
        cases s1 : (p.toList == [42])
        · rw [s1] at hgo
          simp only [Bool.false_eq_true, if_false, Bool.and_eq_true] at hgo
          have hpp : 0 < p.size := by
            rcases Nat.eq_zero_or_pos p.size with h | h
            · have h9 : p.data.toList = [] := List.eq_nil_of_length_eq_zero (by rw [← Lib.size_eq]; omega)
              have := hgo.1
              rw [Lib.toList_data, h9] at this
              simp at this
            · exact h
          have i1 : (p.toList == []) = false := by
            apply beq_false_of_ne
            intro e
            rw [Lib.toList_data] at e
            have : p.data.toList.length = 0 := by rw [e]; rfl
            rw [← Lib.size_eq] at this
            omega
          have i5 : (p.toList != []) = true := by unfold bne; rw [i1]; rfl
          have i6 : ¬ p.toList = [] := by intro e; rw [e] at i1; simp at i1
          have i7 : p.toList.isEmpty = false := by cases hq : p.toList with | nil => exact absurd hq i6 | cons a b => rfl
          have i2 : ((p[0].toNat : Int) == 47) = true := by have h1 := head_at hpp 47 (by decide); have h2 := hgo.1; rw [Ms.tl_tx] at h2; rw [show (some 47 : Option UInt8) = some (UInt8.ofNat 47) from rfl, h1] at h2; exact h2
          have hpp2 : (0 : Int) < (p.size : Int) := by omega
          clear hgo
          go_upto_region 11 with fail
          go_region_held3 (fun W => Below wr.heap.size wr W ∧ W.cell? ⟨qb, 3, none⟩ = some (.string p) ∧ W.cell? ⟨qb, 4, none⟩ = some (.slice fo k fc) ∧ W.cell? ⟨qb, 5, none⟩ = some (.string ⟨#[]⟩))
            (first | assumption | exact kS _ _ (by assumption) (by assumption))
            (first
            | (go_at_call 8; refine (HST.out _ (And.left (by assumption))).mono ?_; rintro e w3 ⟨⟨ro3, rc3, rfl⟩, hb3⟩)
            | (go_at_call 5; refine (HAW.out _ (And.left (by assumption))).mono ?_; rintro e w4 ⟨rfl, hb4⟩))
          go_wp2
          go_ret
          exact ⟨rfl, below_two HBr.out (And.left (by assumption))⟩
        · rw [s1] at hgo
          simp only [if_true] at hgo
          have s2 : (m.toList == [79, 80, 84, 73, 79, 78, 83]) = true := by rw [Ms.tl_tx]; exact hgo
          clear hgo
          have hbd : Below wr.heap.size wr wr.drew := (Below.refl _ wr).drew
          have kc : ∀ W, Below wr.heap.size wr W → W.cell? ⟨qb, 3, none⟩ = some (.string p) ∧ W.cell? ⟨qb, 4, none⟩ = some (.slice fo k fc) ∧ W.cell? ⟨qb, 5, none⟩ = some (.string ⟨#[]⟩) := fun W hb => ⟨(hb.cell (cell_lt x3)).trans x3, (hb.cell (cell_lt x4)).trans x4, (hb.cell (cell_lt x5)).trans x5⟩
          go_upto_region 11 with fail
          refine wp_region_held_drew (S := fun W => W.cell? ⟨qb, 3, none⟩ = some (.string p) ∧ W.cell? ⟨qb, 4, none⟩ = some (.slice fo k fc) ∧ W.cell? ⟨qb, 5, none⟩ = some (.string ⟨#[]⟩)) (by kernel_rfl) ⟨x3, x4, x5⟩ (fun hHeld => ?_)
          refine take_d14 (i := 0) (d := some 85) (v := ?_) rfl rfl (by kernel_rfl) (by kernel_rfl) (by kernel_rfl) (fun _ _ _ h => h) (Or.inl ⟨by rfl, ?_⟩) (by assumption) ?_
          rotate_left
          · intro w hSw
            (try dsimp only at hSw)
            obtain ⟨hs3, hs4, hs5⟩ := hSw
            go_simp
            try with_reducible rfl
          simp only [Act.put, List.setIfInBounds_toArray, List.set_cons_zero, List.set_cons_succ]
          refine take_d14 (i := 1) (d := some 86) (v := ?_) rfl rfl (by kernel_rfl) (by kernel_rfl) (by kernel_rfl) (fun _ _ _ h => h) (Or.inl ⟨by rfl, ?_⟩) (by assumption) ?_
          rotate_left
          · intro w hSw
            (try dsimp only at hSw)
            obtain ⟨hs3, hs4, hs5⟩ := hSw
            go_simp
            try with_reducible rfl
          simp only [Act.put, List.setIfInBounds_toArray, List.set_cons_zero, List.set_cons_succ]
          refine take_d14 (i := 2) (d := some 87) (v := undef) rfl rfl (by kernel_rfl) (by kernel_rfl) (by kernel_rfl) (fun _ _ _ h => h) (Or.inr ⟨by rfl, rfl⟩) (by assumption) ?_
          simp only [Act.put, List.setIfInBounds_toArray, List.set_cons_zero, List.set_cons_succ]
          refine take_d14 (i := 3) (d := some 88) (v := undef) rfl rfl (by kernel_rfl) (by kernel_rfl) (by kernel_rfl) (fun _ _ _ h => h) (Or.inr ⟨by rfl, rfl⟩) (by assumption) ?_
          simp only [Act.put, List.setIfInBounds_toArray, List.set_cons_zero, List.set_cons_succ]
          refine take_d14 (i := 4) (d := some 89) (v := undef) rfl rfl (by kernel_rfl) (by kernel_rfl) (by kernel_rfl) (fun _ _ _ h => h) (Or.inr ⟨by rfl, rfl⟩) (by assumption) ?_
          simp only [Act.put, List.setIfInBounds_toArray, List.set_cons_zero, List.set_cons_succ]
          refine take_d14 (i := 5) (d := some 90) (v := undef) rfl rfl (by kernel_rfl) (by kernel_rfl) (by kernel_rfl) (fun _ _ _ h => h) (Or.inr ⟨by rfl, rfl⟩) (by assumption) ?_
          simp only [Act.put, List.setIfInBounds_toArray, List.set_cons_zero, List.set_cons_succ]
          refine take_d14 (i := 6) (d := some 91) (v := undef) rfl rfl (by kernel_rfl) (by kernel_rfl) (by kernel_rfl) (fun _ _ _ h => h) (Or.inr ⟨by rfl, rfl⟩) (by assumption) ?_
          simp only [Act.put, List.setIfInBounds_toArray, List.set_cons_zero, List.set_cons_succ]
          refine take_d14 (i := 7) (d := some 92) (v := undef) rfl rfl (by kernel_rfl) (by kernel_rfl) (by kernel_rfl) (fun _ _ _ h => h) (Or.inr ⟨by rfl, rfl⟩) (by assumption) ?_
          simp only [Act.put, List.setIfInBounds_toArray, List.set_cons_zero, List.set_cons_succ]
          refine take_d14 (i := 8) (d := some 93) (v := undef) rfl rfl (by kernel_rfl) (by kernel_rfl) (by kernel_rfl) (fun _ _ _ h => h) (Or.inr ⟨by rfl, rfl⟩) (by assumption) ?_
          simp only [Act.put, List.setIfInBounds_toArray, List.set_cons_zero, List.set_cons_succ]
          refine take_d14 (i := 9) (d := some 94) (v := undef) rfl rfl (by kernel_rfl) (by kernel_rfl) (by kernel_rfl) (fun _ _ _ h => h) (Or.inr ⟨by rfl, rfl⟩) (by assumption) ?_
          simp only [Act.put, List.setIfInBounds_toArray, List.set_cons_zero, List.set_cons_succ]
          refine take_d14 (i := 10) (d := some 95) (v := undef) rfl rfl (by kernel_rfl) (by kernel_rfl) (by kernel_rfl) (fun _ _ _ h => h) (Or.inr ⟨by rfl, rfl⟩) (by assumption) ?_
          simp only [Act.put, List.setIfInBounds_toArray, List.set_cons_zero, List.set_cons_succ]
          refine take_d14 (i := 11) (d := some 96) (v := ?_) rfl rfl (by kernel_rfl) (by kernel_rfl) (by kernel_rfl) (fun _ _ _ h => h) (Or.inl ⟨by rfl, ?_⟩) (by assumption) ?_
          rotate_left
          · intro w hSw
            (try dsimp only at hSw)
            obtain ⟨hs3, hs4, hs5⟩ := hSw
            go_simp
            try with_reducible rfl
          simp only [Act.put, List.setIfInBounds_toArray, List.set_cons_zero, List.set_cons_succ]
          refine take_d14 (i := 12) (d := some 97) (v := ?_) rfl rfl (by kernel_rfl) (by kernel_rfl) (by kernel_rfl) (fun _ _ _ h => h) (Or.inl ⟨by rfl, ?_⟩) (by assumption) ?_
          rotate_left
          · intro w hSw
            (try dsimp only at hSw)
            obtain ⟨hs3, hs4, hs5⟩ := hSw
            go_simp
            try with_reducible rfl
          simp only [Act.put, List.setIfInBounds_toArray, List.set_cons_zero, List.set_cons_succ]
          refine take_d14 (i := 13) (d := some 98) (v := ?_) rfl rfl (by kernel_rfl) (by kernel_rfl) (by kernel_rfl) (fun _ _ _ h => h) (Or.inl ⟨by rfl, ?_⟩) (by assumption) ?_
          rotate_left
          · intro w hSw
            (try dsimp only at hSw)
            obtain ⟨hs3, hs4, hs5⟩ := hSw
            go_simp
            try with_reducible rfl
          simp only [Act.put, List.setIfInBounds_toArray, List.set_cons_zero, List.set_cons_succ]
          refine take_d14 (i := 14) (d := some 99) (v := ?_) rfl rfl (by kernel_rfl) (by kernel_rfl) (by kernel_rfl) (fun _ _ _ h => h) (Or.inl ⟨by rfl, ?_⟩) (by assumption) ?_
          rotate_left
          · intro w hSw
            (try dsimp only at hSw)
            obtain ⟨hs3, hs4, hs5⟩ := hSw
            go_simp
            try with_reducible rfl
          simp only [Act.put, List.setIfInBounds_toArray, List.set_cons_zero, List.set_cons_succ]
          refine take_d14 (i := 17) (d := some 102) (v := ?_) rfl rfl (by kernel_rfl) (by kernel_rfl) (by kernel_rfl) (fun _ _ _ h => h) (Or.inl ⟨by rfl, ?_⟩) (by assumption) ?_
          rotate_left
          · intro w hSw
            (try dsimp only at hSw)
            obtain ⟨hs3, hs4, hs5⟩ := hSw
            go_simp
            try with_reducible rfl
          simp only [Act.put, List.setIfInBounds_toArray, List.set_cons_zero, List.set_cons_succ]
          refine take_d14 (i := 18) (d := some 103) (v := ?_) rfl rfl (by kernel_rfl) (by kernel_rfl) (by kernel_rfl) (fun _ _ _ h => h) (Or.inl ⟨by rfl, ?_⟩) (by assumption) ?_
          rotate_left
          · intro w hSw
            (try dsimp only at hSw)
            obtain ⟨hs3, hs4, hs5⟩ := hSw
            go_simp
            try with_reducible rfl
          simp only [Act.put, List.setIfInBounds_toArray, List.set_cons_zero, List.set_cons_succ]
          refine take_d14 (i := 19) (d := some 104) (v := ?_) rfl rfl (by kernel_rfl) (by kernel_rfl) (by kernel_rfl) (fun _ _ _ h => h) (Or.inl ⟨by rfl, ?_⟩) (by assumption) ?_
          rotate_left
          · intro w hSw
            (try dsimp only at hSw)
            obtain ⟨hs3, hs4, hs5⟩ := hSw
            go_simp
            try with_reducible rfl
          simp only [Act.put, List.setIfInBounds_toArray, List.set_cons_zero, List.set_cons_succ]
          refine wpAnyH_ready (rs := [15]) (by kernel_rfl) (by simp) ?_
          refine AllReadyH.cons rfl (fun K hK => ?_) AllReadyH.nil
          go_simp
          refine (HST.out _ hbd).mono ?_
          rintro e w3 ⟨⟨ro3, rc3, rfl⟩, hb3⟩
          have hb3' := below_two hbd hb3
          go_wp2_with fail
          refine hK.out _ _ (kc _ hb3') (fun hHeld3 => ?_)
          clear hK K
          try simp only [Act.put, List.setIfInBounds_toArray, List.set_cons_zero, List.set_cons_succ]
          refine take_d14 (i := 16) (d := some 101) (v := ?_) rfl rfl (by kernel_rfl) (by kernel_rfl) (by kernel_rfl) (fun _ _ _ h => h) (Or.inl ⟨by rfl, ?_⟩) (by assumption) ?_
          rotate_left
          · intro w hSw
            (try dsimp only at hSw)
            obtain ⟨hs3, hs4, hs5⟩ := hSw
            go_simp
            try with_reducible rfl
          simp only [Act.put, List.setIfInBounds_toArray, List.set_cons_zero, List.set_cons_succ]
          refine take_d14 (i := 20) (d := some 105) (v := ?_) rfl rfl (by kernel_rfl) (by kernel_rfl) (by kernel_rfl) (fun _ _ _ h => h) (Or.inl ⟨by rfl, ?_⟩) (by assumption) ?_
          rotate_left
          · intro w hSw
            (try dsimp only at hSw)
            obtain ⟨hs3, hs4, hs5⟩ := hSw
            go_simp
            try with_reducible rfl
          simp only [Act.put, List.setIfInBounds_toArray, List.set_cons_zero, List.set_cons_succ]
          refine take_d14 (i := 21) (d := some 106) (v := ?_) rfl rfl (by kernel_rfl) (by kernel_rfl) (by kernel_rfl) (fun _ _ _ h => h) (Or.inl ⟨by rfl, ?_⟩) (by assumption) ?_
          rotate_left
          · intro w hSw
            (try dsimp only at hSw)
            obtain ⟨hs3, hs4, hs5⟩ := hSw
            go_simp
            try with_reducible rfl
          simp only [Act.put, List.setIfInBounds_toArray, List.set_cons_zero, List.set_cons_succ]
          refine take_d14 (i := 22) (d := some 107) (v := ?_) rfl rfl (by kernel_rfl) (by kernel_rfl) (by kernel_rfl) (fun _ _ _ h => h) (Or.inl ⟨by rfl, ?_⟩) (by assumption) ?_
          rotate_left
          · intro w hSw
            (try dsimp only at hSw)
            obtain ⟨hs3, hs4, hs5⟩ := hSw
            go_simp
            try with_reducible rfl
          simp only [Act.put, List.setIfInBounds_toArray, List.set_cons_zero, List.set_cons_succ]
          refine take_d14 (i := 23) (d := some 108) (v := ?_) rfl rfl (by kernel_rfl) (by kernel_rfl) (by kernel_rfl) (fun _ _ _ h => h) (Or.inl ⟨by rfl, ?_⟩) (by assumption) ?_
          rotate_left
          · intro w hSw
            (try dsimp only at hSw)
            obtain ⟨hs3, hs4, hs5⟩ := hSw
            go_simp
            try with_reducible rfl
          simp only [Act.put, List.setIfInBounds_toArray, List.set_cons_zero, List.set_cons_succ]
          refine take_d14 (i := 24) (d := some 109) (v := ?_) rfl rfl (by kernel_rfl) (by kernel_rfl) (by kernel_rfl) (fun _ _ _ h => h) (Or.inl ⟨by rfl, ?_⟩) (by assumption) ?_
          rotate_left
          · intro w hSw
            (try dsimp only at hSw)
            obtain ⟨hs3, hs4, hs5⟩ := hSw
            go_simp
            try with_reducible rfl
          simp only [Act.put, List.setIfInBounds_toArray, List.set_cons_zero, List.set_cons_succ]
          refine take_d14 (i := 25) (d := some 110) (v := ?_) rfl rfl (by kernel_rfl) (by kernel_rfl) (by kernel_rfl) (fun _ _ _ h => h) (Or.inl ⟨by rfl, ?_⟩) (by assumption) ?_
          rotate_left
          · intro w hSw
            (try dsimp only at hSw)
            obtain ⟨hs3, hs4, hs5⟩ := hSw
            go_simp
            try with_reducible rfl
          simp only [Act.put, List.setIfInBounds_toArray, List.set_cons_zero, List.set_cons_succ]
          refine take_d14 (i := 26) (d := some 111) (v := ?_) rfl rfl (by kernel_rfl) (by kernel_rfl) (by kernel_rfl) (fun _ _ _ h => h) (Or.inl ⟨by rfl, ?_⟩) (by assumption) ?_
          rotate_left
          · intro w hSw
            (try dsimp only at hSw)
            obtain ⟨hs3, hs4, hs5⟩ := hSw
            go_simp
            try with_reducible rfl
          simp only [Act.put, List.setIfInBounds_toArray, List.set_cons_zero, List.set_cons_succ]
          refine take_d14 (i := 27) (d := some 112) (v := ?_) rfl rfl (by kernel_rfl) (by kernel_rfl) (by kernel_rfl) (fun _ _ _ h => h) (Or.inl ⟨by rfl, ?_⟩) (by assumption) ?_
          rotate_left
          · intro w hSw
            (try dsimp only at hSw)
            obtain ⟨hs3, hs4, hs5⟩ := hSw
            go_simp
            try with_reducible rfl
          simp only [Act.put, List.setIfInBounds_toArray, List.set_cons_zero, List.set_cons_succ]
          refine wpAnyH_ready (rs := [28]) (by kernel_rfl) (by simp) ?_
          refine AllReadyH.cons rfl (fun K hK => ?_) AllReadyH.nil
          go_simp
          refine (HAW.out _ hb3').mono ?_
          rintro e w4 ⟨rfl, hb4⟩
          have hb4' := below_two hb3' hb4
          go_wp2_with fail
          refine hK.out _ _ (kc _ hb4') (fun hHeld4 => ?_)
          clear hK K
          try simp only [Act.put, List.setIfInBounds_toArray, List.set_cons_zero, List.set_cons_succ]
          refine take_d14 (i := 29) (d := some 114) (v := ?_) rfl rfl (by kernel_rfl) (by kernel_rfl) (by kernel_rfl) (fun _ _ _ h => h) (Or.inl ⟨by rfl, ?_⟩) (by assumption) ?_
          rotate_left
          · intro w hSw
            (try dsimp only at hSw)
            obtain ⟨hs3, hs4, hs5⟩ := hSw
            go_simp
            try with_reducible rfl
          simp only [Act.put, List.setIfInBounds_toArray, List.set_cons_zero, List.set_cons_succ]
          refine take_d14 (i := 30) (d := some 2) (v := ?_) rfl rfl (by kernel_rfl) (by kernel_rfl) (by kernel_rfl) (fun _ _ _ h => h) (Or.inl ⟨by rfl, ?_⟩) (by assumption) ?_
          rotate_left
          · intro w hSw
            (try dsimp only at hSw)
            obtain ⟨hs3, hs4, hs5⟩ := hSw
            go_simp
            try with_reducible rfl
          simp only [Act.put, List.setIfInBounds_toArray, List.set_cons_zero, List.set_cons_succ]
          refine wpAnyH_done (by kernel_rfl) ?_ _
          go_wp2
          go_ret
          exact ⟨rfl, below_two HBr.out hb4'⟩

end Go.Proofs.YtkfekopenahmdaaDoor
