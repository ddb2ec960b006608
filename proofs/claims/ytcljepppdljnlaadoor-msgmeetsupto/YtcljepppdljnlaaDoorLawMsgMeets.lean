/-
  MsgMeets: its contract.
-/
import Derived.Test.YtcljepppdljnlaaDoorMcU
import Derived.Test.YtcljepppdljnlaaDoorMcW
namespace Go.Proofs.YtcljepppdljnlaaDoor
open Go.RowKit

theorem Ms.twoR_len (l : List Fd) : (Ms.twoR l).fs.length ≤ l.length := by
  unfold Ms.twoR
  split
  · exact List.length_filter_le _ _
  · exact Nat.zero_le _
theorem NB.symm {v u : Value} (h : NB v u) : NB u v := fun k hk e => h k e hk
theorem own_two {w : World} {B' : Nat} {e : TypeId} {s : Nat} {v u : Value} {n' : Nat} {ys : List Value} (h' : w.ownsRow B' e s u n' ys) (hn : NB v u) {w' : World} (hg : w.grownBy w' v.ownBlock) : w'.ownsRow B' e s u n' ys :=
  own_grown h' hg (fun k hk e => hn k e.symm hk)
theorem own_low {w : World} {B : Nat} {e : TypeId} {s n : Nat} {v : Value} {xs : List Value} (h : w.ownsRow B e s v n xs) (hn : 0 < n) : B < w.heap.size := by
  rcases h.2 with ⟨_, h0⟩ | ⟨g, cap, cur, h1, h2, h3, _⟩
  · omega
  · have := (Array.getElem?_eq_some_iff.1 h3).1
    omega
theorem ar_own {w : World} {B b : Nat} {T e : TypeId} {s n : Nat} {v : Value} {xs : List Value} {c : Array Value} (ha : Ar w b T c) (ho : w.ownsRow B e s v n xs) (hb : b < B) {w' : World} (hg : w.grownBy w' v.ownBlock) : Ar w' b T c :=
  ar_grown ha hg (fun k hk => by have := (own_ty ho k hk).1; omega)

set_option maxHeartbeats 8000000 in
set_option maxRecDepth 20000 in
theorem msgMeets_any (m p a : ByteArray) (v : Value) (X : List Fd) (w : World) (h : FW w v X) (hT : TB w) (hm : m.size ≤ 1048576) (hp : p.size ≤ 1048576) (hb : a.size ≤ 1048576 ∧ X.length ≤ 1048572 ∧ ∀ f ∈ X, f.n.size ≤ 1048576 ∧ f.v.size ≤ 1048576) :
    Calls Tryd.prog 4 #[.string m, .string p, .agg #[.string a, v]] w fun e w' => e = .returned (.bool true) ∧ Below w.heap.size w w' := by
  obtain ⟨ha, hl, hs⟩ := hb
  have H := hid' h
  have HTB := hid' hT
  have HS := hid' hs
  have HL := hid' hl
  obtain ⟨ao, cap, hv⟩ := h.shape
  subst hv
  obtain ⟨n, hn⟩ : ∃ n, X.length = n := ⟨_, rfl⟩
  have HN := hid' hn
  rw [hn] at H hl ⊢
  have hA0 := rq_cells w #[.string a, .slice ao n cap] 36
  have hb0 := bl_alloc w (.cells #[.string a, .slice ao n cap] 36)
  have HB0 := hid' hb0
  clear h hT hs hn
  go_enter Tryd.func4, Tryd.ntmps4
  go_upto_region 1 with fail
  obtain ⟨xb, hxb⟩ : ∃ xb, w.heap.size = xb := ⟨_, rfl⟩
  have HXB := hid' hxb
  rw [hxb] at hA0
  try rw [hxb]
  have HA0 := hid' hA0
  clear hA0 hb0 hxb
  generalize w.alloc (.cells #[.string a, .slice ao n cap] 36) = w0 at *
  have x0 := HA0.out.cell 0 _ rfl
  have hb1 := bl_alloc w0 (.cells (fC [Ms.fM m, Ms.fS, Ms.fP p, Ms.fA a]).toArray 30)
  have HO1 := hid' (own_lit w0 30 (fC [Ms.fM m, Ms.fS, Ms.fP p, Ms.fA a]) 4 2 rfl (by decide) w0.heap.size (Nat.le_refl _))
  have HA1 := hid' (HA0.out.keep hb1)
  have HB1 := hid' (below_two HB0.out hb1)
  clear hb1
  go_upto_region 2 with fail
  change Code.wp _ _ _ _ (w0.alloc (.cells (fC [Ms.fM m, Ms.fS, Ms.fP p, Ms.fA a]).toArray 30))
  obtain ⟨tb, htb⟩ : ∃ tb, w0.heap.size = tb := ⟨_, rfl⟩
  have HXT : Hid (xb < tb) := hid' (by rw [← htb]; exact HA0.out.lt)
  rw [htb] at HO1
  try rw [htb]
  clear htb x0 HA0 HB0
  generalize w0.alloc (.cells (fC [Ms.fM m, Ms.fS, Ms.fP p, Ms.fA a]).toArray 30) = w1 at *
  have x0 := HA1.out.cell 0 _ rfl
  have hb2 := bl_alloc w1 (.cells (fC [Ms.fH a]).toArray 30)
  have HP2 := hid' (own_lit w1 30 (fC [Ms.fH a]) 1 2 rfl (by decide) tb (by have := own_lt HO1.out tb rfl; omega))
  have HO2 := hid' (HO1.out.alloc (.cells (fC [Ms.fH a]).toArray 30))
  have HA2 := hid' (HA1.out.keep hb2)
  have HB2 := hid' (below_two HB1.out hb2)
  clear hb2
  go_upto_region 3 with fail
  change Code.wp _ _ _ _ (w1.alloc (.cells (fC [Ms.fH a]).toArray 30))
  obtain ⟨ob, hob⟩ : ∃ ob, w1.heap.size = ob := ⟨_, rfl⟩
  have HNB : Hid (NB (.slice (some ⟨tb, 0, none⟩) 4 4) (.slice (some ⟨ob, 0, none⟩) 1 1)) := hid' (fun k hk e => by
    have h1 := own_lt HO1.out k hk
    simp [Value.ownBlock] at e
    omega)
  rw [hob] at HP2
  try rw [hob]
  clear hob x0 HA1 HB1 HO1
  generalize w1.alloc (.cells (fC [Ms.fH a]).toArray 30) = w2 at *
  have HWT : Hid (w.heap.size ≤ tb) := hid' (by have := HXB.out; have := HXT.out; omega)
  go_wp2
  go_loopw [7, 8, 9] (fun s7 s8 s9 wr => ∃ (k : Nat) (qo : Option Addr) (qc : Nat) (ro : Option Addr) (rc : Nat), s9 = .int .i64 (k : Int) ∧ s7 = .slice qo (4 + k) qc ∧ s8 = .slice ro (1 + k) rc ∧ k ≤ n ∧ Hid (∀ f ∈ X.take k, (f.n.toList == [104, 111, 115, 116]) = false ∧ (f.n.toList == [116, 101]) = false) ∧ Hid (wr.ownsRow tb 30 2 (.slice qo (4 + k) qc) (4 + k) (fC ([Ms.fM m, Ms.fS, Ms.fP p, Ms.fA a] ++ X.take k))) ∧ Hid (wr.ownsRow tb 30 2 (.slice ro (1 + k) rc) (1 + k) (fC (Ms.fH a :: X.take k))) ∧ Hid (NB (.slice qo (4 + k) qc) (.slice ro (1 + k) rc)) ∧ Hid (Ar wr xb 36 #[.string a, .slice ao n cap]) ∧ Hid (Below w.heap.size w wr)) (fun _ _ s9 _ => n - (intOf s9).toNat)
  case atStart => exact ⟨0, _, _, _, _, rfl, rfl, rfl, Nat.zero_le _, hid' (by simp), HO2, HP2, HNB, HA2, HB2⟩
  case round =>
    obtain ⟨k, qo, qc, ro, rc, rfl, rfl, rfl, hk, HNO, HO, HP, HN2, HA, HB⟩ := hrel
    have x0 := HA.out.cell 0 _ rfl
    have x1 := HA.out.cell 1 _ rfl
    by_cases hlt : k < n
    · have hlt2 : (k : Int) < (n : Int) := by omega
      obtain ⟨f, hf⟩ : ∃ f, X[k]? = some f := ⟨_, List.getElem?_eq_getElem (by rw [HN.out]; exact hlt)⟩
      obtain ⟨ad, hao, y0, y1⟩ := (H.out.keep HB.out).two k f hf
      have HTK : Hid (X.take (k + 1) = X.take k ++ [f]) := hid' (by rw [List.take_add_one, hf]; rfl)
      subst hao
      have HFF := hid' hf
      clear hf
      cases c1 : (f.n.toList == [104, 111, 115, 116])
      rotate_left
      · go_wp2_with fail
        refine (awake14 wr (HTB.out.keep HB.out)).mono ?_
        rintro e w20 ⟨rfl, hb20⟩
        have HB20 := hid' (below_two HB.out hb20)
        clear hb20
        go_wp2
        go_ret
        exact ⟨rfl, HB20.out⟩
      cases c2 : (f.n.toList == [116, 101])
      rotate_left
      · go_wp2_with fail
        refine (awake14 wr (HTB.out.keep HB.out)).mono ?_
        rintro e w20 ⟨rfl, hb20⟩
        have HB20 := hid' (below_two HB.out hb20)
        clear hb20
        go_wp2
        go_ret
        exact ⟨rfl, HB20.out⟩
      have HNO1 : Hid (∀ g ∈ X.take (k + 1), (g.n.toList == [104, 111, 115, 116]) = false ∧ (g.n.toList == [116, 101]) = false) := hid' (fun g hg => by
        rw [HTK.out] at hg
        rcases List.mem_append.1 hg with h | h
        · exact HNO.out g h
        · rw [List.mem_singleton.1 h]; exact ⟨c1, c2⟩)
      have hba := bl_alloc wr (.cells #[.string f.n, .string f.v] 30)
      have HLP : Hid (FW (wr.alloc (.cells #[.string f.n, .string f.v] 30)) (.slice (some ⟨wr.heap.size, 0, none⟩) 1 1) [f]) := hid' (fw_lit wr [f] 1 rfl (by decide))
      have HOa := hid' (HO.out.alloc (.cells #[.string f.n, .string f.v] 30))
      have HPa := hid' (HP.out.alloc (.cells #[.string f.n, .string f.v] 30))
      have HAa := hid' (HA.out.keep hba)
      have HBa := hid' (below_two HB.out hba)
      clear hba
      go_wp2_with (at_builtin; refine wpl_appL rfl _ _ rfl tb (.slice qo (4 + k) qc) (4 + k) (fC ([Ms.fM m, Ms.fS, Ms.fP p, Ms.fA a] ++ X.take k)) rfl HOa.out _ [f] rfl HLP.out (by simp; omega) (Nat.le_of_lt (own_low HOa.out (by omega))) ?_; intro v3 w3 hown3 hgrow3 hat3; refine Hid.out ?_)
      refine hid' ?_
      have e3 : fC ([Ms.fM m, Ms.fS, Ms.fP p, Ms.fA a] ++ X.take k) ++ fC [f] = fC ([Ms.fM m, Ms.fS, Ms.fP p, Ms.fA a] ++ X.take (k + 1)) := by rw [HTK.out, ← fC_append, List.append_assoc]
      rw [e3, show 4 + k + [f].length = 4 + (k + 1) from rfl] at hown3
      have HP3 := hid' (own_two HPa.out HN2.out hgrow3)
      have HA3 := hid' (ar_own HAa.out HOa.out HXT.out hgrow3)
      have HB3 : Hid (Below w.heap.size w w3) := hid' (HBa.out.grown hgrow3 HBa.out.size (fun j hj => by have := (own_ty HOa.out j hj).1; have := HWT.out; omega))
      have HN3 : Hid (NB v3 (.slice ro (1 + k) rc)) := hid' (HN2.out.at (own_lt HPa.out) hat3)
      have HO3 := hid' hown3
      obtain ⟨v3o, v3c, hv3⟩ := own_shape hown3
      subst hv3
      clear hown3 hgrow3 hat3 e3 HLP HOa HPa HAa HBa HO HP HA HB HN2 y0 y1 x0 x1
      have x0 := HA3.out.cell 0 _ rfl
      have x1 := HA3.out.cell 1 _ rfl
      obtain ⟨ad2, hao2, y0, y1⟩ := (H.out.keep HB3.out).two k f HFF.out
      injection hao2 with hao2
      subst hao2
      have hba := bl_alloc w3 (.cells #[.string f.n, .string f.v] 30)
      have HLP : Hid (FW (w3.alloc (.cells #[.string f.n, .string f.v] 30)) (.slice (some ⟨w3.heap.size, 0, none⟩) 1 1) [f]) := hid' (fw_lit w3 [f] 1 rfl (by decide))
      have HOa := hid' (HO3.out.alloc (.cells #[.string f.n, .string f.v] 30))
      have HPa := hid' (HP3.out.alloc (.cells #[.string f.n, .string f.v] 30))
      have HAa := hid' (HA3.out.keep hba)
      have HBa := hid' (below_two HB3.out hba)
      clear hba
      go_wp2_with (at_builtin; refine wpl_appL rfl _ _ rfl tb (.slice ro (1 + k) rc) (1 + k) (fC (Ms.fH a :: X.take k)) rfl HPa.out _ [f] rfl HLP.out (by simp; omega) (Nat.le_of_lt (own_low HOa.out (by omega))) ?_; intro v4 w4 hown4 hgrow4 hat4; refine Hid.out ?_)
      refine hid' ?_
      have e4 : fC (Ms.fH a :: X.take k) ++ fC [f] = fC (Ms.fH a :: X.take (k + 1)) := by rw [HTK.out, ← fC_append, List.cons_append]
      rw [e4, show 1 + k + [f].length = 1 + (k + 1) from rfl] at hown4
      have HO4 := hid' (own_two HOa.out HN3.out.symm hgrow4)
      have HA4 := hid' (ar_own HAa.out HPa.out HXT.out hgrow4)
      have HB4 : Hid (Below w.heap.size w w4) := hid' (HBa.out.grown hgrow4 HBa.out.size (fun j hj => by have := (own_ty HPa.out j hj).1; have := HWT.out; omega))
      have HN4 : Hid (NB (.slice v3o (4 + (k + 1)) v3c) v4) := hid' ((HN3.out.symm.at (own_lt HOa.out) hat4).symm)
      have HP4 := hid' hown4
      obtain ⟨v4o, v4c, hv4⟩ := own_shape hown4
      subst hv4
      clear hown4 hgrow4 hat4 e4 HLP HOa HPa HAa HBa HO3 HP3 HA3 HB3 HN3 y0 y1 x0 x1
      go_wp2
      go_roundw
      case rel => exact ⟨k + 1, v3o, v3c, v4o, v4c, by go_num, rfl, rfl, by omega, HNO1, HO4, HP4, HN4, HA4, HB4⟩
      case measure => simp [intOf]; omega
    · obtain rfl : k = n := by omega
      have hlt2 : ¬ (k : Int) < (k : Int) := by omega
      have HTK : Hid (X.take k = X) := hid' (List.take_of_length_le (by rw [HN.out]; exact Nat.le_refl _))
      have HX : Hid (∀ f ∈ X, (f.n.toList == [104, 111, 115, 116]) = false ∧ (f.n.toList == [116, 101]) = false) := hid' (by have := HNO.out; rwa [HTK.out] at this)
      have hlt1 : (Ms.asTwo m p a X).length = 4 + k := by unfold Ms.asTwo; simp [HN.out]; omega
      have hlo1 : (Ms.asOne a X).length = 1 + k := by unfold Ms.asOne; simp [HN.out]; omega
      have HFT : Hid (FW wr (.slice qo (4 + k) qc) (Ms.asTwo m p a X)) := hid' (by
        have h1 := HO.out
        rw [HTK.out] at h1
        exact FW.of_own (B := tb) (e := 30) (by rw [hlt1]; exact h1))
      have HFO : Hid (FW wr (.slice ro (1 + k) rc) (Ms.asOne a X)) := hid' (by
        have h1 := HP.out
        rw [HTK.out] at h1
        exact FW.of_own (B := tb) (e := 30) (by rw [hlo1]; exact h1))
      have HST : Hid (∀ f ∈ Ms.asTwo m p a X, f.n.size ≤ 140737488355328 ∧ f.v.size ≤ 140737488355328) := hid' (fun f hf => by
        unfold Ms.asTwo at hf
        rcases List.mem_append.1 hf with h | h
        · simp only [List.mem_cons, List.not_mem_nil, or_false] at h
          rcases h with rfl | rfl | rfl | rfl
          · exact ⟨by change 7 ≤ _; decide, by unfold Ms.fM; simp only; omega⟩
          · exact ⟨by decide, by decide⟩
          · exact ⟨by change 5 ≤ _; decide, by unfold Ms.fP; simp only; omega⟩
          · exact ⟨by change 10 ≤ _; decide, by unfold Ms.fA; simp only; omega⟩
        · have := HS.out f h; omega)
      have HSO : Hid (∀ f ∈ Ms.asOne a X, f.n.size ≤ 1048576 ∧ f.v.size ≤ 1048576) := hid' (fun f hf => by
        unfold Ms.asOne at hf
        rcases List.mem_cons.1 hf with rfl | h
        · exact ⟨by change 4 ≤ _; decide, ha⟩
        · exact HS.out f h)
      have HLT : Hid ((Ms.asTwo m p a X).length ≤ 1048576) := hid' (by rw [hlt1]; omega)
      have HLO : Hid ((Ms.asOne a X).length ≤ 1048576) := hid' (by rw [hlo1]; omega)
      clear hlt hlt1 hlo1
      go_wp2_with fail
      refine (ctwo14 _ (Ms.asTwo m p a X) wr HFT.out (HTB.out.keep HB.out) HLT.out HST.out).mono ?_
      obtain ⟨R, hR⟩ : ∃ R, Ms.twoR (Ms.asTwo m p a X) = R := ⟨_, rfl⟩
      obtain ⟨e1, he1⟩ : ∃ e1, Ms.twoE (Ms.asTwo m p a X) = e1 := ⟨_, rfl⟩
      rw [hR, he1]
      rintro e w5 ⟨⟨fv, rfl, hrow⟩, hb5⟩
      have hF5 : FW w5 fv R.fs := FW.of_own hrow
      obtain ⟨fo, fc, hfv⟩ := hF5.shape
      subst hfv
      obtain ⟨fn, hfn⟩ : ∃ fn, R.fs.length = fn := ⟨_, rfl⟩
      rw [hfn] at hF5 ⊢
      unfold rqV rqC
      have hb6 := bl_alloc w5 (.cells #[.string R.m, .string R.s, .string R.a, .string R.p, .slice fo fn fc, .string ⟨#[]⟩, .slice none 0 0] 24)
      have HF6 := hid' (hF5.keep hb6)
      have HB6 := hid' (below_two (below_two HB.out hb5) hb6)
      have HA6 := hid' ((HA.out.keep hb5).keep hb6)
      have HQ6 := hid' (rq_cells w5 #[.string R.m, .string R.s, .string R.a, .string R.p, .slice fo fn fc, .string ⟨#[]⟩, .slice none 0 0] 24)
      have HFO6 := hid' ((HFO.out.keep hb5).keep hb6)
      have HFNR := hid' hfn
      clear hb5 hb6 hrow hF5 HFT HFO HA HB HO HP x0 x1 hfn
      go_upto_region 12 with fail
      obtain ⟨ab, hab⟩ : ∃ ab, w5.heap.size = ab := ⟨_, rfl⟩
      rw [hab] at HQ6
      try rw [hab]
      clear hab
      generalize w5.alloc (.cells #[.string R.m, .string R.s, .string R.a, .string R.p, .slice fo fn fc, .string ⟨#[]⟩, .slice none 0 0] 24) = w6 at *
      go_wp2_with fail
      refine (cone14 m p _ (Ms.asOne a X) w6 HFO6.out (HTB.out.keep HB6.out) HLO.out HSO.out (by omega) hp).mono ?_
      obtain ⟨S, hS⟩ : ∃ S, Ms.oneR m p (Ms.asOne a X) = S := ⟨_, rfl⟩
      obtain ⟨e2, he2⟩ : ∃ e2, Ms.oneE m p (Ms.asOne a X) = e2 := ⟨_, rfl⟩
      rw [hS, he2]
      rintro e w7 ⟨⟨gv, rfl, hrow⟩, hb7⟩
      have hF7 : FW w7 gv S.fs := FW.of_own hrow
      obtain ⟨go, gc, hgv⟩ := hF7.shape
      subst hgv
      obtain ⟨gn, hgn⟩ : ∃ gn, S.fs.length = gn := ⟨_, rfl⟩
      rw [hgn] at hF7 ⊢
      unfold rqV rqC
      have hb8 := bl_alloc w7 (.cells #[.string S.m, .string S.s, .string S.a, .string S.p, .slice go gn gc, .string ⟨#[]⟩, .slice none 0 0] 24)
      have HF8 := hid' (hF7.keep hb8)
      have HB8 := hid' (below_two (below_two HB6.out hb7) hb8)
      have HA8 := hid' ((HA6.out.keep hb7).keep hb8)
      have HQ8 := hid' ((HQ6.out.keep hb7).keep hb8)
      have HFR8 := hid' ((HF6.out.keep hb7).keep hb8)
      have HP8 := hid' (rq_cells w7 #[.string S.m, .string S.s, .string S.a, .string S.p, .slice go gn gc, .string ⟨#[]⟩, .slice none 0 0] 24)
      clear hb7 hb8 hrow hF7 HF6 HB6 HA6 HQ6 HFO6
      go_upto_region 13 with fail
      obtain ⟨bb, hbb⟩ : ∃ bb, w7.heap.size = bb := ⟨_, rfl⟩
      rw [hbb] at HP8
      try rw [hbb]
      clear hbb
      generalize w7.alloc (.cells #[.string S.m, .string S.s, .string S.a, .string S.p, .slice go gn gc, .string ⟨#[]⟩, .slice none 0 0] 24) = w8 at *
      cases z1 : (e1 == 0)
      · have z2 : (e1 != 0) = true := by unfold bne; rw [z1]; rfl
        have z3 : ¬ e1 = 0 := by intro e; rw [e] at z1; simp at z1
        go_wp2_with fail
        refine (awake14 w8 (HTB.out.keep HB8.out)).mono ?_
        rintro e w20 ⟨rfl, hb20⟩
        have HB20 := hid' (below_two HB8.out hb20)
        clear hb20
        go_wp2
        go_ret
        exact ⟨rfl, HB20.out⟩
      · have z2 : (e1 != 0) = false := by unfold bne; rw [z1]; rfl
        have z3 : e1 = 0 := beq_iff_eq.1 z1
        have hmt := Ms.meets m p a X HX.out (by rw [he1]; exact z3)
        obtain ⟨va, hva⟩ : ∃ va, Tx.isVal (Ms.tx a) = va := ⟨_, rfl⟩
        have HV : Hid (∀ W, Calls Tryd.prog 11 #[.string a] W fun e w' => e = .returned (.bool va) ∧ w' = W) := hid' (fun W => by have := rValue_any a W (by unfold maxLen; omega); unfold Ms.tx at hva; rwa [hva] at this)
        have x0 := HA8.out.cell 0 _ rfl
        subst z3
        go_wp2_with fail
        refine (HV.out _).mono ?_
        rintro e w9 ⟨rfl, hw9⟩
        subst w9
        clear x0
        cases va
        · obtain rfl : e2 = 141 := by rw [← he2]; exact hmt.1 hva
          clear hmt hva
          go_wp2_with fail
          refine (awake14 w8 (HTB.out.keep HB8.out)).mono ?_
          rintro e w20 ⟨rfl, hb20⟩
          have HB20 := hid' (below_two HB8.out hb20)
          clear hb20
          go_wp2
          go_ret
          exact ⟨rfl, HB20.out⟩
        · obtain ⟨m1, m2⟩ := hmt.2 hva
          obtain rfl : e2 = 0 := by rw [← he2]; exact m1
          have hSR : S = R := by rw [← hS, ← hR]; exact m2
          have hSR2 : Ms.twoR (Ms.asTwo m p a X) = S := by rw [hSR]; exact hR
          clear hmt hva m1 m2 hS hR
          subst hSR
          have hgf : fn = gn := by rw [← hgn]; exact HFNR.out.symm
          have HFB : Hid (fn ≤ 140737488355328) := hid' (by rw [hgf, ← hgn, ← hSR2]; exact Nat.le_trans (Ms.twoR_len _) (by have := HLT.out; omega))
          subst hgf
          have a0 := HQ8.out.cell 0 _ rfl
          have b0 := HP8.out.cell 0 _ rfl
          have a1 := HQ8.out.cell 1 _ rfl
          have b1 := HP8.out.cell 1 _ rfl
          have a2 := HQ8.out.cell 2 _ rfl
          have b2 := HP8.out.cell 2 _ rfl
          have a3 := HQ8.out.cell 3 _ rfl
          have b3 := HP8.out.cell 3 _ rfl
          have a4 := HQ8.out.cell 4 _ rfl
          have b4 := HP8.out.cell 4 _ rfl
          have a5 := HQ8.out.cell 5 _ rfl
          have b5 := HP8.out.cell 5 _ rfl
          have a6 := HQ8.out.cell 6 _ rfl
          have b6 := HP8.out.cell 6 _ rfl
          go_wp2_with fail
          refine (rsameReq14 S.m S.s S.a S.p ⟨#[]⟩ (.slice fo fn fc) (.slice go fn gc) (.slice none 0 0) (.slice none 0 0) S.fs [] w8 HFR8.out HF8.out (.inl ⟨rfl, rfl⟩) (.inl ⟨rfl, rfl⟩) (by rw [hgn]; exact HFB.out) (by decide)).mono ?_
          rintro e w9 ⟨rfl, hb9⟩
          have HB9 := hid' (below_two HB8.out hb9)
          clear hb9
          clear a0 b0
          clear a1 b1
          clear a2 b2
          clear a3 b3
          clear a4 b4
          clear a5 b5
          clear a6 b6
          go_wp2_with fail
          refine (awake14 w9 (HTB.out.keep HB9.out)).mono ?_
          rintro e w20 ⟨rfl, hb20⟩
          have HB20 := hid' (below_two HB9.out hb20)
          clear hb20
          go_wp2
          go_ret
          exact ⟨rfl, HB20.out⟩

end Go.Proofs.YtcljepppdljnlaaDoor
