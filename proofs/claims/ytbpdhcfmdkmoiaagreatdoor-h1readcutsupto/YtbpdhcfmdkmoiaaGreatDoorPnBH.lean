/-
  The reader's Read: by its contract.
-/
import Derived.Test.YtbpdhcfmdkmoiaaGreatDoorPnBG
namespace Go.Proofs.YtbpdhcfmdkmoiaaGreatDoor
open Go.RowKit

namespace Hr
/-- The limits stay. -/
def LM (s s' : St) : Prop := s'.L = s.L ∧ s'.M = s.M
theorem LM.rfl' (s : St) : LM s s := ⟨rfl, rfl⟩
theorem LM.trans {a b c : St} (h : LM a b) (k : LM b c) : LM a c := ⟨k.1.trans h.1, k.2.trans h.2⟩
theorem addF_LM (s : St) (l : T8) : LM s (addF s l).2 := by
  unfold addF
  split
  · split <;> exact ⟨rfl, rfl⟩
  · exact ⟨rfl, rfl⟩
theorem behind_LM (s : St) : LM s (behind s) := by
  unfold behind
  split
  · exact ⟨rfl, rfl⟩
  · split <;> exact ⟨rfl, rfl⟩
theorem useL_LM (s : St) (l : T8) : LM s (useL s l).2 := by
  unfold useL
  split
  · unfold useStart
    split
    · exact ⟨rfl, rfl⟩
    · split <;> exact ⟨rfl, rfl⟩
  · unfold useField
    split
    · split
      · exact behind_LM s
      · exact ⟨rfl, rfl⟩
    · exact addF_LM s l
  · unfold useSize
    split
    · exact ⟨rfl, rfl⟩
    · split
      · exact ⟨rfl, rfl⟩
      · split <;> exact ⟨rfl, rfl⟩
  · unfold useTrailer
    split
    · split <;> exact ⟨rfl, rfl⟩
    · exact addF_LM s l
theorem takeB_LM (s : St) (b : UInt8) : LM s (takeB s b).2 := by
  unfold takeB
  split
  · exact ⟨rfl, rfl⟩
  · split
    · exact LM.trans (b := { s with ln := [], cr := false }) ⟨rfl, rfl⟩ (useL_LM _ _)
    · split
      · exact ⟨rfl, rfl⟩
      · split <;> exact ⟨rfl, rfl⟩
theorem rl_LM : ∀ (d : T8) (s : St), LM s (rl s d).2.2
  | [], s => LM.rfl' s
  | b :: r, s => by
    rw [rl]
    split
    · exact takeB_LM s b
    · exact LM.trans (takeB_LM s b) (rl_LM r _)
theorem nx_LM (s : St) (d : T8) : LM s (nx s d).2.2 := by
  unfold nx
  split
  · unfold part; split <;> exact ⟨rfl, rfl⟩
  · unfold part; split <;> exact ⟨rfl, rfl⟩
  · cases d with
    | nil => exact ⟨rfl, rfl⟩
    | cons a r => unfold oneB; simp only; split <;> exact ⟨rfl, rfl⟩
  · cases d with
    | nil => exact ⟨rfl, rfl⟩
    | cons a r => unfold oneB; simp only; split <;> exact ⟨rfl, rfl⟩
  · exact ⟨rfl, rfl⟩
  · exact ⟨rfl, rfl⟩
  · exact rl_LM d s
end Hr

theorem rnum_in (md : Hr.Md) : ∀ args w, (callFunc (rnum md) args).run Tryz.prog w = .ok (.enter (rnum md) args) w := by
  rcases md with ((_ | _) | (_ | _ | _ | _ | _ | _ | _ | _))
  · exact enters_of Tryz.func18 (by kernel_rfl) rfl
  · exact enters_of Tryz.func37 (by kernel_rfl) rfl
  · exact enters_of Tryz.func74 (by kernel_rfl) rfl
  · exact enters_of Tryz.func118 (by kernel_rfl) rfl
  · exact enters_of Tryz.func75 (by kernel_rfl) rfl
  · exact enters_of Tryz.func119 (by kernel_rfl) rfl
  · exact enters_of Tryz.func125 (by kernel_rfl) rfl
  · exact enters_of Tryz.func130 (by kernel_rfl) rfl
  · exact enters_of Tryz.func101 (by kernel_rfl) rfl
  · exact enters_of Tryz.func41 (by kernel_rfl) rfl
theorem pcw_keep21 {w w' : World} {B : Nat} {X : Nat → Prop} {v : Value} {p : Hr.Pc} (h : PcW w B X v p) (hb : Below w.heap.size w w') : PcW w' B X v p := by
  obtain ⟨rv, tv, hv, k1, k2, k3, k4⟩ := h
  exact ⟨rv, tv, hv, own_keep21 k1 hb, own_keep21 k2 hb, k3, k4⟩
/-- The loop over what is next. -/
structure LR21 (w1 : World) (B b rb : Nat) (lv fv : Value) (s : Hr.St) (D : List UInt8) (k : Nat) (si : Hr.St) (lvi fvi : Value) (wr : World) : Prop where
  rn : RN wr B b (rnx b si.md) lvi fvi si
  ok : Hr.Ok si
  cost : Hr.cost si ≤ Hr.cost s + k
  lm : Hr.LM s si
  fd : Hr.feed s D = ((Hr.feed si (D.drop k)).1 + k, (Hr.feed si (D.drop k)).2)
  lf : LF (RS b lv fv) w1 wr
  rw : RW w1.heap.size lv fv lvi fvi
  box : Ar wr rb 49 pcZ
/-- What is known behind what is next was read. -/
structure RQ21 (B b : Nat) (lvi fvi : Value) (p : Hr.Pc) (s' : Hr.St) (wr : World) (ab : Nat) (rv tv lv2 fv2 : Value) (wx : World) : Prop where
  lf : LF (RS b lvi fvi) wr wx
  rn : RN wx B b (rnx b s'.md) lv2 fv2 s'
  rw : RW wr.heap.size lvi fvi lv2 fv2
  pw : PcW wx B (RS b lv2 fv2) (.agg (pcC p rv tv)) p
  box : Ar wx ab 49 (pcC p rv tv)
  lo : wr.heap.size ≤ ab
theorem rq_fin21 {B b : Nat} {lvi fvi rv tv lv2 fv2 : Value} {p : Hr.Pc} {s' : Hr.St} {wr w0 w5 wf : World} {ab : Nat} {c : Array Value} (hb0 : wr.heap.size ≤ w0.heap.size) (hl : LF (RS b lvi fvi) wr w5) (hn : RN w5 B b (rnx b s'.md) lv2 fv2 s') (hr : RW w0.heap.size lvi fvi lv2 fv2)
    (hp : PcW w5 B (RS b lv2 fv2) (.agg (pcC p rv tv)) p) (hab : wr.heap.size ≤ ab) (hbw : b < wr.heap.size) (ha : Ar w5 ab 49 c) (hf : Ar wf ab 49 (pcC p rv tv)) (hu : Upd ab w5 wf) : RQ21 B b lvi fvi p s' wr ab rv tv lv2 fv2 wf := by
  obtain ⟨rv', tv', hv, k1, k2, k3, k4⟩ := hp
  have e : pcC p rv tv = pcC p rv' tv' := by injection hv
  have e1 : rv = rv' := by have := congrArg (fun a : Array Value => a[5]?) e; simpa [pcC] using this
  have e2 : tv = tv' := by have := congrArg (fun a : Array Value => a[13]?) e; simpa [pcC] using this
  subst e1 e2
  refine ⟨hl.trans (LF.of_upd (S := fun k => k = ab) hu rfl) (fun k hk e => by omega), hn.other (LF.of_upd (S := fun k => k = ab) hu rfl) ?_, ⟨fun k hk => (hr.1 k hk).imp id (fun h => Nat.le_trans hb0 h), fun k hk => (hr.2 k hk).imp id (fun h => Nat.le_trans hb0 h)⟩, ⟨rv, tv, rfl, own_same k1 (fun k hk => hu.block k (own_apart k1 ha (by decide) k hk)), own_same k2 (fun k hk => hu.block k (own_apart k2 ha (by decide) k hk)), k3, k4⟩, hf, hab⟩
  rintro k (rfl | hk | hk) e
  · omega
  · exact own_apart hn.ln ha (by decide) k hk e
  · exact own_apart hn.fl ha (by decide) k hk e
set_option maxRecDepth 20000 in
theorem nilf21 (fn : Fn) (a c : Array Value) (W : World) : (binOp BinOp.eql 56 (.func fn a c) .nilFunc).run Tryz.prog W = .ok (.bool false) W := by
  have hu : (Op.equal 56 (.func fn a c) .nilFunc).run Tryz.prog W = .ok false W := by
    unfold Op.equal Op.maxDepth
    rw [show (10000 : Nat) = 9999 + 1 from rfl, Op.equalIn]
    simp [run_underlying Tryz.underlying56, Sem.run_bind, Sem.run_pure]
  simp [binOp, hu]

set_option maxHeartbeats 8000000 in
set_option maxRecDepth 20000 in
theorem cread21 (B b : Nat) (lv fv : Value) (s : Hr.St) (d : ByteArray) (w : World) (h : RN w B b (rnx b s.md) lv fv s) (hok : Hr.Ok s) (hT : TBr B w) (hc : Hr.cost s + d.size ≤ 1048576) (hL : s.L ≤ 9223372036854775807) (hM : s.M ≤ 9223372036854775807) :
    Calls Tryz.prog 17 #[.pointer (some ⟨b, 0, none⟩), .string d] w (NP w B b lv fv (Hr.read s d.data.toList)) := by
  rw [Hr.read_feed]
  obtain ⟨Q, hQ⟩ : ∃ Q, Hr.feed s d.data.toList = Q := ⟨_, rfl⟩
  rw [hQ]
  obtain ⟨n, hn⟩ : ∃ n, d.size = n := ⟨_, rfl⟩
  rw [hn] at hc
  have HQ := hid' hQ
  have HN := hid' hn
  have HC := hid' hc
  have HT := hid' hT
  have HOK := hid' hok
  have HLM : Hid (s.L ≤ 9223372036854775807 ∧ s.M ≤ 9223372036854775807) := hid' ⟨hL, hM⟩
  have hn63 : n ≤ 1048576 := by omega
  have HDL : Hid (d.data.toList.length = n) := hid' (by rw [← Lib.size_eq]; exact hn)
  clear hQ hn hc hT hok hL hM
  have HS := hid' h
  have HLT : Hid (∀ k, RS b lv fv k → k < w.heap.size) := hid' (fun k hk => (h.rs k hk).2)
  have HB0 := hid' h.lb
  go_enter Tryz.func17, Tryz.ntmps17
  go_wp2_with (refine wpl_alloc 49 rfl rfl _ zeroPc21 ?_)
  intro rb w1 hrb ha1 hl1
  have HB1 := hid' hl1
  have HA1 := hid' ha1
  have HRB : Hid (w.heap.size ≤ rb) := hid' (by omega)
  have HR1 := hid' (HS.out.keep hl1)
  have HRL1 : Hid (rb < w1.heap.size) := hid' ha1.lt
  have HN0 : Hid (¬ RS b lv fv rb) := hid' (fun hk => by have := HLT.out rb hk; omega)
  clear ha1 hl1 hrb
  have k2 : w1.cell? ⟨b, 2, none⟩ = some (rnx b s.md) := HR1.out.obj.cell 2 _ rfl
  have HT1 := hid' (HT.out.keep HB1.out)
  have HBK : Hid (∀ k, RS b lv fv k → B ≤ k) := hid' (fun k hk => (HS.out.rs k hk).1)
  clear h
  unfold rnx mV at k2
  generalize rnum s.md = q0 at k2
  have hnf := nilf21
  go_wp2
  go_loopw [6] (fun s6 wr => ∃ (k : Nat) (si : Hr.St) (lvi fvi : Value), s6 = .int .i64 (k : Int) ∧ k ≤ n ∧ Hid (LR21 w1 B b rb lv fv s d.data.toList k si lvi fvi wr)) (fun s6 _ => n - (intOf s6).toNat)
  case atStart => exact ⟨0, s, lv, fv, rfl, Nat.zero_le _, hid' ⟨HR1.out, HOK.out, Nat.le_refl _, Hr.LM.rfl' s, by simp, LF.refl _ _, RW.refl _ _ _, HA1.out⟩⟩
  case round =>
    obtain ⟨k, si, lvi, fvi, rfl, hk, HI⟩ := hrel
    obtain ⟨q, hq⟩ : ∃ q, rnum si.md = q := ⟨_, rfl⟩
    have eN := rnum_in si.md
    rw [hq] at eN
    have hkd : k ≤ d.size := by rw [HN.out]; exact hk
    have HTR := hid' (HT1.out.lf HI.out.lf HBK.out)
    have HBW := hid' HI.out.rn.obj.lt
    obtain ⟨qn, p, s', hnx⟩ : ∃ qn p s', Hr.nx si (d.data.toList.drop k) = (qn, p, s') := ⟨_, _, _, rfl⟩
    have HNXE := hid' hnx
    have HNX : Hid (∀ W, RN W B b (rnx b si.md) lvi fvi si → TBr B W → Calls Tryz.prog q #[.pointer (some ⟨b, 0, none⟩), .string (d.extract k d.size)] W (NP W B b lvi fvi (qn, p, s'))) := hid' (fun W h1 h2 => by
      have hx : (d.extract k d.size).data.toList = d.data.toList.drop k := Lib.extract_to_end d k
      have hxs : (d.extract k d.size).size ≤ n - k := by rw [ByteArray.size_extract, HN.out]; omega
      have := cnext21 B b lvi fvi si (d.extract k d.size) W h1 h2 (by have h3 := HI.out.cost; have h4 := HC.out; omega) (by have h3 := HI.out.ok.room; have h4 := HI.out.lm.2; have h5 := HLM.out.2; omega) (by have h4 := HI.out.lm.1; have h5 := HLM.out.1; omega) (by have h3 := HI.out.ok.left; have h4 := HI.out.lm.2; have h5 := HLM.out.2; omega)
      rwa [hq, hx, hnx] at this)
    have kc2 : wr.cell? ⟨b, 2, none⟩ = some (.func (.func q) #[.pointer (some ⟨b, 0, none⟩)] #[]) := by rw [← hq]; exact HI.out.rn.obj.cell 2 _ rfl
    have kc2d : wr.drew.cell? ⟨b, 2, none⟩ = some (.func (.func q) #[.pointer (some ⟨b, 0, none⟩)] #[]) := kc2
    have kc2a : (wr.alloc (.cells #[.int .u8 0, .string ⟨#[]⟩, .string ⟨#[]⟩, .string ⟨#[]⟩, .string ⟨#[]⟩, .slice none 0 0, .string ⟨#[]⟩, .slice none 0 0, .bool false, .bool false, .bool false, .bool false, .string ⟨#[]⟩, .slice none 0 0, .int .i64 0] 49)).cell? ⟨b, 2, none⟩ = some (.func (.func q) #[.pointer (some ⟨b, 0, none⟩)] #[]) := ((bl_alloc wr _).cell (cell_lt kc2)).trans kc2
    clear hnx hq
    go_upto_region 4 with fail
    go_cut [7, 8] from 19 to 29 (fun s7 s8 wx => ∃ ab rv tv lv2 fv2, s7 = .int .i64 (qn : Int) ∧ s8 = .pointer (some ⟨ab, 0, none⟩) ∧ Hid (RQ21 B b lvi fvi p s' wr ab rv tv lv2 fv2 wx))
    case first =>
      refine wp_region_held_drew (S := fun W => True) (by kernel_rfl) (trivial) (fun hHeld => ?_)
      refine take_d19 (i := 0) (d := some 20) (v := ?_) rfl rfl (by kernel_rfl) (by kernel_rfl) (by kernel_rfl) (fun _ _ _ h => h) (Or.inl ⟨by rfl, ?_⟩) (by assumption) ?_
      rotate_left
      · intro w hSw
        (try dsimp only at hSw)
        go_simp
        try with_reducible rfl
      try simp only [Act.put, List.setIfInBounds_toArray, List.set_cons_zero, List.set_cons_succ]
      refine take_d19 (i := 1) (d := some 21) (v := ?_) rfl rfl (by kernel_rfl) (by kernel_rfl) (by kernel_rfl) (fun _ _ _ h => h) (Or.inl ⟨by rfl, ?_⟩) (by assumption) ?_
      rotate_left
      · intro w hSw
        (try dsimp only at hSw)
        go_simp
        try with_reducible rfl
      try simp only [Act.put, List.setIfInBounds_toArray, List.set_cons_zero, List.set_cons_succ]
      refine take_d19 (i := 2) (d := some 22) (v := ?_) rfl rfl (by kernel_rfl) (by kernel_rfl) (by kernel_rfl) (fun _ _ _ h => h) (Or.inl ⟨by rfl, ?_⟩) (by assumption) ?_
      rotate_left
      · intro w hSw
        (try dsimp only at hSw)
        go_simp
        try with_reducible rfl
      try simp only [Act.put, List.setIfInBounds_toArray, List.set_cons_zero, List.set_cons_succ]
      refine take_d19 (i := 4) (d := some 24) (v := ?_) rfl rfl (by kernel_rfl) (by kernel_rfl) (by kernel_rfl) (fun _ _ _ h => h) (Or.inl ⟨by rfl, ?_⟩) (by assumption) ?_
      rotate_left
      · intro w hSw
        (try dsimp only at hSw)
        go_simp
        try with_reducible rfl
      try simp only [Act.put, List.setIfInBounds_toArray, List.set_cons_zero, List.set_cons_succ]
      refine take_d19 (i := 5) (d := some 25) (v := ?_) rfl rfl (by kernel_rfl) (by kernel_rfl) (by kernel_rfl) (fun _ _ _ h => h) (Or.inl ⟨by rfl, ?_⟩) (by assumption) ?_
      rotate_left
      · intro w hSw
        (try dsimp only at hSw)
        go_simp
        try with_reducible rfl
      try simp only [Act.put, List.setIfInBounds_toArray, List.set_cons_zero, List.set_cons_succ]
      refine take_d19 (i := 6) (d := some 26) (v := ?_) rfl rfl (by kernel_rfl) (by kernel_rfl) (by kernel_rfl) (fun _ _ _ h => h) (Or.inl ⟨by rfl, ?_⟩) (by assumption) ?_
      rotate_left
      · intro w hSw
        (try dsimp only at hSw)
        go_simp
        try with_reducible rfl
      try simp only [Act.put, List.setIfInBounds_toArray, List.set_cons_zero, List.set_cons_succ]
      refine wpAnyH_ready (rs := [3, 11]) (by kernel_rfl) (by simp) ?_
      refine AllReadyH.cons rfl (fun KK hK => ?_) (AllReadyH.cons rfl (fun KK hK => ?_) AllReadyH.nil)
      · go_simp
        refine hK.out _ _ trivial (fun _ => ?_)
        clear hK
        try simp only [Act.put, List.setIfInBounds_toArray, List.set_cons_zero, List.set_cons_succ]
        refine wpAnyH_ready (rs := [7, 11]) (by kernel_rfl) (by simp) ?_
        refine AllReadyH.cons rfl (fun KK hK => ?_) (AllReadyH.cons rfl (fun KK hK => ?_) AllReadyH.nil)
        · go_simp
          refine (HNX.out wr.drew (HI.out.rn.keep (Below.refl _ _).drew) (HTR.out.keep (Below.refl _ _).drew)).mono ?_
          rintro e w2 ⟨v, lv2, fv2, rfl, ⟨rv, tv, rfl, p1, p2, p3, p4⟩, hn2, hf2, hr2⟩
          go_wp2_with fail
          refine hK.out _ _ trivial (fun _ => ?_)
          clear hK
          try simp only [Act.put, List.setIfInBounds_toArray, List.set_cons_zero, List.set_cons_succ]
          refine take_d19 (i := 8) (d := some 19) (v := ?_) rfl rfl (by kernel_rfl) (by kernel_rfl) (by kernel_rfl) (fun _ _ _ h => h) (Or.inl ⟨by rfl, ?_⟩) (by assumption) ?_
          rotate_left
          · intro w hSw
            (try dsimp only at hSw)
            go_simp
            try with_reducible rfl
          try simp only [Act.put, List.setIfInBounds_toArray, List.set_cons_zero, List.set_cons_succ]
          refine take_d19 (i := 9) (d := some 28) (v := ?_) rfl rfl (by kernel_rfl) (by kernel_rfl) (by kernel_rfl) (fun _ _ _ h => h) (Or.inl ⟨by rfl, ?_⟩) (by assumption) ?_
          rotate_left
          · intro w hSw
            (try dsimp only at hSw)
            go_simp
            try with_reducible rfl
          try simp only [Act.put, List.setIfInBounds_toArray, List.set_cons_zero, List.set_cons_succ]
          refine take_d19 (i := 10) (d := some 29) (v := ?_) rfl rfl (by kernel_rfl) (by kernel_rfl) (by kernel_rfl) (fun _ _ _ h => h) (Or.inl ⟨by rfl, ?_⟩) (by assumption) ?_
          rotate_left
          · intro w hSw
            (try dsimp only at hSw)
            go_simp
            try with_reducible rfl
          try simp only [Act.put, List.setIfInBounds_toArray, List.set_cons_zero, List.set_cons_succ]
          refine wpAnyH_ready (rs := [11]) (by kernel_rfl) (by simp) ?_
          refine AllReadyH.cons rfl (fun KK hK => ?_) AllReadyH.nil
          go_simp
          refine hK.out _ _ trivial (fun _ => ?_)
          clear hK
          try simp only [Act.put, List.setIfInBounds_toArray, List.set_cons_zero, List.set_cons_succ]
          refine take_d19 (i := 12) (d := some 7) (v := ?_) rfl rfl (by kernel_rfl) (by kernel_rfl) (by kernel_rfl) (fun _ _ _ h => h) (Or.inl ⟨by rfl, ?_⟩) (by assumption) ?_
          rotate_left
          · intro w hSw
            (try dsimp only at hSw)
            go_simp
            try with_reducible rfl
          try simp only [Act.put, List.setIfInBounds_toArray, List.set_cons_zero, List.set_cons_succ]
          refine wpAnyH_ready (rs := [13]) (by kernel_rfl) (by simp) ?_
          refine AllReadyH.cons rfl (fun KK hK => ?_) AllReadyH.nil
          obtain ⟨ro, rc, hrv⟩ := own_shape p1
          obtain ⟨tq, tc, htv⟩ := own_shape p2
          subst hrv htv
          refine step_store19 rfl 49 _ _ rfl (w2.heap.size) (pcC p (.slice ro p.rq.fs.length rc) (.slice tq p.fs.length tc)) rfl rfl 49 _ ((heap_alloc_last w2 (.cells pcZ 49))) sizePc21 rfl (by simp [Value.oneCell', pcC]) ?_
          intro wf haf huf
          have hq := rq_fin21 (wr := wr) (b := b) (lvi := lvi) (fvi := fvi) (Nat.le_refl _) (((LF.of_below (Below.refl _ _).drew).trans hf2 (fun _ _ => id)).trans (LF.of_below (bl_alloc w2 (.cells pcZ 49))) (fun _ _ => id)) (hn2.keep (bl_alloc w2 (.cells pcZ 49))) hr2 (⟨_, _, rfl, own_keep21 p1 (bl_alloc w2 (.cells pcZ 49)), own_keep21 p2 (bl_alloc w2 (.cells pcZ 49)), p3, p4⟩) (by first | exact hf2.size | exact Nat.le_refl _) HBW.out ((heap_alloc_last w2 (.cells pcZ 49))) haf huf
          refine hK.out _ _ trivial (fun _ => ?_)
          clear hK
          try simp only [Act.put]
          refine wpAnyH_done (by kernel_rfl) ?_ _
          go_wp2_with fail
          go_meet
          exact ⟨_, _, _, _, _, rfl, rfl, hid' hq⟩
        · go_simp
          refine hK.out _ _ trivial (fun _ => ?_)
          clear hK
          try simp only [Act.put, List.setIfInBounds_toArray, List.set_cons_zero, List.set_cons_succ]
          refine wpAnyH_ready (rs := [7]) (by kernel_rfl) (by simp) ?_
          refine AllReadyH.cons rfl (fun KK hK => ?_) AllReadyH.nil
          go_simp
          refine (HNX.out (wr.drew.alloc (.cells pcZ 49)) ((HI.out.rn.keep (Below.refl _ _).drew).keep (bl_alloc wr.drew (.cells pcZ 49))) ((HTR.out.keep (Below.refl _ _).drew).keep (bl_alloc wr.drew (.cells pcZ 49)))).mono ?_
          rintro e w2 ⟨v, lv2, fv2, rfl, ⟨rv, tv, rfl, p1, p2, p3, p4⟩, hn2, hf2, hr2⟩
          go_wp2_with fail
          refine hK.out _ _ trivial (fun _ => ?_)
          clear hK
          try simp only [Act.put, List.setIfInBounds_toArray, List.set_cons_zero, List.set_cons_succ]
          have hz := hf2.ar (heap_alloc_last wr.drew (.cells pcZ 49)) (fun hk => by have h1 := (HI.out.rn.rs _ hk).2; have h2 : wr.drew.heap.size = wr.heap.size := rfl; omega)
          refine take_d19 (i := 8) (d := some 19) (v := ?_) rfl rfl (by kernel_rfl) (by kernel_rfl) (by kernel_rfl) (fun _ _ _ h => h) (Or.inl ⟨by rfl, ?_⟩) (by assumption) ?_
          rotate_left
          · intro w hSw
            (try dsimp only at hSw)
            go_simp
            try with_reducible rfl
          try simp only [Act.put, List.setIfInBounds_toArray, List.set_cons_zero, List.set_cons_succ]
          refine take_d19 (i := 9) (d := some 28) (v := ?_) rfl rfl (by kernel_rfl) (by kernel_rfl) (by kernel_rfl) (fun _ _ _ h => h) (Or.inl ⟨by rfl, ?_⟩) (by assumption) ?_
          rotate_left
          · intro w hSw
            (try dsimp only at hSw)
            go_simp
            try with_reducible rfl
          try simp only [Act.put, List.setIfInBounds_toArray, List.set_cons_zero, List.set_cons_succ]
          refine take_d19 (i := 10) (d := some 29) (v := ?_) rfl rfl (by kernel_rfl) (by kernel_rfl) (by kernel_rfl) (fun _ _ _ h => h) (Or.inl ⟨by rfl, ?_⟩) (by assumption) ?_
          rotate_left
          · intro w hSw
            (try dsimp only at hSw)
            go_simp
            try with_reducible rfl
          try simp only [Act.put, List.setIfInBounds_toArray, List.set_cons_zero, List.set_cons_succ]
          refine take_d19 (i := 12) (d := some 7) (v := ?_) rfl rfl (by kernel_rfl) (by kernel_rfl) (by kernel_rfl) (fun _ _ _ h => h) (Or.inl ⟨by rfl, ?_⟩) (by assumption) ?_
          rotate_left
          · intro w hSw
            (try dsimp only at hSw)
            go_simp
            try with_reducible rfl
          try simp only [Act.put, List.setIfInBounds_toArray, List.set_cons_zero, List.set_cons_succ]
          refine wpAnyH_ready (rs := [13]) (by kernel_rfl) (by simp) ?_
          refine AllReadyH.cons rfl (fun KK hK => ?_) AllReadyH.nil
          obtain ⟨ro, rc, hrv⟩ := own_shape p1
          obtain ⟨tq, tc, htv⟩ := own_shape p2
          subst hrv htv
          refine step_store19 rfl 49 _ _ rfl (wr.heap.size) (pcC p (.slice ro p.rq.fs.length rc) (.slice tq p.fs.length tc)) rfl rfl 49 _ (hz) sizePc21 rfl (by simp [Value.oneCell', pcC]) ?_
          intro wf haf huf
          have hq := rq_fin21 (wr := wr) (b := b) (lvi := lvi) (fvi := fvi) ((bl_alloc wr.drew (.cells pcZ 49)).size) (((LF.of_below (Below.refl _ _).drew).trans (LF.of_below (bl_alloc wr.drew (.cells pcZ 49))) (fun _ _ => id)).trans hf2 (fun _ _ => id)) (hn2) hr2 (⟨_, _, rfl, p1, p2, p3, p4⟩) (by first | exact hf2.size | exact Nat.le_refl _) HBW.out (hz) haf huf
          refine hK.out _ _ trivial (fun _ => ?_)
          clear hK
          try simp only [Act.put]
          refine wpAnyH_done (by kernel_rfl) ?_ _
          go_wp2_with fail
          go_meet
          exact ⟨_, _, _, _, _, rfl, rfl, hid' hq⟩
      · go_simp
        refine hK.out _ _ trivial (fun _ => ?_)
        clear hK
        try simp only [Act.put, List.setIfInBounds_toArray, List.set_cons_zero, List.set_cons_succ]
        refine wpAnyH_ready (rs := [3]) (by kernel_rfl) (by simp) ?_
        refine AllReadyH.cons rfl (fun KK hK => ?_) AllReadyH.nil
        go_simp
        refine hK.out _ _ trivial (fun _ => ?_)
        clear hK
        try simp only [Act.put, List.setIfInBounds_toArray, List.set_cons_zero, List.set_cons_succ]
        refine wpAnyH_ready (rs := [7]) (by kernel_rfl) (by simp) ?_
        refine AllReadyH.cons rfl (fun KK hK => ?_) AllReadyH.nil
        go_simp
        refine (HNX.out (wr.drew.alloc (.cells pcZ 49)) ((HI.out.rn.keep (Below.refl _ _).drew).keep (bl_alloc wr.drew (.cells pcZ 49))) ((HTR.out.keep (Below.refl _ _).drew).keep (bl_alloc wr.drew (.cells pcZ 49)))).mono ?_
        rintro e w2 ⟨v, lv2, fv2, rfl, ⟨rv, tv, rfl, p1, p2, p3, p4⟩, hn2, hf2, hr2⟩
        go_wp2_with fail
        refine hK.out _ _ trivial (fun _ => ?_)
        clear hK
        try simp only [Act.put, List.setIfInBounds_toArray, List.set_cons_zero, List.set_cons_succ]
        have hz := hf2.ar (heap_alloc_last wr.drew (.cells pcZ 49)) (fun hk => by have h1 := (HI.out.rn.rs _ hk).2; have h2 : wr.drew.heap.size = wr.heap.size := rfl; omega)
        refine take_d19 (i := 8) (d := some 19) (v := ?_) rfl rfl (by kernel_rfl) (by kernel_rfl) (by kernel_rfl) (fun _ _ _ h => h) (Or.inl ⟨by rfl, ?_⟩) (by assumption) ?_
        rotate_left
        · intro w hSw
          (try dsimp only at hSw)
          go_simp
          try with_reducible rfl
        try simp only [Act.put, List.setIfInBounds_toArray, List.set_cons_zero, List.set_cons_succ]
        refine take_d19 (i := 9) (d := some 28) (v := ?_) rfl rfl (by kernel_rfl) (by kernel_rfl) (by kernel_rfl) (fun _ _ _ h => h) (Or.inl ⟨by rfl, ?_⟩) (by assumption) ?_
        rotate_left
        · intro w hSw
          (try dsimp only at hSw)
          go_simp
          try with_reducible rfl
        try simp only [Act.put, List.setIfInBounds_toArray, List.set_cons_zero, List.set_cons_succ]
        refine take_d19 (i := 10) (d := some 29) (v := ?_) rfl rfl (by kernel_rfl) (by kernel_rfl) (by kernel_rfl) (fun _ _ _ h => h) (Or.inl ⟨by rfl, ?_⟩) (by assumption) ?_
        rotate_left
        · intro w hSw
          (try dsimp only at hSw)
          go_simp
          try with_reducible rfl
        try simp only [Act.put, List.setIfInBounds_toArray, List.set_cons_zero, List.set_cons_succ]
        refine take_d19 (i := 12) (d := some 7) (v := ?_) rfl rfl (by kernel_rfl) (by kernel_rfl) (by kernel_rfl) (fun _ _ _ h => h) (Or.inl ⟨by rfl, ?_⟩) (by assumption) ?_
        rotate_left
        · intro w hSw
          (try dsimp only at hSw)
          go_simp
          try with_reducible rfl
        try simp only [Act.put, List.setIfInBounds_toArray, List.set_cons_zero, List.set_cons_succ]
        refine wpAnyH_ready (rs := [13]) (by kernel_rfl) (by simp) ?_
        refine AllReadyH.cons rfl (fun KK hK => ?_) AllReadyH.nil
        obtain ⟨ro, rc, hrv⟩ := own_shape p1
        obtain ⟨tq, tc, htv⟩ := own_shape p2
        subst hrv htv
        refine step_store19 rfl 49 _ _ rfl (wr.heap.size) (pcC p (.slice ro p.rq.fs.length rc) (.slice tq p.fs.length tc)) rfl rfl 49 _ (hz) sizePc21 rfl (by simp [Value.oneCell', pcC]) ?_
        intro wf haf huf
        have hq := rq_fin21 (wr := wr) (b := b) (lvi := lvi) (fvi := fvi) ((bl_alloc wr.drew (.cells pcZ 49)).size) (((LF.of_below (Below.refl _ _).drew).trans (LF.of_below (bl_alloc wr.drew (.cells pcZ 49))) (fun _ _ => id)).trans hf2 (fun _ _ => id)) (hn2) hr2 (⟨_, _, rfl, p1, p2, p3, p4⟩) (by first | exact hf2.size | exact Nat.le_refl _) HBW.out (hz) haf huf
        refine hK.out _ _ trivial (fun _ => ?_)
        clear hK
        try simp only [Act.put]
        refine wpAnyH_done (by kernel_rfl) ?_ _
        go_wp2_with fail
        go_meet
        exact ⟨_, _, _, _, _, rfl, rfl, hid' hq⟩
    case rest =>
      obtain ⟨ab, rv, tv, lv2, fv2, rfl, rfl, HQ1⟩ := hcut
      have HLF : Hid (LF (RS b lv fv) w1 wc) := hid' (lf_rs HI.out.lf HI.out.rw HQ1.out.lf)
      have HRW : Hid (RW w1.heap.size lv fv lv2 fv2) := hid' (RW.trans HI.out.rw HQ1.out.rw HI.out.lf.size)
      have HA5 := hid' (HQ1.out.lf.ar HI.out.box (fun hk => by
        rcases hk with hk | hk | hk
        · exact HN0.out (.inl hk)
        · rcases HI.out.rw.1 _ hk with h | h
          · exact HN0.out (.inr (.inl h))
          · have := HRL1.out; omega
        · rcases HI.out.rw.2 _ hk with h | h
          · exact HN0.out (.inr (.inr h))
          · have := HRL1.out; omega))
      have HABR : Hid (ab ≠ rb) := hid' (fun e => by have h1 := HQ1.out.lo; have h2 := HI.out.lf.size; have h3 := HRL1.out; omega)
      have m0 : wc.cell? ⟨ab, 0, none⟩ = some (.int .u8 p.mark) := HQ1.out.box.cell 0 _ rfl
      have HFD : Hid (Hr.feed si (d.data.toList.drop k) = if qn = 0 || !(p.mark == 0) then (qn, p, s') else (qn + (Hr.feed s' ((d.data.toList.drop k).drop qn)).1, (Hr.feed s' ((d.data.toList.drop k).drop qn)).2)) := hid' (by
        have := Hr.nx_feed si (d.data.toList.drop k)
        rw [HNXE.out] at this
        exact this)
      have hqb : k + qn ≤ n := by
        have h1 := Hr.nx_n si (d.data.toList.drop k)
        rw [HNXE.out, List.length_drop, HDL.out] at h1
        simp only at h1
        omega
      have HQB := hid' hqb
      have hqi : (k : Int) + (qn : Int) ≤ 1048576 := by omega
      clear kc2 kc2d kc2a eN hkd
      by_cases hq0 : qn = 0
      · have hq1 : ((qn : Int) == 0) = true := by rw [beq_iff_eq]; omega
        have HE : Hid (Q = (qn + k, p, s')) := hid' (by rw [← HQ.out, HI.out.fd, HFD.out, hq0]; rfl)
        clear hq0
        go_upto_region 7 with fail
        refine wp_region_held_drew (S := fun W => Ar W ab 49 (pcC p rv tv)) (by kernel_rfl) (HQ1.out.box.drew) (fun hHeld => ?_)
        refine take_d19 (i := 0) (d := some 40) (v := ?_) rfl rfl (by kernel_rfl) (by kernel_rfl) (by kernel_rfl) (fun _ _ _ h => h) (Or.inl ⟨by rfl, ?_⟩) (by assumption) ?_
        rotate_left
        · intro w hSw
          (try dsimp only at hSw)
          go_simp
          try with_reducible rfl
        try simp only [Act.put, List.setIfInBounds_toArray, List.set_cons_zero, List.set_cons_succ]
        refine take_d19 (i := 1) (d := some 41) (v := ?_) rfl rfl (by kernel_rfl) (by kernel_rfl) (by kernel_rfl) (fun _ _ _ h => h) (Or.inl ⟨by rfl, ?_⟩) (by assumption) ?_
        rotate_left
        · intro w hSw
          (try dsimp only at hSw)
          have c0 : w.cell? ⟨ab, 0, none⟩ = some (.int .u8 p.mark) := hSw.cell 0 _ rfl
          have c1 : w.cell? ⟨ab, 1, none⟩ = some (.string p.rq.m) := hSw.cell 1 _ rfl
          have c2 : w.cell? ⟨ab, 2, none⟩ = some (.string p.rq.s) := hSw.cell 2 _ rfl
          have c3 : w.cell? ⟨ab, 3, none⟩ = some (.string p.rq.a) := hSw.cell 3 _ rfl
          have c4 : w.cell? ⟨ab, 4, none⟩ = some (.string p.rq.p) := hSw.cell 4 _ rfl
          have c5 : w.cell? ⟨ab, 5, none⟩ = some (rv) := hSw.cell 5 _ rfl
          have c6 : w.cell? ⟨ab, 6, none⟩ = some (.string ⟨#[]⟩) := hSw.cell 6 _ rfl
          have c7 : w.cell? ⟨ab, 7, none⟩ = some (.slice none 0 0) := hSw.cell 7 _ rfl
          have c8 : w.cell? ⟨ab, 8, none⟩ = some (.bool p.wait) := hSw.cell 8 _ rfl
          have c9 : w.cell? ⟨ab, 9, none⟩ = some (.bool p.last) := hSw.cell 9 _ rfl
          have c10 : w.cell? ⟨ab, 10, none⟩ = some (.bool p.old) := hSw.cell 10 _ rfl
          have c11 : w.cell? ⟨ab, 11, none⟩ = some (.bool p.has) := hSw.cell 11 _ rfl
          have c12 : w.cell? ⟨ab, 12, none⟩ = some (.string p.bd) := hSw.cell 12 _ rfl
          have c13 : w.cell? ⟨ab, 13, none⟩ = some (tv) := hSw.cell 13 _ rfl
          have c14 : w.cell? ⟨ab, 14, none⟩ = some (.int .i64 p.st) := hSw.cell 14 _ rfl
          go_simp
          try with_reducible rfl
        try simp only [Act.put, List.setIfInBounds_toArray, List.set_cons_zero, List.set_cons_succ]
        refine take_d19 (i := 2) (d := some 4) (v := ?_) rfl rfl (by kernel_rfl) (by kernel_rfl) (by kernel_rfl) (fun _ _ _ h => h) (Or.inl ⟨by rfl, ?_⟩) (by assumption) ?_
        rotate_left
        · intro w hSw
          (try dsimp only at hSw)
          go_simp
          try with_reducible rfl
        try simp only [Act.put, List.setIfInBounds_toArray, List.set_cons_zero, List.set_cons_succ]
        refine wpAnyH_ready (rs := [3]) (by kernel_rfl) (by simp) ?_
        refine AllReadyH.cons rfl (fun KK hK => ?_) AllReadyH.nil
        refine step_store19 rfl 49 _ _ rfl rb (pcC p rv tv) rfl rfl 49 _ (HA5.out.drew) sizePc21 rfl (by obtain ⟨rv', tv', hv', k1, k2, _⟩ := HQ1.out.pw; obtain ⟨qa, qb, hqa⟩ := own_shape k1; obtain ⟨qc, qd, hqc⟩ := own_shape k2; subst hqa hqc; rw [show pcC p rv tv = pcC p _ _ from by injection hv']; simp [Value.oneCell', pcC]) ?_
        intro wf haf huf
        refine hK.out _ _ (ar_upd HQ1.out.box.drew huf HABR.out) (fun _ => ?_)
        clear hK
        try simp only [Act.put]
        refine wpAnyH_done (by kernel_rfl) ?_ _
        go_wp2
        have hld := ldPc21 haf
        exact bodyPost_ret (v := .tuple #[.int .i64 ((k : Int) + (qn : Int)), .agg (pcC p rv tv)]) (by simp [results, Tryz.results17, asAddr, hld]) rfl (by
          rw [HE.out, show ((k : Int) + (qn : Int)) = ((qn + k : Nat) : Int) from by omega]
          exact np_up21 (up_on21 (c := pcZ) HA5.out.drew HB1.out HRB.out HRL1.out (HLF.out.trans (LF.of_below (Below.refl _ _).drew) (fun _ _ => id)) (HQ1.out.rn.keep (Below.refl _ _).drew) HRW.out (pcw_keep21 HQ1.out.pw (Below.refl _ _).drew) HLT.out huf))
      · have hq1 : ((qn : Int) == 0) = false := by rw [beq_eq_false_iff_ne]; omega
        by_cases hm0 : p.mark = 0
        · have hm1 : (p.mark != 0) = false := by unfold bne; rw [hm0]; rfl
          have HN2 : Hid (LR21 w1 B b rb lv fv s d.data.toList (k + qn) s' lv2 fv2 wc) := hid' (by
            have hk := Hr.nx_ok si HI.out.ok (d.data.toList.drop k)
            have hl := Hr.nx_LM si (d.data.toList.drop k)
            rw [HNXE.out] at hk hl
            refine ⟨HQ1.out.rn, hk.1, by have h1 := hk.2; have h2 := HI.out.cost; simp only at h1; omega, Hr.LM.trans HI.out.lm hl, ?_, HLF.out, HRW.out, HA5.out⟩
            rw [HI.out.fd, HFD.out, if_neg (by rw [hm0]; simp [hq0]), List.drop_drop]
            simp only [Prod.mk.injEq, and_true]
            omega)
          have hq2 : 1 ≤ qn := by omega
          clear hq0 hm0
          go_wp2_with fail
          go_roundw
          case rel => exact ⟨k + qn, s', lv2, fv2, by go_num, HQB.out, HN2⟩
          case measure => have := HQB.out; simp [intOf]; omega
        · have hm1 : (p.mark != 0) = true := by unfold bne; rw [show (p.mark == 0) = false from by rw [beq_eq_false_iff_ne]; exact hm0]; rfl
          have HE : Hid (Q = (qn + k, p, s')) := hid' (by rw [← HQ.out, HI.out.fd, HFD.out, if_pos (by simp [hm0])])
          clear hq0 hm0
          go_upto_region 7 with fail
          refine wp_region_held_drew (S := fun W => Ar W ab 49 (pcC p rv tv)) (by kernel_rfl) (HQ1.out.box.drew) (fun hHeld => ?_)
          refine take_d19 (i := 0) (d := some 40) (v := ?_) rfl rfl (by kernel_rfl) (by kernel_rfl) (by kernel_rfl) (fun _ _ _ h => h) (Or.inl ⟨by rfl, ?_⟩) (by assumption) ?_
          rotate_left
          · intro w hSw
            (try dsimp only at hSw)
            go_simp
            try with_reducible rfl
          try simp only [Act.put, List.setIfInBounds_toArray, List.set_cons_zero, List.set_cons_succ]
          refine take_d19 (i := 1) (d := some 41) (v := ?_) rfl rfl (by kernel_rfl) (by kernel_rfl) (by kernel_rfl) (fun _ _ _ h => h) (Or.inl ⟨by rfl, ?_⟩) (by assumption) ?_
          rotate_left
          · intro w hSw
            (try dsimp only at hSw)
            have c0 : w.cell? ⟨ab, 0, none⟩ = some (.int .u8 p.mark) := hSw.cell 0 _ rfl
            have c1 : w.cell? ⟨ab, 1, none⟩ = some (.string p.rq.m) := hSw.cell 1 _ rfl
            have c2 : w.cell? ⟨ab, 2, none⟩ = some (.string p.rq.s) := hSw.cell 2 _ rfl
            have c3 : w.cell? ⟨ab, 3, none⟩ = some (.string p.rq.a) := hSw.cell 3 _ rfl
            have c4 : w.cell? ⟨ab, 4, none⟩ = some (.string p.rq.p) := hSw.cell 4 _ rfl
            have c5 : w.cell? ⟨ab, 5, none⟩ = some (rv) := hSw.cell 5 _ rfl
            have c6 : w.cell? ⟨ab, 6, none⟩ = some (.string ⟨#[]⟩) := hSw.cell 6 _ rfl
            have c7 : w.cell? ⟨ab, 7, none⟩ = some (.slice none 0 0) := hSw.cell 7 _ rfl
            have c8 : w.cell? ⟨ab, 8, none⟩ = some (.bool p.wait) := hSw.cell 8 _ rfl
            have c9 : w.cell? ⟨ab, 9, none⟩ = some (.bool p.last) := hSw.cell 9 _ rfl
            have c10 : w.cell? ⟨ab, 10, none⟩ = some (.bool p.old) := hSw.cell 10 _ rfl
            have c11 : w.cell? ⟨ab, 11, none⟩ = some (.bool p.has) := hSw.cell 11 _ rfl
            have c12 : w.cell? ⟨ab, 12, none⟩ = some (.string p.bd) := hSw.cell 12 _ rfl
            have c13 : w.cell? ⟨ab, 13, none⟩ = some (tv) := hSw.cell 13 _ rfl
            have c14 : w.cell? ⟨ab, 14, none⟩ = some (.int .i64 p.st) := hSw.cell 14 _ rfl
            go_simp
            try with_reducible rfl
          try simp only [Act.put, List.setIfInBounds_toArray, List.set_cons_zero, List.set_cons_succ]
          refine take_d19 (i := 2) (d := some 4) (v := ?_) rfl rfl (by kernel_rfl) (by kernel_rfl) (by kernel_rfl) (fun _ _ _ h => h) (Or.inl ⟨by rfl, ?_⟩) (by assumption) ?_
          rotate_left
          · intro w hSw
            (try dsimp only at hSw)
            go_simp
            try with_reducible rfl
          try simp only [Act.put, List.setIfInBounds_toArray, List.set_cons_zero, List.set_cons_succ]
          refine wpAnyH_ready (rs := [3]) (by kernel_rfl) (by simp) ?_
          refine AllReadyH.cons rfl (fun KK hK => ?_) AllReadyH.nil
          refine step_store19 rfl 49 _ _ rfl rb (pcC p rv tv) rfl rfl 49 _ (HA5.out.drew) sizePc21 rfl (by obtain ⟨rv', tv', hv', k1, k2, _⟩ := HQ1.out.pw; obtain ⟨qa, qb, hqa⟩ := own_shape k1; obtain ⟨qc, qd, hqc⟩ := own_shape k2; subst hqa hqc; rw [show pcC p rv tv = pcC p _ _ from by injection hv']; simp [Value.oneCell', pcC]) ?_
          intro wf haf huf
          refine hK.out _ _ (ar_upd HQ1.out.box.drew huf HABR.out) (fun _ => ?_)
          clear hK
          try simp only [Act.put]
          refine wpAnyH_done (by kernel_rfl) ?_ _
          go_wp2
          have hld := ldPc21 haf
          exact bodyPost_ret (v := .tuple #[.int .i64 ((k : Int) + (qn : Int)), .agg (pcC p rv tv)]) (by simp [results, Tryz.results17, asAddr, hld]) rfl (by
            rw [HE.out, show ((k : Int) + (qn : Int)) = ((qn + k : Nat) : Int) from by omega]
            exact np_up21 (up_on21 (c := pcZ) HA5.out.drew HB1.out HRB.out HRL1.out (HLF.out.trans (LF.of_below (Below.refl _ _).drew) (fun _ _ => id)) (HQ1.out.rn.keep (Below.refl _ _).drew) HRW.out (pcw_keep21 HQ1.out.pw (Below.refl _ _).drew) HLT.out huf))

end Go.Proofs.YtbpdhcfmdkmoiaaGreatDoor
