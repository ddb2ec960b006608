/-
  The reader's addField: by its contract.
-/
import Derived.Test.YtbpdhcfmdkmoiaaGreatDoorPnAV
namespace Go.Proofs.YtbpdhcfmdkmoiaaGreatDoor
open Go.RowKit

/-- What a piece of the reader leaves behind. -/
def UP (w : World) (B b : Nat) (lv fv : Value) (p : Hr.Pc) (s' : Hr.St) (e : Ending) (w' : World) : Prop :=
  ∃ v lv' fv', e = .returned v ∧ PcW w' B (RS b lv' fv') v p ∧ RN w' B b (rnx b s'.md) lv' fv' s' ∧ LF (RS b lv fv) w w' ∧ RW w.heap.size lv fv lv' fv'
/-- The library's variables, below the reader. -/
def TBr (B : Nat) (w : World) : Prop := ∃ w0 : World, w0.heap.size = B ∧ TB w0 ∧ Below B w0 w
theorem TBr.tb {B : Nat} {w : World} (h : TBr B w) : TB w := by
  obtain ⟨w0, h0, hT, hb⟩ := h
  exact hT.keep (h0.symm ▸ hb)
theorem TBr.lb {B : Nat} {w : World} (h : TBr B w) : B ≤ w.heap.size := by
  obtain ⟨w0, h0, _, hb⟩ := h
  exact h0 ▸ hb.size
theorem TBr.keep {B : Nat} {w w' : World} (h : TBr B w) (hb : Below w.heap.size w w') : TBr B w' := by
  have hl := h.lb
  obtain ⟨w0, h0, hT, h1⟩ := h
  exact ⟨w0, h0, hT, h1.trans (hb.mono hl)⟩
theorem TBr.lf {B : Nat} {w w' : World} {S : Nat → Prop} (h : TBr B w) (hf : LF S w w') (hs : ∀ k, S k → B ≤ k) : TBr B w' := by
  have hl := h.lb
  obtain ⟨w0, h0, hT, h1⟩ := h
  exact ⟨w0, h0, hT, h1.trans (hf.below hl hs)⟩
/-- A piece that was laid into a box of one's own. -/
theorem up_box21 {w0 w w2 wf : World} {B b rb : Nat} {lv fv lv' fv' : Value} {p : Hr.Pc} {s' : Hr.St} {v : Value} (hb : Below w0.heap.size w0 w) (hr : w0.heap.size ≤ rb) (hrw : rb < w.heap.size)
    (h1 : LF (RS b lv fv) w w2) (h2 : RN w2 B b (rnx b s'.md) lv' fv' s') (h3 : RW w.heap.size lv fv lv' fv') (h4 : PcW w2 B (RS b lv' fv') v p) (hrl : ∀ k, RS b lv fv k → k < w0.heap.size) (hp : ∀ k, (∃ rv tv, v = .agg (pcC p rv tv) ∧ (rv.ownBlock = some k ∨ tv.ownBlock = some k)) → k ≠ rb) (hu : Upd rb w2 wf) :
    UP w0 B b lv fv p s' (.returned v) wf := by
  have hl1 : LF (RS b lv fv) w0 wf := ((LF.of_below hb).trans h1 (fun _ _ => id)).trans (LF.of_upd (S := fun k => k = rb) hu rfl) (fun k hk e => by omega)
  have hnr : ∀ k, RS b lv' fv' k → k ≠ rb := by
    rintro k (rfl | hk | hk) e
    · have := hrl k (.inl rfl); omega
    · rcases h3.1 k hk with h | h
      · have := hrl k (.inr (.inl h)); omega
      · omega
    · rcases h3.2 k hk with h | h
      · have := hrl k (.inr (.inr h)); omega
      · omega
  obtain ⟨rv, tv, hv, k1, k2, k3, k4⟩ := h4
  refine ⟨v, lv', fv', rfl, ⟨rv, tv, hv, own_same k1 (fun k hk => hu.block k (hp k ⟨rv, tv, hv, .inl hk⟩)), own_same k2 (fun k hk => hu.block k (hp k ⟨rv, tv, hv, .inr hk⟩)), k3, k4⟩, h2.other (LF.of_upd (S := fun k => k = rb) hu rfl) (fun k hk e => hnr k hk e), hl1, ⟨fun k hk => (h3.1 k hk).imp id (fun h => Nat.le_trans hb.size h), fun k hk => (h3.2 k hk).imp id (fun h => Nat.le_trans hb.size h)⟩⟩
/-- The same of a plain piece. -/
theorem up_plain21 {w0 w w2 wf : World} {B b rb : Nat} {lv fv lv' fv' : Value} {p : Hr.Pc} {s' : Hr.St} (hb : Below w0.heap.size w0 w) (hr : w0.heap.size ≤ rb) (hrw : rb < w.heap.size)
    (h1 : LF (RS b lv fv) w w2) (h2 : RN w2 B b (rnx b s'.md) lv' fv' s') (h3 : RW w.heap.size lv fv lv' fv') (hq : p.rq.fs = []) (hf : p.fs = []) (hrl : ∀ k, RS b lv fv k → k < w0.heap.size) (hu : Upd rb w2 wf) :
    UP w0 B b lv fv p s' (.returned (pv0 p)) wf :=
  up_box21 hb hr hrw h1 h2 h3 (PcW.plain w2 B _ p hq hf) hrl (by
    rintro k ⟨rv, tv, hv, hk⟩
    have e : (pcC p (.slice none 0 0) (.slice none 0 0)) = pcC p rv tv := by unfold pv0 at hv; injection hv
    have e1 : Value.slice none 0 0 = rv := by have := congrArg (fun a : Array Value => a[5]?) e; simpa [pcC] using this
    have e2 : Value.slice none 0 0 = tv := by have := congrArg (fun a : Array Value => a[13]?) e; simpa [pcC] using this
    rw [← e1, ← e2] at hk
    simp [Value.ownBlock] at hk) hu

set_option maxHeartbeats 4000000 in
set_option maxRecDepth 20000 in
theorem caddf21 (B b : Nat) (lv fv : Value) (s : Hr.St) (x : ByteArray) (w : World) (h : RN w B b (rnx b s.md) lv fv s) (hT : TB w) (hc : Hr.cost s + x.size ≤ 1048576) :
    Calls Tryz.prog 52 #[.pointer (some ⟨b, 0, none⟩), .string x] w (UP w B b lv fv (Hr.addF s x.data.toList).1 (Hr.addF s x.data.toList).2) := by
  obtain ⟨fb, hfb⟩ : ∃ fb, Hr.fldB x.data.toList = fb := ⟨_, rfl⟩
  obtain ⟨a, c, hac⟩ : ∃ a c, fldV21 x.data.toList = .agg #[.string a, .string c] := by unfold fldV21; split <;> exact ⟨_, _, rfl⟩
  have HFL : Hid (fb = true → Hr.fld x.data.toList = ⟨a, c⟩) := hid' (fun h0 => by
    rw [← hfb] at h0
    unfold fldV21 at hac
    rw [h0] at hac
    injection hac with hac
    have e1 := congrArg (fun z : Array Value => z[0]?) hac
    have e2 := congrArg (fun z : Array Value => z[1]?) hac
    simp only [List.getElem?_toArray, List.getElem?_cons_zero, List.getElem?_cons_succ, Option.some.injEq, Value.string.injEq] at e1 e2
    rw [show Hr.fld x.data.toList = ⟨(Hr.fld x.data.toList).n, (Hr.fld x.data.toList).v⟩ from rfl, e1, e2])
  have HAF : Hid (Hr.addF s x.data.toList = if fb then (if s.L < Ms.size (s.fs ++ [Hr.fld x.data.toList]) then Hr.broke s 431 else (Hr.pc0, { s with fs := s.fs ++ [Hr.fld x.data.toList] })) else Hr.broke s 400) := hid' (by unfold Hr.addF; rw [hfb])
  have HSZ : Hid (fb = true → a.size ≤ 1048576 ∧ c.size ≤ 1048576) := hid' (fun h0 => by
    have h1 := Hr.fld_size x.data.toList (hfb.trans h0)
    rw [HFL.out h0, ← Lib.size_eq] at h1
    simp only at h1
    omega)
  have HCF : Hid (∀ W, Below w.heap.size w W → Calls Tryz.prog 64 #[.string x] W fun e w' => e = .returned (.tuple #[.agg #[.string a, .string c], .bool fb]) ∧ Below W.heap.size W w') := hid' (fun W hb => by
    have := cfield21 x W (hT.keep hb) (by omega)
    rwa [hac, hfb] at this)
  have HLN : Hid (s.fs.length ≤ 1048576 ∧ Ms.size s.fs ≤ 1125899906842624) := hid' (by have := Hr.size_fsH s.fs; unfold Hr.cost at hc; exact ⟨by omega, by omega⟩)
  have H := hid' h
  have HLT : Hid (∀ k, RS b lv fv k → k < w.heap.size) := hid' (fun k hk => (h.rs k hk).2)
  have HB0 := hid' h.lb
  obtain ⟨P, hP⟩ : ∃ P, Hr.addF s x.data.toList = P := ⟨_, rfl⟩
  rw [hP] at HAF ⊢
  clear hfb hac h hT hc hP
  go_enter Tryz.func52, Tryz.ntmps52
  go_wp2_with (refine wpl_alloc 49 rfl rfl _ zeroPc21 ?_)
  intro rb w1 hrb ha1 hl1
  have HB1 := hid' hl1
  have HA1 := hid' ha1
  have HRB : Hid (w.heap.size ≤ rb) := hid' (by omega)
  have HR1 := hid' (H.out.keep hl1)
  have HRL : Hid (rb < w1.heap.size) := hid' ha1.lt
  clear ha1 hl1 hrb
  go_wp2_with (go_at_call 64; refine (HCF.out _ HB1.out).mono ?_; rintro e w2 ⟨rfl, hb2⟩; refine Hid.out ?_)
  refine hid' ?_
  have HB2 := hid' (below_two HB1.out hb2)
  have HA2 := hid' (HA1.out.keep hb2)
  have HR2 := hid' (HR1.out.keep hb2)
  have HRL2 : Hid (rb < w2.heap.size) := hid' (Nat.lt_of_lt_of_le HRL.out hb2.size)
  clear hb2 HB1 HA1 HR1 HRL HCF
  have hX := fd_new w2 ⟨a, c⟩
  have hbX := bl_alloc w2 (.cells #[.string a, .string c] 52)
  simp only at hX
  have HB3 := hid' (below_two HB2.out hbX)
  have HA3 := hid' (HA2.out.keep hbX)
  have HR3 := hid' (HR2.out.keep hbX)
  have HRL3 : Hid (rb < (w2.alloc (.cells #[.string a, .string c] 52)).heap.size) := hid' (Nat.lt_of_lt_of_le HRL2.out hbX.size)
  have HX := hid' hX
  clear hX hbX
  go_upto_region 2 with fail
  obtain ⟨xb, hxb⟩ : ∃ xb, w2.heap.size = xb := ⟨_, rfl⟩
  rw [hxb] at HX ⊢
  have HXB : Hid (∀ k, RS b lv fv k → k ≠ xb) := hid' (fun k hk e => by have := (HR2.out.rs k hk).2; omega)
  clear hxb HB2 HA2 HR2 HRL2
  generalize w2.alloc (.cells #[.string a, .string c] 52) = w3 at *
  have HNR : Hid (∀ lv' fv' : Value, RW w3.heap.size lv fv lv' fv' → ¬ RS b lv' fv' rb) := hid' (fun lv' fv' hr hk => by
    rcases hk with hk | hk | hk
    · have := HLT.out b (.inl rfl); have := HRB.out; omega
    · rcases hr.1 _ hk with h | h
      · have := HLT.out _ (.inr (.inl h)); have := HRB.out; omega
      · have := HRL3.out; omega
    · rcases hr.2 _ hk with h | h
      · have := HLT.out _ (.inr (.inr h)); have := HRB.out; omega
      · have := HRL3.out; omega)
  cases fb
  · have HE : Hid (P = Hr.broke s 400) := hid' HAF.out
    go_wp2_with (go_at_call 33; refine (cbreaks21 B b _ _ _ _ 400 _ HR3.out).mono ?_; rintro e w9 ⟨rfl, h9, hf9⟩; refine Hid.out ?_)
    refine hid' ?_
    have H9 := hid' h9
    have HF9 := hid' hf9
    have HA9 := hid' (hf9.ar HA3.out (HNR.out _ _ (RW.refl _ _ _)))
    clear h9 hf9
    go_wp2_with (refine wpl_store 49 _ _ rfl rfl rb (pcC (Hr.brk 400) (.slice none 0 0) (.slice none 0 0)) (by kernel_rfl) (by kernel_rfl) _ _ HA9.out sizePc21 rfl (by simp [Value.oneCell', pcC]) ?_)
    intro wf hwf huf
    go_wp2
    have hld := ldPc21 hwf
    exact bodyPost_ret (v := pv0 (Hr.brk 400)) (by simp [results, Tryz.results52, asAddr, hld, pv0]) rfl (by rw [HE.out]; exact up_plain21 HB3.out HRB.out HRL3.out HF9.out H9.out (RW.none _ _ _) rfl rfl HLT.out huf)
  · have HF := hid' (HFL.out rfl)
    have HS2 := hid' (HSZ.out rfl)
    have y0 : w3.drew.cell? ⟨xb, 0, none⟩ = some (.string a) := HX.out.cell 0 _ rfl
    have y1 : w3.drew.cell? ⟨xb, 1, none⟩ = some (.string c) := HX.out.cell 1 _ rfl
    have HAD := hid' (cadd21 B b (rnx b s.md) lv fv s ⟨a, c⟩ w3.drew (HR3.out.keep (Below.refl _ _).drew) HLN.out.1 HLN.out.2 HS2.out.1 HS2.out.2)
    simp only at HAD
    go_upto_region 4 with fail
    refine wp_region_held_drew (S := fun W => W.cell? ⟨xb, 0, none⟩ = some (.string a) ∧ W.cell? ⟨xb, 1, none⟩ = some (.string c)) (by kernel_rfl) (⟨y0, y1⟩) (fun hHeld => ?_)
    refine take_d19 (i := 0) (d := some 16) (v := ?_) rfl rfl (by kernel_rfl) (by kernel_rfl) (by kernel_rfl) (fun _ _ _ h => h) (Or.inl ⟨by rfl, ?_⟩) (by assumption) ?_
    rotate_left
    · intro w hSw
      (try dsimp only at hSw)
      go_simp
      try with_reducible rfl
    try simp only [Act.put, List.setIfInBounds_toArray, List.set_cons_zero, List.set_cons_succ]
    refine take_d19 (i := 1) (d := some 17) (v := ?_) rfl rfl (by kernel_rfl) (by kernel_rfl) (by kernel_rfl) (fun _ _ _ h => h) (Or.inl ⟨by rfl, ?_⟩) (by assumption) ?_
    rotate_left
    · intro w hSw
      (try dsimp only at hSw)
      go_simp
      try with_reducible rfl
    try simp only [Act.put, List.setIfInBounds_toArray, List.set_cons_zero, List.set_cons_succ]
    refine take_d19 (i := 2) (d := some 18) (v := ?_) rfl rfl (by kernel_rfl) (by kernel_rfl) (by kernel_rfl) (fun _ _ _ h => h) (Or.inl ⟨by rfl, ?_⟩) (by assumption) ?_
    rotate_left
    · intro w hSw
      (try dsimp only at hSw)
      go_simp
      try with_reducible rfl
    try simp only [Act.put, List.setIfInBounds_toArray, List.set_cons_zero, List.set_cons_succ]
    refine take_d19 (i := 3) (d := some 19) (v := ?_) rfl rfl (by kernel_rfl) (by kernel_rfl) (by kernel_rfl) (fun _ _ _ h => h) (Or.inl ⟨by rfl, ?_⟩) (by assumption) ?_
    rotate_left
    · intro w hSw
      (try dsimp only at hSw)
      obtain ⟨y0, y1⟩ := hSw
      go_simp
      try with_reducible rfl
    try simp only [Act.put, List.setIfInBounds_toArray, List.set_cons_zero, List.set_cons_succ]
    refine wpAnyH_ready (rs := [4]) (by kernel_rfl) (by simp) ?_
    refine AllReadyH.cons rfl (fun K hK => ?_) AllReadyH.nil
    go_simp
    refine (HAD.out).mono ?_
    rintro e w4 ⟨rfl, fv4, h4, hf4, hw4⟩
    have z0 := (hf4.ar (HX.out.drew) (fun hk => HXB.out xb hk rfl)).cell 0 _ rfl
    have z1 := (hf4.ar (HX.out.drew) (fun hk => HXB.out xb hk rfl)).cell 1 _ rfl
    have HA4 := hid' (hf4.ar (HA3.out.drew) (HNR.out _ _ (RW.refl _ _ _)))
    have H4 := hid' h4
    have HF4 := hid' (show LF (RS b lv fv) w3 w4 from (LF.of_below (Below.refl _ _).drew).trans hf4 (fun _ _ => id))
    have HW4 : Hid (RW w3.heap.size lv fv lv fv4) := hid' hw4
    clear hf4 h4 hw4
    go_wp2_with fail
    refine hK.out _ _ (⟨z0, z1⟩) (fun _ => ?_)
    clear hK K
    try simp only [Act.put]
    refine wpAnyH_done (by kernel_rfl) ?_ _
    obtain ⟨z, hz⟩ : ∃ z, Ms.size (s.fs ++ [(⟨a, c⟩ : Fd)]) = z := ⟨_, rfl⟩
    have k10 : w4.cell? ⟨b, 10, none⟩ = some (.int .i64 (z : Int)) := H4.out.obj.cell 10 _ (by rw [← hz]; rfl)
    have k0 : w4.cell? ⟨b, 0, none⟩ = some (.int .i64 (s.L : Int)) := H4.out.obj.cell 0 _ rfl
    have HE : Hid (P = if s.L < z then Hr.broke s 431 else (Hr.pc0, { s with fs := s.fs ++ [(⟨a, c⟩ : Fd)] })) := hid' (by rw [HAF.out, HF.out, hz]; rfl)
    have HRL4 : Hid (rb < w4.heap.size) := hid' (Nat.lt_of_lt_of_le HRL3.out HF4.out.size)
    have H4D := hid' (H4.out.keep (Below.refl _ _).drew)
    have HA4D := hid' (HA4.out.keep (Below.refl _ _).drew)
    have HF4D := hid' (HF4.out.trans (LF.of_below (Below.refl _ _).drew) (fun _ _ => id) : LF (RS b lv fv) w3 w4.drew)
    clear hz z0 z1
    by_cases hlt : s.L < z
    · have hlt2 : (s.L : Int) < (z : Int) := by omega
      have HE2 : Hid (P = Hr.broke s 431) := hid' (by rw [HE.out, if_pos hlt])
      go_wp2
      go_region
      go_wp2_with (go_at_call 33; refine (cbreaks21 B b _ _ _ _ 431 _ H4D.out).mono ?_; rintro e w9 ⟨rfl, h9, hf9⟩; refine Hid.out ?_)
      refine hid' ?_
      have H9 := hid' h9
      have HF9 := hid' hf9
      have HA9 := hid' (hf9.ar HA4D.out (HNR.out _ _ HW4.out))
      clear h9 hf9
      go_wp2_with (refine wpl_store 49 _ _ rfl rfl rb (pcC (Hr.brk 431) (.slice none 0 0) (.slice none 0 0)) (by kernel_rfl) (by kernel_rfl) _ _ HA9.out sizePc21 rfl (by simp [Value.oneCell', pcC]) ?_)
      intro wf hwf huf
      go_wp2
      have hld := ldPc21 hwf
      exact bodyPost_ret (v := pv0 (Hr.brk 431)) (by simp [results, Tryz.results52, asAddr, hld, pv0]) rfl (by rw [HE2.out]; exact up_plain21 HB3.out HRB.out HRL3.out (lf_rs HF4D.out HW4.out HF9.out) H9.out (RW.none _ _ _) rfl rfl HLT.out huf)
    · have hlt2 : ¬ (s.L : Int) < (z : Int) := by omega
      have HE2 : Hid (P = (Hr.pc0, { s with fs := s.fs ++ [(⟨a, c⟩ : Fd)] })) := hid' (by rw [HE.out, if_neg hlt])
      go_wp2
      go_region
      go_wp2_with (refine wpl_store 49 _ _ rfl rfl rb (pcC Hr.pc0 (.slice none 0 0) (.slice none 0 0)) (by kernel_rfl) (by kernel_rfl) _ _ HA4D.out sizePc21 rfl (by simp [Value.oneCell', pcC]) ?_)
      intro wf hwf huf
      go_wp2
      have hld := ldPc21 hwf
      exact bodyPost_ret (v := pv0 Hr.pc0) (by simp [results, Tryz.results52, asAddr, hld, pv0]) rfl (by rw [HE2.out]; exact up_plain21 HB3.out HRB.out HRL3.out HF4D.out H4D.out HW4.out rfl rfl HLT.out huf)

end Go.Proofs.YtbpdhcfmdkmoiaaGreatDoor
