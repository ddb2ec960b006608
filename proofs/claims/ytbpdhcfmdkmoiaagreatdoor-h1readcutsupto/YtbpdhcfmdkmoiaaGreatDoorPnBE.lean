/-
  The reader's useField: by its contract.
-/
import Derived.Test.YtbpdhcfmdkmoiaaGreatDoorPnAZ
import Derived.Test.YtbpdhcfmdkmoiaaGreatDoorPnBD
namespace Go.Proofs.YtbpdhcfmdkmoiaaGreatDoor
open Go.RowKit

/-- What a request in a box leaves, beside a row that may have grown. -/
structure OQ21 (B : Nat) (fv : Value) (n : Nat) (xs : List Value) (R : Ms.Rq) (w3 : World) (ab : Nat) (rv : Value) (wx : World) : Prop where
  lf : LF (fun k => fv.ownBlock = some k) w3 wx
  row : wx.ownsRow B 52 2 fv n xs
  box : Ar wx ab 47 (rqC R.m R.s R.a R.p rv ⟨#[]⟩ (.slice none 0 0))
  fs : wx.ownsRow w3.heap.size 52 2 rv R.fs.length (fC R.fs)
  lo : w3.heap.size ≤ ab
theorem oq_fin21 {B : Nat} {fv rv : Value} {n ab : Nat} {xs : List Value} {R : Ms.Rq} {w3 w5 wf : World} {c : Array Value} (hl : LF (fun k => fv.ownBlock = some k) w3 w5) (h3 : w3.ownsRow B 52 2 fv n xs) (h5 : w5.ownsRow B 52 2 fv n xs) (hr : w5.ownsRow w3.heap.size 52 2 rv R.fs.length (fC R.fs)) (hab : w3.heap.size ≤ ab) (ha : Ar w5 ab 47 c)
    (hf : Ar wf ab 47 (rqC R.m R.s R.a R.p rv ⟨#[]⟩ (.slice none 0 0))) (hu : Upd ab w5 wf) : OQ21 B fv n xs R w3 ab rv wf :=
  ⟨hl.trans (LF.of_upd (S := fun k => k = ab) hu rfl) (fun k hk e => by omega), own_same h5 (fun k hk => hu.block k (fun e => by have := own_lt h3 k hk; omega)), hf, own_same hr (fun k hk => hu.block k (own_apart hr ha (by decide) k hk)), hab⟩

theorem unw21 {c : Bool} {p q : Prop} (hc : c = false) (hq : q) : if c = true then p else q := by subst hc; exact hq

set_option maxHeartbeats 8000000 in
set_option maxRecDepth 20000 in
theorem cfieldU21 (B b : Nat) (lv fv : Value) (s : Hr.St) (x : ByteArray) (w : World) (h : RN w B b (rnx b s.md) lv fv s) (hT : TBr B w) (hc : Hr.cost s + x.size ≤ 1048576) :
    Calls Tryz.prog 45 #[.pointer (some ⟨b, 0, none⟩), .string x] w (UP w B b lv fv (Hr.useField s x.data.toList).1 (Hr.useField s x.data.toList).2) := by
  have hem : x.data.toList.isEmpty = (x.toList == []) := by rw [Lib.toList_data]; cases x.data.toList <;> rfl
  obtain ⟨P, hP⟩ : ∃ P, Hr.useField s x.data.toList = P := ⟨_, rfl⟩
  have HP : Hid (P = if (x.toList == []) then (if Hr.headE s == 0 then (Hr.headP s, Hr.behind s) else Hr.broke s (Hr.headE s)) else Hr.addF s x.data.toList) := hid' (by rw [← hP, ← hem]; rfl)
  rw [hP]
  have HC := hid' hc
  have HCL := hid' (Hr.cost_len hc)
  have HT := hid' hT
  clear hP hT hc hem
  have H := hid' h
  have HLT : Hid (∀ k, RS b lv fv k → k < w.heap.size) := hid' (fun k hk => (h.rs k hk).2)
  have HB0 := hid' h.lb
  clear h
  go_enter Tryz.func45, Tryz.ntmps45
  go_wp2_with (refine wpl_alloc 49 rfl rfl _ zeroPc21 ?_)
  intro rb w1 hrb ha1 hl1
  have HB1 := hid' hl1
  have HA1 := hid' ha1
  have HRB : Hid (w.heap.size ≤ rb) := hid' (by omega)
  have HR1 := hid' (H.out.keep hl1)
  have HRL1 : Hid (rb < w1.heap.size) := hid' ha1.lt
  have HN0 : Hid (¬ RS b lv fv rb) := hid' (fun hk => by have := HLT.out rb hk; omega)
  clear ha1 hl1 hrb
  have HT1 := hid' (HT.out.keep HB1.out)
  cases c0 : (x.toList == [])
  · have HE : Hid (P = Hr.addF s x.data.toList) := hid' (by rw [HP.out, c0]; rfl)
    obtain ⟨p, s', hps⟩ : ∃ p s', Hr.addF s x.data.toList = (p, s') := ⟨_, _, rfl⟩
    have HU := hid' (caddf21 B b lv fv s x w1 HR1.out HT1.out.tb HC.out)
    rw [hps] at HU HE
    clear hps
    go_wp2_with fail
    refine HU.out.mono ?_
    rintro e w2 ⟨v, lv2, fv2, rfl, ⟨rv, tv, rfl, k1, k2, k3, k4⟩, hn2, hf2, hr2⟩
    obtain ⟨ro, rc, hrv⟩ := own_shape k1
    obtain ⟨tq, tc, htv⟩ := own_shape k2
    have HP4 : Hid (PcW w2 B (RS b lv2 fv2) (.agg (pcC p rv tv)) p) := hid' ⟨rv, tv, rfl, k1, k2, k3, k4⟩
    have HN2 := hid' hn2
    have HF2 := hid' hf2
    have HR2 := hid' hr2
    have HA2 := hid' (hf2.ar HA1.out HN0.out)
    subst hrv htv
    clear k1 k2 k3 k4 hn2 hf2 hr2
    go_wp2_with (refine wpl_store 49 _ _ rfl rfl rb (pcC p (.slice ro p.rq.fs.length rc) (.slice tq p.fs.length tc)) (by kernel_rfl) (by kernel_rfl) _ _ HA2.out sizePc21 rfl (by simp [Value.oneCell', pcC]) ?_)
    intro wf hwf huf
    go_wp2
    have hld := ldPc21 hwf
    exact bodyPost_ret (v := .agg (pcC p (.slice ro p.rq.fs.length rc) (.slice tq p.fs.length tc))) (by simp [results, Tryz.results45, asAddr, hld]) rfl (by rw [HE.out]; exact up_on21 HA2.out HB1.out HRB.out HRL1.out HF2.out HN2.out HR2.out HP4.out HLT.out huf)
  have HP2 : Hid (P = if Hr.headE s == 0 then (Hr.headP s, Hr.behind s) else Hr.broke s (Hr.headE s)) := hid' (by rw [HP.out, c0]; rfl)
  clear HP
  have k1 : w1.cell? ⟨b, 1, none⟩ = some (.int .i64 (s.M : Int)) := HR1.out.obj.cell 1 _ rfl
  have k6 : w1.cell? ⟨b, 6, none⟩ = some (.string s.m) := HR1.out.obj.cell 6 _ rfl
  have k7 : w1.cell? ⟨b, 7, none⟩ = some (.string s.t) := HR1.out.obj.cell 7 _ rfl
  have k8 : w1.cell? ⟨b, 8, none⟩ = some (.bool s.old) := HR1.out.obj.cell 8 _ rfl
  obtain ⟨fo, fc, hfv⟩ := own_shape HR1.out.fl
  subst hfv
  have k9 : w1.cell? ⟨b, 9, none⟩ = some (.slice fo s.fs.length fc) := HR1.out.obj.cell 9 _ rfl
  have hbz := bl_alloc w1 (.cells #[.string ⟨#[]⟩, .string ⟨#[]⟩, .bool false] 62)
  have q6 := (hbz.cell (cell_lt k6)).trans k6
  have q7 := (hbz.cell (cell_lt k7)).trans k7
  have q8 := (hbz.cell (cell_lt k8)).trans k8
  have q9 := (hbz.cell (cell_lt k9)).trans k9
  have hby := bl_alloc w1 (.cells #[.string s.m, .string s.t, .bool s.old] 62)
  have p9 := (hby.cell (cell_lt k9)).trans k9
  clear hbz hby
  go_wp2
  go_region
  clear k6 k7 k8 q6 q7 q8 q9 p9
  have hbx : Below w1.heap.size w1 (w1.alloc (.cells #[.string s.m, .string s.t, .bool s.old] 62)).drew := (bl_alloc w1 _).drew
  have HD2 : Hid (Ar (w1.alloc (.cells #[.string s.m, .string s.t, .bool s.old] 62)).drew w1.heap.size 62 #[.string s.m, .string s.t, .bool s.old]) := hid' (heap_alloc_last w1 _)
  obtain ⟨hd, hhd⟩ : ∃ hd, w1.heap.size = hd := ⟨_, rfl⟩
  have HDN : Hid (∀ k, RS b lv (.slice fo s.fs.length fc) k → k ≠ hd) := hid' (fun k hk e => by have := HLT.out k hk; have := HB1.out.size; omega)
  have HDR : Hid (hd ≠ rb) := hid' (fun e => by have := HRL1.out; omega)
  rw [hhd] at HD2 ⊢
  obtain ⟨w2, hw2⟩ : ∃ w2, (w1.alloc (.cells #[.string s.m, .string s.t, .bool s.old] 62)).drew = w2 := ⟨_, rfl⟩
  rw [hw2] at hbx HD2 ⊢
  have HT2 := hid' (HT1.out.keep hbx)
  have HBX := hid' hbx
  clear hw2 hhd
  have HB2 := hid' (below_two HB1.out hbx)
  have HA2 := hid' (HA1.out.keep hbx)
  have HR2 := hid' (HR1.out.keep hbx)
  have HRL2 : Hid (rb < w2.heap.size) := hid' (Nat.lt_of_lt_of_le HRL1.out hbx.size)
  clear hbx
  have d0 : w2.drew.cell? ⟨hd, 0, none⟩ = some (.string s.m) := HD2.out.cell 0 _ rfl
  have d1 : w2.drew.cell? ⟨hd, 1, none⟩ = some (.string s.t) := HD2.out.cell 1 _ rfl
  have d2 : w2.drew.cell? ⟨hd, 2, none⟩ = some (.bool s.old) := HD2.out.cell 2 _ rfl
  have d3 : w2.drew.cell? ⟨b, 1, none⟩ = some (.int .i64 (s.M : Int)) := HR2.out.obj.cell 1 _ rfl
  obtain ⟨E, hE⟩ : ∃ E, Hr.lenE s = E := ⟨_, rfl⟩
  obtain ⟨k, hk⟩ : ∃ k : Nat, (if E == 0 then Hr.lenN s.fs else 0) = (k : Int) := by
    refine ⟨(if E == 0 then Hr.lenN s.fs else 0).toNat, (Int.toNat_of_nonneg ?_).symm⟩
    split
    · exact Hr.lenN_nn _
    · exact Int.le_refl _
  have HLE : Hid (Calls Tryz.prog 53 #[.agg #[.string s.m, .string s.t, .bool s.old], .slice fo s.fs.length fc, .int .i64 (s.M : Int)] w2.drew fun e w' => e = .returned (.tuple #[.int .i64 (k : Int), .int .i64 E]) ∧ Below w2.drew.heap.size w2.drew w') := hid' (by
    have := clen21 s.m s.t s (.slice fo s.fs.length fc) w2.drew (FW.of_own (HR2.out.keep (Below.refl _ _).drew).fl) (HT2.out.keep (Below.refl _ _).drew).tb HCL.out.2.1 HCL.out.2.2.2.1
    unfold lenP21 at this
    rwa [hE, hk] at this)
  have HE0 := hid' hE
  have HK := hid' hk
  clear hE hk k1 k9
  go_upto_region 4 with fail
  refine wp_region_held_drew (S := fun W => W.cell? ⟨hd, 0, none⟩ = some (.string s.m) ∧ W.cell? ⟨hd, 1, none⟩ = some (.string s.t) ∧ W.cell? ⟨hd, 2, none⟩ = some (.bool s.old) ∧ W.cell? ⟨b, 1, none⟩ = some (.int .i64 (s.M : Int))) (by kernel_rfl) (⟨d0, d1, d2, d3⟩) (fun hHeld => ?_)
  refine take_d19 (i := 0) (d := some 28) (v := ?_) rfl rfl (by kernel_rfl) (by kernel_rfl) (by kernel_rfl) (fun _ _ _ h => h) (Or.inl ⟨by rfl, ?_⟩) (by assumption) ?_
  rotate_left
  · intro w hSw
    (try dsimp only at hSw)
    obtain ⟨d0, d1, d2, d3⟩ := hSw
    go_simp
    try with_reducible rfl
  try simp only [Act.put, List.setIfInBounds_toArray, List.set_cons_zero, List.set_cons_succ]
  refine take_d19 (i := 1) (d := some 29) (v := ?_) rfl rfl (by kernel_rfl) (by kernel_rfl) (by kernel_rfl) (fun _ _ _ h => h) (Or.inl ⟨by rfl, ?_⟩) (by assumption) ?_
  rotate_left
  · intro w hSw
    (try dsimp only at hSw)
    go_simp
    try with_reducible rfl
  try simp only [Act.put, List.setIfInBounds_toArray, List.set_cons_zero, List.set_cons_succ]
  refine take_d19 (i := 2) (d := some 30) (v := ?_) rfl rfl (by kernel_rfl) (by kernel_rfl) (by kernel_rfl) (fun _ _ _ h => h) (Or.inl ⟨by rfl, ?_⟩) (by assumption) ?_
  rotate_left
  · intro w hSw
    (try dsimp only at hSw)
    go_simp
    try with_reducible rfl
  try simp only [Act.put, List.setIfInBounds_toArray, List.set_cons_zero, List.set_cons_succ]
  refine take_d19 (i := 3) (d := some 31) (v := ?_) rfl rfl (by kernel_rfl) (by kernel_rfl) (by kernel_rfl) (fun _ _ _ h => h) (Or.inl ⟨by rfl, ?_⟩) (by assumption) ?_
  rotate_left
  · intro w hSw
    (try dsimp only at hSw)
    go_simp
    try with_reducible rfl
  try simp only [Act.put, List.setIfInBounds_toArray, List.set_cons_zero, List.set_cons_succ]
  refine take_d19 (i := 4) (d := some 32) (v := ?_) rfl rfl (by kernel_rfl) (by kernel_rfl) (by kernel_rfl) (fun _ _ _ h => h) (Or.inl ⟨by rfl, ?_⟩) (by assumption) ?_
  rotate_left
  · intro w hSw
    (try dsimp only at hSw)
    go_simp
    try with_reducible rfl
  try simp only [Act.put, List.setIfInBounds_toArray, List.set_cons_zero, List.set_cons_succ]
  refine take_d19 (i := 5) (d := some 33) (v := ?_) rfl rfl (by kernel_rfl) (by kernel_rfl) (by kernel_rfl) (fun _ _ _ h => h) (Or.inl ⟨by rfl, ?_⟩) (by assumption) ?_
  rotate_left
  · intro w hSw
    (try dsimp only at hSw)
    obtain ⟨d0, d1, d2, d3⟩ := hSw
    go_simp
    try with_reducible rfl
  try simp only [Act.put, List.setIfInBounds_toArray, List.set_cons_zero, List.set_cons_succ]
  refine wpAnyH_ready (rs := [6]) (by kernel_rfl) (by simp) ?_
  refine AllReadyH.cons rfl (fun K hK => ?_) AllReadyH.nil
  go_simp
  refine (HLE.out).mono ?_
  rintro e w3 ⟨rfl, hb3⟩
  have z0 := (hb3.cell (cell_lt d0)).trans d0
  have z1 := (hb3.cell (cell_lt d1)).trans d1
  have z2 := (hb3.cell (cell_lt d2)).trans d2
  have z3 := (hb3.cell (cell_lt d3)).trans d3
  have hb23 : Below w2.heap.size w2 w3 := below_two ((Below.refl _ _).drew) hb3
  have HT3 := hid' (HT2.out.keep hb23)
  have HD3 := hid' (HD2.out.keep hb23)
  have HBX3 := hid' (below_two HBX.out hb23)
  have HB3 := hid' (below_two HB2.out hb23)
  have HA3 := hid' (HA2.out.keep hb23)
  have HR3 := hid' (HR2.out.keep hb23)
  have HRL3 : Hid (rb < w3.heap.size) := hid' (Nat.lt_of_lt_of_le HRL2.out hb23.size)
  clear hb23
  clear hb3 d0 d1 d2 d3
  go_wp2_with fail
  refine hK.out _ _ (⟨z0, z1, z2, z3⟩) (fun _ => ?_)
  clear hK K z0 z1 z2 z3
  try simp only [Act.put, List.setIfInBounds_toArray, List.set_cons_zero, List.set_cons_succ]
  refine take_d19 (i := 7) (d := some 27) (v := ?_) rfl rfl (by kernel_rfl) (by kernel_rfl) (by kernel_rfl) (fun _ _ _ h => h) (Or.inl ⟨by rfl, ?_⟩) (by assumption) ?_
  rotate_left
  · intro w hSw
    (try dsimp only at hSw)
    go_simp
    try with_reducible rfl
  try simp only [Act.put, List.setIfInBounds_toArray, List.set_cons_zero, List.set_cons_succ]
  refine take_d19 (i := 8) (d := some 35) (v := ?_) rfl rfl (by kernel_rfl) (by kernel_rfl) (by kernel_rfl) (fun _ _ _ h => h) (Or.inl ⟨by rfl, ?_⟩) (by assumption) ?_
  rotate_left
  · intro w hSw
    (try dsimp only at hSw)
    go_simp
    try with_reducible rfl
  try simp only [Act.put, List.setIfInBounds_toArray, List.set_cons_zero, List.set_cons_succ]
  refine take_d19 (i := 9) (d := some 36) (v := ?_) rfl rfl (by kernel_rfl) (by kernel_rfl) (by kernel_rfl) (fun _ _ _ h => h) (Or.inl ⟨by rfl, ?_⟩) (by assumption) ?_
  rotate_left
  · intro w hSw
    (try dsimp only at hSw)
    go_simp
    try with_reducible rfl
  try simp only [Act.put, List.setIfInBounds_toArray, List.set_cons_zero, List.set_cons_succ]
  refine take_d19 (i := 10) (d := some 7) (v := ?_) rfl rfl (by kernel_rfl) (by kernel_rfl) (by kernel_rfl) (fun _ _ _ h => h) (Or.inl ⟨by rfl, ?_⟩) (by assumption) ?_
  rotate_left
  · intro w hSw
    (try dsimp only at hSw)
    go_simp
    try with_reducible rfl
  try simp only [Act.put, List.setIfInBounds_toArray, List.set_cons_zero, List.set_cons_succ]
  refine take_d19 (i := 11) (d := some 8) (v := ?_) rfl rfl (by kernel_rfl) (by kernel_rfl) (by kernel_rfl) (fun _ _ _ h => h) (Or.inl ⟨by rfl, ?_⟩) (by assumption) ?_
  rotate_left
  · intro w hSw
    (try dsimp only at hSw)
    go_simp
    try with_reducible rfl
  try simp only [Act.put, List.setIfInBounds_toArray, List.set_cons_zero, List.set_cons_succ]
  try simp only [Act.put]
  refine wpAnyH_done (by kernel_rfl) ?_ _
  by_cases hE1 : E = 0
  rotate_left
  · have hne : (E != 0) = true := by rw [bne_iff_ne]; exact hE1
    have hne2 : (E == 0) = false := by rw [beq_eq_false_iff_ne]; exact hE1
    have HE : Hid (P = Hr.broke s E) := hid' (by
      have h1 : Hr.headE s = E := by unfold Hr.headE; rw [HE0.out, hne2]; rfl
      rw [HP2.out, h1, hne2]; rfl)
    clear hne2
    go_wp2_with (go_at_call 33; refine (cbreaks21 B b _ _ _ _ E _ HR3.out).mono ?_; rintro e w9 ⟨rfl, h9, hf9⟩; refine Hid.out ?_)
    refine hid' ?_
    have H9 := hid' h9
    have HF9 := hid' hf9
    have HA9 := hid' (hf9.ar HA3.out HN0.out)
    clear h9 hf9
    go_wp2_with (refine wpl_store 49 _ _ rfl rfl rb (pcC (Hr.brk E) (.slice none 0 0) (.slice none 0 0)) (by kernel_rfl) (by kernel_rfl) _ _ HA9.out sizePc21 rfl (by simp [Value.oneCell', pcC]) ?_)
    intro wf hwf huf
    go_wp2
    have hld := ldPc21 hwf
    exact bodyPost_ret (v := pv0 (Hr.brk E)) (by simp [results, Tryz.results45, asAddr, hld, pv0]) rfl (by rw [HE.out]; exact up_plain21 HB3.out HRB.out HRL3.out (HF9.out) H9.out (RW.none _ _ _) rfl rfl HLT.out huf)
  subst hE1
  obtain ⟨L, hL⟩ : ∃ L, Hr.withH s = L := ⟨_, rfl⟩
  obtain ⟨R, hR⟩ : ∃ R, Ms.oneR s.m s.t L = R := ⟨_, rfl⟩
  obtain ⟨E1, hE1⟩ : ∃ E1, Ms.oneE s.m s.t L = E1 := ⟨_, rfl⟩
  have hLL : L.length ≤ 1048576 ∧ ∀ f ∈ L, f.n.size ≤ 1048576 ∧ f.v.size ≤ 1048576 := by
    have h1 := HC.out
    have h2 := HCL.out.2.2.2.1
    unfold Hr.cost at h1
    rw [← hL]
    unfold Hr.withH
    split
    · refine ⟨by rw [List.length_append, List.length_singleton]; omega, fun f hf => ?_⟩
      rcases List.mem_append.1 hf with hf | hf
      · exact h2 f hf
      · rw [List.mem_singleton.1 hf]; exact ⟨by decide, by decide⟩
    · exact ⟨by omega, h2⟩
  have HW7 : Hid (∀ W, W.ownsRow B 52 2 (.slice fo s.fs.length fc) s.fs.length (fC s.fs) → B ≤ W.heap.size → Calls Tryz.prog 55 #[.agg #[.string s.m, .string s.t, .bool s.old], .slice fo s.fs.length fc] W fun e w' => (∃ v', e = .returned v' ∧ w'.ownsRow B 52 2 v' L.length (fC L)) ∧ w'.ownsRow B 52 2 (.slice fo s.fs.length fc) s.fs.length (fC s.fs) ∧ LF (fun k => (Value.slice fo s.fs.length fc).ownBlock = some k) W w') := hid' (fun W ho hB => by
    have := cwith21 B s.m s.t s.old (.slice fo s.fs.length fc) s.fs W ho hB HCL.out.2.1
    rwa [show hostE21 s.old s.fs = L from hL] at this)
  have HO7 : Hid (∀ (W : World) (v : Value), W.ownsRow B 52 2 v L.length (fC L) → TBr B W → Calls Tryz.prog 54 #[.string s.m, .string s.t, v] W fun e w' => (∃ rv, e = .returned (.tuple #[.agg #[.string R.m, .string R.s, .string R.a, .string R.p, rv, .string ⟨#[]⟩, .slice none 0 0], .int .i64 E1]) ∧ w'.ownsRow W.heap.size 52 2 rv R.fs.length (fC R.fs)) ∧ Below W.heap.size W w') := hid' (fun W v ho hT => by
    have := cone14 s.m s.t v L W (FW.of_own ho) hT.tb hLL.1 hLL.2 (by have := HCL.out.2.2.2.2.1; omega) HCL.out.2.2.2.2.2.1
    rw [hR, hE1] at this
    exact this)
  have HL := hid' hL
  have HRR := hid' hR
  have HE1 := hid' hE1
  have H3R := hid' HR3.out.fl
  have H3B := hid' HR3.out.lb
  clear hL hR hE1 hLL
  have d0 : w3.drew.cell? ⟨hd, 0, none⟩ = some (.string s.m) := HD3.out.cell 0 _ rfl
  have d1 : w3.drew.cell? ⟨hd, 1, none⟩ = some (.string s.t) := HD3.out.cell 1 _ rfl
  have d2 : w3.drew.cell? ⟨hd, 2, none⟩ = some (.bool s.old) := HD3.out.cell 2 _ rfl
  have HFT : Hid (∀ W W', TBr B W → (∀ k, (Value.slice fo s.fs.length fc).ownBlock = some k → B ≤ k) → LF (fun k => (Value.slice fo s.fs.length fc).ownBlock = some k) W W' → TBr B W') := hid' (fun W W' h1 h2 h3 => h1.lf h3 h2)
  have HFB : Hid (∀ k, (Value.slice fo s.fs.length fc).ownBlock = some k → B ≤ k ∧ k ≠ hd ∧ k < w3.heap.size) := hid' (fun k hk => ⟨own_le21 H3R.out k hk, HDN.out k (.inr (.inr hk)), own_lt H3R.out k hk⟩)
  go_upto_region 7 with fail
  go_cut [9, 10] from 42 to 53 (fun s9 s10 wx => ∃ ab rv, s9 = .pointer (some ⟨ab, 0, none⟩) ∧ s10 = .int .i64 E1 ∧ Hid (OQ21 B (.slice fo s.fs.length fc) s.fs.length (fC s.fs) R w3 ab rv wx))
  case first =>
    refine wp_region_held_drew (S := fun W => W.cell? ⟨hd, 0, none⟩ = some (.string s.m) ∧ W.cell? ⟨hd, 1, none⟩ = some (.string s.t) ∧ W.cell? ⟨hd, 2, none⟩ = some (.bool s.old)) (by kernel_rfl) (⟨d0, d1, d2⟩) (fun hHeld => ?_)
    refine take_d19 (i := 0) (d := some 43) (v := ?_) rfl rfl (by kernel_rfl) (by kernel_rfl) (by kernel_rfl) (fun _ _ _ h => h) (Or.inl ⟨by rfl, ?_⟩) (by assumption) ?_
    rotate_left
    · intro w hSw
      (try dsimp only at hSw)
      go_simp
      try with_reducible rfl
    try simp only [Act.put, List.setIfInBounds_toArray, List.set_cons_zero, List.set_cons_succ]
    refine take_d19 (i := 1) (d := some 44) (v := ?_) rfl rfl (by kernel_rfl) (by kernel_rfl) (by kernel_rfl) (fun _ _ _ h => h) (Or.inl ⟨by rfl, ?_⟩) (by assumption) ?_
    rotate_left
    · intro w hSw
      (try dsimp only at hSw)
      obtain ⟨d0, d1, d2⟩ := hSw
      go_simp
      try with_reducible rfl
    try simp only [Act.put, List.setIfInBounds_toArray, List.set_cons_zero, List.set_cons_succ]
    refine take_d19 (i := 2) (d := some 45) (v := ?_) rfl rfl (by kernel_rfl) (by kernel_rfl) (by kernel_rfl) (fun _ _ _ h => h) (Or.inl ⟨by rfl, ?_⟩) (by assumption) ?_
    rotate_left
    · intro w hSw
      (try dsimp only at hSw)
      go_simp
      try with_reducible rfl
    try simp only [Act.put, List.setIfInBounds_toArray, List.set_cons_zero, List.set_cons_succ]
    refine take_d19 (i := 3) (d := some 46) (v := ?_) rfl rfl (by kernel_rfl) (by kernel_rfl) (by kernel_rfl) (fun _ _ _ h => h) (Or.inl ⟨by rfl, ?_⟩) (by assumption) ?_
    rotate_left
    · intro w hSw
      (try dsimp only at hSw)
      obtain ⟨d0, d1, d2⟩ := hSw
      go_simp
      try with_reducible rfl
    try simp only [Act.put, List.setIfInBounds_toArray, List.set_cons_zero, List.set_cons_succ]
    refine take_d19 (i := 4) (d := some 47) (v := ?_) rfl rfl (by kernel_rfl) (by kernel_rfl) (by kernel_rfl) (fun _ _ _ h => h) (Or.inl ⟨by rfl, ?_⟩) (by assumption) ?_
    rotate_left
    · intro w hSw
      (try dsimp only at hSw)
      obtain ⟨d0, d1, d2⟩ := hSw
      go_simp
      try with_reducible rfl
    try simp only [Act.put, List.setIfInBounds_toArray, List.set_cons_zero, List.set_cons_succ]
    refine take_d19 (i := 5) (d := some 48) (v := ?_) rfl rfl (by kernel_rfl) (by kernel_rfl) (by kernel_rfl) (fun _ _ _ h => h) (Or.inl ⟨by rfl, ?_⟩) (by assumption) ?_
    rotate_left
    · intro w hSw
      (try dsimp only at hSw)
      go_simp
      try with_reducible rfl
    try simp only [Act.put, List.setIfInBounds_toArray, List.set_cons_zero, List.set_cons_succ]
    refine wpAnyH_ready (rs := [6, 11]) (by kernel_rfl) (by simp) ?_
    refine AllReadyH.cons rfl (fun KK hK => ?_) (AllReadyH.cons rfl (fun KK hK => ?_) AllReadyH.nil)
    · go_simp
      refine (HW7.out _ (own_keep21 H3R.out (Below.refl _ _).drew) (H3B.out)).mono ?_
      rintro e w4 ⟨⟨v7, rfl, hv7⟩, hk7, hl7⟩
      have hT7 : TBr B w4 := HFT.out _ _ (HT3.out.keep (Below.refl _ _).drew) (fun k hk => (HFB.out k hk).1) hl7
      have hD7 : Ar w4 hd 62 #[.string s.m, .string s.t, .bool s.old] := hl7.ar (HD3.out.drew) (fun hk => (HFB.out hd hk).2.1 rfl)
      have e0 := hD7.cell 0 _ rfl
      have e1 := hD7.cell 1 _ rfl
      have e2 := hD7.cell 2 _ rfl
      go_wp2_with fail
      refine hK.out _ _ ⟨e0, e1, e2⟩ (fun _ => ?_)
      clear hK
      try simp only [Act.put, List.setIfInBounds_toArray, List.set_cons_zero, List.set_cons_succ]
      refine wpAnyH_ready (rs := [7, 11]) (by kernel_rfl) (by simp) ?_
      refine AllReadyH.cons rfl (fun KK hK => ?_) (AllReadyH.cons rfl (fun KK hK => ?_) AllReadyH.nil)
      · go_simp
        refine (HO7.out _ v7 (hv7) (hT7)).mono ?_
        rintro e w5 ⟨⟨rv, rfl, hrv⟩, hb7⟩
        have hD8 : Ar w5 hd 62 #[.string s.m, .string s.t, .bool s.old] := Ar.keep (hD7) hb7
        have e0 := hD8.cell 0 _ rfl
        have e1 := hD8.cell 1 _ rfl
        have e2 := hD8.cell 2 _ rfl
        go_wp2_with fail
        refine hK.out _ _ ⟨e0, e1, e2⟩ (fun _ => ?_)
        clear hK
        try simp only [Act.put, List.setIfInBounds_toArray, List.set_cons_zero, List.set_cons_succ]
        refine take_d19 (i := 8) (d := some 42) (v := ?_) rfl rfl (by kernel_rfl) (by kernel_rfl) (by kernel_rfl) (fun _ _ _ h => h) (Or.inl ⟨by rfl, ?_⟩) (by assumption) ?_
        rotate_left
        · intro w hSw
          (try dsimp only at hSw)
          go_simp
          try with_reducible rfl
        try simp only [Act.put, List.setIfInBounds_toArray, List.set_cons_zero, List.set_cons_succ]
        refine take_d19 (i := 9) (d := some 51) (v := ?_) rfl rfl (by kernel_rfl) (by kernel_rfl) (by kernel_rfl) (fun _ _ _ h => h) (Or.inl ⟨by rfl, ?_⟩) (by assumption) ?_
        rotate_left
        · intro w hSw
          (try dsimp only at hSw)
          go_simp
          try with_reducible rfl
        try simp only [Act.put, List.setIfInBounds_toArray, List.set_cons_zero, List.set_cons_succ]
        refine take_d19 (i := 10) (d := some 52) (v := ?_) rfl rfl (by kernel_rfl) (by kernel_rfl) (by kernel_rfl) (fun _ _ _ h => h) (Or.inl ⟨by rfl, ?_⟩) (by assumption) ?_
        rotate_left
        · intro w hSw
          (try dsimp only at hSw)
          go_simp
          try with_reducible rfl
        try simp only [Act.put, List.setIfInBounds_toArray, List.set_cons_zero, List.set_cons_succ]
        refine wpAnyH_ready (rs := [11]) (by kernel_rfl) (by simp) ?_
        refine AllReadyH.cons rfl (fun KK hK => ?_) AllReadyH.nil
        go_simp
        have hD9 := Ar.keep (hD8) (bl_alloc w5 (.cells #[.string ⟨#[]⟩, .string ⟨#[]⟩, .string ⟨#[]⟩, .string ⟨#[]⟩, .slice none 0 0, .string ⟨#[]⟩, .slice none 0 0] 47))
        have e0 := hD9.cell 0 _ rfl
        have e1 := hD9.cell 1 _ rfl
        have e2 := hD9.cell 2 _ rfl
        refine hK.out _ _ ⟨e0, e1, e2⟩ (fun _ => ?_)
        clear hK
        try simp only [Act.put, List.setIfInBounds_toArray, List.set_cons_zero, List.set_cons_succ]
        refine wpAnyH_ready (rs := [12]) (by kernel_rfl) (by simp) ?_
        refine AllReadyH.cons rfl (fun KK hK => ?_) AllReadyH.nil
        refine step_store19 rfl 47 _ _ rfl (w5.heap.size) #[.string R.m, .string R.s, .string R.a, .string R.p, rv, .string ⟨#[]⟩, .slice none 0 0] rfl rfl 47 _ ((heap_alloc_last w5 (.cells #[.string ⟨#[]⟩, .string ⟨#[]⟩, .string ⟨#[]⟩, .string ⟨#[]⟩, .slice none 0 0, .string ⟨#[]⟩, .slice none 0 0] 47))) sizeRq14 rfl (by obtain ⟨qa, qb, hq⟩ := own_shape hrv; subst hq; simp [Value.oneCell']) ?_
        intro wf haf huf
        have hdf := ar_upd (hD9) huf (fun e => by have h1 := HD3.out.lt; have h2 : w3.heap.size ≤ (w5.heap.size) := Nat.le_trans hl7.size hb7.size; omega)
        have e0 := hdf.cell 0 _ rfl
        have e1 := hdf.cell 1 _ rfl
        have e2 := hdf.cell 2 _ rfl
        have hq := oq_fin21 (B := B) (R := R) ((((LF.of_below (Below.refl _ _).drew).trans hl7 (fun _ _ => id)).trans (LF.of_below hb7) (fun _ _ => id)).trans (LF.of_below (bl_alloc w5 (.cells #[.string ⟨#[]⟩, .string ⟨#[]⟩, .string ⟨#[]⟩, .string ⟨#[]⟩, .slice none 0 0, .string ⟨#[]⟩, .slice none 0 0] 47))) (fun _ _ => id)) H3R.out (own_keep21 (own_keep21 hk7 hb7) (bl_alloc w5 (.cells #[.string ⟨#[]⟩, .string ⟨#[]⟩, .string ⟨#[]⟩, .string ⟨#[]⟩, .slice none 0 0, .string ⟨#[]⟩, .slice none 0 0] 47))) (own_keep21 (own_base21 hrv hl7.size) (bl_alloc w5 (.cells #[.string ⟨#[]⟩, .string ⟨#[]⟩, .string ⟨#[]⟩, .string ⟨#[]⟩, .slice none 0 0, .string ⟨#[]⟩, .slice none 0 0] 47))) (Nat.le_trans hl7.size hb7.size) ((heap_alloc_last w5 (.cells #[.string ⟨#[]⟩, .string ⟨#[]⟩, .string ⟨#[]⟩, .string ⟨#[]⟩, .slice none 0 0, .string ⟨#[]⟩, .slice none 0 0] 47))) haf huf
        refine hK.out _ _ ⟨e0, e1, e2⟩ (fun _ => ?_)
        clear hK
        refine take_d19 (i := 13) (d := some 10) (v := ?_) rfl rfl (by kernel_rfl) (by kernel_rfl) (by kernel_rfl) (fun _ _ _ h => h) (Or.inl ⟨by rfl, ?_⟩) (by assumption) ?_
        rotate_left
        · intro w hSw
          (try dsimp only at hSw)
          go_simp
          try with_reducible rfl
        try simp only [Act.put]
        refine wpAnyH_done (by kernel_rfl) ?_ _
        go_wp2_with fail
        go_meet
        exact ⟨_, _, rfl, rfl, hid' hq⟩
      · go_simp
        have hD9 := Ar.keep (hD7) (bl_alloc w4 (.cells #[.string ⟨#[]⟩, .string ⟨#[]⟩, .string ⟨#[]⟩, .string ⟨#[]⟩, .slice none 0 0, .string ⟨#[]⟩, .slice none 0 0] 47))
        have e0 := hD9.cell 0 _ rfl
        have e1 := hD9.cell 1 _ rfl
        have e2 := hD9.cell 2 _ rfl
        refine hK.out _ _ ⟨e0, e1, e2⟩ (fun _ => ?_)
        clear hK
        try simp only [Act.put, List.setIfInBounds_toArray, List.set_cons_zero, List.set_cons_succ]
        refine wpAnyH_ready (rs := [7]) (by kernel_rfl) (by simp) ?_
        refine AllReadyH.cons rfl (fun KK hK => ?_) AllReadyH.nil
        go_simp
        refine (HO7.out _ v7 (own_keep21 hv7 (bl_alloc w4 (.cells #[.string ⟨#[]⟩, .string ⟨#[]⟩, .string ⟨#[]⟩, .string ⟨#[]⟩, .slice none 0 0, .string ⟨#[]⟩, .slice none 0 0] 47))) (hT7.keep (bl_alloc w4 (.cells #[.string ⟨#[]⟩, .string ⟨#[]⟩, .string ⟨#[]⟩, .string ⟨#[]⟩, .slice none 0 0, .string ⟨#[]⟩, .slice none 0 0] 47)))).mono ?_
        rintro e w5 ⟨⟨rv, rfl, hrv⟩, hb7⟩
        have hD8 : Ar w5 hd 62 #[.string s.m, .string s.t, .bool s.old] := Ar.keep (hD9) hb7
        have e0 := hD8.cell 0 _ rfl
        have e1 := hD8.cell 1 _ rfl
        have e2 := hD8.cell 2 _ rfl
        go_wp2_with fail
        refine hK.out _ _ ⟨e0, e1, e2⟩ (fun _ => ?_)
        clear hK
        try simp only [Act.put, List.setIfInBounds_toArray, List.set_cons_zero, List.set_cons_succ]
        refine take_d19 (i := 8) (d := some 42) (v := ?_) rfl rfl (by kernel_rfl) (by kernel_rfl) (by kernel_rfl) (fun _ _ _ h => h) (Or.inl ⟨by rfl, ?_⟩) (by assumption) ?_
        rotate_left
        · intro w hSw
          (try dsimp only at hSw)
          go_simp
          try with_reducible rfl
        try simp only [Act.put, List.setIfInBounds_toArray, List.set_cons_zero, List.set_cons_succ]
        refine take_d19 (i := 9) (d := some 51) (v := ?_) rfl rfl (by kernel_rfl) (by kernel_rfl) (by kernel_rfl) (fun _ _ _ h => h) (Or.inl ⟨by rfl, ?_⟩) (by assumption) ?_
        rotate_left
        · intro w hSw
          (try dsimp only at hSw)
          go_simp
          try with_reducible rfl
        try simp only [Act.put, List.setIfInBounds_toArray, List.set_cons_zero, List.set_cons_succ]
        refine take_d19 (i := 10) (d := some 52) (v := ?_) rfl rfl (by kernel_rfl) (by kernel_rfl) (by kernel_rfl) (fun _ _ _ h => h) (Or.inl ⟨by rfl, ?_⟩) (by assumption) ?_
        rotate_left
        · intro w hSw
          (try dsimp only at hSw)
          go_simp
          try with_reducible rfl
        try simp only [Act.put, List.setIfInBounds_toArray, List.set_cons_zero, List.set_cons_succ]
        refine wpAnyH_ready (rs := [12]) (by kernel_rfl) (by simp) ?_
        refine AllReadyH.cons rfl (fun KK hK => ?_) AllReadyH.nil
        refine step_store19 rfl 47 _ _ rfl (w4.heap.size) #[.string R.m, .string R.s, .string R.a, .string R.p, rv, .string ⟨#[]⟩, .slice none 0 0] rfl rfl 47 _ (Ar.keep (heap_alloc_last w4 (.cells #[.string ⟨#[]⟩, .string ⟨#[]⟩, .string ⟨#[]⟩, .string ⟨#[]⟩, .slice none 0 0, .string ⟨#[]⟩, .slice none 0 0] 47)) hb7) sizeRq14 rfl (by obtain ⟨qa, qb, hq⟩ := own_shape hrv; subst hq; simp [Value.oneCell']) ?_
        intro wf haf huf
        have hdf := ar_upd (hD8) huf (fun e => by have h1 := HD3.out.lt; have h2 : w3.heap.size ≤ (w4.heap.size) := hl7.size; omega)
        have e0 := hdf.cell 0 _ rfl
        have e1 := hdf.cell 1 _ rfl
        have e2 := hdf.cell 2 _ rfl
        have hq := oq_fin21 (B := B) (R := R) ((((LF.of_below (Below.refl _ _).drew).trans hl7 (fun _ _ => id)).trans (LF.of_below (bl_alloc w4 (.cells #[.string ⟨#[]⟩, .string ⟨#[]⟩, .string ⟨#[]⟩, .string ⟨#[]⟩, .slice none 0 0, .string ⟨#[]⟩, .slice none 0 0] 47))) (fun _ _ => id)).trans (LF.of_below hb7) (fun _ _ => id)) H3R.out (own_keep21 (own_keep21 hk7 (bl_alloc w4 (.cells #[.string ⟨#[]⟩, .string ⟨#[]⟩, .string ⟨#[]⟩, .string ⟨#[]⟩, .slice none 0 0, .string ⟨#[]⟩, .slice none 0 0] 47))) hb7) (own_base21 hrv (Nat.le_trans hl7.size (bl_alloc w4 (.cells #[.string ⟨#[]⟩, .string ⟨#[]⟩, .string ⟨#[]⟩, .string ⟨#[]⟩, .slice none 0 0, .string ⟨#[]⟩, .slice none 0 0] 47)).size)) (hl7.size) (Ar.keep (heap_alloc_last w4 (.cells #[.string ⟨#[]⟩, .string ⟨#[]⟩, .string ⟨#[]⟩, .string ⟨#[]⟩, .slice none 0 0, .string ⟨#[]⟩, .slice none 0 0] 47)) hb7) haf huf
        refine hK.out _ _ ⟨e0, e1, e2⟩ (fun _ => ?_)
        clear hK
        refine take_d19 (i := 13) (d := some 10) (v := ?_) rfl rfl (by kernel_rfl) (by kernel_rfl) (by kernel_rfl) (fun _ _ _ h => h) (Or.inl ⟨by rfl, ?_⟩) (by assumption) ?_
        rotate_left
        · intro w hSw
          (try dsimp only at hSw)
          go_simp
          try with_reducible rfl
        try simp only [Act.put]
        refine wpAnyH_done (by kernel_rfl) ?_ _
        go_wp2_with fail
        go_meet
        exact ⟨_, _, rfl, rfl, hid' hq⟩
    · go_simp
      have hD9 := Ar.keep (HD3.out.drew) (bl_alloc w3.drew (.cells #[.string ⟨#[]⟩, .string ⟨#[]⟩, .string ⟨#[]⟩, .string ⟨#[]⟩, .slice none 0 0, .string ⟨#[]⟩, .slice none 0 0] 47))
      have e0 := hD9.cell 0 _ rfl
      have e1 := hD9.cell 1 _ rfl
      have e2 := hD9.cell 2 _ rfl
      refine hK.out _ _ ⟨e0, e1, e2⟩ (fun _ => ?_)
      clear hK
      try simp only [Act.put, List.setIfInBounds_toArray, List.set_cons_zero, List.set_cons_succ]
      refine wpAnyH_ready (rs := [6]) (by kernel_rfl) (by simp) ?_
      refine AllReadyH.cons rfl (fun KK hK => ?_) AllReadyH.nil
      go_simp
      refine (HW7.out _ (own_keep21 (own_keep21 H3R.out (Below.refl _ _).drew) (bl_alloc w3.drew (.cells #[.string ⟨#[]⟩, .string ⟨#[]⟩, .string ⟨#[]⟩, .string ⟨#[]⟩, .slice none 0 0, .string ⟨#[]⟩, .slice none 0 0] 47))) (Nat.le_trans H3B.out (bl_alloc w3.drew (.cells #[.string ⟨#[]⟩, .string ⟨#[]⟩, .string ⟨#[]⟩, .string ⟨#[]⟩, .slice none 0 0, .string ⟨#[]⟩, .slice none 0 0] 47)).size)).mono ?_
      rintro e w4 ⟨⟨v7, rfl, hv7⟩, hk7, hl7⟩
      have hT7 : TBr B w4 := HFT.out _ _ ((HT3.out.keep (Below.refl _ _).drew).keep (bl_alloc w3.drew (.cells #[.string ⟨#[]⟩, .string ⟨#[]⟩, .string ⟨#[]⟩, .string ⟨#[]⟩, .slice none 0 0, .string ⟨#[]⟩, .slice none 0 0] 47))) (fun k hk => (HFB.out k hk).1) hl7
      have hD7 : Ar w4 hd 62 #[.string s.m, .string s.t, .bool s.old] := hl7.ar (hD9) (fun hk => (HFB.out hd hk).2.1 rfl)
      have e0 := hD7.cell 0 _ rfl
      have e1 := hD7.cell 1 _ rfl
      have e2 := hD7.cell 2 _ rfl
      go_wp2_with fail
      refine hK.out _ _ ⟨e0, e1, e2⟩ (fun _ => ?_)
      clear hK
      try simp only [Act.put, List.setIfInBounds_toArray, List.set_cons_zero, List.set_cons_succ]
      refine wpAnyH_ready (rs := [7]) (by kernel_rfl) (by simp) ?_
      refine AllReadyH.cons rfl (fun KK hK => ?_) AllReadyH.nil
      go_simp
      refine (HO7.out _ v7 (hv7) (hT7)).mono ?_
      rintro e w5 ⟨⟨rv, rfl, hrv⟩, hb7⟩
      have hD8 : Ar w5 hd 62 #[.string s.m, .string s.t, .bool s.old] := Ar.keep (hD7) hb7
      have e0 := hD8.cell 0 _ rfl
      have e1 := hD8.cell 1 _ rfl
      have e2 := hD8.cell 2 _ rfl
      go_wp2_with fail
      refine hK.out _ _ ⟨e0, e1, e2⟩ (fun _ => ?_)
      clear hK
      try simp only [Act.put, List.setIfInBounds_toArray, List.set_cons_zero, List.set_cons_succ]
      refine take_d19 (i := 8) (d := some 42) (v := ?_) rfl rfl (by kernel_rfl) (by kernel_rfl) (by kernel_rfl) (fun _ _ _ h => h) (Or.inl ⟨by rfl, ?_⟩) (by assumption) ?_
      rotate_left
      · intro w hSw
        (try dsimp only at hSw)
        go_simp
        try with_reducible rfl
      try simp only [Act.put, List.setIfInBounds_toArray, List.set_cons_zero, List.set_cons_succ]
      refine take_d19 (i := 9) (d := some 51) (v := ?_) rfl rfl (by kernel_rfl) (by kernel_rfl) (by kernel_rfl) (fun _ _ _ h => h) (Or.inl ⟨by rfl, ?_⟩) (by assumption) ?_
      rotate_left
      · intro w hSw
        (try dsimp only at hSw)
        go_simp
        try with_reducible rfl
      try simp only [Act.put, List.setIfInBounds_toArray, List.set_cons_zero, List.set_cons_succ]
      refine take_d19 (i := 10) (d := some 52) (v := ?_) rfl rfl (by kernel_rfl) (by kernel_rfl) (by kernel_rfl) (fun _ _ _ h => h) (Or.inl ⟨by rfl, ?_⟩) (by assumption) ?_
      rotate_left
      · intro w hSw
        (try dsimp only at hSw)
        go_simp
        try with_reducible rfl
      try simp only [Act.put, List.setIfInBounds_toArray, List.set_cons_zero, List.set_cons_succ]
      refine wpAnyH_ready (rs := [12]) (by kernel_rfl) (by simp) ?_
      refine AllReadyH.cons rfl (fun KK hK => ?_) AllReadyH.nil
      have hz7 := hl7.ar (heap_alloc_last w3.drew (.cells #[.string ⟨#[]⟩, .string ⟨#[]⟩, .string ⟨#[]⟩, .string ⟨#[]⟩, .slice none 0 0, .string ⟨#[]⟩, .slice none 0 0] 47)) (fun hk => by have h1 := (HFB.out _ hk).2.2; have h2 : w3.drew.heap.size = w3.heap.size := rfl; omega)
      refine step_store19 rfl 47 _ _ rfl (w3.heap.size) #[.string R.m, .string R.s, .string R.a, .string R.p, rv, .string ⟨#[]⟩, .slice none 0 0] rfl rfl 47 _ (Ar.keep hz7 hb7) sizeRq14 rfl (by obtain ⟨qa, qb, hq⟩ := own_shape hrv; subst hq; simp [Value.oneCell']) ?_
      intro wf haf huf
      have hdf := ar_upd (hD8) huf (fun e => by have h1 := HD3.out.lt; have h2 : w3.heap.size ≤ (w3.heap.size) := Nat.le_refl _; omega)
      have e0 := hdf.cell 0 _ rfl
      have e1 := hdf.cell 1 _ rfl
      have e2 := hdf.cell 2 _ rfl
      have hq := oq_fin21 (B := B) (R := R) (((LF.of_below (Below.refl _ _).drew).trans (LF.of_below (bl_alloc w3.drew (.cells #[.string ⟨#[]⟩, .string ⟨#[]⟩, .string ⟨#[]⟩, .string ⟨#[]⟩, .slice none 0 0, .string ⟨#[]⟩, .slice none 0 0] 47))) (fun _ _ => id)).trans hl7 (fun _ _ => id) |>.trans (LF.of_below hb7) (fun _ _ => id)) H3R.out (own_keep21 hk7 hb7) (own_base21 hrv (Nat.le_trans (bl_alloc w3.drew (.cells #[.string ⟨#[]⟩, .string ⟨#[]⟩, .string ⟨#[]⟩, .string ⟨#[]⟩, .slice none 0 0, .string ⟨#[]⟩, .slice none 0 0] 47)).size hl7.size)) (Nat.le_refl _) (Ar.keep hz7 hb7) haf huf
      refine hK.out _ _ ⟨e0, e1, e2⟩ (fun _ => ?_)
      clear hK
      refine take_d19 (i := 13) (d := some 10) (v := ?_) rfl rfl (by kernel_rfl) (by kernel_rfl) (by kernel_rfl) (fun _ _ _ h => h) (Or.inl ⟨by rfl, ?_⟩) (by assumption) ?_
      rotate_left
      · intro w hSw
        (try dsimp only at hSw)
        go_simp
        try with_reducible rfl
      try simp only [Act.put]
      refine wpAnyH_done (by kernel_rfl) ?_ _
      go_wp2_with fail
      go_meet
      exact ⟨_, _, rfl, rfl, hid' hq⟩
  case rest =>
    obtain ⟨ab, rv, rfl, rfl, HQ⟩ := hcut
    have HL4 : Hid (LF (RS b lv (.slice fo s.fs.length fc)) w1 wc) := hid' (((LF.of_below HBX3.out).trans HQ.out.lf (fun k _ hk => .inr (.inr hk))))
    have HR4 : Hid (RN wc B b (rnx b s.md) lv (.slice fo s.fs.length fc) s) := hid' ⟨HR3.out.lo, HQ.out.lf.ar HR3.out.obj (fun hk => HR3.out.flb b hk rfl), own_same HR3.out.ln (fun k hk => HQ.out.lf.block k (own_lt HR3.out.ln k hk) (fun e => HR3.out.rows k hk e.symm)), HQ.out.row⟩
    have HA4 := hid' (HQ.out.lf.ar HA3.out (fun hk => HN0.out (.inr (.inr hk))))
    have HD4 := hid' (HQ.out.lf.ar HD3.out (fun hk => (HFB.out hd hk).2.1 rfl))
    have HRL4 : Hid (rb < wc.heap.size) := hid' (Nat.lt_of_lt_of_le HRL3.out HQ.out.lf.size)
    generalize wc = w4 at *
    clear HW7 HO7 HFT d0 d1 d2
    by_cases hz1 : E1 = 0
    rotate_left
    · have hne : (E1 != 0) = true := by rw [bne_iff_ne]; exact hz1
      have hne2 : (E1 == 0) = false := by rw [beq_eq_false_iff_ne]; exact hz1
      have HE : Hid (P = Hr.broke s 400) := hid' (by
        have h1 : Hr.headE s = 400 := by unfold Hr.headE; rw [HE0.out, HL.out, HE1.out, hne2]; rfl
        rw [HP2.out, h1]; rfl)
      clear hne2
      go_wp2_with (go_at_call 33; refine (cbreaks21 B b _ _ _ _ 400 _ HR4.out).mono ?_; rintro e w9 ⟨rfl, h9, hf9⟩; refine Hid.out ?_)
      refine hid' ?_
      have H9 := hid' h9
      have HF9 := hid' hf9
      have HA9 := hid' (hf9.ar HA4.out HN0.out)
      clear h9 hf9
      go_wp2_with (refine wpl_store 49 _ _ rfl rfl rb (pcC (Hr.brk 400) (.slice none 0 0) (.slice none 0 0)) (by kernel_rfl) (by kernel_rfl) _ _ HA9.out sizePc21 rfl (by simp [Value.oneCell', pcC]) ?_)
      intro wf hwf huf
      go_wp2
      have hld := ldPc21 hwf
      exact bodyPost_ret (v := pv0 (Hr.brk 400)) (by simp [results, Tryz.results45, asAddr, hld, pv0]) rfl (by rw [HE.out]; exact up_plain21 HB1.out HRB.out HRL1.out (HL4.out.trans HF9.out (fun _ _ => id)) H9.out (RW.none _ _ _) rfl rfl HLT.out huf)
    subst hz1
    obtain ⟨te, hte⟩ : ∃ te, Hr.hasB s.fs Hr.sTE = te := ⟨_, rfl⟩
    have HP3 : Hid (P = (Hr.headP s, Hr.behind s)) := hid' (by
      have h1 : Hr.headE s = 0 := by unfold Hr.headE; rw [HE0.out, HL.out, HE1.out]; rfl
      rw [HP2.out, h1]; rfl)
    have HTE := hid' hte
    have HHT := hid' (chas21 (.slice fo s.fs.length fc) s.fs ⟨#[116, 114, 97, 110, 115, 102, 101, 114, 45, 101, 110, 99, 111, 100, 105, 110, 103]⟩ te (by rw [← hte]; exact congrArg _ (ba_list Hr.sTE)) w4 (FW.of_own HR4.out.fl) HCL.out.2.1)
    have HAB : Hid (Hr.behind s = afterB21 s k te) := hid' (by
      have h1 : Hr.lenN s.fs = (k : Int) := HK.out
      unfold Hr.behind afterB21
      rw [hte, h1]
      cases te
      · simp only [Bool.false_eq_true, if_false]
        by_cases h0 : 0 < k
        · rw [if_pos (by omega), if_pos h0]; simp
        · rw [if_neg (by omega), if_neg h0]
      · rfl)
    have HFO : Hid (Hr.follows s = (te || decide ((0 : Int) < (k : Int)))) := hid' (by unfold Hr.follows; rw [hte, show Hr.lenN s.fs = (k : Int) from HK.out])
    clear hte
    go_wp2_with (go_at_call 56; refine (HHT.out).mono ?_; rintro e w4b ⟨rfl, hb4⟩; refine Hid.out ?_)
    refine hid' ?_
    have HB4b := hid' hb4
    have HR4b := hid' (HR4.out.keep hb4)
    clear hb4
    go_wp2_with (go_at_call 57; refine (cbody21 B b _ _ _ s k te _ HR4b.out).mono ?_; rintro e w5 ⟨rfl, h5, hf5⟩; refine Hid.out ?_)
    refine hid' ?_
    have HR5 := hid' h5
    have HBL : Hid (b < w3.heap.size) := hid' HR3.out.obj.lt
    have HF5 := hid' (show LF (fun k => k = b) w4 w5 from (LF.of_below HB4b.out).trans hf5 (fun _ _ => id))
    have HL5 : Hid (LF (RS b lv (.slice fo s.fs.length fc)) w1 w5) := hid' (HL4.out.trans (lf_b21 HF5.out) (fun _ _ => id))
    have HA5 := hid' (HF5.out.ar HA4.out (fun e => HN0.out (.inl e)))
    have HD5 := hid' (HF5.out.ar HD4.out (fun e => HDN.out b (.inl rfl) e.symm))
    have HQ5 := hid' (HF5.out.ar HQ.out.box (fun e => by have := HQ.out.lo; have := HBL.out; omega))
    have HOF5 := hid' (own_same HR4.out.fl (fun k hk => HF5.out.block k (own_lt HR4.out.fl k hk) (HR4.out.flb k hk)))
    have HOV5 := hid' (own_same HQ.out.fs (fun k hk => HF5.out.block k (own_lt HQ.out.fs k hk) (fun e => by have := own_le21 HQ.out.fs k hk; have := HBL.out; omega)))
    have HRL5 : Hid (rb < w5.heap.size) := hid' (Nat.lt_of_lt_of_le HRL4.out HF5.out.size)
    clear h5 hf5
    have HABR : Hid (ab ≠ rb) := hid' (fun e => by have := HQ.out.lo; have := HRL3.out; omega)
    obtain ⟨ls, hls⟩ : ∃ ls, Hr.lastB s = ls := ⟨_, rfl⟩
    have HLS := hid' hls
    have HSV : Hid (∀ f ∈ s.fs, f.v.size ≤ 1048576) := hid' (fun f hf => (HCL.out.2.2.2.1 f hf).2)
    have HFW : Hid (∀ W, Below w5.heap.size w5 W → FW W (.slice fo s.fs.length fc) s.fs) := hid' (fun W hb => FW.of_own (own_keep21 HOF5.out hb))
    have HCLS : Hid (∀ W, Below w5.heap.size w5 W → Calls Tryz.prog 58 #[.agg #[.string s.m, .string s.t, .bool s.old], .slice fo s.fs.length fc] W fun e w' => e = .returned (.bool ls) ∧ Below W.heap.size W w') := hid' (fun W hb => clast21 s.m s.t s.old _ s.fs ls hls W (HFW.out W hb) HCL.out.2.1 HSV.out)
    obtain ⟨ex, hex⟩ : ∃ ex, Hr.hasB s.fs Hr.sExp = ex := ⟨_, rfl⟩
    have HEX := hid' hex
    have HCEX : Hid (∀ W, Below w5.heap.size w5 W → Calls Tryz.prog 56 #[.slice fo s.fs.length fc, .string ⟨#[101, 120, 112, 101, 99, 116]⟩] W fun e w' => e = .returned (.bool ex) ∧ Below W.heap.size W w') := hid' (fun W hb => chas21 _ s.fs _ ex (by rw [← hex]; exact congrArg _ (ba_list Hr.sExp)) W (HFW.out W hb) HCL.out.2.1)
    have HPW : Hid (∀ w6, Below w5.heap.size w5 w6 → PcW w6 B (RS b (.slice none 0 0) (.slice none 0 0)) (.agg (pcC (Hr.headP s) rv (.slice none 0 0))) (Hr.headP s)) := hid' (fun w6 hb => ⟨rv, .slice none 0 0, rfl, by
      have h1 := own_base21 (own_keep21 HOV5.out hb) H3B.out
      rw [show (Hr.headP s).rq = R from by unfold Hr.headP; rw [HL.out, HRR.out]]
      exact h1, World.ownsRow_nil _ _ _ _, fun k hk hr => by have h1 := rs_none b k hr; have h2 := own_le21 HOV5.out k hk; have h3 := HBL.out; omega, fun k hk => by simp [Value.ownBlock] at hk⟩)
    have HHP : Hid (∀ fl, Hr.follows s = fl → Hr.headP s = ⟨1, R, fl && ex && !s.old, ls, s.old, fl, Ms.e0, [], 0⟩) := hid' (fun fl h => by unfold Hr.headP; rw [HL.out, HRR.out, h, HEX.out, HLS.out])
    have HP4 : Hid (∀ w6 wf, Below w5.heap.size w5 w6 → Upd rb w6 wf → UP w B b lv (.slice fo s.fs.length fc) (Hr.headP s) (Hr.behind s) (.returned (.agg (pcC (Hr.headP s) rv (.slice none 0 0)))) wf) := hid' (fun w6 wf hb hu => by
      refine up_on21 (c := pcZ) (HA5.out.keep hb) HB1.out HRB.out HRL1.out (HL5.out.trans (LF.of_below hb) (fun _ _ => id)) ?_ (RW.none _ _ _) (HPW.out w6 hb) HLT.out hu
      rw [HAB.out]
      exact HR5.out.keep hb)
    clear hls hex
    have HRVO : Hid (∃ qa qb, rv = .slice qa R.fs.length qb) := hid' (own_shape HOV5.out)
    cases te
    · by_cases h0 : (0 : Int) < (k : Int)
      · have HFL := hid' (HHP.out true (HFO.out.trans (by rw [decide_eq_true h0]; rfl)))
        cases ex
        · go_upto_region 13 with fail
          have hpc : (#[.int .u8 1, .string R.m, .string R.s, .string R.a, .string R.p, rv, .string ⟨#[]⟩, .slice none 0 0, .bool false, .bool ls, .bool s.old, .bool true, .string ⟨#[]⟩, .slice none 0 0, .int .i64 0] : Array Value) = pcC (Hr.headP s) rv (.slice none 0 0) := by rw [HFL.out]; rfl
          have HPC := hid' hpc
          clear hpc
          have hb0 : Below w5.heap.size w5 w5.drew := (Below.refl _ _).drew
          have q0 := HQ5.out.keep hb0
          have dd0 := HD5.out.keep hb0
          rw [show decide (0 < k) = true from decide_eq_true (by omega)]
          refine wp_region_held_drew (S := fun W => W.cell? ⟨ab, 0, none⟩ = some (.string R.m) ∧ W.cell? ⟨ab, 1, none⟩ = some (.string R.s) ∧ W.cell? ⟨ab, 2, none⟩ = some (.string R.a) ∧ W.cell? ⟨ab, 3, none⟩ = some (.string R.p) ∧ W.cell? ⟨ab, 4, none⟩ = some (rv) ∧ W.cell? ⟨ab, 5, none⟩ = some (.string ⟨#[]⟩) ∧ W.cell? ⟨ab, 6, none⟩ = some (.slice none 0 0) ∧ W.cell? ⟨hd, 0, none⟩ = some (.string s.m) ∧ W.cell? ⟨hd, 1, none⟩ = some (.string s.t) ∧ W.cell? ⟨hd, 2, none⟩ = some (.bool s.old)) (by kernel_rfl) (⟨q0.cell 0 _ rfl, q0.cell 1 _ rfl, q0.cell 2 _ rfl, q0.cell 3 _ rfl, q0.cell 4 _ rfl, q0.cell 5 _ rfl, q0.cell 6 _ rfl, dd0.cell 0 _ rfl, dd0.cell 1 _ rfl, dd0.cell 2 _ rfl⟩) (fun hHeld => ?_)
          refine take_d19 (i := 0) (d := some 68) (v := ?_) rfl rfl (by kernel_rfl) (by kernel_rfl) (by kernel_rfl) (fun _ _ _ h => h) (Or.inl ⟨by rfl, ?_⟩) (by assumption) ?_
          rotate_left
          · intro w hSw
            (try dsimp only at hSw)
            obtain ⟨a0, a1, a2, a3, a4, a5, a6, d0, d1, d2⟩ := hSw
            go_simp
            try with_reducible rfl
          try simp only [Act.put, List.setIfInBounds_toArray, List.set_cons_zero, List.set_cons_succ]
          refine take_d19 (i := 1) (d := some 69) (v := ?_) rfl rfl (by kernel_rfl) (by kernel_rfl) (by kernel_rfl) (fun _ _ _ h => h) (Or.inl ⟨by rfl, ?_⟩) (by assumption) ?_
          rotate_left
          · intro w hSw
            (try dsimp only at hSw)
            go_simp
            try with_reducible rfl
          try simp only [Act.put, List.setIfInBounds_toArray, List.set_cons_zero, List.set_cons_succ]
          refine take_d19 (i := 2) (d := some 70) (v := ?_) rfl rfl (by kernel_rfl) (by kernel_rfl) (by kernel_rfl) (fun _ _ _ h => h) (Or.inl ⟨by rfl, ?_⟩) (by assumption) ?_
          rotate_left
          · intro w hSw
            (try dsimp only at hSw)
            go_simp
            try with_reducible rfl
          try simp only [Act.put, List.setIfInBounds_toArray, List.set_cons_zero, List.set_cons_succ]
          refine take_d19 (i := 3) (d := some 71) (v := ?_) rfl rfl (by kernel_rfl) (by kernel_rfl) (by kernel_rfl) (fun _ _ _ h => h) (Or.inl ⟨by rfl, ?_⟩) (by assumption) ?_
          rotate_left
          · intro w hSw
            (try dsimp only at hSw)
            go_simp
            try with_reducible rfl
          try simp only [Act.put, List.setIfInBounds_toArray, List.set_cons_zero, List.set_cons_succ]
          refine take_d19 (i := 11) (d := some 79) (v := ?_) rfl rfl (by kernel_rfl) (by kernel_rfl) (by kernel_rfl) (fun _ _ _ h => h) (Or.inl ⟨by rfl, ?_⟩) (by assumption) ?_
          rotate_left
          · intro w hSw
            (try dsimp only at hSw)
            obtain ⟨a0, a1, a2, a3, a4, a5, a6, d0, d1, d2⟩ := hSw
            go_simp
            try with_reducible rfl
          try simp only [Act.put, List.setIfInBounds_toArray, List.set_cons_zero, List.set_cons_succ]
          refine take_d19 (i := 12) (d := some 80) (v := ?_) rfl rfl (by kernel_rfl) (by kernel_rfl) (by kernel_rfl) (fun _ _ _ h => h) (Or.inl ⟨by rfl, ?_⟩) (by assumption) ?_
          rotate_left
          · intro w hSw
            (try dsimp only at hSw)
            go_simp
            try with_reducible rfl
          try simp only [Act.put, List.setIfInBounds_toArray, List.set_cons_zero, List.set_cons_succ]
          refine take_d19 (i := 14) (d := some 82) (v := ?_) rfl rfl (by kernel_rfl) (by kernel_rfl) (by kernel_rfl) (fun _ _ _ h => h) (Or.inl ⟨by rfl, ?_⟩) (by assumption) ?_
          rotate_left
          · intro w hSw
            (try dsimp only at hSw)
            go_simp
            try with_reducible rfl
          try simp only [Act.put, List.setIfInBounds_toArray, List.set_cons_zero, List.set_cons_succ]
          refine take_d19 (i := 15) (d := some 83) (v := ?_) rfl rfl (by kernel_rfl) (by kernel_rfl) (by kernel_rfl) (fun _ _ _ h => h) (Or.inl ⟨by rfl, ?_⟩) (by assumption) ?_
          rotate_left
          · intro w hSw
            (try dsimp only at hSw)
            obtain ⟨a0, a1, a2, a3, a4, a5, a6, d0, d1, d2⟩ := hSw
            go_simp
            try with_reducible rfl
          try simp only [Act.put, List.setIfInBounds_toArray, List.set_cons_zero, List.set_cons_succ]
          refine take_d19 (i := 16) (d := some 84) (v := ?_) rfl rfl (by kernel_rfl) (by kernel_rfl) (by kernel_rfl) (fun _ _ _ h => h) (Or.inl ⟨by rfl, ?_⟩) (by assumption) ?_
          rotate_left
          · intro w hSw
            (try dsimp only at hSw)
            go_simp
            try with_reducible rfl
          try simp only [Act.put, List.setIfInBounds_toArray, List.set_cons_zero, List.set_cons_succ]
          refine wpAnyH_ready (rs := [4]) (by kernel_rfl) (by simp) ?_
          refine AllReadyH.cons rfl (fun KK hK => ?_) AllReadyH.nil
          go_simp
          refine (HCEX.out w5.drew hb0).mono ?_
          rintro e w6 ⟨rfl, hcw6⟩
          have hb6 := below_two hb0 hcw6
          have qw6 := HQ5.out.keep hb6
          have ddw6 := HD5.out.keep hb6
          go_wp2_with fail
          refine hK.out _ _ ⟨qw6.cell 0 _ rfl, qw6.cell 1 _ rfl, qw6.cell 2 _ rfl, qw6.cell 3 _ rfl, qw6.cell 4 _ rfl, qw6.cell 5 _ rfl, qw6.cell 6 _ rfl, ddw6.cell 0 _ rfl, ddw6.cell 1 _ rfl, ddw6.cell 2 _ rfl⟩ (fun _ => ?_)
          clear hK
          try simp only [Act.put, List.setIfInBounds_toArray, List.set_cons_zero, List.set_cons_succ]
          refine take_d19 (i := 5) (d := some 73) (v := ?_) rfl rfl (by kernel_rfl) (by kernel_rfl) (by kernel_rfl) (fun _ _ _ h => h) (Or.inl ⟨by rfl, ?_⟩) (by assumption) ?_
          rotate_left
          · intro w hSw
            (try dsimp only at hSw)
            go_simp
            try with_reducible rfl
          try simp only [Act.put, List.setIfInBounds_toArray, List.set_cons_zero, List.set_cons_succ]
          refine take_d19 (i := 6) (d := some 74) (v := ?_) rfl rfl (by kernel_rfl) (by kernel_rfl) (by kernel_rfl) (fun _ _ _ h => h) (Or.inl ⟨by rfl, ?_⟩) (by assumption) ?_
          rotate_left
          · intro w hSw
            (try dsimp only at hSw)
            go_simp
            try with_reducible rfl
          try simp only [Act.put, List.setIfInBounds_toArray, List.set_cons_zero, List.set_cons_succ]
          refine take_d19 (i := 7) (d := some 75) (v := undef) rfl rfl (by kernel_rfl) (by kernel_rfl) (by kernel_rfl) (fun _ _ _ h => h) (Or.inr ⟨by rfl, rfl⟩) (by assumption) ?_
          try simp only [Act.put, List.setIfInBounds_toArray, List.set_cons_zero, List.set_cons_succ]
          refine take_d19 (i := 8) (d := some 76) (v := undef) rfl rfl (by kernel_rfl) (by kernel_rfl) (by kernel_rfl) (fun _ _ _ h => h) (Or.inr ⟨by rfl, rfl⟩) (by assumption) ?_
          try simp only [Act.put, List.setIfInBounds_toArray, List.set_cons_zero, List.set_cons_succ]
          refine take_d19 (i := 9) (d := some 77) (v := undef) rfl rfl (by kernel_rfl) (by kernel_rfl) (by kernel_rfl) (fun _ _ _ h => h) (Or.inr ⟨by rfl, rfl⟩) (by assumption) ?_
          try simp only [Act.put, List.setIfInBounds_toArray, List.set_cons_zero, List.set_cons_succ]
          refine take_d19 (i := 10) (d := some 78) (v := ?_) rfl rfl (by kernel_rfl) (by kernel_rfl) (by kernel_rfl) (fun _ _ _ h => h) (Or.inl ⟨by rfl, ?_⟩) (by assumption) ?_
          rotate_left
          · intro w hSw
            (try dsimp only at hSw)
            go_simp
            try with_reducible rfl
          try simp only [Act.put, List.setIfInBounds_toArray, List.set_cons_zero, List.set_cons_succ]
          refine wpAnyH_ready (rs := [13]) (by kernel_rfl) (by simp) ?_
          refine AllReadyH.cons rfl (fun KK hK => ?_) AllReadyH.nil
          go_simp
          refine (HCLS.out w6 hb6).mono ?_
          rintro e w7 ⟨rfl, hcw7⟩
          have hb7 := below_two hb6 hcw7
          have qw7 := HQ5.out.keep hb7
          have ddw7 := HD5.out.keep hb7
          go_wp2_with fail
          refine hK.out _ _ ⟨qw7.cell 0 _ rfl, qw7.cell 1 _ rfl, qw7.cell 2 _ rfl, qw7.cell 3 _ rfl, qw7.cell 4 _ rfl, qw7.cell 5 _ rfl, qw7.cell 6 _ rfl, ddw7.cell 0 _ rfl, ddw7.cell 1 _ rfl, ddw7.cell 2 _ rfl⟩ (fun _ => ?_)
          clear hK
          try simp only [Act.put, List.setIfInBounds_toArray, List.set_cons_zero, List.set_cons_succ]
          refine take_d19 (i := 17) (d := some 85) (v := ?_) rfl rfl (by kernel_rfl) (by kernel_rfl) (by kernel_rfl) (fun _ _ _ h => h) (Or.inl ⟨by rfl, ?_⟩) (by assumption) ?_
          rotate_left
          · intro w hSw
            (try dsimp only at hSw)
            go_simp
            try with_reducible rfl
          try simp only [Act.put, List.setIfInBounds_toArray, List.set_cons_zero, List.set_cons_succ]
          refine wpAnyH_ready (rs := [18]) (by kernel_rfl) (by simp) ?_
          refine AllReadyH.cons rfl (fun KK hK => ?_) AllReadyH.nil
          refine step_store19 rfl 49 _ _ rfl rb #[.int .u8 1, .string R.m, .string R.s, .string R.a, .string R.p, rv, .string ⟨#[]⟩, .slice none 0 0, .bool false, .bool ls, .bool s.old, .bool true, .string ⟨#[]⟩, .slice none 0 0, .int .i64 0] rfl rfl 49 _ (HA5.out.keep hb7) sizePc21 rfl (by obtain ⟨qa, qb, hq⟩ := HRVO.out; subst hq; simp [Value.oneCell']) ?_
          intro wf hwf huf
          have qf := ar_upd (HQ5.out.keep hb7) huf HABR.out
          have ddf := ar_upd (HD5.out.keep hb7) huf HDR.out
          refine hK.out _ _ ⟨qf.cell 0 _ rfl, qf.cell 1 _ rfl, qf.cell 2 _ rfl, qf.cell 3 _ rfl, qf.cell 4 _ rfl, qf.cell 5 _ rfl, qf.cell 6 _ rfl, ddf.cell 0 _ rfl, ddf.cell 1 _ rfl, ddf.cell 2 _ rfl⟩ (fun _ => ?_)
          clear hK
          try simp only [Act.put]
          refine wpAnyH_done (by kernel_rfl) ?_ _
          rw [HPC.out] at hwf
          go_wp2
          have hld := ldPc21 hwf
          exact bodyPost_ret (v := .agg (pcC (Hr.headP s) rv (.slice none 0 0))) (by simp [results, Tryz.results45, asAddr, hld]) rfl (by rw [HP3.out]; exact HP4.out _ _ hb7 huf)
        · go_upto_region 13 with fail
          have hpc : (#[.int .u8 1, .string R.m, .string R.s, .string R.a, .string R.p, rv, .string ⟨#[]⟩, .slice none 0 0, .bool (!s.old), .bool ls, .bool s.old, .bool true, .string ⟨#[]⟩, .slice none 0 0, .int .i64 0] : Array Value) = pcC (Hr.headP s) rv (.slice none 0 0) := by rw [HFL.out]; rfl
          have HPC := hid' hpc
          clear hpc
          have hb0 : Below w5.heap.size w5 w5.drew := (Below.refl _ _).drew
          have q0 := HQ5.out.keep hb0
          have dd0 := HD5.out.keep hb0
          rw [show decide (0 < k) = true from decide_eq_true (by omega)]
          refine wp_region_held_drew (S := fun W => W.cell? ⟨ab, 0, none⟩ = some (.string R.m) ∧ W.cell? ⟨ab, 1, none⟩ = some (.string R.s) ∧ W.cell? ⟨ab, 2, none⟩ = some (.string R.a) ∧ W.cell? ⟨ab, 3, none⟩ = some (.string R.p) ∧ W.cell? ⟨ab, 4, none⟩ = some (rv) ∧ W.cell? ⟨ab, 5, none⟩ = some (.string ⟨#[]⟩) ∧ W.cell? ⟨ab, 6, none⟩ = some (.slice none 0 0) ∧ W.cell? ⟨hd, 0, none⟩ = some (.string s.m) ∧ W.cell? ⟨hd, 1, none⟩ = some (.string s.t) ∧ W.cell? ⟨hd, 2, none⟩ = some (.bool s.old)) (by kernel_rfl) (⟨q0.cell 0 _ rfl, q0.cell 1 _ rfl, q0.cell 2 _ rfl, q0.cell 3 _ rfl, q0.cell 4 _ rfl, q0.cell 5 _ rfl, q0.cell 6 _ rfl, dd0.cell 0 _ rfl, dd0.cell 1 _ rfl, dd0.cell 2 _ rfl⟩) (fun hHeld => ?_)
          refine take_d19 (i := 0) (d := some 68) (v := ?_) rfl rfl (by kernel_rfl) (by kernel_rfl) (by kernel_rfl) (fun _ _ _ h => h) (Or.inl ⟨by rfl, ?_⟩) (by assumption) ?_
          rotate_left
          · intro w hSw
            (try dsimp only at hSw)
            obtain ⟨a0, a1, a2, a3, a4, a5, a6, d0, d1, d2⟩ := hSw
            go_simp
            try with_reducible rfl
          try simp only [Act.put, List.setIfInBounds_toArray, List.set_cons_zero, List.set_cons_succ]
          refine take_d19 (i := 1) (d := some 69) (v := ?_) rfl rfl (by kernel_rfl) (by kernel_rfl) (by kernel_rfl) (fun _ _ _ h => h) (Or.inl ⟨by rfl, ?_⟩) (by assumption) ?_
          rotate_left
          · intro w hSw
            (try dsimp only at hSw)
            go_simp
            try with_reducible rfl
          try simp only [Act.put, List.setIfInBounds_toArray, List.set_cons_zero, List.set_cons_succ]
          refine take_d19 (i := 2) (d := some 70) (v := ?_) rfl rfl (by kernel_rfl) (by kernel_rfl) (by kernel_rfl) (fun _ _ _ h => h) (Or.inl ⟨by rfl, ?_⟩) (by assumption) ?_
          rotate_left
          · intro w hSw
            (try dsimp only at hSw)
            go_simp
            try with_reducible rfl
          try simp only [Act.put, List.setIfInBounds_toArray, List.set_cons_zero, List.set_cons_succ]
          refine take_d19 (i := 3) (d := some 71) (v := ?_) rfl rfl (by kernel_rfl) (by kernel_rfl) (by kernel_rfl) (fun _ _ _ h => h) (Or.inl ⟨by rfl, ?_⟩) (by assumption) ?_
          rotate_left
          · intro w hSw
            (try dsimp only at hSw)
            go_simp
            try with_reducible rfl
          try simp only [Act.put, List.setIfInBounds_toArray, List.set_cons_zero, List.set_cons_succ]
          refine take_d19 (i := 11) (d := some 79) (v := ?_) rfl rfl (by kernel_rfl) (by kernel_rfl) (by kernel_rfl) (fun _ _ _ h => h) (Or.inl ⟨by rfl, ?_⟩) (by assumption) ?_
          rotate_left
          · intro w hSw
            (try dsimp only at hSw)
            obtain ⟨a0, a1, a2, a3, a4, a5, a6, d0, d1, d2⟩ := hSw
            go_simp
            try with_reducible rfl
          try simp only [Act.put, List.setIfInBounds_toArray, List.set_cons_zero, List.set_cons_succ]
          refine take_d19 (i := 12) (d := some 80) (v := ?_) rfl rfl (by kernel_rfl) (by kernel_rfl) (by kernel_rfl) (fun _ _ _ h => h) (Or.inl ⟨by rfl, ?_⟩) (by assumption) ?_
          rotate_left
          · intro w hSw
            (try dsimp only at hSw)
            go_simp
            try with_reducible rfl
          try simp only [Act.put, List.setIfInBounds_toArray, List.set_cons_zero, List.set_cons_succ]
          refine take_d19 (i := 14) (d := some 82) (v := ?_) rfl rfl (by kernel_rfl) (by kernel_rfl) (by kernel_rfl) (fun _ _ _ h => h) (Or.inl ⟨by rfl, ?_⟩) (by assumption) ?_
          rotate_left
          · intro w hSw
            (try dsimp only at hSw)
            go_simp
            try with_reducible rfl
          try simp only [Act.put, List.setIfInBounds_toArray, List.set_cons_zero, List.set_cons_succ]
          refine take_d19 (i := 15) (d := some 83) (v := ?_) rfl rfl (by kernel_rfl) (by kernel_rfl) (by kernel_rfl) (fun _ _ _ h => h) (Or.inl ⟨by rfl, ?_⟩) (by assumption) ?_
          rotate_left
          · intro w hSw
            (try dsimp only at hSw)
            obtain ⟨a0, a1, a2, a3, a4, a5, a6, d0, d1, d2⟩ := hSw
            go_simp
            try with_reducible rfl
          try simp only [Act.put, List.setIfInBounds_toArray, List.set_cons_zero, List.set_cons_succ]
          refine take_d19 (i := 16) (d := some 84) (v := ?_) rfl rfl (by kernel_rfl) (by kernel_rfl) (by kernel_rfl) (fun _ _ _ h => h) (Or.inl ⟨by rfl, ?_⟩) (by assumption) ?_
          rotate_left
          · intro w hSw
            (try dsimp only at hSw)
            go_simp
            try with_reducible rfl
          try simp only [Act.put, List.setIfInBounds_toArray, List.set_cons_zero, List.set_cons_succ]
          refine wpAnyH_ready (rs := [4]) (by kernel_rfl) (by simp) ?_
          refine AllReadyH.cons rfl (fun KK hK => ?_) AllReadyH.nil
          go_simp
          refine (HCEX.out w5.drew hb0).mono ?_
          rintro e w6 ⟨rfl, hcw6⟩
          have hb6 := below_two hb0 hcw6
          have qw6 := HQ5.out.keep hb6
          have ddw6 := HD5.out.keep hb6
          go_wp2_with fail
          refine hK.out _ _ ⟨qw6.cell 0 _ rfl, qw6.cell 1 _ rfl, qw6.cell 2 _ rfl, qw6.cell 3 _ rfl, qw6.cell 4 _ rfl, qw6.cell 5 _ rfl, qw6.cell 6 _ rfl, ddw6.cell 0 _ rfl, ddw6.cell 1 _ rfl, ddw6.cell 2 _ rfl⟩ (fun _ => ?_)
          clear hK
          try simp only [Act.put, List.setIfInBounds_toArray, List.set_cons_zero, List.set_cons_succ]
          refine take_d19 (i := 5) (d := some 73) (v := ?_) rfl rfl (by kernel_rfl) (by kernel_rfl) (by kernel_rfl) (fun _ _ _ h => h) (Or.inl ⟨by rfl, ?_⟩) (by assumption) ?_
          rotate_left
          · intro w hSw
            (try dsimp only at hSw)
            go_simp
            try with_reducible rfl
          try simp only [Act.put, List.setIfInBounds_toArray, List.set_cons_zero, List.set_cons_succ]
          refine take_d19 (i := 6) (d := some 74) (v := ?_) rfl rfl (by kernel_rfl) (by kernel_rfl) (by kernel_rfl) (fun _ _ _ h => h) (Or.inl ⟨by rfl, ?_⟩) (by assumption) ?_
          rotate_left
          · intro w hSw
            (try dsimp only at hSw)
            go_simp
            try with_reducible rfl
          try simp only [Act.put, List.setIfInBounds_toArray, List.set_cons_zero, List.set_cons_succ]
          refine take_d19 (i := 7) (d := some 75) (v := ?_) rfl rfl (by kernel_rfl) (by kernel_rfl) (by kernel_rfl) (fun _ _ _ h => h) (Or.inl ⟨by rfl, ?_⟩) (by assumption) ?_
          rotate_left
          · intro w hSw
            (try dsimp only at hSw)
            go_simp
            try with_reducible rfl
          try simp only [Act.put, List.setIfInBounds_toArray, List.set_cons_zero, List.set_cons_succ]
          refine take_d19 (i := 8) (d := some 76) (v := ?_) rfl rfl (by kernel_rfl) (by kernel_rfl) (by kernel_rfl) (fun _ _ _ h => h) (Or.inl ⟨by rfl, ?_⟩) (by assumption) ?_
          rotate_left
          · intro w hSw
            (try dsimp only at hSw)
            obtain ⟨a0, a1, a2, a3, a4, a5, a6, d0, d1, d2⟩ := hSw
            go_simp
            try with_reducible rfl
          try simp only [Act.put, List.setIfInBounds_toArray, List.set_cons_zero, List.set_cons_succ]
          refine take_d19 (i := 9) (d := some 77) (v := ?_) rfl rfl (by kernel_rfl) (by kernel_rfl) (by kernel_rfl) (fun _ _ _ h => h) (Or.inl ⟨by rfl, ?_⟩) (by assumption) ?_
          rotate_left
          · intro w hSw
            (try dsimp only at hSw)
            go_simp
            try with_reducible rfl
          try simp only [Act.put, List.setIfInBounds_toArray, List.set_cons_zero, List.set_cons_succ]
          refine take_d19 (i := 10) (d := some 78) (v := ?_) rfl rfl (by kernel_rfl) (by kernel_rfl) (by kernel_rfl) (fun _ _ _ h => h) (Or.inl ⟨by rfl, ?_⟩) (by assumption) ?_
          rotate_left
          · intro w hSw
            (try dsimp only at hSw)
            go_simp
            try with_reducible rfl
          try simp only [Act.put, List.setIfInBounds_toArray, List.set_cons_zero, List.set_cons_succ]
          refine wpAnyH_ready (rs := [13]) (by kernel_rfl) (by simp) ?_
          refine AllReadyH.cons rfl (fun KK hK => ?_) AllReadyH.nil
          go_simp
          refine (HCLS.out w6 hb6).mono ?_
          rintro e w7 ⟨rfl, hcw7⟩
          have hb7 := below_two hb6 hcw7
          have qw7 := HQ5.out.keep hb7
          have ddw7 := HD5.out.keep hb7
          go_wp2_with fail
          refine hK.out _ _ ⟨qw7.cell 0 _ rfl, qw7.cell 1 _ rfl, qw7.cell 2 _ rfl, qw7.cell 3 _ rfl, qw7.cell 4 _ rfl, qw7.cell 5 _ rfl, qw7.cell 6 _ rfl, ddw7.cell 0 _ rfl, ddw7.cell 1 _ rfl, ddw7.cell 2 _ rfl⟩ (fun _ => ?_)
          clear hK
          try simp only [Act.put, List.setIfInBounds_toArray, List.set_cons_zero, List.set_cons_succ]
          refine take_d19 (i := 17) (d := some 85) (v := ?_) rfl rfl (by kernel_rfl) (by kernel_rfl) (by kernel_rfl) (fun _ _ _ h => h) (Or.inl ⟨by rfl, ?_⟩) (by assumption) ?_
          rotate_left
          · intro w hSw
            (try dsimp only at hSw)
            go_simp
            try with_reducible rfl
          try simp only [Act.put, List.setIfInBounds_toArray, List.set_cons_zero, List.set_cons_succ]
          refine wpAnyH_ready (rs := [18]) (by kernel_rfl) (by simp) ?_
          refine AllReadyH.cons rfl (fun KK hK => ?_) AllReadyH.nil
          refine step_store19 rfl 49 _ _ rfl rb #[.int .u8 1, .string R.m, .string R.s, .string R.a, .string R.p, rv, .string ⟨#[]⟩, .slice none 0 0, .bool (!s.old), .bool ls, .bool s.old, .bool true, .string ⟨#[]⟩, .slice none 0 0, .int .i64 0] rfl rfl 49 _ (HA5.out.keep hb7) sizePc21 rfl (by obtain ⟨qa, qb, hq⟩ := HRVO.out; subst hq; simp [Value.oneCell']) ?_
          intro wf hwf huf
          have qf := ar_upd (HQ5.out.keep hb7) huf HABR.out
          have ddf := ar_upd (HD5.out.keep hb7) huf HDR.out
          refine hK.out _ _ ⟨qf.cell 0 _ rfl, qf.cell 1 _ rfl, qf.cell 2 _ rfl, qf.cell 3 _ rfl, qf.cell 4 _ rfl, qf.cell 5 _ rfl, qf.cell 6 _ rfl, ddf.cell 0 _ rfl, ddf.cell 1 _ rfl, ddf.cell 2 _ rfl⟩ (fun _ => ?_)
          clear hK
          try simp only [Act.put]
          refine wpAnyH_done (by kernel_rfl) ?_ _
          rw [HPC.out] at hwf
          go_wp2
          have hld := ldPc21 hwf
          exact bodyPost_ret (v := .agg (pcC (Hr.headP s) rv (.slice none 0 0))) (by simp [results, Tryz.results45, asAddr, hld]) rfl (by rw [HP3.out]; exact HP4.out _ _ hb7 huf)
      · have HFL := hid' (HHP.out false (HFO.out.trans (by rw [decide_eq_false h0]; rfl)))
        go_upto_region 13 with fail
        have hpc : (#[.int .u8 1, .string R.m, .string R.s, .string R.a, .string R.p, rv, .string ⟨#[]⟩, .slice none 0 0, .bool false, .bool ls, .bool s.old, .bool false, .string ⟨#[]⟩, .slice none 0 0, .int .i64 0] : Array Value) = pcC (Hr.headP s) rv (.slice none 0 0) := by rw [HFL.out]; rfl
        have HPC := hid' hpc
        clear hpc
        have hb0 : Below w5.heap.size w5 w5.drew := (Below.refl _ _).drew
        have q0 := HQ5.out.keep hb0
        have dd0 := HD5.out.keep hb0
        rw [show decide (0 < k) = false from decide_eq_false (by omega)]
        refine wp_region_held_drew (S := fun W => W.cell? ⟨ab, 0, none⟩ = some (.string R.m) ∧ W.cell? ⟨ab, 1, none⟩ = some (.string R.s) ∧ W.cell? ⟨ab, 2, none⟩ = some (.string R.a) ∧ W.cell? ⟨ab, 3, none⟩ = some (.string R.p) ∧ W.cell? ⟨ab, 4, none⟩ = some (rv) ∧ W.cell? ⟨ab, 5, none⟩ = some (.string ⟨#[]⟩) ∧ W.cell? ⟨ab, 6, none⟩ = some (.slice none 0 0) ∧ W.cell? ⟨hd, 0, none⟩ = some (.string s.m) ∧ W.cell? ⟨hd, 1, none⟩ = some (.string s.t) ∧ W.cell? ⟨hd, 2, none⟩ = some (.bool s.old)) (by kernel_rfl) (⟨q0.cell 0 _ rfl, q0.cell 1 _ rfl, q0.cell 2 _ rfl, q0.cell 3 _ rfl, q0.cell 4 _ rfl, q0.cell 5 _ rfl, q0.cell 6 _ rfl, dd0.cell 0 _ rfl, dd0.cell 1 _ rfl, dd0.cell 2 _ rfl⟩) (fun hHeld => ?_)
        refine take_d19 (i := 0) (d := some 68) (v := ?_) rfl rfl (by kernel_rfl) (by kernel_rfl) (by kernel_rfl) (fun _ _ _ h => h) (Or.inl ⟨by rfl, ?_⟩) (by assumption) ?_
        rotate_left
        · intro w hSw
          (try dsimp only at hSw)
          obtain ⟨a0, a1, a2, a3, a4, a5, a6, d0, d1, d2⟩ := hSw
          go_simp
          try with_reducible rfl
        try simp only [Act.put, List.setIfInBounds_toArray, List.set_cons_zero, List.set_cons_succ]
        refine take_d19 (i := 1) (d := some 69) (v := ?_) rfl rfl (by kernel_rfl) (by kernel_rfl) (by kernel_rfl) (fun _ _ _ h => h) (Or.inl ⟨by rfl, ?_⟩) (by assumption) ?_
        rotate_left
        · intro w hSw
          (try dsimp only at hSw)
          go_simp
          try with_reducible rfl
        try simp only [Act.put, List.setIfInBounds_toArray, List.set_cons_zero, List.set_cons_succ]
        refine take_d19 (i := 2) (d := some 70) (v := ?_) rfl rfl (by kernel_rfl) (by kernel_rfl) (by kernel_rfl) (fun _ _ _ h => h) (Or.inl ⟨by rfl, ?_⟩) (by assumption) ?_
        rotate_left
        · intro w hSw
          (try dsimp only at hSw)
          go_simp
          try with_reducible rfl
        try simp only [Act.put, List.setIfInBounds_toArray, List.set_cons_zero, List.set_cons_succ]
        refine take_d19 (i := 3) (d := some 71) (v := undef) rfl rfl (by kernel_rfl) (by kernel_rfl) (by kernel_rfl) (fun _ _ _ h => h) (Or.inr ⟨by rfl, rfl⟩) (by assumption) ?_
        try simp only [Act.put, List.setIfInBounds_toArray, List.set_cons_zero, List.set_cons_succ]
        refine take_d19 (i := 11) (d := some 79) (v := ?_) rfl rfl (by kernel_rfl) (by kernel_rfl) (by kernel_rfl) (fun _ _ _ h => h) (Or.inl ⟨by rfl, ?_⟩) (by assumption) ?_
        rotate_left
        · intro w hSw
          (try dsimp only at hSw)
          obtain ⟨a0, a1, a2, a3, a4, a5, a6, d0, d1, d2⟩ := hSw
          go_simp
          try with_reducible rfl
        try simp only [Act.put, List.setIfInBounds_toArray, List.set_cons_zero, List.set_cons_succ]
        refine take_d19 (i := 12) (d := some 80) (v := ?_) rfl rfl (by kernel_rfl) (by kernel_rfl) (by kernel_rfl) (fun _ _ _ h => h) (Or.inl ⟨by rfl, ?_⟩) (by assumption) ?_
        rotate_left
        · intro w hSw
          (try dsimp only at hSw)
          go_simp
          try with_reducible rfl
        try simp only [Act.put, List.setIfInBounds_toArray, List.set_cons_zero, List.set_cons_succ]
        refine take_d19 (i := 14) (d := some 82) (v := ?_) rfl rfl (by kernel_rfl) (by kernel_rfl) (by kernel_rfl) (fun _ _ _ h => h) (Or.inl ⟨by rfl, ?_⟩) (by assumption) ?_
        rotate_left
        · intro w hSw
          (try dsimp only at hSw)
          go_simp
          try with_reducible rfl
        try simp only [Act.put, List.setIfInBounds_toArray, List.set_cons_zero, List.set_cons_succ]
        refine take_d19 (i := 15) (d := some 83) (v := ?_) rfl rfl (by kernel_rfl) (by kernel_rfl) (by kernel_rfl) (fun _ _ _ h => h) (Or.inl ⟨by rfl, ?_⟩) (by assumption) ?_
        rotate_left
        · intro w hSw
          (try dsimp only at hSw)
          obtain ⟨a0, a1, a2, a3, a4, a5, a6, d0, d1, d2⟩ := hSw
          go_simp
          try with_reducible rfl
        try simp only [Act.put, List.setIfInBounds_toArray, List.set_cons_zero, List.set_cons_succ]
        refine take_d19 (i := 16) (d := some 84) (v := ?_) rfl rfl (by kernel_rfl) (by kernel_rfl) (by kernel_rfl) (fun _ _ _ h => h) (Or.inl ⟨by rfl, ?_⟩) (by assumption) ?_
        rotate_left
        · intro w hSw
          (try dsimp only at hSw)
          go_simp
          try with_reducible rfl
        try simp only [Act.put, List.setIfInBounds_toArray, List.set_cons_zero, List.set_cons_succ]
        refine wpAnyH_ready (rs := [4]) (by kernel_rfl) (by simp) ?_
        refine AllReadyH.cons rfl (fun KK hK => ?_) AllReadyH.nil
        refine unw21 (by rfl) ?_
        refine hK.out (Act.put _ (some 72) undef) _ ⟨q0.cell 0 _ rfl, q0.cell 1 _ rfl, q0.cell 2 _ rfl, q0.cell 3 _ rfl, q0.cell 4 _ rfl, q0.cell 5 _ rfl, q0.cell 6 _ rfl, dd0.cell 0 _ rfl, dd0.cell 1 _ rfl, dd0.cell 2 _ rfl⟩ (fun _ => ?_)
        clear hK
        try simp only [Act.put, List.setIfInBounds_toArray, List.set_cons_zero, List.set_cons_succ]
        refine take_d19 (i := 5) (d := some 73) (v := ?_) rfl rfl (by kernel_rfl) (by kernel_rfl) (by kernel_rfl) (fun _ _ _ h => h) (Or.inl ⟨by rfl, ?_⟩) (by assumption) ?_
        rotate_left
        · intro w hSw
          (try dsimp only at hSw)
          go_simp
          try with_reducible rfl
        try simp only [Act.put, List.setIfInBounds_toArray, List.set_cons_zero, List.set_cons_succ]
        refine take_d19 (i := 6) (d := some 74) (v := ?_) rfl rfl (by kernel_rfl) (by kernel_rfl) (by kernel_rfl) (fun _ _ _ h => h) (Or.inl ⟨by rfl, ?_⟩) (by assumption) ?_
        rotate_left
        · intro w hSw
          (try dsimp only at hSw)
          go_simp
          try with_reducible rfl
        try simp only [Act.put, List.setIfInBounds_toArray, List.set_cons_zero, List.set_cons_succ]
        refine take_d19 (i := 7) (d := some 75) (v := undef) rfl rfl (by kernel_rfl) (by kernel_rfl) (by kernel_rfl) (fun _ _ _ h => h) (Or.inr ⟨by rfl, rfl⟩) (by assumption) ?_
        try simp only [Act.put, List.setIfInBounds_toArray, List.set_cons_zero, List.set_cons_succ]
        refine take_d19 (i := 8) (d := some 76) (v := undef) rfl rfl (by kernel_rfl) (by kernel_rfl) (by kernel_rfl) (fun _ _ _ h => h) (Or.inr ⟨by rfl, rfl⟩) (by assumption) ?_
        try simp only [Act.put, List.setIfInBounds_toArray, List.set_cons_zero, List.set_cons_succ]
        refine take_d19 (i := 9) (d := some 77) (v := undef) rfl rfl (by kernel_rfl) (by kernel_rfl) (by kernel_rfl) (fun _ _ _ h => h) (Or.inr ⟨by rfl, rfl⟩) (by assumption) ?_
        try simp only [Act.put, List.setIfInBounds_toArray, List.set_cons_zero, List.set_cons_succ]
        refine take_d19 (i := 10) (d := some 78) (v := ?_) rfl rfl (by kernel_rfl) (by kernel_rfl) (by kernel_rfl) (fun _ _ _ h => h) (Or.inl ⟨by rfl, ?_⟩) (by assumption) ?_
        rotate_left
        · intro w hSw
          (try dsimp only at hSw)
          go_simp
          try with_reducible rfl
        try simp only [Act.put, List.setIfInBounds_toArray, List.set_cons_zero, List.set_cons_succ]
        refine wpAnyH_ready (rs := [13]) (by kernel_rfl) (by simp) ?_
        refine AllReadyH.cons rfl (fun KK hK => ?_) AllReadyH.nil
        go_simp
        refine (HCLS.out w5.drew hb0).mono ?_
        rintro e w7 ⟨rfl, hcw7⟩
        have hb7 := below_two hb0 hcw7
        have qw7 := HQ5.out.keep hb7
        have ddw7 := HD5.out.keep hb7
        go_wp2_with fail
        refine hK.out _ _ ⟨qw7.cell 0 _ rfl, qw7.cell 1 _ rfl, qw7.cell 2 _ rfl, qw7.cell 3 _ rfl, qw7.cell 4 _ rfl, qw7.cell 5 _ rfl, qw7.cell 6 _ rfl, ddw7.cell 0 _ rfl, ddw7.cell 1 _ rfl, ddw7.cell 2 _ rfl⟩ (fun _ => ?_)
        clear hK
        try simp only [Act.put, List.setIfInBounds_toArray, List.set_cons_zero, List.set_cons_succ]
        refine take_d19 (i := 17) (d := some 85) (v := ?_) rfl rfl (by kernel_rfl) (by kernel_rfl) (by kernel_rfl) (fun _ _ _ h => h) (Or.inl ⟨by rfl, ?_⟩) (by assumption) ?_
        rotate_left
        · intro w hSw
          (try dsimp only at hSw)
          go_simp
          try with_reducible rfl
        try simp only [Act.put, List.setIfInBounds_toArray, List.set_cons_zero, List.set_cons_succ]
        refine wpAnyH_ready (rs := [18]) (by kernel_rfl) (by simp) ?_
        refine AllReadyH.cons rfl (fun KK hK => ?_) AllReadyH.nil
        refine step_store19 rfl 49 _ _ rfl rb #[.int .u8 1, .string R.m, .string R.s, .string R.a, .string R.p, rv, .string ⟨#[]⟩, .slice none 0 0, .bool false, .bool ls, .bool s.old, .bool false, .string ⟨#[]⟩, .slice none 0 0, .int .i64 0] rfl rfl 49 _ (HA5.out.keep hb7) sizePc21 rfl (by obtain ⟨qa, qb, hq⟩ := HRVO.out; subst hq; simp [Value.oneCell']) ?_
        intro wf hwf huf
        have qf := ar_upd (HQ5.out.keep hb7) huf HABR.out
        have ddf := ar_upd (HD5.out.keep hb7) huf HDR.out
        refine hK.out _ _ ⟨qf.cell 0 _ rfl, qf.cell 1 _ rfl, qf.cell 2 _ rfl, qf.cell 3 _ rfl, qf.cell 4 _ rfl, qf.cell 5 _ rfl, qf.cell 6 _ rfl, ddf.cell 0 _ rfl, ddf.cell 1 _ rfl, ddf.cell 2 _ rfl⟩ (fun _ => ?_)
        clear hK
        try simp only [Act.put]
        refine wpAnyH_done (by kernel_rfl) ?_ _
        rw [HPC.out] at hwf
        go_wp2
        have hld := ldPc21 hwf
        exact bodyPost_ret (v := .agg (pcC (Hr.headP s) rv (.slice none 0 0))) (by simp [results, Tryz.results45, asAddr, hld]) rfl (by rw [HP3.out]; exact HP4.out _ _ hb7 huf)
    · have HFL := hid' (HHP.out true HFO.out)
      cases ex
      · go_upto_region 13 with fail
        have hpc : (#[.int .u8 1, .string R.m, .string R.s, .string R.a, .string R.p, rv, .string ⟨#[]⟩, .slice none 0 0, .bool false, .bool ls, .bool s.old, .bool true, .string ⟨#[]⟩, .slice none 0 0, .int .i64 0] : Array Value) = pcC (Hr.headP s) rv (.slice none 0 0) := by rw [HFL.out]; rfl
        have HPC := hid' hpc
        clear hpc
        have hb0 : Below w5.heap.size w5 w5.drew := (Below.refl _ _).drew
        have q0 := HQ5.out.keep hb0
        have dd0 := HD5.out.keep hb0
        refine wp_region_held_drew (S := fun W => W.cell? ⟨ab, 0, none⟩ = some (.string R.m) ∧ W.cell? ⟨ab, 1, none⟩ = some (.string R.s) ∧ W.cell? ⟨ab, 2, none⟩ = some (.string R.a) ∧ W.cell? ⟨ab, 3, none⟩ = some (.string R.p) ∧ W.cell? ⟨ab, 4, none⟩ = some (rv) ∧ W.cell? ⟨ab, 5, none⟩ = some (.string ⟨#[]⟩) ∧ W.cell? ⟨ab, 6, none⟩ = some (.slice none 0 0) ∧ W.cell? ⟨hd, 0, none⟩ = some (.string s.m) ∧ W.cell? ⟨hd, 1, none⟩ = some (.string s.t) ∧ W.cell? ⟨hd, 2, none⟩ = some (.bool s.old)) (by kernel_rfl) (⟨q0.cell 0 _ rfl, q0.cell 1 _ rfl, q0.cell 2 _ rfl, q0.cell 3 _ rfl, q0.cell 4 _ rfl, q0.cell 5 _ rfl, q0.cell 6 _ rfl, dd0.cell 0 _ rfl, dd0.cell 1 _ rfl, dd0.cell 2 _ rfl⟩) (fun hHeld => ?_)
        refine take_d19 (i := 0) (d := some 68) (v := ?_) rfl rfl (by kernel_rfl) (by kernel_rfl) (by kernel_rfl) (fun _ _ _ h => h) (Or.inl ⟨by rfl, ?_⟩) (by assumption) ?_
        rotate_left
        · intro w hSw
          (try dsimp only at hSw)
          obtain ⟨a0, a1, a2, a3, a4, a5, a6, d0, d1, d2⟩ := hSw
          go_simp
          try with_reducible rfl
        try simp only [Act.put, List.setIfInBounds_toArray, List.set_cons_zero, List.set_cons_succ]
        refine take_d19 (i := 1) (d := some 69) (v := ?_) rfl rfl (by kernel_rfl) (by kernel_rfl) (by kernel_rfl) (fun _ _ _ h => h) (Or.inl ⟨by rfl, ?_⟩) (by assumption) ?_
        rotate_left
        · intro w hSw
          (try dsimp only at hSw)
          go_simp
          try with_reducible rfl
        try simp only [Act.put, List.setIfInBounds_toArray, List.set_cons_zero, List.set_cons_succ]
        refine take_d19 (i := 2) (d := some 70) (v := ?_) rfl rfl (by kernel_rfl) (by kernel_rfl) (by kernel_rfl) (fun _ _ _ h => h) (Or.inl ⟨by rfl, ?_⟩) (by assumption) ?_
        rotate_left
        · intro w hSw
          (try dsimp only at hSw)
          go_simp
          try with_reducible rfl
        try simp only [Act.put, List.setIfInBounds_toArray, List.set_cons_zero, List.set_cons_succ]
        refine take_d19 (i := 3) (d := some 71) (v := ?_) rfl rfl (by kernel_rfl) (by kernel_rfl) (by kernel_rfl) (fun _ _ _ h => h) (Or.inl ⟨by rfl, ?_⟩) (by assumption) ?_
        rotate_left
        · intro w hSw
          (try dsimp only at hSw)
          go_simp
          try with_reducible rfl
        try simp only [Act.put, List.setIfInBounds_toArray, List.set_cons_zero, List.set_cons_succ]
        refine take_d19 (i := 11) (d := some 79) (v := ?_) rfl rfl (by kernel_rfl) (by kernel_rfl) (by kernel_rfl) (fun _ _ _ h => h) (Or.inl ⟨by rfl, ?_⟩) (by assumption) ?_
        rotate_left
        · intro w hSw
          (try dsimp only at hSw)
          obtain ⟨a0, a1, a2, a3, a4, a5, a6, d0, d1, d2⟩ := hSw
          go_simp
          try with_reducible rfl
        try simp only [Act.put, List.setIfInBounds_toArray, List.set_cons_zero, List.set_cons_succ]
        refine take_d19 (i := 12) (d := some 80) (v := ?_) rfl rfl (by kernel_rfl) (by kernel_rfl) (by kernel_rfl) (fun _ _ _ h => h) (Or.inl ⟨by rfl, ?_⟩) (by assumption) ?_
        rotate_left
        · intro w hSw
          (try dsimp only at hSw)
          go_simp
          try with_reducible rfl
        try simp only [Act.put, List.setIfInBounds_toArray, List.set_cons_zero, List.set_cons_succ]
        refine take_d19 (i := 14) (d := some 82) (v := ?_) rfl rfl (by kernel_rfl) (by kernel_rfl) (by kernel_rfl) (fun _ _ _ h => h) (Or.inl ⟨by rfl, ?_⟩) (by assumption) ?_
        rotate_left
        · intro w hSw
          (try dsimp only at hSw)
          go_simp
          try with_reducible rfl
        try simp only [Act.put, List.setIfInBounds_toArray, List.set_cons_zero, List.set_cons_succ]
        refine take_d19 (i := 15) (d := some 83) (v := ?_) rfl rfl (by kernel_rfl) (by kernel_rfl) (by kernel_rfl) (fun _ _ _ h => h) (Or.inl ⟨by rfl, ?_⟩) (by assumption) ?_
        rotate_left
        · intro w hSw
          (try dsimp only at hSw)
          obtain ⟨a0, a1, a2, a3, a4, a5, a6, d0, d1, d2⟩ := hSw
          go_simp
          try with_reducible rfl
        try simp only [Act.put, List.setIfInBounds_toArray, List.set_cons_zero, List.set_cons_succ]
        refine take_d19 (i := 16) (d := some 84) (v := ?_) rfl rfl (by kernel_rfl) (by kernel_rfl) (by kernel_rfl) (fun _ _ _ h => h) (Or.inl ⟨by rfl, ?_⟩) (by assumption) ?_
        rotate_left
        · intro w hSw
          (try dsimp only at hSw)
          go_simp
          try with_reducible rfl
        try simp only [Act.put, List.setIfInBounds_toArray, List.set_cons_zero, List.set_cons_succ]
        refine wpAnyH_ready (rs := [4]) (by kernel_rfl) (by simp) ?_
        refine AllReadyH.cons rfl (fun KK hK => ?_) AllReadyH.nil
        go_simp
        refine (HCEX.out w5.drew hb0).mono ?_
        rintro e w6 ⟨rfl, hcw6⟩
        have hb6 := below_two hb0 hcw6
        have qw6 := HQ5.out.keep hb6
        have ddw6 := HD5.out.keep hb6
        go_wp2_with fail
        refine hK.out _ _ ⟨qw6.cell 0 _ rfl, qw6.cell 1 _ rfl, qw6.cell 2 _ rfl, qw6.cell 3 _ rfl, qw6.cell 4 _ rfl, qw6.cell 5 _ rfl, qw6.cell 6 _ rfl, ddw6.cell 0 _ rfl, ddw6.cell 1 _ rfl, ddw6.cell 2 _ rfl⟩ (fun _ => ?_)
        clear hK
        try simp only [Act.put, List.setIfInBounds_toArray, List.set_cons_zero, List.set_cons_succ]
        refine take_d19 (i := 5) (d := some 73) (v := ?_) rfl rfl (by kernel_rfl) (by kernel_rfl) (by kernel_rfl) (fun _ _ _ h => h) (Or.inl ⟨by rfl, ?_⟩) (by assumption) ?_
        rotate_left
        · intro w hSw
          (try dsimp only at hSw)
          go_simp
          try with_reducible rfl
        try simp only [Act.put, List.setIfInBounds_toArray, List.set_cons_zero, List.set_cons_succ]
        refine take_d19 (i := 6) (d := some 74) (v := ?_) rfl rfl (by kernel_rfl) (by kernel_rfl) (by kernel_rfl) (fun _ _ _ h => h) (Or.inl ⟨by rfl, ?_⟩) (by assumption) ?_
        rotate_left
        · intro w hSw
          (try dsimp only at hSw)
          go_simp
          try with_reducible rfl
        try simp only [Act.put, List.setIfInBounds_toArray, List.set_cons_zero, List.set_cons_succ]
        refine take_d19 (i := 7) (d := some 75) (v := undef) rfl rfl (by kernel_rfl) (by kernel_rfl) (by kernel_rfl) (fun _ _ _ h => h) (Or.inr ⟨by rfl, rfl⟩) (by assumption) ?_
        try simp only [Act.put, List.setIfInBounds_toArray, List.set_cons_zero, List.set_cons_succ]
        refine take_d19 (i := 8) (d := some 76) (v := undef) rfl rfl (by kernel_rfl) (by kernel_rfl) (by kernel_rfl) (fun _ _ _ h => h) (Or.inr ⟨by rfl, rfl⟩) (by assumption) ?_
        try simp only [Act.put, List.setIfInBounds_toArray, List.set_cons_zero, List.set_cons_succ]
        refine take_d19 (i := 9) (d := some 77) (v := undef) rfl rfl (by kernel_rfl) (by kernel_rfl) (by kernel_rfl) (fun _ _ _ h => h) (Or.inr ⟨by rfl, rfl⟩) (by assumption) ?_
        try simp only [Act.put, List.setIfInBounds_toArray, List.set_cons_zero, List.set_cons_succ]
        refine take_d19 (i := 10) (d := some 78) (v := ?_) rfl rfl (by kernel_rfl) (by kernel_rfl) (by kernel_rfl) (fun _ _ _ h => h) (Or.inl ⟨by rfl, ?_⟩) (by assumption) ?_
        rotate_left
        · intro w hSw
          (try dsimp only at hSw)
          go_simp
          try with_reducible rfl
        try simp only [Act.put, List.setIfInBounds_toArray, List.set_cons_zero, List.set_cons_succ]
        refine wpAnyH_ready (rs := [13]) (by kernel_rfl) (by simp) ?_
        refine AllReadyH.cons rfl (fun KK hK => ?_) AllReadyH.nil
        go_simp
        refine (HCLS.out w6 hb6).mono ?_
        rintro e w7 ⟨rfl, hcw7⟩
        have hb7 := below_two hb6 hcw7
        have qw7 := HQ5.out.keep hb7
        have ddw7 := HD5.out.keep hb7
        go_wp2_with fail
        refine hK.out _ _ ⟨qw7.cell 0 _ rfl, qw7.cell 1 _ rfl, qw7.cell 2 _ rfl, qw7.cell 3 _ rfl, qw7.cell 4 _ rfl, qw7.cell 5 _ rfl, qw7.cell 6 _ rfl, ddw7.cell 0 _ rfl, ddw7.cell 1 _ rfl, ddw7.cell 2 _ rfl⟩ (fun _ => ?_)
        clear hK
        try simp only [Act.put, List.setIfInBounds_toArray, List.set_cons_zero, List.set_cons_succ]
        refine take_d19 (i := 17) (d := some 85) (v := ?_) rfl rfl (by kernel_rfl) (by kernel_rfl) (by kernel_rfl) (fun _ _ _ h => h) (Or.inl ⟨by rfl, ?_⟩) (by assumption) ?_
        rotate_left
        · intro w hSw
          (try dsimp only at hSw)
          go_simp
          try with_reducible rfl
        try simp only [Act.put, List.setIfInBounds_toArray, List.set_cons_zero, List.set_cons_succ]
        refine wpAnyH_ready (rs := [18]) (by kernel_rfl) (by simp) ?_
        refine AllReadyH.cons rfl (fun KK hK => ?_) AllReadyH.nil
        refine step_store19 rfl 49 _ _ rfl rb #[.int .u8 1, .string R.m, .string R.s, .string R.a, .string R.p, rv, .string ⟨#[]⟩, .slice none 0 0, .bool false, .bool ls, .bool s.old, .bool true, .string ⟨#[]⟩, .slice none 0 0, .int .i64 0] rfl rfl 49 _ (HA5.out.keep hb7) sizePc21 rfl (by obtain ⟨qa, qb, hq⟩ := HRVO.out; subst hq; simp [Value.oneCell']) ?_
        intro wf hwf huf
        have qf := ar_upd (HQ5.out.keep hb7) huf HABR.out
        have ddf := ar_upd (HD5.out.keep hb7) huf HDR.out
        refine hK.out _ _ ⟨qf.cell 0 _ rfl, qf.cell 1 _ rfl, qf.cell 2 _ rfl, qf.cell 3 _ rfl, qf.cell 4 _ rfl, qf.cell 5 _ rfl, qf.cell 6 _ rfl, ddf.cell 0 _ rfl, ddf.cell 1 _ rfl, ddf.cell 2 _ rfl⟩ (fun _ => ?_)
        clear hK
        try simp only [Act.put]
        refine wpAnyH_done (by kernel_rfl) ?_ _
        rw [HPC.out] at hwf
        go_wp2
        have hld := ldPc21 hwf
        exact bodyPost_ret (v := .agg (pcC (Hr.headP s) rv (.slice none 0 0))) (by simp [results, Tryz.results45, asAddr, hld]) rfl (by rw [HP3.out]; exact HP4.out _ _ hb7 huf)
      · go_upto_region 13 with fail
        have hpc : (#[.int .u8 1, .string R.m, .string R.s, .string R.a, .string R.p, rv, .string ⟨#[]⟩, .slice none 0 0, .bool (!s.old), .bool ls, .bool s.old, .bool true, .string ⟨#[]⟩, .slice none 0 0, .int .i64 0] : Array Value) = pcC (Hr.headP s) rv (.slice none 0 0) := by rw [HFL.out]; rfl
        have HPC := hid' hpc
        clear hpc
        have hb0 : Below w5.heap.size w5 w5.drew := (Below.refl _ _).drew
        have q0 := HQ5.out.keep hb0
        have dd0 := HD5.out.keep hb0
        refine wp_region_held_drew (S := fun W => W.cell? ⟨ab, 0, none⟩ = some (.string R.m) ∧ W.cell? ⟨ab, 1, none⟩ = some (.string R.s) ∧ W.cell? ⟨ab, 2, none⟩ = some (.string R.a) ∧ W.cell? ⟨ab, 3, none⟩ = some (.string R.p) ∧ W.cell? ⟨ab, 4, none⟩ = some (rv) ∧ W.cell? ⟨ab, 5, none⟩ = some (.string ⟨#[]⟩) ∧ W.cell? ⟨ab, 6, none⟩ = some (.slice none 0 0) ∧ W.cell? ⟨hd, 0, none⟩ = some (.string s.m) ∧ W.cell? ⟨hd, 1, none⟩ = some (.string s.t) ∧ W.cell? ⟨hd, 2, none⟩ = some (.bool s.old)) (by kernel_rfl) (⟨q0.cell 0 _ rfl, q0.cell 1 _ rfl, q0.cell 2 _ rfl, q0.cell 3 _ rfl, q0.cell 4 _ rfl, q0.cell 5 _ rfl, q0.cell 6 _ rfl, dd0.cell 0 _ rfl, dd0.cell 1 _ rfl, dd0.cell 2 _ rfl⟩) (fun hHeld => ?_)
        refine take_d19 (i := 0) (d := some 68) (v := ?_) rfl rfl (by kernel_rfl) (by kernel_rfl) (by kernel_rfl) (fun _ _ _ h => h) (Or.inl ⟨by rfl, ?_⟩) (by assumption) ?_
        rotate_left
        · intro w hSw
          (try dsimp only at hSw)
          obtain ⟨a0, a1, a2, a3, a4, a5, a6, d0, d1, d2⟩ := hSw
          go_simp
          try with_reducible rfl
        try simp only [Act.put, List.setIfInBounds_toArray, List.set_cons_zero, List.set_cons_succ]
        refine take_d19 (i := 1) (d := some 69) (v := ?_) rfl rfl (by kernel_rfl) (by kernel_rfl) (by kernel_rfl) (fun _ _ _ h => h) (Or.inl ⟨by rfl, ?_⟩) (by assumption) ?_
        rotate_left
        · intro w hSw
          (try dsimp only at hSw)
          go_simp
          try with_reducible rfl
        try simp only [Act.put, List.setIfInBounds_toArray, List.set_cons_zero, List.set_cons_succ]
        refine take_d19 (i := 2) (d := some 70) (v := ?_) rfl rfl (by kernel_rfl) (by kernel_rfl) (by kernel_rfl) (fun _ _ _ h => h) (Or.inl ⟨by rfl, ?_⟩) (by assumption) ?_
        rotate_left
        · intro w hSw
          (try dsimp only at hSw)
          go_simp
          try with_reducible rfl
        try simp only [Act.put, List.setIfInBounds_toArray, List.set_cons_zero, List.set_cons_succ]
        refine take_d19 (i := 3) (d := some 71) (v := ?_) rfl rfl (by kernel_rfl) (by kernel_rfl) (by kernel_rfl) (fun _ _ _ h => h) (Or.inl ⟨by rfl, ?_⟩) (by assumption) ?_
        rotate_left
        · intro w hSw
          (try dsimp only at hSw)
          go_simp
          try with_reducible rfl
        try simp only [Act.put, List.setIfInBounds_toArray, List.set_cons_zero, List.set_cons_succ]
        refine take_d19 (i := 11) (d := some 79) (v := ?_) rfl rfl (by kernel_rfl) (by kernel_rfl) (by kernel_rfl) (fun _ _ _ h => h) (Or.inl ⟨by rfl, ?_⟩) (by assumption) ?_
        rotate_left
        · intro w hSw
          (try dsimp only at hSw)
          obtain ⟨a0, a1, a2, a3, a4, a5, a6, d0, d1, d2⟩ := hSw
          go_simp
          try with_reducible rfl
        try simp only [Act.put, List.setIfInBounds_toArray, List.set_cons_zero, List.set_cons_succ]
        refine take_d19 (i := 12) (d := some 80) (v := ?_) rfl rfl (by kernel_rfl) (by kernel_rfl) (by kernel_rfl) (fun _ _ _ h => h) (Or.inl ⟨by rfl, ?_⟩) (by assumption) ?_
        rotate_left
        · intro w hSw
          (try dsimp only at hSw)
          go_simp
          try with_reducible rfl
        try simp only [Act.put, List.setIfInBounds_toArray, List.set_cons_zero, List.set_cons_succ]
        refine take_d19 (i := 14) (d := some 82) (v := ?_) rfl rfl (by kernel_rfl) (by kernel_rfl) (by kernel_rfl) (fun _ _ _ h => h) (Or.inl ⟨by rfl, ?_⟩) (by assumption) ?_
        rotate_left
        · intro w hSw
          (try dsimp only at hSw)
          go_simp
          try with_reducible rfl
        try simp only [Act.put, List.setIfInBounds_toArray, List.set_cons_zero, List.set_cons_succ]
        refine take_d19 (i := 15) (d := some 83) (v := ?_) rfl rfl (by kernel_rfl) (by kernel_rfl) (by kernel_rfl) (fun _ _ _ h => h) (Or.inl ⟨by rfl, ?_⟩) (by assumption) ?_
        rotate_left
        · intro w hSw
          (try dsimp only at hSw)
          obtain ⟨a0, a1, a2, a3, a4, a5, a6, d0, d1, d2⟩ := hSw
          go_simp
          try with_reducible rfl
        try simp only [Act.put, List.setIfInBounds_toArray, List.set_cons_zero, List.set_cons_succ]
        refine take_d19 (i := 16) (d := some 84) (v := ?_) rfl rfl (by kernel_rfl) (by kernel_rfl) (by kernel_rfl) (fun _ _ _ h => h) (Or.inl ⟨by rfl, ?_⟩) (by assumption) ?_
        rotate_left
        · intro w hSw
          (try dsimp only at hSw)
          go_simp
          try with_reducible rfl
        try simp only [Act.put, List.setIfInBounds_toArray, List.set_cons_zero, List.set_cons_succ]
        refine wpAnyH_ready (rs := [4]) (by kernel_rfl) (by simp) ?_
        refine AllReadyH.cons rfl (fun KK hK => ?_) AllReadyH.nil
        go_simp
        refine (HCEX.out w5.drew hb0).mono ?_
        rintro e w6 ⟨rfl, hcw6⟩
        have hb6 := below_two hb0 hcw6
        have qw6 := HQ5.out.keep hb6
        have ddw6 := HD5.out.keep hb6
        go_wp2_with fail
        refine hK.out _ _ ⟨qw6.cell 0 _ rfl, qw6.cell 1 _ rfl, qw6.cell 2 _ rfl, qw6.cell 3 _ rfl, qw6.cell 4 _ rfl, qw6.cell 5 _ rfl, qw6.cell 6 _ rfl, ddw6.cell 0 _ rfl, ddw6.cell 1 _ rfl, ddw6.cell 2 _ rfl⟩ (fun _ => ?_)
        clear hK
        try simp only [Act.put, List.setIfInBounds_toArray, List.set_cons_zero, List.set_cons_succ]
        refine take_d19 (i := 5) (d := some 73) (v := ?_) rfl rfl (by kernel_rfl) (by kernel_rfl) (by kernel_rfl) (fun _ _ _ h => h) (Or.inl ⟨by rfl, ?_⟩) (by assumption) ?_
        rotate_left
        · intro w hSw
          (try dsimp only at hSw)
          go_simp
          try with_reducible rfl
        try simp only [Act.put, List.setIfInBounds_toArray, List.set_cons_zero, List.set_cons_succ]
        refine take_d19 (i := 6) (d := some 74) (v := ?_) rfl rfl (by kernel_rfl) (by kernel_rfl) (by kernel_rfl) (fun _ _ _ h => h) (Or.inl ⟨by rfl, ?_⟩) (by assumption) ?_
        rotate_left
        · intro w hSw
          (try dsimp only at hSw)
          go_simp
          try with_reducible rfl
        try simp only [Act.put, List.setIfInBounds_toArray, List.set_cons_zero, List.set_cons_succ]
        refine take_d19 (i := 7) (d := some 75) (v := ?_) rfl rfl (by kernel_rfl) (by kernel_rfl) (by kernel_rfl) (fun _ _ _ h => h) (Or.inl ⟨by rfl, ?_⟩) (by assumption) ?_
        rotate_left
        · intro w hSw
          (try dsimp only at hSw)
          go_simp
          try with_reducible rfl
        try simp only [Act.put, List.setIfInBounds_toArray, List.set_cons_zero, List.set_cons_succ]
        refine take_d19 (i := 8) (d := some 76) (v := ?_) rfl rfl (by kernel_rfl) (by kernel_rfl) (by kernel_rfl) (fun _ _ _ h => h) (Or.inl ⟨by rfl, ?_⟩) (by assumption) ?_
        rotate_left
        · intro w hSw
          (try dsimp only at hSw)
          obtain ⟨a0, a1, a2, a3, a4, a5, a6, d0, d1, d2⟩ := hSw
          go_simp
          try with_reducible rfl
        try simp only [Act.put, List.setIfInBounds_toArray, List.set_cons_zero, List.set_cons_succ]
        refine take_d19 (i := 9) (d := some 77) (v := ?_) rfl rfl (by kernel_rfl) (by kernel_rfl) (by kernel_rfl) (fun _ _ _ h => h) (Or.inl ⟨by rfl, ?_⟩) (by assumption) ?_
        rotate_left
        · intro w hSw
          (try dsimp only at hSw)
          go_simp
          try with_reducible rfl
        try simp only [Act.put, List.setIfInBounds_toArray, List.set_cons_zero, List.set_cons_succ]
        refine take_d19 (i := 10) (d := some 78) (v := ?_) rfl rfl (by kernel_rfl) (by kernel_rfl) (by kernel_rfl) (fun _ _ _ h => h) (Or.inl ⟨by rfl, ?_⟩) (by assumption) ?_
        rotate_left
        · intro w hSw
          (try dsimp only at hSw)
          go_simp
          try with_reducible rfl
        try simp only [Act.put, List.setIfInBounds_toArray, List.set_cons_zero, List.set_cons_succ]
        refine wpAnyH_ready (rs := [13]) (by kernel_rfl) (by simp) ?_
        refine AllReadyH.cons rfl (fun KK hK => ?_) AllReadyH.nil
        go_simp
        refine (HCLS.out w6 hb6).mono ?_
        rintro e w7 ⟨rfl, hcw7⟩
        have hb7 := below_two hb6 hcw7
        have qw7 := HQ5.out.keep hb7
        have ddw7 := HD5.out.keep hb7
        go_wp2_with fail
        refine hK.out _ _ ⟨qw7.cell 0 _ rfl, qw7.cell 1 _ rfl, qw7.cell 2 _ rfl, qw7.cell 3 _ rfl, qw7.cell 4 _ rfl, qw7.cell 5 _ rfl, qw7.cell 6 _ rfl, ddw7.cell 0 _ rfl, ddw7.cell 1 _ rfl, ddw7.cell 2 _ rfl⟩ (fun _ => ?_)
        clear hK
        try simp only [Act.put, List.setIfInBounds_toArray, List.set_cons_zero, List.set_cons_succ]
        refine take_d19 (i := 17) (d := some 85) (v := ?_) rfl rfl (by kernel_rfl) (by kernel_rfl) (by kernel_rfl) (fun _ _ _ h => h) (Or.inl ⟨by rfl, ?_⟩) (by assumption) ?_
        rotate_left
        · intro w hSw
          (try dsimp only at hSw)
          go_simp
          try with_reducible rfl
        try simp only [Act.put, List.setIfInBounds_toArray, List.set_cons_zero, List.set_cons_succ]
        refine wpAnyH_ready (rs := [18]) (by kernel_rfl) (by simp) ?_
        refine AllReadyH.cons rfl (fun KK hK => ?_) AllReadyH.nil
        refine step_store19 rfl 49 _ _ rfl rb #[.int .u8 1, .string R.m, .string R.s, .string R.a, .string R.p, rv, .string ⟨#[]⟩, .slice none 0 0, .bool (!s.old), .bool ls, .bool s.old, .bool true, .string ⟨#[]⟩, .slice none 0 0, .int .i64 0] rfl rfl 49 _ (HA5.out.keep hb7) sizePc21 rfl (by obtain ⟨qa, qb, hq⟩ := HRVO.out; subst hq; simp [Value.oneCell']) ?_
        intro wf hwf huf
        have qf := ar_upd (HQ5.out.keep hb7) huf HABR.out
        have ddf := ar_upd (HD5.out.keep hb7) huf HDR.out
        refine hK.out _ _ ⟨qf.cell 0 _ rfl, qf.cell 1 _ rfl, qf.cell 2 _ rfl, qf.cell 3 _ rfl, qf.cell 4 _ rfl, qf.cell 5 _ rfl, qf.cell 6 _ rfl, ddf.cell 0 _ rfl, ddf.cell 1 _ rfl, ddf.cell 2 _ rfl⟩ (fun _ => ?_)
        clear hK
        try simp only [Act.put]
        refine wpAnyH_done (by kernel_rfl) ?_ _
        rw [HPC.out] at hwf
        go_wp2
        have hld := ldPc21 hwf
        exact bodyPost_ret (v := .agg (pcC (Hr.headP s) rv (.slice none 0 0))) (by simp [results, Tryz.results45, asAddr, hld]) rfl (by rw [HP3.out]; exact HP4.out _ _ hb7 huf)

end Go.Proofs.YtbpdhcfmdkmoiaaGreatDoor
