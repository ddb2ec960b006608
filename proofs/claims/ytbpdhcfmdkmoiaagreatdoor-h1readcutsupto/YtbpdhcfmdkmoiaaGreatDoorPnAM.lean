/-
  The reader's forget, finish, breaks, readNothing, readEnd: by their contracts.
-/
import Derived.RegionTactic
import Derived.ChangeAlike
import Derived.Deep.RegionHeld3
import Derived.Test.YtbpdhcfmdkmoiaaGreatDoorPnAL
namespace Go.Proofs.YtbpdhcfmdkmoiaaGreatDoor
open Go.RowKit

theorem sizePc21 : (Tryz.prog.info? 49).map (·.size) = some 15 := by kernel_rfl
theorem sizeRd21 : (Tryz.prog.info? 66).map (·.size) = some 14 := by kernel_rfl
def pcZ : Array Value := pcC Hr.pc0 (.slice none 0 0) (.slice none 0 0)
theorem zeroPc21 : (Tryz.prog.info? 49).map (fun i => i.zero) = some (some (.agg pcZ)) := by kernel_rfl
theorem ldPc21 {w : World} {b : Nat} {p : Hr.Pc} {rv tv : Value} (h : Ar w b 49 (pcC p rv tv)) : (loadVar 49 ⟨b, 0, none⟩).run Tryz.prog w = .ok (.agg (pcC p rv tv)) w :=
  run_loadVar_row (P := Tryz.prog) w b 49 49 _ (0, 0) _ h Tryz.underlying49 rfl sizePc21

section
variable {P : Program} {md : Region.Mode} {Q : Exit → Act → World → Prop} {S : World → Prop}
/-- An operation is taken first, its slot written out. -/
theorem take_d19 {ops : Array Oper} {i : Nat} {oi : Oper} {d : Option Tmp} {v : Value} {fuel : Nat} {listed : Array Bool} {a : Act} {w : World} (hi : ops[i]? = some oi) (hd : oi.dst = d)
    (hs : Region.noSelect ops = true) (hf : Region.free md ops listed i = true) (hr : (Region.ready md ops listed).contains i = true)
    (hQ : ∀ c a w, Q (.panic c) (a.put d v) w → Q (.panic c) a w) (hy : YieldsIf P ops S oi v a) (hS : S w)
    (h : wpAnyH P md ops Q S fuel (listed.setIfInBounds i true) (a.put d v) w) : wpAnyH P md ops Q S (fuel + 1) listed a w := by
  subst hd
  exact wpAnyH_take hi hs hf hr hQ hy hS h
theorem step_store19 {w : World} {ops : Array Oper} {o : Oper} {a : Act} {K : Act → World → Prop} {E : Prop} (hgd : o.guard = none) (ty : TypeId) (x y : Operand)
    (ho : o.op = .store ty x y) (b : Nat) (c : Array Value) (hx : a.eval x = .pointer (some ⟨b, 0, none⟩)) (hy : a.eval y = .agg c)
    (t : TypeId) (old : Array Value) (hg : Ar w b t old) (hi : (P.info? ty).map (·.size) = some c.size) (hold : old.size = c.size) (h1 : c.all (·.oneCell') = true)
    (h : ∀ w', Ar w' b t c → Upd b w w' → K (a.put o.dst undef) w') : if Region.wanted o (yielded ops a.tmps) = true then Oper.wp P o a w K Q else E := by
  have hw : Region.wanted o (yielded ops a.tmps) = true := by simp [Region.wanted, hgd]
  rw [if_pos hw]
  exact wp_store_row ty x y ho b c hx hy t old hg hi hold h1 (h _ (setRow_heap w b old c t (0, 0) hg) (upd_setRow w b c))
end

set_option maxHeartbeats 1000000 in
set_option maxRecDepth 20000 in
theorem cforgetB21 (B b : Nat) (nv lv fv : Value) (s : Hr.St) (w : World) (h : RN w B b nv lv fv s) :
    Calls Tryz.prog 40 #[.pointer (some ⟨b, 0, none⟩)] w fun e w' => e = .returned (.tuple #[]) ∧ RN w' B b .nilFunc (.slice none 0 0) (.slice none 0 0) (Hr.fresh s) ∧ LF (fun k => k = b) w w' := by
  have H := hid' h
  have c0 : w.drew.cell? ⟨b, 0, none⟩ = some (.int .i64 s.L) := h.obj.cell 0 _ rfl
  have c1 : w.drew.cell? ⟨b, 1, none⟩ = some (.int .i64 s.M) := h.obj.cell 1 _ rfl
  clear h
  go_enter Tryz.func40, Tryz.ntmps40
  refine wp_region_held_drew (S := fun W => W.cell? ⟨b, 0, none⟩ = some (.int .i64 s.L) ∧ W.cell? ⟨b, 1, none⟩ = some (.int .i64 s.M)) (by kernel_rfl) (⟨c0, c1⟩) (fun hHeld => ?_)
  refine take_d19 (i := 0) (d := some 2) (v := ?_) rfl rfl (by kernel_rfl) (by kernel_rfl) (by kernel_rfl) (fun _ _ _ h => h) (Or.inl ⟨by rfl, ?_⟩) (by assumption) ?_
  rotate_left
  · intro w hSw
    (try dsimp only at hSw)
    go_simp
    try with_reducible rfl
  try simp only [Act.put, List.setIfInBounds_toArray, List.set_cons_zero, List.set_cons_succ]
  refine take_d19 (i := 1) (d := some 3) (v := ?_) rfl rfl (by kernel_rfl) (by kernel_rfl) (by kernel_rfl) (fun _ _ _ h => h) (Or.inl ⟨by rfl, ?_⟩) (by assumption) ?_
  rotate_left
  · intro w hSw
    (try dsimp only at hSw)
    go_simp
    try with_reducible rfl
  try simp only [Act.put, List.setIfInBounds_toArray, List.set_cons_zero, List.set_cons_succ]
  refine take_d19 (i := 2) (d := some 4) (v := ?_) rfl rfl (by kernel_rfl) (by kernel_rfl) (by kernel_rfl) (fun _ _ _ h => h) (Or.inl ⟨by rfl, ?_⟩) (by assumption) ?_
  rotate_left
  · intro w hSw
    (try dsimp only at hSw)
    go_simp
    try with_reducible rfl
  try simp only [Act.put, List.setIfInBounds_toArray, List.set_cons_zero, List.set_cons_succ]
  refine take_d19 (i := 3) (d := some 5) (v := ?_) rfl rfl (by kernel_rfl) (by kernel_rfl) (by kernel_rfl) (fun _ _ _ h => h) (Or.inl ⟨by rfl, ?_⟩) (by assumption) ?_
  rotate_left
  · intro w hSw
    (try dsimp only at hSw)
    go_simp
    try with_reducible rfl
  try simp only [Act.put, List.setIfInBounds_toArray, List.set_cons_zero, List.set_cons_succ]
  refine take_d19 (i := 4) (d := some 6) (v := ?_) rfl rfl (by kernel_rfl) (by kernel_rfl) (by kernel_rfl) (fun _ _ _ h => h) (Or.inl ⟨by rfl, ?_⟩) (by assumption) ?_
  rotate_left
  · intro w hSw
    (try dsimp only at hSw)
    obtain ⟨c0, c1⟩ := hSw
    go_simp
    try with_reducible rfl
  try simp only [Act.put, List.setIfInBounds_toArray, List.set_cons_zero, List.set_cons_succ]
  refine take_d19 (i := 5) (d := some 7) (v := ?_) rfl rfl (by kernel_rfl) (by kernel_rfl) (by kernel_rfl) (fun _ _ _ h => h) (Or.inl ⟨by rfl, ?_⟩) (by assumption) ?_
  rotate_left
  · intro w hSw
    (try dsimp only at hSw)
    go_simp
    try with_reducible rfl
  try simp only [Act.put, List.setIfInBounds_toArray, List.set_cons_zero, List.set_cons_succ]
  refine take_d19 (i := 6) (d := some 8) (v := ?_) rfl rfl (by kernel_rfl) (by kernel_rfl) (by kernel_rfl) (fun _ _ _ h => h) (Or.inl ⟨by rfl, ?_⟩) (by assumption) ?_
  rotate_left
  · intro w hSw
    (try dsimp only at hSw)
    go_simp
    try with_reducible rfl
  try simp only [Act.put, List.setIfInBounds_toArray, List.set_cons_zero, List.set_cons_succ]
  refine take_d19 (i := 7) (d := some 9) (v := ?_) rfl rfl (by kernel_rfl) (by kernel_rfl) (by kernel_rfl) (fun _ _ _ h => h) (Or.inl ⟨by rfl, ?_⟩) (by assumption) ?_
  rotate_left
  · intro w hSw
    (try dsimp only at hSw)
    go_simp
    try with_reducible rfl
  try simp only [Act.put, List.setIfInBounds_toArray, List.set_cons_zero, List.set_cons_succ]
  refine take_d19 (i := 8) (d := some 10) (v := ?_) rfl rfl (by kernel_rfl) (by kernel_rfl) (by kernel_rfl) (fun _ _ _ h => h) (Or.inl ⟨by rfl, ?_⟩) (by assumption) ?_
  rotate_left
  · intro w hSw
    (try dsimp only at hSw)
    obtain ⟨c0, c1⟩ := hSw
    go_simp
    try with_reducible rfl
  try simp only [Act.put, List.setIfInBounds_toArray, List.set_cons_zero, List.set_cons_succ]
  refine take_d19 (i := 9) (d := some 11) (v := ?_) rfl rfl (by kernel_rfl) (by kernel_rfl) (by kernel_rfl) (fun _ _ _ h => h) (Or.inl ⟨by rfl, ?_⟩) (by assumption) ?_
  rotate_left
  · intro w hSw
    (try dsimp only at hSw)
    go_simp
    try with_reducible rfl
  try simp only [Act.put, List.setIfInBounds_toArray, List.set_cons_zero, List.set_cons_succ]
  refine take_d19 (i := 10) (d := some 12) (v := ?_) rfl rfl (by kernel_rfl) (by kernel_rfl) (by kernel_rfl) (fun _ _ _ h => h) (Or.inl ⟨by rfl, ?_⟩) (by assumption) ?_
  rotate_left
  · intro w hSw
    (try dsimp only at hSw)
    go_simp
    try with_reducible rfl
  try simp only [Act.put, List.setIfInBounds_toArray, List.set_cons_zero, List.set_cons_succ]
  refine wpAnyH_ready (rs := [11]) (by kernel_rfl) (by simp) ?_
  refine AllReadyH.cons rfl (fun K hK => ?_) AllReadyH.nil
  refine step_store19 rfl 66 _ _ rfl b #[.int .i64 s.L, .int .i64 s.M, .nilFunc, .bool false, .slice none 0 0, .bool false, .string ⟨#[]⟩, .string ⟨#[]⟩, .bool false, .slice none 0 0, .int .i64 0, .int .i64 0, .int .i64 0, .int .i64 0] rfl rfl 66 _ (H.out.obj.drew) sizeRd21 rfl (by simp [Value.oneCell']) ?_
  intro wf hawf huwf
  refine hK.out _ _ (⟨hawf.cell 0 _ rfl, hawf.cell 1 _ rfl⟩) (fun _ => ?_)
  clear hK K
  try simp only [Act.put]
  refine wpAnyH_done (by kernel_rfl) ?_ _
  go_end0
  go_wp2
  exact ⟨⟨H.out.lo, hawf, World.ownsRow_nil _ _ _ _, World.ownsRow_nil _ _ _ _⟩, ⟨huwf.os, huwf.tape, huwf.output, Nat.le_of_eq huwf.size.symm, fun k _ hk => huwf.block k hk⟩⟩

theorem lf_b21 {w w' : World} {b : Nat} {lv fv : Value} (h : LF (fun k => k = b) w w') : LF (RS b lv fv) w w' := (LF.refl (RS b lv fv) w).trans h (fun _ _ hk => .inl hk)
theorem cforget21 (B b : Nat) (nv lv fv : Value) (s : Hr.St) (w : World) (h : RN w B b nv lv fv s) :
    Calls Tryz.prog 40 #[.pointer (some ⟨b, 0, none⟩)] w fun e w' => e = .returned (.tuple #[]) ∧ RN w' B b .nilFunc (.slice none 0 0) (.slice none 0 0) (Hr.fresh s) ∧ LF (RS b lv fv) w w' :=
  (cforgetB21 B b nv lv fv s w h).mono (fun _ _ ⟨h1, h2, h3⟩ => ⟨h1, h2, lf_b21 h3⟩)
theorem hmf21 (fn : Fn) (first cap : Array Value) (w : World) : (Instr.makeFunc fn first cap).run Tryz.prog w = .ok (.func fn first cap) w := rfl
theorem lf_rs {w w' w2 : World} {b : Nat} {lv fv lv' fv' : Value} (h1 : LF (RS b lv fv) w w') (hr : RW w.heap.size lv fv lv' fv') (h2 : LF (RS b lv' fv') w' w2) : LF (RS b lv fv) w w2 :=
  h1.trans h2 (fun k hk hs => by
    rcases hs with rfl | hs | hs
    · exact .inl rfl
    · rcases hr.1 k hs with h | h
      · exact .inr (.inl h)
      · omega
    · rcases hr.2 k hs with h | h
      · exact .inr (.inr h)
      · omega)
theorem rs_none (b : Nat) (k : Nat) (h : RS b (.slice none 0 0) (.slice none 0 0) k) : k = b := by
  rcases h with h | h | h
  · exact h
  · simp [Value.ownBlock] at h
  · simp [Value.ownBlock] at h
/-- The reader ahead of the next request. -/
theorem RN.next {w : World} {B b : Nat} {nv lv fv : Value} {s s' : Hr.St} (h : RN w B b nv lv fv s) (k : Nat) (hs : rdC (mV b k) lv fv s = rdC (mV b k) lv fv s') (h1 : s'.ln = s.ln) (h2 : s'.fs = s.fs) : RN (w.setCell ⟨b, 2, none⟩ (mV b k)) B b (mV b k) lv fv s' :=
  h.set 2 _ (by rw [← hs]; rfl) h1 h2

set_option maxHeartbeats 1000000 in
theorem cfinishB21 (B b : Nat) (nv lv fv : Value) (s : Hr.St) (w : World) (h : RN w B b nv lv fv s) :
    Calls Tryz.prog 76 #[.pointer (some ⟨b, 0, none⟩)] w fun e w' => e = .returned (.tuple #[]) ∧ RN w' B b (rnx b (.inl false)) (.slice none 0 0) (.slice none 0 0) (Hr.fresh s) ∧ LF (fun k => k = b) w w' := by
  have H := hid' (cforgetB21 B b nv lv fv s w h)
  have hmf := hmf21
  clear h
  go_enter Tryz.func76, Tryz.ntmps76
  go_wp2_with fail
  refine H.out.mono ?_
  rintro e w1 ⟨rfl, h1, hf1⟩
  have c2 : w1.cell? ⟨b, 2, none⟩ = some .nilFunc := h1.obj.cell 2 _ rfl
  have f2 := h1.obj.free 2
  have H1 := hid' h1
  have HF1 := hid' hf1
  clear h1 hf1
  go_wp2
  go_end0
  go_wp2
  exact ⟨H1.out.next _ rfl rfl rfl, HF1.out.trans (LF.of_upd (S := fun k => k = b) (upd_setCell _ b 2 _) rfl) (fun _ _ hk => hk)⟩
theorem cfinish21 (B b : Nat) (nv lv fv : Value) (s : Hr.St) (w : World) (h : RN w B b nv lv fv s) :
    Calls Tryz.prog 76 #[.pointer (some ⟨b, 0, none⟩)] w fun e w' => e = .returned (.tuple #[]) ∧ RN w' B b (rnx b (.inl false)) (.slice none 0 0) (.slice none 0 0) (Hr.fresh s) ∧ LF (RS b lv fv) w w' :=
  (cfinishB21 B b nv lv fv s w h).mono (fun _ _ ⟨h1, h2, h3⟩ => ⟨h1, h2, lf_b21 h3⟩)

set_option maxHeartbeats 2000000 in
set_option maxRecDepth 20000 in
theorem cbreaks21 (B b : Nat) (nv lv fv : Value) (s : Hr.St) (c : Int) (w : World) (h : RN w B b nv lv fv s) :
    Calls Tryz.prog 33 #[.pointer (some ⟨b, 0, none⟩), .int .i64 c] w fun e w' => e = .returned (pv0 (Hr.brk c)) ∧ RN w' B b (rnx b (.inr .u64)) (.slice none 0 0) (.slice none 0 0) (Hr.dead s c) ∧ LF (RS b lv fv) w w' := by
  have hmf := hmf21
  have H := hid' h
  clear h
  go_enter Tryz.func33, Tryz.ntmps33
  go_wp2_with (refine wpl_alloc 49 rfl rfl _ zeroPc21 ?_)
  intro rb w1 hrb ha1 hl1
  have H1 := hid' (H.out.keep hl1)
  have HA1 := hid' ha1
  have HL1 := hid' hl1
  have HNE : Hid (rb ≠ b) := hid' (by have := H.out.obj.lt; omega)
  have HNR : Hid (∀ k, RS b lv fv k → k ≠ rb) := hid' (fun k hk e => by have := (H.out.rs k hk).2; omega)
  have HGE := hid' hrb
  clear ha1 hl1 hrb
  go_wp2_with fail
  refine (cforget21 B b nv lv fv s w1 H1.out).mono ?_
  rintro e w2 ⟨rfl, h2, hf2⟩
  have c2 : w2.cell? ⟨b, 2, none⟩ = some .nilFunc := h2.obj.cell 2 _ rfl
  have f2 := h2.obj.free 2
  have c13 : w2.cell? ⟨b, 13, none⟩ = some (.int .i64 0) := h2.obj.cell 13 _ rfl
  have f13 := h2.obj.free 13
  have H2 := hid' h2
  have HF2 := hid' hf2
  have HA2 := hid' (hf2.ar HA1.out (fun hk => HNR.out rb hk rfl))
  clear h2 hf2
  go_upto_region 4 with fail
  have H3 : Hid (RN ((w2.setCell ⟨b, 13, none⟩ (.int .i64 c)).setCell ⟨b, 2, none⟩ (rnx b (.inr .u64))) B b (rnx b (.inr .u64)) (.slice none 0 0) (.slice none 0 0) (Hr.dead s c)) := hid' ((H2.out.set (nv' := .nilFunc) (s' := { Hr.fresh s with st := c }) 13 _ rfl rfl rfl).next _ rfl rfl rfl)
  have HA3 : Hid (Ar ((w2.setCell ⟨b, 13, none⟩ (.int .i64 c)).setCell ⟨b, 2, none⟩ (rnx b (.inr .u64))) rb 49 pcZ) := hid' ((HA2.out.other (Ne.symm HNE.out) _ _).other (Ne.symm HNE.out) _ _)
  have HF3 : Hid (LF (RS b lv fv) w ((w2.setCell ⟨b, 13, none⟩ (.int .i64 c)).setCell ⟨b, 2, none⟩ (rnx b (.inr .u64)))) := hid' ((((LF.of_below HL1.out).trans HF2.out (fun _ _ => id)).trans (RN.lf_set (lv := .slice none 0 0) (fv := .slice none 0 0) 13 _) (fun k _ hk => .inl (rs_none b k hk))).trans (RN.lf_set (lv := .slice none 0 0) (fv := .slice none 0 0) 2 _) (fun k _ hk => .inl (rs_none b k hk)))
  unfold rnx mV rnum at H3 HA3 HF3
  clear H2 HF2 HA2 c2 f2 c13 f13
  generalize (w2.setCell ⟨b, 13, none⟩ (.int .i64 c)).setCell ⟨b, 2, none⟩ (.func (.func 41) #[.pointer (some ⟨b, 0, none⟩)] #[]) = w3 at *
  go_wp2_with (refine wpl_store 49 _ _ rfl rfl rb (pcC (Hr.brk c) (.slice none 0 0) (.slice none 0 0)) (by kernel_rfl) (by kernel_rfl) _ _ HA3.out sizePc21 rfl (by simp [Value.oneCell', pcC]) ?_)
  intro wf hwf huf
  go_wp2
  have hld := ldPc21 hwf
  exact bodyPost_ret (v := pv0 (Hr.brk c)) (by simp [results, Tryz.results33, asAddr, hld, pv0]) rfl ⟨rfl, H3.out.other (LF.of_upd (S := fun k => k = rb) huf rfl) (fun k hk e => by have := rs_none b k hk; exact HNE.out (e.symm.trans this)), HF3.out.trans (LF.of_upd (S := fun k => k = rb) huf rfl) (fun k hk e => by have := HGE.out; omega)⟩

end Go.Proofs.YtbpdhcfmdkmoiaaGreatDoor
