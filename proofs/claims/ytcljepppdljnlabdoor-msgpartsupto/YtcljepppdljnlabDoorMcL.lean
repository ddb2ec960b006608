/-
  The code's head.request: by its contract.
-/
import Derived.Test.YtcljepppdljnlabDoorMcJ
import Derived.Test.YtcljepppdljnlabDoorMsI
namespace Go.Proofs.YtcljepppdljnlabDoor
open Go.RowKit

/-- Who a request's authority is. -/
def auV (H : Ms.Hd) : ByteArray := if H.a.isSome then H.a.getD ⟨#[]⟩ else H.h.getD ⟨#[]⟩
theorem rq_zero (w : World) : Ar (w.alloc (.cells (rqC ⟨#[]⟩ ⟨#[]⟩ ⟨#[]⟩ ⟨#[]⟩ (.slice none 0 0) ⟨#[]⟩ (.slice none 0 0)) 42)) w.heap.size 42 (rqC ⟨#[]⟩ ⟨#[]⟩ ⟨#[]⟩ ⟨#[]⟩ (.slice none 0 0) ⟨#[]⟩ (.slice none 0 0)) := heap_alloc_last w _

section
variable {P : Program} {md : Region.Mode} {ops : Array Oper} {Q : Exit → Act → World → Prop} {S : World → Prop}
/-- An operation is taken first, its slot written out. -/
theorem take_d14 {i : Nat} {oi : Oper} {d : Option Tmp} {v : Value} {fuel : Nat} {listed : Array Bool} {a : Act} {w : World} (hi : ops[i]? = some oi) (hd : oi.dst = d)
    (hs : Region.noSelect ops = true) (hf : Region.free md ops listed i = true) (hr : (Region.ready md ops listed).contains i = true)
    (hQ : ∀ c a w, Q (.panic c) (a.put d v) w → Q (.panic c) a w) (hy : YieldsIf P ops S oi v a) (hS : S w)
    (h : wpAnyH P md ops Q S fuel (listed.setIfInBounds i true) (a.put d v) w) : wpAnyH P md ops Q S (fuel + 1) listed a w := by
  subst hd
  exact wpAnyH_take hi hs hf hr hQ hy hS h
end
theorem sizeRq14 : (Tryd.prog.info? 42).map (·.size) = some 7 := by kernel_rfl
theorem ar_upd {w w' : World} {a b : Nat} {T : TypeId} {c : Array Value} (h : Ar w a T c) (hu : Upd b w w') (hne : a ≠ b) : Ar w' a T c := by
  unfold Ar at *
  rw [hu.block a hne]
  exact h

set_option maxHeartbeats 4000000 in
set_option maxRecDepth 20000 in
theorem creq14 (B b : Nat) (H : Ms.Hd) (fv : Value) (w : World) (h : HM w B b H fv) :
    Calls Tryd.prog 27 #[.pointer (some ⟨b, 0, none⟩)] w fun e w' => e = .returned (.agg (rqC (H.m.getD ⟨#[]⟩) (H.s.getD ⟨#[]⟩) (auV H) (H.p.getD ⟨#[]⟩) fv ⟨#[]⟩ (.slice none 0 0))) ∧ Below w.heap.size w w' := by
  obtain ⟨m, hme⟩ : ∃ m, H.m.getD ⟨#[]⟩ = m := ⟨_, rfl⟩
  obtain ⟨s, hse⟩ : ∃ s, H.s.getD ⟨#[]⟩ = s := ⟨_, rfl⟩
  obtain ⟨p, hpe⟩ : ∃ p, H.p.getD ⟨#[]⟩ = p := ⟨_, rfl⟩
  obtain ⟨a, hae⟩ : ∃ a, H.a.getD ⟨#[]⟩ = a := ⟨_, rfl⟩
  obtain ⟨ho, hhe⟩ : ∃ ho, H.h.getD ⟨#[]⟩ = ho := ⟨_, rfl⟩
  obtain ⟨ab, habe⟩ : ∃ ab, H.a.isSome = ab := ⟨_, rfl⟩
  obtain ⟨hb, hhbe⟩ : ∃ hb, H.h.isSome = hb := ⟨_, rfl⟩
  have hau : auV H = if ab then a else ho := by unfold auV; rw [habe, hae, hhe]
  have hz := rq_zero w
  have hbz := bl_alloc w (.cells (rqC ⟨#[]⟩ ⟨#[]⟩ ⟨#[]⟩ ⟨#[]⟩ (.slice none 0 0) ⟨#[]⟩ (.slice none 0 0)) 42)
  have h2 := h.keep hbz
  have hlt := h.obj.lt
  have hsz : (w.alloc (.cells (rqC ⟨#[]⟩ ⟨#[]⟩ ⟨#[]⟩ ⟨#[]⟩ (.slice none 0 0) ⟨#[]⟩ (.slice none 0 0)) 42)).heap.size = w.heap.size + 1 := by simp
  obtain ⟨fo, fc, hfv⟩ := own_shape h.row
  subst hfv
  obtain ⟨fn, hfn⟩ : ∃ fn, H.fs.length = fn := ⟨_, rfl⟩
  rw [hfn] at h2
  rw [hme, hse, hpe, hau, hfn]
  unfold rqC at hz hbz h2 hsz
  go_enter Tryd.func27, Tryd.ntmps27
  go_upto_region 1 with fail
  generalize w.alloc (.cells #[.string ⟨#[]⟩, .string ⟨#[]⟩, .string ⟨#[]⟩, .string ⟨#[]⟩, .slice none 0 0, .string ⟨#[]⟩, .slice none 0 0] 42) = w0 at *
  have g0 : w0.cell? ⟨b, 0, none⟩ = some (.string m) := by have := h2.obj.cell 0 (.string (H.m.getD ⟨#[]⟩)) rfl; rwa [hme] at this
  have g2 : w0.cell? ⟨b, 2, none⟩ = some (.string s) := by have := h2.obj.cell 2 (.string (H.s.getD ⟨#[]⟩)) rfl; rwa [hse] at this
  have g4 : w0.cell? ⟨b, 4, none⟩ = some (.string p) := by have := h2.obj.cell 4 (.string (H.p.getD ⟨#[]⟩)) rfl; rwa [hpe] at this
  have g6 : w0.cell? ⟨b, 6, none⟩ = some (.string a) := by have := h2.obj.cell 6 (.string (H.a.getD ⟨#[]⟩)) rfl; rwa [hae] at this
  have g7 : w0.cell? ⟨b, 7, none⟩ = some (.bool ab) := by have := h2.obj.cell 7 (.bool H.a.isSome) rfl; rwa [habe] at this
  have g8 : w0.cell? ⟨b, 8, none⟩ = some (.string ho) := by have := h2.obj.cell 8 (.string (H.h.getD ⟨#[]⟩)) rfl; rwa [hhe] at this
  have g9 : w0.cell? ⟨b, 9, none⟩ = some (.bool hb) := by have := h2.obj.cell 9 (.bool H.h.isSome) rfl; rwa [hhbe] at this
  have g11 : w0.cell? ⟨b, 11, none⟩ = some (.slice fo fn fc) := h2.obj.cell 11 _ rfl
  obtain ⟨rb, hrb⟩ : ∃ rb, w.heap.size = rb := ⟨_, rfl⟩
  have HBZ := hid' hbz
  have hbrb : b ≠ rb := by omega
  have hrow : ∀ (w2 : World) (xb : Nat) (au : ByteArray) (xx : Value), Below w0.heap.size w0 w2 → Ar w2 xb 50 #[.string au, xx] → (w2.cell? ⟨b, 0, none⟩ = some (.string m) ∧ w2.cell? ⟨b, 2, none⟩ = some (.string s) ∧ w2.cell? ⟨b, 4, none⟩ = some (.string p) ∧ w2.cell? ⟨b, 11, none⟩ = some (.slice fo fn fc) ∧ w2.cell? ⟨xb, 0, none⟩ = some (.string au)) := fun w2 xb au xx hb ha => ⟨(hb.cell (cell_lt g0)).trans g0, (hb.cell (cell_lt g2)).trans g2, (hb.cell (cell_lt g4)).trans g4, (hb.cell (cell_lt g11)).trans g11, ha.cell 0 _ rfl⟩
  have HROW := hid' hrow
  have HRZ : Hid (Ar w0 rb 42 #[.string ⟨#[]⟩, .string ⟨#[]⟩, .string ⟨#[]⟩, .string ⟨#[]⟩, .slice none 0 0, .string ⟨#[]⟩, .slice none 0 0]) := hid' (hrb ▸ hz)
  have hA1 : Ar (w0.alloc (.cells #[.string a, .bool ab] 50)) w0.heap.size 50 #[.string a, .bool ab] := heap_alloc_last w0 _
  have hB1 := bl_alloc w0 (.cells #[.string a, .bool ab] 50)
  obtain ⟨xb, hxb⟩ : ∃ xb, w0.heap.size = xb := ⟨_, rfl⟩
  have hxrb : xb ≠ rb := by omega
  have hbxb : b ≠ xb := by omega
  have HA1 := hid' hA1
  rw [hxb] at HA1
  clear h h2 hz hlt hbz hrow hsz hau hA1
  have k8 : (w0.alloc (.cells #[.string a, .bool ab] 50)).cell? ⟨b, 8, none⟩ = some (.string ho) := (hB1.cell (cell_lt g8)).trans g8
  have k9 : (w0.alloc (.cells #[.string a, .bool ab] 50)).cell? ⟨b, 9, none⟩ = some (.bool hb) := (hB1.cell (cell_lt g9)).trans g9
  have y0 : (w0.alloc (.cells #[.string a, .bool ab] 50)).cell? ⟨xb, 0, none⟩ = some (.string a) := HA1.out.cell 0 _ rfl
  have y1 : (w0.alloc (.cells #[.string a, .bool ab] 50)).cell? ⟨xb, 1, none⟩ = some (.bool ab) := HA1.out.cell 1 _ rfl
  have z0 := HA1.out.free 0
  have z1 := HA1.out.free 1
  have HB1 := hid' hB1
  clear hB1
  rw [hrb]
  cases ab
  · go_upto_region 4 with fail
    have hA2 : Ar (w0.alloc (.cells #[.string ho, .bool hb] 50)) xb 50 #[.string ho, .bool hb] := (by rw [← hxb]; exact heap_alloc_last w0 _)
    have hB2 : Below w0.heap.size w0 (w0.alloc (.cells #[.string ho, .bool hb] 50)) := bl_alloc w0 _
    have hR2 : Ar (w0.alloc (.cells #[.string ho, .bool hb] 50)) rb 42 #[.string ⟨#[]⟩, .string ⟨#[]⟩, .string ⟨#[]⟩, .string ⟨#[]⟩, .slice none 0 0, .string ⟨#[]⟩, .slice none 0 0] := HRZ.out.keep (bl_alloc w0 _)
    have hS := HROW.out (w0.alloc (.cells #[.string ho, .bool hb] 50)) xb ho _ hB2 hA2
    have HB2 := hid' hB2
    have HR2 := hid' hR2
    have HRL : Hid (w.heap.size ≤ rb) := hid' (by omega)
    clear hA2 hB2 hR2 k8 k9 y0 y1 z0 z1 HB1 HA1 g0 g2 g4 g6 g7 g8 g9 g11
    generalize w0.alloc (.cells #[.string ho, .bool hb] 50) = w2 at *
    obtain ⟨c0, c2, c4, c11, cx⟩ := hS
    refine wp_region_held_drew (S := fun W => W.cell? ⟨b, 0, none⟩ = some (.string m) ∧ W.cell? ⟨b, 2, none⟩ = some (.string s) ∧ W.cell? ⟨b, 4, none⟩ = some (.string p) ∧ W.cell? ⟨b, 11, none⟩ = some (.slice fo fn fc) ∧ W.cell? ⟨xb, 0, none⟩ = some (.string ho)) (by kernel_rfl) ⟨c0, c2, c4, c11, cx⟩ (fun hHeld => ?_)
    have hHeld2 := hHeld
    clear c0 c2 c4 c11 cx
    refine take_d14 (i := 0) (d := some 15) (v := ?_) rfl rfl (by kernel_rfl) (by kernel_rfl) (by kernel_rfl) (fun _ _ _ h => h) (Or.inl ⟨by rfl, ?_⟩) (by assumption) ?_
    rotate_left
    · intro w hSw
      (try dsimp only at hSw)
      obtain ⟨hs0, hs2, hs4, hs6, hs7⟩ := hSw
      go_simp
      try with_reducible rfl
    simp only [Act.put, List.setIfInBounds_toArray, List.set_cons_zero, List.set_cons_succ]
    refine take_d14 (i := 1) (d := some 16) (v := ?_) rfl rfl (by kernel_rfl) (by kernel_rfl) (by kernel_rfl) (fun _ _ _ h => h) (Or.inl ⟨by rfl, ?_⟩) (by assumption) ?_
    rotate_left
    · intro w hSw
      (try dsimp only at hSw)
      obtain ⟨hs0, hs2, hs4, hs6, hs7⟩ := hSw
      go_simp
      try with_reducible rfl
    simp only [Act.put, List.setIfInBounds_toArray, List.set_cons_zero, List.set_cons_succ]
    refine take_d14 (i := 2) (d := some 17) (v := ?_) rfl rfl (by kernel_rfl) (by kernel_rfl) (by kernel_rfl) (fun _ _ _ h => h) (Or.inl ⟨by rfl, ?_⟩) (by assumption) ?_
    rotate_left
    · intro w hSw
      (try dsimp only at hSw)
      obtain ⟨hs0, hs2, hs4, hs6, hs7⟩ := hSw
      go_simp
      try with_reducible rfl
    simp only [Act.put, List.setIfInBounds_toArray, List.set_cons_zero, List.set_cons_succ]
    refine take_d14 (i := 3) (d := some 18) (v := ?_) rfl rfl (by kernel_rfl) (by kernel_rfl) (by kernel_rfl) (fun _ _ _ h => h) (Or.inl ⟨by rfl, ?_⟩) (by assumption) ?_
    rotate_left
    · intro w hSw
      (try dsimp only at hSw)
      obtain ⟨hs0, hs2, hs4, hs6, hs7⟩ := hSw
      go_simp
      try with_reducible rfl
    simp only [Act.put, List.setIfInBounds_toArray, List.set_cons_zero, List.set_cons_succ]
    refine take_d14 (i := 4) (d := some 19) (v := ?_) rfl rfl (by kernel_rfl) (by kernel_rfl) (by kernel_rfl) (fun _ _ _ h => h) (Or.inl ⟨by rfl, ?_⟩) (by assumption) ?_
    rotate_left
    · intro w hSw
      (try dsimp only at hSw)
      obtain ⟨hs0, hs2, hs4, hs6, hs7⟩ := hSw
      go_simp
      try with_reducible rfl
    simp only [Act.put, List.setIfInBounds_toArray, List.set_cons_zero, List.set_cons_succ]
    refine take_d14 (i := 5) (d := some 20) (v := ?_) rfl rfl (by kernel_rfl) (by kernel_rfl) (by kernel_rfl) (fun _ _ _ h => h) (Or.inl ⟨by rfl, ?_⟩) (by assumption) ?_
    rotate_left
    · intro w hSw
      (try dsimp only at hSw)
      obtain ⟨hs0, hs2, hs4, hs6, hs7⟩ := hSw
      go_simp
      try with_reducible rfl
    simp only [Act.put, List.setIfInBounds_toArray, List.set_cons_zero, List.set_cons_succ]
    refine take_d14 (i := 6) (d := some 21) (v := ?_) rfl rfl (by kernel_rfl) (by kernel_rfl) (by kernel_rfl) (fun _ _ _ h => h) (Or.inl ⟨by rfl, ?_⟩) (by assumption) ?_
    rotate_left
    · intro w hSw
      (try dsimp only at hSw)
      obtain ⟨hs0, hs2, hs4, hs6, hs7⟩ := hSw
      go_simp
      try with_reducible rfl
    simp only [Act.put, List.setIfInBounds_toArray, List.set_cons_zero, List.set_cons_succ]
    refine take_d14 (i := 7) (d := some 22) (v := ?_) rfl rfl (by kernel_rfl) (by kernel_rfl) (by kernel_rfl) (fun _ _ _ h => h) (Or.inl ⟨by rfl, ?_⟩) (by assumption) ?_
    rotate_left
    · intro w hSw
      (try dsimp only at hSw)
      obtain ⟨hs0, hs2, hs4, hs6, hs7⟩ := hSw
      go_simp
      try with_reducible rfl
    simp only [Act.put, List.setIfInBounds_toArray, List.set_cons_zero, List.set_cons_succ]
    refine take_d14 (i := 8) (d := some 23) (v := ?_) rfl rfl (by kernel_rfl) (by kernel_rfl) (by kernel_rfl) (fun _ _ _ h => h) (Or.inl ⟨by rfl, ?_⟩) (by assumption) ?_
    rotate_left
    · intro w hSw
      (try dsimp only at hSw)
      obtain ⟨hs0, hs2, hs4, hs6, hs7⟩ := hSw
      go_simp
      try with_reducible rfl
    simp only [Act.put, List.setIfInBounds_toArray, List.set_cons_zero, List.set_cons_succ]
    refine take_d14 (i := 9) (d := some 24) (v := ?_) rfl rfl (by kernel_rfl) (by kernel_rfl) (by kernel_rfl) (fun _ _ _ h => h) (Or.inl ⟨by rfl, ?_⟩) (by assumption) ?_
    rotate_left
    · intro w hSw
      (try dsimp only at hSw)
      obtain ⟨hs0, hs2, hs4, hs6, hs7⟩ := hSw
      go_simp
      try with_reducible rfl
    simp only [Act.put, List.setIfInBounds_toArray, List.set_cons_zero, List.set_cons_succ]
    refine take_d14 (i := 10) (d := some 25) (v := ?_) rfl rfl (by kernel_rfl) (by kernel_rfl) (by kernel_rfl) (fun _ _ _ h => h) (Or.inl ⟨by rfl, ?_⟩) (by assumption) ?_
    rotate_left
    · intro w hSw
      (try dsimp only at hSw)
      obtain ⟨hs0, hs2, hs4, hs6, hs7⟩ := hSw
      go_simp
      try with_reducible rfl
    simp only [Act.put, List.setIfInBounds_toArray, List.set_cons_zero, List.set_cons_succ]
    refine take_d14 (i := 11) (d := some 26) (v := ?_) rfl rfl (by kernel_rfl) (by kernel_rfl) (by kernel_rfl) (fun _ _ _ h => h) (Or.inl ⟨by rfl, ?_⟩) (by assumption) ?_
    rotate_left
    · intro w hSw
      (try dsimp only at hSw)
      obtain ⟨hs0, hs2, hs4, hs6, hs7⟩ := hSw
      go_simp
      try with_reducible rfl
    simp only [Act.put, List.setIfInBounds_toArray, List.set_cons_zero, List.set_cons_succ]
    refine take_d14 (i := 12) (d := some 27) (v := ?_) rfl rfl (by kernel_rfl) (by kernel_rfl) (by kernel_rfl) (fun _ _ _ h => h) (Or.inl ⟨by rfl, ?_⟩) (by assumption) ?_
    rotate_left
    · intro w hSw
      (try dsimp only at hSw)
      obtain ⟨hs0, hs2, hs4, hs6, hs7⟩ := hSw
      go_simp
      try with_reducible rfl
    simp only [Act.put, List.setIfInBounds_toArray, List.set_cons_zero, List.set_cons_succ]
    refine take_d14 (i := 13) (d := some 28) (v := ?_) rfl rfl (by kernel_rfl) (by kernel_rfl) (by kernel_rfl) (fun _ _ _ h => h) (Or.inl ⟨by rfl, ?_⟩) (by assumption) ?_
    rotate_left
    · intro w hSw
      (try dsimp only at hSw)
      obtain ⟨hs0, hs2, hs4, hs6, hs7⟩ := hSw
      go_simp
      try with_reducible rfl
    simp only [Act.put, List.setIfInBounds_toArray, List.set_cons_zero, List.set_cons_succ]
    refine take_d14 (i := 14) (d := some 29) (v := ?_) rfl rfl (by kernel_rfl) (by kernel_rfl) (by kernel_rfl) (fun _ _ _ h => h) (Or.inl ⟨by rfl, ?_⟩) (by assumption) ?_
    rotate_left
    · intro w hSw
      (try dsimp only at hSw)
      obtain ⟨hs0, hs2, hs4, hs6, hs7⟩ := hSw
      go_simp
      try with_reducible rfl
    simp only [Act.put, List.setIfInBounds_toArray, List.set_cons_zero, List.set_cons_succ]
    refine take_d14 (i := 15) (d := some 30) (v := ?_) rfl rfl (by kernel_rfl) (by kernel_rfl) (by kernel_rfl) (fun _ _ _ h => h) (Or.inl ⟨by rfl, ?_⟩) (by assumption) ?_
    rotate_left
    · intro w hSw
      (try dsimp only at hSw)
      obtain ⟨hs0, hs2, hs4, hs6, hs7⟩ := hSw
      go_simp
      try with_reducible rfl
    simp only [Act.put, List.setIfInBounds_toArray, List.set_cons_zero, List.set_cons_succ]
    refine take_d14 (i := 16) (d := some 31) (v := ?_) rfl rfl (by kernel_rfl) (by kernel_rfl) (by kernel_rfl) (fun _ _ _ h => h) (Or.inl ⟨by rfl, ?_⟩) (by assumption) ?_
    rotate_left
    · intro w hSw
      (try dsimp only at hSw)
      obtain ⟨hs0, hs2, hs4, hs6, hs7⟩ := hSw
      go_simp
      try with_reducible rfl
    simp only [Act.put, List.setIfInBounds_toArray, List.set_cons_zero, List.set_cons_succ]
    refine take_d14 (i := 17) (d := some 32) (v := ?_) rfl rfl (by kernel_rfl) (by kernel_rfl) (by kernel_rfl) (fun _ _ _ h => h) (Or.inl ⟨by rfl, ?_⟩) (by assumption) ?_
    rotate_left
    · intro w hSw
      (try dsimp only at hSw)
      obtain ⟨hs0, hs2, hs4, hs6, hs7⟩ := hSw
      go_simp
      try with_reducible rfl
    simp only [Act.put, List.setIfInBounds_toArray, List.set_cons_zero, List.set_cons_succ]
    refine take_d14 (i := 18) (d := some 33) (v := ?_) rfl rfl (by kernel_rfl) (by kernel_rfl) (by kernel_rfl) (fun _ _ _ h => h) (Or.inl ⟨by rfl, ?_⟩) (by assumption) ?_
    rotate_left
    · intro w hSw
      (try dsimp only at hSw)
      obtain ⟨hs0, hs2, hs4, hs6, hs7⟩ := hSw
      go_simp
      try with_reducible rfl
    simp only [Act.put, List.setIfInBounds_toArray, List.set_cons_zero, List.set_cons_succ]
    refine take_d14 (i := 19) (d := some 34) (v := ?_) rfl rfl (by kernel_rfl) (by kernel_rfl) (by kernel_rfl) (fun _ _ _ h => h) (Or.inl ⟨by rfl, ?_⟩) (by assumption) ?_
    rotate_left
    · intro w hSw
      (try dsimp only at hSw)
      obtain ⟨hs0, hs2, hs4, hs6, hs7⟩ := hSw
      go_simp
      try with_reducible rfl
    simp only [Act.put, List.setIfInBounds_toArray, List.set_cons_zero, List.set_cons_succ]
    refine take_d14 (i := 20) (d := some 35) (v := ?_) rfl rfl (by kernel_rfl) (by kernel_rfl) (by kernel_rfl) (fun _ _ _ h => h) (Or.inl ⟨by rfl, ?_⟩) (by assumption) ?_
    rotate_left
    · intro w hSw
      (try dsimp only at hSw)
      obtain ⟨hs0, hs2, hs4, hs6, hs7⟩ := hSw
      go_simp
      try with_reducible rfl
    simp only [Act.put, List.setIfInBounds_toArray, List.set_cons_zero, List.set_cons_succ]
    refine take_d14 (i := 21) (d := some 36) (v := ?_) rfl rfl (by kernel_rfl) (by kernel_rfl) (by kernel_rfl) (fun _ _ _ h => h) (Or.inl ⟨by rfl, ?_⟩) (by assumption) ?_
    rotate_left
    · intro w hSw
      (try dsimp only at hSw)
      obtain ⟨hs0, hs2, hs4, hs6, hs7⟩ := hSw
      go_simp
      try with_reducible rfl
    simp only [Act.put, List.setIfInBounds_toArray, List.set_cons_zero, List.set_cons_succ]
    refine wpAnyH_ready (rs := [22]) (by kernel_rfl) (by simp) ?_
    refine AllReadyH.cons rfl (fun K hK => ?_) AllReadyH.nil
    refine step_store rfl 42 _ _ rfl rb #[.string m, .string s, .string ho, .string p, .slice fo fn fc, .string ⟨#[]⟩, .slice none 0 0] rfl rfl 42 _ (show Ar w2.drew rb 42 _ from HR2.out) sizeRq14 rfl (by simp [Value.oneCell']) ?_
    intro w4 hA4 hU4
    refine hK.out _ _ ⟨(World.cell?_of_block (hU4.block b hbrb)).trans hHeld2.1, (World.cell?_of_block (hU4.block b hbrb)).trans hHeld2.2.1, (World.cell?_of_block (hU4.block b hbrb)).trans hHeld2.2.2.1, (World.cell?_of_block (hU4.block b hbrb)).trans hHeld2.2.2.2.1, (World.cell?_of_block (hU4.block xb hxrb)).trans hHeld2.2.2.2.2⟩ (fun hHeld3 => ?_)
    have HB4 : Hid (Below w.heap.size w w4) := hid' (((below_two HBZ.out HB2.out).drew).trans (hU4.below HRL.out))
    clear hK K hU4 hHeld hHeld2 hHeld3
    try simp only [Act.put]
    refine wpAnyH_done (by kernel_rfl) ?_ _
    have o0 := hA4.cell 0 _ rfl
    have o1 := hA4.cell 1 _ rfl
    have o2 := hA4.cell 2 _ rfl
    have o3 := hA4.cell 3 _ rfl
    have o4 := hA4.cell 4 _ rfl
    have o5 := hA4.cell 5 _ rfl
    have o6 := hA4.cell 6 _ rfl
    go_wp2
    exact bodyPost_ret (v := .agg (rqC m s ho p (.slice fo fn fc) ⟨#[]⟩ (.slice none 0 0))) (by simp [results, Tryd.results27, go_sem, rqC, o0, o1, o2, o3, o4, o5, o6]) rfl ⟨rfl, hrb ▸ HB4.out⟩
  · go_upto_region 4 with fail
    have hA2 : Ar (w0.alloc (.cells #[.string a, .bool true] 50)) xb 50 #[.string a, .bool true] := HA1.out
    have hB2 : Below w0.heap.size w0 (w0.alloc (.cells #[.string a, .bool true] 50)) := HB1.out
    have hR2 : Ar (w0.alloc (.cells #[.string a, .bool true] 50)) rb 42 #[.string ⟨#[]⟩, .string ⟨#[]⟩, .string ⟨#[]⟩, .string ⟨#[]⟩, .slice none 0 0, .string ⟨#[]⟩, .slice none 0 0] := HRZ.out.keep HB1.out
    have hS := HROW.out (w0.alloc (.cells #[.string a, .bool true] 50)) xb a _ hB2 hA2
    have HB2 := hid' hB2
    have HR2 := hid' hR2
    have HRL : Hid (w.heap.size ≤ rb) := hid' (by omega)
    clear hA2 hB2 hR2 k8 k9 y0 y1 z0 z1 HB1 HA1 g0 g2 g4 g6 g7 g8 g9 g11
    generalize w0.alloc (.cells #[.string a, .bool true] 50) = w2 at *
    obtain ⟨c0, c2, c4, c11, cx⟩ := hS
    refine wp_region_held_drew (S := fun W => W.cell? ⟨b, 0, none⟩ = some (.string m) ∧ W.cell? ⟨b, 2, none⟩ = some (.string s) ∧ W.cell? ⟨b, 4, none⟩ = some (.string p) ∧ W.cell? ⟨b, 11, none⟩ = some (.slice fo fn fc) ∧ W.cell? ⟨xb, 0, none⟩ = some (.string a)) (by kernel_rfl) ⟨c0, c2, c4, c11, cx⟩ (fun hHeld => ?_)
    have hHeld2 := hHeld
    clear c0 c2 c4 c11 cx
    refine take_d14 (i := 0) (d := some 15) (v := ?_) rfl rfl (by kernel_rfl) (by kernel_rfl) (by kernel_rfl) (fun _ _ _ h => h) (Or.inl ⟨by rfl, ?_⟩) (by assumption) ?_
    rotate_left
    · intro w hSw
      (try dsimp only at hSw)
      obtain ⟨hs0, hs2, hs4, hs6, hs7⟩ := hSw
      go_simp
      try with_reducible rfl
    simp only [Act.put, List.setIfInBounds_toArray, List.set_cons_zero, List.set_cons_succ]
    refine take_d14 (i := 1) (d := some 16) (v := ?_) rfl rfl (by kernel_rfl) (by kernel_rfl) (by kernel_rfl) (fun _ _ _ h => h) (Or.inl ⟨by rfl, ?_⟩) (by assumption) ?_
    rotate_left
    · intro w hSw
      (try dsimp only at hSw)
      obtain ⟨hs0, hs2, hs4, hs6, hs7⟩ := hSw
      go_simp
      try with_reducible rfl
    simp only [Act.put, List.setIfInBounds_toArray, List.set_cons_zero, List.set_cons_succ]
    refine take_d14 (i := 2) (d := some 17) (v := ?_) rfl rfl (by kernel_rfl) (by kernel_rfl) (by kernel_rfl) (fun _ _ _ h => h) (Or.inl ⟨by rfl, ?_⟩) (by assumption) ?_
    rotate_left
    · intro w hSw
      (try dsimp only at hSw)
      obtain ⟨hs0, hs2, hs4, hs6, hs7⟩ := hSw
      go_simp
      try with_reducible rfl
    simp only [Act.put, List.setIfInBounds_toArray, List.set_cons_zero, List.set_cons_succ]
    refine take_d14 (i := 3) (d := some 18) (v := ?_) rfl rfl (by kernel_rfl) (by kernel_rfl) (by kernel_rfl) (fun _ _ _ h => h) (Or.inl ⟨by rfl, ?_⟩) (by assumption) ?_
    rotate_left
    · intro w hSw
      (try dsimp only at hSw)
      obtain ⟨hs0, hs2, hs4, hs6, hs7⟩ := hSw
      go_simp
      try with_reducible rfl
    simp only [Act.put, List.setIfInBounds_toArray, List.set_cons_zero, List.set_cons_succ]
    refine take_d14 (i := 4) (d := some 19) (v := ?_) rfl rfl (by kernel_rfl) (by kernel_rfl) (by kernel_rfl) (fun _ _ _ h => h) (Or.inl ⟨by rfl, ?_⟩) (by assumption) ?_
    rotate_left
    · intro w hSw
      (try dsimp only at hSw)
      obtain ⟨hs0, hs2, hs4, hs6, hs7⟩ := hSw
      go_simp
      try with_reducible rfl
    simp only [Act.put, List.setIfInBounds_toArray, List.set_cons_zero, List.set_cons_succ]
    refine take_d14 (i := 5) (d := some 20) (v := ?_) rfl rfl (by kernel_rfl) (by kernel_rfl) (by kernel_rfl) (fun _ _ _ h => h) (Or.inl ⟨by rfl, ?_⟩) (by assumption) ?_
    rotate_left
    · intro w hSw
      (try dsimp only at hSw)
      obtain ⟨hs0, hs2, hs4, hs6, hs7⟩ := hSw
      go_simp
      try with_reducible rfl
    simp only [Act.put, List.setIfInBounds_toArray, List.set_cons_zero, List.set_cons_succ]
    refine take_d14 (i := 6) (d := some 21) (v := ?_) rfl rfl (by kernel_rfl) (by kernel_rfl) (by kernel_rfl) (fun _ _ _ h => h) (Or.inl ⟨by rfl, ?_⟩) (by assumption) ?_
    rotate_left
    · intro w hSw
      (try dsimp only at hSw)
      obtain ⟨hs0, hs2, hs4, hs6, hs7⟩ := hSw
      go_simp
      try with_reducible rfl
    simp only [Act.put, List.setIfInBounds_toArray, List.set_cons_zero, List.set_cons_succ]
    refine take_d14 (i := 7) (d := some 22) (v := ?_) rfl rfl (by kernel_rfl) (by kernel_rfl) (by kernel_rfl) (fun _ _ _ h => h) (Or.inl ⟨by rfl, ?_⟩) (by assumption) ?_
    rotate_left
    · intro w hSw
      (try dsimp only at hSw)
      obtain ⟨hs0, hs2, hs4, hs6, hs7⟩ := hSw
      go_simp
      try with_reducible rfl
    simp only [Act.put, List.setIfInBounds_toArray, List.set_cons_zero, List.set_cons_succ]
    refine take_d14 (i := 8) (d := some 23) (v := ?_) rfl rfl (by kernel_rfl) (by kernel_rfl) (by kernel_rfl) (fun _ _ _ h => h) (Or.inl ⟨by rfl, ?_⟩) (by assumption) ?_
    rotate_left
    · intro w hSw
      (try dsimp only at hSw)
      obtain ⟨hs0, hs2, hs4, hs6, hs7⟩ := hSw
      go_simp
      try with_reducible rfl
    simp only [Act.put, List.setIfInBounds_toArray, List.set_cons_zero, List.set_cons_succ]
    refine take_d14 (i := 9) (d := some 24) (v := ?_) rfl rfl (by kernel_rfl) (by kernel_rfl) (by kernel_rfl) (fun _ _ _ h => h) (Or.inl ⟨by rfl, ?_⟩) (by assumption) ?_
    rotate_left
    · intro w hSw
      (try dsimp only at hSw)
      obtain ⟨hs0, hs2, hs4, hs6, hs7⟩ := hSw
      go_simp
      try with_reducible rfl
    simp only [Act.put, List.setIfInBounds_toArray, List.set_cons_zero, List.set_cons_succ]
    refine take_d14 (i := 10) (d := some 25) (v := ?_) rfl rfl (by kernel_rfl) (by kernel_rfl) (by kernel_rfl) (fun _ _ _ h => h) (Or.inl ⟨by rfl, ?_⟩) (by assumption) ?_
    rotate_left
    · intro w hSw
      (try dsimp only at hSw)
      obtain ⟨hs0, hs2, hs4, hs6, hs7⟩ := hSw
      go_simp
      try with_reducible rfl
    simp only [Act.put, List.setIfInBounds_toArray, List.set_cons_zero, List.set_cons_succ]
    refine take_d14 (i := 11) (d := some 26) (v := ?_) rfl rfl (by kernel_rfl) (by kernel_rfl) (by kernel_rfl) (fun _ _ _ h => h) (Or.inl ⟨by rfl, ?_⟩) (by assumption) ?_
    rotate_left
    · intro w hSw
      (try dsimp only at hSw)
      obtain ⟨hs0, hs2, hs4, hs6, hs7⟩ := hSw
      go_simp
      try with_reducible rfl
    simp only [Act.put, List.setIfInBounds_toArray, List.set_cons_zero, List.set_cons_succ]
    refine take_d14 (i := 12) (d := some 27) (v := ?_) rfl rfl (by kernel_rfl) (by kernel_rfl) (by kernel_rfl) (fun _ _ _ h => h) (Or.inl ⟨by rfl, ?_⟩) (by assumption) ?_
    rotate_left
    · intro w hSw
      (try dsimp only at hSw)
      obtain ⟨hs0, hs2, hs4, hs6, hs7⟩ := hSw
      go_simp
      try with_reducible rfl
    simp only [Act.put, List.setIfInBounds_toArray, List.set_cons_zero, List.set_cons_succ]
    refine take_d14 (i := 13) (d := some 28) (v := ?_) rfl rfl (by kernel_rfl) (by kernel_rfl) (by kernel_rfl) (fun _ _ _ h => h) (Or.inl ⟨by rfl, ?_⟩) (by assumption) ?_
    rotate_left
    · intro w hSw
      (try dsimp only at hSw)
      obtain ⟨hs0, hs2, hs4, hs6, hs7⟩ := hSw
      go_simp
      try with_reducible rfl
    simp only [Act.put, List.setIfInBounds_toArray, List.set_cons_zero, List.set_cons_succ]
    refine take_d14 (i := 14) (d := some 29) (v := ?_) rfl rfl (by kernel_rfl) (by kernel_rfl) (by kernel_rfl) (fun _ _ _ h => h) (Or.inl ⟨by rfl, ?_⟩) (by assumption) ?_
    rotate_left
    · intro w hSw
      (try dsimp only at hSw)
      obtain ⟨hs0, hs2, hs4, hs6, hs7⟩ := hSw
      go_simp
      try with_reducible rfl
    simp only [Act.put, List.setIfInBounds_toArray, List.set_cons_zero, List.set_cons_succ]
    refine take_d14 (i := 15) (d := some 30) (v := ?_) rfl rfl (by kernel_rfl) (by kernel_rfl) (by kernel_rfl) (fun _ _ _ h => h) (Or.inl ⟨by rfl, ?_⟩) (by assumption) ?_
    rotate_left
    · intro w hSw
      (try dsimp only at hSw)
      obtain ⟨hs0, hs2, hs4, hs6, hs7⟩ := hSw
      go_simp
      try with_reducible rfl
    simp only [Act.put, List.setIfInBounds_toArray, List.set_cons_zero, List.set_cons_succ]
    refine take_d14 (i := 16) (d := some 31) (v := ?_) rfl rfl (by kernel_rfl) (by kernel_rfl) (by kernel_rfl) (fun _ _ _ h => h) (Or.inl ⟨by rfl, ?_⟩) (by assumption) ?_
    rotate_left
    · intro w hSw
      (try dsimp only at hSw)
      obtain ⟨hs0, hs2, hs4, hs6, hs7⟩ := hSw
      go_simp
      try with_reducible rfl
    simp only [Act.put, List.setIfInBounds_toArray, List.set_cons_zero, List.set_cons_succ]
    refine take_d14 (i := 17) (d := some 32) (v := ?_) rfl rfl (by kernel_rfl) (by kernel_rfl) (by kernel_rfl) (fun _ _ _ h => h) (Or.inl ⟨by rfl, ?_⟩) (by assumption) ?_
    rotate_left
    · intro w hSw
      (try dsimp only at hSw)
      obtain ⟨hs0, hs2, hs4, hs6, hs7⟩ := hSw
      go_simp
      try with_reducible rfl
    simp only [Act.put, List.setIfInBounds_toArray, List.set_cons_zero, List.set_cons_succ]
    refine take_d14 (i := 18) (d := some 33) (v := ?_) rfl rfl (by kernel_rfl) (by kernel_rfl) (by kernel_rfl) (fun _ _ _ h => h) (Or.inl ⟨by rfl, ?_⟩) (by assumption) ?_
    rotate_left
    · intro w hSw
      (try dsimp only at hSw)
      obtain ⟨hs0, hs2, hs4, hs6, hs7⟩ := hSw
      go_simp
      try with_reducible rfl
    simp only [Act.put, List.setIfInBounds_toArray, List.set_cons_zero, List.set_cons_succ]
    refine take_d14 (i := 19) (d := some 34) (v := ?_) rfl rfl (by kernel_rfl) (by kernel_rfl) (by kernel_rfl) (fun _ _ _ h => h) (Or.inl ⟨by rfl, ?_⟩) (by assumption) ?_
    rotate_left
    · intro w hSw
      (try dsimp only at hSw)
      obtain ⟨hs0, hs2, hs4, hs6, hs7⟩ := hSw
      go_simp
      try with_reducible rfl
    simp only [Act.put, List.setIfInBounds_toArray, List.set_cons_zero, List.set_cons_succ]
    refine take_d14 (i := 20) (d := some 35) (v := ?_) rfl rfl (by kernel_rfl) (by kernel_rfl) (by kernel_rfl) (fun _ _ _ h => h) (Or.inl ⟨by rfl, ?_⟩) (by assumption) ?_
    rotate_left
    · intro w hSw
      (try dsimp only at hSw)
      obtain ⟨hs0, hs2, hs4, hs6, hs7⟩ := hSw
      go_simp
      try with_reducible rfl
    simp only [Act.put, List.setIfInBounds_toArray, List.set_cons_zero, List.set_cons_succ]
    refine take_d14 (i := 21) (d := some 36) (v := ?_) rfl rfl (by kernel_rfl) (by kernel_rfl) (by kernel_rfl) (fun _ _ _ h => h) (Or.inl ⟨by rfl, ?_⟩) (by assumption) ?_
    rotate_left
    · intro w hSw
      (try dsimp only at hSw)
      obtain ⟨hs0, hs2, hs4, hs6, hs7⟩ := hSw
      go_simp
      try with_reducible rfl
    simp only [Act.put, List.setIfInBounds_toArray, List.set_cons_zero, List.set_cons_succ]
    refine wpAnyH_ready (rs := [22]) (by kernel_rfl) (by simp) ?_
    refine AllReadyH.cons rfl (fun K hK => ?_) AllReadyH.nil
    refine step_store rfl 42 _ _ rfl rb #[.string m, .string s, .string a, .string p, .slice fo fn fc, .string ⟨#[]⟩, .slice none 0 0] rfl rfl 42 _ (show Ar w2.drew rb 42 _ from HR2.out) sizeRq14 rfl (by simp [Value.oneCell']) ?_
    intro w4 hA4 hU4
    refine hK.out _ _ ⟨(World.cell?_of_block (hU4.block b hbrb)).trans hHeld2.1, (World.cell?_of_block (hU4.block b hbrb)).trans hHeld2.2.1, (World.cell?_of_block (hU4.block b hbrb)).trans hHeld2.2.2.1, (World.cell?_of_block (hU4.block b hbrb)).trans hHeld2.2.2.2.1, (World.cell?_of_block (hU4.block xb hxrb)).trans hHeld2.2.2.2.2⟩ (fun hHeld3 => ?_)
    have HB4 : Hid (Below w.heap.size w w4) := hid' (((below_two HBZ.out HB2.out).drew).trans (hU4.below HRL.out))
    clear hK K hU4 hHeld hHeld2 hHeld3
    try simp only [Act.put]
    refine wpAnyH_done (by kernel_rfl) ?_ _
    have o0 := hA4.cell 0 _ rfl
    have o1 := hA4.cell 1 _ rfl
    have o2 := hA4.cell 2 _ rfl
    have o3 := hA4.cell 3 _ rfl
    have o4 := hA4.cell 4 _ rfl
    have o5 := hA4.cell 5 _ rfl
    have o6 := hA4.cell 6 _ rfl
    go_wp2
    exact bodyPost_ret (v := .agg (rqC m s a p (.slice fo fn fc) ⟨#[]⟩ (.slice none 0 0))) (by simp [results, Tryd.results27, go_sem, rqC, o0, o1, o2, o3, o4, o5, o6]) rfl ⟨rfl, hrb ▸ HB4.out⟩

end Go.Proofs.YtcljepppdljnlabDoor
