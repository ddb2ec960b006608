/-
  The code's head.addField: by its contract, way by way.
-/
import Derived.Test.YtcljepppdljnlabDoorMcG
import Derived.Test.YtcljepppdljnlabDoorMsE
namespace Go.Proofs.YtcljepppdljnlabDoor
open Go.RowKit


set_option maxHeartbeats 4000000 in
set_option maxRecDepth 20000 in
theorem caf_no (B b : Nat) (H : Ms.Hd) (f : Fd) (fv : Value) (w : World) (h : HM w B b H fv) (hpl : Ms.plain f = false) (hn : f.n.size ≤ 140737488355328) (hv : f.v.size ≤ 140737488355328) :
    Calls Tryd.prog 39 #[.pointer (some ⟨b, 0, none⟩), .agg #[.string f.n, .string f.v]] w fun e w' => e = .returned (.int .i64 141) ∧ Below B w w' := by
  have hBw : B ≤ w.heap.size := Nat.le_trans h.lo (Nat.le_of_lt h.obj.lt)
  have hb := bl_alloc w (.cells #[.string f.n, .string f.v] 28)
  have hA := fd_new w f
  have HP := hid' (cplain14 f false hpl (w.alloc (.cells #[.string f.n, .string f.v] 28)) hn hv)
  have hbx : b ≠ w.heap.size := Nat.ne_of_lt h.obj.lt
  have HBX := hid' hbx
  have H0 := hid' h
  have HBW := hid' hBw
  go_enter Tryd.func39, Tryd.ntmps39
  go_wp2_with fail
  obtain ⟨xb, hxb⟩ : ∃ xb, w.heap.size = xb := ⟨_, rfl⟩
  refine HP.out.mono ?_
  rintro e w1 ⟨rfl, hb1⟩
  have HB1 := hid' (below_two hb hb1)
  have HA1 : Hid (Ar w1 xb 28 #[.string f.n, .string f.v]) := hid' (hxb ▸ hA.keep hb1)
  have HX1 : Hid (HM w1 B b H fv) := hid' (h.keep (below_two hb hb1))
  have x0 := HA1.out.cell 0 _ rfl
  have x1 := HA1.out.cell 1 _ rfl
  rw [hxb] at HBX ⊢
  clear hb hA hb1 hbx hBw h hpl hn hv HP
  clear hxb
  go_wp2
  go_ret
  exact ⟨rfl, HB1.out.mono HBW.out⟩

set_option maxHeartbeats 4000000 in
set_option maxRecDepth 20000 in
theorem caf_te_no (B b : Nat) (H : Ms.Hd) (f : Fd) (fv : Value) (w : World) (h : HM w B b H fv) (hpl : Ms.plain f = true) (c1 : (f.n.toList == [116, 101]) = true) (c2 : (f.v.toList == [116, 114, 97, 105, 108, 101, 114, 115]) = false) (hn : f.n.size ≤ 140737488355328) (hv : f.v.size ≤ 140737488355328) :
    Calls Tryd.prog 39 #[.pointer (some ⟨b, 0, none⟩), .agg #[.string f.n, .string f.v]] w fun e w' => e = .returned (.int .i64 141) ∧ Below B w w' := by
  have hBw : B ≤ w.heap.size := Nat.le_trans h.lo (Nat.le_of_lt h.obj.lt)
  have hb := bl_alloc w (.cells #[.string f.n, .string f.v] 28)
  have hA := fd_new w f
  have HP := hid' (cplain14 f true hpl (w.alloc (.cells #[.string f.n, .string f.v] 28)) hn hv)
  have hbx : b ≠ w.heap.size := Nat.ne_of_lt h.obj.lt
  have HBX := hid' hbx
  have H0 := hid' h
  have HBW := hid' hBw
  go_enter Tryd.func39, Tryd.ntmps39
  go_wp2_with fail
  obtain ⟨xb, hxb⟩ : ∃ xb, w.heap.size = xb := ⟨_, rfl⟩
  refine HP.out.mono ?_
  rintro e w1 ⟨rfl, hb1⟩
  have HB1 := hid' (below_two hb hb1)
  have HA1 : Hid (Ar w1 xb 28 #[.string f.n, .string f.v]) := hid' (hxb ▸ hA.keep hb1)
  have HX1 : Hid (HM w1 B b H fv) := hid' (h.keep (below_two hb hb1))
  have x0 := HA1.out.cell 0 _ rfl
  have x1 := HA1.out.cell 1 _ rfl
  rw [hxb] at HBX ⊢
  clear hb hA hb1 hbx hBw h hpl hn hv HP
  have c3 : (f.v.toList != [116, 114, 97, 105, 108, 101, 114, 115]) = true := by unfold bne; rw [c2]; rfl
  clear hxb
  go_wp2
  go_ret
  exact ⟨rfl, HB1.out.mono HBW.out⟩

set_option maxHeartbeats 4000000 in
set_option maxRecDepth 20000 in
theorem caf_te (B b : Nat) (H : Ms.Hd) (f : Fd) (fv : Value) (w : World) (h : HM w B b H fv) (hpl : Ms.plain f = true) (c1 : (f.n.toList == [116, 101]) = true) (c2 : (f.v.toList == [116, 114, 97, 105, 108, 101, 114, 115]) = true) (hn : f.n.size ≤ 140737488355328) (hv : f.v.size ≤ 140737488355328) :
    Calls Tryd.prog 39 #[.pointer (some ⟨b, 0, none⟩), .agg #[.string f.n, .string f.v]] w fun e w' => e = .returned (.int .i64 0) ∧ Below B w w' ∧ HM w' B b H fv := by
  have hBw : B ≤ w.heap.size := Nat.le_trans h.lo (Nat.le_of_lt h.obj.lt)
  have hb := bl_alloc w (.cells #[.string f.n, .string f.v] 28)
  have hA := fd_new w f
  have HP := hid' (cplain14 f true hpl (w.alloc (.cells #[.string f.n, .string f.v] 28)) hn hv)
  have hbx : b ≠ w.heap.size := Nat.ne_of_lt h.obj.lt
  have HBX := hid' hbx
  have H0 := hid' h
  have HBW := hid' hBw
  go_enter Tryd.func39, Tryd.ntmps39
  go_wp2_with fail
  obtain ⟨xb, hxb⟩ : ∃ xb, w.heap.size = xb := ⟨_, rfl⟩
  refine HP.out.mono ?_
  rintro e w1 ⟨rfl, hb1⟩
  have HB1 := hid' (below_two hb hb1)
  have HA1 : Hid (Ar w1 xb 28 #[.string f.n, .string f.v]) := hid' (hxb ▸ hA.keep hb1)
  have HX1 : Hid (HM w1 B b H fv) := hid' (h.keep (below_two hb hb1))
  have x0 := HA1.out.cell 0 _ rfl
  have x1 := HA1.out.cell 1 _ rfl
  rw [hxb] at HBX ⊢
  clear hb hA hb1 hbx hBw h hpl hn hv HP
  have c3 : (f.v.toList != [116, 114, 97, 105, 108, 101, 114, 115]) = false := by unfold bne; rw [c2]; rfl
  clear hxb
  go_wp2
  go_ret
  exact ⟨rfl, HB1.out.mono HBW.out, HX1.out⟩

set_option maxHeartbeats 4000000 in
set_option maxRecDepth 20000 in
theorem caf_host_no (B b : Nat) (H : Ms.Hd) (f : Fd) (fv : Value) (w : World) (h : HM w B b H fv) (hpl : Ms.plain f = true) (c0 : (f.n.toList == [116, 101]) = false) (c1 : (f.n.toList == [104, 111, 115, 116]) = true) (v : ByteArray) (c2 : H.h = some v) (hn : f.n.size ≤ 140737488355328) (hv : f.v.size ≤ 140737488355328) :
    Calls Tryd.prog 39 #[.pointer (some ⟨b, 0, none⟩), .agg #[.string f.n, .string f.v]] w fun e w' => e = .returned (.int .i64 141) ∧ Below B w w' := by
  have hBw : B ≤ w.heap.size := Nat.le_trans h.lo (Nat.le_of_lt h.obj.lt)
  have hb := bl_alloc w (.cells #[.string f.n, .string f.v] 28)
  have hA := fd_new w f
  have HP := hid' (cplain14 f true hpl (w.alloc (.cells #[.string f.n, .string f.v] 28)) hn hv)
  have hbx : b ≠ w.heap.size := Nat.ne_of_lt h.obj.lt
  have HBX := hid' hbx
  have H0 := hid' h
  have HBW := hid' hBw
  go_enter Tryd.func39, Tryd.ntmps39
  go_wp2_with fail
  obtain ⟨xb, hxb⟩ : ∃ xb, w.heap.size = xb := ⟨_, rfl⟩
  refine HP.out.mono ?_
  rintro e w1 ⟨rfl, hb1⟩
  have HB1 := hid' (below_two hb hb1)
  have HA1 : Hid (Ar w1 xb 28 #[.string f.n, .string f.v]) := hid' (hxb ▸ hA.keep hb1)
  have HX1 : Hid (HM w1 B b H fv) := hid' (h.keep (below_two hb hb1))
  have x0 := HA1.out.cell 0 _ rfl
  have x1 := HA1.out.cell 1 _ rfl
  rw [hxb] at HBX ⊢
  clear hb hA hb1 hbx hBw h hpl hn hv HP
  have g9 : w1.cell? ⟨b, 9, none⟩ = some (.bool true) := by have hz : w1.cell? ⟨b, 9, none⟩ = some (.bool H.h.isSome) := HX1.out.obj.cell 9 _ rfl; rw [hz, c2]; rfl
  have HSY : Hid (Calls Tryd.prog 52 #[.pointer (some ⟨b, 8, none⟩), .string f.v] w1.drew fun e w' => e = .returned (.bool false) ∧ w' = w1.drew) := hid' (csay14_no b 8 f.v w1.drew g9)
  clear hxb g9
  go_wp2
  have hS0 : w1.drew.cell? ⟨xb, 1, none⟩ = some (.string f.v) := x1
  go_region_held3 (fun W => W.cell? ⟨xb, 1, none⟩ = some (.string f.v)) (first | assumption) (first | (go_at_call 52; refine HSY.out.mono ?_; rintro e w2 ⟨rfl, hw2⟩; subst w2))
  have HB2 : Hid (Below B w w1.drew) := hid' ((HB1.out.mono HBW.out).drew)
  clear hS0
  go_wp2
  go_ret
  exact ⟨rfl, HB2.out⟩

set_option maxHeartbeats 4000000 in
set_option maxRecDepth 20000 in
theorem caf_host (B b : Nat) (H : Ms.Hd) (f : Fd) (fv : Value) (w : World) (h : HM w B b H fv) (hpl : Ms.plain f = true) (c0 : (f.n.toList == [116, 101]) = false) (c1 : (f.n.toList == [104, 111, 115, 116]) = true) (c2 : H.h = none) (hn : f.n.size ≤ 140737488355328) (hv : f.v.size ≤ 140737488355328) :
    Calls Tryd.prog 39 #[.pointer (some ⟨b, 0, none⟩), .agg #[.string f.n, .string f.v]] w fun e w' => e = .returned (.int .i64 0) ∧ Below B w w' ∧ HM w' B b { H with h := some f.v } fv := by
  have hBw : B ≤ w.heap.size := Nat.le_trans h.lo (Nat.le_of_lt h.obj.lt)
  have hb := bl_alloc w (.cells #[.string f.n, .string f.v] 28)
  have hA := fd_new w f
  have HP := hid' (cplain14 f true hpl (w.alloc (.cells #[.string f.n, .string f.v] 28)) hn hv)
  have hbx : b ≠ w.heap.size := Nat.ne_of_lt h.obj.lt
  have HBX := hid' hbx
  have H0 := hid' h
  have HBW := hid' hBw
  go_enter Tryd.func39, Tryd.ntmps39
  go_wp2_with fail
  obtain ⟨xb, hxb⟩ : ∃ xb, w.heap.size = xb := ⟨_, rfl⟩
  refine HP.out.mono ?_
  rintro e w1 ⟨rfl, hb1⟩
  have HB1 := hid' (below_two hb hb1)
  have HA1 : Hid (Ar w1 xb 28 #[.string f.n, .string f.v]) := hid' (hxb ▸ hA.keep hb1)
  have HX1 : Hid (HM w1 B b H fv) := hid' (h.keep (below_two hb hb1))
  have x0 := HA1.out.cell 0 _ rfl
  have x1 := HA1.out.cell 1 _ rfl
  rw [hxb] at HBX ⊢
  clear hb hA hb1 hbx hBw h hpl hn hv HP
  have g8 : w1.cell? ⟨b, 8, none⟩ = some (.string (H.h.getD ⟨#[]⟩)) := HX1.out.obj.cell 8 _ rfl
  have g9 : w1.cell? ⟨b, 9, none⟩ = some (.bool false) := by have hz : w1.cell? ⟨b, 9, none⟩ = some (.bool H.h.isSome) := HX1.out.obj.cell 9 _ rfl; rw [hz, c2]; rfl
  have HSY : Hid (Calls Tryd.prog 52 #[.pointer (some ⟨b, 8, none⟩), .string f.v] w1.drew fun e w' => e = .returned (.bool true) ∧ w' = (w1.drew.setCell ⟨b, 8, none⟩ (.string f.v)).setCell ⟨b, 9, none⟩ (.bool true)) := hid' (csay14_yes b 8 _ f.v w1.drew g8 g9 (HX1.out.obj.free 8) (HX1.out.obj.free 9))
  have HM2 : Hid (HM ((w1.drew.setCell ⟨b, 8, none⟩ (.string f.v)).setCell ⟨b, 9, none⟩ (.bool true)) B b { H with h := some f.v } fv) := hid' (by
    have h1 := HX1.out.keep ((Below.refl _ w1).drew)
    refine ⟨h1.lo, ?_, ?_⟩
    · have := (h1.obj.set 8 (.string f.v)).set 9 (.bool true)
      have e : ((hdC H fv).setIfInBounds 8 (.string f.v)).setIfInBounds 9 (.bool true) = hdC { H with h := some f.v } fv := by simp [hdC]
      rw [e] at this
      exact this
    · exact own_same h1.row (fun k hk => ((upd_setCell _ b 9 _).block k (h1.apart k hk)).trans ((upd_setCell w1.drew b 8 _).block k (h1.apart k hk))))
  have HB2 : Hid (Below B w ((w1.drew.setCell ⟨b, 8, none⟩ (.string f.v)).setCell ⟨b, 9, none⟩ (.bool true))) := hid' ((((HB1.out.mono HBW.out).drew).setCell HX1.out.lo _).setCell HX1.out.lo _)
  have hne : xb ≠ b := fun e => HBX.out e.symm
  have hS1 : ((w1.drew.setCell ⟨b, 8, none⟩ (.string f.v)).setCell ⟨b, 9, none⟩ (.bool true)).cell? ⟨xb, 1, none⟩ = some (.string f.v) := (World.cell?_of_block (((upd_setCell _ b 9 _).block xb hne).trans ((upd_setCell w1.drew b 8 _).block xb hne))).trans x1
  clear hxb g8 g9 hne
  go_wp2
  have hS0 : w1.drew.cell? ⟨xb, 1, none⟩ = some (.string f.v) := x1
  generalize (w1.drew.setCell ⟨b, 8, none⟩ (.string f.v)).setCell ⟨b, 9, none⟩ (.bool true) = w2 at *
  go_region_held3 (fun W => W.cell? ⟨xb, 1, none⟩ = some (.string f.v)) (first | assumption) (first | (go_at_call 52; refine HSY.out.mono ?_; rintro e w3 ⟨rfl, hw3⟩; subst w3))
  clear hS0 hS1
  go_wp2
  go_ret
  exact ⟨rfl, HB2.out, HM2.out⟩

end Go.Proofs.YtcljepppdljnlabDoor
