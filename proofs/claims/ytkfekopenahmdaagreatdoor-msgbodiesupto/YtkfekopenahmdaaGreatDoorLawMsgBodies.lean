/-
  MsgBodies: its contract.
-/
import Derived.Test.YtkfekopenahmdaaGreatDoorMcZ
import Derived.Test.YtkfekopenahmdaaGreatDoorNumN
import Derived.Test.YtkfekopenahmdaaGreatDoorMdD
import Derived.Deep.RegionHeld3
namespace Go.Proofs.YtkfekopenahmdaaGreatDoor
open Go.RowKit

theorem SPd.ar {w w' : World} {o : Option Nat} {k : Nat} {T : TypeId} {c : Array Value} (h : SPd w o w') (ha : Ar w k T c) (hn : o ≠ some k) : Ar w' k T c := LF.ar h ha hn
theorem LN.set {w : World} {B g cap : Nat} {l : List Fd} (h : LN w B g cap l) {k : Nat} {T : TypeId} {c : Array Value} (ha : Ar w k T c) (hT : T ≠ 42) (i : Nat) (u : Value) : LN (w.setCell ⟨k, i, none⟩ u) B g cap l :=
  ⟨own_same h.own (fun j hj => (upd_setCell w k i u).block j (own_apart h.own ha hT j hj))⟩

set_option maxHeartbeats 16000000 in
set_option maxRecDepth 20000 in
theorem msgBodies_any (m s a p b : ByteArray) (fv : Value) (ta : Option Addr) (tn tc : Nat) (l : List Fd) (st : Int) (fv2 : Value) (b2 : ByteArray) (uo : Option Addr) (un uc : Nat) (l2 : List Fd) (body : Int) (w : World) (h1 : FW w fv l) (h2 : FW w fv2 l2) (hT : TB w) (hl : l.length ≤ 1048576) (hs : ∀ f ∈ l, f.n.size ≤ 140737488355328 ∧ f.v.size ≤ 140737488355328) (hl2 : l2.length ≤ 1048576) (hs2 : ∀ f ∈ l2, f.n.size ≤ 140737488355328) :
    Calls Tryz.prog 4 #[.agg (rqC m s a p fv b (.slice ta tn tc)), .agg (rpC st fv2 b2 (.slice uo un uc)), .int .i64 body] w fun e w' => e = .returned (.bool true) ∧ Below w.heap.size w w' := by
  have H1 := hid' h1
  have H2 := hid' h2
  have HTB := hid' hT
  have HL1 := hid' hl
  have HL2 := hid' hl2
  obtain ⟨wc, hwc⟩ : ∃ wc, Ms.whole (Ms.lenGo none l) body = wc := ⟨_, rfl⟩
  obtain ⟨wt, hwt⟩ : ∃ wt, Ms.waits l = wt := ⟨_, rfl⟩
  obtain ⟨ba, hba⟩ : ∃ ba, Ms.bare m st = ba := ⟨_, rfl⟩
  obtain ⟨ao, cap, hv⟩ := h1.shape
  obtain ⟨bo, bcap, hv2⟩ := h2.shape
  subst hv hv2
  have HCW := hid' (fun (V : Value) W (hF : FW W V l) (hB : TB W) => cwhole14 m s a p b V (.slice ta tn tc) l body wc hwc W hF hB hl hs)
  have HRW := hid' (fun (V : Value) W (hF : FW W V l) => rwhole14 rNumber_any m s a p b V (.slice ta tn tc) l body wc hwc W hF hl hs)
  have HCA := hid' (fun (V : Value) W (hF : FW W V l) => cwaits14 m s a p b V (.slice ta tn tc) l wt hwt W hF hl hs)
  have HRA := hid' (fun (V : Value) W (hF : FW W V l) => rwaits14 m s a p b V (.slice ta tn tc) l wt hwt W hF hl hs)
  have HCL := hid' (fun (V : Value) W (hF : FW W V l2) (hB : TB W) => clist14 st V b2 (.slice uo un uc) l2 W hF hB hl2 hs2)
  have HRL := hid' (fun (V : Value) W (hF : FW W V l2) => rlist14 st V b2 (.slice uo un uc) l2 W hF hl2 hs2)
  have HCB := hid' (fun W => cbare14 m st ba hba W)
  have HRB := hid' (fun W => rbare14 m st ba hba W)
  have HLL : Hid ((Ms.lst st l2).length ≤ 1048577) := hid' (by unfold Ms.lst; rw [List.length_cons, List.length_map]; have := Ms.strip_le l2; omega)
  unfold rqC at HCW HRW HCA HRA
  unfold rpC at HCL HRL
  obtain ⟨n, hn⟩ : ∃ n, l.length = n := ⟨_, rfl⟩
  obtain ⟨n2, hn2⟩ : ∃ n, l2.length = n := ⟨_, rfl⟩
  have HN := hid' hn
  have HN2 := hid' hn2
  rw [hn] at H1 ⊢
  rw [hn2] at H2 ⊢
  unfold rqC rpC
  clear h1 h2 hT hl hs hl2 hs2 hwc hwt hba hn hn2
  have hwe : ((wc : Int) == wc) = true := beq_self_eq_true _
  have hte : (wt == wt) = true := beq_self_eq_true _
  have hbe : (ba == ba) = true := beq_self_eq_true _
  have HX3 : Hid (Ar (((w.alloc (.cells #[.string m, .string s, .string a, .string p, .slice ao n cap, .string b, .slice ta tn tc] 25)).alloc (.cells #[.int .i64 st, .slice bo n2 bcap, .string b2, .slice uo un uc] 35)).alloc (.cells #[.string m, .string s, .string a, .string p, .slice ao n cap, .string b, .slice ta tn tc] 25)) w.heap.size 25 #[.string m, .string s, .string a, .string p, .slice ao n cap, .string b, .slice ta tn tc]) := hid' (Ar.keep (Ar.keep (heap_alloc_last w _ : Ar (w.alloc (.cells #[.string m, .string s, .string a, .string p, .slice ao n cap, .string b, .slice ta tn tc] 25)) w.heap.size 25 #[.string m, .string s, .string a, .string p, .slice ao n cap, .string b, .slice ta tn tc]) (bl_alloc _ _)) (bl_alloc _ _))
  have HX4 : Hid (Ar (((w.alloc (.cells #[.string m, .string s, .string a, .string p, .slice ao n cap, .string b, .slice ta tn tc] 25)).alloc (.cells #[.int .i64 st, .slice bo n2 bcap, .string b2, .slice uo un uc] 35)).alloc (.cells #[.string m, .string s, .string a, .string p, .slice ao n cap, .string b, .slice ta tn tc] 25)) (w.alloc (.cells #[.string m, .string s, .string a, .string p, .slice ao n cap, .string b, .slice ta tn tc] 25)).heap.size 35 #[.int .i64 st, .slice bo n2 bcap, .string b2, .slice uo un uc]) := hid' (Ar.keep (heap_alloc_last (w.alloc (.cells #[.string m, .string s, .string a, .string p, .slice ao n cap, .string b, .slice ta tn tc] 25)) _ : Ar ((w.alloc (.cells #[.string m, .string s, .string a, .string p, .slice ao n cap, .string b, .slice ta tn tc] 25)).alloc (.cells #[.int .i64 st, .slice bo n2 bcap, .string b2, .slice uo un uc] 35)) (w.alloc (.cells #[.string m, .string s, .string a, .string p, .slice ao n cap, .string b, .slice ta tn tc] 25)).heap.size 35 #[.int .i64 st, .slice bo n2 bcap, .string b2, .slice uo un uc]) (bl_alloc _ _))
  have HX7 : Hid (Ar (((w.alloc (.cells #[.string m, .string s, .string a, .string p, .slice ao n cap, .string b, .slice ta tn tc] 25)).alloc (.cells #[.int .i64 st, .slice bo n2 bcap, .string b2, .slice uo un uc] 35)).alloc (.cells #[.string m, .string s, .string a, .string p, .slice ao n cap, .string b, .slice ta tn tc] 25)) ((w.alloc (.cells #[.string m, .string s, .string a, .string p, .slice ao n cap, .string b, .slice ta tn tc] 25)).alloc (.cells #[.int .i64 st, .slice bo n2 bcap, .string b2, .slice uo un uc] 35)).heap.size 25 #[.string m, .string s, .string a, .string p, .slice ao n cap, .string b, .slice ta tn tc]) := hid' (heap_alloc_last _ _)
  have HB0 : Hid (Below w.heap.size w (((w.alloc (.cells #[.string m, .string s, .string a, .string p, .slice ao n cap, .string b, .slice ta tn tc] 25)).alloc (.cells #[.int .i64 st, .slice bo n2 bcap, .string b2, .slice uo un uc] 35)).alloc (.cells #[.string m, .string s, .string a, .string p, .slice ao n cap, .string b, .slice ta tn tc] 25))) := hid' (below_two (below_two (bl_alloc w _) (bl_alloc _ _)) (bl_alloc _ _))
  have z1 : (w.alloc (.cells #[.string m, .string s, .string a, .string p, .slice ao n cap, .string b, .slice ta tn tc] 25)).heap.size = w.heap.size + 1 := by simp
  have z2 : ((w.alloc (.cells #[.string m, .string s, .string a, .string p, .slice ao n cap, .string b, .slice ta tn tc] 25)).alloc (.cells #[.int .i64 st, .slice bo n2 bcap, .string b2, .slice uo un uc] 35)).heap.size = w.heap.size + 1 + 1 := by simp
  rw [z1] at HX4
  rw [z2] at HX7
  go_enter Tryz.func4, Tryz.ntmps4
  go_upto_region 2 with fail
  obtain ⟨b3, hb3⟩ : ∃ b3, w.heap.size = b3 := ⟨_, rfl⟩
  rw [hb3] at HX3 HX4 HX7 ⊢
  obtain ⟨b4, hb4⟩ : ∃ b4, b3 + 1 = b4 := ⟨_, rfl⟩
  rw [hb4] at HX4 HX7 ⊢
  obtain ⟨b7, hb7⟩ : ∃ b7, b4 + 1 = b7 := ⟨_, rfl⟩
  rw [hb7] at HX7 ⊢
  have HOR : Hid (w.heap.size = b3 ∧ b3 + 1 = b4 ∧ b4 + 1 = b7) := hid' ⟨hb3, hb4, hb7⟩
  generalize ((w.alloc (.cells #[.string m, .string s, .string a, .string p, .slice ao n cap, .string b, .slice ta tn tc] 25)).alloc (.cells #[.int .i64 st, .slice bo n2 bcap, .string b2, .slice uo un uc] 35)).alloc (.cells #[.string m, .string s, .string a, .string p, .slice ao n cap, .string b, .slice ta tn tc] 25) = w0 at *
  clear z1 z2 hb3 hb4 hb7
  have c34 := HX3.out.cell 4 _ rfl
  go_wp2_with fail
  refine (lent14 _ l w0 (H1.out.keep HB0.out) HL1.out).mono ?_
  rw [HN.out]
  rintro e w1 ⟨⟨g1, cap1, rfl, hln1⟩, hb1⟩
  have HB1 := hid' (below_two HB0.out hb1)
  have HX31 := hid' (HX3.out.keep hb1)
  have HX41 := hid' (HX4.out.keep hb1)
  have HX71 := hid' (HX7.out.keep hb1)
  have HLN1 := hid' hln1
  have c74 := HX71.out.cell 4 _ rfl
  have f74 := HX71.out.free 4
  clear hb1 hln1 c34 HX3 HX4 HX7
  have HB2 : Hid (Below w.heap.size w (w1.setCell ⟨b7, 4, none⟩ (.slice (some ⟨g1, 0, none⟩) n cap1))) := hid' (HB1.out.trans ((upd_setCell w1 b7 4 _).below (by have := HOR.out; omega)))
  have HX72 : Hid (Ar (w1.setCell ⟨b7, 4, none⟩ (.slice (some ⟨g1, 0, none⟩) n cap1)) b7 25 #[.string m, .string s, .string a, .string p, .slice (some ⟨g1, 0, none⟩) n cap1, .string b, .slice ta tn tc]) := hid' (HX71.out.set 4 _)
  have HX32 : Hid (Ar (w1.setCell ⟨b7, 4, none⟩ (.slice (some ⟨g1, 0, none⟩) n cap1)) b3 25 #[.string m, .string s, .string a, .string p, .slice ao n cap, .string b, .slice ta tn tc]) := hid' (HX31.out.other (by have := HOR.out; omega) 4 _)
  have HX42 : Hid (Ar (w1.setCell ⟨b7, 4, none⟩ (.slice (some ⟨g1, 0, none⟩) n cap1)) b4 35 #[.int .i64 st, .slice bo n2 bcap, .string b2, .slice uo un uc]) := hid' (HX41.out.other (by have := HOR.out; omega) 4 _)
  have HLN2 := hid' (HLN1.out.set HX71.out (by decide) 4 (.slice (some ⟨g1, 0, none⟩) n cap1))
  go_upto_region 3 with fail
  generalize w1.setCell ⟨b7, 4, none⟩ (.slice (some ⟨g1, 0, none⟩) n cap1) = w2 at *
  clear c74 f74 HX31 HX41 HX71 HLN1 HB1
  have x0 := HX42.out.cell 0 _ rfl
  have x1 := HX42.out.cell 1 _ rfl
  have x2 := HX42.out.cell 2 _ rfl
  have x3 := HX42.out.cell 3 _ rfl
  have HB3 := hid' (below_two HB2.out (bl_alloc w2 (.cells #[.int .i64 st, .slice bo n2 bcap, .string b2, .slice uo un uc] 35)))
  have HX33 := hid' (HX32.out.keep (bl_alloc w2 (.cells #[.int .i64 st, .slice bo n2 bcap, .string b2, .slice uo un uc] 35)))
  have HX43 := hid' (HX42.out.keep (bl_alloc w2 (.cells #[.int .i64 st, .slice bo n2 bcap, .string b2, .slice uo un uc] 35)))
  have HX73 := hid' (HX72.out.keep (bl_alloc w2 (.cells #[.int .i64 st, .slice bo n2 bcap, .string b2, .slice uo un uc] 35)))
  have HLN3 := hid' (HLN2.out.keep (bl_alloc w2 (.cells #[.int .i64 st, .slice bo n2 bcap, .string b2, .slice uo un uc] 35)))
  have HX83 : Hid (Ar (w2.alloc (.cells #[.int .i64 st, .slice bo n2 bcap, .string b2, .slice uo un uc] 35)) w2.heap.size 35 #[.int .i64 st, .slice bo n2 bcap, .string b2, .slice uo un uc]) := hid' (heap_alloc_last _ _)
  have HLT : Hid (b3 < w2.heap.size ∧ b4 < w2.heap.size ∧ b7 < w2.heap.size ∧ w.heap.size ≤ w2.heap.size) := hid' ⟨HX32.out.lt, HX42.out.lt, HX72.out.lt, HB2.out.size⟩
  go_upto_region 4 with fail
  obtain ⟨b8, hb8⟩ : ∃ b8, w2.heap.size = b8 := ⟨_, rfl⟩
  rw [hb8] at HX83 HLT ⊢
  generalize w2.alloc (.cells #[.int .i64 st, .slice bo n2 bcap, .string b2, .slice uo un uc] 35) = w3 at *
  clear hb8 x0 x1 x2 x3 HX32 HX42 HX72 HLN2 HB2
  have c41 := HX43.out.cell 1 _ rfl
  go_wp2_with fail
  refine (lent14 _ l2 w3 (H2.out.keep HB3.out) HL2.out).mono ?_
  rw [HN2.out]
  rintro e w4 ⟨⟨g2, cap2, rfl, hln2⟩, hb4'⟩
  have HB4 := hid' (below_two HB3.out hb4')
  have HX34 := hid' (HX33.out.keep hb4')
  have HX44 := hid' (HX43.out.keep hb4')
  have HX74 := hid' (HX73.out.keep hb4')
  have HX84 := hid' (HX83.out.keep hb4')
  have HLN4 := hid' (HLN3.out.keep hb4')
  have HLM4 := hid' hln2
  have c81 := HX84.out.cell 1 _ rfl
  have f81 := HX84.out.free 1
  clear hb4' hln2 c41 HX33 HX43 HX73 HX83 HLN3 HB3
  have HB5 : Hid (Below w.heap.size w (w4.setCell ⟨b8, 1, none⟩ (.slice (some ⟨g2, 0, none⟩) n2 cap2))) := hid' (HB4.out.trans ((upd_setCell w4 b8 1 _).below (by have := HLT.out; omega)))
  have HX85 : Hid (Ar (w4.setCell ⟨b8, 1, none⟩ (.slice (some ⟨g2, 0, none⟩) n2 cap2)) b8 35 #[.int .i64 st, .slice (some ⟨g2, 0, none⟩) n2 cap2, .string b2, .slice uo un uc]) := hid' (HX84.out.set 1 _)
  have HX35 : Hid (Ar (w4.setCell ⟨b8, 1, none⟩ (.slice (some ⟨g2, 0, none⟩) n2 cap2)) b3 25 #[.string m, .string s, .string a, .string p, .slice ao n cap, .string b, .slice ta tn tc]) := hid' (HX34.out.other (by have := HLT.out; omega) 1 _)
  have HX45 : Hid (Ar (w4.setCell ⟨b8, 1, none⟩ (.slice (some ⟨g2, 0, none⟩) n2 cap2)) b4 35 #[.int .i64 st, .slice bo n2 bcap, .string b2, .slice uo un uc]) := hid' (HX44.out.other (by have := HLT.out; omega) 1 _)
  have HX75 : Hid (Ar (w4.setCell ⟨b8, 1, none⟩ (.slice (some ⟨g2, 0, none⟩) n2 cap2)) b7 25 #[.string m, .string s, .string a, .string p, .slice (some ⟨g1, 0, none⟩) n cap1, .string b, .slice ta tn tc]) := hid' (HX74.out.other (by have := HLT.out; omega) 1 _)
  have HLN5 := hid' (HLN4.out.set HX84.out (by decide) 1 (.slice (some ⟨g2, 0, none⟩) n2 cap2))
  have HLM5 := hid' (HLM4.out.set HX84.out (by decide) 1 (.slice (some ⟨g2, 0, none⟩) n2 cap2))
  go_upto_region 5 with fail
  generalize w4.setCell ⟨b8, 1, none⟩ (.slice (some ⟨g2, 0, none⟩) n2 cap2) = w5 at *
  clear c81 f81 HX34 HX44 HX74 HX84 HLN4 HLM4 HB4
  have x0 := HX85.out.cell 0 _ rfl
  have x1 := HX85.out.cell 1 _ rfl
  have x2 := HX85.out.cell 2 _ rfl
  have x3 := HX85.out.cell 3 _ rfl
  have hfw5 : FW w5 (.slice (some ⟨g2, 0, none⟩) n2 cap2) l2 := by have := HLM5.out.fw; rwa [HN2.out] at this
  have HFW5 := hid' hfw5
  clear hfw5
  go_wp2_with fail
  refine (HCL.out _ w5 HFW5.out (HTB.out.keep HB5.out)).mono ?_
  rintro e w6 ⟨⟨lm, qo, qc, rfl, hlm, hrow⟩, hb6⟩
  have HB6 := hid' (below_two HB5.out hb6)
  have Hb3 := hid' (HX35.out.keep hb6)
  have Hb4 := hid' (HX45.out.keep hb6)
  have Hb7 := hid' (HX75.out.keep hb6)
  have Hb8 := hid' (HX85.out.keep hb6)
  have HLN6 := hid' (HLN5.out.keep hb6)
  have HLM6 := hid' (HLM5.out.keep hb6)
  have HLR6 := hid' hrow
  have HLM := hid' hlm
  have HSZ : Hid (w5.heap.size ≤ w6.heap.size ∧ g1 < w5.heap.size ∧ g2 < w5.heap.size ∧ w.heap.size ≤ w5.heap.size ∧ b3 < w5.heap.size ∧ b4 < w5.heap.size ∧ b7 < w5.heap.size ∧ b8 < w5.heap.size) := hid' ⟨hb6.size, own_lt HLN5.out.own g1 rfl, own_lt HLM5.out.own g2 rfl, HB5.out.size, HX35.out.lt, HX45.out.lt, HX75.out.lt, HX85.out.lt⟩
  clear hb6 hrow hlm x0 x1 x2 x3 HX35 HX45 HX75 HX85 HLN5 HLM5 HFW5 HB5
  have sOf : ∀ W W1 : World, (Below w6.heap.size w6 W ∧ W.cell? ⟨b3, 0, none⟩ = some (.string m) ∧ W.cell? ⟨b3, 1, none⟩ = some (.string s) ∧ W.cell? ⟨b3, 2, none⟩ = some (.string a) ∧ W.cell? ⟨b3, 3, none⟩ = some (.string p) ∧ W.cell? ⟨b3, 4, none⟩ = some (.slice ao n cap) ∧ W.cell? ⟨b3, 5, none⟩ = some (.string b) ∧ W.cell? ⟨b3, 6, none⟩ = some (.slice ta tn tc) ∧ W.cell? ⟨b4, 0, none⟩ = some (.int .i64 st) ∧ W.cell? ⟨b4, 1, none⟩ = some (.slice bo n2 bcap) ∧ W.cell? ⟨b4, 2, none⟩ = some (.string b2) ∧ W.cell? ⟨b4, 3, none⟩ = some (.slice uo un uc) ∧ W.cell? ⟨b7, 0, none⟩ = some (.string m) ∧ W.cell? ⟨b7, 1, none⟩ = some (.string s) ∧ W.cell? ⟨b7, 2, none⟩ = some (.string a) ∧ W.cell? ⟨b7, 3, none⟩ = some (.string p) ∧ W.cell? ⟨b7, 4, none⟩ = some (.slice (some ⟨g1, 0, none⟩) n cap1) ∧ W.cell? ⟨b7, 5, none⟩ = some (.string b) ∧ W.cell? ⟨b7, 6, none⟩ = some (.slice ta tn tc)) → Below W.heap.size W W1 → (Below w6.heap.size w6 W1 ∧ W1.cell? ⟨b3, 0, none⟩ = some (.string m) ∧ W1.cell? ⟨b3, 1, none⟩ = some (.string s) ∧ W1.cell? ⟨b3, 2, none⟩ = some (.string a) ∧ W1.cell? ⟨b3, 3, none⟩ = some (.string p) ∧ W1.cell? ⟨b3, 4, none⟩ = some (.slice ao n cap) ∧ W1.cell? ⟨b3, 5, none⟩ = some (.string b) ∧ W1.cell? ⟨b3, 6, none⟩ = some (.slice ta tn tc) ∧ W1.cell? ⟨b4, 0, none⟩ = some (.int .i64 st) ∧ W1.cell? ⟨b4, 1, none⟩ = some (.slice bo n2 bcap) ∧ W1.cell? ⟨b4, 2, none⟩ = some (.string b2) ∧ W1.cell? ⟨b4, 3, none⟩ = some (.slice uo un uc) ∧ W1.cell? ⟨b7, 0, none⟩ = some (.string m) ∧ W1.cell? ⟨b7, 1, none⟩ = some (.string s) ∧ W1.cell? ⟨b7, 2, none⟩ = some (.string a) ∧ W1.cell? ⟨b7, 3, none⟩ = some (.string p) ∧ W1.cell? ⟨b7, 4, none⟩ = some (.slice (some ⟨g1, 0, none⟩) n cap1) ∧ W1.cell? ⟨b7, 5, none⟩ = some (.string b) ∧ W1.cell? ⟨b7, 6, none⟩ = some (.slice ta tn tc)) := fun W W1 h hb => ⟨below_two h.1 hb, (Hb3.out.keep (below_two h.1 hb)).cell 0 _ rfl, (Hb3.out.keep (below_two h.1 hb)).cell 1 _ rfl, (Hb3.out.keep (below_two h.1 hb)).cell 2 _ rfl, (Hb3.out.keep (below_two h.1 hb)).cell 3 _ rfl, (Hb3.out.keep (below_two h.1 hb)).cell 4 _ rfl, (Hb3.out.keep (below_two h.1 hb)).cell 5 _ rfl, (Hb3.out.keep (below_two h.1 hb)).cell 6 _ rfl, (Hb4.out.keep (below_two h.1 hb)).cell 0 _ rfl, (Hb4.out.keep (below_two h.1 hb)).cell 1 _ rfl, (Hb4.out.keep (below_two h.1 hb)).cell 2 _ rfl, (Hb4.out.keep (below_two h.1 hb)).cell 3 _ rfl, (Hb7.out.keep (below_two h.1 hb)).cell 0 _ rfl, (Hb7.out.keep (below_two h.1 hb)).cell 1 _ rfl, (Hb7.out.keep (below_two h.1 hb)).cell 2 _ rfl, (Hb7.out.keep (below_two h.1 hb)).cell 3 _ rfl, (Hb7.out.keep (below_two h.1 hb)).cell 4 _ rfl, (Hb7.out.keep (below_two h.1 hb)).cell 5 _ rfl, (Hb7.out.keep (below_two h.1 hb)).cell 6 _ rfl⟩
  have hS : Below w6.heap.size w6 w6 ∧ w6.cell? ⟨b3, 0, none⟩ = some (.string m) ∧ w6.cell? ⟨b3, 1, none⟩ = some (.string s) ∧ w6.cell? ⟨b3, 2, none⟩ = some (.string a) ∧ w6.cell? ⟨b3, 3, none⟩ = some (.string p) ∧ w6.cell? ⟨b3, 4, none⟩ = some (.slice ao n cap) ∧ w6.cell? ⟨b3, 5, none⟩ = some (.string b) ∧ w6.cell? ⟨b3, 6, none⟩ = some (.slice ta tn tc) ∧ w6.cell? ⟨b4, 0, none⟩ = some (.int .i64 st) ∧ w6.cell? ⟨b4, 1, none⟩ = some (.slice bo n2 bcap) ∧ w6.cell? ⟨b4, 2, none⟩ = some (.string b2) ∧ w6.cell? ⟨b4, 3, none⟩ = some (.slice uo un uc) ∧ w6.cell? ⟨b7, 0, none⟩ = some (.string m) ∧ w6.cell? ⟨b7, 1, none⟩ = some (.string s) ∧ w6.cell? ⟨b7, 2, none⟩ = some (.string a) ∧ w6.cell? ⟨b7, 3, none⟩ = some (.string p) ∧ w6.cell? ⟨b7, 4, none⟩ = some (.slice (some ⟨g1, 0, none⟩) n cap1) ∧ w6.cell? ⟨b7, 5, none⟩ = some (.string b) ∧ w6.cell? ⟨b7, 6, none⟩ = some (.slice ta tn tc) := ⟨Below.refl _ _, Hb3.out.cell 0 _ rfl, Hb3.out.cell 1 _ rfl, Hb3.out.cell 2 _ rfl, Hb3.out.cell 3 _ rfl, Hb3.out.cell 4 _ rfl, Hb3.out.cell 5 _ rfl, Hb3.out.cell 6 _ rfl, Hb4.out.cell 0 _ rfl, Hb4.out.cell 1 _ rfl, Hb4.out.cell 2 _ rfl, Hb4.out.cell 3 _ rfl, Hb7.out.cell 0 _ rfl, Hb7.out.cell 1 _ rfl, Hb7.out.cell 2 _ rfl, Hb7.out.cell 3 _ rfl, Hb7.out.cell 4 _ rfl, Hb7.out.cell 5 _ rfl, Hb7.out.cell 6 _ rfl⟩
  have tOf : ∀ W : World, (Below w6.heap.size w6 W ∧ W.cell? ⟨b3, 0, none⟩ = some (.string m) ∧ W.cell? ⟨b3, 1, none⟩ = some (.string s) ∧ W.cell? ⟨b3, 2, none⟩ = some (.string a) ∧ W.cell? ⟨b3, 3, none⟩ = some (.string p) ∧ W.cell? ⟨b3, 4, none⟩ = some (.slice ao n cap) ∧ W.cell? ⟨b3, 5, none⟩ = some (.string b) ∧ W.cell? ⟨b3, 6, none⟩ = some (.slice ta tn tc) ∧ W.cell? ⟨b4, 0, none⟩ = some (.int .i64 st) ∧ W.cell? ⟨b4, 1, none⟩ = some (.slice bo n2 bcap) ∧ W.cell? ⟨b4, 2, none⟩ = some (.string b2) ∧ W.cell? ⟨b4, 3, none⟩ = some (.slice uo un uc) ∧ W.cell? ⟨b7, 0, none⟩ = some (.string m) ∧ W.cell? ⟨b7, 1, none⟩ = some (.string s) ∧ W.cell? ⟨b7, 2, none⟩ = some (.string a) ∧ W.cell? ⟨b7, 3, none⟩ = some (.string p) ∧ W.cell? ⟨b7, 4, none⟩ = some (.slice (some ⟨g1, 0, none⟩) n cap1) ∧ W.cell? ⟨b7, 5, none⟩ = some (.string b) ∧ W.cell? ⟨b7, 6, none⟩ = some (.slice ta tn tc)) → TB W := fun W h => HTB.out.keep (below_two HB6.out h.1)
  have fOf : ∀ W : World, (Below w6.heap.size w6 W ∧ W.cell? ⟨b3, 0, none⟩ = some (.string m) ∧ W.cell? ⟨b3, 1, none⟩ = some (.string s) ∧ W.cell? ⟨b3, 2, none⟩ = some (.string a) ∧ W.cell? ⟨b3, 3, none⟩ = some (.string p) ∧ W.cell? ⟨b3, 4, none⟩ = some (.slice ao n cap) ∧ W.cell? ⟨b3, 5, none⟩ = some (.string b) ∧ W.cell? ⟨b3, 6, none⟩ = some (.slice ta tn tc) ∧ W.cell? ⟨b4, 0, none⟩ = some (.int .i64 st) ∧ W.cell? ⟨b4, 1, none⟩ = some (.slice bo n2 bcap) ∧ W.cell? ⟨b4, 2, none⟩ = some (.string b2) ∧ W.cell? ⟨b4, 3, none⟩ = some (.slice uo un uc) ∧ W.cell? ⟨b7, 0, none⟩ = some (.string m) ∧ W.cell? ⟨b7, 1, none⟩ = some (.string s) ∧ W.cell? ⟨b7, 2, none⟩ = some (.string a) ∧ W.cell? ⟨b7, 3, none⟩ = some (.string p) ∧ W.cell? ⟨b7, 4, none⟩ = some (.slice (some ⟨g1, 0, none⟩) n cap1) ∧ W.cell? ⟨b7, 5, none⟩ = some (.string b) ∧ W.cell? ⟨b7, 6, none⟩ = some (.slice ta tn tc)) → FW W (.slice (some ⟨g1, 0, none⟩) n cap1) l := fun W h => by have := (HLN6.out.keep h.1).fw; rwa [HN.out] at this
  have hOf : ∀ W : World, (Below w6.heap.size w6 W ∧ W.cell? ⟨b3, 0, none⟩ = some (.string m) ∧ W.cell? ⟨b3, 1, none⟩ = some (.string s) ∧ W.cell? ⟨b3, 2, none⟩ = some (.string a) ∧ W.cell? ⟨b3, 3, none⟩ = some (.string p) ∧ W.cell? ⟨b3, 4, none⟩ = some (.slice ao n cap) ∧ W.cell? ⟨b3, 5, none⟩ = some (.string b) ∧ W.cell? ⟨b3, 6, none⟩ = some (.slice ta tn tc) ∧ W.cell? ⟨b4, 0, none⟩ = some (.int .i64 st) ∧ W.cell? ⟨b4, 1, none⟩ = some (.slice bo n2 bcap) ∧ W.cell? ⟨b4, 2, none⟩ = some (.string b2) ∧ W.cell? ⟨b4, 3, none⟩ = some (.slice uo un uc) ∧ W.cell? ⟨b7, 0, none⟩ = some (.string m) ∧ W.cell? ⟨b7, 1, none⟩ = some (.string s) ∧ W.cell? ⟨b7, 2, none⟩ = some (.string a) ∧ W.cell? ⟨b7, 3, none⟩ = some (.string p) ∧ W.cell? ⟨b7, 4, none⟩ = some (.slice (some ⟨g1, 0, none⟩) n cap1) ∧ W.cell? ⟨b7, 5, none⟩ = some (.string b) ∧ W.cell? ⟨b7, 6, none⟩ = some (.slice ta tn tc)) → FW W (.slice ao n cap) l := fun W h => H1.out.keep (below_two HB6.out h.1)
  have pOf : ∀ W : World, (Below w6.heap.size w6 W ∧ W.cell? ⟨b3, 0, none⟩ = some (.string m) ∧ W.cell? ⟨b3, 1, none⟩ = some (.string s) ∧ W.cell? ⟨b3, 2, none⟩ = some (.string a) ∧ W.cell? ⟨b3, 3, none⟩ = some (.string p) ∧ W.cell? ⟨b3, 4, none⟩ = some (.slice ao n cap) ∧ W.cell? ⟨b3, 5, none⟩ = some (.string b) ∧ W.cell? ⟨b3, 6, none⟩ = some (.slice ta tn tc) ∧ W.cell? ⟨b4, 0, none⟩ = some (.int .i64 st) ∧ W.cell? ⟨b4, 1, none⟩ = some (.slice bo n2 bcap) ∧ W.cell? ⟨b4, 2, none⟩ = some (.string b2) ∧ W.cell? ⟨b4, 3, none⟩ = some (.slice uo un uc) ∧ W.cell? ⟨b7, 0, none⟩ = some (.string m) ∧ W.cell? ⟨b7, 1, none⟩ = some (.string s) ∧ W.cell? ⟨b7, 2, none⟩ = some (.string a) ∧ W.cell? ⟨b7, 3, none⟩ = some (.string p) ∧ W.cell? ⟨b7, 4, none⟩ = some (.slice (some ⟨g1, 0, none⟩) n cap1) ∧ W.cell? ⟨b7, 5, none⟩ = some (.string b) ∧ W.cell? ⟨b7, 6, none⟩ = some (.slice ta tn tc)) → FW W (.slice bo n2 bcap) l2 := fun W h => H2.out.keep (below_two HB6.out h.1)
  have lOf : ∀ W : World, (Below w6.heap.size w6 W ∧ W.cell? ⟨b3, 0, none⟩ = some (.string m) ∧ W.cell? ⟨b3, 1, none⟩ = some (.string s) ∧ W.cell? ⟨b3, 2, none⟩ = some (.string a) ∧ W.cell? ⟨b3, 3, none⟩ = some (.string p) ∧ W.cell? ⟨b3, 4, none⟩ = some (.slice ao n cap) ∧ W.cell? ⟨b3, 5, none⟩ = some (.string b) ∧ W.cell? ⟨b3, 6, none⟩ = some (.slice ta tn tc) ∧ W.cell? ⟨b4, 0, none⟩ = some (.int .i64 st) ∧ W.cell? ⟨b4, 1, none⟩ = some (.slice bo n2 bcap) ∧ W.cell? ⟨b4, 2, none⟩ = some (.string b2) ∧ W.cell? ⟨b4, 3, none⟩ = some (.slice uo un uc) ∧ W.cell? ⟨b7, 0, none⟩ = some (.string m) ∧ W.cell? ⟨b7, 1, none⟩ = some (.string s) ∧ W.cell? ⟨b7, 2, none⟩ = some (.string a) ∧ W.cell? ⟨b7, 3, none⟩ = some (.string p) ∧ W.cell? ⟨b7, 4, none⟩ = some (.slice (some ⟨g1, 0, none⟩) n cap1) ∧ W.cell? ⟨b7, 5, none⟩ = some (.string b) ∧ W.cell? ⟨b7, 6, none⟩ = some (.slice ta tn tc)) → FW W (.slice qo lm qc) (Ms.lst st l2) := fun W h => (FW.of_own (l := Ms.lst st l2) (by rw [HLM.out]; exact HLR6.out)).keep h.1
  have HSM : Hid (∀ (va vb : Value) W, FW W va (Ms.lst st l2) → FW W vb (Ms.lst st l2) → Calls Tryz.prog 17 #[va, vb] W fun e w' => e = .returned (.bool true) ∧ Below W.heap.size W w') := hid' (fun va vb W ha hb => (rsame14 va vb _ W ha hb (by have := HLL.out; omega)).mono (fun e w' ⟨h, k, hk⟩ => ⟨h, by rw [hk]; exact below_dn _ _⟩))
  go_upto_region 6 with fail
  go_region_held3 (fun W => Below w6.heap.size w6 W ∧ W.cell? ⟨b3, 0, none⟩ = some (.string m) ∧ W.cell? ⟨b3, 1, none⟩ = some (.string s) ∧ W.cell? ⟨b3, 2, none⟩ = some (.string a) ∧ W.cell? ⟨b3, 3, none⟩ = some (.string p) ∧ W.cell? ⟨b3, 4, none⟩ = some (.slice ao n cap) ∧ W.cell? ⟨b3, 5, none⟩ = some (.string b) ∧ W.cell? ⟨b3, 6, none⟩ = some (.slice ta tn tc) ∧ W.cell? ⟨b4, 0, none⟩ = some (.int .i64 st) ∧ W.cell? ⟨b4, 1, none⟩ = some (.slice bo n2 bcap) ∧ W.cell? ⟨b4, 2, none⟩ = some (.string b2) ∧ W.cell? ⟨b4, 3, none⟩ = some (.slice uo un uc) ∧ W.cell? ⟨b7, 0, none⟩ = some (.string m) ∧ W.cell? ⟨b7, 1, none⟩ = some (.string s) ∧ W.cell? ⟨b7, 2, none⟩ = some (.string a) ∧ W.cell? ⟨b7, 3, none⟩ = some (.string p) ∧ W.cell? ⟨b7, 4, none⟩ = some (.slice (some ⟨g1, 0, none⟩) n cap1) ∧ W.cell? ⟨b7, 5, none⟩ = some (.string b) ∧ W.cell? ⟨b7, 6, none⟩ = some (.slice ta tn tc))
    (first | assumption | exact sOf _ _ (by assumption) (by assumption) | exact sOf _ _ (by assumption) ((Below.refl _ _).drew))
    (first
    | (go_at_call 13; refine (HCW.out _ _ (fOf _ (by assumption)) (tOf _ (by assumption))).mono ?_; rintro e wz ⟨rfl, hbz⟩)
    | (go_at_call 14; refine (HRW.out _ _ (hOf _ (by assumption))).mono ?_; rintro e wz ⟨rfl, hbz⟩)
    | (go_at_call 15; refine (HCA.out _ _ (fOf _ (by assumption))).mono ?_; rintro e wz ⟨rfl, hbz⟩)
    | (go_at_call 16; refine (HRA.out _ _ (hOf _ (by assumption))).mono ?_; rintro e wz ⟨rfl, hbz⟩)
    | (go_at_call 18; refine (HRL.out _ _ (pOf _ (by assumption))).mono ?_; rintro e wx ⟨⟨lm, lo, lc, rfl, hlm, hrow⟩, hbz⟩; have HLR := hid' (FW.of_own (l := Ms.lst st l2) (by rw [hlm]; exact hrow)); subst lm; clear hrow)
    | (go_at_call 17; refine (HSM.out _ _ _ (lOf _ (by assumption)) HLR.out).mono ?_; rintro e wz ⟨rfl, hbz⟩)
    | (go_at_call 19; refine (HCB.out _).mono ?_; rintro e wz ⟨rfl, hwz⟩; subst wz)
    | (go_at_call 20; refine (HRB.out _).mono ?_; rintro e wz ⟨rfl, hwz⟩; subst wz))
  have hz9 : Below w6.heap.size w6 wz := And.left (by assumption : Below w6.heap.size w6 wz ∧ wz.cell? ⟨b3, 0, none⟩ = some (.string m) ∧ wz.cell? ⟨b3, 1, none⟩ = some (.string s) ∧ wz.cell? ⟨b3, 2, none⟩ = some (.string a) ∧ wz.cell? ⟨b3, 3, none⟩ = some (.string p) ∧ wz.cell? ⟨b3, 4, none⟩ = some (.slice ao n cap) ∧ wz.cell? ⟨b3, 5, none⟩ = some (.string b) ∧ wz.cell? ⟨b3, 6, none⟩ = some (.slice ta tn tc) ∧ wz.cell? ⟨b4, 0, none⟩ = some (.int .i64 st) ∧ wz.cell? ⟨b4, 1, none⟩ = some (.slice bo n2 bcap) ∧ wz.cell? ⟨b4, 2, none⟩ = some (.string b2) ∧ wz.cell? ⟨b4, 3, none⟩ = some (.slice uo un uc) ∧ wz.cell? ⟨b7, 0, none⟩ = some (.string m) ∧ wz.cell? ⟨b7, 1, none⟩ = some (.string s) ∧ wz.cell? ⟨b7, 2, none⟩ = some (.string a) ∧ wz.cell? ⟨b7, 3, none⟩ = some (.string p) ∧ wz.cell? ⟨b7, 4, none⟩ = some (.slice (some ⟨g1, 0, none⟩) n cap1) ∧ wz.cell? ⟨b7, 5, none⟩ = some (.string b) ∧ wz.cell? ⟨b7, 6, none⟩ = some (.slice ta tn tc))
  have HB7 := hid' (below_two HB6.out hz9)
  have Hb3z := hid' (Hb3.out.keep hz9)
  have Hb4z := hid' (Hb4.out.keep hz9)
  have Hb7z := hid' (Hb7.out.keep hz9)
  have Hb8z := hid' (Hb8.out.keep hz9)
  have HLNz := hid' (HLN6.out.keep hz9)
  have HLMz := hid' (HLM6.out.keep hz9)
  have HLRz := hid' (own_kq HLR6.out hz9)
  have HZZ : Hid (w5.heap.size ≤ wz.heap.size) := hid' (by have := HSZ.out; have := hz9.size; omega)
  clear sOf hS tOf fOf hOf pOf lOf hz9
  go_wp2_with fail
  refine (spoil14 w5.heap.size _ lm _ wz HLRz.out HZZ.out (by rw [← HLM.out]; exact HLL.out)).mono ?_
  rintro e w7 ⟨rfl, hsp⟩
  have hno : ∀ k, k < w5.heap.size → (Value.slice qo lm qc).ownBlock ≠ some k := fun k hk e => by
    have := (own_ty HLRz.out k e).1
    omega
  have HLN7 := hid' (hsp.ln HLNz.out (hno g1 (by have := HSZ.out; omega)))
  have HLM7 := hid' (hsp.ln HLMz.out (hno g2 (by have := HSZ.out; omega)))
  have Hb37 := hid' (SPd.ar hsp Hb3z.out (hno b3 (by have := HSZ.out; omega)))
  have Hb47 := hid' (SPd.ar hsp Hb4z.out (hno b4 (by have := HSZ.out; omega)))
  have Hb77 := hid' (SPd.ar hsp Hb7z.out (hno b7 (by have := HSZ.out; omega)))
  have Hb87 := hid' (SPd.ar hsp Hb8z.out (hno b8 (by have := HSZ.out; omega)))
  have HB8 : Hid (Below w.heap.size w w7) := hid' (hsp.low HB7.out HB7.out.size (fun k hk => by have := (own_ty HLRz.out k hk).1; have := HSZ.out; omega))
  have HK1 := hid' (kept14 _ g1 cap1 (.slice ao n cap) l w7 HLN7.out (H1.out.keep HB8.out) HL1.out)
  rw [HN.out] at HK1
  have q1 := Hb77.out.cell 4 _ rfl
  have q2 := Hb37.out.cell 4 _ rfl
  clear hsp hno
  go_wp2_with fail
  refine (HK1.out).mono ?_
  rintro e w8 ⟨rfl, hb8⟩
  have HB9 := hid' (below_two HB8.out hb8)
  have HLM8 := hid' (HLM7.out.keep hb8)
  have Hb48 := hid' (Hb47.out.keep hb8)
  have Hb88 := hid' (Hb87.out.keep hb8)
  have q3 := Hb88.out.cell 1 _ rfl
  have q4 := Hb48.out.cell 1 _ rfl
  have HK2 := hid' (kept14 _ g2 cap2 (.slice bo n2 bcap) l2 w8 HLM8.out (H2.out.keep HB9.out) HL2.out)
  rw [HN2.out] at HK2
  clear hb8 q1 q2
  go_wp2_with fail
  refine (HK2.out).mono ?_
  rintro e w9 ⟨rfl, hb9⟩
  have HB10 := hid' (below_two HB9.out hb9)
  clear hb9 q3 q4
  go_wp2_with fail
  refine (awake14 w9 (HTB.out.keep HB10.out)).mono ?_
  rintro e w10 ⟨rfl, hb10⟩
  have HB11 := hid' (below_two HB10.out hb10)
  clear hb10
  go_wp2
  go_ret
  exact ⟨rfl, HB11.out⟩

end Go.Proofs.YtkfekopenahmdaaGreatDoor
