import Derived.Test.YtcfbobegbmcbeaaGreatDoorPkAT
import Derived.Test.YtcfbobegbmcbeaaGreatDoorPkBG
namespace Go.Proofs.YtcfbobegbmcbeaaGreatDoor
set_option maxHeartbeats 64000000
open Go.RowKit

namespace Rt
theorem ends_suf (l : T8) : Lib.hasSuffix l [47] = ends l := by
 unfold Lib.hasSuffix ends
 rw [Bool.eq_iff_iff, beq_iff_eq, List.isSuffixOf_iff_suffix, List.getLast?_eq_some_iff]
 constructor
 ·rintro ⟨t, ht⟩; exact ⟨t, ht.symm⟩
 ·rintro ⟨t, ht⟩; exact ⟨t, ht.symm⟩
end Rt
theorem zeroTg18 : (Tryz.prog.info? 137).map (fun i => i.zero) = some (some (.agg #[.slice none 0 0, .bool false])) := by kernel_rfl
theorem sizeTg18 : (Tryz.prog.info? 137).map (·.size) = some 2 := by kernel_rfl
theorem ldTg18 {w : World} {b : Nat} {x0 x1 : Value} (h : Ar w b 137 #[x0, x1]) : (loadVar 137 ⟨b, 0, none⟩).run Tryz.prog w = .ok (.agg #[x0, x1]) w :=
 run_loadVar_row (P := Tryz.prog) w b 137 137 _ (0, 0) _ h Tryz.underlying137 rfl sizeTg18
theorem zeroEn18 : (Tryz.prog.info? 95).map (fun i => i.zero) = some (some (.agg #[.int .i64 0, .slice none 0 0])) := by kernel_rfl
theorem sizeEn18 : (Tryz.prog.info? 95).map (·.size) = some 2 := by kernel_rfl
theorem ldEn18 {w : World} {b : Nat} {x0 x1 : Value} (h : Ar w b 95 #[x0, x1]) : (loadVar 95 ⟨b, 0, none⟩).run Tryz.prog w = .ok (.agg #[x0, x1]) w :=
 run_loadVar_row (P := Tryz.prog) w b 95 95 _ (0, 0) _ h Tryz.underlying95 rfl sizeEn18

theorem ctarget18 (t : ByteArray) (pl : List UInt8) (hpl : t.data.toList = pl) (ht : t.size ≤ 4194304) (w : World) :
  Calls Tryz.prog 56 #[.string t] w fun e w' => (∃ lo m lc, e = .returned (.agg #[.slice lo m lc, .bool (Rt.ends pl)]) ∧ (Pt.parts pl).length = m ∧ w'.ownsRow w.heap.size 9 1 (.slice lo m lc) m (sC17 (Pt.parts pl))) ∧ Below w.heap.size w w' := by
 have HP := hid' (fun W => xparts17 t pl hpl W ht)
 have HS : Hid (∀ W, Calls Tryz.prog 83 #[.string t, .string ⟨#[47]⟩] W fun e w' => e = .returned (.bool (Rt.ends pl)) ∧ w' = W) := hid' (fun W => by
  have := Tryz.strings_HasSuffix t ⟨#[47]⟩ W (by omega)
  rw [hpl, show (⟨#[47]⟩ : ByteArray).data.toList = [47] from rfl, Rt.ends_suf] at this
  exact this)
 generalize Rt.ends pl = en at *
 clear hpl
 go_enter Tryz.func56, Tryz.ntmps56
 go_wp2_with (refine wpl_alloc 137 rfl rfl _ zeroTg18 ?_)
 intro rb w1 hrb ha1 hl1
 have HA1 := hid' ha1
 have HB1 := hid' hl1
 have HRB := hid' hrb
 clear ha1 hl1 hrb
 go_wp2_with fail
 refine (HP.out w1).mono ?_
 rintro e w2 ⟨⟨m, lo, lc, rfl, hm, ho⟩, hb2⟩
 have HM := hid' hm
 have HO := hid' ho
 have HB2 := hid' hb2
 clear hm ho hb2
 go_wp2_with fail
 refine (HS.out w2).mono ?_
 rintro e w3 ⟨rfl, hw3⟩
 subst w3
 have HA2 := hid' (HA1.out.keep HB2.out)
 go_wp2_with (refine wpl_store 137 _ _ rfl rfl rb #[.slice lo m lc, .bool en] (by kernel_rfl) (by kernel_rfl) _ _ HA2.out sizeTg18 rfl (by simp [Value.oneCell']) ?_)
 intro wf hwf huf
 go_wp2
 have hld := ldTg18 hwf
 refine bodyPost_ret (v := .agg #[.slice lo m lc, .bool en]) (by simp [results, Tryz.results56, asAddr, hld]) rfl ⟨⟨lo, m, lc, rfl, HM.out, ?_⟩, ?_⟩
 ·refine own_base17 (own_same HO.out (fun j hj => huf.block j (fun e => ?_))) HB1.out.size
  have h5 := own_ge18 HO.out j hj
  have h6 := HA1.out.lt
  omega
 ·exact (below_two HB1.out HB2.out).trans (huf.below HRB.out)
def selF18 (f : ByteArray → Option En18) (m : ByteArray) : Option En18 := (f m).or ((if m.data.toList == Rt.sHEAD then f ⟨#[71, 69, 84]⟩ else none).or (f ⟨#[]⟩))
def enR18 : Option En18 → Value
 | some e => .tuple #[.agg #[.int .i64 (e.num : Int), .slice e.no e.c e.nc], .bool true]
 | none => .tuple #[.agg #[.int .i64 0, .slice none 0 0], .bool false]

set_option maxRecDepth 20000 in
theorem centry18 (pa : Option Addr) (n pc mb : Nat) (m : ByteArray) (f : ByteArray → Option En18) (k : Nat) (es : Array MapEntry) (clock : Nat) (w : World) (hm : Mp kU18 eU18 w mb f k es clock) :
  Calls Tryz.prog 58 #[.agg #[.slice pa n pc, .map (some mb)], .string m] w fun e w' => e = .returned (enR18 (selF18 f m)) ∧ Below w.heap.size w w' := by
 have hY : ∀ (x : ByteArray) (e : En18) (W : World), f x = some e → Below w.heap.size w W → (Instr.lookup 91 (.map (some mb)) (.string x) true).run Tryz.prog W = .ok (.tuple #[.agg #[.int .i64 (e.num : Int), .slice e.no e.c e.nc], .bool true]) W := fun x e W he hW => (hm.other (hW.block mb hm.lt)).look_yes kyU18 Tryz.underlying91 true he
 have hN : ∀ (x : ByteArray) (W : World), f x = none → Below w.heap.size w W → (Instr.lookup 91 (.map (some mb)) (.string x) true).run Tryz.prog W = .ok (.tuple #[.agg #[.int .i64 0, .slice none 0 0], .bool false]) W := fun x W he hW => (hm.other (hW.block mb hm.lt)).look_no kyU18 Tryz.underlying91 zeroE18 true he
 have HY := hid' hY
 have HN := hid' hN
 clear hY hN hm
 have hhead : (m.toList == [72, 69, 65, 68]) = (m.data.toList == Rt.sHEAD) := by rw [Lib.toList_data]; rfl
 have HSE : Hid (selF18 f m = (f m).or ((if m.data.toList == Rt.sHEAD then f ⟨#[71, 69, 84]⟩ else none).or (f ⟨#[]⟩))) := hid' rfl
 generalize selF18 f m = S at *
 cases h1 : f m with
 | some e =>
  have HSS : Hid (S = some e) := hid' (by rw [HSE.out]; rw [h1]; rfl)
  go_enter Tryz.func58, Tryz.ntmps58
  go_wp2_with (refine wpl_box 93 _ rfl rfl #[.slice pa n pc, .map (some mb)] (by kernel_rfl) ?_)
  intro sb w1 hsb ha1 hl1
  have HA1 := hid' ha1
  have HB1 := hid' hl1
  clear ha1 hl1 hsb
  go_wp2_with (refine wpl_alloc 95 rfl rfl _ zeroEn18 ?_)
  intro rb w2 hrb ha2 hl2
  have HB2 : Hid (Below w.heap.size w w2) := hid' (below_two HB1.out hl2)
  have HAs := hid' (HA1.out.keep hl2)
  have HAr := hid' ha2
  have HRB : Hid (w.heap.size ≤ rb) := hid' (Nat.le_trans HB1.out.size hrb)
  clear ha2 hl2 hrb
  have s2 := HAs.out.cell 1 _ rfl
  have HBl0 := HB2
  have HAr0 := HAr
  have lk0 := HY.out m e w2 h1 HBl0.out
  have HBl1 : Hid (Below w.heap.size w (w2.alloc (.cells #[.int .i64 (e.num : Int), .slice e.no e.c e.nc] 95))) := hid' (HBl0.out.alloc HBl0.out.size _)
  have HAr1 : Hid (Ar (w2.alloc (.cells #[.int .i64 (e.num : Int), .slice e.no e.c e.nc] 95)) rb 95 #[.int .i64 0, .slice none 0 0]) := hid' (HAr0.out.keep (bl_alloc17 _ _))
  have HAs1 : Hid (Ar (w2.alloc (.cells #[.int .i64 (e.num : Int), .slice e.no e.c e.nc] 95)) sb 93 #[.slice pa n pc, .map (some mb)]) := hid' ((HAs).out.keep (bl_alloc17 _ _))
  have s3 : (w2.alloc (.cells #[.int .i64 (e.num : Int), .slice e.no e.c e.nc] 95)).cell? ⟨sb, 1, none⟩ = some (.map (some mb)) := HAs1.out.cell 1 _ rfl
  go_upto_region 3 with fail
  go_wp2_with (refine wpl_store 95 _ _ rfl rfl rb #[.int .i64 (e.num : Int), .slice e.no e.c e.nc] (by kernel_rfl) (by kernel_rfl) _ _ HAr1.out sizeEn18 rfl (by simp [Value.oneCell']) ?_)
  intro wf hwf huf
  go_wp2
  have hld := ldEn18 hwf
  refine bodyPost_ret (v := .tuple #[.agg #[.int .i64 (e.num : Int), .slice e.no e.c e.nc], .bool true]) (by simp [results, Tryz.results58, asAddr, hld]) rfl ⟨by rw [HSS.out]; rfl, HBl1.out.trans (huf.below HRB.out)⟩
 | none =>
  cases h2 : f ⟨#[71, 69, 84]⟩ with
  | some e2 =>
   cases hh : (m.data.toList == Rt.sHEAD)
   ·rw [hh] at hhead
    cases h3 : f ⟨#[]⟩ with
    | some e3 =>
     have HSS : Hid (S = some e3) := hid' (by rw [HSE.out]; rw [h1, hh, h3]; rfl)
     go_enter Tryz.func58, Tryz.ntmps58
     go_wp2_with (refine wpl_box 93 _ rfl rfl #[.slice pa n pc, .map (some mb)] (by kernel_rfl) ?_)
     intro sb w1 hsb ha1 hl1
     have HA1 := hid' ha1
     have HB1 := hid' hl1
     clear ha1 hl1 hsb
     go_wp2_with (refine wpl_alloc 95 rfl rfl _ zeroEn18 ?_)
     intro rb w2 hrb ha2 hl2
     have HB2 : Hid (Below w.heap.size w w2) := hid' (below_two HB1.out hl2)
     have HAs := hid' (HA1.out.keep hl2)
     have HAr := hid' ha2
     have HRB : Hid (w.heap.size ≤ rb) := hid' (Nat.le_trans HB1.out.size hrb)
     clear ha2 hl2 hrb
     have s2 := HAs.out.cell 1 _ rfl
     have HBl0 := HB2
     have HAr0 := HAr
     have lk0 := HN.out m w2 h1 HBl0.out
     have HBl1 : Hid (Below w.heap.size w (w2.alloc (.cells #[.int .i64 0, .slice none 0 0] 95))) := hid' (HBl0.out.alloc HBl0.out.size _)
     have HAr1 : Hid (Ar (w2.alloc (.cells #[.int .i64 0, .slice none 0 0] 95)) rb 95 #[.int .i64 0, .slice none 0 0]) := hid' (HAr0.out.keep (bl_alloc17 _ _))
     have HAs1 : Hid (Ar (w2.alloc (.cells #[.int .i64 0, .slice none 0 0] 95)) sb 93 #[.slice pa n pc, .map (some mb)]) := hid' ((HAs).out.keep (bl_alloc17 _ _))
     have s3 : (w2.alloc (.cells #[.int .i64 0, .slice none 0 0] 95)).cell? ⟨sb, 1, none⟩ = some (.map (some mb)) := HAs1.out.cell 1 _ rfl
     have lk1 := HY.out ⟨#[71, 69, 84]⟩ e2 (w2.alloc (.cells #[.int .i64 0, .slice none 0 0] 95)) h2 HBl1.out
     have HBl2 : Hid (Below w.heap.size w ((w2.alloc (.cells #[.int .i64 0, .slice none 0 0] 95)).alloc (.cells #[.int .i64 (e2.num : Int), .slice e2.no e2.c e2.nc] 95))) := hid' (HBl1.out.alloc HBl1.out.size _)
     have HAr2 : Hid (Ar ((w2.alloc (.cells #[.int .i64 0, .slice none 0 0] 95)).alloc (.cells #[.int .i64 (e2.num : Int), .slice e2.no e2.c e2.nc] 95)) rb 95 #[.int .i64 0, .slice none 0 0]) := hid' (HAr1.out.keep (bl_alloc17 _ _))
     have HAs2 : Hid (Ar ((w2.alloc (.cells #[.int .i64 0, .slice none 0 0] 95)).alloc (.cells #[.int .i64 (e2.num : Int), .slice e2.no e2.c e2.nc] 95)) sb 93 #[.slice pa n pc, .map (some mb)]) := hid' ((HAs1).out.keep (bl_alloc17 _ _))
     have s4 : ((w2.alloc (.cells #[.int .i64 0, .slice none 0 0] 95)).alloc (.cells #[.int .i64 (e2.num : Int), .slice e2.no e2.c e2.nc] 95)).cell? ⟨sb, 1, none⟩ = some (.map (some mb)) := HAs2.out.cell 1 _ rfl
     have lk2 := HY.out ⟨#[]⟩ e3 ((w2.alloc (.cells #[.int .i64 0, .slice none 0 0] 95)).alloc (.cells #[.int .i64 (e2.num : Int), .slice e2.no e2.c e2.nc] 95)) h3 HBl2.out
     have HBl3 : Hid (Below w.heap.size w (((w2.alloc (.cells #[.int .i64 0, .slice none 0 0] 95)).alloc (.cells #[.int .i64 (e2.num : Int), .slice e2.no e2.c e2.nc] 95)).alloc (.cells #[.int .i64 (e3.num : Int), .slice e3.no e3.c e3.nc] 95))) := hid' (HBl2.out.alloc HBl2.out.size _)
     have HAr3 : Hid (Ar (((w2.alloc (.cells #[.int .i64 0, .slice none 0 0] 95)).alloc (.cells #[.int .i64 (e2.num : Int), .slice e2.no e2.c e2.nc] 95)).alloc (.cells #[.int .i64 (e3.num : Int), .slice e3.no e3.c e3.nc] 95)) rb 95 #[.int .i64 0, .slice none 0 0]) := hid' (HAr2.out.keep (bl_alloc17 _ _))
     have HAs3 : Hid (Ar (((w2.alloc (.cells #[.int .i64 0, .slice none 0 0] 95)).alloc (.cells #[.int .i64 (e2.num : Int), .slice e2.no e2.c e2.nc] 95)).alloc (.cells #[.int .i64 (e3.num : Int), .slice e3.no e3.c e3.nc] 95)) sb 93 #[.slice pa n pc, .map (some mb)]) := hid' ((HAs2).out.keep (bl_alloc17 _ _))
     have s5 : (((w2.alloc (.cells #[.int .i64 0, .slice none 0 0] 95)).alloc (.cells #[.int .i64 (e2.num : Int), .slice e2.no e2.c e2.nc] 95)).alloc (.cells #[.int .i64 (e3.num : Int), .slice e3.no e3.c e3.nc] 95)).cell? ⟨sb, 1, none⟩ = some (.map (some mb)) := HAs3.out.cell 1 _ rfl
     go_upto_region 8 with fail
     go_wp2_with (refine wpl_store 95 _ _ rfl rfl rb #[.int .i64 (e3.num : Int), .slice e3.no e3.c e3.nc] (by kernel_rfl) (by kernel_rfl) _ _ HAr3.out sizeEn18 rfl (by simp [Value.oneCell']) ?_)
     intro wf hwf huf
     go_wp2
     have hld := ldEn18 hwf
     refine bodyPost_ret (v := .tuple #[.agg #[.int .i64 (e3.num : Int), .slice e3.no e3.c e3.nc], .bool true]) (by simp [results, Tryz.results58, asAddr, hld]) rfl ⟨by rw [HSS.out]; rfl, HBl3.out.trans (huf.below HRB.out)⟩
    | none =>
     have HSS : Hid (S = none) := hid' (by rw [HSE.out]; rw [h1, hh, h3]; rfl)
     go_enter Tryz.func58, Tryz.ntmps58
     go_wp2_with (refine wpl_box 93 _ rfl rfl #[.slice pa n pc, .map (some mb)] (by kernel_rfl) ?_)
     intro sb w1 hsb ha1 hl1
     have HA1 := hid' ha1
     have HB1 := hid' hl1
     clear ha1 hl1 hsb
     go_wp2_with (refine wpl_alloc 95 rfl rfl _ zeroEn18 ?_)
     intro rb w2 hrb ha2 hl2
     have HB2 : Hid (Below w.heap.size w w2) := hid' (below_two HB1.out hl2)
     have HAs := hid' (HA1.out.keep hl2)
     have HAr := hid' ha2
     have HRB : Hid (w.heap.size ≤ rb) := hid' (Nat.le_trans HB1.out.size hrb)
     clear ha2 hl2 hrb
     have s2 := HAs.out.cell 1 _ rfl
     have HBl0 := HB2
     have HAr0 := HAr
     have lk0 := HN.out m w2 h1 HBl0.out
     have HBl1 : Hid (Below w.heap.size w (w2.alloc (.cells #[.int .i64 0, .slice none 0 0] 95))) := hid' (HBl0.out.alloc HBl0.out.size _)
     have HAr1 : Hid (Ar (w2.alloc (.cells #[.int .i64 0, .slice none 0 0] 95)) rb 95 #[.int .i64 0, .slice none 0 0]) := hid' (HAr0.out.keep (bl_alloc17 _ _))
     have HAs1 : Hid (Ar (w2.alloc (.cells #[.int .i64 0, .slice none 0 0] 95)) sb 93 #[.slice pa n pc, .map (some mb)]) := hid' ((HAs).out.keep (bl_alloc17 _ _))
     have s3 : (w2.alloc (.cells #[.int .i64 0, .slice none 0 0] 95)).cell? ⟨sb, 1, none⟩ = some (.map (some mb)) := HAs1.out.cell 1 _ rfl
     have lk1 := HY.out ⟨#[71, 69, 84]⟩ e2 (w2.alloc (.cells #[.int .i64 0, .slice none 0 0] 95)) h2 HBl1.out
     have HBl2 : Hid (Below w.heap.size w ((w2.alloc (.cells #[.int .i64 0, .slice none 0 0] 95)).alloc (.cells #[.int .i64 (e2.num : Int), .slice e2.no e2.c e2.nc] 95))) := hid' (HBl1.out.alloc HBl1.out.size _)
     have HAr2 : Hid (Ar ((w2.alloc (.cells #[.int .i64 0, .slice none 0 0] 95)).alloc (.cells #[.int .i64 (e2.num : Int), .slice e2.no e2.c e2.nc] 95)) rb 95 #[.int .i64 0, .slice none 0 0]) := hid' (HAr1.out.keep (bl_alloc17 _ _))
     have HAs2 : Hid (Ar ((w2.alloc (.cells #[.int .i64 0, .slice none 0 0] 95)).alloc (.cells #[.int .i64 (e2.num : Int), .slice e2.no e2.c e2.nc] 95)) sb 93 #[.slice pa n pc, .map (some mb)]) := hid' ((HAs1).out.keep (bl_alloc17 _ _))
     have s4 : ((w2.alloc (.cells #[.int .i64 0, .slice none 0 0] 95)).alloc (.cells #[.int .i64 (e2.num : Int), .slice e2.no e2.c e2.nc] 95)).cell? ⟨sb, 1, none⟩ = some (.map (some mb)) := HAs2.out.cell 1 _ rfl
     have lk2 := HN.out ⟨#[]⟩ ((w2.alloc (.cells #[.int .i64 0, .slice none 0 0] 95)).alloc (.cells #[.int .i64 (e2.num : Int), .slice e2.no e2.c e2.nc] 95)) h3 HBl2.out
     have HBl3 : Hid (Below w.heap.size w (((w2.alloc (.cells #[.int .i64 0, .slice none 0 0] 95)).alloc (.cells #[.int .i64 (e2.num : Int), .slice e2.no e2.c e2.nc] 95)).alloc (.cells #[.int .i64 0, .slice none 0 0] 95))) := hid' (HBl2.out.alloc HBl2.out.size _)
     have HAr3 : Hid (Ar (((w2.alloc (.cells #[.int .i64 0, .slice none 0 0] 95)).alloc (.cells #[.int .i64 (e2.num : Int), .slice e2.no e2.c e2.nc] 95)).alloc (.cells #[.int .i64 0, .slice none 0 0] 95)) rb 95 #[.int .i64 0, .slice none 0 0]) := hid' (HAr2.out.keep (bl_alloc17 _ _))
     have HAs3 : Hid (Ar (((w2.alloc (.cells #[.int .i64 0, .slice none 0 0] 95)).alloc (.cells #[.int .i64 (e2.num : Int), .slice e2.no e2.c e2.nc] 95)).alloc (.cells #[.int .i64 0, .slice none 0 0] 95)) sb 93 #[.slice pa n pc, .map (some mb)]) := hid' ((HAs2).out.keep (bl_alloc17 _ _))
     have s5 : (((w2.alloc (.cells #[.int .i64 0, .slice none 0 0] 95)).alloc (.cells #[.int .i64 (e2.num : Int), .slice e2.no e2.c e2.nc] 95)).alloc (.cells #[.int .i64 0, .slice none 0 0] 95)).cell? ⟨sb, 1, none⟩ = some (.map (some mb)) := HAs3.out.cell 1 _ rfl
     go_upto_region 8 with fail
     go_wp2_with (refine wpl_store 95 _ _ rfl rfl rb #[.int .i64 0, .slice none 0 0] (by kernel_rfl) (by kernel_rfl) _ _ HAr3.out sizeEn18 rfl (by simp [Value.oneCell']) ?_)
     intro wf hwf huf
     go_wp2
     have hld := ldEn18 hwf
     refine bodyPost_ret (v := .tuple #[.agg #[.int .i64 0, .slice none 0 0], .bool false]) (by simp [results, Tryz.results58, asAddr, hld]) rfl ⟨by rw [HSS.out]; rfl, HBl3.out.trans (huf.below HRB.out)⟩
   ·rw [hh] at hhead
    have HSS : Hid (S = some e2) := hid' (by rw [HSE.out]; rw [h1, hh, h2]; rfl)
    go_enter Tryz.func58, Tryz.ntmps58
    go_wp2_with (refine wpl_box 93 _ rfl rfl #[.slice pa n pc, .map (some mb)] (by kernel_rfl) ?_)
    intro sb w1 hsb ha1 hl1
    have HA1 := hid' ha1
    have HB1 := hid' hl1
    clear ha1 hl1 hsb
    go_wp2_with (refine wpl_alloc 95 rfl rfl _ zeroEn18 ?_)
    intro rb w2 hrb ha2 hl2
    have HB2 : Hid (Below w.heap.size w w2) := hid' (below_two HB1.out hl2)
    have HAs := hid' (HA1.out.keep hl2)
    have HAr := hid' ha2
    have HRB : Hid (w.heap.size ≤ rb) := hid' (Nat.le_trans HB1.out.size hrb)
    clear ha2 hl2 hrb
    have s2 := HAs.out.cell 1 _ rfl
    have HBl0 := HB2
    have HAr0 := HAr
    have lk0 := HN.out m w2 h1 HBl0.out
    have HBl1 : Hid (Below w.heap.size w (w2.alloc (.cells #[.int .i64 0, .slice none 0 0] 95))) := hid' (HBl0.out.alloc HBl0.out.size _)
    have HAr1 : Hid (Ar (w2.alloc (.cells #[.int .i64 0, .slice none 0 0] 95)) rb 95 #[.int .i64 0, .slice none 0 0]) := hid' (HAr0.out.keep (bl_alloc17 _ _))
    have HAs1 : Hid (Ar (w2.alloc (.cells #[.int .i64 0, .slice none 0 0] 95)) sb 93 #[.slice pa n pc, .map (some mb)]) := hid' ((HAs).out.keep (bl_alloc17 _ _))
    have s3 : (w2.alloc (.cells #[.int .i64 0, .slice none 0 0] 95)).cell? ⟨sb, 1, none⟩ = some (.map (some mb)) := HAs1.out.cell 1 _ rfl
    have lk1 := HY.out ⟨#[71, 69, 84]⟩ e2 (w2.alloc (.cells #[.int .i64 0, .slice none 0 0] 95)) h2 HBl1.out
    have HBl2 : Hid (Below w.heap.size w ((w2.alloc (.cells #[.int .i64 0, .slice none 0 0] 95)).alloc (.cells #[.int .i64 (e2.num : Int), .slice e2.no e2.c e2.nc] 95))) := hid' (HBl1.out.alloc HBl1.out.size _)
    have HAr2 : Hid (Ar ((w2.alloc (.cells #[.int .i64 0, .slice none 0 0] 95)).alloc (.cells #[.int .i64 (e2.num : Int), .slice e2.no e2.c e2.nc] 95)) rb 95 #[.int .i64 0, .slice none 0 0]) := hid' (HAr1.out.keep (bl_alloc17 _ _))
    have HAs2 : Hid (Ar ((w2.alloc (.cells #[.int .i64 0, .slice none 0 0] 95)).alloc (.cells #[.int .i64 (e2.num : Int), .slice e2.no e2.c e2.nc] 95)) sb 93 #[.slice pa n pc, .map (some mb)]) := hid' ((HAs1).out.keep (bl_alloc17 _ _))
    have s4 : ((w2.alloc (.cells #[.int .i64 0, .slice none 0 0] 95)).alloc (.cells #[.int .i64 (e2.num : Int), .slice e2.no e2.c e2.nc] 95)).cell? ⟨sb, 1, none⟩ = some (.map (some mb)) := HAs2.out.cell 1 _ rfl
    go_upto_region 6 with fail
    go_wp2_with (refine wpl_store 95 _ _ rfl rfl rb #[.int .i64 (e2.num : Int), .slice e2.no e2.c e2.nc] (by kernel_rfl) (by kernel_rfl) _ _ HAr2.out sizeEn18 rfl (by simp [Value.oneCell']) ?_)
    intro wf hwf huf
    go_wp2
    have hld := ldEn18 hwf
    refine bodyPost_ret (v := .tuple #[.agg #[.int .i64 (e2.num : Int), .slice e2.no e2.c e2.nc], .bool true]) (by simp [results, Tryz.results58, asAddr, hld]) rfl ⟨by rw [HSS.out]; rfl, HBl2.out.trans (huf.below HRB.out)⟩
  | none =>
   cases h3 : f ⟨#[]⟩ with
   | some e3 =>
    have HSS : Hid (S = some e3) := hid' (by rw [HSE.out]; rw [h1, h2, h3]; cases (m.data.toList == Rt.sHEAD) <;> rfl)
    go_enter Tryz.func58, Tryz.ntmps58
    go_wp2_with (refine wpl_box 93 _ rfl rfl #[.slice pa n pc, .map (some mb)] (by kernel_rfl) ?_)
    intro sb w1 hsb ha1 hl1
    have HA1 := hid' ha1
    have HB1 := hid' hl1
    clear ha1 hl1 hsb
    go_wp2_with (refine wpl_alloc 95 rfl rfl _ zeroEn18 ?_)
    intro rb w2 hrb ha2 hl2
    have HB2 : Hid (Below w.heap.size w w2) := hid' (below_two HB1.out hl2)
    have HAs := hid' (HA1.out.keep hl2)
    have HAr := hid' ha2
    have HRB : Hid (w.heap.size ≤ rb) := hid' (Nat.le_trans HB1.out.size hrb)
    clear ha2 hl2 hrb
    have s2 := HAs.out.cell 1 _ rfl
    have HBl0 := HB2
    have HAr0 := HAr
    have lk0 := HN.out m w2 h1 HBl0.out
    have HBl1 : Hid (Below w.heap.size w (w2.alloc (.cells #[.int .i64 0, .slice none 0 0] 95))) := hid' (HBl0.out.alloc HBl0.out.size _)
    have HAr1 : Hid (Ar (w2.alloc (.cells #[.int .i64 0, .slice none 0 0] 95)) rb 95 #[.int .i64 0, .slice none 0 0]) := hid' (HAr0.out.keep (bl_alloc17 _ _))
    have HAs1 : Hid (Ar (w2.alloc (.cells #[.int .i64 0, .slice none 0 0] 95)) sb 93 #[.slice pa n pc, .map (some mb)]) := hid' ((HAs).out.keep (bl_alloc17 _ _))
    have s3 : (w2.alloc (.cells #[.int .i64 0, .slice none 0 0] 95)).cell? ⟨sb, 1, none⟩ = some (.map (some mb)) := HAs1.out.cell 1 _ rfl
    have lk1 := HN.out ⟨#[71, 69, 84]⟩ (w2.alloc (.cells #[.int .i64 0, .slice none 0 0] 95)) h2 HBl1.out
    have HBl2 : Hid (Below w.heap.size w ((w2.alloc (.cells #[.int .i64 0, .slice none 0 0] 95)).alloc (.cells #[.int .i64 0, .slice none 0 0] 95))) := hid' (HBl1.out.alloc HBl1.out.size _)
    have HAr2 : Hid (Ar ((w2.alloc (.cells #[.int .i64 0, .slice none 0 0] 95)).alloc (.cells #[.int .i64 0, .slice none 0 0] 95)) rb 95 #[.int .i64 0, .slice none 0 0]) := hid' (HAr1.out.keep (bl_alloc17 _ _))
    have HAs2 : Hid (Ar ((w2.alloc (.cells #[.int .i64 0, .slice none 0 0] 95)).alloc (.cells #[.int .i64 0, .slice none 0 0] 95)) sb 93 #[.slice pa n pc, .map (some mb)]) := hid' ((HAs1).out.keep (bl_alloc17 _ _))
    have s4 : ((w2.alloc (.cells #[.int .i64 0, .slice none 0 0] 95)).alloc (.cells #[.int .i64 0, .slice none 0 0] 95)).cell? ⟨sb, 1, none⟩ = some (.map (some mb)) := HAs2.out.cell 1 _ rfl
    have lk2 := HY.out ⟨#[]⟩ e3 ((w2.alloc (.cells #[.int .i64 0, .slice none 0 0] 95)).alloc (.cells #[.int .i64 0, .slice none 0 0] 95)) h3 HBl2.out
    have HBl3 : Hid (Below w.heap.size w (((w2.alloc (.cells #[.int .i64 0, .slice none 0 0] 95)).alloc (.cells #[.int .i64 0, .slice none 0 0] 95)).alloc (.cells #[.int .i64 (e3.num : Int), .slice e3.no e3.c e3.nc] 95))) := hid' (HBl2.out.alloc HBl2.out.size _)
    have HAr3 : Hid (Ar (((w2.alloc (.cells #[.int .i64 0, .slice none 0 0] 95)).alloc (.cells #[.int .i64 0, .slice none 0 0] 95)).alloc (.cells #[.int .i64 (e3.num : Int), .slice e3.no e3.c e3.nc] 95)) rb 95 #[.int .i64 0, .slice none 0 0]) := hid' (HAr2.out.keep (bl_alloc17 _ _))
    have HAs3 : Hid (Ar (((w2.alloc (.cells #[.int .i64 0, .slice none 0 0] 95)).alloc (.cells #[.int .i64 0, .slice none 0 0] 95)).alloc (.cells #[.int .i64 (e3.num : Int), .slice e3.no e3.c e3.nc] 95)) sb 93 #[.slice pa n pc, .map (some mb)]) := hid' ((HAs2).out.keep (bl_alloc17 _ _))
    have s5 : (((w2.alloc (.cells #[.int .i64 0, .slice none 0 0] 95)).alloc (.cells #[.int .i64 0, .slice none 0 0] 95)).alloc (.cells #[.int .i64 (e3.num : Int), .slice e3.no e3.c e3.nc] 95)).cell? ⟨sb, 1, none⟩ = some (.map (some mb)) := HAs3.out.cell 1 _ rfl
    go_upto_region 8 with fail
    go_wp2_with (refine wpl_store 95 _ _ rfl rfl rb #[.int .i64 (e3.num : Int), .slice e3.no e3.c e3.nc] (by kernel_rfl) (by kernel_rfl) _ _ HAr3.out sizeEn18 rfl (by simp [Value.oneCell']) ?_)
    intro wf hwf huf
    go_wp2
    have hld := ldEn18 hwf
    refine bodyPost_ret (v := .tuple #[.agg #[.int .i64 (e3.num : Int), .slice e3.no e3.c e3.nc], .bool true]) (by simp [results, Tryz.results58, asAddr, hld]) rfl ⟨by rw [HSS.out]; rfl, HBl3.out.trans (huf.below HRB.out)⟩
   | none =>
    have HSS : Hid (S = none) := hid' (by rw [HSE.out]; rw [h1, h2, h3]; cases (m.data.toList == Rt.sHEAD) <;> rfl)
    go_enter Tryz.func58, Tryz.ntmps58
    go_wp2_with (refine wpl_box 93 _ rfl rfl #[.slice pa n pc, .map (some mb)] (by kernel_rfl) ?_)
    intro sb w1 hsb ha1 hl1
    have HA1 := hid' ha1
    have HB1 := hid' hl1
    clear ha1 hl1 hsb
    go_wp2_with (refine wpl_alloc 95 rfl rfl _ zeroEn18 ?_)
    intro rb w2 hrb ha2 hl2
    have HB2 : Hid (Below w.heap.size w w2) := hid' (below_two HB1.out hl2)
    have HAs := hid' (HA1.out.keep hl2)
    have HAr := hid' ha2
    have HRB : Hid (w.heap.size ≤ rb) := hid' (Nat.le_trans HB1.out.size hrb)
    clear ha2 hl2 hrb
    have s2 := HAs.out.cell 1 _ rfl
    have HBl0 := HB2
    have HAr0 := HAr
    have lk0 := HN.out m w2 h1 HBl0.out
    have HBl1 : Hid (Below w.heap.size w (w2.alloc (.cells #[.int .i64 0, .slice none 0 0] 95))) := hid' (HBl0.out.alloc HBl0.out.size _)
    have HAr1 : Hid (Ar (w2.alloc (.cells #[.int .i64 0, .slice none 0 0] 95)) rb 95 #[.int .i64 0, .slice none 0 0]) := hid' (HAr0.out.keep (bl_alloc17 _ _))
    have HAs1 : Hid (Ar (w2.alloc (.cells #[.int .i64 0, .slice none 0 0] 95)) sb 93 #[.slice pa n pc, .map (some mb)]) := hid' ((HAs).out.keep (bl_alloc17 _ _))
    have s3 : (w2.alloc (.cells #[.int .i64 0, .slice none 0 0] 95)).cell? ⟨sb, 1, none⟩ = some (.map (some mb)) := HAs1.out.cell 1 _ rfl
    have lk1 := HN.out ⟨#[71, 69, 84]⟩ (w2.alloc (.cells #[.int .i64 0, .slice none 0 0] 95)) h2 HBl1.out
    have HBl2 : Hid (Below w.heap.size w ((w2.alloc (.cells #[.int .i64 0, .slice none 0 0] 95)).alloc (.cells #[.int .i64 0, .slice none 0 0] 95))) := hid' (HBl1.out.alloc HBl1.out.size _)
    have HAr2 : Hid (Ar ((w2.alloc (.cells #[.int .i64 0, .slice none 0 0] 95)).alloc (.cells #[.int .i64 0, .slice none 0 0] 95)) rb 95 #[.int .i64 0, .slice none 0 0]) := hid' (HAr1.out.keep (bl_alloc17 _ _))
    have HAs2 : Hid (Ar ((w2.alloc (.cells #[.int .i64 0, .slice none 0 0] 95)).alloc (.cells #[.int .i64 0, .slice none 0 0] 95)) sb 93 #[.slice pa n pc, .map (some mb)]) := hid' ((HAs1).out.keep (bl_alloc17 _ _))
    have s4 : ((w2.alloc (.cells #[.int .i64 0, .slice none 0 0] 95)).alloc (.cells #[.int .i64 0, .slice none 0 0] 95)).cell? ⟨sb, 1, none⟩ = some (.map (some mb)) := HAs2.out.cell 1 _ rfl
    have lk2 := HN.out ⟨#[]⟩ ((w2.alloc (.cells #[.int .i64 0, .slice none 0 0] 95)).alloc (.cells #[.int .i64 0, .slice none 0 0] 95)) h3 HBl2.out
    have HBl3 : Hid (Below w.heap.size w (((w2.alloc (.cells #[.int .i64 0, .slice none 0 0] 95)).alloc (.cells #[.int .i64 0, .slice none 0 0] 95)).alloc (.cells #[.int .i64 0, .slice none 0 0] 95))) := hid' (HBl2.out.alloc HBl2.out.size _)
    have HAr3 : Hid (Ar (((w2.alloc (.cells #[.int .i64 0, .slice none 0 0] 95)).alloc (.cells #[.int .i64 0, .slice none 0 0] 95)).alloc (.cells #[.int .i64 0, .slice none 0 0] 95)) rb 95 #[.int .i64 0, .slice none 0 0]) := hid' (HAr2.out.keep (bl_alloc17 _ _))
    have HAs3 : Hid (Ar (((w2.alloc (.cells #[.int .i64 0, .slice none 0 0] 95)).alloc (.cells #[.int .i64 0, .slice none 0 0] 95)).alloc (.cells #[.int .i64 0, .slice none 0 0] 95)) sb 93 #[.slice pa n pc, .map (some mb)]) := hid' ((HAs2).out.keep (bl_alloc17 _ _))
    have s5 : (((w2.alloc (.cells #[.int .i64 0, .slice none 0 0] 95)).alloc (.cells #[.int .i64 0, .slice none 0 0] 95)).alloc (.cells #[.int .i64 0, .slice none 0 0] 95)).cell? ⟨sb, 1, none⟩ = some (.map (some mb)) := HAs3.out.cell 1 _ rfl
    go_upto_region 8 with fail
    go_wp2_with (refine wpl_store 95 _ _ rfl rfl rb #[.int .i64 0, .slice none 0 0] (by kernel_rfl) (by kernel_rfl) _ _ HAr3.out sizeEn18 rfl (by simp [Value.oneCell']) ?_)
    intro wf hwf huf
    go_wp2
    have hld := ldEn18 hwf
    refine bodyPost_ret (v := .tuple #[.agg #[.int .i64 0, .slice none 0 0], .bool false]) (by simp [results, Tryz.results58, asAddr, hld]) rfl ⟨by rw [HSS.out]; rfl, HBl3.out.trans (huf.below HRB.out)⟩

end Go.Proofs.YtcfbobegbmcbeaaGreatDoor
