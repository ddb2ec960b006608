import Derived.Test.YtcfbobegbmcbeaaGreatDoorPkAT
import Derived.Test.YtcfbobegbmcbeaaGreatDoorPkBF
namespace Go.Proofs.YtcfbobegbmcbeaaGreatDoor
set_option maxHeartbeats 64000000
open Go.RowKit
open Go.ChangeMaps (setBlock heap_setBlock_same heap_setBlock_other)

theorem infoSh18 : (Tryz.prog.info? 93).map (fun i => (i.zero, i.size, i.bytes)) = some (some (.agg #[.slice none 0 0, .map none]), 2, 32) := by kernel_rfl
def RT18 (w : World) (B b : Nat) (rs : List Rt.Ro) : Prop := ∃ so sn sc l, RN18 w B b so sn sc l rs rs.length ∧ Rt.Rep rs (l.map (·.rep)) ∧ rs.length ≤ 256 ∧ (∀ r ∈ rs, r.p.length ≤ 4194304 ∧ r.m.length ≤ 4194304) ∧ sn ≤ 256
theorem RT18.keep {w w' : World} {B b : Nat} {rs : List Rt.Ro} (h : RT18 w B b rs) (hb : ∀ k, B ≤ k → k < w.heap.size → w'.heap[k]? = w.heap[k]?) : RT18 w' B b rs := by
 obtain ⟨so, sn, sc, l, h1, h2⟩ := h
 exact ⟨so, sn, sc, l, h1.keep (X := w.heap.size) (fun k h1 h2 _ => hb k h1 h2) (fun cs e he => by have := (Array.getElem?_eq_some_iff.1 he).1; omega) (fun s hs => by have := (h1.shp s hs).lt; omega), h2⟩
theorem RT18.below {w w' : World} {B b : Nat} {rs : List Rt.Ro} (h : RT18 w B b rs) (hb : Below w.heap.size w w') : RT18 w' B b rs := h.keep (fun k _ hk => hb.block k hk)
def newR18 (w : World) (rs : List Rt.Ro) (e : Ending) (w' : World) : Prop := (((Rt.check rs == 0) = false) ∧ e = .returned (.tuple #[.pointer none, .int .i64 (Rt.check rs)])) ∨ (Rt.check rs = 0 ∧ ∃ b, e = .returned (.tuple #[.pointer (some ⟨b, 0, none⟩), .int .i64 0]) ∧ w.heap.size ≤ b ∧ b < w'.heap.size ∧ RT18 w' w.heap.size b rs)
theorem newR18_no {w w' : World} {rs : List Rt.Ro} {q : Int} (h : Rt.check rs = q) (hq : (q == 0) = false) : newR18 w rs (.returned (.tuple #[.pointer none, .int .i64 q])) w' := .inl ⟨by rw [h]; exact hq, by rw [h]⟩
theorem upd_block18 (w : World) (m : Nat) (o : Obj) : Upd m w (setBlock w m o) :=
 ⟨rfl, rfl, rfl, by simp [setBlock], fun k hk => by simp only [setBlock]; exact Array.getElem?_setIfInBounds_ne (fun e => hk e.symm)⟩

set_option maxRecDepth 20000 in
theorem cnew18 (ao : Option Addr) (n cap : Nat) (l : List Fr18) (hn : l.length = n) (hnb : n ≤ 4194305) (hbd : BD18 l) (w : World) (h : RW18 w (.slice ao n cap) l) :
  Calls Tryz.prog 17 #[.slice ao n cap] w fun e w' => newR18 w (l.map (·.1)) e w' ∧ Below w.heap.size w w' := by
 obtain ⟨rs, hrs⟩ : ∃ rs, l.map (·.1) = rs := ⟨_, rfl⟩
 have hrl : rs.length = n := by rw [← hrs, List.length_map]; exact hn
 rw [hrs]
 have H := hid' h
 have HN := hid' hn
 have HBD := hid' hbd
 have HRL := hid' hrl
 have HRS : Hid (∀ (i : Nat) (p : Fr18), l[i]? = some p → rs[i]? = some p.1) := hid' (fun i p hp => by rw [← hrs, List.getElem?_map, hp]; rfl)
 have HRB : Hid (∀ r ∈ rs, r.p.length ≤ 4194304 ∧ r.m.length ≤ 4194304) := hid' (fun r hr => by
  rw [← hrs] at hr
  obtain ⟨x, hx, rfl⟩ := List.mem_map.1 hr
  exact hbd x hx)
 clear h hn hbd hrl hrs
 by_cases hm : 256 < n
 ·have hmI : (256 : Int) < (n : Int) := by omega
  have HCK : Hid (Rt.check rs = 4) := hid' (by unfold Rt.check; rw [HRL.out, if_pos hm])
  clear hm
  go_enter Tryz.func17, Tryz.ntmps17
  go_wp2
  go_ret2
  exact ⟨newR18_no HCK.out rfl, Below.refl _ _⟩
 ·have hmI : ¬ (256 : Int) < (n : Int) := by omega
  have HCK : Hid (Rt.check rs = Rt.chk [] rs) := hid' (by unfold Rt.check; rw [HRL.out, if_neg hm])
  obtain ⟨wa, hwa⟩ : ∃ wa, w.alloc (.cells #[.slice none 0 0] 83) = wa := ⟨_, rfl⟩
  obtain ⟨wb, hwb⟩ : ∃ wb, wa.alloc (.map #[] 0) = wb := ⟨_, rfl⟩
  have hsa : wa.heap.size = w.heap.size + 1 := by rw [← hwa]; simp
  have hAa : Ar wa w.heap.size 83 #[.slice none 0 0] := by rw [← hwa]; exact heap_alloc_last w _
  have HB0 : Hid (Below w.heap.size w wb) := hid' (by rw [← hwb, ← hwa]; exact ((Below.refl _ w).alloc (Nat.le_refl _) _).alloc (by simp) _)
  have HR0 : Hid (RN18 wb w.heap.size w.heap.size none 0 0 [] rs 0) := hid' ⟨hAa.keep (by rw [← hwb]; exact bl_alloc17 wa _), Nat.le_refl _, World.ownsRow_nil _ _ _ _, rfl, fun s hs => by simp at hs, List.Pairwise.nil⟩
  have HP0 : Hid (PL18 wb w.heap.size (w.heap.size + 1) [] (fun _ => none) 0 #[] 0) := hid' ⟨by rw [← hwb, ← hsa]; exact Mp.made wa kU18 iU18, by omega, fun key j => ⟨(fun h => by cases h), (fun ⟨s, hs, _⟩ => by simp at hs)⟩, fun s hs => by simp at hs⟩
  have hmm := @run_makeMap Tryz.prog
  obtain ⟨pb, hpb⟩ : ∃ pb, wa.heap.size = pb := ⟨_, rfl⟩
  have hpbe : w.heap.size + 1 = pb := by rw [← hpb, hsa]
  rw [hpbe] at HP0
  obtain ⟨B, hB⟩ : ∃ B, w.heap.size = B := ⟨_, rfl⟩
  have HBB := hid' hB
  rw [hB] at HB0 HR0 HP0
  have HPB : Hid (B ≠ pb) := hid' (by omega)
  clear hAa hsa hpbe hm
  go_enter Tryz.func17, Tryz.ntmps17
  go_wp2
  clear hwa hwb hpb
  go_loopw [25] (fun s25 wr => ∃ (i sn sc k ck : Nat) (so : Option Addr) (sl : List Sh18) (f : ByteArray → Option Nat) (es : Array MapEntry), s25 = .int .i64 (i : Int) ∧ i ≤ n ∧ Hid (RN18 wr B B so sn sc sl rs i) ∧ Hid (PL18 wr B pb sl f k es ck) ∧ Hid (Rt.Rep (rs.take i) (sl.map (·.rep))) ∧ Hid (Rt.chk [] rs = Rt.chk (rs.take i) (rs.drop i)) ∧ Hid (sn ≤ i) ∧ Hid (Below B w wr)) (fun s25 _ => n - (intOf s25).toNat)
  case atStart => exact ⟨0, 0, 0, 0, 0, none, [], _, #[], rfl, Nat.zero_le _, HR0, HP0, hid' ⟨fun p hp => by simp at hp, fun r hr => by simp at hr, List.Pairwise.nil⟩, hid' (by simp), hid' (Nat.le_refl _), HB0⟩
  case round =>
   obtain ⟨i, sn, sc, k, ck, so, sl, f, es, rfl, hi, HR, HP, HRP, HCH, HSN, HB1⟩ := hrel
   by_cases hlt : i < n
   ·have hlt2 : (i : Int) < (n : Int) := by omega
    obtain ⟨p, hp⟩ : ∃ p, l[i]? = some p := ⟨_, List.getElem?_eq_getElem (by rw [HN.out]; exact hlt)⟩
    obtain ⟨a, rfl, al, c0, c1, c2, c3⟩ := (H.out.keep (by rw [HBB.out]; exact HB1.out)).four i p hp
    obtain ⟨r, hr⟩ : ∃ r, p.1 = r := ⟨_, rfl⟩
    obtain ⟨pm, hpm⟩ : ∃ z : ByteArray, (⟨p.1.m.toArray⟩ : ByteArray) = z := ⟨_, rfl⟩
    obtain ⟨pp, hpp⟩ : ∃ z : ByteArray, (⟨p.1.p.toArray⟩ : ByteArray) = z := ⟨_, rfl⟩
    rw [hpm] at c0
    rw [hpp] at c1
    rw [hr] at c2 hpm hpp
    have HRI : Hid (rs[i]? = some r) := hid' (by rw [← hr]; exact HRS.out i p hp)
    have hrb := HRB.out r (List.mem_of_getElem? HRI.out)
    have hpml : pm.data.toList = r.m := by rw [← hpm]
    have hppl : pp.data.toList = r.p := by rw [← hpp]
    have hpms : pm.size ≤ 4194304 := by rw [Lib.size_eq, hpml]; exact hrb.2
    have hpps : pp.size ≤ 4194304 := by rw [Lib.size_eq, hppl]; exact hrb.1
    have HPML := hid' hpml
    have HCA : Hid (Rt.check rs = if Rt.badRo r then 180 else if Rt.twice (rs.take i) r then 181 else Rt.chk (rs.take (i + 1)) (rs.drop (i + 1))) := hid' (by rw [HCK.out, HCH.out, Rt.chk_at HRI.out])
    obtain ⟨w1, hw1⟩ : ∃ w1, wr.alloc (.cells #[.string pm, .string pp, .int .u8 r.h, .string p.2] 32) = w1 := ⟨_, rfl⟩
    have HX1 : Hid (Ar w1 wr.heap.size 32 #[.string pm, .string pp, .int .u8 r.h, .string p.2]) := hid' (by rw [← hw1]; exact heap_alloc_last wr _)
    have hb1 : Below wr.heap.size wr w1 := by rw [← hw1]; exact bl_alloc17 wr _
    have HR1 := hid' (HR.out.below hb1)
    have HP1 := hid' (HP.out.below hb1)
    have HBw1 : Hid (Below B w w1) := hid' (HB1.out.trans (hb1.mono (by rw [← HBB.out]; exact HB1.out.size)))
    obtain ⟨xb, hxb⟩ : ∃ xb, wr.heap.size = xb := ⟨_, rfl⟩
    rw [hxb] at HX1
    have HPS := hid' (cparse18 pp r.p hppl w1 hpps)
    have HMT := hid' (fun W => cmeth18 pm r.m hpml W hpms)
    have HHD := hid' (fun W => chand18 r.h W)
    have HBA := hid' (Rt.bad_def r)
    have x1 := HX1.out.cell 1 _ rfl
    clear hp hr hpm hpp hpml hppl hpms hpps hrb hb1 al
    go_wp2_with fail
    refine HPS.out.mono ?_
    rintro e w2 ⟨⟨pa, pn, pc, no, c, nc, is, rfl, his, hps⟩, hb2⟩
    have HIS := hid' his
    have HPSs := hid' hps
    have HX2 := hid' (HX1.out.keep hb2)
    have HR2 := hid' (HR1.out.below hb2)
    have HP2 := hid' (HP1.out.below hb2)
    have HBw2 : Hid (Below B w w2) := hid' (HBw1.out.trans (hb2.mono (by rw [← HBB.out]; exact HBw1.out.size)))
    have HW1s : Hid (B ≤ w1.heap.size) := hid' (by rw [← HBB.out]; exact HBw1.out.size)
    have HB2 := hid' hb2
    have x20 := HX2.out.cell 0 _ rfl
    have x22 := HX2.out.cell 2 _ rfl
    clear his hps hb2 x1 c0 c1 c2 c3
    cases is
    ·have HBD2 : Hid (Rt.badRo r = true) := hid' (by rw [HBA.out, ← HIS.out]; rfl)
     go_wp2
     go_ret2
     exact ⟨newR18_no (by rw [HCA.out, HBD2.out]; rfl) rfl, by rw [HBB.out]; exact HBw2.out⟩
    ·obtain ⟨bm, hbm⟩ : ∃ bm, (r.m.isEmpty || Tx.isTok r.m) = bm := ⟨_, rfl⟩
     rw [hbm] at HMT HBA
     obtain ⟨bh, hbh⟩ : ∃ bh, (!(decide (r.h < 1) || decide (4 < r.h))) = bh := ⟨_, rfl⟩
     rw [hbh] at HHD HBA
     clear hbm hbh
     go_wp2_with fail
     refine (HMT.out _).mono ?_
     rintro e w3 ⟨rfl, hw3⟩
     subst w3
     cases bm
     ·have HBD2 : Hid (Rt.badRo r = true) := hid' (by rw [HBA.out, ← HIS.out]; rfl)
      go_wp2
      go_ret2
      exact ⟨newR18_no (by rw [HCA.out, HBD2.out]; rfl) rfl, by rw [HBB.out]; exact HBw2.out⟩
     ·go_wp2_with fail
      refine (HHD.out _).mono ?_
      rintro e w3 ⟨rfl, hw3⟩
      subst w3
      cases bh
      ·have HBD2 : Hid (Rt.badRo r = true) := hid' (by rw [HBA.out, ← HIS.out]; rfl)
       go_wp2
       go_ret2
       exact ⟨newR18_no (by rw [HCA.out, HBD2.out]; rfl) rfl, by rw [HBB.out]; exact HBw2.out⟩
      ·have HBD2 : Hid (Rt.badRo r = false) := hid' (by rw [HBA.out, ← HIS.out]; rfl)
       obtain ⟨ps, hps⟩ : ∃ ps, Rt.pattern r.p = some ps := by
        have := HIS.out
        cases hq : Rt.pattern r.p with
        | none => rw [hq] at this; cases this
        | some ps => exact ⟨ps, rfl⟩
       obtain ⟨q1, q2, q3, q4⟩ := HPSs.out ps hps
       have hpat : Rt.pat r = ps := by unfold Rt.pat; rw [hps]; rfl
       have HPT := hid' hpat
       have HQ1 := hid' q1
       have HQ2 := hid' q2
       have HQ3 := hid' (own_base17 q3 HW1s.out)
       have HQ4 := hid' (own_base17 q4 HW1s.out)
       have hpl : ps.length ≤ 4194305 := by
        have := Rt.pat_len18 r
        have := (HRB.out r (List.mem_of_getElem? HRI.out)).1
        rw [hpat] at *
        omega
       have htl := Rt.txt_len hps
       have HST := hid' (cshape18 pa pn pc ps q1 (by rw [← q1]; exact hpl) (Rt.pattern_gp hps) (by have := (HRB.out r (List.mem_of_getElem? HRI.out)).1; omega) w2 (PU18.own q3))
       clear hps q1 q2 q3 q4 hpat hpl htl
       obtain ⟨key, hkey⟩ : ∃ z : ByteArray, (⟨(Rt.txt ps).toArray⟩ : ByteArray) = z := ⟨_, rfl⟩
       have HKY : Hid (key.data.toList = Rt.txt ps) := hid' (by rw [← hkey])
       rw [hkey] at HST
       clear hkey
       go_wp2_with fail
       refine HST.out.mono ?_
       rintro e w3 ⟨rfl, hb3⟩
       have HX3 := hid' (HX2.out.keep hb3)
       have HR3 := hid' (HR2.out.below hb3)
       have HP3 := hid' (HP2.out.below hb3)
       have HBw3 : Hid (Below B w w3) := hid' (HBw2.out.trans (hb3.mono (by rw [← HBB.out]; exact HBw2.out.size)))
       have HQ33 := hid' (own_kp17 HQ3.out hb3)
       have HQ43 := hid' (own_kp17 HQ4.out hb3)
       clear hb3 x20 x22
       have o3 := HR3.out.ob.cell 0 _ rfl
       have x30 := HX3.out.cell 0 _ rfl
       cases hfk : f key with
       | some j =>
        obtain ⟨s, hs, hst⟩ := (HP3.out.pos key j).1 hfk
        have hsh : Rt.shape (Rt.pat r) (Rt.pat s.rep) = true := (Rt.txt_shape Rt.pat_gp Rt.pat_gp).1 (by rw [hst, HKY.out, HPT.out])
        have HSM := hid' (List.mem_of_getElem? hs)
        have HSH := hid' hsh
        have hlk : (Instr.lookup 84 (.map (some pb)) (.string key) true).run Tryz.prog w3 = .ok (.tuple #[.int .i64 (j : Int), .bool true]) w3 := HP3.out.mp.look_yes kyU18 Tryz.underlying84 true hfk
        have hjl : j < sn := by have := (List.getElem?_eq_some_iff.1 hs).1; rw [HR3.out.len] at this; exact this
        have hjI : (j : Int) < (sn : Int) := by omega
        obtain ⟨g, rfl, hgl, s0, s1⟩ := HR3.out.at j s hs
        obtain ⟨fe, ke, ee, ce, m1, m2, m3, m4⟩ := (HR3.out.shp s HSM.out).mp
        have HM1 := hid' m1
        have HM2 := hid' m2
        have HM3 := hid' m3
        have HM4 := hid' m4
        have HTW : Hid (Rt.twice (rs.take i) r = (fe pm).isSome) := hid' (by rw [Rt.twice_by hsh, ← HPML.out, ← m3 pm]; cases fe pm <;> rfl)
        clear hs hst hsh m2 m3 m4 hjl hgl
        cases hfe : fe pm with
        | some e =>
         have hle : (Instr.lookup 91 (.map (some s.mb)) (.string pm) true).run Tryz.prog w3 = .ok (.tuple #[.agg #[.int .i64 (e.num : Int), .slice e.no e.c e.nc], .bool true]) w3 := m1.look_yes kyU18 Tryz.underlying91 true hfe
         have HTT : Hid (Rt.check rs = 181) := hid' (by rw [HCA.out, HBD2.out, HTW.out, hfe]; rfl)
         have HB4 : Hid (Below B w (w3.alloc (.cells #[.int .i64 (e.num : Int), .slice e.no e.c e.nc] 95))) := hid' (HBw3.out.alloc (by rw [← HBB.out]; exact HBw3.out.size) _)
         clear m1 hfe hfk
         go_wp2
         go_ret2
         exact ⟨newR18_no HTT.out rfl, by rw [HBB.out]; exact HB4.out⟩
        | none =>
         have hle : (Instr.lookup 91 (.map (some s.mb)) (.string pm) true).run Tryz.prog w3 = .ok (.tuple #[.agg #[.int .i64 0, .slice none 0 0], .bool false]) w3 := m1.look_no kyU18 Tryz.underlying91 zeroE18 true hfe
         have HFE := hid' hfe
         have HTT : Hid (Rt.check rs = Rt.chk (rs.take (i + 1)) (rs.drop (i + 1))) := hid' (by rw [HCA.out, HBD2.out, HTW.out, hfe]; rfl)
         have hb4 : Below w3.heap.size w3 (w3.alloc (.cells #[.int .i64 0, .slice none 0 0] 95)) := bl_alloc17 w3 _
         have HR4 := hid' (HR3.out.below hb4)
         have HP4 := hid' (HP3.out.below hb4)
         have HBw4 : Hid (Below B w (w3.alloc (.cells #[.int .i64 0, .slice none 0 0] 95))) := hid' (HBw3.out.trans (hb4.mono (by rw [← HBB.out]; exact HBw3.out.size)))
         have HM14 := hid' (HM1.out.other (hb4.block _ HM1.out.lt))
         have x40 : (w3.alloc (.cells #[.int .i64 0, .slice none 0 0] 95)).cell? ⟨xb, 0, none⟩ = some (.string pm) := (HX3.out.keep hb4).cell 0 _ rfl
         have HQ44 := hid' (own_kp17 HQ43.out hb4)
         have HM44 : Hid (∀ m e, fe m = some e → ∃ r, rs[e.num]? = some r ∧ (Rt.names (Rt.pat r)).length = e.c ∧ (w3.alloc (.cells #[.int .i64 0, .slice none 0 0] 95)).ownsRow B 9 1 (.slice e.no e.c e.nc) e.c (sC17 (Rt.names (Rt.pat r)))) := hid' (fun m e he => by
          obtain ⟨r', a1, a2, a3⟩ := HM4.out m e he
          exact ⟨r', a1, a2, own_kp17 a3 hb4⟩)
         obtain ⟨ee', ce', hrun, hmp⟩ := HM14.out.store kyU18 Tryz.underlying91 pm ⟨i, no, c, nc⟩
         have hrun' : (Instr.mapUpdate 91 (.map (some s.mb)) (.string pm) (.agg #[.int .i64 (i : Int), .slice no c nc])).run Tryz.prog (w3.alloc (.cells #[.int .i64 0, .slice none 0 0] 95)) = .ok () (setBlock (w3.alloc (.cells #[.int .i64 0, .slice none 0 0] 95)) s.mb (.map ee' ce')) := hrun
         have HMP := hid' hmp
         have HUB := hid' (upd_block18 (w3.alloc (.cells #[.int .i64 0, .slice none 0 0] 95)) s.mb (.map ee' ce'))
         generalize setBlock (w3.alloc (.cells #[.int .i64 0, .slice none 0 0] 95)) s.mb (.map ee' ce') = w5 at *
         have HR5 : Hid (RN18 w5 B B (some ⟨g, 0, none⟩) sn sc sl rs (i + 1)) := hid' (HR4.out.put HRI.out HSM.out HSH.out (fun t ht hst => by
          obtain ⟨x, hx, hxt⟩ := List.mem_iff_getElem.1 ht
          obtain ⟨y, hy, hys⟩ := List.mem_iff_getElem.1 HSM.out
          have hp := List.pairwise_iff_getElem.1 (List.pairwise_map.1 HRP.out.one)
          rcases Nat.lt_trichotomy x y with hxy | hxy | hxy
          ·have := hp x y hx hy hxy
           rw [hxt, hys, Rt.shape_symm hst] at this; cases this
          ·subst hxy; rw [← hxt, hys]
          ·have := hp y x hy hx hxy
           rw [hxt, hys, hst] at this; cases this) HPML.out HM14.out HFE.out HM3.out HM2.out HM44.out rfl (by rw [HPT.out]; exact HQ2.out) (by rw [HPT.out]; exact HQ44.out) HUB.out HMP.out)
         have HP5 := hid' (HP4.out.keep (HUB.out.block pb (fun e => HP4.out.ne s HSM.out e.symm)))
         have HBw5 : Hid (Below B w w5) := hid' (HBw4.out.trans (HUB.out.below (HR4.out.shp s HSM.out).ge))
         have HRP5 := hid' (Rt.rep_known HRP.out HRI.out (List.mem_map.2 ⟨s, HSM.out, rfl⟩) HSH.out)
         have HCH5 : Hid (Rt.chk [] rs = Rt.chk (rs.take (i + 1)) (rs.drop (i + 1))) := hid' (by rw [← HCK.out]; exact HTT.out)
         clear m1 hfe hfk hb4 hrun hmp
         go_wp2
         go_roundw
         case rel => exact ⟨i + 1, sn, sc, k, ck, some ⟨g, 0, none⟩, sl, f, es, by go_num, by omega, HR5, HP5, HRP5, HCH5, hid' (by have := HSN.out; omega), HBw5⟩
         case measure => simp [intOf]; omega
       | none =>
        have hnos : ∀ s ∈ sl, Rt.shape (Rt.pat r) (Rt.pat s.rep) = false := fun s hs => by
         cases hq : Rt.shape (Rt.pat r) (Rt.pat s.rep)
         ·rfl
         ·obtain ⟨j, hj, hjs⟩ := List.mem_iff_getElem.1 hs
          have := (HP3.out.pos key j).2 ⟨s, by rw [List.getElem?_eq_getElem hj, hjs], by rw [HKY.out, ← HPT.out]; exact ((Rt.txt_shape Rt.pat_gp Rt.pat_gp).2 hq).symm⟩
          rw [hfk] at this; cases this
        have HNO := hid' hnos
        have HNOR : Hid (∀ p ∈ sl.map (·.rep), Rt.shape (Rt.pat r) (Rt.pat p) = false) := hid' (fun p hp => by
         obtain ⟨s, hs, rfl⟩ := List.mem_map.1 hp
         exact hnos s hs)
        have HFK := hid' hfk
        have HTT : Hid (Rt.check rs = Rt.chk (rs.take (i + 1)) (rs.drop (i + 1))) := hid' (by rw [HCA.out, HBD2.out, Rt.twice_by (Rt.shape_refl _), Rt.by_new HRP.out HNOR.out]; rfl)
        have hlk : (Instr.lookup 84 (.map (some pb)) (.string key) true).run Tryz.prog w3 = .ok (.tuple #[.int .i64 0, .bool false]) w3 := HP3.out.mp.look_no kyU18 Tryz.underlying84 zeroI18 true hfk
        obtain ⟨es4, ck4, hrun, hmp⟩ := HP3.out.mp.store kyU18 Tryz.underlying84 key sn
        have hrun' : (Instr.mapUpdate 84 (.map (some pb)) (.string key) (.int .i64 (sn : Int))).run Tryz.prog w3 = .ok () (setBlock w3 pb (.map es4 ck4)) := hrun
        have HMP := hid' hmp
        have HUB := hid' (upd_block18 w3 pb (.map es4 ck4))
        generalize setBlock w3 pb (.map es4 ck4) = w4 at *
        have hpm3 := HP3.out.mp.hd
        have hX3 : ∀ cs e, w3.heap[pb]? ≠ some (.cells cs e (0, 0)) := fun cs e he => by rw [hpm3] at he; cases he
        have HR4 := hid' (HR3.out.keep (w' := w4) (X := pb) (fun k _ _ hne => HUB.out.block k hne) hX3 HP3.out.ne)
        have hrow4 : ∀ {e : TypeId} {sz : Nat} {v : Value} {n : Nat} {xs : List Value}, w3.ownsRow B e sz v n xs → w4.ownsRow B e sz v n xs := fun {e sz v n xs} ho => own_same ho (fun q hq => HUB.out.block q (fun eq => by
         subst eq
         obtain ⟨_, cs, h3⟩ := own_ty ho q hq
         exact hX3 _ _ h3))
        have HQ34 := hid' (hrow4 HQ33.out)
        have HQ44 := hid' (hrow4 HQ43.out)
        have HX4 := hid' (HUB.out.keep HX3.out (fun e => by have := HX3.out; unfold Ar at this; rw [e] at this; exact hX3 _ _ this))
        have HBw4 : Hid (Below B w w4) := hid' (HBw3.out.trans (HUB.out.below HP3.out.ge))
        have HS4 : Hid (B ≤ w4.heap.size) := hid' (by rw [← HBB.out]; exact HBw4.out.size)
        have HPL4 : Hid (pb < w4.heap.size) := hid' HMP.out.lt
        obtain ⟨w5, hw5⟩ : ∃ w5, w4.alloc (.map #[] 0) = w5 := ⟨_, rfl⟩
        obtain ⟨mb, hmb⟩ : ∃ mb, w4.heap.size = mb := ⟨_, rfl⟩
        have hb5 : Below w4.heap.size w4 w5 := by rw [← hw5]; exact bl_alloc17 w4 _
        have HM5 : Hid (Mp kU18 eU18 w5 mb (fun _ => none) 0 #[] 0) := hid' (by rw [← hw5, ← hmb]; exact Mp.made w4 kU18 eU18)
        obtain ⟨s0, hs0⟩ : ∃ s0 : Sh18, s0 = ⟨pa, pn, pc, mb, r⟩ := ⟨_, rfl⟩
        have hb6 : Below w4.heap.size w4 (w5.alloc (.cells #[.slice pa pn pc, .map (some mb)] 93)) := below_two hb5 (bl_alloc17 w5 _)
        have HR6 := hid' (HR4.out.below hb6)
        have HX6 := hid' (HX4.out.keep hb6)
        have HQ46 := hid' (own_kp17 HQ44.out hb6)
        have HSP : Hid (SHP18 (w5.alloc (.cells #[.slice pa pn pc, .map (some mb)] 93)) B rs i s0) := hid' (by
         subst hs0
         exact ⟨List.mem_of_getElem? HRI.out, by rw [HPT.out]; exact HQ1.out, by rw [HPT.out]; exact own_kp17 HQ34.out hb6, by rw [← hmb]; exact HS4.out, fun _ => none, 0, #[], 0, HM5.out.other ((bl_alloc17 w5 _).block mb HM5.out.lt), Nat.zero_le _, fun m => by rw [Rt.by_new HRP.out HNOR.out]; rfl, (fun m e he => by cases he)⟩)
        have HNE : Hid (∀ s ∈ sl, s.mb ≠ s0.mb) := hid' (fun s hs => by have := (HR4.out.shp s hs).lt; rw [hs0, ← hmb]; simp only; omega)
        have HP6 := hid' (HMP.out.other (hb6.block pb HPL4.out))
        have HBw6 : Hid (Below B w (w5.alloc (.cells #[.slice pa pn pc, .map (some mb)] 93))) := hid' (HBw4.out.trans (hb6.mono HS4.out))
        have HS6 : Hid (B ≤ (w5.alloc (.cells #[.slice pa pn pc, .map (some mb)] 93)).heap.size) := hid' (Nat.le_trans HS4.out hb6.size)
        have HMB : Hid (mb ≠ pb) := hid' (by have := HPL4.out; omega)
        have HCE : Hid (shC18 (sl ++ [s0]) = shC18 sl ++ [.slice pa pn pc, .map (some mb)]) := hid' (by rw [shC18_snoc, hs0])
        have HS0 := hid' hs0
        have o4 := HR4.out.ob.cell 0 _ rfl
        have o5 : w5.cell? ⟨B, 0, none⟩ = some (.slice so sn sc) := (HR4.out.below hb5).ob.cell 0 _ rfl
        have HSL : Hid (sn ≤ 256) := hid' (by have := HSN.out; omega)
        obtain ⟨i0, hi0, hz0, hz1, hz2⟩ := minfo17 infoSh18
        have HI := hid' hi0
        have HZ0 := hid' hz0
        have HZ1 := hid' hz1
        have HZ2 := hid' hz2
        clear hi0 hz0 hz1 hz2 hrow4 hX3 hpm3 hnos hfk hrun hmp hb5 hb6 hs0 x30
        go_wp2_with (at_builtin; refine wpList_append_own_at _ rfl _ _ 81 rfl B 93 i0 (.agg #[.slice none 0 0, .map none]) 2 32 Tryz.underlying81 HI.out HZ0.out HZ1.out HZ2.out rfl (by decide) (.slice so sn sc) sn (shC18 sl) rfl HR6.out.row ⟨w5.heap.size, 0, none⟩ 1 1 [.slice pa pn pc, .map (some mb)] rfl rfl (two_new18 _ _ _ _) (by simp [Value.oneCell']) (by unfold maxLen; have := HSL.out; omega) (by have := HSL.out; omega) HS6.out ?_; intro v7 w7 hown7 hgrow7 _ _; refine Hid.out ?_)
        refine hid' ?_
        rw [← HCE.out] at hown7
        obtain ⟨so7, sc7, hv7⟩ := own_shape17 hown7
        subst hv7
        obtain ⟨w8, hw8⟩ : ∃ w8, w7.setCell ⟨B, 0, none⟩ (.slice so7 (sn + 1) sc7) = w8 := ⟨_, rfl⟩
        have hU8 : Upd B w7 w8 := by rw [← hw8]; exact upd_setCell w7 B 0 _
        have HR8 : Hid (RN18 w8 B B so7 (sn + 1) sc7 (sl ++ [s0]) rs i) := hid' (by rw [← hw8]; exact HR6.out.add HSP.out HNE.out hown7 hgrow7)
        have hob7 : Ar w7 B 83 #[.slice so sn sc] := ar_grown HR6.out.ob hgrow7 (fun k hk => own_apart HR6.out.row HR6.out.ob (by decide) k hk)
        have o7 := hob7.cell 0 _ rfl
        have fz7 := hob7.free 0
        have hne7 : ∀ k o, (w5.alloc (.cells #[.slice pa pn pc, .map (some mb)] 93)).heap[k]? = some o → (∀ cs : Array Value, o ≠ Obj.cells cs 93 (0, 0)) → w7.heap[k]? = some o := fun k o hk ho => by
         rw [hgrow7.block k (Array.getElem?_eq_some_iff.1 hk).1 (fun e => ?_)]
         ·exact hk
         ·obtain ⟨_, cs, h3⟩ := own_ty HR6.out.row k e.symm
          rw [hk] at h3
          injection h3 with h3
          exact ho _ h3
        have HP7 : Hid (Mp kU18 iU18 w8 pb (mput f key sn) (if (f key).isSome = true then k else k + 1) es4 ck4) := hid' (HP6.out.other (by rw [hU8.block pb (fun e => HPB.out e.symm), hne7 pb _ HP6.out.hd (fun cs e => by cases e), HP6.out.hd]))
        have HX8 : Hid (Ar w8 xb 32 #[.string pm, .string pp, .int .u8 r.h, .string p.2]) := hid' (hU8.keep (hne7 xb _ HX6.out (fun cs e => by injection e with _ e _; revert e; decide)) (Ar.apart' (hne7 xb _ HX6.out (fun cs e => by injection e with _ e _; revert e; decide)) hob7 (by decide)))
        have HQ48 : Hid (w8.ownsRow B 9 1 (.slice no c nc) c (sC17 (Rt.names ps))) := hid' (by
         have h7 := own_other18 HQ46.out HR6.out.row hgrow7 (by decide)
         exact own_same h7 (fun q hq => hU8.block q (own_apart h7 hob7 (by decide) q hq)))
        have HBw8 : Hid (Below B w w8) := hid' ((HBw6.out.grown hgrow7 HS6.out (fun k hk => (HR6.out.row.lt k hk).1)).trans (hU8.below (Nat.le_refl _)))
        have HP8 : Hid (PL18 w8 B pb (sl ++ [s0]) (mput f key sn) (if (f key).isSome = true then k else k + 1) es4 ck4) := hid' ⟨HP7.out, HP3.out.ge, fun key' j => by
         have hs0r : s0.rep = r := by rw [HS0.out]
         unfold mput
         by_cases hk : key' = key
         ·subst hk
          rw [if_pos rfl]
          constructor
          ·intro h
           injection h with h
           subst h
           refine ⟨s0, by rw [List.getElem?_append_right (by rw [HR3.out.len]; omega), HR3.out.len]; simp, by rw [hs0r, HPT.out, HKY.out]⟩
          ·rintro ⟨s, hs, hst⟩
           by_cases hj : j < sl.length
           ·rw [List.getElem?_append_left hj] at hs
            have := (HP3.out.pos key' j).2 ⟨s, hs, hst⟩
            rw [HFK.out] at this; cases this
           ·have := (List.getElem?_eq_some_iff.1 hs).1
            rw [List.length_append] at this
            have h2 := HR3.out.len
            simp at this
            congr 1; omega
         ·rw [if_neg hk, HP3.out.pos]
          constructor
          ·rintro ⟨s, hs, hst⟩
           exact ⟨s, by rw [List.getElem?_append_left (List.getElem?_eq_some_iff.1 hs).1]; exact hs, hst⟩
          ·rintro ⟨s, hs, hst⟩
           by_cases hj : j < sl.length
           ·rw [List.getElem?_append_left hj] at hs
            exact ⟨s, hs, hst⟩
           ·exfalso
            rw [List.getElem?_append_right (by omega)] at hs
            have h1 : s = s0 := by
             cases hq : j - sl.length with
             | zero => rw [hq] at hs; simp at hs; exact hs.symm
             | succ q => rw [hq] at hs; simp at hs
            subst h1
            apply hk
            apply ByteArray.ext
            apply Array.toList_inj.1
            rw [← hst, HKY.out, hs0r, HPT.out], fun s hs => by
         rcases List.mem_append.1 hs with hs | hs
         ·exact HP3.out.ne s hs
         ·simp at hs; subst hs; rw [HS0.out]; exact HMB.out⟩
        have HSM : Hid (s0 ∈ sl ++ [s0]) := hid' (by simp)
        obtain ⟨g, rfl, hgl, s00, s01⟩ := HR8.out.at sn s0 (by rw [List.getElem?_append_right (by rw [HR3.out.len]; omega), HR3.out.len]; simp)
        have hs0m : s0.mb = mb := by rw [HS0.out]
        rw [hs0m] at s01
        obtain ⟨fe, ke, ee, ce, m1, m2, m3, m4⟩ := (HR8.out.shp s0 HSM.out).mp
        have hs0r : s0.rep = r := by rw [HS0.out]
        have hfe : fe pm = none := by
         have := m3 pm
         rw [hs0r, Rt.by_new HRP.out HNOR.out] at this
         cases hq : fe pm with
         | none => rfl
         | some x => rw [hq] at this; cases this
        have HFE := hid' hfe
        have hle : (Instr.lookup 91 (.map (some mb)) (.string pm) true).run Tryz.prog w8 = .ok (.tuple #[.agg #[.int .i64 0, .slice none 0 0], .bool false]) w8 := by
         have := m1.look_no kyU18 Tryz.underlying91 zeroE18 true hfe
         rw [hs0m] at this
         exact this
        have o8 := HR8.out.ob.cell 0 _ rfl
        have x80 := HX8.out.cell 0 _ rfl
        have hb9 : Below w8.heap.size w8 (w8.alloc (.cells #[.int .i64 0, .slice none 0 0] 95)) := bl_alloc17 w8 _
        have x90 : (w8.alloc (.cells #[.int .i64 0, .slice none 0 0] 95)).cell? ⟨xb, 0, none⟩ = some (.string pm) := (HX8.out.keep hb9).cell 0 _ rfl
        have HR9 := hid' (HR8.out.below hb9)
        have HP9 := hid' (HP8.out.below hb9)
        have HBw9 : Hid (Below B w (w8.alloc (.cells #[.int .i64 0, .slice none 0 0] 95))) := hid' (HBw8.out.trans (hb9.mono (by rw [← HBB.out]; exact HBw8.out.size)))
        have HM9 := hid' (m1.other (hb9.block _ m1.lt))
        have HQ49 := hid' (own_kp17 HQ48.out hb9)
        have HM3 := hid' m3
        have HM2 := hid' m2
        have HM49 : Hid (∀ m e, fe m = some e → ∃ r, rs[e.num]? = some r ∧ (Rt.names (Rt.pat r)).length = e.c ∧ (w8.alloc (.cells #[.int .i64 0, .slice none 0 0] 95)).ownsRow B 9 1 (.slice e.no e.c e.nc) e.c (sC17 (Rt.names (Rt.pat r)))) := hid' (fun m e he => by
         obtain ⟨r', a1, a2, a3⟩ := m4 m e he
         exact ⟨r', a1, a2, own_kp17 a3 hb9⟩)
        obtain ⟨ee', ce', hrunE, hmpE⟩ := HM9.out.store kyU18 Tryz.underlying91 pm ⟨i, no, c, nc⟩
        have hrunE' : (Instr.mapUpdate 91 (.map (some mb)) (.string pm) (.agg #[.int .i64 (i : Int), .slice no c nc])).run Tryz.prog (w8.alloc (.cells #[.int .i64 0, .slice none 0 0] 95)) = .ok () (setBlock (w8.alloc (.cells #[.int .i64 0, .slice none 0 0] 95)) mb (.map ee' ce')) := by
         have := hrunE
         rw [hs0m] at this
         exact this
        rw [hs0m] at hmpE
        have HMPE := hid' hmpE
        have HUBE := hid' (upd_block18 (w8.alloc (.cells #[.int .i64 0, .slice none 0 0] 95)) mb (.map ee' ce'))
        generalize setBlock (w8.alloc (.cells #[.int .i64 0, .slice none 0 0] 95)) mb (.map ee' ce') = wz at *
        have HRz : Hid (RN18 wz B B (some ⟨g, 0, none⟩) (sn + 1) sc7 (sl ++ [s0]) rs (i + 1)) := hid' (HR9.out.put (e0 := ⟨i, no, c, nc⟩) HRI.out HSM.out (by rw [hs0r]; exact Rt.shape_refl _) (fun t ht hst => by
         rcases List.mem_append.1 ht with ht | ht
         ·have := HNO.out t ht
          rw [hs0r] at hst
          rw [hst] at this; cases this
         ·simpa using ht) HPML.out HM9.out HFE.out HM3.out HM2.out HM49.out rfl (by rw [HPT.out]; exact HQ2.out) (by rw [HPT.out]; exact HQ49.out) (by rw [hs0m]; exact HUBE.out) (by rw [hs0m]; exact HMPE.out))
        have HPz := hid' (HP9.out.keep (HUBE.out.block pb (fun e => HMB.out e.symm)))
        have HBwz : Hid (Below B w wz) := hid' (HBw9.out.trans (HUBE.out.below (by rw [← hs0m]; exact (HR9.out.shp s0 HSM.out).ge)))
        have HRPz : Hid (Rt.Rep (rs.take (i + 1)) ((sl ++ [s0]).map (·.rep))) := hid' (by
         rw [List.map_append, List.map_cons, List.map_nil, hs0r]
         exact Rt.rep_new HRP.out HRI.out HNOR.out)
        have HCHz : Hid (Rt.chk [] rs = Rt.chk (rs.take (i + 1)) (rs.drop (i + 1))) := hid' (by rw [← HCK.out]; exact HTT.out)
        have hsI : (sn : Int) < ((sn + 1 : Nat) : Int) := by omega
        clear hown7 hgrow7 hU8 hob7 hne7 hgl m1 m2 m3 m4 hfe hb9 hrunE hmpE hs0m hs0r s00
        go_wp2
        go_roundw
        case rel => exact ⟨i + 1, sn + 1, sc7, _, ck4, some ⟨g, 0, none⟩, sl ++ [s0], _, es4, by go_num, by omega, HRz, HPz, HRPz, HCHz, hid' (by have := HSN.out; omega), HBwz⟩
        case measure => simp [intOf]; omega
   ·have hlt2 : ¬ (i : Int) < (n : Int) := by omega
    obtain rfl : i = n := by omega
    have HE : Hid (Rt.check rs = 0) := hid' (by rw [HCK.out, HCH.out, List.drop_eq_nil_of_le (by rw [HRL.out]; omega), Rt.chk])
    have HRT : Hid (RT18 wr B B rs) := hid' ⟨so, sn, sc, sl, by rw [HRL.out]; exact HR.out, by have := HRP.out; rw [List.take_of_length_le (by rw [HRL.out]; omega)] at this; exact this, by rw [HRL.out]; omega, HRB.out, by have := HSN.out; omega⟩
    go_wp2
    go_ret2
    exact ⟨.inr ⟨HE.out, B, rfl, Nat.le_of_eq HBB.out, HR.out.ob.lt, HBB.out.symm ▸ HRT.out⟩, by first | exact HB1.out | (rw [HBB.out]; exact HB1.out)⟩

end Go.Proofs.YtcfbobegbmcbeaaGreatDoor
