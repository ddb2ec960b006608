/-
  What the row stands on.
-/
import Derived.Test.YtcfbobegbmcbeaaGreatDoorPkAD
import Derived.Test.YtcfbobegbmcbeaaGreatDoorPkAF
namespace Go.Proofs.YtcfbobegbmcbeaaGreatDoor
set_option maxHeartbeats 64000000
open Go.RowKit

theorem own_str19 {w : World} {B : Nat} {e : TypeId} {ao : Option Addr} {n m cap : Nat} {l : List (List UInt8)} (h : w.ownsRow B e 1 (.slice ao n cap) m (sC19 l)) (i : Nat) (p : List UInt8) (hp : l[i]? = some p) : ∃ g, ao = some ⟨g, 0, none⟩ ∧ g < w.heap.size ∧ w.cell? ⟨g, i, none⟩ = some (.string ⟨p.toArray⟩) := by
 have hx : (sC19 l)[i]? = some (.string ⟨p.toArray⟩) := by unfold sC19; rw [List.getElem?_map, hp]; rfl
 have hlt := (List.getElem?_eq_some_iff.1 hx).1
 rcases h.2 with ⟨_, h0⟩ | ⟨g, cap', cur, h1, h2⟩
 ·rw [h.1, h0] at hlt; omega
 ·injection h1 with h1 h3 h4
  subst h1
  have := h.cells (g := g) rfl i _ hx
  rw [Addr.add_mid, Nat.zero_add] at this
  exact ⟨g, rfl, own_lt h g rfl, this⟩
theorem cjoin19 (ao : Option Addr) (n cap B : Nat) (k : List (List UInt8)) (hn : k.length = n) (hc : n ≤ cap) (w : World) (h : w.ownsRow B 9 1 (.slice ao n cap) n (sC19 k)) (hsz : (k.map List.length).sum + 2 * k.length ≤ 16777216) :
  Calls Tryz.prog 81 #[.slice ao n cap, .string ⟨#[44, 32]⟩] w fun e w' => e = .returned (.string ⟨(Lib.join k [44, 32]).toArray⟩) ∧ Below w.heap.size w w' := by
 cases k with
 | nil =>
  obtain rfl : 0 = n := hn
  refine (Tryz.strings_Join_none ao cap ⟨#[44, 32]⟩ w).mono ?_
  rintro e w' ⟨rfl, rfl⟩
  exact ⟨rfl, Below.refl _ _⟩
 | cons p r =>
  obtain ⟨g, rfl, hg, _⟩ := own_str19 h 0 p rfl
  obtain ⟨xs, hxs⟩ : ∃ xs : List ByteArray, xs = (p :: r).map (fun x => (⟨x.toArray⟩ : ByteArray)) := ⟨_, rfl⟩
  have e1 : xs.map (·.data.toList) = p :: r := by rw [hxs, List.map_map]; simp [Function.comp_def]
  have e2 : xs.length = n := by rw [hxs, List.length_map]; exact hn
  have hj := Tg.join_len2 (p :: r)
  have c := Tryz.strings_Join g 0 cap xs ⟨#[44, 32]⟩ w (fun j x hx => by
   rw [hxs, List.getElem?_map] at hx
   obtain ⟨q, hq, rfl⟩ := Option.map_eq_some_iff.1 hx
   obtain ⟨g', hg', _, h2⟩ := own_str19 h j q hq
   injection hg' with hg'
   injection hg' with hg'
   subst hg'
   rw [Nat.zero_add]
   exact h2) hg (by rw [e2, ← hn]; omega) (by rw [e2]; exact hc) (by
    rw [e1, show (⟨#[44, 32]⟩ : ByteArray).data.toList = [44, 32] from rfl]; omega)
  rw [e1, e2, show (⟨#[44, 32]⟩ : ByteArray).data.toList = [44, 32] from rfl] at c
  exact c

theorem cvalue19 (v : Value) (l : List Fd) (nm : ByteArray) (nl : List UInt8) (hnm : nm.data.toList = nl) (w : World) (h : FW w v l) (hl : l.length ≤ 1048576) (hz : Tg.vsz l ≤ 1048576) :
  Calls Tryz.prog 149 #[v, .string nm] w fun e w' => e = .returned (.tuple #[.string ⟨(Tg.vjoin l nl).toArray⟩, .bool (!(Tg.vals l nl).isEmpty)]) ∧ Below w.heap.size w w' := by
 have q := qS15
 have HC := hid' (cvals19 v l nm nl hnm w h hl)
 have HS := hid' (Tg.vals_sum l nl)
 have HV : Hid (Tg.vjoin l nl = Lib.join (Tg.vals l nl) [44, 32]) := hid' rfl
 clear h hnm
 go_enter Tryz.func149, Tryz.ntmps149
 go_wp2_with fail
 refine HC.out.mono ?_
 rintro e w1 ⟨⟨m, ro, rc, rfl, hm, hno, hrc, hown⟩, hb1⟩
 have HB1 := hid' hb1
 have HNO := hid' hno
 have HJ := hid' (cjoin19 ro m rc _ (Tg.vals l nl) hm hrc w1 hown (by have := HS.out; omega))
 clear hb1 hno hown hm hrc HC
 go_wp2_with fail
 refine HJ.out.mono ?_
 rintro e w2 ⟨rfl, hb2⟩
 have HB2 := hid' (below_two HB1.out hb2)
 clear hb2
 go_wp2
 go_ret2
 exact ⟨by rw [HV.out, ← HNO.out]; cases ro <;> rfl, HB2.out⟩

theorem cdprs19 (s : ByteArray) (w : World) (htab : Lib.TabIs Tryz.prog w "internal/strconv.uint64pow10" .u64 Lib.pow10Tab) :
  Calls Tryz.prog 186 #[.string s] w fun e w' => e = .returned (.tuple #[.int .i64 (Tg.dprs s.data.toList).1, .int .i64 (Tg.dprs s.data.toList).2]) ∧ Below w.heap.size w w' := by
 unfold Tg.dprs
 by_cases h : ∃ n, Dt.Dated n s.data.toList
 ·obtain ⟨n, hn⟩ := h
  rw [Dt.dprC_of hn]
  exact parse_yes n s.data.toList hn w htab
 ·rw [Dt.dprC_no (fun n hn => h ⟨n, hn⟩)]
  exact parse_no s (fun n hn => h ⟨n, hn⟩) w htab

theorem cdate19 (v : Value) (l : List Fd) (nm : ByteArray) (nl : List UInt8) (hnm : nm.data.toList = nl) (w : World) (h : FW w v l) (hl : l.length ≤ 1048576) (hT : Lib.TabIs Tryz.prog w "internal/strconv.uint64pow10" .u64 Lib.pow10Tab) :
  Calls Tryz.prog 152 #[v, .string nm] w fun e w' => e = .returned (.tuple #[.int .i64 (Tg.dte l nl).1, .bool (Tg.dte l nl).2]) ∧ Below w.heap.size w w' := by
 have HC := hid' (cvals19 v l nm nl hnm w h hl)
 have HT := hid' hT
 have HD : Hid (Tg.dte l nl = match Tg.vals l nl with | [v] => ((Tg.dprs v).1, (Tg.dprs v).2 == 0) | _ => (0, false)) := hid' rfl
 clear h hnm hT
 generalize Tg.vals l nl = vs at *
 go_enter Tryz.func152, Tryz.ntmps152
 go_wp2_with fail
 refine HC.out.mono ?_
 rintro e w1 ⟨⟨m, ro, rc, rfl, hm, hno, hrc, hown⟩, hb1⟩
 have HB1 := hid' hb1
 by_cases h1 : m = 1
 ·subst h1
  match vs, hm, hown, HD with
  | [x], _, hown, HD =>
   obtain ⟨g, rfl, hg, y0⟩ := own_str19 hown 0 x rfl
   have HP := hid' (cdprs19 ⟨x.toArray⟩ w1 (tab_below HT.out hb1))
   have HD2 : Hid (Tg.dte l nl = ((Tg.dprs x).1, (Tg.dprs x).2 == 0)) := hid' HD.out
   obtain ⟨a, ha⟩ : ∃ a, (Tg.dprs x).1 = a := ⟨_, rfl⟩
   obtain ⟨b, hb⟩ : ∃ b, (Tg.dprs x).2 = b := ⟨_, rfl⟩
   rw [ha, hb] at HD2
   rw [show (⟨x.toArray⟩ : ByteArray).data.toList = x from rfl, ha, hb] at HP
   clear hb1 hno hown hm hrc HC ha hb HD hg
   go_wp2_with fail
   refine HP.out.mono ?_
   rintro e w2 ⟨rfl, hb2⟩
   have HB2 := hid' (below_two HB1.out hb2)
   clear hb2
   go_wp2
   go_ret2
   exact ⟨by rw [HD2.out]; rfl, HB2.out⟩
 ·have hm1 : ((m : Int) != 1) = true := by simp; omega
  have HD2 : Hid (Tg.dte l nl = (0, false)) := hid' (by
   rw [HD.out]
   match vs, hm with
   | [], _ => rfl
   | [x], hm => exact absurd hm.symm h1
   | _ :: _ :: _, _ => rfl)
  clear hb1 hno hown hm hrc HC HD h1
  go_wp2
  go_ret2
  exact ⟨by rw [HD2.out]; rfl, HB1.out⟩

theorem cidx0 (ao : Option Addr) (cap : Nat) (f : Value) (w : World) : Calls Tryz.prog 204 #[.slice ao 0 cap, f] w fun e w' => e = .returned (.int .i64 (-1)) ∧ w' = w := by
 go_enter Tryz.func204, Tryz.ntmps204
 go_wp2
 go_loopw [8] (fun s8 wr => s8 = .int .i64 0 ∧ wr = w) (fun _ _ => 0)
 case atStart => exact ⟨rfl, rfl⟩
 case round =>
  obtain ⟨rfl, rfl⟩ := hrel
  go_wp2
  go_ret
  exact ⟨rfl, rfl⟩

theorem ccont0 (ao : Option Addr) (cap : Nat) (f : Value) (w : World) : Calls Tryz.prog 184 #[.slice ao 0 cap, f] w fun e w' => e = .returned (.bool false) ∧ w' = w := by
 go_enter Tryz.func184, Tryz.ntmps184
 go_wp2_with fail
 refine (cidx0 ao cap f w).mono ?_
 rintro e w1 ⟨rfl, hw⟩
 subst w1
 go_wp2
 go_ret
 exact ⟨rfl, rfl⟩

set_option maxRecDepth 20000 in
theorem cnmS19 (s : ByteArray) (l : List UInt8) (hl : s.data.toList = l) (y : ByteArray) (t q : Int) (m : List UInt8) (hm : Tg.mk q y.size = m) (w : World) (hs : s.size ≤ 1048576) (hy : y.size ≤ 9223372036854775807) (q0 : -9223372036854775808 ≤ q) (q1 : q ≤ 9223372036854775807) (hT : Lib.TabIs Tryz.prog w "internal/strconv.uint64pow10" .u64 Lib.pow10Tab) :
  Calls Tryz.prog 150 #[.string s, .agg (flC y t q), .bool true, .func (.func 180) #[] #[]] w fun e w' => e = .returned (.bool (Tg.nmB Tg.strong l m)) ∧ Below w.heap.size w w' := by
 cases hst : Tg.star l
 ·by_cases hne : 0 < (Tg.tags l).length
  ·refine (cnmS15 s l hl _ rfl hst hne y t q m hm _ rfl w hs hy q0 q1 hT).mono ?_
   rintro e w' ⟨rfl, hb⟩
   exact ⟨by unfold Tg.nmB; rw [hst]; rfl, hb⟩
  ·have HR : Hid (Tg.nmB Tg.strong l m = false) := hid' (by
    unfold Tg.nmB
    rw [hst, List.eq_nil_of_length_eq_zero (by omega : (Tg.tags l).length = 0)]
    rfl)
   have HL0 : Hid ((Tg.tags l).length = 0) := hid' (by omega)
   have HT := hid' hT
   have HP := hid' (fun W => cparse15 s l hl W hs)
   rw [hst] at HP
   have HO := hid' (fun W (h : Lib.TabIs Tryz.prog W "internal/strconv.uint64pow10" .u64 Lib.pow10Tab) => cown15 y t q m hm W hy q0 q1 h)
   unfold flC tA at HO
   unfold flC
   clear hT hst hm hne hl
   go_enter Tryz.func150, Tryz.ntmps150
   go_upto_region 3 with fail
   have HB1 := hid' (bl_two15 w (.cells #[.string y, .int .i64 t, .int .i64 q] 68) (.cells #[.func (.func 180) #[] #[]] 217))
   have HF : Hid (Ar ((w.alloc (.cells #[.string y, .int .i64 t, .int .i64 q] 68)).alloc (.cells #[.func (.func 180) #[] #[]] 217)) w.heap.size 68 #[.string y, .int .i64 t, .int .i64 q]) := hid' (Ar.keep (heap_alloc_last w _) (bl_alloc _ _))
   obtain ⟨xb, hxb⟩ : ∃ xb, w.heap.size = xb := ⟨_, rfl⟩
   rw [hxb] at HF ⊢
   obtain ⟨b7, hb7⟩ : ∃ b7, xb + 1 = b7 := ⟨_, rfl⟩
   rw [hb7]
   generalize (w.alloc (.cells #[.string y, .int .i64 t, .int .i64 q] 68)).alloc (.cells #[.func (.func 180) #[] #[]] 217) = w1 at *
   clear hb7 hxb
   go_wp2_with fail
   refine (HP.out _).mono ?_
   rintro e w2 ⟨⟨n, ro, rc, rfl, hn, hown⟩, hb2⟩
   obtain rfl : n = 0 := hn.symm.trans HL0.out
   have HB2 := hid' (below_two HB1.out hb2)
   have HF2 := hid' (HF.out.keep hb2)
   clear hb2 hown hn
   have p0 := HF2.out.cell 0 _ rfl
   have p1 := HF2.out.cell 1 _ rfl
   have p2 := HF2.out.cell 2 _ rfl
   go_wp2_with fail
   refine (HO.out _ (tab_below HT.out HB2.out)).mono ?_
   rintro e w3 ⟨rfl, hb3⟩
   have HB3 := hid' (below_two HB2.out hb3)
   clear hb3 p0 p1 p2 HF2
   have HB4 := hid' (below_two HB3.out (bl_alloc w3 (.cells #[.bool false, .string ⟨m.toArray⟩] 251)))
   go_wp2_with fail
   refine (ccont0 ro rc _ _).mono ?_
   rintro e w5 ⟨rfl, hw5⟩
   subst w5
   go_wp2
   go_ret
   exact ⟨by rw [HR.out]; rfl, HB4.out⟩
 ·have HR : Hid (Tg.nmB Tg.strong l m = true) := hid' (by unfold Tg.nmB; rw [hst]; rfl)
  have HT := hid' hT
  have HP := hid' (fun W => cparse15 s l hl W hs)
  rw [hst] at HP
  have HO := hid' (fun W (h : Lib.TabIs Tryz.prog W "internal/strconv.uint64pow10" .u64 Lib.pow10Tab) => cown15 y t q m hm W hy q0 q1 h)
  unfold flC tA at HO
  unfold flC
  clear hT hst hm hl
  go_enter Tryz.func150, Tryz.ntmps150
  go_upto_region 3 with fail
  have HB1 := hid' (bl_two15 w (.cells #[.string y, .int .i64 t, .int .i64 q] 68) (.cells #[.func (.func 180) #[] #[]] 217))
  have HF : Hid (Ar ((w.alloc (.cells #[.string y, .int .i64 t, .int .i64 q] 68)).alloc (.cells #[.func (.func 180) #[] #[]] 217)) w.heap.size 68 #[.string y, .int .i64 t, .int .i64 q]) := hid' (Ar.keep (heap_alloc_last w _) (bl_alloc _ _))
  obtain ⟨xb, hxb⟩ : ∃ xb, w.heap.size = xb := ⟨_, rfl⟩
  rw [hxb] at HF ⊢
  obtain ⟨b7, hb7⟩ : ∃ b7, xb + 1 = b7 := ⟨_, rfl⟩
  rw [hb7]
  generalize (w.alloc (.cells #[.string y, .int .i64 t, .int .i64 q] 68)).alloc (.cells #[.func (.func 180) #[] #[]] 217) = w1 at *
  clear hb7 hxb
  go_wp2_with fail
  refine (HP.out _).mono ?_
  rintro e w2 ⟨⟨n, ro, rc, rfl, hn, hown⟩, hb2⟩
  have HB2 := hid' (below_two HB1.out hb2)
  have HF2 := hid' (HF.out.keep hb2)
  clear hb2 hown hn
  have p0 := HF2.out.cell 0 _ rfl
  have p1 := HF2.out.cell 1 _ rfl
  have p2 := HF2.out.cell 2 _ rfl
  go_wp2_with fail
  refine (HO.out _ (tab_below HT.out HB2.out)).mono ?_
  rintro e w3 ⟨rfl, hb3⟩
  have HB3 := hid' (below_two HB2.out hb3)
  clear hb3 p0 p1 p2 HF2
  have HB4 := hid' (below_two HB3.out (bl_alloc w3 (.cells #[.bool false, .string ⟨m.toArray⟩] 251)))
  go_wp2
  go_ret
  exact ⟨by rw [HR.out]; rfl, HB4.out⟩

set_option maxRecDepth 20000 in
theorem cnmW19 (s : ByteArray) (l : List UInt8) (hl : s.data.toList = l) (y : ByteArray) (t q : Int) (m : List UInt8) (hm : Tg.mk q y.size = m) (w : World) (hs : s.size ≤ 1048576) (hy : y.size ≤ 9223372036854775807) (q0 : -9223372036854775808 ≤ q) (q1 : q ≤ 9223372036854775807) (hT : Lib.TabIs Tryz.prog w "internal/strconv.uint64pow10" .u64 Lib.pow10Tab) :
  Calls Tryz.prog 150 #[.string s, .agg (flC y t q), .bool true, .func (.func 151) #[] #[]] w fun e w' => e = .returned (.bool (Tg.nmB Tg.weak l m)) ∧ Below w.heap.size w w' := by
 cases hst : Tg.star l
 ·by_cases hne : 0 < (Tg.tags l).length
  ·refine (cnmW15 s l hl _ rfl hst hne y t q m hm _ rfl w hs hy q0 q1 hT).mono ?_
   rintro e w' ⟨rfl, hb⟩
   exact ⟨by unfold Tg.nmB; rw [hst]; rfl, hb⟩
  ·have HR : Hid (Tg.nmB Tg.weak l m = false) := hid' (by
    unfold Tg.nmB
    rw [hst, List.eq_nil_of_length_eq_zero (by omega : (Tg.tags l).length = 0)]
    rfl)
   have HL0 : Hid ((Tg.tags l).length = 0) := hid' (by omega)
   have HT := hid' hT
   have HP := hid' (fun W => cparse15 s l hl W hs)
   rw [hst] at HP
   have HO := hid' (fun W (h : Lib.TabIs Tryz.prog W "internal/strconv.uint64pow10" .u64 Lib.pow10Tab) => cown15 y t q m hm W hy q0 q1 h)
   unfold flC tA at HO
   unfold flC
   clear hT hst hm hne hl
   go_enter Tryz.func150, Tryz.ntmps150
   go_upto_region 3 with fail
   have HB1 := hid' (bl_two15 w (.cells #[.string y, .int .i64 t, .int .i64 q] 68) (.cells #[.func (.func 151) #[] #[]] 217))
   have HF : Hid (Ar ((w.alloc (.cells #[.string y, .int .i64 t, .int .i64 q] 68)).alloc (.cells #[.func (.func 151) #[] #[]] 217)) w.heap.size 68 #[.string y, .int .i64 t, .int .i64 q]) := hid' (Ar.keep (heap_alloc_last w _) (bl_alloc _ _))
   obtain ⟨xb, hxb⟩ : ∃ xb, w.heap.size = xb := ⟨_, rfl⟩
   rw [hxb] at HF ⊢
   obtain ⟨b7, hb7⟩ : ∃ b7, xb + 1 = b7 := ⟨_, rfl⟩
   rw [hb7]
   generalize (w.alloc (.cells #[.string y, .int .i64 t, .int .i64 q] 68)).alloc (.cells #[.func (.func 151) #[] #[]] 217) = w1 at *
   clear hb7 hxb
   go_wp2_with fail
   refine (HP.out _).mono ?_
   rintro e w2 ⟨⟨n, ro, rc, rfl, hn, hown⟩, hb2⟩
   obtain rfl : n = 0 := hn.symm.trans HL0.out
   have HB2 := hid' (below_two HB1.out hb2)
   have HF2 := hid' (HF.out.keep hb2)
   clear hb2 hown hn
   have p0 := HF2.out.cell 0 _ rfl
   have p1 := HF2.out.cell 1 _ rfl
   have p2 := HF2.out.cell 2 _ rfl
   go_wp2_with fail
   refine (HO.out _ (tab_below HT.out HB2.out)).mono ?_
   rintro e w3 ⟨rfl, hb3⟩
   have HB3 := hid' (below_two HB2.out hb3)
   clear hb3 p0 p1 p2 HF2
   have HB4 := hid' (below_two HB3.out (bl_alloc w3 (.cells #[.bool false, .string ⟨m.toArray⟩] 251)))
   go_wp2_with fail
   refine (ccont0 ro rc _ _).mono ?_
   rintro e w5 ⟨rfl, hw5⟩
   subst w5
   go_wp2
   go_ret
   exact ⟨by rw [HR.out]; rfl, HB4.out⟩
 ·have HR : Hid (Tg.nmB Tg.weak l m = true) := hid' (by unfold Tg.nmB; rw [hst]; rfl)
  have HT := hid' hT
  have HP := hid' (fun W => cparse15 s l hl W hs)
  rw [hst] at HP
  have HO := hid' (fun W (h : Lib.TabIs Tryz.prog W "internal/strconv.uint64pow10" .u64 Lib.pow10Tab) => cown15 y t q m hm W hy q0 q1 h)
  unfold flC tA at HO
  unfold flC
  clear hT hst hm hl
  go_enter Tryz.func150, Tryz.ntmps150
  go_upto_region 3 with fail
  have HB1 := hid' (bl_two15 w (.cells #[.string y, .int .i64 t, .int .i64 q] 68) (.cells #[.func (.func 151) #[] #[]] 217))
  have HF : Hid (Ar ((w.alloc (.cells #[.string y, .int .i64 t, .int .i64 q] 68)).alloc (.cells #[.func (.func 151) #[] #[]] 217)) w.heap.size 68 #[.string y, .int .i64 t, .int .i64 q]) := hid' (Ar.keep (heap_alloc_last w _) (bl_alloc _ _))
  obtain ⟨xb, hxb⟩ : ∃ xb, w.heap.size = xb := ⟨_, rfl⟩
  rw [hxb] at HF ⊢
  obtain ⟨b7, hb7⟩ : ∃ b7, xb + 1 = b7 := ⟨_, rfl⟩
  rw [hb7]
  generalize (w.alloc (.cells #[.string y, .int .i64 t, .int .i64 q] 68)).alloc (.cells #[.func (.func 151) #[] #[]] 217) = w1 at *
  clear hb7 hxb
  go_wp2_with fail
  refine (HP.out _).mono ?_
  rintro e w2 ⟨⟨n, ro, rc, rfl, hn, hown⟩, hb2⟩
  have HB2 := hid' (below_two HB1.out hb2)
  have HF2 := hid' (HF.out.keep hb2)
  clear hb2 hown hn
  have p0 := HF2.out.cell 0 _ rfl
  have p1 := HF2.out.cell 1 _ rfl
  have p2 := HF2.out.cell 2 _ rfl
  go_wp2_with fail
  refine (HO.out _ (tab_below HT.out HB2.out)).mono ?_
  rintro e w3 ⟨rfl, hb3⟩
  have HB3 := hid' (below_two HB2.out hb3)
  clear hb3 p0 p1 p2 HF2
  have HB4 := hid' (below_two HB3.out (bl_alloc w3 (.cells #[.bool false, .string ⟨m.toArray⟩] 251)))
  go_wp2
  go_ret
  exact ⟨by rw [HR.out]; rfl, HB4.out⟩


set_option maxRecDepth 20000 in
theorem cmay19 (v : Value) (l : List Fd) (y : ByteArray) (t q : Int) (m : List UInt8) (hm : Tg.mk q y.size = m) (w : World) (h : FW w v l) (hl : l.length ≤ 1048576) (hz : Tg.vsz l ≤ 1048576) (hy : y.size ≤ 9223372036854775807) (q0 : -9223372036854775808 ≤ q) (q1 : q ≤ 9223372036854775807) (hT : Lib.TabIs Tryz.prog w "internal/strconv.uint64pow10" .u64 Lib.pow10Tab) :
  Calls Tryz.prog 148 #[v, .agg (flC y t q), .bool true] w fun e w' => e = .returned (.bool (Tg.may l m t)) ∧ Below w.heap.size w w' := by
 obtain ⟨ao, cap, rfl⟩ := h.shape
 have HW := hid' h
 have HT := hid' hT
 have HV := hid' (fun W (hW : FW W (.slice ao l.length cap) l) => cvalue19 (.slice ao l.length cap) l ⟨#[105, 102, 45, 109, 97, 116, 99, 104]⟩ Tg.nIM rfl W hW hl hz)
 have HD := hid' (fun W (hW : FW W (.slice ao l.length cap) l) (h : Lib.TabIs Tryz.prog W "internal/strconv.uint64pow10" .u64 Lib.pow10Tab) => cdate19 (.slice ao l.length cap) l ⟨#[105, 102, 45, 117, 110, 109, 111, 100, 105, 102, 105, 101, 100, 45, 115, 105, 110, 99, 101]⟩ Tg.nIU rfl W hW hl h)
 have HN := hid' (fun W (h : Lib.TabIs Tryz.prog W "internal/strconv.uint64pow10" .u64 Lib.pow10Tab) => cnmS19 ⟨(Tg.vjoin l Tg.nIM).toArray⟩ (Tg.vjoin l Tg.nIM) rfl y t q m hm W (Nat.le_trans (Tg.vjoin_len l Tg.nIM) hz) hy q0 q1 h)
 unfold flC at HN
 have HR : Hid (Tg.may l m t = if (Tg.vals l Tg.nIM).isEmpty then (!(Tg.dte l Tg.nIU).2 || decide (t ≤ (Tg.dte l Tg.nIU).1)) else Tg.nmB Tg.strong (Tg.vjoin l Tg.nIM) m) := hid' rfl
 clear h hT hl hz hm
 generalize (Tg.vals l Tg.nIM).isEmpty = b at *
 generalize Tg.vjoin l Tg.nIM = jn at *
 generalize Tg.nmB Tg.strong jn m = r at *
 generalize (Tg.dte l Tg.nIU).1 = da at *
 generalize (Tg.dte l Tg.nIU).2 = dc at *
 generalize l.length = n at *
 have HFB := hid' (bl_alloc w (.cells #[.string y, .int .i64 t, .int .i64 q] 68))
 have HX : Hid (Ar (w.alloc (.cells #[.string y, .int .i64 t, .int .i64 q] 68)) w.heap.size 68 #[.string y, .int .i64 t, .int .i64 q]) := hid' (heap_alloc_last w _)
 unfold flC
 go_enter Tryz.func148, Tryz.ntmps148
 go_upto_region 1 with fail
 obtain ⟨xb, hxb⟩ : ∃ xb, w.heap.size = xb := ⟨_, rfl⟩
 rw [hxb] at HX ⊢
 generalize w.alloc (.cells #[.string y, .int .i64 t, .int .i64 q] 68) = w1 at *
 clear hxb
 have HB1 := HFB
 go_wp2_with fail
 refine (HV.out _ (HW.out.keep HB1.out)).mono ?_
 rintro e w2 ⟨rfl, hb2⟩
 have HB2 := hid' (below_two HB1.out hb2)
 have HX2 := hid' (HX.out.keep hb2)
 clear hb2
 cases b
 ·have p0 := HX2.out.cell 0 _ rfl
  have p1 := HX2.out.cell 1 _ rfl
  have p2 := HX2.out.cell 2 _ rfl
  go_wp2_with fail
  refine (HN.out _ (tab_below HT.out HB2.out)).mono ?_
  rintro e w3 ⟨rfl, hb3⟩
  have HB3 := hid' (below_two HB2.out hb3)
  have HX3 := hid' (HX2.out.keep hb3)
  clear hb3
  go_wp2
  go_ret
  exact ⟨by rw [HR.out]; rfl, HB3.out⟩
 ·go_wp2_with fail
  refine (HD.out _ (HW.out.keep HB2.out) (tab_below HT.out HB2.out)).mono ?_
  rintro e w3 ⟨rfl, hb3⟩
  have HB3 := hid' (below_two HB2.out hb3)
  have HX3 := hid' (HX2.out.keep hb3)
  clear hb3
  cases dc
  ·go_wp2
   go_ret
   exact ⟨by rw [HR.out]; rfl, HB3.out⟩
  ·have p0 := HX3.out.cell 0 _ rfl
   have p1 := HX3.out.cell 1 _ rfl
   have p2 := HX3.out.cell 2 _ rfl
   go_wp2
   go_ret
   exact ⟨by rw [HR.out]; rfl, HB3.out⟩

set_option maxRecDepth 20000 in
theorem cdec19 (mt : ByteArray) (bG bH : Bool) (g1 : (mt.toList == [71, 69, 84]) = bG) (g2 : (mt.toList == [72, 69, 65, 68]) = bH) (v : Value) (l : List Fd) (y : ByteArray) (t q : Int) (m : List UInt8) (hm : Tg.mk q y.size = m) (w : World) (h : FW w v l) (hl : l.length ≤ 1048576) (hz : Tg.vsz l ≤ 1048576) (hy : y.size ≤ 9223372036854775807) (q0 : -9223372036854775808 ≤ q) (q1 : q ≤ 9223372036854775807) (hT : Lib.TabIs Tryz.prog w "internal/strconv.uint64pow10" .u64 Lib.pow10Tab) :
  Calls Tryz.prog 117 #[.string mt, v, .agg (flC y t q), .bool true] w fun e w' => e = .returned (.int .i64 (Tg.dec (bG || bH) l m t)) ∧ Below w.heap.size w w' := by
 obtain ⟨ao, cap, rfl⟩ := h.shape
 have HW := hid' h
 have HT := hid' hT
 have HG1 := hid' g1
 have HG2 := hid' g2
 have HM := hid' (fun W (hW : FW W (.slice ao l.length cap) l) (h : Lib.TabIs Tryz.prog W "internal/strconv.uint64pow10" .u64 Lib.pow10Tab) => cmay19 (.slice ao l.length cap) l y t q m hm W hW hl hz hy q0 q1 h)
 unfold flC at HM
 have HV := hid' (fun W (hW : FW W (.slice ao l.length cap) l) => cvalue19 (.slice ao l.length cap) l ⟨#[105, 102, 45, 110, 111, 110, 101, 45, 109, 97, 116, 99, 104]⟩ Tg.nNM rfl W hW hl hz)
 have HD := hid' (fun W (hW : FW W (.slice ao l.length cap) l) (h : Lib.TabIs Tryz.prog W "internal/strconv.uint64pow10" .u64 Lib.pow10Tab) => cdate19 (.slice ao l.length cap) l ⟨#[105, 102, 45, 109, 111, 100, 105, 102, 105, 101, 100, 45, 115, 105, 110, 99, 101]⟩ Tg.nMS rfl W hW hl h)
 have HN := hid' (fun W (h : Lib.TabIs Tryz.prog W "internal/strconv.uint64pow10" .u64 Lib.pow10Tab) => cnmW19 ⟨(Tg.vjoin l Tg.nNM).toArray⟩ (Tg.vjoin l Tg.nNM) rfl y t q m hm W (Nat.le_trans (Tg.vjoin_len l Tg.nNM) hz) hy q0 q1 h)
 unfold flC at HN
 have HR : Hid (Tg.dec (bG || bH) l m t = if Tg.may l m t then (if (Tg.vals l Tg.nNM).isEmpty then (if (Tg.dte l Tg.nMS).2 && ((bG || bH) && decide (t ≤ (Tg.dte l Tg.nMS).1)) then 304 else 0) else if Tg.nmB Tg.weak (Tg.vjoin l Tg.nNM) m then (if (bG || bH) then 304 else 412) else 0) else 412) := hid' rfl
 clear h hT hl hz hm g1 g2
 generalize Tg.may l m t = mg at *
 generalize (Tg.vals l Tg.nNM).isEmpty = b at *
 generalize Tg.vjoin l Tg.nNM = jn at *
 generalize Tg.nmB Tg.weak jn m = r at *
 generalize (Tg.dte l Tg.nMS).1 = da at *
 generalize (Tg.dte l Tg.nMS).2 = dc at *
 generalize l.length = n at *
 have HFB := hid' (bl_alloc w (.cells #[.string y, .int .i64 t, .int .i64 q] 68))
 have HX : Hid (Ar (w.alloc (.cells #[.string y, .int .i64 t, .int .i64 q] 68)) w.heap.size 68 #[.string y, .int .i64 t, .int .i64 q]) := hid' (heap_alloc_last w _)
 unfold flC
 go_enter Tryz.func117, Tryz.ntmps117
 go_upto_region 1 with fail
 obtain ⟨xb, hxb⟩ : ∃ xb, w.heap.size = xb := ⟨_, rfl⟩
 rw [hxb] at HX ⊢
 generalize w.alloc (.cells #[.string y, .int .i64 t, .int .i64 q] 68) = w1 at *
 clear hxb
 have HB1 := HFB
 have p0 := HX.out.cell 0 _ rfl
 have p1 := HX.out.cell 1 _ rfl
 have p2 := HX.out.cell 2 _ rfl
 go_wp2_with fail
 refine (HM.out _ (HW.out.keep HB1.out) (tab_below HT.out HB1.out)).mono ?_
 rintro e w2 ⟨rfl, hb2⟩
 have HB2 := hid' (below_two HB1.out hb2)
 have HX2 := hid' (HX.out.keep hb2)
 clear hb2 p0 p1 p2
 cases mg
 ·go_wp2
  go_ret
  exact ⟨by rw [HR.out]; rfl, HB2.out⟩
 ·have k1 := HG1.out
  have k2 := HG2.out
  cases bG
  ·cases bH
   ·go_wp2_with fail
    refine (HV.out _ (HW.out.keep HB2.out)).mono ?_
    rintro e w3 ⟨rfl, hb3⟩
    have HB3 := hid' (below_two HB2.out hb3)
    have HX3 := hid' (HX2.out.keep hb3)
    clear hb3
    cases b
    ·have p0 := HX3.out.cell 0 _ rfl
     have p1 := HX3.out.cell 1 _ rfl
     have p2 := HX3.out.cell 2 _ rfl
     go_wp2_with fail
     refine (HN.out _ (tab_below HT.out HB3.out)).mono ?_
     rintro e w4 ⟨rfl, hb4⟩
     have HB4 := hid' (below_two HB3.out hb4)
     have HX4 := hid' (HX3.out.keep hb4)
     clear hb4 p0 p1 p2
     cases r
     ·go_wp2
      go_ret
      exact ⟨by rw [HR.out]; rfl, HB4.out⟩
     ·go_wp2
      go_ret
      exact ⟨by rw [HR.out]; rfl, HB4.out⟩
    ·go_wp2_with fail
     refine (HD.out _ (HW.out.keep HB3.out) (tab_below HT.out HB3.out)).mono ?_
     rintro e w4 ⟨rfl, hb4⟩
     have HB4 := hid' (below_two HB3.out hb4)
     have HX4 := hid' (HX3.out.keep hb4)
     clear hb4
     cases dc
     ·go_wp2
      go_ret
      exact ⟨by rw [HR.out]; rfl, HB4.out⟩
     ·have p0 := HX4.out.cell 0 _ rfl
      have p1 := HX4.out.cell 1 _ rfl
      have p2 := HX4.out.cell 2 _ rfl
      by_cases hle : t ≤ da
      ·have hd : decide (t ≤ da) = true := decide_eq_true hle
       go_wp2
       go_ret
       exact ⟨by rw [HR.out, hd]; rfl, HB4.out⟩
      ·have hd : decide (t ≤ da) = false := decide_eq_false hle
       go_wp2
       go_ret
       exact ⟨by rw [HR.out, hd]; rfl, HB4.out⟩
   ·go_wp2_with fail
    refine (HV.out _ (HW.out.keep HB2.out)).mono ?_
    rintro e w3 ⟨rfl, hb3⟩
    have HB3 := hid' (below_two HB2.out hb3)
    have HX3 := hid' (HX2.out.keep hb3)
    clear hb3
    cases b
    ·have p0 := HX3.out.cell 0 _ rfl
     have p1 := HX3.out.cell 1 _ rfl
     have p2 := HX3.out.cell 2 _ rfl
     go_wp2_with fail
     refine (HN.out _ (tab_below HT.out HB3.out)).mono ?_
     rintro e w4 ⟨rfl, hb4⟩
     have HB4 := hid' (below_two HB3.out hb4)
     have HX4 := hid' (HX3.out.keep hb4)
     clear hb4 p0 p1 p2
     cases r
     ·go_wp2
      go_ret
      exact ⟨by rw [HR.out]; rfl, HB4.out⟩
     ·go_wp2
      go_ret
      exact ⟨by rw [HR.out]; rfl, HB4.out⟩
    ·go_wp2_with fail
     refine (HD.out _ (HW.out.keep HB3.out) (tab_below HT.out HB3.out)).mono ?_
     rintro e w4 ⟨rfl, hb4⟩
     have HB4 := hid' (below_two HB3.out hb4)
     have HX4 := hid' (HX3.out.keep hb4)
     clear hb4
     cases dc
     ·go_wp2
      go_ret
      exact ⟨by rw [HR.out]; rfl, HB4.out⟩
     ·have p0 := HX4.out.cell 0 _ rfl
      have p1 := HX4.out.cell 1 _ rfl
      have p2 := HX4.out.cell 2 _ rfl
      by_cases hle : t ≤ da
      ·have hd : decide (t ≤ da) = true := decide_eq_true hle
       go_wp2
       go_ret
       exact ⟨by rw [HR.out, hd]; rfl, HB4.out⟩
      ·have hd : decide (t ≤ da) = false := decide_eq_false hle
       go_wp2
       go_ret
       exact ⟨by rw [HR.out, hd]; rfl, HB4.out⟩
  ·go_wp2_with fail
   refine (HV.out _ (HW.out.keep HB2.out)).mono ?_
   rintro e w3 ⟨rfl, hb3⟩
   have HB3 := hid' (below_two HB2.out hb3)
   have HX3 := hid' (HX2.out.keep hb3)
   clear hb3
   cases b
   ·have p0 := HX3.out.cell 0 _ rfl
    have p1 := HX3.out.cell 1 _ rfl
    have p2 := HX3.out.cell 2 _ rfl
    go_wp2_with fail
    refine (HN.out _ (tab_below HT.out HB3.out)).mono ?_
    rintro e w4 ⟨rfl, hb4⟩
    have HB4 := hid' (below_two HB3.out hb4)
    have HX4 := hid' (HX3.out.keep hb4)
    clear hb4 p0 p1 p2
    cases r
    ·go_wp2
     go_ret
     exact ⟨by rw [HR.out]; rfl, HB4.out⟩
    ·go_wp2
     go_ret
     exact ⟨by rw [HR.out]; rfl, HB4.out⟩
   ·go_wp2_with fail
    refine (HD.out _ (HW.out.keep HB3.out) (tab_below HT.out HB3.out)).mono ?_
    rintro e w4 ⟨rfl, hb4⟩
    have HB4 := hid' (below_two HB3.out hb4)
    have HX4 := hid' (HX3.out.keep hb4)
    clear hb4
    cases dc
    ·go_wp2
     go_ret
     exact ⟨by rw [HR.out]; rfl, HB4.out⟩
    ·have p0 := HX4.out.cell 0 _ rfl
     have p1 := HX4.out.cell 1 _ rfl
     have p2 := HX4.out.cell 2 _ rfl
     by_cases hle : t ≤ da
     ·have hd : decide (t ≤ da) = true := decide_eq_true hle
      go_wp2
      go_ret
      exact ⟨by rw [HR.out, hd]; rfl, HB4.out⟩
     ·have hd : decide (t ≤ da) = false := decide_eq_false hle
      go_wp2
      go_ret
      exact ⟨by rw [HR.out, hd]; rfl, HB4.out⟩

set_option maxRecDepth 20000 in
theorem csame19 (v : Value) (l : List Fd) (y : ByteArray) (t q : Int) (m : List UInt8) (hm : Tg.mk q y.size = m) (w : World) (h : FW w v l) (hl : l.length ≤ 1048576) (hz : Tg.vsz l ≤ 1048576) (hy : y.size ≤ 9223372036854775807) (q0 : -9223372036854775808 ≤ q) (q1 : q ≤ 9223372036854775807) (hT : Lib.TabIs Tryz.prog w "internal/strconv.uint64pow10" .u64 Lib.pow10Tab) :
  Calls Tryz.prog 155 #[v, .agg (flC y t q)] w fun e w' => e = .returned (.bool (Tg.sam l m t)) ∧ Below w.heap.size w w' := by
 obtain ⟨ao, cap, rfl⟩ := h.shape
 have HW := hid' h
 have HT := hid' hT
 have HV := hid' (fun W (hW : FW W (.slice ao l.length cap) l) => cvalue19 (.slice ao l.length cap) l ⟨#[105, 102, 45, 114, 97, 110, 103, 101]⟩ Tg.nIR rfl W hW hl hz)
 have HP := hid' (fun W => cparse15 ⟨(Tg.vjoin l Tg.nIR).toArray⟩ (Tg.vjoin l Tg.nIR) rfl W (Nat.le_trans (Tg.vjoin_len l Tg.nIR) hz))
 have HD := hid' (fun W (h : Lib.TabIs Tryz.prog W "internal/strconv.uint64pow10" .u64 Lib.pow10Tab) => cdprs19 ⟨(Tg.vjoin l Tg.nIR).toArray⟩ W h)
 have HO := hid' (fun W (h : Lib.TabIs Tryz.prog W "internal/strconv.uint64pow10" .u64 Lib.pow10Tab) => cown15 y t q m hm W hy q0 q1 h)
 unfold flC tA at HO
 have HS0' := hid' (fun x W => cstrong15 x ⟨false, m⟩ _ rfl W)
 have HR : Hid (Tg.sam l m t = if (Tg.vals l Tg.nIR).isEmpty then true else match Tg.tags (Tg.vjoin l Tg.nIR) with | [x] => Tg.strong x ⟨false, m⟩ | _ => (Tg.dprs (Tg.vjoin l Tg.nIR)).2 == 0 && (Tg.dprs (Tg.vjoin l Tg.nIR)).1 == t) := hid' rfl
 clear h hT hl hz hm
 generalize (Tg.vals l Tg.nIR).isEmpty = b at *
 generalize Tg.vjoin l Tg.nIR = jn at *
 rw [show (⟨jn.toArray⟩ : ByteArray).data.toList = jn from rfl] at HD
 generalize Tg.tags jn = ts at *
 generalize (Tg.dprs jn).1 = da at *
 generalize (Tg.dprs jn).2 = dc at *
 generalize Tg.star jn = st at *
 generalize Tg.err jn = er at *
 generalize l.length = len at *
 have HFB := hid' (bl_alloc w (.cells #[.string y, .int .i64 t, .int .i64 q] 68))
 have HX : Hid (Ar (w.alloc (.cells #[.string y, .int .i64 t, .int .i64 q] 68)) w.heap.size 68 #[.string y, .int .i64 t, .int .i64 q]) := hid' (heap_alloc_last w _)
 unfold flC
 go_enter Tryz.func155, Tryz.ntmps155
 go_upto_region 1 with fail
 obtain ⟨xb, hxb⟩ : ∃ xb, w.heap.size = xb := ⟨_, rfl⟩
 rw [hxb] at HX ⊢
 generalize w.alloc (.cells #[.string y, .int .i64 t, .int .i64 q] 68) = w1 at *
 clear hxb
 have HB1 := HFB
 go_wp2_with fail
 refine (HV.out _ (HW.out.keep HB1.out)).mono ?_
 rintro e w2 ⟨rfl, hb2⟩
 have HB2 := hid' (below_two HB1.out hb2)
 have HX2 := hid' (HX.out.keep hb2)
 clear hb2
 cases b
 ·go_wp2_with fail
  refine (HP.out _).mono ?_
  rintro e w3 ⟨⟨n, ro, rc, rfl, hn, hown⟩, hb3⟩
  have HB3 := hid' (below_two HB2.out hb3)
  have HX3 := hid' (HX2.out.keep hb3)
  by_cases h1 : n = 1
  ·subst h1
   match ts, hn, hown, HR with
   | [x], _, hown, HR =>
    have HR2 : Hid (Tg.sam l m t = Tg.strong x ⟨false, m⟩) := hid' HR.out
    have HS := hid' (HS0'.out x)
    unfold tA at HS
    generalize Tg.strong x ⟨false, m⟩ = r at *
    obtain ⟨g, rfl, c0, c1⟩ := own_two hown 0 x rfl
    have HG := hid' (own_lt hown g rfl)
    clear hb3 hown HS0' HP HD HV HR
    go_upto_region 6 with fail
    have p0 := HX3.out.cell 0 _ rfl
    have p1 := HX3.out.cell 1 _ rfl
    have p2 := HX3.out.cell 2 _ rfl
    have d0 : w3.cell? ⟨g, 0, none⟩ = some (.bool x.w) := c0
    have d1 : w3.cell? ⟨g, 1, none⟩ = some (.string ⟨x.v.toArray⟩) := c1
    have hS : w3.cell? ⟨g, 0, none⟩ = some (.bool x.w) ∧ w3.cell? ⟨g, 1, none⟩ = some (.string ⟨x.v.toArray⟩) ∧ w3.cell? ⟨xb, 0, none⟩ = some (.string y) ∧ w3.cell? ⟨xb, 1, none⟩ = some (.int .i64 t) ∧ w3.cell? ⟨xb, 2, none⟩ = some (.int .i64 q) := ⟨d0, d1, p0, p1, p2⟩
    have HS0 := hid' hS
    clear c0 c1 p0 p1 p2 d0 d1
    go_region_held3 (fun W => W.cell? ⟨g, 0, none⟩ = some (.bool x.w) ∧ W.cell? ⟨g, 1, none⟩ = some (.string ⟨x.v.toArray⟩) ∧ W.cell? ⟨xb, 0, none⟩ = some (.string y) ∧ W.cell? ⟨xb, 1, none⟩ = some (.int .i64 t) ∧ W.cell? ⟨xb, 2, none⟩ = some (.int .i64 q)) (first | assumption) (first
     | (go_at_call 183; refine (HO.out _ (tab_below HT.out HB3.out.drew)).mono ?_; rintro e wa ⟨rfl, hba⟩; have hba2 : Below w3.heap.size w3 wa := ⟨hba.os, hba.tape, hba.output, hba.size, hba.block⟩; have HBa := hid' hba2; have hxa := HX3.out.keep hba2; have hSa := And.intro ((hba2.cell (p := ⟨g, 0, none⟩) HG.out).trans HS0.out.1) (And.intro ((hba2.cell (p := ⟨g, 1, none⟩) HG.out).trans HS0.out.2.1) (And.intro (hxa.cell 0 _ rfl) (And.intro (hxa.cell 1 _ rfl) (hxa.cell 2 _ rfl)))); have HSa := hid' hSa; have HXa := hid' hxa; clear hba hba2 hxa)
     | (go_at_call 180; refine (HS.out _).mono ?_; rintro e wb ⟨rfl, hbb⟩; have hxb := HXa.out.keep hbb; have HGa := Nat.lt_of_lt_of_le HG.out HBa.out.size; have hSb := And.intro ((hbb.cell (p := ⟨g, 0, none⟩) HGa).trans HSa.out.1) (And.intro ((hbb.cell (p := ⟨g, 1, none⟩) HGa).trans HSa.out.2.1) (And.intro (hxb.cell 0 _ rfl) (And.intro (hxb.cell 1 _ rfl) (hxb.cell 2 _ rfl)))); have HBb := hid' (below_two HBa.out hbb); clear hbb hxb HGa))
    go_wp2
    go_ret
    exact ⟨by rw [HR2.out]; rfl, below_two HB3.out HBb.out⟩
  ·have hm1 : ((n : Int) == 1) = false := by simp; omega
   have HR2 : Hid (Tg.sam l m t = (dc == 0 && da == t)) := hid' (by
    rw [HR.out]
    match ts, hn with
    | [], _ => rfl
    | [x], hn => exact absurd hn.symm h1
    | _ :: _ :: _, _ => rfl)
   clear hb3 hown hn HS0' HP HV HR h1 HO
   go_wp2_with fail
   refine (HD.out _ (tab_below HT.out HB3.out)).mono ?_
   rintro e w4 ⟨rfl, hb4⟩
   have HB4 := hid' (below_two HB3.out hb4)
   have HX4 := hid' (HX3.out.keep hb4)
   clear hb4
   have p0 := HX4.out.cell 0 _ rfl
   have p1 := HX4.out.cell 1 _ rfl
   have p2 := HX4.out.cell 2 _ rfl
   by_cases hdc : dc = 0
   ·subst hdc
    go_wp2
    go_ret
    exact ⟨by rw [HR2.out]; rfl, HB4.out⟩
   ·have hd0 : (dc == 0) = false := by simp [hdc]
    go_wp2
    go_ret
    exact ⟨by rw [HR2.out, hd0]; rfl, HB4.out⟩
 ·go_wp2
  go_ret
  exact ⟨by rw [HR.out]; rfl, HB2.out⟩

end Go.Proofs.YtcfbobegbmcbeaaGreatDoor
