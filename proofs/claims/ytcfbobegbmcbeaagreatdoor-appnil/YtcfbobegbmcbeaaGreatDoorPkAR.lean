/-
  A match, and its parameters, in memory.
-/
import Derived.Test.YtcfbobegbmcbeaaGreatDoorPkAM
import Derived.Test.YtcfbobegbmcbeaaGreatDoorPkAQ
import Derived.Test.YtcfbobegbmcbeaaGreatDoorProg
import Derived.Test.YtcfbobegbmcbeaaGreatDoorPkAA
import Derived.Test.YtcfbobegbmcbeaaGreatDoorPkAJ
import Derived.Test.YtcfbobegbmcbeaaGreatDoorPkAP
import Derived.Test.YtcfbobegbmcbeaaGreatDoorShelfS
import Derived.Test.YtcfbobegbmcbeaaGreatDoorPkAN
namespace Go.Proofs.YtcfbobegbmcbeaaGreatDoor
open Go.RowKit

theorem infoPm18 : (Tryz.prog.info? 166).map (fun i => (i.zero, i.size, i.bytes)) = some (some (.agg #[.string ⟨#[]⟩, .string ⟨#[]⟩]), 2, 32) := by kernel_rfl
def qC18 (l : List (List UInt8 × List UInt8)) : List Value := l.flatMap fun x => [.string ⟨x.1.toArray⟩, .string ⟨x.2.toArray⟩]
theorem qC18_snoc (l : List (List UInt8 × List UInt8)) (x : List UInt8 × List UInt8) : qC18 (l ++ [x]) = qC18 l ++ [.string ⟨x.1.toArray⟩, .string ⟨x.2.toArray⟩] := by
 unfold qC18; rw [List.flatMap_append]; rfl
theorem sizeMt18 : (Tryz.prog.info? 105).map (·.size) = some 4 := by kernel_rfl
theorem zeroMt18 : (Tryz.prog.info? 105).map (fun i => i.zero) = some (some (.agg #[.int .i64 0, .int .i64 0, .slice none 0 0, .string ⟨#[]⟩])) := by kernel_rfl
theorem ldMt18 {w : World} {b : Nat} {x0 x1 x2 x3 : Value} (h : Ar w b 105 #[x0, x1, x2, x3]) : (loadVar 105 ⟨b, 0, none⟩).run Tryz.prog w = .ok (.agg #[x0, x1, x2, x3]) w :=
 run_loadVar_row (P := Tryz.prog) w b 105 105 _ (0, 0) _ h Tryz.underlying105 rfl sizeMt18
theorem own_ge18 {w : World} {B : Nat} {e : TypeId} {s : Nat} {v : Value} {n : Nat} {xs : List Value} (h : w.ownsRow B e s v n xs) (j : Nat) (hj : v.ownBlock = some j) : B ≤ j := by
 rcases h.2 with ⟨h1, _⟩ | ⟨g, cap, cur, h1, h2, _⟩
 ·rw [h1] at hj; simp [Value.ownBlock] at hj
 ·rw [h1] at hj; simp [Value.ownBlock] at hj; omega
def mtR18 (w : World) (q : Rt.Mt) (e : Ending) (w' : World) : Prop := ∃ m ro rc, e = .returned (.agg #[.int .i64 q.st, .int .i64 q.ro, .slice ro m rc, .string ⟨q.al.toArray⟩]) ∧ q.ps.length = m ∧ w'.ownsRow w.heap.size 166 2 (.slice ro m rc) m (qC18 q.ps)
theorem two_new18 (w : World) (T : TypeId) (x0 x1 : Value) : ∀ j v, [x0, x1][j]? = some v → (w.alloc (.cells #[x0, x1] T)).cell? ((⟨w.heap.size, 0, none⟩ : Addr).add j) = some v := by
 intro j v h
 rw [Addr.add_mid, Nat.zero_add]
 have hA : Ar (w.alloc (.cells #[x0, x1] T)) w.heap.size T #[x0, x1] := heap_alloc_last w _
 exact hA.cell j v (by simpa using h)

namespace Rt
theorem pats_len18 : ∀ (xs : List T8) {out ps : List Prt}, pats out xs = some ps → ps.length = out.length + xs.length := by
 intro xs
 induction xs with
 | nil => intro out ps h; rw [pats] at h; injection h with h; rw [← h]; rfl
 | cons x r ih =>
  intro out ps h
  rw [pats] at h
  split at h
  ·cases h
  ·split at h
   ·cases h
   ·rw [ih h, List.length_append]; simp only [List.length_cons, List.length_nil]; omega
theorem pat_len18 (r : Ro) : (pat r).length ≤ r.p.length + 1 := by
 unfold pat pattern
 split
 ·simp
 ·split
  ·cases h : pats [] (Pt.cutS [] (r.p.drop 1)) with
   | none => simp
   | some ps =>
    have h1 := pats_len18 _ h
    have h2 := Pt.cutS_len (r.p.drop 1)
    rw [List.length_drop] at h2
    rw [List.length_nil] at h1
    simp only [Option.getD_some]
    omega
  ·simp
theorem chk_at {rs : List Ro} {i : Nat} {r : Ro} (h : rs[i]? = some r) : chk (rs.take i) (rs.drop i) = if badRo r then 180 else if twice (rs.take i) r then 181 else chk (rs.take (i + 1)) (rs.drop (i + 1)) := by
 obtain ⟨h1, h2⟩ := List.getElem?_eq_some_iff.1 h
 rw [List.drop_eq_getElem_cons h1, h2, chk, List.take_add_one, h]
 rfl
theorem best_step {rs : List Ro} {i : Nat} {r : Ro} (h : rs[i]? = some r) (l : List T8) : best (rs.take (i + 1)) l = better l (best (rs.take i) l) r := by
 unfold best
 rw [List.take_add_one, h, List.foldl_append]
 rfl
theorem parts_sum (l : T8) : ((Pt.parts l).map List.length).sum + (Pt.parts l).length ≤ l.length + 1 := by
 have h := Pt.cutS_sum l
 unfold Pt.parts
 have key : ∀ (k : List T8), ((k.filter (fun p => !p.isEmpty)).map List.length).sum + (k.filter (fun p => !p.isEmpty)).length ≤ (k.map List.length).sum + k.length := by
  intro k
  induction k with
  | nil => simp
  | cons a r ih =>
   rw [List.filter_cons]
   split
   ·simp only [List.map_cons, List.sum_cons, List.length_cons]; omega
   ·simp only [List.map_cons, List.sum_cons, List.length_cons]; omega
 exact Nat.le_trans (key (Pt.cutS [] l)) (by omega)
end Rt

open Go.RowKit

namespace Ms
def bare (m : ByteArray) (s : Int) : Bool := m.toList == [72, 69, 65, 68] || (decide (100 ≤ s) && decide (s ≤ 199)) || s == 204 || s == 304
end Ms

set_option maxHeartbeats 2000000 in
theorem cbare14 (m : ByteArray) (s : Int) (r : Bool) (hr : Ms.bare m s = r) (w : World) :
  Calls Tryz.prog 35 #[.string m, .int .i64 s] w fun e w' => e = .returned (.bool r) ∧ w' = w := by
 have HR := hid' hr
 unfold Ms.bare at HR
 clear hr
 cases c1 : (m.toList == [72, 69, 65, 68])
 rotate_left
 ·have HF : Hid (r = true) := hid' (by rw [← HR.out, c1]; simp)
  by_cases d1 : 100 ≤ s
  ·by_cases d2 : s < 200
   ·have d3 : s ≤ 199 := by omega
    go_enter Tryz.func35, Tryz.ntmps35
    go_wp2
    go_ret
    exact ⟨by rw [HF.out]; rfl, rfl⟩
   ·have d3 : ¬ s ≤ 199 := by omega
    go_enter Tryz.func35, Tryz.ntmps35
    go_wp2
    go_ret
    exact ⟨by rw [HF.out]; rfl, rfl⟩
  ·go_enter Tryz.func35, Tryz.ntmps35
   go_wp2
   go_ret
   exact ⟨by rw [HF.out]; rfl, rfl⟩
 by_cases d1 : 100 ≤ s
 ·by_cases d2 : s < 200
  ·have d3 : s ≤ 199 := by omega
   have HF : Hid (r = true) := hid' (by rw [← HR.out, c1, decide_eq_true d1, decide_eq_true d3]; rfl)
   go_enter Tryz.func35, Tryz.ntmps35
   go_wp2
   go_ret
   exact ⟨by rw [HF.out]; rfl, rfl⟩
  ·have d3 : ¬ s ≤ 199 := by omega
   cases c2 : (s == 204)
   ·have HF : Hid (r = (s == 304)) := hid' (by rw [← HR.out, c1, decide_eq_true d1, decide_eq_false d3, c2]; rfl)
    go_enter Tryz.func35, Tryz.ntmps35
    go_wp2
    go_ret
    exact ⟨by rw [HF.out]; rfl, rfl⟩
   ·have HF : Hid (r = true) := hid' (by rw [← HR.out, c2]; simp)
    go_enter Tryz.func35, Tryz.ntmps35
    go_wp2
    go_ret
    exact ⟨by rw [HF.out]; rfl, rfl⟩
 ·have c2 : (s == 204) = false := beq_false_of_ne (by omega)
  have c3 : (s == 304) = false := beq_false_of_ne (by omega)
  have HF : Hid (r = false) := hid' (by rw [← HR.out, c1, decide_eq_false d1, c2, c3]; rfl)
  go_enter Tryz.func35, Tryz.ntmps35
  go_wp2
  go_ret
  exact ⟨by rw [HF.out]; rfl, rfl⟩

open Go.RowKit

def cC20 (sp : Value) (r : Ap.Rq) (fv tv : Value) (cl root : ByteArray) (pv : Value) : Array Value := #[sp, .string r.m, .string r.sc, .string r.au, .string r.p, fv, .string r.b, tv, .string cl, .string root, pv]
def RP20 (w w' : World) (e : Ending) (r : Ap.Rp) : Prop :=
 (∃ vo n vc uo m uc, e = .returned (.agg (rpC r.s (.slice vo n vc) ⟨r.b.toArray⟩ (.slice uo m uc))) ∧ r.fs.length = n ∧ w'.ownsRow w.heap.size 39 2 (.slice vo n vc) n (fC r.fs) ∧ r.ts.length = m ∧ w'.ownsRow w.heap.size 39 2 (.slice uo m uc) m (fC r.ts)) ∧ Below w.heap.size w w'
theorem rp_done20 (r : Ap.Rp) {w0 w wp wf : World} {rb n m : Nat} {vo uo : Option Addr} {vc uc : Nat} {s : Int} {b : ByteArray} (hs : r.s = s) (hbb : (⟨r.b.toArray⟩ : ByteArray) = b) (hw : Below w0.heap.size w0 w) (hrb : rb < w.heap.size) (hr0 : w0.heap.size ≤ rb) (hb : Below w.heap.size w wp)
  (hl : r.fs.length = n) (ho : wp.ownsRow w.heap.size 39 2 (.slice vo n vc) n (fC r.fs)) (hm : r.ts.length = m) (hp : wp.ownsRow w.heap.size 39 2 (.slice uo m uc) m (fC r.ts)) (hu : Upd rb wp wf) :
  RP20 w0 wf (.returned (.agg #[.int .i64 s, .slice vo n vc, .string b, .slice uo m uc])) r := by
 subst hs hbb
 exact ⟨⟨vo, n, vc, uo, m, uc, rfl, hl, own_upd19 ho hu hrb hw.size, hm, own_upd19 hp hu hrb hw.size⟩, (below_two hw hb).trans (hu.below hr0)⟩
theorem sizeCl20 : (Tryz.prog.info? 109).map (·.size) = some 11 := by kernel_rfl
theorem own_pm20 {w : World} {B : Nat} {ao : Option Addr} {n cap : Nat} {l : List (List UInt8 × List UInt8)} (h : w.ownsRow B 166 2 (.slice ao n cap) n (qC18 l)) (i : Nat) (c : List UInt8 × List UInt8) (hc : l[i]? = some c) : ∃ g, ao = some ⟨g, 0, none⟩ ∧ g < w.heap.size ∧ w.cell? ⟨g, i * 2, none⟩ = some (.string ⟨c.1.toArray⟩) ∧ w.cell? ⟨g, i * 2 + 1, none⟩ = some (.string ⟨c.2.toArray⟩) := by
 have key : ∀ (k : List (List UInt8 × List UInt8)) (i : Nat), k[i]? = some c → (qC18 k)[i * 2 + 0]? = some (.string ⟨c.1.toArray⟩) ∧ (qC18 k)[i * 2 + 1]? = some (.string ⟨c.2.toArray⟩) := by
  intro k
  induction k with
  | nil => intro i h; simp at h
  | cons a r ih =>
   intro i h
   rw [show qC18 (a :: r) = .string ⟨a.1.toArray⟩ :: .string ⟨a.2.toArray⟩ :: qC18 r from rfl]
   cases i with
   | zero => simp at h; subst h; exact ⟨rfl, rfl⟩
   | succ i =>
    rw [List.getElem?_cons_succ] at h
    rw [show (i + 1) * 2 + 0 = (i * 2 + 0) + 1 + 1 by omega, show (i + 1) * 2 + 1 = (i * 2 + 1) + 1 + 1 by omega]
    simp only [List.getElem?_cons_succ]
    exact ih i h
 obtain ⟨k0, k1⟩ := key l i hc
 have hlt := (List.getElem?_eq_some_iff.1 k1).1
 rcases h.2 with ⟨_, h0⟩ | ⟨g, cap', cur, h1, h2⟩
 ·rw [h.1, h0] at hlt; omega
 ·injection h1 with h1 h3 h4
  subst h1
  have c0 := h.cells (g := g) rfl _ _ k0
  have c1 := h.cells (g := g) rfl _ _ k1
  rw [Addr.add_mid, Nat.zero_add] at c0 c1
  exact ⟨g, rfl, own_lt h g rfl, c0, c1⟩

set_option maxHeartbeats 1000000 in
theorem cct20 (k : ByteArray) (w : World) :
  Calls Tryz.prog 93 #[.string k] w fun e w' => (∃ vo, e = .returned (.slice vo 1 1) ∧ w'.ownsRow w.heap.size 39 2 (.slice vo 1 1) 1 (fC [⟨Fs.str Fs.nCT, k⟩])) ∧ Below w.heap.size w w' := by
 go_enter Tryz.func93, Tryz.ntmps93
 go_wp2_with fail
 go_ret
 exact ⟨⟨_, rfl, own_lit19 w 39 (fC [⟨Fs.str Fs.nCT, k⟩]) 1 2 rfl (by decide) _ (Nat.le_refl _)⟩, bl_alloc19 w _⟩

set_option maxHeartbeats 4000000 in
set_option maxRecDepth 20000 in
theorem ckind20 (sp : Value) (r : Ap.Rq) (fv tv : Value) (cl root : ByteArray) (pv : Value) (w : World) (hf : FW w fv r.fs) (hl : r.fs.length ≤ 1048576) :
  Calls Tryz.prog 94 #[.agg (cC20 sp r fv tv cl root pv)] w fun e w' => e = .returned (.string (Ap.kindOf r.fs)) ∧ Below w.heap.size w w' := by
 obtain ⟨fo, fc, hv⟩ := hf.shape
 obtain ⟨m, sc, au, p, fs, b, ts⟩ := r
 simp only at hf hl hv ⊢
 obtain ⟨n, hn⟩ : ∃ n, fs.length = n := ⟨_, rfl⟩
 rw [hn] at hv hl
 subst hv
 have HF := hid' hf
 have HN := hid' hn
 clear hf hn
 unfold cC20
 go_enter Tryz.func94, Tryz.ntmps94
 go_wp2_with (refine wpl_box 109 _ rfl rfl #[sp, .string m, .string sc, .string au, .string p, .slice fo n fc, .string b, tv, .string cl, .string root, pv] (by kernel_rfl) ?_)
 intro xb w1 hg1 ha1 hb1
 have HB1 := hid' hb1
 have x5 := ha1.cell 5 _ rfl
 clear hg1 ha1 hb1
 go_wp2
 go_loopw [9] (fun s9 wr => ∃ i : Nat, s9 = .int .i64 (i : Int) ∧ i ≤ n ∧ Hid (∀ (j : Nat) (g : Fd), j < i → fs[j]? = some g → (g.n.data.toList == Fs.nCT) = false) ∧ Hid (Below w1.heap.size w1 wr)) (fun s9 _ => n - (intOf s9).toNat)
 case atStart => exact ⟨0, rfl, Nat.zero_le _, hid' (fun j g hj => absurd hj (Nat.not_lt_zero _)), hid' (Below.refl _ _)⟩
 case round =>
  obtain ⟨i, rfl, hi, HI, HBR⟩ := hrel
  by_cases hlt : i < n
  ·have hlt2 : (i : Int) < (n : Int) := by omega
   obtain ⟨f, hfi⟩ : ∃ f, fs[i]? = some f := ⟨_, List.getElem?_eq_getElem (by rw [HN.out]; exact hlt)⟩
   obtain ⟨a, hfo, y0, y1⟩ := (HF.out.keep (below_two HB1.out HBR.out)).two i f hfi
   subst hfo
   have HFI := hid' hfi
   have HLT := hid' hlt
   clear hfi hlt
   have HW : Hid (Ar (wr.alloc (.cells #[.string f.n, .string f.v] 39)) wr.heap.size 39 #[.string f.n, .string f.v]) := hid' (heap_alloc_last wr _)
   have HBW := hid' (below_two HBR.out (bl_alloc19 wr (.cells #[.string f.n, .string f.v] 39)))
   go_upto_region 4 with fail
   obtain ⟨sb, hsb⟩ : ∃ sb, wr.heap.size = sb := ⟨_, rfl⟩
   rw [hsb] at HW ⊢
   generalize wr.alloc (.cells #[.string f.n, .string f.v] 39) = w2 at *
   clear hsb y0 y1
   have z0 := HW.out.cell 0 _ rfl
   have z1 := HW.out.cell 1 _ rfl
   cases c1 : (f.n.toList == [99, 111, 110, 116, 101, 110, 116, 45, 116, 121, 112, 101])
   ·go_wp2
    go_roundw
    case rel =>
     refine ⟨i + 1, by go_num, by have := HLT.out; omega, hid' (fun j g hj hg => ?_), HBW⟩
     by_cases hji : j < i
     ·exact HI.out j g hji hg
     ·obtain rfl : j = i := by omega
      rw [HFI.out] at hg
      injection hg with hg
      subst hg
      rw [ba_list] at c1
      exact c1
    case measure => have := HLT.out; simp [intOf]; omega
   ·have HE : Hid (Ap.kindOf fs = f.v) := hid' (Ap.kind_some HI.out HFI.out (by rw [ba_list] at c1; exact c1))
    go_wp2
    go_ret
    exact ⟨by rw [HE.out]; rfl, below_two HB1.out HBW.out⟩
  ·obtain rfl : i = n := by omega
   have hlt2 : ¬ (i : Int) < (i : Int) := by omega
   have HE : Hid (Ap.kindOf fs = Fs.str Fs.vOC) := hid' (Ap.kind_none (fun j g hg => HI.out j g (by rw [← HN.out]; exact (List.getElem?_eq_some_iff.1 hg).1) hg))
   clear hlt
   go_wp2
   go_ret
   exact ⟨by rw [HE.out]; rfl, below_two HB1.out HBR.out⟩

set_option maxHeartbeats 4000000 in
set_option maxRecDepth 20000 in
theorem crest20 (sp : Value) (r : Ap.Rq) (fv tv : Value) (cl root : ByteArray) (po : Option Addr) (pm pc B : Nat) (ps : List (List UInt8 × List UInt8)) (w : World) (hm : ps.length = pm) (h : w.ownsRow B 166 2 (.slice po pm pc) pm (qC18 ps)) :
  Calls Tryz.prog 92 #[.agg (cC20 sp r fv tv cl root (.slice po pm pc))] w fun e w' => e = .returned (.string ⟨((ps.getLast?.map (·.2)).getD []).toArray⟩) ∧ Below w.heap.size w w' := by
 obtain ⟨m, sc, au, p, fs, b, ts⟩ := r
 unfold cC20
 simp only
 by_cases h0 : pm = 0
 ·subst h0
  obtain rfl : ps = [] := List.eq_nil_of_length_eq_zero hm
  clear h hm
  go_enter Tryz.func92, Tryz.ntmps92
  go_wp2_with (refine wpl_box 109 _ rfl rfl #[sp, .string m, .string sc, .string au, .string p, fv, .string b, tv, .string cl, .string root, .slice po 0 pc] (by kernel_rfl) ?_)
  intro xb w1 hg1 ha1 hb1
  have HB1 := hid' hb1
  have x10 := ha1.cell 10 _ rfl
  clear hg1 ha1 hb1
  go_wp2
  go_ret
  exact ⟨rfl, HB1.out⟩
 ·obtain ⟨k, hpk⟩ : ∃ k, pm = k + 1 := ⟨pm - 1, by omega⟩
  obtain ⟨c, hc⟩ : ∃ c, ps[k]? = some c := ⟨_, List.getElem?_eq_getElem (by omega)⟩
  obtain ⟨g, rfl, hgl, y0, y1⟩ := own_pm20 h k c hc
  have HE : Hid ((ps.getLast?.map (·.2)).getD [] = c.2) := hid' (by rw [List.getLast?_eq_getElem?, hm, hpk, Nat.add_sub_cancel, hc]; rfl)
  have hk0 : ((pm : Int) == 0) = false := by simp; omega
  have hwr : IntKind.i64.wrap ((pm : Int) - 1) = (k : Int) := by
   have : (k : Int) ≤ 9223372036854775807 := by
    have h1 := h.2
    rcases h1 with ⟨h1, _⟩ | ⟨g', cap', cur, h1, _, _, _, h5, _⟩
    ·cases h1
    ·injection h1 with _ _ h3
     have : pm ≤ cap' := by subst h3; rename_i h4; omega
     unfold maxLen at h5
     omega
   rw [wrp _ (by omega) (by omega)]; omega
  have hki : (k : Int) < (pm : Int) := by omega
  clear h h0 hc hm y0 hpk
  go_enter Tryz.func92, Tryz.ntmps92
  go_wp2_with (refine wpl_box 109 _ rfl rfl #[sp, .string m, .string sc, .string au, .string p, fv, .string b, tv, .string cl, .string root, .slice (some ⟨g, 0, none⟩) pm pc] (by kernel_rfl) ?_)
  intro xb w1 hg1 ha1 hb1
  have HB1 := hid' hb1
  have x10 := ha1.cell 10 _ rfl
  have z1 := (hb1.cell (p := ⟨g, k * 2 + 1, none⟩) hgl).trans y1
  clear hg1 ha1 hb1 y1 hgl
  go_wp2
  go_ret
  exact ⟨by rw [HE.out]; rfl, HB1.out⟩

set_option maxHeartbeats 2000000 in
set_option maxRecDepth 20000 in
theorem callow20 (st ro : Int) (pv : Value) (al : ByteArray) (w : World) :
  Calls Tryz.prog 40 #[.agg #[.int .i64 st, .int .i64 ro, pv, .string al]] w fun e w' => e = .returned (.agg #[.string (Fs.str Fs.nAL), .string al]) ∧ Below w.heap.size w w' := by
 go_enter Tryz.func40, Tryz.ntmps40
 go_wp2_with (refine wpl_box 105 _ rfl rfl #[.int .i64 st, .int .i64 ro, pv, .string al] (by kernel_rfl) ?_)
 intro xb w1 hg1 ha1 hb1
 have HX1 := hid' ha1
 have HB1 := hid' hb1
 clear hg1 ha1 hb1
 go_wp2_with (refine wpl_alloc 39 rfl rfl #[.string ⟨#[]⟩, .string ⟨#[]⟩] (by kernel_rfl) ?_)
 intro rb w2 hrb ha2 hb2
 have HA2 := hid' ha2
 have HB2 := hid' (below_two HB1.out hb2)
 have HRB := hid' (Nat.le_trans HB1.out.size hrb)
 have x3 := (HX1.out.keep hb2).cell 3 _ rfl
 clear hrb ha2 hb2
 go_wp2_with (refine wpl_store 39 _ _ rfl rfl rb #[.string (Fs.str Fs.nAL), .string al] (by kernel_rfl) (by kernel_rfl) _ _ HA2.out (by kernel_rfl) rfl (by simp [Value.oneCell']) ?_)
 intro wf hwf huf
 go_wp2
 have hld := run_loadVar_row (P := Tryz.prog) wf rb 39 39 _ (0, 0) _ hwf Tryz.underlying39 rfl (by kernel_rfl)
 refine bodyPost_ret (v := .agg #[.string (Fs.str Fs.nAL), .string al]) (by simp [results, Tryz.results40, asAddr, hld]) rfl ⟨rfl, HB2.out.trans (huf.below HRB.out)⟩

set_option maxHeartbeats 2000000 in
theorem croot20 (x : ByteArray) (b : Bool) (hb : (x.data.toList.isEmpty || Dk.path x.data.toList) = b) (w : World) (hx : x.size ≤ 140737488355328) :
  Calls Tryz.prog 18 #[.string x] w fun e w' => e = .returned (.bool b) ∧ Below w.heap.size w w' := by
 obtain ⟨d, hd⟩ : ∃ d, Dk.path x.data.toList = d := ⟨_, rfl⟩
 have HP := hid' (fun W => cpath13 x d hd W hx)
 rw [hd] at hb
 cases c : (x.toList == [])
 ·have hb2 : b = d := by
   rw [ba_list] at c
   rw [← hb]
   cases hl : x.data.toList with
   | nil => rw [hl] at c; exact absurd c (by decide)
   | cons u r => rfl
  subst hb2
  clear hb hd hx
  go_enter Tryz.func18, Tryz.ntmps18
  go_wp2_with fail
  refine (HP.out w).mono ?_
  rintro e w1 ⟨rfl, hb1⟩
  have HB1 := hid' hb1
  clear hb1
  go_wp2
  go_ret
  exact ⟨rfl, HB1.out⟩
 ·have hb2 : b = true := by
   rw [ba_list] at c
   rw [← hb]
   cases hl : x.data.toList with
   | nil => rfl
   | cons u r => rw [hl] at c; exact absurd c (by simp)
  subst hb2
  clear hb hd hx
  go_enter Tryz.func18, Tryz.ntmps18
  go_wp2
  go_ret
  exact ⟨rfl, Below.refl _ _⟩

set_option maxHeartbeats 2000000 in
set_option maxRecDepth 20000 in
theorem cgone20 (sp : Value) (r : Ap.Rq) (fv tv : Value) (cl root : ByteArray) (pv : Value) (w : World) (hT : TB19 w) :
  Calls Tryz.prog 64 #[.agg (cC20 sp r fv tv cl root pv)] w fun e w' => RP20 w w' e (Ap.of (Fs.plain 410 [])) := by
 obtain ⟨m, sc, au, p, fs, b, ts⟩ := r
 unfold cC20
 have HT := hid' hT
 have HP := hid' (fun W (h : TB19 W) => cplain19 410 (.slice none 0 0) [] W (by decide) (by decide) (fw_nil19 W) (by decide) h)
 clear hT
 go_enter Tryz.func64, Tryz.ntmps64
 go_wp2_with (refine wpl_box 109 _ rfl rfl #[sp, .string m, .string sc, .string au, .string p, fv, .string b, tv, .string cl, .string root, pv] (by kernel_rfl) ?_)
 intro xb w1 hg1 ha1 hb1
 have HB1 := hid' hb1
 clear hg1 ha1 hb1
 go_wp2_with (refine wpl_alloc 42 rfl rfl _ zeroRp19 ?_)
 intro rb w2 hrb ha2 hb2
 have HA2 := hid' ha2
 have HB2 := hid' (below_two HB1.out hb2)
 have HRB := hid' (Nat.le_trans HB1.out.size hrb)
 clear hrb ha2 hb2
 go_wp2_with fail
 refine (HP.out w2 (tb_below19 HT.out HB2.out)).mono ?_
 rintro e w3 ⟨⟨vo, n, vc, rfl, hn, ho⟩, hb3⟩
 have HN3 := hid' hn
 have HO3 := hid' ho
 have HB3 := hid' hb3
 have HA3 := hid' (HA2.out.keep hb3)
 clear hn ho hb3
 obtain ⟨bd, hbd⟩ : ∃ bd : ByteArray, (⟨(Fs.plain 410 []).b.toArray⟩ : ByteArray) = bd := ⟨_, rfl⟩
 rw [show (Fs.plain 410 []).s = 410 from rfl, hbd]
 have HBD := hid' hbd
 clear hbd
 unfold rpC
 go_wp2_with (refine wpl_store 42 _ _ rfl rfl rb #[.int .i64 410, .slice vo n vc, .string bd, .slice none 0 0] (by kernel_rfl) (by kernel_rfl) _ _ HA3.out sizeRp19 rfl (by simp [Value.oneCell']) ?_)
 intro wf hwf huf
 go_wp2
 have hld := ldRp19 hwf
 exact bodyPost_ret (v := .agg #[.int .i64 410, .slice vo n vc, .string bd, .slice none 0 0]) (by simp [results, Tryz.results64, asAddr, hld]) rfl (rp_done20 (Ap.of (Fs.plain 410 [])) rfl HBD.out HB2.out HA2.out.lt HRB.out HB3.out HN3.out HO3.out rfl (World.ownsRow_nil _ _ _ _) huf)

open Go.RowKit

namespace Fs
def kgo (p : T8) (i : Nat) : T8 := (((kinds.drop i).find? (fun k => Lib.hasSuffix p k.1)).map (·.2)).getD vOC
theorem kgo_0 (p : T8) : kgo p 0 = kind p := rfl
theorem kgo_end (p : T8) : kgo p 6 = vOC := rfl
theorem kgo_yes (p : T8) (i : Nat) (k : T8 × T8) (h : kinds[i]? = some k) (hs : Lib.hasSuffix p k.1 = true) : kgo p i = k.2 := by
 unfold kgo
 obtain ⟨hl, h⟩ := List.getElem?_eq_some_iff.1 h
 rw [List.drop_eq_getElem_cons hl, h, List.find?_cons, hs]
 rfl
theorem kgo_no (p : T8) (i : Nat) (k : T8 × T8) (h : kinds[i]? = some k) (hs : Lib.hasSuffix p k.1 = false) : kgo p (i + 1) = kgo p i := by
 unfold kgo
 obtain ⟨hl, h⟩ := List.getElem?_eq_some_iff.1 h
 rw [List.drop_eq_getElem_cons hl, h, List.find?_cons, hs]
def kdC : Array Value := #[
 .string ⟨#[46, 104, 116, 109, 108]⟩, .string ⟨#[116, 101, 120, 116, 47, 104, 116, 109, 108]⟩,
 .string ⟨#[46, 116, 120, 116]⟩, .string ⟨#[116, 101, 120, 116, 47, 112, 108, 97, 105, 110]⟩,
 .string ⟨#[46, 99, 115, 115]⟩, .string ⟨#[116, 101, 120, 116, 47, 99, 115, 115]⟩,
 .string ⟨#[46, 106, 115]⟩, .string ⟨#[116, 101, 120, 116, 47, 106, 97, 118, 97, 115, 99, 114, 105, 112, 116]⟩,
 .string ⟨#[46, 106, 115, 111, 110]⟩, .string ⟨#[97, 112, 112, 108, 105, 99, 97, 116, 105, 111, 110, 47, 106, 115, 111, 110]⟩,
 .string ⟨#[46, 112, 110, 103]⟩, .string ⟨#[105, 109, 97, 103, 101, 47, 112, 110, 103]⟩]
theorem kd_at (i : Nat) (h : i < 6) : ∃ k : T8 × T8, kinds[i]? = some k ∧ k.1.length ≤ 5 ∧ kdC.extract (i * 2) (i * 2 + 2) = #[.string ⟨k.1.toArray⟩, .string ⟨k.2.toArray⟩] := by
 have : i = 0 ∨ i = 1 ∨ i = 2 ∨ i = 3 ∨ i = 4 ∨ i = 5 := by omega
 rcases this with rfl | rfl | rfl | rfl | rfl | rfl <;> exact ⟨_, rfl, by decide, rfl⟩
theorem kind_le (p : T8) : (kind p).length ≤ 24 := by
 have h : ∀ i, i ≤ 6 → (kgo p (6 - i)).length ≤ 24 := by
  intro i
  induction i with
  | zero => intro _; rw [show 6 - 0 = 6 from rfl, kgo_end]; decide
  | succ i ih =>
   intro hi
   have ih := ih (by omega)
   have hk : ∃ k : T8 × T8, kinds[6 - (i + 1)]? = some k ∧ k.2.length ≤ 24 := by
    have : i = 0 ∨ i = 1 ∨ i = 2 ∨ i = 3 ∨ i = 4 ∨ i = 5 := by omega
    rcases this with rfl | rfl | rfl | rfl | rfl | rfl <;> exact ⟨_, rfl, by decide⟩
   obtain ⟨k, hk, hl⟩ := hk
   cases hs : Lib.hasSuffix p k.1
   ·rw [← kgo_no p _ k hk hs, show 6 - (i + 1) + 1 = 6 - i by omega]; exact ih
   ·rw [kgo_yes p _ k hk hs]; exact hl
 exact h 6 (Nat.le_refl _)
end Fs
theorem index_kd19 (i : Nat) (k : Fs.T8 × Fs.T8) (hi : i < 6) (hk : Fs.kdC.extract (i * 2) (i * 2 + 2) = #[.string ⟨k.1.toArray⟩, .string ⟨k.2.toArray⟩]) (c : Array Value) (hc : c = Fs.kdC) (w : World) : (Instr.index 263 (.agg c) (.int .i64 (i : Int))).run Tryz.prog w = .ok (.agg #[.string ⟨k.1.toArray⟩, .string ⟨k.2.toArray⟩]) w := by
 subst hc
 simp [Instr.index, asIntOf, run_underlying Tryz.underlying263, hi, part, hk]
theorem sizeKd19 : (Tryz.prog.info? 263).map (·.size) = some 12 := by kernel_rfl

set_option maxHeartbeats 4000000 in
set_option maxRecDepth 20000 in
theorem ckind19 (p : ByteArray) (l : Fs.T8) (hp : p.data.toList = l) (hs : p.size ≤ 140737488355328) (w : World) :
  Calls Tryz.prog 162 #[.string p] w fun e w' => e = .returned (.string ⟨(Fs.kind l).toArray⟩) ∧ Below w.heap.size w w' := by
 have HS : Hid (∀ (k : Fs.T8 × Fs.T8) (b : Bool), Lib.hasSuffix l k.1 = b → ∀ W, Calls Tryz.prog 83 #[.string p, .string ⟨k.1.toArray⟩] W fun e w' => e = .returned (.bool b) ∧ w' = W) := hid' (fun k b hb W => by
  have := Tryz.strings_HasSuffix p ⟨k.1.toArray⟩ W (by omega)
  rw [hp, show (⟨k.1.toArray⟩ : ByteArray).data.toList = k.1 from rfl, hb] at this
  exact this)
 clear hp hs
 go_enter Tryz.func162, Tryz.ntmps162
 go_upto_region 2 with fail
 have HX : Hid (Ar (w.alloc (.cells #[.string ⟨#[46, 104, 116, 109, 108]⟩, .string ⟨#[116, 101, 120, 116, 47, 104, 116, 109, 108]⟩, .string ⟨#[46, 116, 120, 116]⟩, .string ⟨#[116, 101, 120, 116, 47, 112, 108, 97, 105, 110]⟩, .string ⟨#[46, 99, 115, 115]⟩, .string ⟨#[116, 101, 120, 116, 47, 99, 115, 115]⟩, .string ⟨#[46, 106, 115]⟩, .string ⟨#[116, 101, 120, 116, 47, 106, 97, 118, 97, 115, 99, 114, 105, 112, 116]⟩, .string ⟨#[46, 106, 115, 111, 110]⟩, .string ⟨#[97, 112, 112, 108, 105, 99, 97, 116, 105, 111, 110, 47, 106, 115, 111, 110]⟩, .string ⟨#[46, 112, 110, 103]⟩, .string ⟨#[105, 109, 97, 103, 101, 47, 112, 110, 103]⟩] 263)) w.heap.size 263 Fs.kdC) := hid' (heap_alloc_last w _)
 have HB := hid' (bl_alloc19 w (.cells #[.string ⟨#[46, 104, 116, 109, 108]⟩, .string ⟨#[116, 101, 120, 116, 47, 104, 116, 109, 108]⟩, .string ⟨#[46, 116, 120, 116]⟩, .string ⟨#[116, 101, 120, 116, 47, 112, 108, 97, 105, 110]⟩, .string ⟨#[46, 99, 115, 115]⟩, .string ⟨#[116, 101, 120, 116, 47, 99, 115, 115]⟩, .string ⟨#[46, 106, 115]⟩, .string ⟨#[116, 101, 120, 116, 47, 106, 97, 118, 97, 115, 99, 114, 105, 112, 116]⟩, .string ⟨#[46, 106, 115, 111, 110]⟩, .string ⟨#[97, 112, 112, 108, 105, 99, 97, 116, 105, 111, 110, 47, 106, 115, 111, 110]⟩, .string ⟨#[46, 112, 110, 103]⟩, .string ⟨#[105, 109, 97, 103, 101, 47, 112, 110, 103]⟩] 263))
 obtain ⟨xb, hxb⟩ : ∃ xb, w.heap.size = xb := ⟨_, rfl⟩
 rw [hxb] at HX ⊢
 generalize w.alloc (.cells #[.string ⟨#[46, 104, 116, 109, 108]⟩, .string ⟨#[116, 101, 120, 116, 47, 104, 116, 109, 108]⟩, .string ⟨#[46, 116, 120, 116]⟩, .string ⟨#[116, 101, 120, 116, 47, 112, 108, 97, 105, 110]⟩, .string ⟨#[46, 99, 115, 115]⟩, .string ⟨#[116, 101, 120, 116, 47, 99, 115, 115]⟩, .string ⟨#[46, 106, 115]⟩, .string ⟨#[116, 101, 120, 116, 47, 106, 97, 118, 97, 115, 99, 114, 105, 112, 116]⟩, .string ⟨#[46, 106, 115, 111, 110]⟩, .string ⟨#[97, 112, 112, 108, 105, 99, 97, 116, 105, 111, 110, 47, 106, 115, 111, 110]⟩, .string ⟨#[46, 112, 110, 103]⟩, .string ⟨#[105, 109, 97, 103, 101, 47, 112, 110, 103]⟩] 263) = w1 at *
 clear hxb
 obtain ⟨c, hc⟩ : ∃ c, c = Fs.kdC := ⟨_, rfl⟩
 rw [← hc] at HX
 have HC := hid' hc
 clear hc
 go_wp2_with (refine wpl_load 263 _ rfl rfl xb (by kernel_rfl) _ _ HX.out _ Tryz.underlying263 rfl (by rw [HC.out]; exact sizeKd19) ?_)
 go_loopw [14] (fun s14 wr => ∃ i : Nat, s14 = .int .i64 (i : Int) ∧ i ≤ 6 ∧ Hid (Fs.kgo l i = Fs.kind l) ∧ Hid (Below w.heap.size w wr)) (fun s14 _ => 6 - (intOf s14).toNat)
 case atStart => exact ⟨0, rfl, by omega, hid' (Fs.kgo_0 l), HB⟩
 case round =>
  clear HB
  obtain ⟨i, rfl, hi, HI, HB⟩ := hrel
  by_cases hlt : i < 6
  ·have hlt2 : (i : Int) < 6 := by omega
   obtain ⟨k, hk, hkl, hkx⟩ := Fs.kd_at i hlt
   have HK := hid' hk
   have hix := fun W => index_kd19 i k hlt hkx c HC.out W
   obtain ⟨b, hb⟩ : ∃ b, Lib.hasSuffix l k.1 = b := ⟨_, rfl⟩
   have HSK := hid' (HS.out k b hb)
   have HBV := hid' hb
   have HW : Hid (Ar (wr.alloc (.cells #[.string ⟨k.1.toArray⟩, .string ⟨k.2.toArray⟩] 262)) wr.heap.size 262 #[.string ⟨k.1.toArray⟩, .string ⟨k.2.toArray⟩]) := hid' (heap_alloc_last wr _)
   have HBW := hid' (below_two HB.out (bl_alloc19 wr (.cells #[.string ⟨k.1.toArray⟩, .string ⟨k.2.toArray⟩] 262)))
   clear hk hkl hkx hb HB
   go_upto_region 5 with fail
   obtain ⟨sb, hsb⟩ : ∃ sb, wr.heap.size = sb := ⟨_, rfl⟩
   rw [hsb] at HW ⊢
   generalize wr.alloc (.cells #[.string ⟨k.1.toArray⟩, .string ⟨k.2.toArray⟩] 262) = w2 at *
   clear hsb hix
   have x0 := HW.out.cell 0 _ rfl
   have x1 := HW.out.cell 1 _ rfl
   go_wp2_with fail
   refine (HSK.out w2).mono ?_
   rintro e w3 ⟨rfl, hw3⟩
   subst w3
   cases b
   ·have HE : Hid (Fs.kgo l (i + 1) = Fs.kind l) := hid' (by rw [Fs.kgo_no l i k HK.out HBV.out]; exact HI.out)
    go_wp2
    go_roundw
    case rel => exact ⟨i + 1, by go_num, by omega, HE, HBW⟩
    case measure => simp [intOf]; omega
   ·have HE : Hid (k.2 = Fs.kind l) := hid' (by rw [← HI.out, Fs.kgo_yes l i k HK.out HBV.out])
    go_wp2
    go_ret
    exact ⟨by rw [← HE.out]; rfl, HBW.out⟩
  ·have hlt2 : ¬ (i : Int) < 6 := by omega
   obtain rfl : i = 6 := by omega
   have HE : Hid (Fs.vOC = Fs.kind l) := hid' (by rw [← HI.out, Fs.kgo_end])
   clear hlt
   go_wp2
   go_ret
   exact ⟨by rw [← HE.out]; rfl, HB.out⟩

set_option maxHeartbeats 1000000 in
set_option maxRecDepth 20000 in
theorem cfolder19 (s : ByteArray) (l : Fs.T8) (hp : s.data.toList = l) (hs : s.size ≤ 140737488355328) (w : World) :
  Calls Tryz.prog 145 #[.string s] w fun e w' => e = .returned (.bool (Fs.folder l)) ∧ w' = w := by
 have HS : Hid (∀ W, Calls Tryz.prog 83 #[.string s, .string ⟨#[47]⟩] W fun e w' => e = .returned (.bool (Lib.hasSuffix l [47])) ∧ w' = W) := hid' (fun W => by
  have := Tryz.strings_HasSuffix s ⟨#[47]⟩ W (by omega)
  rw [hp, show (⟨#[47]⟩ : ByteArray).data.toList = [47] from rfl] at this
  exact this)
 have hl : s.toList = l := by rw [ba_list]; exact hp
 cases h : l.isEmpty
 ·have he : (s.toList == []) = false := by rw [hl]; cases l <;> simp at h ⊢
  have hf : Fs.folder l = Lib.hasSuffix l [47] := by unfold Fs.folder; rw [h]; rfl
  rw [hf]
  clear hp hs hl h hf
  go_enter Tryz.func145, Tryz.ntmps145
  go_wp2_with fail
  refine (HS.out w).mono ?_
  rintro e w3 ⟨rfl, hw3⟩
  subst w3
  go_wp2
  go_ret
  exact ⟨rfl, rfl⟩
 ·have he : (s.toList == []) = true := by rw [hl]; cases l <;> simp at h ⊢
  have hf : Fs.folder l = true := by unfold Fs.folder; rw [h]; rfl
  rw [hf]
  clear hp hs hl h hf HS
  go_enter Tryz.func145, Tryz.ntmps145
  go_wp2
  go_ret
  exact ⟨rfl, rfl⟩

set_option maxHeartbeats 1000000 in
set_option maxRecDepth 20000 in
theorem cplace19 (r s : ByteArray) (hr : r.size ≤ 1048576) (hs : s.size ≤ 1048576) (w : World) :
  ∃ q : ByteArray, q.data.toList = Fs.name r.data.toList s.data.toList ∧ q.size ≤ 2097163 ∧ Calls Tryz.prog 114 #[.string r, .string s] w fun e w' => e = .returned (.string q) ∧ w' = w := by
 have HF := hid' (cfolder19 s _ rfl (by omega) w)
 have e1 : r.size + 1 ≤ 9223372036854775807 := by omega
 have e2 : r.size + 1 + s.size ≤ 9223372036854775807 := by omega
 have e3 : r.size + 1 + s.size + 10 ≤ 9223372036854775807 := by omega
 have g1 : (r ++ ⟨#[47]⟩ : ByteArray).size = r.size + 1 := by rw [ByteArray.size_append]; rfl
 have g2 : ((r ++ ⟨#[47]⟩) ++ s : ByteArray).size = r.size + 1 + s.size := by rw [ByteArray.size_append, g1]
 cases hf : Fs.folder s.data.toList
 ·rw [hf] at HF
  refine ⟨(r ++ ⟨#[47]⟩) ++ s, ?_, by omega, ?_⟩
  ·unfold Fs.name; rw [hf]; simp [ByteArray.data_append]
  ·clear hr hs hf g1 g2
   go_enter Tryz.func114, Tryz.ntmps114
   go_wp2_with fail
   refine HF.out.mono ?_
   rintro e w3 ⟨rfl, hw3⟩
   subst w3
   go_wp2
   go_ret
   exact ⟨rfl, rfl⟩
 ·rw [hf] at HF
  refine ⟨((r ++ ⟨#[47]⟩) ++ s) ++ ⟨#[105, 110, 100, 101, 120, 46, 104, 116, 109, 108]⟩, ?_, by rw [ByteArray.size_append, g2]; show r.size + 1 + s.size + 10 ≤ _; omega, ?_⟩
  ·unfold Fs.name; rw [hf]; simp [ByteArray.data_append, Fs.vIX]
  ·clear hr hs hf g1 g2
   go_enter Tryz.func114, Tryz.ntmps114
   go_wp2_with fail
   refine HF.out.mono ?_
   rintro e w3 ⟨rfl, hw3⟩
   subst w3
   go_wp2
   go_ret
   exact ⟨rfl, rfl⟩

theorem sizeFd19 : (Tryz.prog.info? 39).map (·.size) = some 2 := by kernel_rfl
theorem ldFd19 {w : World} {b : Nat} {x0 x1 : Value} (h : Ar w b 39 #[x0, x1]) : (loadVar 39 ⟨b, 0, none⟩).run Tryz.prog w = .ok (.agg #[x0, x1]) w :=
 run_loadVar_row (P := Tryz.prog) w b 39 39 _ (0, 0) _ h Tryz.underlying39 rfl sizeFd19

set_option maxHeartbeats 1000000 in
set_option maxRecDepth 20000 in
theorem ctoldF19 (v : ByteArray) (w : World) :
  Calls Tryz.prog 157 #[.string v] w fun e w' => e = .returned (.agg #[.string ⟨#[99, 111, 110, 116, 101, 110, 116, 45, 114, 97, 110, 103, 101]⟩, .string v]) ∧ Below w.heap.size w w' := by
 go_enter Tryz.func157, Tryz.ntmps157
 go_wp2
 have hA : Ar (w.alloc (.cells #[.string ⟨#[99, 111, 110, 116, 101, 110, 116, 45, 114, 97, 110, 103, 101]⟩, .string v] 39)) w.heap.size 39 #[.string ⟨#[99, 111, 110, 116, 101, 110, 116, 45, 114, 97, 110, 103, 101]⟩, .string v] := heap_alloc_last w _
 have hld := ldFd19 hA
 exact bodyPost_ret (v := .agg #[.string ⟨#[99, 111, 110, 116, 101, 110, 116, 45, 114, 97, 110, 103, 101]⟩, .string v]) (by simp [results, Tryz.results157, asAddr, hld]) rfl ⟨rfl, bl_alloc19 w _⟩

end Go.Proofs.YtcfbobegbmcbeaaGreatDoor
