/-
  What the row stands on.
-/
import Derived.Test.YthhpejgpfaikaabGreatDoorPqAJ
import Derived.Test.YthhpejgpfaikaabGreatDoorPqAS
import Derived.Test.YthhpejgpfaikaabGreatDoorPqAT
import Derived.Test.YthhpejgpfaikaabGreatDoorPqAR
namespace Go.Proofs.YthhpejgpfaikaabGreatDoor
set_option maxHeartbeats 64000000
open Go.RowKit

def cC20 (sp : Value) (r : Ap.Rq) (fv tv : Value) (cl root : ByteArray) (pv : Value) : Array Value := #[sp, .string r.m, .string r.sc, .string r.au, .string r.p, fv, .string r.b, tv, .string cl, .string root, pv]
def RP20 (w w' : World) (e : Ending) (r : Ap.Rp) : Prop :=
 (∃ vo n vc uo m uc, e = .returned (.agg (rpC r.s (.slice vo n vc) ⟨r.b.toArray⟩ (.slice uo m uc))) ∧ r.fs.length = n ∧ w'.ownsRow w.heap.size 44 2 (.slice vo n vc) n (fC r.fs) ∧ r.ts.length = m ∧ w'.ownsRow w.heap.size 44 2 (.slice uo m uc) m (fC r.ts)) ∧ Below w.heap.size w w'
theorem rp_done20 (r : Ap.Rp) {w0 w wp wf : World} {rb n m : Nat} {vo uo : Option Addr} {vc uc : Nat} {s : Int} {b : ByteArray} (hs : r.s = s) (hbb : (⟨r.b.toArray⟩ : ByteArray) = b) (hw : Below w0.heap.size w0 w) (hrb : rb < w.heap.size) (hr0 : w0.heap.size ≤ rb) (hb : Below w.heap.size w wp)
  (hl : r.fs.length = n) (ho : wp.ownsRow w.heap.size 44 2 (.slice vo n vc) n (fC r.fs)) (hm : r.ts.length = m) (hp : wp.ownsRow w.heap.size 44 2 (.slice uo m uc) m (fC r.ts)) (hu : Upd rb wp wf) :
  RP20 w0 wf (.returned (.agg #[.int .i64 s, .slice vo n vc, .string b, .slice uo m uc])) r := by
 subst hs hbb;exact ⟨⟨vo, n, vc, uo, m, uc, rfl, hl, own_upd19 ho hu hrb hw.size, hm, own_upd19 hp hu hrb hw.size⟩, (below_two hw hb).trans (hu.below hr0)⟩
theorem own_pm20 {w : World} {B : Nat} {ao : Option Addr} {n cap : Nat} {l : List (List UInt8 × List UInt8)} (h : w.ownsRow B 165 2 (.slice ao n cap) n (qC18 l)) (i : Nat) (c : List UInt8 × List UInt8) (hc : l[i]? = some c) : ∃ g, ao = some ⟨g, 0, none⟩ ∧ g < w.heap.size ∧ w.cell? ⟨g, i * 2, none⟩ = some (.string ⟨c.1.toArray⟩) ∧ w.cell? ⟨g, i * 2 + 1, none⟩ = some (.string ⟨c.2.toArray⟩) := by
 have key : ∀ (k : List (List UInt8 × List UInt8)) (i : Nat), k[i]? = some c → (qC18 k)[i * 2 + 0]? = some (.string ⟨c.1.toArray⟩) ∧ (qC18 k)[i * 2 + 1]? = some (.string ⟨c.2.toArray⟩) := by
  intro k
  induction k with
  | nil => intro i h; simp at h
  | cons a r ih =>
   intro i h;rw [show qC18 (a :: r) = .string ⟨a.1.toArray⟩ :: .string ⟨a.2.toArray⟩ :: qC18 r from rfl];cases i with
   | zero => simp at h; subst h; exact ⟨rfl, rfl⟩
   | succ i =>
    rw [List.getElem?_cons_succ] at h;rw [show (i + 1) * 2 + 0 = (i * 2 + 0) + 1 + 1 by omega, show (i + 1) * 2 + 1 = (i * 2 + 1) + 1 + 1 by omega];simp only [List.getElem?_cons_succ];exact ih i h
 obtain ⟨k0, k1⟩ := key l i hc;have hlt := (List.getElem?_eq_some_iff.1 k1).1;rcases h.2 with ⟨_, h0⟩ | ⟨g, cap', cur, h1, h2⟩
 ·rw [h.1, h0] at hlt; omega
 ·injection h1 with h1 h3 h4;subst h1;have c0 := h.cells (g := g) rfl _ _ k0;have c1 := h.cells (g := g) rfl _ _ k1;rw [Addr.add_mid, Nat.zero_add] at c0 c1;exact ⟨g, rfl, own_lt h g rfl, c0, c1⟩

theorem cct20 (k : ByteArray) (w : World) :
  Calls Tryz.prog 91 #[.string k] w fun e w' => (∃ vo, e = .returned (.slice vo 1 1) ∧ w'.ownsRow w.heap.size 44 2 (.slice vo 1 1) 1 (fC [⟨Fs.str Fs.nCT, k⟩])) ∧ Below w.heap.size w w' := by
 go_enter Tryz.func91, Tryz.ntmps91;go_wp2_with fail;go_ret;exact ⟨⟨_, rfl, own_lit19 w 44 (fC [⟨Fs.str Fs.nCT, k⟩]) 1 2 rfl (by decide) _ (Nat.le_refl _)⟩, bl_alloc19 w _⟩

set_option maxRecDepth 20000 in
theorem ckind20 (sp : Value) (r : Ap.Rq) (fv tv : Value) (cl root : ByteArray) (pv : Value) (w : World) (hf : FW w fv r.fs) (hl : r.fs.length ≤ 1048576) :
  Calls Tryz.prog 92 #[.agg (cC20 sp r fv tv cl root pv)] w fun e w' => e = .returned (.string (Ap.kindOf r.fs)) ∧ Below w.heap.size w w' := by
 obtain ⟨fo, fc, hv⟩ := hf.shape;obtain ⟨m, sc, au, p, fs, b, ts⟩ := r;simp only at hf hl hv ⊢;obtain ⟨n, hn⟩ : ∃ n, fs.length = n := ⟨_, rfl⟩;rw [hn] at hv hl;subst hv;have HF := hid' hf;have HN := hid' hn;clear hf hn;unfold cC20;go_enter Tryz.func92, Tryz.ntmps92;go_wp2_with (refine wpl_box 108 _ rfl rfl #[sp, .string m, .string sc, .string au, .string p, .slice fo n fc, .string b, tv, .string cl, .string root, pv] (by kernel_rfl) ?_);intro xb w1 hg1 ha1 hb1;have HB1 := hid' hb1;have x5 := ha1.cell 5 _ rfl;clear hg1 ha1 hb1;go_wp2;go_loopw [9] (fun s9 wr => ∃ i : Nat, s9 = .int .i64 (i : Int) ∧ i ≤ n ∧ Hid (∀ (j : Nat) (g : Fd), j < i → fs[j]? = some g → (g.n.data.toList == Fs.nCT) = false) ∧ Hid (Below w1.heap.size w1 wr)) (fun s9 _ => n - (intOf s9).toNat)
 case atStart => exact ⟨0, rfl, Nat.zero_le _, hid' (fun j g hj => absurd hj (Nat.not_lt_zero _)), hid' (Below.refl _ _)⟩
 case round =>
  obtain ⟨i, rfl, hi, HI, HBR⟩ := hrel;by_cases hlt : i < n
  ·have hlt2 : (i : Int) < (n : Int) := by omega
   obtain ⟨f, hfi⟩ : ∃ f, fs[i]? = some f := ⟨_, List.getElem?_eq_getElem (by rw [HN.out]; exact hlt)⟩;obtain ⟨a, hfo, y0, y1⟩ := (HF.out.keep (below_two HB1.out HBR.out)).two i f hfi;subst hfo;have HFI := hid' hfi;have HLT := hid' hlt;clear hfi hlt;have HW : Hid (Ar (wr.alloc (.cells #[.string f.n, .string f.v] 44)) wr.heap.size 44 #[.string f.n, .string f.v]) := hid' (heap_alloc_last wr _);have HBW := hid' (below_two HBR.out (bl_alloc19 wr (.cells #[.string f.n, .string f.v] 44)));go_upto_region 4 with fail;obtain ⟨sb, hsb⟩ : ∃ sb, wr.heap.size = sb := ⟨_, rfl⟩;rw [hsb] at HW ⊢;generalize wr.alloc (.cells #[.string f.n, .string f.v] 44) = w2 at *;clear hsb y0 y1;have z0 := HW.out.cell 0 _ rfl;have z1 := HW.out.cell 1 _ rfl;cases c1 : (f.n.toList == [99, 111, 110, 116, 101, 110, 116, 45, 116, 121, 112, 101])
   ·go_wp2;go_roundw
    case rel =>
     refine ⟨i + 1, by go_num, by have := HLT.out; omega, hid' (fun j g hj hg => ?_), HBW⟩;by_cases hji : j < i
     ·exact HI.out j g hji hg
     ·obtain rfl : j = i := by omega
      rw [HFI.out] at hg;injection hg with hg;subst hg;rw [ba_list] at c1;exact c1
    case measure => have := HLT.out; simp [intOf]; omega
   ·have HE : Hid (Ap.kindOf fs = f.v) := hid' (Ap.kind_some HI.out HFI.out (by rw [ba_list] at c1; exact c1));go_wp2;go_ret;exact ⟨by rw [HE.out]; rfl, below_two HB1.out HBW.out⟩
  ·obtain rfl : i = n := by omega
   have hlt2 : ¬ (i : Int) < (i : Int) := by omega
   have HE : Hid (Ap.kindOf fs = Fs.str Fs.vOC) := hid' (Ap.kind_none (fun j g hg => HI.out j g (by rw [← HN.out]; exact (List.getElem?_eq_some_iff.1 hg).1) hg));clear hlt;go_wp2;go_ret;exact ⟨by rw [HE.out]; rfl, below_two HB1.out HBR.out⟩

set_option maxRecDepth 20000 in
theorem crest20 (sp : Value) (r : Ap.Rq) (fv tv : Value) (cl root : ByteArray) (po : Option Addr) (pm pc B : Nat) (ps : List (List UInt8 × List UInt8)) (w : World) (hm : ps.length = pm) (h : w.ownsRow B 165 2 (.slice po pm pc) pm (qC18 ps)) :
  Calls Tryz.prog 90 #[.agg (cC20 sp r fv tv cl root (.slice po pm pc))] w fun e w' => e = .returned (.string ⟨((ps.getLast?.map (·.2)).getD []).toArray⟩) ∧ Below w.heap.size w w' := by
 obtain ⟨m, sc, au, p, fs, b, ts⟩ := r;unfold cC20;simp only;by_cases h0 : pm = 0
 ·subst h0;obtain rfl : ps = [] := List.eq_nil_of_length_eq_zero hm;clear h hm;go_enter Tryz.func90, Tryz.ntmps90;go_wp2_with (refine wpl_box 108 _ rfl rfl #[sp, .string m, .string sc, .string au, .string p, fv, .string b, tv, .string cl, .string root, .slice po 0 pc] (by kernel_rfl) ?_);intro xb w1 hg1 ha1 hb1;have HB1 := hid' hb1;have x10 := ha1.cell 10 _ rfl;clear hg1 ha1 hb1;go_wp2;go_ret;exact ⟨rfl, HB1.out⟩
 ·obtain ⟨k, hpk⟩ : ∃ k, pm = k + 1 := ⟨pm - 1, by omega⟩;obtain ⟨c, hc⟩ : ∃ c, ps[k]? = some c := ⟨_, List.getElem?_eq_getElem (by omega)⟩;obtain ⟨g, rfl, hgl, y0, y1⟩ := own_pm20 h k c hc;have HE : Hid ((ps.getLast?.map (·.2)).getD [] = c.2) := hid' (by rw [List.getLast?_eq_getElem?, hm, hpk, Nat.add_sub_cancel, hc]; rfl);have hk0 : ((pm : Int) == 0) = false := by simp; omega
  have hwr : IntKind.i64.wrap ((pm : Int) - 1) = (k : Int) := by
   have : (k : Int) ≤ 9223372036854775807 := by
    have h1 := h.2;rcases h1 with ⟨h1, _⟩ | ⟨g', cap', cur, h1, _, _, _, h5, _⟩
    ·cases h1
    ·injection h1 with _ _ h3;have : pm ≤ cap' := by subst h3; rename_i h4; omega
     unfold maxLen at h5;omega
   rw [wrp _ (by omega) (by omega)]; omega
  have hki : (k : Int) < (pm : Int) := by omega
  clear h h0 hc hm y0 hpk;go_enter Tryz.func90, Tryz.ntmps90;go_wp2_with (refine wpl_box 108 _ rfl rfl #[sp, .string m, .string sc, .string au, .string p, fv, .string b, tv, .string cl, .string root, .slice (some ⟨g, 0, none⟩) pm pc] (by kernel_rfl) ?_);intro xb w1 hg1 ha1 hb1;have HB1 := hid' hb1;have x10 := ha1.cell 10 _ rfl;have z1 := (hb1.cell (p := ⟨g, k * 2 + 1, none⟩) hgl).trans y1;clear hg1 ha1 hb1 y1 hgl;go_wp2;go_ret;exact ⟨by rw [HE.out]; rfl, HB1.out⟩

set_option maxRecDepth 20000 in
theorem callow20 (st ro : Int) (pv : Value) (al : ByteArray) (w : World) :
  Calls Tryz.prog 38 #[.agg #[.int .i64 st, .int .i64 ro, pv, .string al]] w fun e w' => e = .returned (.agg #[.string (Fs.str Fs.nAL), .string al]) ∧ Below w.heap.size w w' := by
 go_enter Tryz.func38, Tryz.ntmps38;go_wp2_with (refine wpl_box 104 _ rfl rfl #[.int .i64 st, .int .i64 ro, pv, .string al] (by kernel_rfl) ?_);intro xb w1 hg1 ha1 hb1;have HX1 := hid' ha1;have HB1 := hid' hb1;clear hg1 ha1 hb1;go_wp2_with (refine wpl_alloc 44 rfl rfl #[.string ⟨#[]⟩, .string ⟨#[]⟩] (by kernel_rfl) ?_);intro rb w2 hrb ha2 hb2;have HA2 := hid' ha2;have HB2 := hid' (below_two HB1.out hb2);have HRB := hid' (Nat.le_trans HB1.out.size hrb);have x3 := (HX1.out.keep hb2).cell 3 _ rfl;clear hrb ha2 hb2;go_wp2_with (refine wpl_store 44 _ _ rfl rfl rb #[.string (Fs.str Fs.nAL), .string al] (by kernel_rfl) (by kernel_rfl) _ _ HA2.out (by kernel_rfl) rfl (by simp [Value.oneCell']) ?_);intro wf hwf huf;go_wp2;have hld := run_loadVar_row (P := Tryz.prog) wf rb 44 44 _ (0, 0) _ hwf Tryz.underlying44 rfl (by kernel_rfl);refine bodyPost_ret (v := .agg #[.string (Fs.str Fs.nAL), .string al]) (by simp [results, Tryz.results38, asAddr, hld]) rfl ⟨rfl, HB2.out.trans (huf.below HRB.out)⟩

theorem croot20 (x : ByteArray) (b : Bool) (hb : (x.data.toList.isEmpty || Dk.path x.data.toList) = b) (w : World) (hx : x.size ≤ 140737488355328) :
  Calls Tryz.prog 15 #[.string x] w fun e w' => e = .returned (.bool b) ∧ Below w.heap.size w w' := by
 obtain ⟨d, hd⟩ : ∃ d, Dk.path x.data.toList = d := ⟨_, rfl⟩;have HP := hid' (fun W => cpath13 x d hd W hx);rw [hd] at hb;cases c : (x.toList == [])
 ·have hb2 : b = d := by
   rw [ba_list] at c;rw [← hb];cases hl : x.data.toList with
   | nil => rw [hl] at c; exact absurd c (by decide)
   | cons u r => rfl
  subst hb2;clear hb hd hx;go_enter Tryz.func15, Tryz.ntmps15;go_wp2_with fail;refine (HP.out w).mono ?_;rintro e w1 ⟨rfl, hb1⟩;have HB1 := hid' hb1;clear hb1;go_wp2;go_ret;exact ⟨rfl, HB1.out⟩
 ·have hb2 : b = true := by
   rw [ba_list] at c;rw [← hb];cases hl : x.data.toList with
   | nil => rfl
   | cons u r => rw [hl] at c; exact absurd c (by simp)
  subst hb2;clear hb hd hx;go_enter Tryz.func15, Tryz.ntmps15;go_wp2;go_ret;exact ⟨rfl, Below.refl _ _⟩

set_option maxRecDepth 20000 in
theorem cgone20 (sp : Value) (r : Ap.Rq) (fv tv : Value) (cl root : ByteArray) (pv : Value) (w : World) (hT : TB19 w) :
  Calls Tryz.prog 62 #[.agg (cC20 sp r fv tv cl root pv)] w fun e w' => RP20 w w' e (Ap.of (Fs.plain 410 [])) := by
 obtain ⟨m, sc, au, p, fs, b, ts⟩ := r;unfold cC20;have HT := hid' hT;have HP := hid' (fun W (h : TB19 W) => cplain19 410 (.slice none 0 0) [] W (by decide) (by decide) (fw_nil19 W) (by decide) h);clear hT;go_enter Tryz.func62, Tryz.ntmps62;go_wp2_with (refine wpl_box 108 _ rfl rfl #[sp, .string m, .string sc, .string au, .string p, fv, .string b, tv, .string cl, .string root, pv] (by kernel_rfl) ?_);intro xb w1 hg1 ha1 hb1;have HB1 := hid' hb1;clear hg1 ha1 hb1;go_wp2_with (refine wpl_alloc 38 rfl rfl _ zeroRp19 ?_);intro rb w2 hrb ha2 hb2;have HA2 := hid' ha2;have HB2 := hid' (below_two HB1.out hb2);have HRB := hid' (Nat.le_trans HB1.out.size hrb);clear hrb ha2 hb2;go_wp2_with fail;refine (HP.out w2 (tb_below19 HT.out HB2.out)).mono ?_;rintro e w3 ⟨⟨vo, n, vc, rfl, hn, ho⟩, hb3⟩;have HN3 := hid' hn;have HO3 := hid' ho;have HB3 := hid' hb3;have HA3 := hid' (HA2.out.keep hb3);clear hn ho hb3;obtain ⟨bd, hbd⟩ : ∃ bd : ByteArray, (⟨(Fs.plain 410 []).b.toArray⟩ : ByteArray) = bd := ⟨_, rfl⟩;rw [show (Fs.plain 410 []).s = 410 from rfl, hbd];have HBD := hid' hbd;clear hbd;unfold rpC;go_wp2_with (refine wpl_store 38 _ _ rfl rfl rb #[.int .i64 410, .slice vo n vc, .string bd, .slice none 0 0] (by kernel_rfl) (by kernel_rfl) _ _ HA3.out sizeRp19 rfl (by simp [Value.oneCell']) ?_);intro wf hwf huf;go_wp2;have hld := ldRp19 hwf;exact bodyPost_ret (v := .agg #[.int .i64 410, .slice vo n vc, .string bd, .slice none 0 0]) (by simp [results, Tryz.results62, asAddr, hld]) rfl (rp_done20 (Ap.of (Fs.plain 410 [])) rfl HBD.out HB2.out HA2.out.lt HRB.out HB3.out HN3.out HO3.out rfl (World.ownsRow_nil _ _ _ _) huf)


theorem head_len19 (kd : Fs.T8) (e : Dk.En) : (Fs.head kd e).length = 4 := rfl

set_option maxRecDepth 20000 in
theorem cwhole19 (p y : ByteArray) (t q : Int) (he : EN19 ⟨p, y, t, q⟩) (hp : p.size ≤ 140737488355328) (w : World) (hT : TB19 w) :
  Calls Tryz.prog 119 #[.agg #[.string p, .string y, .int .i64 t, .int .i64 q]] w fun e w' => RP19 w w' e (Fs.whole (Fs.kind p.data.toList) ⟨p, y, t, q⟩) := by
 have HT := hid' hT;have HK := hid' (fun W => ckind19 p _ rfl hp W);obtain ⟨kd, hkd⟩ : ∃ kd : ByteArray, ⟨(Fs.kind p.data.toList).toArray⟩ = kd := ⟨_, rfl⟩;have hkl : Fs.kind p.data.toList = kd.data.toList := by rw [← hkd]
 rw [hkd] at HK;have HH := hid' (fun W (h : TB19 W) => cheads19 p y t q he kd W h);unfold RP19 Fs.whole;rw [hkl];have HL := hid' (head_len19 kd.data.toList ⟨p, y, t, q⟩);generalize Fs.head kd.data.toList ⟨p, y, t, q⟩ = fs at *;simp only;rw [show (⟨y.data.toList.toArray⟩ : ByteArray) = y from rfl];unfold rpC;clear hT he hp hkd hkl;go_enter Tryz.func119, Tryz.ntmps119;go_wp2_with (refine wpl_box 68 _ rfl rfl #[.string p, .string y, .int .i64 t, .int .i64 q] (by kernel_rfl) ?_);intro xb w1 hg1 ha1 hb1;have HX1 := hid' ha1;have HB1 := hid' hb1;clear hg1 ha1 hb1;go_wp2_with (refine wpl_alloc 38 rfl rfl _ zeroRp19 ?_);intro rb w2 hrb ha2 hl2;have HA2 := hid' ha2;have HB2 := hid' hl2;have HRB := hid' hrb;have HRL := hid' ha2.lt;clear hrb ha2 hl2;go_upto_region 1 with fail;refine wp_region_held_drew (S := fun W => Below w1.heap.size w1 W) (by kernel_rfl) (HB2.out.drew) (fun hHeld => ?_);refine take_d19 (i := 0) (d := some 3) (v := ?_) rfl rfl (by kernel_rfl) (by kernel_rfl) (by kernel_rfl) (fun _ _ _ h => h) (Or.inl ⟨by rfl, ?_⟩) (by assumption) ?_;rotate_left
 ·intro w hSw
  (try dsimp only at hSw)
  have ha := HX1.out.keep hSw;have c0 := ha.cell 0 _ rfl;have c1 := ha.cell 1 _ rfl;have c2 := ha.cell 2 _ rfl;have c3 := ha.cell 3 _ rfl;go_simp
  try with_reducible rfl
 refine take_d19 (i := 1) (d := some 4) (v := ?_) rfl rfl (by kernel_rfl) (by kernel_rfl) (by kernel_rfl) (fun _ _ _ h => h) (Or.inl ⟨by rfl, ?_⟩) (by assumption) ?_;rotate_left
 ·intro w hSw
  (try dsimp only at hSw)
  have ha := HX1.out.keep hSw;have c0 := ha.cell 0 _ rfl;have c1 := ha.cell 1 _ rfl;have c2 := ha.cell 2 _ rfl;have c3 := ha.cell 3 _ rfl;go_simp
  try with_reducible rfl
 refine take_d19 (i := 2) (d := some 5) (v := ?_) rfl rfl (by kernel_rfl) (by kernel_rfl) (by kernel_rfl) (fun _ _ _ h => h) (Or.inl ⟨by rfl, ?_⟩) (by assumption) ?_;rotate_left
 ·intro w hSw
  (try dsimp only at hSw)
  have ha := HX1.out.keep hSw;have c0 := ha.cell 0 _ rfl;have c1 := ha.cell 1 _ rfl;have c2 := ha.cell 2 _ rfl;have c3 := ha.cell 3 _ rfl;go_simp
  try with_reducible rfl
 refine take_d19 (i := 5) (d := some 8) (v := ?_) rfl rfl (by kernel_rfl) (by kernel_rfl) (by kernel_rfl) (fun _ _ _ h => h) (Or.inl ⟨by rfl, ?_⟩) (by assumption) ?_;rotate_left
 ·intro w hSw
  (try dsimp only at hSw)
  have ha := HX1.out.keep hSw;have c0 := ha.cell 0 _ rfl;have c1 := ha.cell 1 _ rfl;have c2 := ha.cell 2 _ rfl;have c3 := ha.cell 3 _ rfl;go_simp
  try with_reducible rfl
 refine take_d19 (i := 6) (d := some 9) (v := ?_) rfl rfl (by kernel_rfl) (by kernel_rfl) (by kernel_rfl) (fun _ _ _ h => h) (Or.inl ⟨by rfl, ?_⟩) (by assumption) ?_;rotate_left
 ·intro w hSw
  (try dsimp only at hSw)
  have ha := HX1.out.keep hSw;have c0 := ha.cell 0 _ rfl;have c1 := ha.cell 1 _ rfl;have c2 := ha.cell 2 _ rfl;have c3 := ha.cell 3 _ rfl;go_simp
  try with_reducible rfl
 refine take_d19 (i := 7) (d := some 10) (v := ?_) rfl rfl (by kernel_rfl) (by kernel_rfl) (by kernel_rfl) (fun _ _ _ h => h) (Or.inl ⟨by rfl, ?_⟩) (by assumption) ?_;rotate_left
 ·intro w hSw
  (try dsimp only at hSw)
  have ha := HX1.out.keep hSw;have c0 := ha.cell 0 _ rfl;have c1 := ha.cell 1 _ rfl;have c2 := ha.cell 2 _ rfl;have c3 := ha.cell 3 _ rfl;go_simp
  try with_reducible rfl
 try simp only [Act.put, List.setIfInBounds_toArray, List.set_cons_zero, List.set_cons_succ]
 refine wpAnyH_ready (rs := [3]) (by kernel_rfl) (by simp) ?_;refine AllReadyH.cons rfl (fun K hK => ?_) AllReadyH.nil;go_simp;refine (HK.out _).mono ?_;rintro e wA ⟨rfl, hbA⟩;have HAA := hid' (Ar.keep (show Ar w2.drew rb _ _ from HA2.out) hbA);go_wp2_with fail;refine hK.out _ _ (below_two hHeld hbA) (fun hHeld2 => ?_);clear hK K
 try simp only [Act.put, List.setIfInBounds_toArray, List.set_cons_zero, List.set_cons_succ]
 refine wpAnyH_ready (rs := [4]) (by kernel_rfl) (by simp) ?_;refine AllReadyH.cons rfl (fun K hK => ?_) AllReadyH.nil;go_simp;refine (HH.out _ (tb_below19 (tb_below19 HT.out HB1.out) hHeld2)).mono ?_;rintro e wC ⟨⟨vo, vc, rfl, hoC⟩, hbC⟩;have HAC := hid' (HAA.out.keep hbC);have HOC := hid' hoC;have HLA : Hid (rb < wA.heap.size) := hid' HAA.out.lt;have HWA := hid' (below_two HB1.out hHeld2).size;clear hoC;go_wp2_with fail;refine hK.out _ _ (below_two hHeld2 hbC) (fun hHeld3 => ?_);clear hK K;refine take_d19 (i := 8) (d := some 11) (v := ?_) rfl rfl (by kernel_rfl) (by kernel_rfl) (by kernel_rfl) (fun _ _ _ h => h) (Or.inl ⟨by rfl, ?_⟩) (by assumption) ?_;rotate_left
 ·intro w hSw;go_simp
  try with_reducible rfl
 try simp only [Act.put, List.setIfInBounds_toArray, List.set_cons_zero, List.set_cons_succ]
 refine wpAnyH_ready (rs := [9]) (by kernel_rfl) (by simp) ?_;refine AllReadyH.cons rfl (fun K hK => ?_) AllReadyH.nil;refine step_store19 rfl 38 _ _ rfl rb #[.int .i64 200, .slice vo 4 vc, .string y, .slice none 0 0] rfl rfl 38 _ (HAC.out) sizeRp19 rfl (by simp [Value.oneCell']) ?_;intro wf hawf huwf;refine hK.out _ _ (hHeld3.trans (huwf.below HRB.out)) (fun _ => ?_);clear hK K
 try simp only [Act.put]
 refine wpAnyH_done (by kernel_rfl) ?_ _;have HWF := hid' hawf;have HUF := hid' huwf;have HBF := hid' ((below_two HB1.out hHeld3).trans (huwf.below (Nat.le_trans HB1.out.size HRB.out)));clear hawf huwf hbA hbC hHeld hHeld2 hHeld3;go_wp2_with fail;have hld := ldRp19 HWF.out;exact bodyPost_ret (v := .agg #[.int .i64 200, .slice vo 4 vc, .string y, .slice none 0 0]) (by simp [results, Tryz.results119, asAddr, hld]) rfl ⟨⟨vo, 4, vc, rfl, HL.out, own_upd19 HOC.out HUF.out HLA.out HWA.out⟩, HBF.out⟩


theorem cut19 (y : ByteArray) (A D : Nat) : (⟨((y.data.toList.take D).drop A).toArray⟩ : ByteArray) = y.extract A D := by
 apply ByteArray.ext;rw [ByteArray.data_extract];apply Array.toList_inj.1;rw [Array.toList_extract, List.extract_eq_take_drop, List.drop_take]
theorem two19 (w : World) (T : TypeId) (x0 x1 : Value) : ∀ j v, [x0, x1][j]? = some v → (w.alloc (.cells #[x0, x1] T)).cell? ((⟨w.heap.size, 0, none⟩ : Addr).add j) = some v := two_new w T x0 x1

set_option maxRecDepth 20000 in
theorem csingle19 (p y : ByteArray) (t q : Int) (he : EN19 ⟨p, y, t, q⟩) (hp : p.size ≤ 140737488355328) (A C : Nat) (hac : A ≤ C) (hc : C < y.size) (w : World) (hT : TB19 w) :
  Calls Tryz.prog 157 #[.agg #[.string p, .string y, .int .i64 t, .int .i64 q], .agg #[.int .i64 (A : Int), .int .i64 (C : Int)]] w fun e w' => RP19 w w' e (Fs.one (Fs.kind p.data.toList) ⟨p, y, t, q⟩ ⟨(A : Int), (C : Int)⟩) := by
 have hy := he.b;simp only at hy;have HT := hid' hT;have HK := hid' (fun W => ckind19 p _ rfl hp W);obtain ⟨kd, hkd⟩ : ∃ kd : ByteArray, ⟨(Fs.kind p.data.toList).toArray⟩ = kd := ⟨_, rfl⟩;have hkl : Fs.kind p.data.toList = kd.data.toList := by rw [← hkd]
 rw [hkd] at HK;have HH := hid' (fun W (h : TB19 W) => cheads19 p y t q he kd W h);have HTD := hid' (fun W (h : TB19 W) => ctold16 ⟨(A : Int), (C : Int)⟩ (y.size : Int) W (by simp only; omega) (by simp only; omega) (by simp only; omega) (by simp only; omega) (by omega) (by omega) h);unfold RP19 Fs.one;rw [hkl];have HL := hid' (head_len19 kd.data.toList ⟨p, y, t, q⟩);generalize Fs.head kd.data.toList ⟨p, y, t, q⟩ = fs at *;simp only at HTD ⊢;obtain ⟨D, hD⟩ : ∃ D : Nat, C + 1 = D := ⟨_, rfl⟩;have hcu : (⟨((y.data.toList.take ((C : Int) + 1).toNat).drop ((A : Int)).toNat).toArray⟩ : ByteArray) = y.extract A D := by
  rw [show ((C : Int) + 1).toNat = D by omega, show ((A : Int)).toNat = A by omega];exact cut19 y A D
 rw [hcu];obtain ⟨td, htd⟩ : ∃ td : ByteArray, ⟨(Rg.told ⟨(A : Int), (C : Int)⟩ (y.size : Int)).toArray⟩ = td := ⟨_, rfl⟩;rw [show Fs.fd Fs.nCR (Rg.told ⟨(A : Int), (C : Int)⟩ (y.size : Int)) = ⟨Fs.str Fs.nCR, td⟩ by rw [← htd]; rfl];rw [htd] at HTD;have hwr : IntKind.i64.wrap ((C : Int) + 1) = (D : Int) := by rw [wrp _ (by omega) (by omega)]; omega
 have had : A ≤ D := by omega
 have hdy : D ≤ y.size := by omega
 have had2 : (A : Int) ≤ (D : Int) := by omega
 have hdy2 : (D : Int) ≤ (y.size : Int) := by omega
 unfold rpC;clear hT he hp hkd hkl hcu htd hac hc hD;obtain ⟨i0, hi0, hz0, hz1, hz2⟩ := minfo_parts infoF14;have HI := hid' hi0;have HZ0 := hid' hz0;have HZ1 := hid' hz1;have HZ2 := hid' hz2;have HY := hid' hy;clear hi0 hz0 hz1 hz2 hy;go_enter Tryz.func157, Tryz.ntmps157;go_wp2_with (refine wpl_box 68 _ rfl rfl #[.string p, .string y, .int .i64 t, .int .i64 q] (by kernel_rfl) ?_);intro xb w1 hg1 ha1 hb1;have HX1 := hid' ha1;have HB1 := hid' hb1;clear hg1 ha1 hb1;go_wp2_with (refine wpl_box 227 _ rfl rfl #[.int .i64 (A : Int), .int .i64 (C : Int)] (by kernel_rfl) ?_);intro zb w2 hg2 ha2 hb2;have HX2 := hid' (HX1.out.keep hb2);have HZ := hid' ha2;have HB2 := hid' (below_two HB1.out hb2);clear hg2 ha2 hb2 HX1 HB1;go_wp2_with (refine wpl_alloc 38 rfl rfl _ zeroRp19 ?_);intro rb w3 hrb ha3 hl3;have HA3 := hid' ha3;have HB3 := hid' hl3;have HRB := hid' hrb;have HRL := hid' ha3.lt;have x1 := (HX2.out.keep hl3).cell 1 _ rfl;clear hrb ha3 hl3;go_upto_region 2 with fail;clear x1;refine wp_region_held_drew (S := fun W => Below w2.heap.size w2 W) (by kernel_rfl) (HB3.out.drew) (fun hHeld => ?_);refine take_d19 (i := 0) (d := some 10) (v := ?_) rfl rfl (by kernel_rfl) (by kernel_rfl) (by kernel_rfl) (fun _ _ _ h => h) (Or.inl ⟨by rfl, ?_⟩) (by assumption) ?_;rotate_left
 ·intro w hSw
  (try dsimp only at hSw)
  have ha := HX2.out.keep hSw;have c0 := ha.cell 0 _ rfl;have c1 := ha.cell 1 _ rfl;have c2 := ha.cell 2 _ rfl;have c3 := ha.cell 3 _ rfl;go_simp
  try with_reducible rfl
 refine take_d19 (i := 1) (d := some 11) (v := ?_) rfl rfl (by kernel_rfl) (by kernel_rfl) (by kernel_rfl) (fun _ _ _ h => h) (Or.inl ⟨by rfl, ?_⟩) (by assumption) ?_;rotate_left
 ·intro w hSw
  (try dsimp only at hSw)
  have ha := HX2.out.keep hSw;have c0 := ha.cell 0 _ rfl;have c1 := ha.cell 1 _ rfl;have c2 := ha.cell 2 _ rfl;have c3 := ha.cell 3 _ rfl;go_simp
  try with_reducible rfl
 refine take_d19 (i := 2) (d := some 12) (v := ?_) rfl rfl (by kernel_rfl) (by kernel_rfl) (by kernel_rfl) (fun _ _ _ h => h) (Or.inl ⟨by rfl, ?_⟩) (by assumption) ?_;rotate_left
 ·intro w hSw
  (try dsimp only at hSw)
  have ha := HX2.out.keep hSw;have c0 := ha.cell 0 _ rfl;have c1 := ha.cell 1 _ rfl;have c2 := ha.cell 2 _ rfl;have c3 := ha.cell 3 _ rfl;go_simp
  try with_reducible rfl
 try simp only [Act.put, List.setIfInBounds_toArray, List.set_cons_zero, List.set_cons_succ]
 refine wpAnyH_ready (rs := [3]) (by kernel_rfl) (by simp) ?_;refine AllReadyH.cons rfl (fun K hK => ?_) AllReadyH.nil;go_simp;refine (HK.out _).mono ?_;rintro e wA ⟨rfl, hbA⟩;have HAA := hid' (Ar.keep (show Ar w3.drew rb _ _ from HA3.out) hbA);go_wp2_with fail;refine hK.out _ _ (below_two hHeld hbA) (fun hHeld2 => ?_);clear hK K
 try simp only [Act.put, List.setIfInBounds_toArray, List.set_cons_zero, List.set_cons_succ]
 refine wpAnyH_ready (rs := [4]) (by kernel_rfl) (by simp) ?_;refine AllReadyH.cons rfl (fun K hK => ?_) AllReadyH.nil;go_simp;refine (HH.out _ (tb_below19 (tb_below19 HT.out HB2.out) hHeld2)).mono ?_;rintro e wC ⟨⟨vo, vc, rfl, hoC⟩, hbC⟩;have HAC := hid' (HAA.out.keep hbC);have HOC := hid' hoC;have HLA : Hid (rb < wA.heap.size) := hid' HAA.out.lt;have HWA := hid' (below_two HB2.out hHeld2).size;have HBC := hid' (below_two hHeld2 hbC);have HLC := hid' hbC.size;have hHA := hid' hHeld2.size;clear hoC;go_wp2_with fail;refine hK.out _ _ (below_two hHeld2 hbC) (fun hHeld3 => ?_);clear hK K;refine take_d19 (i := 5) (d := some 6) (v := ?_) rfl rfl (by kernel_rfl) (by kernel_rfl) (by kernel_rfl) (fun _ _ _ h => h) (Or.inl ⟨by rfl, ?_⟩) (by assumption) ?_;rotate_left
 ·intro w hSw;go_simp
  try with_reducible rfl
 try simp only [Act.put, List.setIfInBounds_toArray, List.set_cons_zero, List.set_cons_succ]
 try simp only [Act.put]
 refine wpAnyH_done (by kernel_rfl) ?_ _;clear hHeld hHeld2 hHeld3 hbA hbC;go_upto_region 3 with fail;refine wp_region_held_drew (S := fun W => Below w2.heap.size w2 W) (by kernel_rfl) (HBC.out.drew) (fun hG => ?_);refine take_d19 (i := 0) (d := some 15) (v := ?_) rfl rfl (by kernel_rfl) (by kernel_rfl) (by kernel_rfl) (fun _ _ _ h => h) (Or.inl ⟨by rfl, ?_⟩) (by assumption) ?_;rotate_left
 ·intro w hSw;go_simp
  try with_reducible rfl
 refine take_d19 (i := 1) (d := some 16) (v := ?_) rfl rfl (by kernel_rfl) (by kernel_rfl) (by kernel_rfl) (fun _ _ _ h => h) (Or.inl ⟨by rfl, ?_⟩) (by assumption) ?_;rotate_left
 ·intro w hSw
  (try dsimp only at hSw)
  have ha := HZ.out.keep hSw;have c0 := ha.cell 0 _ rfl;have c1 := ha.cell 1 _ rfl;go_simp
  try with_reducible rfl
 refine take_d19 (i := 2) (d := some 17) (v := ?_) rfl rfl (by kernel_rfl) (by kernel_rfl) (by kernel_rfl) (fun _ _ _ h => h) (Or.inl ⟨by rfl, ?_⟩) (by assumption) ?_;rotate_left
 ·intro w hSw;go_simp
  try with_reducible rfl
 refine take_d19 (i := 3) (d := some 18) (v := ?_) rfl rfl (by kernel_rfl) (by kernel_rfl) (by kernel_rfl) (fun _ _ _ h => h) (Or.inl ⟨by rfl, ?_⟩) (by assumption) ?_;rotate_left
 ·intro w hSw;go_simp
  try with_reducible rfl
 refine take_d19 (i := 8) (d := some 23) (v := ?_) rfl rfl (by kernel_rfl) (by kernel_rfl) (by kernel_rfl) (fun _ _ _ h => h) (Or.inl ⟨by rfl, ?_⟩) (by assumption) ?_;rotate_left
 ·intro w hSw;go_simp
  try with_reducible rfl
 refine take_d19 (i := 9) (d := some 24) (v := ?_) rfl rfl (by kernel_rfl) (by kernel_rfl) (by kernel_rfl) (fun _ _ _ h => h) (Or.inl ⟨by rfl, ?_⟩) (by assumption) ?_;rotate_left
 ·intro w hSw;go_simp
  try with_reducible rfl
 refine take_d19 (i := 10) (d := some 25) (v := ?_) rfl rfl (by kernel_rfl) (by kernel_rfl) (by kernel_rfl) (fun _ _ _ h => h) (Or.inl ⟨by rfl, ?_⟩) (by assumption) ?_;rotate_left
 ·intro w hSw
  (try dsimp only at hSw)
  have ha := HZ.out.keep hSw;have c0 := ha.cell 0 _ rfl;have c1 := ha.cell 1 _ rfl;go_simp
  try with_reducible rfl
 refine take_d19 (i := 11) (d := some 26) (v := ?_) rfl rfl (by kernel_rfl) (by kernel_rfl) (by kernel_rfl) (fun _ _ _ h => h) (Or.inl ⟨by rfl, ?_⟩) (by assumption) ?_;rotate_left
 ·intro w hSw;go_simp
  try with_reducible rfl
 refine take_d19 (i := 12) (d := some 27) (v := ?_) rfl rfl (by kernel_rfl) (by kernel_rfl) (by kernel_rfl) (fun _ _ _ h => h) (Or.inl ⟨by rfl, ?_⟩) (by assumption) ?_;rotate_left
 ·intro w hSw
  (try dsimp only at hSw)
  have ha := HZ.out.keep hSw;have c0 := ha.cell 0 _ rfl;have c1 := ha.cell 1 _ rfl;go_simp
  try with_reducible rfl
 refine take_d19 (i := 13) (d := some 28) (v := ?_) rfl rfl (by kernel_rfl) (by kernel_rfl) (by kernel_rfl) (fun _ _ _ h => h) (Or.inl ⟨by rfl, ?_⟩) (by assumption) ?_;rotate_left
 ·intro w hSw;go_simp
  try with_reducible rfl
 refine take_d19 (i := 14) (d := some 29) (v := ?_) rfl rfl (by kernel_rfl) (by kernel_rfl) (by kernel_rfl) (fun _ _ _ h => h) (Or.inl ⟨by rfl, ?_⟩) (by assumption) ?_;rotate_left
 ·intro w hSw;go_simp
  try with_reducible rfl
 try simp only [Act.put, List.setIfInBounds_toArray, List.set_cons_zero, List.set_cons_succ]
 refine wpAnyH_ready (rs := [4]) (by kernel_rfl) (by simp) ?_;refine AllReadyH.cons rfl (fun K hK => ?_) AllReadyH.nil;go_simp;refine (HTD.out _ (tb_below19 (tb_below19 HT.out HB2.out) hG)).mono ?_;rintro e wE ⟨rfl, hbE⟩;have HAE := hid' (Ar.keep (show Ar wC.drew rb _ _ from HAC.out) hbE);have HOE := hid' (own_same (show wC.drew.ownsRow _ _ _ _ _ _ from HOC.out) (fun j hj => hbE.block j (own_lt HOC.out j hj)));go_wp2_with fail;refine hK.out _ _ (below_two hG hbE) (fun hG2 => ?_);clear hK K
 try simp only [Act.put, List.setIfInBounds_toArray, List.set_cons_zero, List.set_cons_succ]
 refine wpAnyH_ready (rs := [5]) (by kernel_rfl) (by simp) ?_;refine AllReadyH.cons rfl (fun K hK => ?_) AllReadyH.nil;go_simp;refine (ctoldF19 td _).mono ?_;rintro e wF ⟨rfl, hbF⟩;have HAF := hid' (HAE.out.keep hbF);have HOF := hid' (own_same HOE.out (fun j hj => hbF.block j (own_lt HOE.out j hj)));go_wp2_with fail;refine hK.out _ _ (below_two hG2 hbF) (fun hG3 => ?_);clear hK K
 try simp only [Act.put, List.setIfInBounds_toArray, List.set_cons_zero, List.set_cons_succ]
 refine wpAnyH_ready (rs := [6]) (by kernel_rfl) (by simp) ?_;refine AllReadyH.cons rfl (fun K hK => ?_) AllReadyH.nil;refine step_lit19 rfl (some 21) rfl 44 1 #[.string ⟨#[99, 111, 110, 116, 101, 110, 116, 45, 114, 97, 110, 103, 101]⟩, .string td] (by go_simp) ?_;have hbG := bl_alloc19 wF (.cells #[.string ⟨#[99, 111, 110, 116, 101, 110, 116, 45, 114, 97, 110, 103, 101]⟩, .string td] 44);have HAG := hid' (HAF.out.keep hbG);have HOG := hid' (own_same HOF.out (fun j hj => hbG.block j (own_lt HOF.out j hj)));have HN := hid' (two19 wF 44 (.string ⟨#[99, 111, 110, 116, 101, 110, 116, 45, 114, 97, 110, 103, 101]⟩) (.string td));refine hK.out _ _ (below_two hG3 hbG) (fun hG4 => ?_);clear hK K
 try simp only [Act.put, List.setIfInBounds_toArray, List.set_cons_zero, List.set_cons_succ]
 refine wpAnyH_ready (rs := [7]) (by kernel_rfl) (by simp) ?_;refine AllReadyH.cons rfl (fun K hK => ?_) AllReadyH.nil;refine step_app19 rfl (some 22) rfl _ _ 23 rfl wA.heap.size 44 i0 (.agg #[.string ⟨#[]⟩, .string ⟨#[]⟩]) 2 32 Tryz.underlying23 HI.out HZ0.out HZ1.out HZ2.out (by rfl) (by decide) (.slice vo 4 vc) 4 (fC fs) (by rfl) HOG.out ⟨wF.heap.size, 0, none⟩ 1 1 [.string ⟨#[99, 111, 110, 116, 101, 110, 116, 45, 114, 97, 110, 103, 101]⟩, .string td] (by rfl) rfl HN.out (by simp [Value.oneCell']) (by decide) (by decide) (Nat.le_trans HLC.out (Nat.le_trans hbE.size (Nat.le_trans hbF.size hbG.size))) ?_;intro v6 w6 hown6 hgrow6;have hbH : Below w2.heap.size w2 w6 := below_grown19 hG4 hG4.size (own_base19 HOG.out (Nat.le_trans hHA.out (Nat.le_refl _))) hgrow6;obtain ⟨v6o, v6c, hv6⟩ := own_shape hown6;subst hv6;have HAH : Hid (Ar w6 rb 38 #[.int .i64 0, .slice none 0 0, .string ⟨#[]⟩, .slice none 0 0]) := hid' (ar_grown HAG.out hgrow6 (fun j hj => by have h1 := own_ge19 HOG.out j hj; have h2 := HLA.out; omega));have HOH : Hid (w6.ownsRow wA.heap.size 44 2 (.slice v6o 5 v6c) 5 (fC (fs ++ [⟨Fs.str Fs.nCR, td⟩]))) := hid' (by rw [fC_append]; exact hown6);refine hK.out _ _ hbH (fun hG5 => ?_);clear hK K hown6 hgrow6;refine take_d19 (i := 15) (d := some 30) (v := ?_) rfl rfl (by kernel_rfl) (by kernel_rfl) (by kernel_rfl) (fun _ _ _ h => h) (Or.inl ⟨by rfl, ?_⟩) (by assumption) ?_;rotate_left
 ·intro w hSw;go_simp
  try with_reducible rfl
 try simp only [Act.put, List.setIfInBounds_toArray, List.set_cons_zero, List.set_cons_succ]
 refine wpAnyH_ready (rs := [16]) (by kernel_rfl) (by simp) ?_;refine AllReadyH.cons rfl (fun K hK => ?_) AllReadyH.nil;refine step_store19 rfl 38 _ _ rfl rb #[.int .i64 206, .slice v6o 5 v6c, .string (y.extract A D), .slice none 0 0] rfl rfl 38 _ (HAH.out) sizeRp19 rfl (by simp [Value.oneCell']) ?_;intro wf hawf huwf;refine hK.out _ _ (hG5.trans (huwf.below HRB.out)) (fun _ => ?_);clear hK K
 try simp only [Act.put]
 refine wpAnyH_done (by kernel_rfl) ?_ _;have HWF := hid' hawf;have HUF := hid' huwf;have HBF := hid' ((below_two HB2.out hG5).trans (huwf.below (Nat.le_trans HB2.out.size HRB.out)));have HL5 : Hid ((fs ++ ([⟨Fs.str Fs.nCR, td⟩] : List Fd)).length = 5) := hid' (by rw [List.length_append, HL.out]; rfl);clear hawf huwf hbE hbF hbG hG hG2 hG3 hG4 hG5 hbH;go_wp2_with fail;have hld := ldRp19 HWF.out;exact bodyPost_ret (v := .agg #[.int .i64 206, .slice v6o 5 v6c, .string (y.extract A D), .slice none 0 0]) (by simp [results, Tryz.results157, asAddr, hld]) rfl ⟨⟨v6o, 5, v6c, rfl, HL5.out, own_upd19 HOH.out HUF.out HLA.out HWA.out⟩, HBF.out⟩

end Go.Proofs.YthhpejgpfaikaabGreatDoor
