/-
  What the row stands on.
-/
import Derived.Test.YthhpejgpfaikaabGreatDoorPsAT
import Derived.Test.YthhpejgpfaikaabGreatDoorPsAU
import Derived.Test.YthhpejgpfaikaabGreatDoorPsAP
import Derived.Test.YthhpejgpfaikaabGreatDoorProg
import Derived.Test.YthhpejgpfaikaabGreatDoorPsAA
import Derived.Test.YthhpejgpfaikaabGreatDoorPsAJ
import Derived.Test.YthhpejgpfaikaabGreatDoorPsAS
namespace Go.Proofs.YthhpejgpfaikaabGreatDoor
set_option maxHeartbeats 64000000

namespace Ap
open Rt (Prt Ro Mt prt pats pattern pat caught find best sel byM)
theorem caught_val : ∀ (a : List Prt) (l : List T8) (e : Bool), ∀ c ∈ caught a l e, c.2.length ≤ (l.map List.length).sum + l.length + 1 := by
 intro a
 induction a with
 | nil => intro l e c hc; simp [caught] at hc
 | cons p x ih =>
  intro l e c hc;have ht : ∀ c ∈ caught x l.tail e, c.2.length ≤ (l.map List.length).sum + l.length + 1 := fun c hc => by
   have h1 := ih l.tail e c hc;cases l with
   | nil => simpa using h1
   | cons d r => simp only [List.tail_cons, List.map_cons, List.sum_cons, List.length_cons] at *; omega
  rw [caught] at hc;split at hc
  ·rcases List.mem_cons.1 hc with rfl | hc
   ·cases l with
    | nil => simp
    | cons d r => simp only [List.headD_cons, List.map_cons, List.sum_cons, List.length_cons]; omega
   ·exact ht c hc
  ·split at hc
   ·rcases List.mem_cons.1 hc with rfl | hc
    ·have h1 := Pt.join_len l;simp only [List.length_append];split
     ·simp only [List.length_cons, List.length_nil]; omega
     ·simp only [List.length_nil]; omega
    ·exact ht c hc
   ·exact ht c hc
theorem caught_name : ∀ (a : List Prt) (l : List T8) (e : Bool), ∀ c ∈ caught a l e, ∃ p ∈ a, c.1 = p.t := by
 intro a
 induction a with
 | nil => intro l e c hc; simp [caught] at hc
 | cons p x ih =>
  intro l e c hc;have ht : ∀ c ∈ caught x l.tail e, ∃ q ∈ p :: x, c.1 = q.t := fun c hc => by
   obtain ⟨q, hq, h⟩ := ih l.tail e c hc;exact ⟨q, List.mem_cons_of_mem _ hq, h⟩
  rw [caught] at hc;split at hc
  ·rcases List.mem_cons.1 hc with rfl | hc
   ·exact ⟨p, List.mem_cons_self, rfl⟩
   ·exact ht c hc
  ·split at hc
   ·rcases List.mem_cons.1 hc with rfl | hc
    ·exact ⟨p, List.mem_cons_self, rfl⟩
    ·exact ht c hc
   ·exact ht c hc
theorem caught_count : ∀ (a : List Prt) (l : List T8) (e : Bool), (caught a l e).length ≤ a.length := by
 intro a
 induction a with
 | nil => intro l e; exact Nat.le_refl _
 | cons p x ih =>
  intro l e;have h := ih l.tail e;rw [caught];split
  ·simp only [List.length_cons]; omega
  ·split
   ·simp only [List.length_cons]; omega
   ·simp only [List.length_cons]; omega
theorem prt_txt (x : T8) : (prt x).1.t.length ≤ x.length := by
 unfold prt;split
 ·split
  ·simp only [List.length_take, List.length_drop]; omega
  ·simp only [List.length_take, List.length_drop]; omega
 ·split
  ·exact Nat.le_refl _
  ·simp
theorem pat_size (r : Ro) : (pat r).length ≤ r.p.length + 1 ∧ ∀ p ∈ pat r, p.t.length ≤ r.p.length := by
 unfold pat pattern;split
 ·exact ⟨Nat.zero_le _, fun p h => by simp at h⟩
 ·split
  ·cases hp : pats [] (Pt.cutS [] (r.p.drop 1)) with
   | none => exact ⟨Nat.zero_le _, fun p h => by simp at h⟩
   | some ps =>
    simp only [Option.getD_some];have h1 := (Rt.pats_out _ _ _ hp).1;have h0 := Pt.cutS_sum (r.p.drop 1);refine ⟨?_, fun p h => ?_⟩
    ·rw [h1, List.nil_append, List.length_map];rw [List.length_drop] at h0;omega
    ·rw [h1, List.nil_append, List.mem_map] at h;obtain ⟨x, hx, rfl⟩ := h;have h2 := Pt.cutS_size (r.p.drop 1) x hx;have h3 := prt_txt x;rw [List.length_drop] at h2;omega
  ·exact ⟨Nat.zero_le _, fun p h => by simp at h⟩
theorem parts_size (l : T8) : ((Pt.parts l).map List.length).sum + (Pt.parts l).length ≤ l.length + 1 := by
 have h := Pt.cutS_sum l;unfold Pt.parts;have key : ∀ (k : List T8), ((k.filter (fun p => !p.isEmpty)).map List.length).sum + (k.filter (fun p => !p.isEmpty)).length ≤ (k.map List.length).sum + k.length := by
  intro k
  induction k with
  | nil => simp
  | cons p r ih =>
   rw [List.filter_cons];split
   ·simp only [List.map_cons, List.sum_cons, List.length_cons]; omega
   ·simp only [List.map_cons, List.sum_cons, List.length_cons]; omega
 refine Nat.le_trans (key (Pt.cutS [] l)) ?_;omega
theorem clean_size (l : T8) : (Pt.clean l).1.length ≤ l.length + 3 := by
 have h := Pt.core_len (Pt.pre l);have h2 := Pt.pre_le l;show (Pt.core (Pt.pre l)).1.length ≤ l.length + 3;omega
theorem byM_lt {rs : List Ro} {q : List Prt} {m : T8} {k : Nat} (h : byM rs q m = some k) : k < rs.length := by
 unfold byM at h;exact (List.findIdx?_eq_some_iff_findIdx_eq.1 h).1
theorem sel_lt {rs : List Ro} {q : List Prt} {m : T8} {k : Nat} (h : sel rs q m = some k) : k < rs.length := by
 unfold sel at h;cases h1 : byM rs q m with
 | some j => rw [h1] at h; simp at h; subst h; exact byM_lt h1
 | none =>
  rw [h1, Option.none_or] at h;split at h
  ·cases h2 : byM rs q Rt.sGET with
   | some j => rw [h2] at h; simp at h; subst h; exact byM_lt h2
   | none => rw [h2, Option.none_or] at h; exact byM_lt h
  ·rw [Option.none_or] at h; exact byM_lt h
def Lies (rs : List Ro) (p : T8) (q : Mt) : Prop :=
 q = ⟨404, -1, [], []⟩ ∨ (∃ al, q = ⟨405, -1, [], al⟩) ∨ (∃ al, q = ⟨200, -1, [], al⟩) ∨ ∃ (k : Nat) (r : Ro), rs[k]? = some r ∧ q = ⟨200, (k : Int), caught (pat r) (Pt.parts p) (Rt.ends p), []⟩
theorem find_lies (rs : List Ro) (m p : T8) : Lies rs p (find rs m p) := by
 unfold find;cases best rs (Pt.parts p) with
 | none => exact .inl rfl
 | some q =>
  simp only;cases hs : sel rs q m with
  | none =>
   simp only;split
   ·exact .inr (.inr (.inl ⟨_, rfl⟩))
   ·exact .inr (.inl ⟨_, rfl⟩)
  | some k =>
   simp only;have hk := sel_lt hs;have he : rs[k]? = some rs[k] := List.getElem?_eq_getElem hk;rw [he];exact .inr (.inr (.inr ⟨k, _, he, rfl⟩))
theorem caught_size (r : Ro) (p : T8) : (caught (pat r) (Pt.parts p) (Rt.ends p)).length ≤ r.p.length + 1 ∧ ∀ c ∈ caught (pat r) (Pt.parts p) (Rt.ends p), c.1.length ≤ r.p.length ∧ c.2.length ≤ p.length + 2 := by
 obtain ⟨h1, h2⟩ := pat_size r;have h3 := parts_size p;refine ⟨Nat.le_trans (caught_count _ _ _) h1, fun c hc => ⟨?_, ?_⟩⟩
 ·obtain ⟨q, hq, h⟩ := caught_name _ _ _ c hc;rw [h];exact h2 q hq
 ·have := caught_val _ _ _ c hc;omega
theorem says_size (ps : List (T8 × T8)) (N V : Nat) (h : ∀ c ∈ ps, c.1.length ≤ N ∧ c.2.length ≤ V) : (ps.flatMap (fun p => 32 :: (p.1 ++ 61 :: p.2))).length ≤ ps.length * (N + V + 2) := by
 induction ps with
 | nil => simp
 | cons c r ih =>
  have h1 := h c List.mem_cons_self;have h2 := ih (fun x hx => h x (List.mem_cons_of_mem _ hx));rw [List.flatMap_cons, List.length_append];simp only [List.length_cons, List.length_append];rw [Nat.add_mul, Nat.one_mul];omega
def line (ps : List (T8 × T8)) : T8 := [104, 101, 108, 108, 111] ++ ps.flatMap (fun p => 32 :: (p.1 ++ 61 :: p.2))
theorem line_next {ps : List (T8 × T8)} {i : Nat} {c : T8 × T8} (h : ps[i]? = some c) : line (ps.take (i + 1)) = line (ps.take i) ++ (32 :: (c.1 ++ 61 :: c.2)) := by
 unfold line;rw [List.take_add_one, h, List.flatMap_append];simp
theorem line_take (ps : List (T8 × T8)) (i N V : Nat) (h : ∀ c ∈ ps, c.1.length ≤ N ∧ c.2.length ≤ V) : (line (ps.take i)).length ≤ 5 + ps.length * (N + V + 2) := by
 unfold line;have h1 := says_size (ps.take i) N V (fun c hc => h c (List.mem_of_mem_take hc));have h2 : (ps.take i).length * (N + V + 2) ≤ ps.length * (N + V + 2) := Nat.mul_le_mul_right _ (by rw [List.length_take]; omega);rw [List.length_append];simp only [List.length_cons, List.length_nil];omega
theorem kind_none : ∀ {fs : List Fd}, (∀ (j : Nat) (g : Fd), fs[j]? = some g → (g.n.data.toList == Fs.nCT) = false) → kindOf fs = Fs.str Fs.vOC := by
 intro fs h;unfold kindOf;rw [List.find?_eq_none.2 (fun g hg => by
  obtain ⟨j, hj, he⟩ := List.getElem_of_mem hg;rw [h j g (by rw [List.getElem?_eq_getElem hj, he])];exact Bool.false_ne_true)]
 rfl
theorem kind_some : ∀ {fs : List Fd} {i : Nat} {f : Fd}, (∀ (j : Nat) (g : Fd), j < i → fs[j]? = some g → (g.n.data.toList == Fs.nCT) = false) → fs[i]? = some f → (f.n.data.toList == Fs.nCT) = true → kindOf fs = f.v := by
 intro fs
 induction fs with
 | nil => intro i f _ h; simp at h
 | cons a r ih =>
  intro i f h hf hn;cases i with
  | zero =>
   rw [List.getElem?_cons_zero] at hf;injection hf with hf;subst hf;unfold kindOf;simp only [List.find?_cons, hn];rfl
  | succ i =>
   rw [List.getElem?_cons_succ] at hf;have h0 := h 0 a (by omega) (by rw [List.getElem?_cons_zero]);have h1 := ih (fun j g hj hg => h (j + 1) g (by omega) (by rw [List.getElem?_cons_succ]; exact hg)) hf hn;unfold kindOf at h1 ⊢;simp only [List.find?_cons, h0];exact h1
end Ap

open Go.RowKit

set_option maxRecDepth 20000 in
theorem cplain19 (s : Int) (v : Value) (l : List Fd) (w : World) (s0 : -9223372036854775808 ≤ s) (s1 : s ≤ 9223372036854775807) (h : FW w v l) (hl : l.length ≤ 1048576) (hTB : TB19 w) :
  Calls Tryz.prog 35 #[.int .i64 s, v] w fun e w' => RP19 w w' e (Fs.plain s l) := by
 unfold RP19 Fs.plain;simp only;obtain ⟨ao, cap, rfl⟩ := h.shape;have H := hid' h;have HD := hid' (fun W (hT : TB19 W) => decimal_any s s0 s1 W hT.1);have HT := hid' hTB;have HL := hid' hl;have HA := hid' (str_snoc (Lib.itoa s) 10);have hq : (Lib.itoa s).length ≤ 21 := Lib.itoa_length_le s s0 s1;unfold rpC;obtain ⟨n, hn⟩ : ∃ n, l.length = n := ⟨_, rfl⟩;have HN := hid' hn;rw [hn] at H ⊢;clear h hl s0 s1 hn hTB;go_enter Tryz.func35, Tryz.ntmps35;go_wp2_with (refine wpl_alloc 38 rfl rfl _ zeroRp19 ?_);intro rb w1 hrb ha1 hl1;have HA1 := hid' ha1;have HB1 := hid' hl1;have HRB := hid' hrb;clear ha1 hl1 hrb;have HO0 : Hid ((w1.alloc (.cells (fC [Fs.fT]).toArray 44)).ownsRow w1.heap.size 44 2 (.slice (some ⟨w1.heap.size, 0, none⟩) 1 1) 1 (fC [Fs.fT])) := hid' (own_lit19 w1 _ _ 1 2 rfl (by decide) _ (Nat.le_refl _));have HB0 := hid' (bl_alloc19 w1 (.cells (fC [Fs.fT]).toArray 44));go_wp2_with (at_builtin; refine wpl_appL19 rfl _ _ rfl w1.heap.size (.slice (some ⟨w1.heap.size, 0, none⟩) 1 1) 1 (fC [Fs.fT]) rfl HO0.out _ l rfl ((H.out.keep HB1.out).keep HB0.out) (by have := HL.out; omega) HB0.out.size ?_; intro v2 w2 hown2 hgrow2; refine Hid.out ?_);refine hid' ?_;have HB2 : Hid (Below w1.heap.size w1 w2) := hid' (below_grown19 HB0.out HB0.out.size HO0.out hgrow2);rw [← fC_append, HN.out] at hown2;obtain ⟨v2o, v2c, hv2⟩ := own_shape hown2;subst hv2;have HO2 := hid' hown2;clear hown2 hgrow2 HO0 HB0;have HDC := hid' (HD.out w2 (tb_below19 (tb_below19 HT.out HB1.out) HB2.out));go_wp2_with (go_at_call 34; refine HDC.out.mono ?_; rintro e w3 ⟨rfl, hb3⟩; refine Hid.out ?_);refine hid' ?_;have HB3 := hid' (below_two HB2.out hb3);have HO3 := hid' (own_same HO2.out (fun j hj => hb3.block j (own_lt HO2.out j hj)));have HA3 := hid' (HA1.out.keep HB3.out);have HLT := hid' HA1.out.lt;clear hb3;go_wp2_with (refine wpl_store 38 _ _ rfl rfl rb #[.int .i64 s, .slice v2o (1 + n) v2c, .string (⟨(Lib.itoa s).toArray⟩ ++ ⟨#[10]⟩), .slice none 0 0] (by kernel_rfl) (by kernel_rfl) _ _ HA3.out sizeRp19 rfl (by simp [Value.oneCell']) ?_);intro wf hwf huf;go_wp2;have hld := ldRp19 hwf;refine bodyPost_ret (v := .agg #[.int .i64 s, .slice v2o (1 + n) v2c, .string (⟨(Lib.itoa s).toArray⟩ ++ ⟨#[10]⟩), .slice none 0 0]) (by simp [results, Tryz.results35, asAddr, hld]) rfl ⟨⟨v2o, 1 + n, v2c, ?_, ?_, ?_⟩, ?_⟩
 ·rw [HA.out]; rfl
 ·have := HN.out; omega
 ·exact own_upd19 (l := Fs.fT :: l) HO3.out huf HLT.out HB1.out.size
 ·exact (below_two HB1.out HB3.out).trans (huf.below HRB.out)


theorem infoPm18 : (Tryz.prog.info? 165).map (fun i => (i.zero, i.size, i.bytes)) = some (some (.agg #[.string ⟨#[]⟩, .string ⟨#[]⟩]), 2, 32) := by kernel_rfl
def qC18 (l : List (List UInt8 × List UInt8)) : List Value := l.flatMap fun x => [.string ⟨x.1.toArray⟩, .string ⟨x.2.toArray⟩]
theorem qC18_snoc (l : List (List UInt8 × List UInt8)) (x : List UInt8 × List UInt8) : qC18 (l ++ [x]) = qC18 l ++ [.string ⟨x.1.toArray⟩, .string ⟨x.2.toArray⟩] := by
 unfold qC18; rw [List.flatMap_append]; rfl
theorem sizeMt18 : (Tryz.prog.info? 104).map (·.size) = some 4 := by kernel_rfl
theorem zeroMt18 : (Tryz.prog.info? 104).map (fun i => i.zero) = some (some (.agg #[.int .i64 0, .int .i64 0, .slice none 0 0, .string ⟨#[]⟩])) := by kernel_rfl
theorem ldMt18 {w : World} {b : Nat} {x0 x1 x2 x3 : Value} (h : Ar w b 104 #[x0, x1, x2, x3]) : (loadVar 104 ⟨b, 0, none⟩).run Tryz.prog w = .ok (.agg #[x0, x1, x2, x3]) w :=
 run_loadVar_row (P := Tryz.prog) w b 104 104 _ (0, 0) _ h Tryz.underlying104 rfl sizeMt18
theorem own_ge18 {w : World} {B : Nat} {e : TypeId} {s : Nat} {v : Value} {n : Nat} {xs : List Value} (h : w.ownsRow B e s v n xs) (j : Nat) (hj : v.ownBlock = some j) : B ≤ j := by
 rcases h.2 with ⟨h1, _⟩ | ⟨g, cap, cur, h1, h2, _⟩
 ·rw [h1] at hj; simp [Value.ownBlock] at hj
 ·rw [h1] at hj; simp [Value.ownBlock] at hj; omega
def mtR18 (w : World) (q : Rt.Mt) (e : Ending) (w' : World) : Prop := ∃ m ro rc, e = .returned (.agg #[.int .i64 q.st, .int .i64 q.ro, .slice ro m rc, .string ⟨q.al.toArray⟩]) ∧ q.ps.length = m ∧ w'.ownsRow w.heap.size 165 2 (.slice ro m rc) m (qC18 q.ps)
theorem two_new18 (w : World) (T : TypeId) (x0 x1 : Value) : ∀ j v, [x0, x1][j]? = some v → (w.alloc (.cells #[x0, x1] T)).cell? ((⟨w.heap.size, 0, none⟩ : Addr).add j) = some v := by
 intro j v h;rw [Addr.add_mid, Nat.zero_add];have hA : Ar (w.alloc (.cells #[x0, x1] T)) w.heap.size T #[x0, x1] := heap_alloc_last w _;exact hA.cell j v (by simpa using h)

namespace Rt
theorem pats_len18 : ∀ (xs : List T8) {out ps : List Prt}, pats out xs = some ps → ps.length = out.length + xs.length := by
 intro xs
 induction xs with
 | nil => intro out ps h; rw [pats] at h; injection h with h; rw [← h]; rfl
 | cons x r ih =>
  intro out ps h;rw [pats] at h;split at h
  ·cases h
  ·split at h
   ·cases h
   ·rw [ih h, List.length_append]; simp only [List.length_cons, List.length_nil]; omega
theorem pat_len18 (r : Ro) : (pat r).length ≤ r.p.length + 1 := by
 unfold pat pattern;split
 ·simp
 ·split
  ·cases h : pats [] (Pt.cutS [] (r.p.drop 1)) with
   | none => simp
   | some ps =>
    have h1 := pats_len18 _ h;have h2 := Pt.cutS_len (r.p.drop 1);rw [List.length_drop] at h2;rw [List.length_nil] at h1;simp only [Option.getD_some];omega
  ·simp
theorem chk_at {rs : List Ro} {i : Nat} {r : Ro} (h : rs[i]? = some r) : chk (rs.take i) (rs.drop i) = if badRo r then 180 else if twice (rs.take i) r then 181 else chk (rs.take (i + 1)) (rs.drop (i + 1)) := by
 obtain ⟨h1, h2⟩ := List.getElem?_eq_some_iff.1 h;rw [List.drop_eq_getElem_cons h1, h2, chk, List.take_add_one, h];rfl
theorem best_step {rs : List Ro} {i : Nat} {r : Ro} (h : rs[i]? = some r) (l : List T8) : best (rs.take (i + 1)) l = better l (best (rs.take i) l) r := by
 unfold best;rw [List.take_add_one, h, List.foldl_append];rfl
theorem parts_sum (l : T8) : ((Pt.parts l).map List.length).sum + (Pt.parts l).length ≤ l.length + 1 := by
 have h := Pt.cutS_sum l;unfold Pt.parts;have key : ∀ (k : List T8), ((k.filter (fun p => !p.isEmpty)).map List.length).sum + (k.filter (fun p => !p.isEmpty)).length ≤ (k.map List.length).sum + k.length := by
  intro k
  induction k with
  | nil => simp
  | cons a r ih =>
   rw [List.filter_cons];split
   ·simp only [List.map_cons, List.sum_cons, List.length_cons]; omega
   ·simp only [List.map_cons, List.sum_cons, List.length_cons]; omega
 exact Nat.le_trans (key (Pt.cutS [] l)) (by omega)
end Rt


namespace Ms
def bare (m : ByteArray) (s : Int) : Bool := m.toList == [72, 69, 65, 68] || (decide (100 ≤ s) && decide (s ≤ 199)) || s == 204 || s == 304
end Ms

theorem cbare14 (m : ByteArray) (s : Int) (r : Bool) (hr : Ms.bare m s = r) (w : World) :
  Calls Tryz.prog 33 #[.string m, .int .i64 s] w fun e w' => e = .returned (.bool r) ∧ w' = w := by
 have HR := hid' hr;unfold Ms.bare at HR;clear hr;cases c1 : (m.toList == [72, 69, 65, 68]);rotate_left
 ·have HF : Hid (r = true) := hid' (by rw [← HR.out, c1]; simp);by_cases d1 : 100 ≤ s
  ·by_cases d2 : s < 200
   ·have d3 : s ≤ 199 := by omega
    go_enter Tryz.func33, Tryz.ntmps33;go_wp2;go_ret;exact ⟨by rw [HF.out]; rfl, rfl⟩
   ·have d3 : ¬ s ≤ 199 := by omega
    go_enter Tryz.func33, Tryz.ntmps33;go_wp2;go_ret;exact ⟨by rw [HF.out]; rfl, rfl⟩
  ·go_enter Tryz.func33, Tryz.ntmps33;go_wp2;go_ret;exact ⟨by rw [HF.out]; rfl, rfl⟩
 by_cases d1 : 100 ≤ s
 ·by_cases d2 : s < 200
  ·have d3 : s ≤ 199 := by omega
   have HF : Hid (r = true) := hid' (by rw [← HR.out, c1, decide_eq_true d1, decide_eq_true d3]; rfl);go_enter Tryz.func33, Tryz.ntmps33;go_wp2;go_ret;exact ⟨by rw [HF.out]; rfl, rfl⟩
  ·have d3 : ¬ s ≤ 199 := by omega
   cases c2 : (s == 204)
   ·have HF : Hid (r = (s == 304)) := hid' (by rw [← HR.out, c1, decide_eq_true d1, decide_eq_false d3, c2]; rfl);go_enter Tryz.func33, Tryz.ntmps33;go_wp2;go_ret;exact ⟨by rw [HF.out]; rfl, rfl⟩
   ·have HF : Hid (r = true) := hid' (by rw [← HR.out, c2]; simp);go_enter Tryz.func33, Tryz.ntmps33;go_wp2;go_ret;exact ⟨by rw [HF.out]; rfl, rfl⟩
 ·have c2 : (s == 204) = false := beq_false_of_ne (by omega);have c3 : (s == 304) = false := beq_false_of_ne (by omega);have HF : Hid (r = false) := hid' (by rw [← HR.out, c1, decide_eq_false d1, c2, c3]; rfl);go_enter Tryz.func33, Tryz.ntmps33;go_wp2;go_ret;exact ⟨by rw [HF.out]; rfl, rfl⟩


def cC20 (sp : Value) (r : Ap.Rq) (fv tv : Value) (cl root : ByteArray) (pv : Value) : Array Value := #[sp, .string r.m, .string r.sc, .string r.au, .string r.p, fv, .string r.b, tv, .string cl, .string root, pv]
def RP20 (w w' : World) (e : Ending) (r : Ap.Rp) : Prop :=
 (∃ vo n vc uo m uc, e = .returned (.agg (rpC r.s (.slice vo n vc) ⟨r.b.toArray⟩ (.slice uo m uc))) ∧ r.fs.length = n ∧ w'.ownsRow w.heap.size 44 2 (.slice vo n vc) n (fC r.fs) ∧ r.ts.length = m ∧ w'.ownsRow w.heap.size 44 2 (.slice uo m uc) m (fC r.ts)) ∧ Below w.heap.size w w'
theorem rp_done20 (r : Ap.Rp) {w0 w wp wf : World} {rb n m : Nat} {vo uo : Option Addr} {vc uc : Nat} {s : Int} {b : ByteArray} (hs : r.s = s) (hbb : (⟨r.b.toArray⟩ : ByteArray) = b) (hw : Below w0.heap.size w0 w) (hrb : rb < w.heap.size) (hr0 : w0.heap.size ≤ rb) (hb : Below w.heap.size w wp)
  (hl : r.fs.length = n) (ho : wp.ownsRow w.heap.size 44 2 (.slice vo n vc) n (fC r.fs)) (hm : r.ts.length = m) (hp : wp.ownsRow w.heap.size 44 2 (.slice uo m uc) m (fC r.ts)) (hu : Upd rb wp wf) :
  RP20 w0 wf (.returned (.agg #[.int .i64 s, .slice vo n vc, .string b, .slice uo m uc])) r := by
 subst hs hbb;exact ⟨⟨vo, n, vc, uo, m, uc, rfl, hl, own_upd19 ho hu hrb hw.size, hm, own_upd19 hp hu hrb hw.size⟩, (below_two hw hb).trans (hu.below hr0)⟩
theorem own_pm20 {w : World} {B : Nat} {ao : Option Addr} {n cap : Nat} {l : List (List UInt8 × List UInt8)} (h : w.ownsRow B 165 2 (.slice ao n cap) n (qC18 l)) (i : Nat) (c : List UInt8 × List UInt8) (hc : l[i]? = some c) : ∃ g, ao = some ⟨g, 0, none⟩ ∧ g < w.heap.size ∧ w.cell? ⟨g, i * 2, none⟩ = some (.string ⟨c.1.toArray⟩) ∧ w.cell? ⟨g, i * 2 + 1, none⟩ = some (.string ⟨c.2.toArray⟩) := by
 have key : ∀ (k : List (List UInt8 × List UInt8)) (i : Nat), k[i]? = some c → (qC18 k)[i * 2 + 0]? = some (.string ⟨c.1.toArray⟩) ∧ (qC18 k)[i * 2 + 1]? = some (.string ⟨c.2.toArray⟩) := by
  intro k
  induction k with
  | nil => intro i h; simp at h
  | cons a r ih =>
   intro i h;rw [show qC18 (a :: r) = .string ⟨a.1.toArray⟩ :: .string ⟨a.2.toArray⟩ :: qC18 r from rfl];cases i with
   | zero => simp at h; subst h; exact ⟨rfl, rfl⟩
   | succ i =>
    rw [List.getElem?_cons_succ] at h;rw [show (i + 1) * 2 + 0 = (i * 2 + 0) + 1 + 1 by omega, show (i + 1) * 2 + 1 = (i * 2 + 1) + 1 + 1 by omega];simp only [List.getElem?_cons_succ];exact ih i h
 obtain ⟨k0, k1⟩ := key l i hc;have hlt := (List.getElem?_eq_some_iff.1 k1).1;rcases h.2 with ⟨_, h0⟩ | ⟨g, cap', cur, h1, h2⟩
 ·rw [h.1, h0] at hlt; omega
 ·injection h1 with h1 h3 h4;subst h1;have c0 := h.cells (g := g) rfl _ _ k0;have c1 := h.cells (g := g) rfl _ _ k1;rw [Addr.add_mid, Nat.zero_add] at c0 c1;exact ⟨g, rfl, own_lt h g rfl, c0, c1⟩

theorem cct20 (k : ByteArray) (w : World) :
  Calls Tryz.prog 91 #[.string k] w fun e w' => (∃ vo, e = .returned (.slice vo 1 1) ∧ w'.ownsRow w.heap.size 44 2 (.slice vo 1 1) 1 (fC [⟨Fs.str Fs.nCT, k⟩])) ∧ Below w.heap.size w w' := by
 go_enter Tryz.func91, Tryz.ntmps91;go_wp2_with fail;go_ret;exact ⟨⟨_, rfl, own_lit19 w 44 (fC [⟨Fs.str Fs.nCT, k⟩]) 1 2 rfl (by decide) _ (Nat.le_refl _)⟩, bl_alloc19 w _⟩

set_option maxRecDepth 20000 in
theorem ckind20 (sp : Value) (r : Ap.Rq) (fv tv : Value) (cl root : ByteArray) (pv : Value) (w : World) (hf : FW w fv r.fs) (hl : r.fs.length ≤ 1048576) :
  Calls Tryz.prog 92 #[.agg (cC20 sp r fv tv cl root pv)] w fun e w' => e = .returned (.string (Ap.kindOf r.fs)) ∧ Below w.heap.size w w' := by
 obtain ⟨fo, fc, hv⟩ := hf.shape;obtain ⟨m, sc, au, p, fs, b, ts⟩ := r;simp only at hf hl hv ⊢;obtain ⟨n, hn⟩ : ∃ n, fs.length = n := ⟨_, rfl⟩;rw [hn] at hv hl;subst hv;have HF := hid' hf;have HN := hid' hn;clear hf hn;unfold cC20;go_enter Tryz.func92, Tryz.ntmps92;go_wp2_with (refine wpl_box 108 _ rfl rfl #[sp, .string m, .string sc, .string au, .string p, .slice fo n fc, .string b, tv, .string cl, .string root, pv] (by kernel_rfl) ?_);intro xb w1 hg1 ha1 hb1;have HB1 := hid' hb1;have x5 := ha1.cell 5 _ rfl;clear hg1 ha1 hb1;go_wp2;go_loopw [9] (fun s9 wr => ∃ i : Nat, s9 = .int .i64 (i : Int) ∧ i ≤ n ∧ Hid (∀ (j : Nat) (g : Fd), j < i → fs[j]? = some g → (g.n.data.toList == Fs.nCT) = false) ∧ Hid (Below w1.heap.size w1 wr)) (fun s9 _ => n - (intOf s9).toNat)
 case atStart => exact ⟨0, rfl, Nat.zero_le _, hid' (fun j g hj => absurd hj (Nat.not_lt_zero _)), hid' (Below.refl _ _)⟩
 case round =>
  obtain ⟨i, rfl, hi, HI, HBR⟩ := hrel;by_cases hlt : i < n
  ·have hlt2 : (i : Int) < (n : Int) := by omega
   obtain ⟨f, hfi⟩ : ∃ f, fs[i]? = some f := ⟨_, List.getElem?_eq_getElem (by rw [HN.out]; exact hlt)⟩;obtain ⟨a, hfo, y0, y1⟩ := (HF.out.keep (below_two HB1.out HBR.out)).two i f hfi;subst hfo;have HFI := hid' hfi;have HLT := hid' hlt;clear hfi hlt;have HW : Hid (Ar (wr.alloc (.cells #[.string f.n, .string f.v] 44)) wr.heap.size 44 #[.string f.n, .string f.v]) := hid' (heap_alloc_last wr _);have HBW := hid' (below_two HBR.out (bl_alloc19 wr (.cells #[.string f.n, .string f.v] 44)));go_upto_region 4 with fail;obtain ⟨sb, hsb⟩ : ∃ sb, wr.heap.size = sb := ⟨_, rfl⟩;rw [hsb] at HW ⊢;generalize wr.alloc (.cells #[.string f.n, .string f.v] 44) = w2 at *;clear hsb y0 y1;have z0 := HW.out.cell 0 _ rfl;have z1 := HW.out.cell 1 _ rfl;cases c1 : (f.n.toList == [99, 111, 110, 116, 101, 110, 116, 45, 116, 121, 112, 101])
   ·go_wp2;go_roundw
    case rel =>
     refine ⟨i + 1, by go_num, by have := HLT.out; omega, hid' (fun j g hj hg => ?_), HBW⟩;by_cases hji : j < i
     ·exact HI.out j g hji hg
     ·obtain rfl : j = i := by omega
      rw [HFI.out] at hg;injection hg with hg;subst hg;rw [ba_list] at c1;exact c1
    case measure => have := HLT.out; simp [intOf]; omega
   ·have HE : Hid (Ap.kindOf fs = f.v) := hid' (Ap.kind_some HI.out HFI.out (by rw [ba_list] at c1; exact c1));go_wp2;go_ret;exact ⟨by rw [HE.out]; rfl, below_two HB1.out HBW.out⟩
  ·obtain rfl : i = n := by omega
   have hlt2 : ¬ (i : Int) < (i : Int) := by omega
   have HE : Hid (Ap.kindOf fs = Fs.str Fs.vOC) := hid' (Ap.kind_none (fun j g hg => HI.out j g (by rw [← HN.out]; exact (List.getElem?_eq_some_iff.1 hg).1) hg));clear hlt;go_wp2;go_ret;exact ⟨by rw [HE.out]; rfl, below_two HB1.out HBR.out⟩

set_option maxRecDepth 20000 in
theorem crest20 (sp : Value) (r : Ap.Rq) (fv tv : Value) (cl root : ByteArray) (po : Option Addr) (pm pc B : Nat) (ps : List (List UInt8 × List UInt8)) (w : World) (hm : ps.length = pm) (h : w.ownsRow B 165 2 (.slice po pm pc) pm (qC18 ps)) :
  Calls Tryz.prog 90 #[.agg (cC20 sp r fv tv cl root (.slice po pm pc))] w fun e w' => e = .returned (.string ⟨((ps.getLast?.map (·.2)).getD []).toArray⟩) ∧ Below w.heap.size w w' := by
 obtain ⟨m, sc, au, p, fs, b, ts⟩ := r;unfold cC20;simp only;by_cases h0 : pm = 0
 ·subst h0;obtain rfl : ps = [] := List.eq_nil_of_length_eq_zero hm;clear h hm;go_enter Tryz.func90, Tryz.ntmps90;go_wp2_with (refine wpl_box 108 _ rfl rfl #[sp, .string m, .string sc, .string au, .string p, fv, .string b, tv, .string cl, .string root, .slice po 0 pc] (by kernel_rfl) ?_);intro xb w1 hg1 ha1 hb1;have HB1 := hid' hb1;have x10 := ha1.cell 10 _ rfl;clear hg1 ha1 hb1;go_wp2;go_ret;exact ⟨rfl, HB1.out⟩
 ·obtain ⟨k, hpk⟩ : ∃ k, pm = k + 1 := ⟨pm - 1, by omega⟩;obtain ⟨c, hc⟩ : ∃ c, ps[k]? = some c := ⟨_, List.getElem?_eq_getElem (by omega)⟩;obtain ⟨g, rfl, hgl, y0, y1⟩ := own_pm20 h k c hc;have HE : Hid ((ps.getLast?.map (·.2)).getD [] = c.2) := hid' (by rw [List.getLast?_eq_getElem?, hm, hpk, Nat.add_sub_cancel, hc]; rfl);have hk0 : ((pm : Int) == 0) = false := by simp; omega
  have hwr : IntKind.i64.wrap ((pm : Int) - 1) = (k : Int) := by
   have : (k : Int) ≤ 9223372036854775807 := by
    have h1 := h.2;rcases h1 with ⟨h1, _⟩ | ⟨g', cap', cur, h1, _, _, _, h5, _⟩
    ·cases h1
    ·injection h1 with _ _ h3;have : pm ≤ cap' := by subst h3; rename_i h4; omega
     unfold maxLen at h5;omega
   rw [wrp _ (by omega) (by omega)]; omega
  have hki : (k : Int) < (pm : Int) := by omega
  clear h h0 hc hm y0 hpk;go_enter Tryz.func90, Tryz.ntmps90;go_wp2_with (refine wpl_box 108 _ rfl rfl #[sp, .string m, .string sc, .string au, .string p, fv, .string b, tv, .string cl, .string root, .slice (some ⟨g, 0, none⟩) pm pc] (by kernel_rfl) ?_);intro xb w1 hg1 ha1 hb1;have HB1 := hid' hb1;have x10 := ha1.cell 10 _ rfl;have z1 := (hb1.cell (p := ⟨g, k * 2 + 1, none⟩) hgl).trans y1;clear hg1 ha1 hb1 y1 hgl;go_wp2;go_ret;exact ⟨by rw [HE.out]; rfl, HB1.out⟩

set_option maxRecDepth 20000 in
theorem callow20 (st ro : Int) (pv : Value) (al : ByteArray) (w : World) :
  Calls Tryz.prog 38 #[.agg #[.int .i64 st, .int .i64 ro, pv, .string al]] w fun e w' => e = .returned (.agg #[.string (Fs.str Fs.nAL), .string al]) ∧ Below w.heap.size w w' := by
 go_enter Tryz.func38, Tryz.ntmps38;go_wp2_with (refine wpl_box 104 _ rfl rfl #[.int .i64 st, .int .i64 ro, pv, .string al] (by kernel_rfl) ?_);intro xb w1 hg1 ha1 hb1;have HX1 := hid' ha1;have HB1 := hid' hb1;clear hg1 ha1 hb1;go_wp2_with (refine wpl_alloc 44 rfl rfl #[.string ⟨#[]⟩, .string ⟨#[]⟩] (by kernel_rfl) ?_);intro rb w2 hrb ha2 hb2;have HA2 := hid' ha2;have HB2 := hid' (below_two HB1.out hb2);have HRB := hid' (Nat.le_trans HB1.out.size hrb);have x3 := (HX1.out.keep hb2).cell 3 _ rfl;clear hrb ha2 hb2;go_wp2_with (refine wpl_store 44 _ _ rfl rfl rb #[.string (Fs.str Fs.nAL), .string al] (by kernel_rfl) (by kernel_rfl) _ _ HA2.out (by kernel_rfl) rfl (by simp [Value.oneCell']) ?_);intro wf hwf huf;go_wp2;have hld := run_loadVar_row (P := Tryz.prog) wf rb 44 44 _ (0, 0) _ hwf Tryz.underlying44 rfl (by kernel_rfl);refine bodyPost_ret (v := .agg #[.string (Fs.str Fs.nAL), .string al]) (by simp [results, Tryz.results38, asAddr, hld]) rfl ⟨rfl, HB2.out.trans (huf.below HRB.out)⟩

theorem croot20 (x : ByteArray) (b : Bool) (hb : (x.data.toList.isEmpty || Dk.path x.data.toList) = b) (w : World) (hx : x.size ≤ 140737488355328) :
  Calls Tryz.prog 15 #[.string x] w fun e w' => e = .returned (.bool b) ∧ Below w.heap.size w w' := by
 obtain ⟨d, hd⟩ : ∃ d, Dk.path x.data.toList = d := ⟨_, rfl⟩;have HP := hid' (fun W => cpath13 x d hd W hx);rw [hd] at hb;cases c : (x.toList == [])
 ·have hb2 : b = d := by
   rw [ba_list] at c;rw [← hb];cases hl : x.data.toList with
   | nil => rw [hl] at c; exact absurd c (by decide)
   | cons u r => rfl
  subst hb2;clear hb hd hx;go_enter Tryz.func15, Tryz.ntmps15;go_wp2_with fail;refine (HP.out w).mono ?_;rintro e w1 ⟨rfl, hb1⟩;have HB1 := hid' hb1;clear hb1;go_wp2;go_ret;exact ⟨rfl, HB1.out⟩
 ·have hb2 : b = true := by
   rw [ba_list] at c;rw [← hb];cases hl : x.data.toList with
   | nil => rfl
   | cons u r => rw [hl] at c; exact absurd c (by simp)
  subst hb2;clear hb hd hx;go_enter Tryz.func15, Tryz.ntmps15;go_wp2;go_ret;exact ⟨rfl, Below.refl _ _⟩

set_option maxRecDepth 20000 in
theorem cgone20 (sp : Value) (r : Ap.Rq) (fv tv : Value) (cl root : ByteArray) (pv : Value) (w : World) (hT : TB19 w) :
  Calls Tryz.prog 62 #[.agg (cC20 sp r fv tv cl root pv)] w fun e w' => RP20 w w' e (Ap.of (Fs.plain 410 [])) := by
 obtain ⟨m, sc, au, p, fs, b, ts⟩ := r;unfold cC20;have HT := hid' hT;have HP := hid' (fun W (h : TB19 W) => cplain19 410 (.slice none 0 0) [] W (by decide) (by decide) (fw_nil19 W) (by decide) h);clear hT;go_enter Tryz.func62, Tryz.ntmps62;go_wp2_with (refine wpl_box 108 _ rfl rfl #[sp, .string m, .string sc, .string au, .string p, fv, .string b, tv, .string cl, .string root, pv] (by kernel_rfl) ?_);intro xb w1 hg1 ha1 hb1;have HB1 := hid' hb1;clear hg1 ha1 hb1;go_wp2_with (refine wpl_alloc 38 rfl rfl _ zeroRp19 ?_);intro rb w2 hrb ha2 hb2;have HA2 := hid' ha2;have HB2 := hid' (below_two HB1.out hb2);have HRB := hid' (Nat.le_trans HB1.out.size hrb);clear hrb ha2 hb2;go_wp2_with fail;refine (HP.out w2 (tb_below19 HT.out HB2.out)).mono ?_;rintro e w3 ⟨⟨vo, n, vc, rfl, hn, ho⟩, hb3⟩;have HN3 := hid' hn;have HO3 := hid' ho;have HB3 := hid' hb3;have HA3 := hid' (HA2.out.keep hb3);clear hn ho hb3;obtain ⟨bd, hbd⟩ : ∃ bd : ByteArray, (⟨(Fs.plain 410 []).b.toArray⟩ : ByteArray) = bd := ⟨_, rfl⟩;rw [show (Fs.plain 410 []).s = 410 from rfl, hbd];have HBD := hid' hbd;clear hbd;unfold rpC;go_wp2_with (refine wpl_store 38 _ _ rfl rfl rb #[.int .i64 410, .slice vo n vc, .string bd, .slice none 0 0] (by kernel_rfl) (by kernel_rfl) _ _ HA3.out sizeRp19 rfl (by simp [Value.oneCell']) ?_);intro wf hwf huf;go_wp2;have hld := ldRp19 hwf;exact bodyPost_ret (v := .agg #[.int .i64 410, .slice vo n vc, .string bd, .slice none 0 0]) (by simp [results, Tryz.results62, asAddr, hld]) rfl (rp_done20 (Ap.of (Fs.plain 410 [])) rfl HBD.out HB2.out HA2.out.lt HRB.out HB3.out HN3.out HO3.out rfl (World.ownsRow_nil _ _ _ _) huf)


theorem head_len19 (kd : Fs.T8) (e : Dk.En) : (Fs.head kd e).length = 4 := rfl

set_option maxRecDepth 20000 in
theorem cwhole19 (p y : ByteArray) (t q : Int) (he : EN19 ⟨p, y, t, q⟩) (hp : p.size ≤ 140737488355328) (w : World) (hT : TB19 w) :
  Calls Tryz.prog 119 #[.agg #[.string p, .string y, .int .i64 t, .int .i64 q]] w fun e w' => RP19 w w' e (Fs.whole (Fs.kind p.data.toList) ⟨p, y, t, q⟩) := by
 have HT := hid' hT;have HK := hid' (fun W => ckind19 p _ rfl hp W);obtain ⟨kd, hkd⟩ : ∃ kd : ByteArray, ⟨(Fs.kind p.data.toList).toArray⟩ = kd := ⟨_, rfl⟩;have hkl : Fs.kind p.data.toList = kd.data.toList := by rw [← hkd]
 rw [hkd] at HK;have HH := hid' (fun W (h : TB19 W) => cheads19 p y t q he kd W h);unfold RP19 Fs.whole;rw [hkl];have HL := hid' (head_len19 kd.data.toList ⟨p, y, t, q⟩);generalize Fs.head kd.data.toList ⟨p, y, t, q⟩ = fs at *;simp only;rw [show (⟨y.data.toList.toArray⟩ : ByteArray) = y from rfl];unfold rpC;clear hT he hp hkd hkl;go_enter Tryz.func119, Tryz.ntmps119;go_wp2_with (refine wpl_box 68 _ rfl rfl #[.string p, .string y, .int .i64 t, .int .i64 q] (by kernel_rfl) ?_);intro xb w1 hg1 ha1 hb1;have HX1 := hid' ha1;have HB1 := hid' hb1;clear hg1 ha1 hb1;go_wp2_with (refine wpl_alloc 38 rfl rfl _ zeroRp19 ?_);intro rb w2 hrb ha2 hl2;have HA2 := hid' ha2;have HB2 := hid' hl2;have HRB := hid' hrb;have HRL := hid' ha2.lt;clear hrb ha2 hl2;go_upto_region 1 with fail;refine wp_region_held_drew (S := fun W => Below w1.heap.size w1 W) (by kernel_rfl) (HB2.out.drew) (fun hHeld => ?_);refine take_d19 (i := 0) (d := some 3) (v := ?_) rfl rfl (by kernel_rfl) (by kernel_rfl) (by kernel_rfl) (fun _ _ _ h => h) (Or.inl ⟨by rfl, ?_⟩) (by assumption) ?_;rotate_left
 ·intro w hSw
  (try dsimp only at hSw)
  have ha := HX1.out.keep hSw;have c0 := ha.cell 0 _ rfl;have c1 := ha.cell 1 _ rfl;have c2 := ha.cell 2 _ rfl;have c3 := ha.cell 3 _ rfl;go_simp
  try with_reducible rfl
 refine take_d19 (i := 1) (d := some 4) (v := ?_) rfl rfl (by kernel_rfl) (by kernel_rfl) (by kernel_rfl) (fun _ _ _ h => h) (Or.inl ⟨by rfl, ?_⟩) (by assumption) ?_;rotate_left
 ·intro w hSw
  (try dsimp only at hSw)
  have ha := HX1.out.keep hSw;have c0 := ha.cell 0 _ rfl;have c1 := ha.cell 1 _ rfl;have c2 := ha.cell 2 _ rfl;have c3 := ha.cell 3 _ rfl;go_simp
  try with_reducible rfl
 refine take_d19 (i := 2) (d := some 5) (v := ?_) rfl rfl (by kernel_rfl) (by kernel_rfl) (by kernel_rfl) (fun _ _ _ h => h) (Or.inl ⟨by rfl, ?_⟩) (by assumption) ?_;rotate_left
 ·intro w hSw
  (try dsimp only at hSw)
  have ha := HX1.out.keep hSw;have c0 := ha.cell 0 _ rfl;have c1 := ha.cell 1 _ rfl;have c2 := ha.cell 2 _ rfl;have c3 := ha.cell 3 _ rfl;go_simp
  try with_reducible rfl
 refine take_d19 (i := 5) (d := some 8) (v := ?_) rfl rfl (by kernel_rfl) (by kernel_rfl) (by kernel_rfl) (fun _ _ _ h => h) (Or.inl ⟨by rfl, ?_⟩) (by assumption) ?_;rotate_left
 ·intro w hSw
  (try dsimp only at hSw)
  have ha := HX1.out.keep hSw;have c0 := ha.cell 0 _ rfl;have c1 := ha.cell 1 _ rfl;have c2 := ha.cell 2 _ rfl;have c3 := ha.cell 3 _ rfl;go_simp
  try with_reducible rfl
 refine take_d19 (i := 6) (d := some 9) (v := ?_) rfl rfl (by kernel_rfl) (by kernel_rfl) (by kernel_rfl) (fun _ _ _ h => h) (Or.inl ⟨by rfl, ?_⟩) (by assumption) ?_;rotate_left
 ·intro w hSw
  (try dsimp only at hSw)
  have ha := HX1.out.keep hSw;have c0 := ha.cell 0 _ rfl;have c1 := ha.cell 1 _ rfl;have c2 := ha.cell 2 _ rfl;have c3 := ha.cell 3 _ rfl;go_simp
  try with_reducible rfl
 refine take_d19 (i := 7) (d := some 10) (v := ?_) rfl rfl (by kernel_rfl) (by kernel_rfl) (by kernel_rfl) (fun _ _ _ h => h) (Or.inl ⟨by rfl, ?_⟩) (by assumption) ?_;rotate_left
 ·intro w hSw
  (try dsimp only at hSw)
  have ha := HX1.out.keep hSw;have c0 := ha.cell 0 _ rfl;have c1 := ha.cell 1 _ rfl;have c2 := ha.cell 2 _ rfl;have c3 := ha.cell 3 _ rfl;go_simp
  try with_reducible rfl
 try simp only [Act.put, List.setIfInBounds_toArray, List.set_cons_zero, List.set_cons_succ]
 refine wpAnyH_ready (rs := [3]) (by kernel_rfl) (by simp) ?_;refine AllReadyH.cons rfl (fun K hK => ?_) AllReadyH.nil;go_simp;refine (HK.out _).mono ?_;rintro e wA ⟨rfl, hbA⟩;have HAA := hid' (Ar.keep (show Ar w2.drew rb _ _ from HA2.out) hbA);go_wp2_with fail;refine hK.out _ _ (below_two hHeld hbA) (fun hHeld2 => ?_);clear hK K
 try simp only [Act.put, List.setIfInBounds_toArray, List.set_cons_zero, List.set_cons_succ]
 refine wpAnyH_ready (rs := [4]) (by kernel_rfl) (by simp) ?_;refine AllReadyH.cons rfl (fun K hK => ?_) AllReadyH.nil;go_simp;refine (HH.out _ (tb_below19 (tb_below19 HT.out HB1.out) hHeld2)).mono ?_;rintro e wC ⟨⟨vo, vc, rfl, hoC⟩, hbC⟩;have HAC := hid' (HAA.out.keep hbC);have HOC := hid' hoC;have HLA : Hid (rb < wA.heap.size) := hid' HAA.out.lt;have HWA := hid' (below_two HB1.out hHeld2).size;clear hoC;go_wp2_with fail;refine hK.out _ _ (below_two hHeld2 hbC) (fun hHeld3 => ?_);clear hK K;refine take_d19 (i := 8) (d := some 11) (v := ?_) rfl rfl (by kernel_rfl) (by kernel_rfl) (by kernel_rfl) (fun _ _ _ h => h) (Or.inl ⟨by rfl, ?_⟩) (by assumption) ?_;rotate_left
 ·intro w hSw;go_simp
  try with_reducible rfl
 try simp only [Act.put, List.setIfInBounds_toArray, List.set_cons_zero, List.set_cons_succ]
 refine wpAnyH_ready (rs := [9]) (by kernel_rfl) (by simp) ?_;refine AllReadyH.cons rfl (fun K hK => ?_) AllReadyH.nil;refine step_store19 rfl 38 _ _ rfl rb #[.int .i64 200, .slice vo 4 vc, .string y, .slice none 0 0] rfl rfl 38 _ (HAC.out) sizeRp19 rfl (by simp [Value.oneCell']) ?_;intro wf hawf huwf;refine hK.out _ _ (hHeld3.trans (huwf.below HRB.out)) (fun _ => ?_);clear hK K
 try simp only [Act.put]
 refine wpAnyH_done (by kernel_rfl) ?_ _;have HWF := hid' hawf;have HUF := hid' huwf;have HBF := hid' ((below_two HB1.out hHeld3).trans (huwf.below (Nat.le_trans HB1.out.size HRB.out)));clear hawf huwf hbA hbC hHeld hHeld2 hHeld3;go_wp2_with fail;have hld := ldRp19 HWF.out;exact bodyPost_ret (v := .agg #[.int .i64 200, .slice vo 4 vc, .string y, .slice none 0 0]) (by simp [results, Tryz.results119, asAddr, hld]) rfl ⟨⟨vo, 4, vc, rfl, HL.out, own_upd19 HOC.out HUF.out HLA.out HWA.out⟩, HBF.out⟩

end Go.Proofs.YthhpejgpfaikaabGreatDoor
