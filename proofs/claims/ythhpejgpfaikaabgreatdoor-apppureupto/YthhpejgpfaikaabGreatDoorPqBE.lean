/-
  What the row stands on.
-/
import Derived.Test.YthhpejgpfaikaabGreatDoorPqBB
import Derived.Test.YthhpejgpfaikaabGreatDoorPqAO
import Derived.Test.YthhpejgpfaikaabGreatDoorPqAS
import Derived.Test.YthhpejgpfaikaabGreatDoorPqBD
import Derived.Lib.Join
import Derived.Sort.KeysCollected
import Derived.Maps.Own
import Derived.Test.YthhpejgpfaikaabGreatDoorPqAZ
import Derived.Test.YthhpejgpfaikaabGreatDoorPqAA
namespace Go.Proofs.YthhpejgpfaikaabGreatDoor
set_option maxHeartbeats 64000000
open Go.RowKit

namespace Rt
theorem fits_at0 {ps : List Prt} {i : Nat} {p : Prt} (hp : ps[i]? = some p) (h2 : (p.k == 2) = false) : fits (ps.drop i) [] = false := by
 obtain ⟨h, he⟩ := List.getElem?_eq_some_iff.1 hp;rw [List.drop_eq_getElem_cons h, he, fits_cons, h2]; rfl
theorem fitsU_at {ps : List Prt} {i : Nat} {p : Prt} (hp : ps[i]? = some p) (h2 : (p.k == 2) = false) (x : T8) (r : List T8) : fits (ps.drop i) (x :: r) = (fit1 p x && fits (ps.drop (i + 1)) r) := by
 obtain ⟨h, he⟩ := List.getElem?_eq_some_iff.1 hp;rw [List.drop_eq_getElem_cons h, he, fits_cons, h2]; rfl
theorem fits_atR {ps : List Prt} {i : Nat} {p : Prt} (hw : Wf ps) (hp : ps[i]? = some p) (h2 : p.k = 2) (k : List T8) : fits (ps.drop i) k = true ∧ ps.drop (i + 1) = [] := by
 have hl := hw.last i p hp h2;obtain ⟨h, he⟩ := List.getElem?_eq_some_iff.1 hp;have hd : ps.drop (i + 1) = [] := List.drop_eq_nil_of_le (by omega);refine ⟨?_, hd⟩;rw [List.drop_eq_getElem_cons h, he, fits_cons, h2, hd]; rfl
end Rt
theorem TS18.tail {w : World} {g o : Nat} {x : List UInt8} {r : List (List UInt8)} (h : TS18 w (some ⟨g, o, none⟩) (x :: r)) : TS18 w (some ⟨g, o + 1, none⟩) r := fun i p hp => by
 obtain ⟨g', o', h1, h2, h3⟩ := h (i + 1) p (by simpa using hp);injection h1 with h1;injection h1 with h1 h1';subst h1 h1';exact ⟨g, o + 1, rfl, h2, by rw [show o + 1 + i = o + (i + 1) by omega]; exact h3⟩
theorem TS18.some {w : World} {ao : Option Addr} {x : List UInt8} {r : List (List UInt8)} (h : TS18 w ao (x :: r)) : ∃ g o, ao = some ⟨g, o, none⟩ := by
 obtain ⟨g, o, h1, _⟩ := h 0 x rfl;exact ⟨g, o, h1⟩

set_option maxRecDepth 20000 in
theorem cfits18 (ao : Option Addr) (n cap : Nat) (ps : List Rt.Prt) (hn : ps.length = n) (hnb : n ≤ 4194305) (hg : ∀ p ∈ ps, Rt.Gp p) (hw : Rt.Wf ps) (lo : Option Addr) (m lc : Nat) (k : List (List UInt8)) (hm : k.length = m) (hmb : m ≤ 4194305) (hlc : m ≤ lc) (w : World) (h : PU18 w ao ps) (ht : TS18 w lo k) :
  Calls Tryz.prog 82 #[.slice ao n cap, .slice lo m lc] w fun e w' => e = .returned (.bool (Rt.fits ps k)) ∧ Below w.heap.size w w' := by
 have H := hid' h;have HN := hid' hn;have HG := hid' hg;have HWF := hid' hw;have HT := hid' ht;have HM := hid' hm;have HLC := hid' hlc;have HMB := hid' hmb;clear h hn hg hw ht hm hlc hmb;go_enter Tryz.func82, Tryz.ntmps82;go_wp2;go_loopw [1, 11] (fun s1 s11 wr => ∃ (i m' lc' : Nat) (lo' : Option Addr) (k' : List (List UInt8)), s11 = .int .i64 (i : Int) ∧ s1 = .slice lo' m' lc' ∧ i ≤ n ∧ Hid (k'.length = m') ∧ Hid (m' ≤ 4194305) ∧ Hid (m' ≤ lc') ∧ Hid (TS18 wr lo' k') ∧ Hid (Rt.fits ps k = Rt.fits (ps.drop i) k') ∧ Hid (Below w.heap.size w wr)) (fun _ s11 _ => n - (intOf s11).toNat)
 case atStart => exact ⟨0, m, lc, lo, k, rfl, rfl, Nat.zero_le _, HM, HMB, HLC, HT, hid' (by rw [List.drop_zero]), hid' (Below.refl _ _)⟩
 case round =>
  obtain ⟨i, m', lc', lo', k', rfl, rfl, hi, HKL, HKB, HLC', HTS, HF, HB⟩ := hrel;by_cases hlt : i < n
  ·have hlt2 : (i : Int) < (n : Int) := by omega
   obtain ⟨p, hp⟩ : ∃ p, ps[i]? = some p := ⟨_, List.getElem?_eq_getElem (by rw [HN.out]; exact hlt)⟩;obtain ⟨g, rfl, hgl, y0⟩ := H.out i p hp;have y1 := (HB.out.cell (p := ⟨g, i, none⟩) hgl).trans y0;have HGP := hid' (HG.out p (List.mem_of_getElem? hp));have HP := hid' hp;clear hp y0;rcases Rt.k3 HGP.out with hk | hk | hk
   ·have e1 : pU18 p = .iface 146 (.string ⟨p.t.toArray⟩) := by unfold pU18; rw [hk]; rfl
    rw [e1] at y1;have mm := mtakeP18 ⟨p.t.toArray⟩;have h2 : (p.k == 2) = false := by rw [hk]; rfl
    cases k' with
    | nil =>
     obtain rfl : 0 = m' := HKL.out;have HFF : Hid (Rt.fits ps k = false) := hid' (by rw [HF.out]; exact Rt.fits_at0 HP.out h2);go_wp2_with fail;refine (takeP0_18 ⟨p.t.toArray⟩ _ _ wr).mono ?_;rintro e w1 ⟨rfl, h1⟩;have HB1 := hid' (HB.out.trans (h1.mono HB.out.size));clear h1;go_wp2;go_ret;exact ⟨by rw [HFF.out]; rfl, HB1.out⟩
    | cons x r =>
     obtain ⟨g2, o2, rfl⟩ := HTS.out.some;have HFA := hid' (Rt.fitsU_at HP.out h2 x r);obtain ⟨q, rfl⟩ : ∃ q, m' = q + 1 := ⟨r.length, HKL.out.symm⟩;have HKL2 : Hid (r.length = q) := hid' (by have := HKL.out; simp at this; exact this);have hq0 : (1 : Int) ≤ ((q + 1 : Nat) : Int) := by omega
     have hq1 : ((q + 1 : Nat) : Int) ≤ (lc' : Int) := by have := HLC'.out; omega
     have hq2 : (1 : Int) ≤ (lc' : Int) := by omega
     have hq3 : (((q + 1 : Nat) : Int) - 1) = (q : Int) := by omega
     cases hx : (x == p.t)
     ·have HFF : Hid (Rt.fits ps k = false) := hid' (by rw [HF.out, HFA.out]; unfold Rt.fit1; rw [hk, show (p.t == x) = false from beq_false_of_ne (fun e => by rw [e] at hx; simp at hx)]; rfl);go_wp2_with fail;refine (takePn18 ⟨p.t.toArray⟩ p.t x (by simp) hx _ _ _ r HKL.out wr HTS.out).mono ?_;rintro e w1 ⟨rfl, h1⟩;have HB1 := hid' (HB.out.trans (h1.mono HB.out.size));clear h1;go_wp2;go_ret;exact ⟨by rw [HFF.out]; rfl, HB1.out⟩
     ·have HX : Hid (p.t = x) := hid' (eq_of_beq hx).symm;have HF1 : Hid (Rt.fit1 p x = true) := hid' (by unfold Rt.fit1; rw [HX.out]; simp);clear hx;have HNX : Hid (Rt.fits ps k = Rt.fits (ps.drop (i + 1)) r) := hid' (by rw [HF.out, HFA.out, HF1.out]; rfl);by_cases hc1 : lc' = 1
      ·subst hc1;obtain rfl : q = 0 := by have := HLC'.out; omega
       obtain rfl : r = [] := List.eq_nil_of_length_eq_zero HKL2.out;go_wp2_with fail;refine (takeP18 ⟨p.t.toArray⟩ x (by rw [HX.out]) _ _ _ [] HKL.out wr HTS.out).mono ?_;rintro e w1 ⟨rfl, h1⟩;have HB1 := hid' (HB.out.trans (h1.mono HB.out.size));have HT1 : Hid (TS18 w1 (some ⟨g2, o2, none⟩) []) := hid' (TS18.nil _ _);clear h1;go_wp2;go_roundw
       case rel => exact ⟨i + 1, 0, 0, _, [], by go_num, rfl, by omega, hid' rfl, hid' (by omega), hid' (by omega), HT1, HNX, HB1⟩
       case measure => simp [intOf]; omega
      ·have hc2 : 1 < lc' := by have := HLC'.out; omega
       go_wp2_with fail;refine (takeP18 ⟨p.t.toArray⟩ x (by rw [HX.out]) _ _ _ r HKL.out wr HTS.out).mono ?_;rintro e w1 ⟨rfl, h1⟩;have HB1 := hid' (HB.out.trans (h1.mono HB.out.size));have HT1 : Hid (TS18 w1 (some ⟨g2, o2 + 1, none⟩) r) := hid' ((HTS.out.tail).below h1);clear h1;go_wp2;go_roundw
       case rel => exact ⟨i + 1, q, _, _, r, by go_num, rfl, by omega, HKL2, hid' (by have := HKB.out; omega), hid' (by have := HLC'.out; omega), HT1, HNX, HB1⟩
       case measure => simp [intOf]; omega
   ·have e1 : pU18 p = .iface 149 (.agg #[]) := by unfold pU18; rw [hk]; rfl
    rw [e1] at y1;have mm := mtakeC18;have h2 : (p.k == 2) = false := by rw [hk]; rfl
    cases k' with
    | nil =>
     obtain rfl : 0 = m' := HKL.out;have HFF : Hid (Rt.fits ps k = false) := hid' (by rw [HF.out]; exact Rt.fits_at0 HP.out h2);go_wp2_with fail;refine (takeC0_18 _ _ wr).mono ?_;rintro e w1 ⟨rfl, h1⟩;have HB1 := hid' (HB.out.trans (h1.mono HB.out.size));clear h1;go_wp2;go_ret;exact ⟨by rw [HFF.out]; rfl, HB1.out⟩
    | cons x r =>
     obtain ⟨g2, o2, rfl⟩ := HTS.out.some;have HFA := hid' (Rt.fitsU_at HP.out h2 x r);obtain ⟨q, rfl⟩ : ∃ q, m' = q + 1 := ⟨r.length, HKL.out.symm⟩;have HKL2 : Hid (r.length = q) := hid' (by have := HKL.out; simp at this; exact this);have hq0 : (1 : Int) ≤ ((q + 1 : Nat) : Int) := by omega
     have hq1 : ((q + 1 : Nat) : Int) ≤ (lc' : Int) := by have := HLC'.out; omega
     have hq2 : (1 : Int) ≤ (lc' : Int) := by omega
     have hq3 : (((q + 1 : Nat) : Int) - 1) = (q : Int) := by omega
     have HF1 : Hid (Rt.fit1 p x = true) := hid' (by unfold Rt.fit1; rw [hk]; rfl);have HNX : Hid (Rt.fits ps k = Rt.fits (ps.drop (i + 1)) r) := hid' (by rw [HF.out, HFA.out, HF1.out]; rfl);by_cases hc1 : lc' = 1
     ·subst hc1;obtain rfl : q = 0 := by have := HLC'.out; omega
      obtain rfl : r = [] := List.eq_nil_of_length_eq_zero HKL2.out;go_wp2_with fail;refine (takeC18 _ _ _ (by omega) wr).mono ?_;rintro e w1 ⟨rfl, h1⟩;have HB1 := hid' (HB.out.trans (h1.mono HB.out.size));have HT1 : Hid (TS18 w1 (some ⟨g2, o2, none⟩) []) := hid' (TS18.nil _ _);clear h1;go_wp2;go_roundw
      case rel => exact ⟨i + 1, 0, 0, _, [], by go_num, rfl, by omega, hid' rfl, hid' (by omega), hid' (by omega), HT1, HNX, HB1⟩
      case measure => simp [intOf]; omega
     ·have hc2 : 1 < lc' := by have := HLC'.out; omega
      go_wp2_with fail;refine (takeC18 _ _ _ (by omega) wr).mono ?_;rintro e w1 ⟨rfl, h1⟩;have HB1 := hid' (HB.out.trans (h1.mono HB.out.size));have HT1 : Hid (TS18 w1 (some ⟨g2, o2 + 1, none⟩) r) := hid' ((HTS.out.tail).below h1);clear h1;go_wp2;go_roundw
      case rel => exact ⟨i + 1, q, _, _, r, by go_num, rfl, by omega, HKL2, hid' (by have := HKB.out; omega), hid' (by have := HLC'.out; omega), HT1, HNX, HB1⟩
      case measure => simp [intOf]; omega
   ·have e1 : pU18 p = .iface 148 (.agg #[]) := by unfold pU18; rw [hk]; rfl
    rw [e1] at y1;have mm := mtakeR18;obtain ⟨hfr, hdr⟩ := Rt.fits_atR HWF.out HP.out hk k';have HNX : Hid (Rt.fits ps k = Rt.fits (ps.drop (i + 1)) []) := hid' (by rw [HF.out, hfr, hdr]; rfl);clear hfr hdr;have hq1 : (m' : Int) ≤ (lc' : Int) := by have := HLC'.out; omega
    by_cases hc1 : lc' = m'
    ·subst hc1;go_wp2_with fail;refine (takeR18 _ _ _ wr).mono ?_;rintro e w1 ⟨rfl, h1⟩;have HB1 := hid' (HB.out.trans (h1.mono HB.out.size));have HT1 : Hid (TS18 w1 lo' []) := hid' (TS18.nil _ _);clear h1;go_wp2;go_roundw
     case rel => exact ⟨i + 1, 0, _, _, [], by go_num, rfl, by omega, hid' rfl, hid' (by omega), hid' (by omega), hid' (TS18.nil _ _), HNX, HB1⟩
     case measure => simp [intOf]; omega
    ·have hc2 : m' < lc' := by have := HLC'.out; omega
     go_wp2_with fail;refine (takeR18 _ _ _ wr).mono ?_;rintro e w1 ⟨rfl, h1⟩;have HB1 := hid' (HB.out.trans (h1.mono HB.out.size));have HT1 : Hid (TS18 w1 lo' []) := hid' (TS18.nil _ _);clear h1;go_wp2;go_roundw
     case rel => exact ⟨i + 1, 0, _, _, [], by go_num, rfl, by omega, hid' rfl, hid' (by omega), hid' (by omega), hid' (TS18.nil _ _), HNX, HB1⟩
     case measure => simp [intOf]; omega
  ·have hlt2 : ¬ (i : Int) < (n : Int) := by omega
   have HD : Hid (Rt.fits ps k = k'.isEmpty) := hid' (by rw [HF.out, List.drop_eq_nil_of_le (by rw [HN.out]; omega)]; cases k' <;> rfl);cases k' with
   | nil =>
    obtain rfl : 0 = m' := HKL.out;go_wp2;go_ret;exact ⟨by rw [HD.out]; rfl, HB.out⟩
   | cons x r =>
    have hm0 : ((m' : Int) == 0) = false := beq_false_of_ne (by have := HKL.out; simp at this; omega);go_wp2;go_ret;exact ⟨by rw [HD.out]; rfl, HB.out⟩

open Go.ChangeMaps (setBlock heap_setBlock_same heap_setBlock_other)

def kU18 (k : ByteArray) : Value := .string k
structure En18 where
 num : Nat
 no : Option Addr
 c : Nat
 nc : Nat
def eU18 (e : En18) : Value := .agg #[.int .i64 (e.num : Int), .slice e.no e.c e.nc]
def iU18 (j : Nat) : Value := .int .i64 (j : Int)
theorem kyU18 : Ky Tryz.prog 9 kU18 .string := ⟨Tryz.underlying9, fun _ => trivial, fun a b h => by unfold kU18 at h; injection h⟩
theorem zeroE18 (W : World) : (zeroValue 94).run Tryz.prog W = .ok (.agg #[.int .i64 0, .slice none 0 0]) W := by kernel_rfl
theorem zeroI18 (W : World) : (zeroValue 3).run Tryz.prog W = .ok (.int .i64 0) W := by kernel_rfl
structure Sh18 where
 pa : Option Addr
 n : Nat
 pc : Nat
 mb : Nat
 rep : Rt.Ro
def shV18 (s : Sh18) : List Value := [.slice s.pa s.n s.pc, .map (some s.mb)]
def shC18 (l : List Sh18) : List Value := l.flatMap shV18
theorem shC18_snoc (l : List Sh18) (s : Sh18) : shC18 (l ++ [s]) = shC18 l ++ [.slice s.pa s.n s.pc, .map (some s.mb)] := by simp [shC18, shV18]
theorem shC18_at (l : List Sh18) (i : Nat) (p : Sh18) (h : l[i]? = some p) : ∀ j, j < 2 → (shC18 l)[i * 2 + j]? = (shV18 p)[j]? := by
 induction l generalizing i with
 | nil => simp at h
 | cons a r ih =>
  intro j hj;rw [show shC18 (a :: r) = shV18 a ++ shC18 r from rfl];cases i with
  | zero => simp at h; subst h; rw [List.getElem?_append_left (by simp [shV18]; omega)]; congr 1; omega
  | succ i =>
   rw [List.getElem?_append_right (by simp [shV18]; omega), show (i + 1) * 2 + j - (shV18 a).length = i * 2 + j by simp [shV18]; omega];exact ih i (by simpa using h) j hj
structure SHP18 (w : World) (B : Nat) (rs : List Rt.Ro) (i : Nat) (s : Sh18) : Prop where
 inr : s.rep ∈ rs
 len : (Rt.pat s.rep).length = s.n
 row : w.ownsRow B 115 1 (.slice s.pa s.n s.pc) s.n (pCU18 (Rt.pat s.rep))
 ge : B ≤ s.mb
 mp : ∃ f k es clock, Mp kU18 eU18 w s.mb f k es clock ∧ k ≤ i ∧ (∀ m : ByteArray, (f m).map (·.num) = Rt.byM (rs.take i) (Rt.pat s.rep) m.data.toList) ∧ ∀ m e, f m = some e → ∃ r, rs[e.num]? = some r ∧ (Rt.names (Rt.pat r)).length = e.c ∧ w.ownsRow B 9 1 (.slice e.no e.c e.nc) e.c (sC17 (Rt.names (Rt.pat r)))
theorem SHP18.lt {w : World} {B : Nat} {rs : List Rt.Ro} {i : Nat} {s : Sh18} (h : SHP18 w B rs i s) : s.mb < w.heap.size := by
 obtain ⟨f, k, es, clock, hm, _⟩ := h.mp;exact hm.lt
theorem SHP18.isMap {w : World} {B : Nat} {rs : List Rt.Ro} {i : Nat} {s : Sh18} (h : SHP18 w B rs i s) : ∃ es clock, w.heap[s.mb]? = some (.map es clock) := by
 obtain ⟨f, k, es, clock, hm, _⟩ := h.mp;exact ⟨es, clock, hm.hd⟩
theorem SHP18.keep {w w' : World} {B : Nat} {rs : List Rt.Ro} {i : Nat} {s : Sh18} {X : Nat} (h : SHP18 w B rs i s) (hb : ∀ k, B ≤ k → k < w.heap.size → k ≠ X → w'.heap[k]? = w.heap[k]?) (hX : ∀ cs e, w.heap[X]? = some (.cells cs e (0, 0)) → e ≠ 115 ∧ e ≠ 9) (hm : s.mb ≠ X) : SHP18 w' B rs i s := by
 have hrow : ∀ {e : TypeId} {sz : Nat} {v : Value} {n : Nat} {xs : List Value}, w.ownsRow B e sz v n xs → (e = 115 ∨ e = 9) → w'.ownsRow B e sz v n xs := fun {e sz v n xs} ho he => own_same ho (fun k hk => hb k (own_ty ho k hk).1 (own_lt ho k hk) (fun ek => by
  subst ek;obtain ⟨_, cs, h3⟩ := own_ty ho k hk;have := hX cs e h3;rcases he with rfl | rfl
  ·exact this.1 rfl
  ·exact this.2 rfl))
 obtain ⟨f, k, es, clock, h1, h2, h3, h4⟩ := h.mp;refine ⟨h.inr, h.len, hrow h.row (.inl rfl), h.ge, f, k, es, clock, h1.other (hb s.mb h.ge h1.lt hm), h2, h3, fun m e he => ?_⟩;obtain ⟨r, a1, a2, a3⟩ := h4 m e he;exact ⟨r, a1, a2, hrow a3 (.inr rfl)⟩
structure RN18 (w : World) (B b : Nat) (so : Option Addr) (sn sc : Nat) (l : List Sh18) (rs : List Rt.Ro) (i : Nat) : Prop where
 ob : Ar w b 82 #[.slice so sn sc]
 ge : B ≤ b
 row : w.ownsRow B 92 2 (.slice so sn sc) sn (shC18 l)
 len : l.length = sn
 shp : ∀ s ∈ l, SHP18 w B rs i s
 mbs : l.Pairwise (fun s t => s.mb ≠ t.mb)
theorem RN18.keep {w w' : World} {B b : Nat} {so : Option Addr} {sn sc : Nat} {l : List Sh18} {rs : List Rt.Ro} {i : Nat} {X : Nat} (h : RN18 w B b so sn sc l rs i) (hb : ∀ k, B ≤ k → k < w.heap.size → k ≠ X → w'.heap[k]? = w.heap[k]?) (hX : ∀ cs e, w.heap[X]? ≠ some (.cells cs e (0, 0))) (hm : ∀ s ∈ l, s.mb ≠ X) : RN18 w' B b so sn sc l rs i := by
 refine ⟨?_, h.ge, own_same h.row (fun k hk => hb k (own_ty h.row k hk).1 (own_lt h.row k hk) (fun ek => ?_)), h.len, fun s hs => (h.shp s hs).keep hb (fun cs e he => absurd he (hX cs e)) (hm s hs), h.mbs⟩
 ·have := h.ob;unfold Ar at *;rw [hb b h.ge h.ob.lt (fun e => by subst e; exact hX _ _ this)];exact this
 ·subst ek;obtain ⟨_, cs, h3⟩ := own_ty h.row k hk;exact hX _ _ h3
theorem RN18.below {w w' : World} {B b : Nat} {so : Option Addr} {sn sc : Nat} {l : List Sh18} {rs : List Rt.Ro} {i : Nat} (h : RN18 w B b so sn sc l rs i) (hb : Below w.heap.size w w') : RN18 w' B b so sn sc l rs i :=
 h.keep (X := w.heap.size) (fun k _ hk _ => hb.block k hk) (fun cs e he => by have := (Array.getElem?_eq_some_iff.1 he).1; omega) (fun s hs => by have := (h.shp s hs).lt; omega)
theorem RN18.one {w : World} {B b : Nat} {so : Option Addr} {sn sc : Nat} {l : List Sh18} {rs : List Rt.Ro} {i : Nat} (h : RN18 w B b so sn sc l rs i) {s t : Sh18} (hs : s ∈ l) (ht : t ∈ l) (he : s.mb = t.mb) : s = t := by
 obtain ⟨x, hx, hxs⟩ := List.mem_iff_getElem.1 hs;obtain ⟨y, hy, hyt⟩ := List.mem_iff_getElem.1 ht;have hp := List.pairwise_iff_getElem.1 h.mbs;rcases Nat.lt_trichotomy x y with hxy | hxy | hxy
 ·exact absurd (by rw [hxs, hyt]; exact he) (hp x y hx hy hxy)
 ·subst hxy; rw [← hxs, hyt]
 ·exact absurd (by rw [hxs, hyt]; exact he.symm) (hp y x hy hx hxy)
theorem RN18.at {w : World} {B b : Nat} {so : Option Addr} {sn sc : Nat} {l : List Sh18} {rs : List Rt.Ro} {i : Nat} (h : RN18 w B b so sn sc l rs i) (j : Nat) (s : Sh18) (hs : l[j]? = some s) : ∃ g, so = some ⟨g, 0, none⟩ ∧ g < w.heap.size ∧ w.cell? ⟨g, j * 2, none⟩ = some (.slice s.pa s.n s.pc) ∧ w.cell? ⟨g, j * 2 + 1, none⟩ = some (.map (some s.mb)) := by
 rcases h.row.2 with ⟨hv, hn⟩ | ⟨g, cap, cur, hv, _, h3, _⟩
 ·have := (List.getElem?_eq_some_iff.1 hs).1;have := h.len;omega
 ·injection hv with h1 _ _;have c0 := h.row.cells (g := g) (by rw [h1]; rfl) (j * 2 + 0) _ ((shC18_at l j s hs 0 (by omega)).trans rfl);have c1 := h.row.cells (g := g) (by rw [h1]; rfl) (j * 2 + 1) _ ((shC18_at l j s hs 1 (by omega)).trans rfl);rw [Addr.add_mid, Nat.zero_add] at c0 c1;exact ⟨g, h1, (Array.getElem?_eq_some_iff.1 h3).1, c0, c1⟩
structure PL18 (w : World) (B pb : Nat) (l : List Sh18) (f : ByteArray → Option Nat) (k : Nat) (es : Array MapEntry) (clock : Nat) : Prop where
 mp : Mp kU18 iU18 w pb f k es clock
 ge : B ≤ pb
 pos : ∀ (key : ByteArray) (j : Nat), f key = some j ↔ ∃ s, l[j]? = some s ∧ Rt.txt (Rt.pat s.rep) = key.data.toList
 ne : ∀ s ∈ l, s.mb ≠ pb
theorem PL18.keep {w w' : World} {B pb : Nat} {l : List Sh18} {f : ByteArray → Option Nat} {k : Nat} {es : Array MapEntry} {clock : Nat} (h : PL18 w B pb l f k es clock) (hb : w'.heap[pb]? = w.heap[pb]?) : PL18 w' B pb l f k es clock := ⟨h.mp.other hb, h.ge, h.pos, h.ne⟩
theorem PL18.below {w w' : World} {B pb : Nat} {l : List Sh18} {f : ByteArray → Option Nat} {k : Nat} {es : Array MapEntry} {clock : Nat} (h : PL18 w B pb l f k es clock) (hb : Below w.heap.size w w') : PL18 w' B pb l f k es clock := h.keep (hb.block pb h.mp.lt)
theorem RN18.add {w w' : World} {B b : Nat} {so : Option Addr} {sn sc : Nat} {l : List Sh18} {rs : List Rt.Ro} {i : Nat} (h : RN18 w B b so sn sc l rs i) {so' : Option Addr} {sc' : Nat} {s0 : Sh18}
  (hs0 : SHP18 w B rs i s0) (hne : ∀ s ∈ l, s.mb ≠ s0.mb) (hrow : w'.ownsRow B 92 2 (.slice so' (sn + 1) sc') (sn + 1) (shC18 (l ++ [s0]))) (hg : w.grownBy w' (Value.slice so sn sc).ownBlock) :
  RN18 (w'.setCell ⟨b, 0, none⟩ (.slice so' (sn + 1) sc')) B b so' (sn + 1) sc' (l ++ [s0]) rs i := by
 have hU := upd_setCell w' b 0 (.slice so' (sn + 1) sc');have hb' : Ar w' b 82 #[.slice so sn sc] := ar_grown h.ob hg (fun k hk => own_apart h.row h.ob (by decide) k hk);have hk1 : ∀ {s : Sh18}, SHP18 w B rs i s → SHP18 (w'.setCell ⟨b, 0, none⟩ (.slice so' (sn + 1) sc')) B rs i s := fun {s} hs => by
  have s1 : SHP18 w' B rs i s := by
   cases ho : (Value.slice so sn sc).ownBlock with
   | none =>
    rw [ho] at hg;exact hs.keep (X := w.heap.size) (fun k _ hk _ => hg.block k hk (by simp)) (fun cs e he => by have := (Array.getElem?_eq_some_iff.1 he).1; omega) (by have := hs.lt; omega)
   | some X =>
    rw [ho] at hg;obtain ⟨_, cs, h3⟩ := own_ty h.row X ho;refine hs.keep (X := X) (fun k _ hk hne => hg.block k hk (fun e => hne (by injection e))) (fun cs' e he => ?_) (fun e => ?_)
    ·rw [h3] at he;injection he with he;injection he with _ he _;subst he;exact ⟨by decide, by decide⟩
    ·obtain ⟨es, clock, hm⟩ := hs.isMap;rw [e, h3] at hm;cases hm
  refine s1.keep (X := b) (fun k _ _ hne => hU.block k hne) (fun cs e he => ?_) (fun e => ?_)
  ·unfold Ar at hb';rw [hb'] at he;injection he with he;injection he with _ he _;subst he;exact ⟨by decide, by decide⟩
  ·obtain ⟨es, clock, hm⟩ := s1.isMap;unfold Ar at hb';rw [e, hb'] at hm;cases hm
 refine ⟨by have := hb'.set 0 (.slice so' (sn + 1) sc'); simpa using this, h.ge, own_same hrow (fun k hk => hU.block k (own_apart hrow hb' (by decide) k hk)), by rw [List.length_append, h.len]; rfl, fun s hs => ?_, ?_⟩
 ·rcases List.mem_append.1 hs with hs | hs
  ·exact hk1 (h.shp s hs)
  ·simp at hs; subst hs; exact hk1 hs0
 ·rw [List.pairwise_append];exact ⟨h.mbs, by simp, fun s hs t ht => by simp at ht; subst ht; exact hne s hs⟩
theorem RN18.put {w w' : World} {B b : Nat} {so : Option Addr} {sn sc : Nat} {l : List Sh18} {rs : List Rt.Ro} {i : Nat} (h : RN18 w B b so sn sc l rs i) {r : Rt.Ro} (hr : rs[i]? = some r) {s : Sh18} (hs : s ∈ l) (hsh : Rt.shape (Rt.pat r) (Rt.pat s.rep) = true)
  (hone : ∀ t ∈ l, Rt.shape (Rt.pat s.rep) (Rt.pat t.rep) = true → t = s) {key : ByteArray} (hkey : key.data.toList = r.m) {f : ByteArray → Option En18} {k : Nat} {es : Array MapEntry} {clock : Nat} {es' : Array MapEntry} {clock' : Nat} (hm : Mp kU18 eU18 w s.mb f k es clock) (hf : f key = none) (hfs : ∀ m : ByteArray, (f m).map (·.num) = Rt.byM (rs.take i) (Rt.pat s.rep) m.data.toList) (hki : k ≤ i)
  (hfr : ∀ m e, f m = some e → ∃ r, rs[e.num]? = some r ∧ (Rt.names (Rt.pat r)).length = e.c ∧ w.ownsRow B 9 1 (.slice e.no e.c e.nc) e.c (sC17 (Rt.names (Rt.pat r))))
  {e0 : En18} (he0 : e0.num = i) (hel : (Rt.names (Rt.pat r)).length = e0.c) (heo : w.ownsRow B 9 1 (.slice e0.no e0.c e0.nc) e0.c (sC17 (Rt.names (Rt.pat r))))
  (hU : Upd s.mb w w') (hm' : Mp kU18 eU18 w' s.mb (mput f key e0) (if (f key).isSome = true then k else k + 1) es' clock') : RN18 w' B b so sn sc l rs (i + 1) := by
 obtain ⟨esx, ckx, hmap⟩ := (h.shp s hs).isMap;have hX : ∀ cs e, w.heap[s.mb]? ≠ some (.cells cs e (0, 0)) := fun cs e he => by rw [hmap] at he; cases he
 have hrow : ∀ {e : TypeId} {sz : Nat} {v : Value} {n : Nat} {xs : List Value}, w.ownsRow B e sz v n xs → w'.ownsRow B e sz v n xs := fun {e sz v n xs} ho => own_same ho (fun q hq => hU.block q (fun eq => by
  subst eq;obtain ⟨_, cs, h3⟩ := own_ty ho s.mb hq;exact hX _ _ h3))
 have htake : rs.take (i + 1) = rs.take i ++ [r] := by rw [List.take_add_one, hr]; rfl
 have hil : i < rs.length := (List.getElem?_eq_some_iff.1 hr).1;refine ⟨hU.keep h.ob (fun e => by have := h.ob; unfold Ar at this; rw [e] at this; exact hX _ _ this), h.ge, hrow h.row, h.len, fun t ht => ?_, h.mbs⟩;by_cases hts : t = s
 ·subst hts;refine ⟨(h.shp t ht).inr, (h.shp t ht).len, hrow (h.shp t ht).row, (h.shp t ht).ge, _, _, es', clock', hm', ?_, fun m => ?_, fun m e he => ?_⟩
  ·rw [hf]; simp; omega
  ·rw [htake, Rt.byM_snoc, ← hfs m, hsh];unfold mput;by_cases hmk : m = key
   ·subst hmk;rw [if_pos rfl, hf, hkey];simp [he0, Nat.min_eq_left (Nat.le_of_lt hil)]
   ·rw [if_neg hmk];have : (r.m == m.data.toList) = false := beq_false_of_ne (fun e => hmk (by
     apply ByteArray.ext;apply Array.toList_inj.1;rw [← e, hkey]))
    rw [this];simp
  ·unfold mput at he;by_cases hmk : m = key
   ·rw [if_pos hmk] at he;injection he with he;subst he;exact ⟨r, by rw [he0]; exact hr, hel, hrow heo⟩
   ·rw [if_neg hmk] at he;obtain ⟨r', a1, a2, a3⟩ := hfr m e he;exact ⟨r', a1, a2, hrow a3⟩
 ·have hmb : t.mb ≠ s.mb := fun e => hts (h.one ht hs e);have h1 := (h.shp t ht).keep (w' := w') (X := s.mb) (fun k _ _ hne => hU.block k hne) (fun cs e he => absurd he (hX cs e)) hmb;obtain ⟨f2, k2, es2, ck2, a1, a2, a3, a4⟩ := h1.mp;refine ⟨h1.inr, h1.len, h1.row, h1.ge, f2, k2, es2, ck2, a1, by omega, fun m => ?_, a4⟩;have hno : Rt.shape (Rt.pat r) (Rt.pat t.rep) = false := by
   cases hq : Rt.shape (Rt.pat r) (Rt.pat t.rep)
   ·rfl
   ·exact absurd (hone t ht (Rt.shape_trans (Rt.shape_symm hsh) hq)) hts
  rw [a3 m, htake, Rt.byM_snoc, hno];simp

namespace Rt
theorem comma_tail : ∀ (xs : List T8) (s : T8), s ≠ [] → xs.foldl comma s = s ++ Lib.joinTail [44, 32] xs := by
 intro xs
 induction xs with
 | nil => intro s _; simp [Lib.joinTail]
 | cons x r ih =>
  intro s hs;have e : comma s x = s ++ [44, 32] ++ x := by
   unfold comma;cases s with
   | nil => exact absurd rfl hs
   | cons a b => rfl
  rw [List.foldl_cons, e, ih _ (by simp)];simp [Lib.joinTail]
theorem comma_join {xs : List T8} (h : ∀ x ∈ xs, x ≠ []) : xs.foldl comma [] = Lib.join xs [44, 32] := by
 cases xs with
 | nil => rfl
 | cons x r =>
  have e : comma [] x = x := by unfold comma; simp
  rw [List.foldl_cons, e, comma_tail r x (h x (by simp)), Lib.join_cons]
theorem join_len18 : ∀ (xs : List T8) (b : Nat), (∀ x ∈ xs, x.length ≤ b) → (Lib.join xs [44, 32]).length ≤ xs.length * (b + 2) := by
 intro xs b h;cases xs with
 | nil => simp [Lib.join_nil]
 | cons x r =>
  rw [Lib.join_cons, List.length_append];have key : ∀ r : List T8, (∀ x ∈ r, x.length ≤ b) → (Lib.joinTail [44, 32] r).length ≤ r.length * (b + 2) := by
   intro r
   induction r with
   | nil => intro _; simp [Lib.joinTail]
   | cons y r ih =>
    intro hr;have h1 := ih (fun x hx => hr x (List.mem_cons_of_mem _ hx));have h2 := hr y (by simp);unfold Lib.joinTail at *;have e2 : (y :: r).length * (b + 2) = r.length * (b + 2) + (b + 2) := by rw [List.length_cons, Nat.succ_mul]
    rw [List.map_cons, List.flatten_cons, List.length_append, List.length_append, e2];simp only [List.length_cons, List.length_nil];omega
  have h1 := key r (fun x hx => h x (List.mem_cons_of_mem _ hx));have h2 := h x (by simp);rw [List.length_cons, Nat.succ_mul];omega
def lst (ss : List T8) : List T8 := if sGET ∈ ss ++ [sOPT] then (ss ++ [sOPT]) ++ [sHEAD] else ss ++ [sOPT]
theorem allow_join {rs : List Ro} {q : List Prt} {ss : List T8} (hm : ∀ x, x ∈ ss ↔ ∃ r ∈ rs, shape (pat r) q = true ∧ r.m = x) (hne : ∀ x ∈ ss, x ≠ []) :
  Lib.join (Lib.compact ((lst ss).mergeSort (fun x y => decide (x ≤ y)))) [44, 32] = allow rs q := by
 obtain ⟨c1, c2⟩ := comp_rise (sort_le (lst ss));obtain ⟨a1, a2⟩ := meths_all rs [sOPT] q (by unfold Rise; simp);have hg : sGET ∈ ss ++ [sOPT] ↔ sGET ∈ ss := by
  rw [List.mem_append];constructor
  ·rintro (h | h)
   ·exact h
   ·exact absurd h (by decide)
  ·exact .inl
 have hl : ∀ x, x ∈ lst ss ↔ x = sOPT ∨ x ∈ ss ∨ (sGET ∈ ss ∧ x = sHEAD) := fun x => by
  unfold lst;by_cases h : sGET ∈ ss
  ·rw [if_pos (hg.2 h)];simp only [List.mem_append, List.mem_singleton];constructor
   ·rintro ((h1 | h1) | h1)
    ·exact .inr (.inl h1)
    ·exact .inl h1
    ·exact .inr (.inr ⟨h, h1⟩)
   ·rintro (h1 | h1 | ⟨_, h1⟩)
    ·exact .inl (.inr h1)
    ·exact .inl (.inl h1)
    ·exact .inr h1
  ·rw [if_neg (fun e => h (hg.1 e))];simp only [List.mem_append, List.mem_singleton];constructor
   ·rintro (h1 | h1)
    ·exact .inr (.inl h1)
    ·exact .inl h1
   ·rintro (h1 | h1 | ⟨h2, _⟩)
    ·exact .inr h1
    ·exact .inl h1
    ·exact absurd h2 h
 have e : Lib.compact ((lst ss).mergeSort (fun x y => decide (x ≤ y))) = meths rs q := by
  unfold meths;refine rise_ext c1 a1 (fun x => ?_);rw [c2, (sort_perm _).mem_iff, hl, a2];constructor
  ·rintro (h | h | ⟨h1, h2⟩)
   ·exact .inl (by simp [h])
   ·obtain ⟨r, hr, hs, he⟩ := (hm x).1 h;exact .inr ⟨r, hr, hs, .inl he.symm⟩
   ·obtain ⟨r, hr, hs, he⟩ := (hm _).1 h1;exact .inr ⟨r, hr, hs, .inr ⟨he, h2⟩⟩
  ·rintro (h | ⟨r, hr, hs, he | ⟨he, hx⟩⟩)
   ·exact .inl (by simpa using h)
   ·exact .inr (.inl ((hm x).2 ⟨r, hr, hs, he.symm⟩))
   ·exact .inr (.inr ⟨(hm _).2 ⟨r, hr, hs, he⟩, hx⟩)
 unfold allow;rw [e, comma_join];intro x hx;rw [← e, c2, (sort_perm _).mem_iff, hl] at hx;rcases hx with rfl | h | ⟨_, rfl⟩
 ·decide
 ·exact hne x h
 ·decide
end Rt
theorem mp_own18 {w : World} {mb : Nat} {f : ByteArray → Option En18} {k : Nat} {es : Array MapEntry} {clock : Nat} (hm : Mp kU18 eU18 w mb f k es clock) (hk : k ≤ 256) (hs : ∀ m e, f m = some e → m.size ≤ 4194304) :
  ∃ D : DataW Unit, w.ownsMap Tryz.prog 9 (fun _ => some (.nil, [])) mb k D ∧ Maps.size D ≤ 256 ∧ ∀ x, x ∈ strKeys D ↔ ∃ m : ByteArray, m.data.toList = x ∧ (f m).isSome = true := by
 have hrd : ∀ e ∈ es.toList, ∃ m : ByteArray, e.key = .string m ∧ (f m).isSome = true ∧ WideElems.rd Tryz.prog 9 (fun _ => some ((.nil : DataW Unit), [])) e = some (.string m.data.toList, .nil) := fun e he => by
  obtain ⟨m, x, h1, h2, h3⟩ := hm.all e he;have h4 : m.size ≤ maxLen := by have := hs m x h3; unfold maxLen; omega
  refine ⟨m, h1, by rw [h3]; rfl, ?_⟩;unfold WideElems.rd;rw [h1];simp [keyOf, Tryz.underlying9, mapKey, kU18, h4]
 refine ⟨.map ((es.toList.map (WideElems.rg Tryz.prog 9 (fun _ => some (.nil, [])))).foldr DataW.insert []), ⟨es, clock, hm.hd, ⟨?_, ⟨hm.st, hm.nb, ?_⟩, fun e he => ?_⟩, by rw [hm.sz]; exact Nat.le_refl _, rfl⟩, ?_, fun x => ?_⟩
 ·rw [hm.sz]; unfold maxLen; omega
 ·exact List.pairwise_map.2 hm.nd
 ·obtain ⟨m, _, _, h⟩ := hrd e he;exact ⟨_, h⟩
 ·rw [Maps.size_eq, length_sorted, List.length_map];have := hm.sz;simp at this ⊢;omega
 ·show x ∈ (((es.toList.map (WideElems.rg Tryz.prog 9 (fun _ => some ((.nil : DataW Unit), [])))).foldr DataW.insert []).map fun p => strOf p.1) ↔ _;rw [List.mem_map];constructor
  ·rintro ⟨p, hp, rfl⟩;have hp := (Go.WideShapes.sorted_perm _).mem_iff.1 hp;obtain ⟨e, he, rfl⟩ := List.mem_map.1 hp;obtain ⟨m, h1, h2, h3⟩ := hrd e he;exact ⟨m, by unfold WideElems.rg; rw [h3]; rfl, h2⟩
  ·rintro ⟨m, rfl, hf⟩;obtain ⟨x, hx⟩ := Option.isSome_iff_exists.1 hf;obtain ⟨e, he, hek⟩ := hm.has m x hx;obtain ⟨m', h1, h2, h3⟩ := hrd e he;have : m' = m := by
    rw [h1] at hek;unfold kU18 at hek;injection hek
   subst this;exact ⟨WideElems.rg Tryz.prog 9 (fun _ => some (.nil, [])) e, (Go.WideShapes.sorted_perm _).mem_iff.2 (List.mem_map.2 ⟨e, he, rfl⟩), by unfold WideElems.rg; rw [h3]; rfl⟩

open Go.ChangeMaps (setBlock heap_setBlock_same heap_setBlock_other)

theorem cmeth18 (s : ByteArray) (l : List UInt8) (hl : s.data.toList = l) (w : World) (hs : s.size ≤ 4194304) :
  Calls Tryz.prog 26 #[.string s] w fun e w' => e = .returned (.bool (l.isEmpty || Tx.isTok l)) ∧ w' = w := by
 have hse : (s.toList == []) = l.isEmpty := by rw [Lib.toList_data, hl]; cases l <;> rfl
 have HT := hid' (token_any s w (by unfold maxLen; omega));rw [hl] at HT;clear hl;cases hle : l.isEmpty
 ·rw [hle] at hse;go_enter Tryz.func26, Tryz.ntmps26;go_wp2_with fail;refine HT.out.mono ?_;rintro e w1 ⟨rfl, hw1⟩;subst w1;go_wp2;go_ret;exact ⟨rfl, rfl⟩
 ·rw [hle] at hse;go_enter Tryz.func26, Tryz.ntmps26;go_wp2;go_ret;exact ⟨rfl, rfl⟩

theorem chand18 (h : Int) (w : World) :
  Calls Tryz.prog 27 #[.int .u8 h] w fun e w' => e = .returned (.bool (!(decide (h < 1) || decide (4 < h)))) ∧ w' = w := by
 by_cases h1 : (1 : Int) ≤ h
 ·by_cases h2 : h ≤ 4
  ·have e : (!(decide (h < 1) || decide (4 < h))) = true := by rw [decide_eq_false (by omega), decide_eq_false (by omega)]; rfl
   rw [e];go_enter Tryz.func27, Tryz.ntmps27;go_wp2;go_ret;exact ⟨rfl, rfl⟩
  ·have e : (!(decide (h < 1) || decide (4 < h))) = false := by rw [decide_eq_false (by omega), decide_eq_true (by omega)]; rfl
   rw [e];go_enter Tryz.func27, Tryz.ntmps27;go_wp2;go_ret;exact ⟨rfl, rfl⟩
 ·have e : (!(decide (h < 1) || decide (4 < h))) = false := by rw [decide_eq_true (by omega)]; rfl
  rw [e];go_enter Tryz.func27, Tryz.ntmps27;go_wp2;go_ret;exact ⟨rfl, rfl⟩
namespace Rt
theorem prt_tlen (x : T8) : (prt x).1.t.length ≤ x.length := by
 unfold prt;split
 ·split
  ·simp only [List.length_take, List.length_drop]; omega
  ·simp only [List.length_take, List.length_drop]; omega
 ·split
  ·exact Nat.le_refl _
  ·exact Nat.zero_le _
theorem shp_len (p : Prt) : (shp p).length ≤ p.t.length + 5 := by
 unfold shp;split
 ·omega
 ·split <;> simp
theorem txt_len {s : T8} {ps : List Prt} (h : pattern s = some ps) : (txt ps).length ≤ 6 * (s.length + 1) := by
 have key : ∀ xs : List T8, (txt (xs.map (fun x => (prt x).1))).length ≤ (xs.map List.length).sum + 6 * xs.length := by
  intro xs
  induction xs with
  | nil => simp [txt]
  | cons x r ih =>
   have h1 := shp_len (prt x).1;have h2 := prt_tlen x;unfold txt at *;rw [List.map_cons, List.flatMap_cons, List.length_append];simp only [List.length_cons, List.map_cons, List.sum_cons];omega
 unfold pattern at h;split at h
 ·injection h with h;rw [← h]; simp [txt]
 ·split at h
  ·obtain ⟨e, _, _⟩ := pats_out _ _ _ h;rw [List.nil_append] at e;rw [e];have h1 := key (Pt.cutS [] (s.drop 1));have h2 := Pt.cutS_sum (s.drop 1);rw [List.length_drop] at h2;omega
  ·cases h
theorem rep_known {rs reps : List Ro} {i : Nat} {r : Ro} (h : Rep (rs.take i) reps) (hr : rs[i]? = some r) {p : Ro} (hp : p ∈ reps) (hs : shape (pat r) (pat p) = true) : Rep (rs.take (i + 1)) reps := by
 have e : rs.take (i + 1) = rs.take i ++ [r] := by rw [List.take_add_one, hr]; rfl
 rw [e];refine ⟨fun q hq => List.mem_append_left _ (h.sub q hq), fun q hq => ?_, h.one⟩;rcases List.mem_append.1 hq with hq | hq
 ·exact h.cov q hq
 ·simp at hq; subst hq; exact ⟨p, hp, hs⟩
theorem rep_new {rs reps : List Ro} {i : Nat} {r : Ro} (h : Rep (rs.take i) reps) (hr : rs[i]? = some r) (hn : ∀ p ∈ reps, shape (pat r) (pat p) = false) : Rep (rs.take (i + 1)) (reps ++ [r]) := by
 have e : rs.take (i + 1) = rs.take i ++ [r] := by rw [List.take_add_one, hr]; rfl
 rw [e];refine ⟨fun q hq => ?_, fun q hq => ?_, ?_⟩
 ·rcases List.mem_append.1 hq with hq | hq
  ·exact List.mem_append_left _ (h.sub q hq)
  ·exact List.mem_append_right _ hq
 ·rcases List.mem_append.1 hq with hq | hq
  ·obtain ⟨p, hp, hs⟩ := h.cov q hq;exact ⟨p, List.mem_append_left _ hp, hs⟩
  ·simp at hq; subst hq;exact ⟨q, List.mem_append_right _ (by simp), shape_refl _⟩
 ·rw [List.pairwise_append];refine ⟨h.one, by simp, fun p hp q hq => ?_⟩;simp at hq; subst hq;cases hs : shape (pat p) (pat q)
  ·rfl
  ·have := hn p hp; rw [shape_symm hs] at this; cases this
theorem by_new {rs reps : List Ro} {i : Nat} {r : Ro} (h : Rep (rs.take i) reps) (hn : ∀ p ∈ reps, shape (pat r) (pat p) = false) (m : T8) : byM (rs.take i) (pat r) m = none := by
 refine by_no18 (fun j q hq => ?_);obtain ⟨p, hp, hs⟩ := h.cov q (List.mem_of_getElem? hq);cases hsh : shape (pat q) (pat r)
 ·rfl
 ·have := hn p hp;rw [shape_trans (shape_symm hsh) hs] at this; cases this
theorem twice_by {rs : List Ro} {i : Nat} {r : Ro} {of : List Prt} (hs : shape (pat r) of = true) : twice (rs.take i) r = (byM (rs.take i) of r.m).isSome := by
 cases hb : byM (rs.take i) of r.m with
 | none =>
  unfold twice;rw [List.any_eq_false.2]
  ·rfl
  ·intro q hq;rw [Bool.and_eq_true, beq_iff_eq];rintro ⟨h1, h2⟩;exact by_none hb q hq (shape_trans (shape_symm h2) hs) h1
 | some k =>
  obtain ⟨q, h1, h2, h3⟩ := by_some hb;unfold twice;rw [List.any_eq_true.2 ⟨q, List.mem_of_getElem? h1, ?_⟩]
  ·rfl
  ·rw [Bool.and_eq_true, beq_iff_eq];exact ⟨h3, shape_trans hs (shape_symm h2)⟩
theorem bad_def (r : Ro) : badRo r = (!(pattern r.p).isSome || (!(r.m.isEmpty || Tx.isTok r.m) || !(!(decide (r.h < 1) || decide (4 < r.h))))) := by
 unfold badRo;cases pattern r.p <;> cases r.m.isEmpty <;> cases Tx.isTok r.m <;> simp
end Rt

end Go.Proofs.YthhpejgpfaikaabGreatDoor
