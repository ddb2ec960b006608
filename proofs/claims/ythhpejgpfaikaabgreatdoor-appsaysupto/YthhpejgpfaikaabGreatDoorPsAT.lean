/-
  What the row stands on.
-/
import Derived.Test.YthhpejgpfaikaabGreatDoorPsAM
import Derived.Test.YthhpejgpfaikaabGreatDoorPsAS
import Derived.Test.YthhpejgpfaikaabGreatDoorPsAB
import Derived.Deep.CutRange
import Derived.Laws.Cover1
import Derived.Laws.OwnMore
import Derived.Great.BuildSlice
import Derived.Deep.QuietTactic
import Derived.BigQuiet
import Derived.Maps.AppendAt
import Derived.Test.YthhpejgpfaikaabGreatDoorPsAA
import Derived.Laws.AppendOwnNone
import Derived.Test.YthhpejgpfaikaabGreatDoorPsAP
import Derived.Test.YthhpejgpfaikaabGreatDoorPsAR
import Derived.Test.YthhpejgpfaikaabGreatDoorPsAQ
namespace Go.Proofs.YthhpejgpfaikaabGreatDoor
set_option maxHeartbeats 64000000

namespace Ap
abbrev T8 := List UInt8
structure Rp where
 s : Int
 fs : List Fd
 b : T8
 ts : List Fd
structure Rq where
 m : ByteArray
 sc : ByteArray
 au : ByteArray
 p : ByteArray
 fs : List Fd
 b : ByteArray
 ts : List Fd
def of (r : Fs.Rp) : Rp := ⟨r.s, r.fs, r.b, []⟩
def nCL : T8 := [99, 111, 110, 116, 101, 110, 116, 45, 108, 101, 110, 103, 116, 104]
def fCL (b : T8) : Fd := Fs.fd nCL (Lib.itoa b.length)
def mid (a : Rp) : Rp := if a.s == 204 || a.s == 304 then ⟨a.s, a.fs, [], []⟩ else if a.ts.isEmpty then ⟨a.s, a.fs ++ [fCL a.b], a.b, []⟩ else a
def fin (head : Bool) (a : Rp) : Rp := if head then ⟨(mid a).s, (mid a).fs, [], []⟩ else mid a
def kindOf (fs : List Fd) : ByteArray := ((fs.find? (fun f => f.n.data.toList == Fs.nCT)).map (·.v)).getD (Fs.str Fs.vOC)
def echo (r : Rq) : Rp := ⟨200, [⟨Fs.str Fs.nCT, kindOf r.fs⟩], r.b.data.toList, r.ts⟩
def says (ps : List (T8 × T8)) : T8 := [104, 101, 108, 108, 111] ++ ps.flatMap (fun p => 32 :: (p.1 ++ 61 :: p.2)) ++ [10]
def hello (ps : List (T8 × T8)) : Rp := ⟨200, [Fs.fT], says ps, []⟩
def by' (x : Rt.Ro × ByteArray) (es : List Dk.En) (r : Rq) (cl : T8) (ps : List (T8 × T8)) : Rp :=
 if x.1.h == 1 then of (Fs.ans es x.2.data.toList r.m.data.toList cl ((ps.getLast?.map (·.2)).getD []) r.fs)
 else if x.1.h == 2 then echo r
 else if x.1.h == 3 then hello ps
 else of (Fs.plain 410 [])
def met (rs : List (Rt.Ro × ByteArray)) (q : Rt.Mt) (es : List Dk.En) (r : Rq) (cl : T8) : Rp :=
 if q.st == 404 then of (Fs.plain 404 [])
 else if q.st == 405 then of (Fs.plain 405 [Fs.fd Fs.nAL q.al])
 else if q.ro < 0 then ⟨204, [Fs.fd Fs.nAL q.al], [], []⟩
 else match rs[q.ro.toNat]? with
  | some x => by' x es r cl q.ps
  | none => of (Fs.plain 410 [])
def raw (rs : List (Rt.Ro × ByteArray)) (es : List Dk.En) (r : Rq) : Rp :=
 if r.p.data.toList == [42] then ⟨204, [], [], []⟩
 else if (Pt.clean r.p.data.toList).2.2 == 0 then met rs (Rt.find (rs.map (·.1)) r.m.data.toList (Pt.clean r.p.data.toList).1) es r (Pt.clean r.p.data.toList).1
 else of (Fs.plain 400 [])
def ans (rs : List (Rt.Ro × ByteArray)) (es : List Dk.En) (r : Rq) : Rp := fin (r.m.data.toList == Fs.mHEAD) (raw rs es r)
def check (rs : List (Rt.Ro × ByteArray)) : Int :=
 if Rt.check (rs.map (·.1)) == 0 then (if rs.any (fun x => x.1.h == 1 && (!x.2.data.toList.isEmpty && !Dk.path x.2.data.toList)) then 130 else 0) else Rt.check (rs.map (·.1))

def names7 : List T8 := [Fs.nCT, Fs.nET, Fs.nLM, Fs.nAR, Fs.nCR, Fs.nLO, Fs.nAL]
def Seven (fs : List Fd) : Prop := ∀ f ∈ fs, f.n.data.toList ∈ names7
theorem seven_nil : Seven [] := fun f h => by cases h
theorem seven_cons {f : Fd} {l : List Fd} (h : f.n.data.toList ∈ names7) (hl : Seven l) : Seven (f :: l) := fun g hg => by
 rcases List.mem_cons.1 hg with rfl | hg
 ·exact h
 ·exact hl g hg
theorem seven_plain (s : Int) {l : List Fd} (hl : Seven l) : Seven (Fs.plain s l).fs := seven_cons (by decide) hl
theorem seven_head (kd : T8) (e : Dk.En) : Seven (Fs.head kd e) :=
 seven_cons (f := Fs.fd Fs.nCT kd) (show Fs.nCT ∈ names7 by decide) (seven_cons (f := Fs.fd Fs.nET _) (show Fs.nET ∈ names7 by decide) (seven_cons (f := Fs.fd Fs.nLM _) (show Fs.nLM ∈ names7 by decide) (seven_cons (f := Fs.fd Fs.nAR _) (show Fs.nAR ∈ names7 by decide) seven_nil)))
theorem seven_app {a b : List Fd} (ha : Seven a) (hb : Seven b) : Seven (a ++ b) := fun f h => (List.mem_append.1 h).elim (ha f) (hb f)
theorem seven_part (kd : T8) (e : Dk.En) (g : Bool) (l : List Fd) : Seven (Fs.part kd e g l).fs := by
 unfold Fs.part;split
 ·unfold Fs.rgd;split
  ·exact seven_plain _ (seven_cons (f := Fs.fd Fs.nCR _) (show Fs.nCR ∈ names7 by decide) seven_nil)
  ·split
   ·split
    ·exact seven_app (seven_head _ _) (seven_cons (f := Fs.fd Fs.nCR _) (show Fs.nCR ∈ names7 by decide) seven_nil)
    ·exact seven_head _ _
   ·exact seven_head _ _
 ·exact seven_head _ _
theorem seven_fans (es : List Dk.En) (r m t s : T8) (l : List Fd) : Seven (Fs.ans es r m t s l).fs := by
 unfold Fs.ans Fs.ansOf;split
 ·split
  ·split
   ·exact seven_plain _ (seven_cons (f := Fs.fd Fs.nLO _) (show Fs.nLO ∈ names7 by decide) seven_nil)
   ·exact seven_plain _ seven_nil
  ·split
   ·exact seven_plain _ seven_nil
   ·split
    ·exact seven_cons (f := Fs.fd Fs.nET _) (show Fs.nET ∈ names7 by decide) (seven_cons (f := Fs.fd Fs.nLM _) (show Fs.nLM ∈ names7 by decide) seven_nil)
    ·exact seven_part _ _ _ _
 ·exact seven_plain _ (seven_cons (f := Fs.fd Fs.nAL _) (show Fs.nAL ∈ names7 by decide) seven_nil)
theorem seven_raw (rs : List (Rt.Ro × ByteArray)) (es : List Dk.En) (r : Rq) : Seven (raw rs es r).fs := by
 have al (x : T8) : Seven [Fs.fd Fs.nAL x] := seven_cons (f := Fs.fd Fs.nAL x) (show Fs.nAL ∈ names7 by decide) seven_nil;unfold raw;split
 ·exact seven_nil
 ·split
  ·unfold met;split
   ·exact seven_plain 404 seven_nil
   ·split
    ·exact seven_plain 405 (al _)
    ·split
     ·exact al _
     ·split
      ·unfold by'
       split
       ·exact seven_fans _ _ _ _ _ _
       ·split
        ·exact seven_cons (f := ⟨Fs.str Fs.nCT, _⟩) (show Fs.nCT ∈ names7 by decide) seven_nil
        ·split
         ·exact seven_cons (show Fs.nCT ∈ names7 by decide) seven_nil
         ·exact seven_plain 410 seven_nil
      ·exact seven_plain 410 seven_nil
  ·exact seven_plain 400 seven_nil
theorem ans_says (rs : List (Rt.Ro × ByteArray)) (es : List Dk.En) (r : Rq) : ∃ l, Seven l ∧
    ((ans rs es r).fs = l ∧ ((ans rs es r).ts ≠ [] ∨ (ans rs es r).b = []) ∧ (r.m.data.toList = Fs.mHEAD ∨ (ans rs es r).s = 204 ∨ (ans rs es r).s = 304 ∨ (ans rs es r).ts ≠ []) ∨
     ∃ b, (ans rs es r).fs = l ++ [fCL b] ∧ (ans rs es r).ts = [] ∧ (ans rs es r).s ≠ 204 ∧ (ans rs es r).s ≠ 304 ∧ (r.m.data.toList ≠ Fs.mHEAD → (ans rs es r).b = b)) := by
  refine ⟨(raw rs es r).fs, seven_raw rs es r, ?_⟩
  unfold ans
  generalize raw rs es r = a
  obtain ⟨s, fs, b, ts⟩ := a
  unfold fin mid
  by_cases h : (s == 204 || s == 304) = true
  · have hs : s = 204 ∨ s = 304 := by simpa using h
    refine .inl ?_
    simp only [h, if_true]
    split
    · exact ⟨rfl, .inr rfl, .inr (hs.imp id .inl)⟩
    · exact ⟨rfl, .inr rfl, .inr (hs.imp id .inl)⟩
  · have h0 : (s == 204 || s == 304) = false := by simpa using h
    have hs : s ≠ 204 ∧ s ≠ 304 := by simpa using h0
    simp only [h0]
    cases ts with
    | nil =>
      refine .inr ⟨b, ?_⟩
      simp only [List.isEmpty_nil, if_true]
      split
      · rename_i hm
        exact ⟨rfl, rfl, hs.1, hs.2, fun h => absurd (beq_iff_eq.1 hm) h⟩
      · exact ⟨rfl, rfl, hs.1, hs.2, fun _ => rfl⟩
    | cons t r' =>
      refine .inl ?_
      simp only [List.isEmpty_cons]
      split
      · rename_i hm
        exact ⟨rfl, .inr rfl, .inl (beq_iff_eq.1 hm)⟩
      · exact ⟨rfl, .inl (by simp), .inr (.inr (.inr (by simp)))⟩
end Ap

open Go.RowKit

def byteCells (l : List UInt8) : List Value := l.map fun c => .int .u8 (c.toNat : Int)
theorem size_l' (l : List UInt8) : (⟨l.toArray⟩ : ByteArray).size = l.length := by simp [ByteArray.size]


theorem bl_alloc17 (w : World) (x : Obj) : Below w.heap.size w (w.alloc x) := (Below.refl _ _).alloc (Nat.le_refl _) _
theorem minfo17 {P : Program} {t : TypeId} {z : Option Value} {s b : Nat} (h : (P.info? t).map (fun i => (i.zero, i.size, i.bytes)) = some (z, s, b)) : ∃ i, P.info? t = some i ∧ i.zero = z ∧ i.size = s ∧ i.bytes = b := by
 cases hq : P.info? t with
 | none => simp [hq] at h
 | some i => simp [hq] at h; exact ⟨i, rfl, h.1, h.2.1, h.2.2⟩
theorem infoS17 : (Tryz.prog.info? 9).map (fun i => (i.zero, i.size, i.bytes)) = some (some (.string ⟨#[]⟩), 1, 16) := by kernel_rfl
theorem own_shape17 {w : World} {B : Nat} {e : TypeId} {s : Nat} {v : Value} {n : Nat} {xs : List Value} (h : w.ownsRow B e s v n xs) : ∃ ao cap, v = .slice ao n cap := by
 rcases h.2 with ⟨h1, rfl⟩ | ⟨g, cap, cur, h1, _⟩
 ·exact ⟨none, 0, h1⟩
 ·exact ⟨_, cap, h1⟩
theorem own_kp17 {w w' : World} {B : Nat} {e : TypeId} {s : Nat} {v : Value} {n : Nat} {xs : List Value} (h : w.ownsRow B e s v n xs) (hb : Below w.heap.size w w') : w'.ownsRow B e s v n xs := own_same h (fun j hj => hb.block j (own_lt h j hj))
theorem one_cell17 (w : World) (T : TypeId) (x0 : Value) : ∀ j v, [x0][j]? = some v → (w.alloc (.cells #[x0] T)).cell? ((⟨w.heap.size, 0, none⟩ : Addr).add j) = some v := by
 intro j v h;rw [Addr.add_mid, Nat.zero_add];have hA : Ar (w.alloc (.cells #[x0] T)) w.heap.size T #[x0] := heap_alloc_last w _;exact hA.cell j v (by simpa using h)
theorem ext_td17 (s : ByteArray) (a b : Nat) : s.extract a b = ⟨((s.data.toList.drop a).take (b - a)).toArray⟩ := by
 apply ByteArray.ext;rw [ByteArray.data_extract];apply Array.toList_inj.1;simp [Array.toList_extract, List.extract_eq_take_drop]

theorem bc_snoc17 (l : List UInt8) (c : UInt8) : byteCells l ++ [.int .u8 (c.toNat : Int)] = byteCells (l ++ [c]) := by
  unfold byteCells
  rw [List.map_append]; rfl

namespace Pt
theorem drop_c {l : T8} {k : Nat} {c : UInt8} (hc : l[k]? = some c) : l.drop k = c :: l.drop (k + 1) := by
 obtain ⟨h1, h2⟩ := List.getElem?_eq_some_iff.1 hc;rw [List.drop_eq_getElem_cons h1, h2]
theorem hx_bd (c : UInt8) : -1 ≤ hx c ∧ hx c ≤ 15 := by
 refine ⟨?_, hx_le c⟩;unfold hx Tx.dgr Tx.digC;simp only [Bool.and_eq_true, decide_eq_true_eq]
 repeat' split
 all_goals omega
end Pt


namespace Rt
theorem by_no18 {rs : List Ro} {of : List Prt} {m : T8} (hb : ∀ (j : Nat) (q : Ro), rs[j]? = some q → (shape (pat q) of && q.m == m) = false) : byM rs of m = none := by
 unfold byM;rw [List.findIdx?_eq_none_iff];intro q hq;obtain ⟨j, hj, hjq⟩ := List.mem_iff_getElem.1 hq;exact hb j q (by rw [List.getElem?_eq_getElem hj, hjq])
end Rt

abbrev Fr18 := Rt.Ro × ByteArray
def rV18 (x : Fr18) : List Value := [.string ⟨x.1.m.toArray⟩, .string ⟨x.1.p.toArray⟩, .int .u8 x.1.h, .string x.2]
def rC18 (l : List Fr18) : List Value := l.flatMap rV18
theorem rC18_len (l : List Fr18) : (rC18 l).length = l.length * 4 := by
 induction l with
 | nil => rfl
 | cons a r ih => simp only [rC18, List.flatMap_cons, List.length_append, List.length_cons] at *; simp [rV18] at *; omega
theorem rC18_at (l : List Fr18) (i : Nat) (p : Fr18) (h : l[i]? = some p) : ∀ j, j < 4 → (rC18 l)[i * 4 + j]? = (rV18 p)[j]? := by
 induction l generalizing i with
 | nil => simp at h
 | cons a r ih =>
  intro j hj;rw [show rC18 (a :: r) = rV18 a ++ rC18 r from rfl];cases i with
  | zero => simp at h; subst h; rw [List.getElem?_append_left (by simp [rV18]; omega)]; congr 1; omega
  | succ i =>
   rw [List.getElem?_append_right (by simp [rV18]; omega), show (i + 1) * 4 + j - (rV18 a).length = i * 4 + j by simp [rV18]; omega];exact ih i (by simpa using h) j hj
def RW18 (w : World) (v : Value) (l : List Fr18) : Prop :=
 (v = .slice none 0 0 ∧ l = []) ∨ ∃ a cap, v = .slice (some a) l.length cap ∧ l.length ≤ cap ∧ ∀ j u, (rC18 l)[j]? = some u → (a.add j).block < w.heap.size ∧ w.cell? (a.add j) = some u
theorem RW18.keep {w w' : World} {v : Value} {l : List Fr18} (h : RW18 w v l) (hb : Below w.heap.size w w') : RW18 w' v l := by
 rcases h with h | ⟨a, cap, hv, hcp, hc⟩
 ·exact .inl h
 ·exact .inr ⟨a, cap, hv, hcp, fun j u hj => ⟨Nat.lt_of_lt_of_le (hc j u hj).1 hb.size, (hb.cell (hc j u hj).1).trans (hc j u hj).2⟩⟩
theorem RW18.shape {w : World} {v : Value} {l : List Fr18} (h : RW18 w v l) : ∃ ao cap, v = .slice ao l.length cap := by
 rcases h with ⟨h, rfl⟩ | ⟨a, cap, h, _⟩
 ·exact ⟨none, 0, h⟩
 ·exact ⟨some a, cap, h⟩
theorem RW18.four {w : World} {ao : Option Addr} {n cap : Nat} {l : List Fr18} (h : RW18 w (.slice ao n cap) l) (i : Nat) (p : Fr18) (hp : l[i]? = some p) : ∃ a, ao = some a ∧ (a.add (i * 4)).block < w.heap.size ∧ w.cell? (a.add (i * 4)) = some (.string ⟨p.1.m.toArray⟩) ∧ w.cell? ⟨(a.add (i * 4)).block, (a.add (i * 4)).off + 1, none⟩ = some (.string ⟨p.1.p.toArray⟩) ∧ w.cell? ⟨(a.add (i * 4)).block, (a.add (i * 4)).off + 2, none⟩ = some (.int .u8 p.1.h) ∧ w.cell? ⟨(a.add (i * 4)).block, (a.add (i * 4)).off + 3, none⟩ = some (.string p.2) := by
 rcases h with ⟨_, rfl⟩ | ⟨a, cap', hv, hcp, hc⟩
 ·simp at hp
 ·injection hv with h1 _ _;have key : ∀ j u, j < 4 → (rV18 p)[j]? = some u → (a.add (i * 4 + j)).block < w.heap.size ∧ w.cell? (a.add (i * 4 + j)) = some u := fun j u hj hu => hc _ _ ((rC18_at l i p hp j hj).trans hu);have k0 := key 0 _ (by omega) rfl;have k1 := (key 1 _ (by omega) rfl).2;have k2 := (key 2 _ (by omega) rfl).2;have k3 := (key 3 _ (by omega) rfl).2;rw [← Addr.add_add] at k0 k1 k2 k3;refine ⟨a, h1, ?_, ?_, ?_, ?_, ?_⟩
  ·simpa [Addr.add] using k0.1
  ·simpa [Addr.add] using k0.2
  ·simpa [Addr.add] using k1
  ·simpa [Addr.add] using k2
  ·simpa [Addr.add] using k3
theorem RW18.of_own {w : World} {B : Nat} {e : TypeId} {v : Value} {l : List Fr18} (h : w.ownsRow B e 4 v l.length (rC18 l)) : RW18 w v l := by
 rcases h.2 with ⟨hv, hn⟩ | ⟨g, cap, cur, hv, _, h3, h4, _⟩
 ·exact .inl ⟨hv, List.eq_nil_of_length_eq_zero hn⟩
 ·refine .inr ⟨⟨g, 0, none⟩, cap, hv, h4, fun j u hj => ⟨?_, ?_⟩⟩
  ·have := (Array.getElem?_eq_some_iff.1 h3).1;unfold Addr.add;split <;> exact this
  ·exact h.cells (g := g) (by rw [hv]; rfl) j u hj
def BD18 (l : List Fr18) : Prop := ∀ x ∈ l, x.1.p.length ≤ 4194304 ∧ x.1.m.length ≤ 4194304

namespace Ap
open Rt (Mt)
def siteL : List Fr18 := [
 (⟨[71, 69, 84], [47, 102, 47, 123, 112, 46, 46, 46, 125], 1⟩, ⟨#[47, 119]⟩),
 (⟨[], [47, 101, 99, 104, 111], 2⟩, ⟨#[]⟩),
 (⟨[71, 69, 84], [47, 104, 47, 123, 97, 125, 47, 123, 98, 125], 3⟩, ⟨#[]⟩),
 (⟨[71, 69, 84], [47, 111, 108, 100], 4⟩, ⟨#[]⟩)]
theorem site_ok : check siteL = 0 := by decide +kernel
def mis (q : Mt) (st ro : Int) (ps : List (T8 × T8)) (al : T8) : Bool := q.st == st && q.ro == ro && q.ps == ps && q.al == al
theorem mt_of {q : Mt} {st ro : Int} {ps : List (T8 × T8)} {al : T8} (h : mis q st ro ps al = true) : q = ⟨st, ro, ps, al⟩ := by
 obtain ⟨a, b, c, d⟩ := q;simp only [mis, Bool.and_eq_true, beq_iff_eq] at h;obtain ⟨⟨⟨rfl, rfl⟩, rfl⟩, rfl⟩ := h;rfl
def cl (l : T8) (c : T8) (e : Int) : Bool := (Pt.clean l).1 == c && (Pt.clean l).2.2 == e
theorem cl_of {l c : T8} {e : Int} (h : cl l c e = true) : (Pt.clean l).1 = c ∧ (Pt.clean l).2.2 = e := by
 unfold cl at h;rw [Bool.and_eq_true, beq_iff_eq, beq_iff_eq] at h;exact h
def eB : Dk.En := ⟨⟨#[47, 119, 47, 97, 46, 116, 120, 116]⟩, ⟨#[104, 101, 108, 108, 111]⟩, 0, 1⟩
theorem okB : Dk.Ok [eB] := List.pairwise_singleton _ _
def rq (m p b : ByteArray) : Rq := ⟨m, ⟨#[]⟩, ⟨#[]⟩, p, [], b, []⟩
def q1 : Rq := rq ⟨#[71, 69, 84]⟩ ⟨#[47, 102, 47, 97, 46, 116, 120, 116]⟩ ⟨#[]⟩
def q2 : Rq := rq ⟨#[80, 79, 83, 84]⟩ ⟨#[47, 101, 99, 104, 111]⟩ ⟨#[97, 98]⟩
def q3 : Rq := rq ⟨#[71, 69, 84]⟩ ⟨#[47, 104, 47, 49, 47, 37, 51, 50]⟩ ⟨#[]⟩
def q4 : Rq := rq ⟨#[71, 69, 84]⟩ ⟨#[47, 110, 111]⟩ ⟨#[]⟩
theorem raw_of (rs : List (Rt.Ro × ByteArray)) (es : List Dk.En) (r : Rq) {c : T8} {q : Mt} (h0 : (r.p.data.toList == [42]) = false) (hc : cl r.p.data.toList c 0 = true) (hf : Rt.find (rs.map (·.1)) r.m.data.toList c = q) : raw rs es r = met rs q es r c := by
 obtain ⟨h1, h2⟩ := cl_of hc;unfold raw;rw [h0, h1, h2, hf];rfl
theorem getB : Dk.get (Fs.name Fs.rW Fs.sA) [eB] = some eB := (Dk.get_some okB).2 ⟨List.mem_singleton.2 rfl, rfl⟩
theorem fans_B : Fs.ans [eB] Fs.rW Fs.mGET Fs.tA Fs.sA [] = ⟨200, Fs.head (Fs.kind Fs.pA) eB, Fs.hello⟩ := by
 unfold Fs.ans Fs.ansOf;rw [getB];simp only [];rw [Fs.dec_none [] _ _ rfl rfl rfl rfl];unfold Fs.part;rw [Fs.sam_none [] _ _ rfl];rfl
theorem a1 : ∃ fs, ans siteL [eB] q1 = ⟨200, fs, Fs.hello, []⟩ ∧ fs.length = 5 := by
 unfold ans;rw [raw_of siteL [eB] q1 (c := [47, 102, 47, 97, 46, 116, 120, 116]) (q := ⟨200, 0, [([112], [97, 46, 116, 120, 116])], []⟩) (by decide) (by decide +kernel) (mt_of (by decide +kernel))];have h : met siteL ⟨200, 0, [([112], [97, 46, 116, 120, 116])], []⟩ [eB] q1 [47, 102, 47, 97, 46, 116, 120, 116] = of (Fs.ans [eB] Fs.rW Fs.mGET Fs.tA Fs.sA []) := rfl;rw [h, fans_B];exact ⟨_, rfl, rfl⟩
theorem a2 : ∃ fs, ans siteL [eB] q2 = ⟨200, fs, [97, 98], []⟩ := by
 unfold ans;rw [raw_of siteL [eB] q2 (c := [47, 101, 99, 104, 111]) (q := ⟨200, 1, [], []⟩) (by decide) (by decide +kernel) (mt_of (by decide +kernel))];exact ⟨_, rfl⟩
theorem a3 : ∃ fs, ans siteL [eB] q3 = ⟨200, fs, [104, 101, 108, 108, 111, 32, 97, 61, 49, 32, 98, 61, 50, 10], []⟩ := by
 unfold ans;rw [raw_of siteL [eB] q3 (c := [47, 104, 47, 49, 47, 50]) (q := ⟨200, 2, [([97], [49]), ([98], [50])], []⟩) (by decide) (by decide +kernel) (mt_of (by decide +kernel))];exact ⟨_, rfl⟩
theorem a4 : ∃ fs b, ans siteL [eB] q4 = ⟨404, fs, b, []⟩ := by
 unfold ans;rw [raw_of siteL [eB] q4 (c := [47, 110, 111]) (q := ⟨404, -1, [], []⟩) (by decide) (by decide +kernel) (mt_of (by decide +kernel))];exact ⟨_, _, rfl⟩
end Ap


def FT20 (w : World) (v : Value) (l : List Fd) : Prop := FW w v l ∧ ∀ ad n c, l ≠ [] → v = .slice (some ad) n c → ∃ cs, w.heap[ad.block]? = some (.cells cs 44 (0, 0))
def SR20 (w w' : World) (e : Ending) (r : Ap.Rp) : Prop :=
 (∃ vo n vc uo m uc, e = .returned (.agg (rpC r.s (.slice vo n vc) ⟨r.b.toArray⟩ (.slice uo m uc))) ∧ FT20 w' (.slice vo n vc) r.fs ∧ FT20 w' (.slice uo m uc) r.ts) ∧ Below w.heap.size w w'
def BR20 (l : List Fr18) : Prop := BD18 l ∧ ∀ x ∈ l, x.2.size ≤ 1048576
structure BQ20 (r : Ap.Rq) : Prop where
 m : r.m.size ≤ 1048576
 p : r.p.size ≤ 1048570
 b : r.b.size ≤ 1048576
 fl : r.fs.length ≤ 1048576
 fz : Tg.vsz r.fs ≤ 1048576
 tl : r.ts.length ≤ 1048576
structure AK20 (AP : World → Nat → Nat → Nat → List Fr18 → Prop) : Prop where
 keep : ∀ {w w' : World} {B E b : Nat} {l : List Fr18}, AP w B E b l → w.heap.size ≤ w'.heap.size → (∀ k, B ≤ k → k < E → w'.heap[k]? = w.heap[k]?) → AP w' B E b l
 le : ∀ {w : World} {B E b : Nat} {l : List Fr18}, AP w B E b l → E ≤ w.heap.size
def NewC20 (AP : World → Nat → Nat → Nat → List Fr18 → Prop) : Prop := ∀ (ao : Option Addr) (n cap : Nat) (l : List Fr18) (w : World), l.length = n → n ≤ 1048577 → BR20 l → RW18 w (.slice ao n cap) l → TB19 w →
 Calls Tryz.prog 5 #[.slice ao n cap] w fun e w' => ((Ap.check l = 0 ∧ ∃ b, e = .returned (.tuple #[.pointer (some ⟨b, 0, none⟩), .int .i64 0]) ∧ AP w' w.heap.size w'.heap.size b l) ∨ ((Ap.check l == 0) = false ∧ e = .returned (.tuple #[.pointer none, .int .i64 (Ap.check l)]))) ∧ Below w.heap.size w w'
def AnsC20 (AP : World → Nat → Nat → Nat → List Fr18 → Prop) : Prop := ∀ (B E b : Nat) (l : List Fr18) (B' sb : Nat) (K : Nat → Prop) (q : Int) (es : List Dk.En) (r : Ap.Rq) (fv tv : Value) (w : World), AP w B E b l → CS w B' sb K q es → FW w fv r.fs → FW w tv r.ts → BR20 l → BQ20 r → (∀ e ∈ es, EN19 e) → TB19 w →
 Calls Tryz.prog 8 #[.pointer (some ⟨b, 0, none⟩), .pointer (some ⟨sb, 0, none⟩), .agg (rqC r.m r.sc r.au r.p fv r.b tv)] w fun e w' => SR20 w w' e (Ap.ans l es r)
theorem ft_below20 {w w' : World} {v : Value} {l : List Fd} (h : FT20 w v l) (hb : Below w.heap.size w w') : FT20 w' v l :=
 ⟨h.1.keep hb, fun ad n c hl hv => by
  obtain ⟨cs, hc⟩ := h.2 ad n c hl hv;exact ⟨cs, (hb.block _ (Array.getElem?_eq_some_iff.1 hc).1).trans hc⟩⟩
theorem ak_below20 {AP : World → Nat → Nat → Nat → List Fr18 → Prop} (k : AK20 AP) {w w' : World} {B E b : Nat} {l : List Fr18} (h : AP w B E b l) (hb : Below w.heap.size w w') : AP w' B E b l := k.keep h hb.size (fun j _ hj => hb.block j (Nat.lt_of_lt_of_le hj (k.le h)))
theorem ak_lf20 {AP : World → Nat → Nat → Nat → List Fr18 → Prop} (k : AK20 AP) {S : Nat → Prop} {w w' : World} {B E b : Nat} {l : List Fr18} (h : AP w B E b l) (hf : LF S w w') (hs : ∀ j, S j → j < B ∨ E ≤ j) : AP w' B E b l :=
 k.keep h hf.size (fun j h1 h2 => hf.block j (Nat.lt_of_lt_of_le h2 (k.le h)) (fun hj => by have := hs j hj; omega))


theorem rw_lit20 (w : World) (l : List Fr18) (n : Nat) (hn : l.length = n) (h : n ≤ maxLen) : RW18 (w.alloc (.cells (rC18 l).toArray 60)) (.slice (some ⟨w.heap.size, 0, none⟩) n n) l :=
 RW18.of_own (B := w.heap.size) (e := 60) (by rw [hn]; exact own_lit19 w 60 (rC18 l) n 4 (by rw [rC18_len, hn]) h w.heap.size (Nat.le_refl _))

set_option maxRecDepth 20000 in
theorem csite20 (w : World) : Calls Tryz.prog 6 #[] w fun e w' => (∃ ao, e = .returned (.slice ao 4 4) ∧ RW18 w' (.slice ao 4 4) Ap.siteL) ∧ Below w.heap.size w w' := by
 go_enter Tryz.func6, Tryz.ntmps6;go_wp2_with fail;go_ret;exact ⟨⟨_, rfl, rw_lit20 w Ap.siteL 4 rfl (by decide)⟩, bl_alloc19 w _⟩


theorem putB20 : PutOf13 [] 0 ⟨#[47, 119, 47, 97, 46, 116, 120, 116]⟩ ⟨#[104, 101, 108, 108, 111]⟩ 0 0 [Ap.eB] 1 := .inr (.inr (.inr (.inr ⟨rfl, ⟨by decide, by decide, ⟨by decide, by decide⟩, .inr (by decide)⟩, rfl, rfl⟩)))
theorem szB20 : ∀ e ∈ [Ap.eB], EN19 e := by
 intro e he;rw [List.mem_singleton.1 he];exact ⟨by decide, by decide, by decide, by decide, by decide⟩
theorem fld20 (a b c d : Value) (w : World) : (Instr.field 38 (.agg #[a, b, c, d]) 0).run Tryz.prog w = .ok a w := by kernel_rfl
theorem brS20 : BR20 Ap.siteL := by
 unfold BR20 BD18;decide
theorem bq20 (m p b : ByteArray) (hm : m.size ≤ 1048576) (hp : p.size ≤ 1048570) (hb : b.size ≤ 1048576) : BQ20 (Ap.rq m p b) := ⟨hm, hp, hb, Nat.zero_le _, Nat.zero_le _, Nat.zero_le _⟩

set_option maxRecDepth 20000 in
theorem awake20 {AP : World → Nat → Nat → Nat → List Fr18 → Prop} (kA : AK20 AP) (hN : NewC20 AP) (hA : AnsC20 AP) (w : World) (hT : TB19 w) : Calls Tryz.prog 12 #[] w fun e w' => e = .returned (.bool true) ∧ Below w.heap.size w w' := by
 have KA := hid' kA;have HN := hid' hN;have HA := hid' hA;have HT := hid' hT;clear kA hN hA hT;go_enter Tryz.func12, Tryz.ntmps12;go_wp2_with fail;refine (csite20 w).mono ?_;rintro _ w1 ⟨⟨ao, rfl, hr⟩, hb⟩;have HR1 := hid' hr;have HB1 := hid' hb;clear hr hb;go_wp2_with fail;refine (HN.out ao 4 4 Ap.siteL w1 rfl (by decide) brS20 HR1.out (tb_below19 HT.out HB1.out)).mono ?_;rintro _ w2 ⟨⟨_, b, rfl, hap⟩ | ⟨h, _⟩, hb⟩;rotate_left
 ·rw [Ap.site_ok] at h; cases h
 have HA2 := hid' hap;have HB2 := hid' (below_from HB1.out hb HB1.out.size);clear hap hb HR1;go_wp2_with fail;refine (cnew13 w2).mono ?_;rintro _ w3 ⟨⟨d, K1, rfl, hd⟩, hb⟩;have HD3 := hid' hd;have HA3 := hid' (ak_below20 KA.out HA2.out hb);have HB3 := hid' (below_from HB2.out hb HB2.out.size);clear hd hb;go_wp2_with fail;refine (cput13 putB20 _ d K1 w3 HD3.out (by decide) (by decide) (by decide) (by decide)).mono ?_;rintro _ w4 ⟨rfl, K2, hd, hf, _⟩;have HD4 := hid' hd;have HA4 := hid' (ak_lf20 KA.out HA3.out hf (fun j hj => .inr (HD3.out.lt j hj).1));have HB4 := hid' (HB3.out.trans (hf.below HB3.out.size (fun k hk => Nat.le_trans HB2.out.size (HD3.out.lt k hk).1)));clear hd hf;go_wp2_with fail;refine (csnap13 _ d K2 1 [Ap.eB] w4 HD4.out).mono ?_;rintro _ w5 ⟨⟨s, Ks, rfl, hs⟩, hb⟩;have HS5 := hid' hs;have HA5 := hid' (ak_below20 KA.out HA4.out hb);have HB5 := hid' (below_from HB4.out hb HB4.out.size);clear hs hb;go_wp2_with fail;refine (HA.out _ _ b Ap.siteL _ s Ks 1 [Ap.eB] Ap.q1 (.slice none 0 0) (.slice none 0 0) w5 HA5.out HS5.out (fw_nil19 _) (fw_nil19 _) brS20 (bq20 _ _ _ (by decide) (by decide) (by decide)) szB20 (tb_below19 HT.out HB5.out)).mono ?_;obtain ⟨fs, hans, hfl⟩ := Ap.a1;rw [hans];rintro _ w6 ⟨⟨vo, n, vc, uo, m, uc, rfl, hfw, _⟩, hb⟩;obtain rfl : n = 5 := by obtain ⟨_, _, h⟩ := hfw.1.shape; injection h with _ h _; rw [h]; exact hfl
 have HA6 := hid' (ak_below20 KA.out HA5.out hb);have HS6 := hid' (HS5.out.keep hb);have HB6 := hid' (below_from HB5.out hb HB5.out.size);clear hfw hb hans hfl HA5 HS5 HB5 HA4 HB4 HD4 HA3 HB3 HD3 HA2 HB2 HB1;unfold rpC;rw [show Ap.Rp.s ⟨200, fs, Fs.hello, []⟩ = 200 from rfl, show Ap.Rp.b ⟨200, fs, Fs.hello, []⟩ = Fs.hello from rfl];unfold Fs.hello;have HXa : Hid (Ar (w6.alloc (.cells #[.int .i64 200, .slice vo 5 vc, .string ⟨#[104, 101, 108, 108, 111]⟩, .slice uo m uc] 38)) w6.heap.size 38 #[.int .i64 200, .slice vo 5 vc, .string ⟨#[104, 101, 108, 108, 111]⟩, .slice uo m uc]) := hid' (heap_alloc_last w6 _);have hbx := bl_alloc19 w6 (.cells #[.int .i64 200, .slice vo 5 vc, .string ⟨#[104, 101, 108, 108, 111]⟩, .slice uo m uc] 38);have HA7 := hid' (ak_below20 KA.out HA6.out hbx);have HS7 := hid' (HS6.out.keep hbx);have HB7 := hid' (below_from HB6.out hbx HB6.out.size);go_wp2_with fail;obtain ⟨xa, hxa⟩ : ∃ xa, w6.heap.size = xa := ⟨_, rfl⟩;rw [hxa] at HXa ⊢;clear hbx HA6 HS6 HB6;generalize w6.alloc (.cells #[.int .i64 200, .slice vo 5 vc, .string ⟨#[104, 101, 108, 108, 111]⟩, .slice uo m uc] 38) = w7 at *;clear hxa;refine (HA.out _ _ b Ap.siteL _ s Ks 1 [Ap.eB] Ap.q2 (.slice none 0 0) (.slice none 0 0) w7 HA7.out HS7.out (fw_nil19 _) (fw_nil19 _) brS20 (bq20 _ _ _ (by decide) (by decide) (by decide)) szB20 (tb_below19 HT.out HB7.out)).mono ?_;obtain ⟨fs2, hans⟩ := Ap.a2;rw [hans];rintro _ w8 ⟨⟨vo2, n2, vc2, uo2, m2, uc2, rfl, _, _⟩, hb⟩;have HX8 := hid' (HXa.out.keep hb);have HA8 := hid' (ak_below20 KA.out HA7.out hb);have HS8 := hid' (HS7.out.keep hb);have HB8 := hid' (below_from HB7.out hb HB7.out.size);clear hb hans HA7 HS7 HB7 HXa;unfold rpC;rw [show Ap.Rp.s ⟨200, fs2, [97, 98], []⟩ = 200 from rfl, show Ap.Rp.b ⟨200, fs2, [97, 98], []⟩ = [97, 98] from rfl];have HXb : Hid (Ar (w8.alloc (.cells #[.int .i64 200, .slice vo2 n2 vc2, .string ⟨#[97, 98]⟩, .slice uo2 m2 uc2] 38)) w8.heap.size 38 #[.int .i64 200, .slice vo2 n2 vc2, .string ⟨#[97, 98]⟩, .slice uo2 m2 uc2]) := hid' (heap_alloc_last w8 _);have hbx := bl_alloc19 w8 (.cells #[.int .i64 200, .slice vo2 n2 vc2, .string ⟨#[97, 98]⟩, .slice uo2 m2 uc2] 38);have HX9 := hid' (HX8.out.keep hbx);have HA9 := hid' (ak_below20 KA.out HA8.out hbx);have HS9 := hid' (HS8.out.keep hbx);have HB9 := hid' (below_from HB8.out hbx HB8.out.size);go_wp2_with fail;obtain ⟨xb, hxb⟩ : ∃ xb, w8.heap.size = xb := ⟨_, rfl⟩;rw [hxb] at HXb ⊢;clear hbx HA8 HS8 HB8 HX8;generalize w8.alloc (.cells #[.int .i64 200, .slice vo2 n2 vc2, .string ⟨#[97, 98]⟩, .slice uo2 m2 uc2] 38) = w9 at *;clear hxb;refine (HA.out _ _ b Ap.siteL _ s Ks 1 [Ap.eB] Ap.q3 (.slice none 0 0) (.slice none 0 0) w9 HA9.out HS9.out (fw_nil19 _) (fw_nil19 _) brS20 (bq20 _ _ _ (by decide) (by decide) (by decide)) szB20 (tb_below19 HT.out HB9.out)).mono ?_;obtain ⟨fs3, hans⟩ := Ap.a3;rw [hans];rintro _ w10 ⟨⟨vo3, n3, vc3, uo3, m3, uc3, rfl, _, _⟩, hb⟩;have HX10 := hid' (HX9.out.keep hb);have HY10 := hid' (HXb.out.keep hb);have HA10 := hid' (ak_below20 KA.out HA9.out hb);have HS10 := hid' (HS9.out.keep hb);have HB10 := hid' (below_from HB9.out hb HB9.out.size);clear hb hans HA9 HS9 HB9 HX9 HXb;unfold rpC;rw [show Ap.Rp.s ⟨200, fs3, [104, 101, 108, 108, 111, 32, 97, 61, 49, 32, 98, 61, 50, 10], []⟩ = 200 from rfl, show Ap.Rp.b ⟨200, fs3, [104, 101, 108, 108, 111, 32, 97, 61, 49, 32, 98, 61, 50, 10], []⟩ = [104, 101, 108, 108, 111, 32, 97, 61, 49, 32, 98, 61, 50, 10] from rfl];have HXc : Hid (Ar (w10.alloc (.cells #[.int .i64 200, .slice vo3 n3 vc3, .string ⟨#[104, 101, 108, 108, 111, 32, 97, 61, 49, 32, 98, 61, 50, 10]⟩, .slice uo3 m3 uc3] 38)) w10.heap.size 38 #[.int .i64 200, .slice vo3 n3 vc3, .string ⟨#[104, 101, 108, 108, 111, 32, 97, 61, 49, 32, 98, 61, 50, 10]⟩, .slice uo3 m3 uc3]) := hid' (heap_alloc_last w10 _);have hbx := bl_alloc19 w10 (.cells #[.int .i64 200, .slice vo3 n3 vc3, .string ⟨#[104, 101, 108, 108, 111, 32, 97, 61, 49, 32, 98, 61, 50, 10]⟩, .slice uo3 m3 uc3] 38);have HX11 := hid' (HX10.out.keep hbx);have HY11 := hid' (HY10.out.keep hbx);have HA11 := hid' (ak_below20 KA.out HA10.out hbx);have HS11 := hid' (HS10.out.keep hbx);have HB11 := hid' (below_from HB10.out hbx HB10.out.size);have a0 := HX11.out.cell 0 _ rfl;have a1 := HX11.out.cell 1 _ rfl;have a2 := HX11.out.cell 2 _ rfl;have b2 := HY11.out.cell 2 _ rfl;have c2 := HXc.out.cell 2 _ rfl;go_wp2_with fail;clear a0 a1 a2 b2 c2 hbx HA10 HS10 HB10 HX10 HY10 HXc HX11 HY11;generalize w10.alloc (.cells #[.int .i64 200, .slice vo3 n3 vc3, .string ⟨#[104, 101, 108, 108, 111, 32, 97, 61, 49, 32, 98, 61, 50, 10]⟩, .slice uo3 m3 uc3] 38) = w11 at *;refine (HA.out _ _ b Ap.siteL _ s Ks 1 [Ap.eB] Ap.q4 (.slice none 0 0) (.slice none 0 0) w11 HA11.out HS11.out (fw_nil19 _) (fw_nil19 _) brS20 (bq20 _ _ _ (by decide) (by decide) (by decide)) szB20 (tb_below19 HT.out HB11.out)).mono ?_;obtain ⟨fs4, bd4, hans⟩ := Ap.a4;rw [hans];rintro _ w12 ⟨⟨vo4, n4, vc4, uo4, m4, uc4, rfl, _, _⟩, hb⟩;have HB12 := hid' (below_from HB11.out hb HB11.out.size);clear hb hans HA11 HS11 HB11;unfold rpC;rw [show Ap.Rp.s ⟨404, fs4, bd4, []⟩ = 404 from rfl];go_wp2_with fail;rw [fld20];go_wp2;go_ret;exact ⟨rfl, HB12.out⟩

end Go.Proofs.YthhpejgpfaikaabGreatDoor
