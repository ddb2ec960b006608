/-
  What the row stands on.
-/
import Derived.Laws.OwnMore
import Derived.Laws.AppendOwnNone
import Derived.Test.YthhpejgpfaikaabGreatDoorPqAR
import Derived.Test.YthhpejgpfaikaabGreatDoorPqAO
import Derived.Test.YthhpejgpfaikaabGreatDoorPqAB
import Derived.Test.YthhpejgpfaikaabGreatDoorPqAQ
import Derived.Test.YthhpejgpfaikaabGreatDoorPqAP
namespace Go.Proofs.YthhpejgpfaikaabGreatDoor
set_option maxHeartbeats 64000000
open Go.RowKit

namespace Rt
theorem by_no18 {rs : List Ro} {of : List Prt} {m : T8} (hb : ∀ (j : Nat) (q : Ro), rs[j]? = some q → (shape (pat q) of && q.m == m) = false) : byM rs of m = none := by
 unfold byM;rw [List.findIdx?_eq_none_iff];intro q hq;obtain ⟨j, hj, hjq⟩ := List.mem_iff_getElem.1 hq;exact hb j q (by rw [List.getElem?_eq_getElem hj, hjq])
end Rt

abbrev Fr18 := Rt.Ro × ByteArray
def rV18 (x : Fr18) : List Value := [.string ⟨x.1.m.toArray⟩, .string ⟨x.1.p.toArray⟩, .int .u8 x.1.h, .string x.2]
def rC18 (l : List Fr18) : List Value := l.flatMap rV18
theorem rC18_len (l : List Fr18) : (rC18 l).length = l.length * 4 := by
 induction l with
 | nil => rfl
 | cons a r ih => simp only [rC18, List.flatMap_cons, List.length_append, List.length_cons] at *; simp [rV18] at *; omega
theorem rC18_at (l : List Fr18) (i : Nat) (p : Fr18) (h : l[i]? = some p) : ∀ j, j < 4 → (rC18 l)[i * 4 + j]? = (rV18 p)[j]? := by
 induction l generalizing i with
 | nil => simp at h
 | cons a r ih =>
  intro j hj;rw [show rC18 (a :: r) = rV18 a ++ rC18 r from rfl];cases i with
  | zero => simp at h; subst h; rw [List.getElem?_append_left (by simp [rV18]; omega)]; congr 1; omega
  | succ i =>
   rw [List.getElem?_append_right (by simp [rV18]; omega), show (i + 1) * 4 + j - (rV18 a).length = i * 4 + j by simp [rV18]; omega];exact ih i (by simpa using h) j hj
def RW18 (w : World) (v : Value) (l : List Fr18) : Prop :=
 (v = .slice none 0 0 ∧ l = []) ∨ ∃ a cap, v = .slice (some a) l.length cap ∧ l.length ≤ cap ∧ ∀ j u, (rC18 l)[j]? = some u → (a.add j).block < w.heap.size ∧ w.cell? (a.add j) = some u
theorem RW18.keep {w w' : World} {v : Value} {l : List Fr18} (h : RW18 w v l) (hb : Below w.heap.size w w') : RW18 w' v l := by
 rcases h with h | ⟨a, cap, hv, hcp, hc⟩
 ·exact .inl h
 ·exact .inr ⟨a, cap, hv, hcp, fun j u hj => ⟨Nat.lt_of_lt_of_le (hc j u hj).1 hb.size, (hb.cell (hc j u hj).1).trans (hc j u hj).2⟩⟩
theorem RW18.shape {w : World} {v : Value} {l : List Fr18} (h : RW18 w v l) : ∃ ao cap, v = .slice ao l.length cap := by
 rcases h with ⟨h, rfl⟩ | ⟨a, cap, h, _⟩
 ·exact ⟨none, 0, h⟩
 ·exact ⟨some a, cap, h⟩
theorem RW18.four {w : World} {ao : Option Addr} {n cap : Nat} {l : List Fr18} (h : RW18 w (.slice ao n cap) l) (i : Nat) (p : Fr18) (hp : l[i]? = some p) : ∃ a, ao = some a ∧ (a.add (i * 4)).block < w.heap.size ∧ w.cell? (a.add (i * 4)) = some (.string ⟨p.1.m.toArray⟩) ∧ w.cell? ⟨(a.add (i * 4)).block, (a.add (i * 4)).off + 1, none⟩ = some (.string ⟨p.1.p.toArray⟩) ∧ w.cell? ⟨(a.add (i * 4)).block, (a.add (i * 4)).off + 2, none⟩ = some (.int .u8 p.1.h) ∧ w.cell? ⟨(a.add (i * 4)).block, (a.add (i * 4)).off + 3, none⟩ = some (.string p.2) := by
 rcases h with ⟨_, rfl⟩ | ⟨a, cap', hv, hcp, hc⟩
 ·simp at hp
 ·injection hv with h1 _ _;have key : ∀ j u, j < 4 → (rV18 p)[j]? = some u → (a.add (i * 4 + j)).block < w.heap.size ∧ w.cell? (a.add (i * 4 + j)) = some u := fun j u hj hu => hc _ _ ((rC18_at l i p hp j hj).trans hu);have k0 := key 0 _ (by omega) rfl;have k1 := (key 1 _ (by omega) rfl).2;have k2 := (key 2 _ (by omega) rfl).2;have k3 := (key 3 _ (by omega) rfl).2;rw [← Addr.add_add] at k0 k1 k2 k3;refine ⟨a, h1, ?_, ?_, ?_, ?_, ?_⟩
  ·simpa [Addr.add] using k0.1
  ·simpa [Addr.add] using k0.2
  ·simpa [Addr.add] using k1
  ·simpa [Addr.add] using k2
  ·simpa [Addr.add] using k3
theorem RW18.of_own {w : World} {B : Nat} {e : TypeId} {v : Value} {l : List Fr18} (h : w.ownsRow B e 4 v l.length (rC18 l)) : RW18 w v l := by
 rcases h.2 with ⟨hv, hn⟩ | ⟨g, cap, cur, hv, _, h3, h4, _⟩
 ·exact .inl ⟨hv, List.eq_nil_of_length_eq_zero hn⟩
 ·refine .inr ⟨⟨g, 0, none⟩, cap, hv, h4, fun j u hj => ⟨?_, ?_⟩⟩
  ·have := (Array.getElem?_eq_some_iff.1 h3).1;unfold Addr.add;split <;> exact this
  ·exact h.cells (g := g) (by rw [hv]; rfl) j u hj
def BD18 (l : List Fr18) : Prop := ∀ x ∈ l, x.1.p.length ≤ 4194304 ∧ x.1.m.length ≤ 4194304

namespace Ap
open Rt (Mt)
def siteL : List Fr18 := [
 (⟨[71, 69, 84], [47, 102, 47, 123, 112, 46, 46, 46, 125], 1⟩, ⟨#[47, 119]⟩),
 (⟨[], [47, 101, 99, 104, 111], 2⟩, ⟨#[]⟩),
 (⟨[71, 69, 84], [47, 104, 47, 123, 97, 125, 47, 123, 98, 125], 3⟩, ⟨#[]⟩),
 (⟨[71, 69, 84], [47, 111, 108, 100], 4⟩, ⟨#[]⟩)]
theorem site_ok : check siteL = 0 := by decide +kernel
def mis (q : Mt) (st ro : Int) (ps : List (T8 × T8)) (al : T8) : Bool := q.st == st && q.ro == ro && q.ps == ps && q.al == al
theorem mt_of {q : Mt} {st ro : Int} {ps : List (T8 × T8)} {al : T8} (h : mis q st ro ps al = true) : q = ⟨st, ro, ps, al⟩ := by
 obtain ⟨a, b, c, d⟩ := q;simp only [mis, Bool.and_eq_true, beq_iff_eq] at h;obtain ⟨⟨⟨rfl, rfl⟩, rfl⟩, rfl⟩ := h;rfl
def cl (l : T8) (c : T8) (e : Int) : Bool := (Pt.clean l).1 == c && (Pt.clean l).2.2 == e
theorem cl_of {l c : T8} {e : Int} (h : cl l c e = true) : (Pt.clean l).1 = c ∧ (Pt.clean l).2.2 = e := by
 unfold cl at h;rw [Bool.and_eq_true, beq_iff_eq, beq_iff_eq] at h;exact h
def eB : Dk.En := ⟨⟨#[47, 119, 47, 97, 46, 116, 120, 116]⟩, ⟨#[104, 101, 108, 108, 111]⟩, 0, 1⟩
theorem okB : Dk.Ok [eB] := List.pairwise_singleton _ _
def rq (m p b : ByteArray) : Rq := ⟨m, ⟨#[]⟩, ⟨#[]⟩, p, [], b, []⟩
def q1 : Rq := rq ⟨#[71, 69, 84]⟩ ⟨#[47, 102, 47, 97, 46, 116, 120, 116]⟩ ⟨#[]⟩
def q2 : Rq := rq ⟨#[80, 79, 83, 84]⟩ ⟨#[47, 101, 99, 104, 111]⟩ ⟨#[97, 98]⟩
def q3 : Rq := rq ⟨#[71, 69, 84]⟩ ⟨#[47, 104, 47, 49, 47, 37, 51, 50]⟩ ⟨#[]⟩
def q4 : Rq := rq ⟨#[71, 69, 84]⟩ ⟨#[47, 110, 111]⟩ ⟨#[]⟩
theorem raw_of (rs : List (Rt.Ro × ByteArray)) (es : List Dk.En) (r : Rq) {c : T8} {q : Mt} (h0 : (r.p.data.toList == [42]) = false) (hc : cl r.p.data.toList c 0 = true) (hf : Rt.find (rs.map (·.1)) r.m.data.toList c = q) : raw rs es r = met rs q es r c := by
 obtain ⟨h1, h2⟩ := cl_of hc;unfold raw;rw [h0, h1, h2, hf];rfl
theorem getB : Dk.get (Fs.name Fs.rW Fs.sA) [eB] = some eB := (Dk.get_some okB).2 ⟨List.mem_singleton.2 rfl, rfl⟩
theorem fans_B : Fs.ans [eB] Fs.rW Fs.mGET Fs.tA Fs.sA [] = ⟨200, Fs.head (Fs.kind Fs.pA) eB, Fs.hello⟩ := by
 unfold Fs.ans Fs.ansOf;rw [getB];simp only [];rw [Fs.dec_none [] _ _ rfl rfl rfl rfl];unfold Fs.part;rw [Fs.sam_none [] _ _ rfl];rfl
theorem a1 : ∃ fs, ans siteL [eB] q1 = ⟨200, fs, Fs.hello, []⟩ ∧ fs.length = 5 := by
 unfold ans;rw [raw_of siteL [eB] q1 (c := [47, 102, 47, 97, 46, 116, 120, 116]) (q := ⟨200, 0, [([112], [97, 46, 116, 120, 116])], []⟩) (by decide) (by decide +kernel) (mt_of (by decide +kernel))];have h : met siteL ⟨200, 0, [([112], [97, 46, 116, 120, 116])], []⟩ [eB] q1 [47, 102, 47, 97, 46, 116, 120, 116] = of (Fs.ans [eB] Fs.rW Fs.mGET Fs.tA Fs.sA []) := rfl;rw [h, fans_B];exact ⟨_, rfl, rfl⟩
theorem a2 : ∃ fs, ans siteL [eB] q2 = ⟨200, fs, [97, 98], []⟩ := by
 unfold ans;rw [raw_of siteL [eB] q2 (c := [47, 101, 99, 104, 111]) (q := ⟨200, 1, [], []⟩) (by decide) (by decide +kernel) (mt_of (by decide +kernel))];exact ⟨_, rfl⟩
theorem a3 : ∃ fs, ans siteL [eB] q3 = ⟨200, fs, [104, 101, 108, 108, 111, 32, 97, 61, 49, 32, 98, 61, 50, 10], []⟩ := by
 unfold ans;rw [raw_of siteL [eB] q3 (c := [47, 104, 47, 49, 47, 50]) (q := ⟨200, 2, [([97], [49]), ([98], [50])], []⟩) (by decide) (by decide +kernel) (mt_of (by decide +kernel))];exact ⟨_, rfl⟩
theorem a4 : ∃ fs b, ans siteL [eB] q4 = ⟨404, fs, b, []⟩ := by
 unfold ans;rw [raw_of siteL [eB] q4 (c := [47, 110, 111]) (q := ⟨404, -1, [], []⟩) (by decide) (by decide +kernel) (mt_of (by decide +kernel))];exact ⟨_, _, rfl⟩
end Ap


def FT20 (w : World) (v : Value) (l : List Fd) : Prop := FW w v l ∧ ∀ ad n c, l ≠ [] → v = .slice (some ad) n c → ∃ cs, w.heap[ad.block]? = some (.cells cs 44 (0, 0))
def SR20 (w w' : World) (e : Ending) (r : Ap.Rp) : Prop :=
 (∃ vo n vc uo m uc, e = .returned (.agg (rpC r.s (.slice vo n vc) ⟨r.b.toArray⟩ (.slice uo m uc))) ∧ FT20 w' (.slice vo n vc) r.fs ∧ FT20 w' (.slice uo m uc) r.ts) ∧ Below w.heap.size w w'
def BR20 (l : List Fr18) : Prop := BD18 l ∧ ∀ x ∈ l, x.2.size ≤ 1048576
structure BQ20 (r : Ap.Rq) : Prop where
 m : r.m.size ≤ 1048576
 p : r.p.size ≤ 1048570
 b : r.b.size ≤ 1048576
 fl : r.fs.length ≤ 1048576
 fz : Tg.vsz r.fs ≤ 1048576
 tl : r.ts.length ≤ 1048576
structure AK20 (AP : World → Nat → Nat → Nat → List Fr18 → Prop) : Prop where
 keep : ∀ {w w' : World} {B E b : Nat} {l : List Fr18}, AP w B E b l → w.heap.size ≤ w'.heap.size → (∀ k, B ≤ k → k < E → w'.heap[k]? = w.heap[k]?) → AP w' B E b l
 le : ∀ {w : World} {B E b : Nat} {l : List Fr18}, AP w B E b l → E ≤ w.heap.size
def NewC20 (AP : World → Nat → Nat → Nat → List Fr18 → Prop) : Prop := ∀ (ao : Option Addr) (n cap : Nat) (l : List Fr18) (w : World), l.length = n → n ≤ 1048577 → BR20 l → RW18 w (.slice ao n cap) l → TB19 w →
 Calls Tryz.prog 5 #[.slice ao n cap] w fun e w' => ((Ap.check l = 0 ∧ ∃ b, e = .returned (.tuple #[.pointer (some ⟨b, 0, none⟩), .int .i64 0]) ∧ AP w' w.heap.size w'.heap.size b l) ∨ ((Ap.check l == 0) = false ∧ e = .returned (.tuple #[.pointer none, .int .i64 (Ap.check l)]))) ∧ Below w.heap.size w w'
def AnsC20 (AP : World → Nat → Nat → Nat → List Fr18 → Prop) : Prop := ∀ (B E b : Nat) (l : List Fr18) (B' sb : Nat) (K : Nat → Prop) (q : Int) (es : List Dk.En) (r : Ap.Rq) (fv tv : Value) (w : World), AP w B E b l → CS w B' sb K q es → FW w fv r.fs → FW w tv r.ts → BR20 l → BQ20 r → (∀ e ∈ es, EN19 e) → TB19 w →
 Calls Tryz.prog 8 #[.pointer (some ⟨b, 0, none⟩), .pointer (some ⟨sb, 0, none⟩), .agg (rqC r.m r.sc r.au r.p fv r.b tv)] w fun e w' => SR20 w w' e (Ap.ans l es r)
theorem ft_below20 {w w' : World} {v : Value} {l : List Fd} (h : FT20 w v l) (hb : Below w.heap.size w w') : FT20 w' v l :=
 ⟨h.1.keep hb, fun ad n c hl hv => by
  obtain ⟨cs, hc⟩ := h.2 ad n c hl hv;exact ⟨cs, (hb.block _ (Array.getElem?_eq_some_iff.1 hc).1).trans hc⟩⟩
theorem ak_below20 {AP : World → Nat → Nat → Nat → List Fr18 → Prop} (k : AK20 AP) {w w' : World} {B E b : Nat} {l : List Fr18} (h : AP w B E b l) (hb : Below w.heap.size w w') : AP w' B E b l := k.keep h hb.size (fun j _ hj => hb.block j (Nat.lt_of_lt_of_le hj (k.le h)))
theorem ak_lf20 {AP : World → Nat → Nat → Nat → List Fr18 → Prop} (k : AK20 AP) {S : Nat → Prop} {w w' : World} {B E b : Nat} {l : List Fr18} (h : AP w B E b l) (hf : LF S w w') (hs : ∀ j, S j → j < B ∨ E ≤ j) : AP w' B E b l :=
 k.keep h hf.size (fun j h1 h2 => hf.block j (Nat.lt_of_lt_of_le h2 (k.le h)) (fun hj => by have := hs j hj; omega))


theorem rw_lit20 (w : World) (l : List Fr18) (n : Nat) (hn : l.length = n) (h : n ≤ maxLen) : RW18 (w.alloc (.cells (rC18 l).toArray 60)) (.slice (some ⟨w.heap.size, 0, none⟩) n n) l :=
 RW18.of_own (B := w.heap.size) (e := 60) (by rw [hn]; exact own_lit19 w 60 (rC18 l) n 4 (by rw [rC18_len, hn]) h w.heap.size (Nat.le_refl _))

set_option maxRecDepth 20000 in
theorem csite20 (w : World) : Calls Tryz.prog 6 #[] w fun e w' => (∃ ao, e = .returned (.slice ao 4 4) ∧ RW18 w' (.slice ao 4 4) Ap.siteL) ∧ Below w.heap.size w w' := by
 go_enter Tryz.func6, Tryz.ntmps6;go_wp2_with fail;go_ret;exact ⟨⟨_, rfl, rw_lit20 w Ap.siteL 4 rfl (by decide)⟩, bl_alloc19 w _⟩


theorem putB20 : PutOf13 [] 0 ⟨#[47, 119, 47, 97, 46, 116, 120, 116]⟩ ⟨#[104, 101, 108, 108, 111]⟩ 0 0 [Ap.eB] 1 := .inr (.inr (.inr (.inr ⟨rfl, ⟨by decide, by decide, ⟨by decide, by decide⟩, .inr (by decide)⟩, rfl, rfl⟩)))
theorem szB20 : ∀ e ∈ [Ap.eB], EN19 e := by
 intro e he;rw [List.mem_singleton.1 he];exact ⟨by decide, by decide, by decide, by decide, by decide⟩
theorem fld20 (a b c d : Value) (w : World) : (Instr.field 38 (.agg #[a, b, c, d]) 0).run Tryz.prog w = .ok a w := by kernel_rfl
theorem brS20 : BR20 Ap.siteL := by
 unfold BR20 BD18;decide
theorem bq20 (m p b : ByteArray) (hm : m.size ≤ 1048576) (hp : p.size ≤ 1048570) (hb : b.size ≤ 1048576) : BQ20 (Ap.rq m p b) := ⟨hm, hp, hb, Nat.zero_le _, Nat.zero_le _, Nat.zero_le _⟩

set_option maxRecDepth 20000 in
theorem awake20 {AP : World → Nat → Nat → Nat → List Fr18 → Prop} (kA : AK20 AP) (hN : NewC20 AP) (hA : AnsC20 AP) (w : World) (hT : TB19 w) : Calls Tryz.prog 12 #[] w fun e w' => e = .returned (.bool true) ∧ Below w.heap.size w w' := by
 have KA := hid' kA;have HN := hid' hN;have HA := hid' hA;have HT := hid' hT;clear kA hN hA hT;go_enter Tryz.func12, Tryz.ntmps12;go_wp2_with fail;refine (csite20 w).mono ?_;rintro _ w1 ⟨⟨ao, rfl, hr⟩, hb⟩;have HR1 := hid' hr;have HB1 := hid' hb;clear hr hb;go_wp2_with fail;refine (HN.out ao 4 4 Ap.siteL w1 rfl (by decide) brS20 HR1.out (tb_below19 HT.out HB1.out)).mono ?_;rintro _ w2 ⟨⟨_, b, rfl, hap⟩ | ⟨h, _⟩, hb⟩;rotate_left
 ·rw [Ap.site_ok] at h; cases h
 have HA2 := hid' hap;have HB2 := hid' (below_from HB1.out hb HB1.out.size);clear hap hb HR1;go_wp2_with fail;refine (cnew13 w2).mono ?_;rintro _ w3 ⟨⟨d, K1, rfl, hd⟩, hb⟩;have HD3 := hid' hd;have HA3 := hid' (ak_below20 KA.out HA2.out hb);have HB3 := hid' (below_from HB2.out hb HB2.out.size);clear hd hb;go_wp2_with fail;refine (cput13 putB20 _ d K1 w3 HD3.out (by decide) (by decide) (by decide) (by decide)).mono ?_;rintro _ w4 ⟨rfl, K2, hd, hf, _⟩;have HD4 := hid' hd;have HA4 := hid' (ak_lf20 KA.out HA3.out hf (fun j hj => .inr (HD3.out.lt j hj).1));have HB4 := hid' (HB3.out.trans (hf.below HB3.out.size (fun k hk => Nat.le_trans HB2.out.size (HD3.out.lt k hk).1)));clear hd hf;go_wp2_with fail;refine (csnap13 _ d K2 1 [Ap.eB] w4 HD4.out).mono ?_;rintro _ w5 ⟨⟨s, Ks, rfl, hs⟩, hb⟩;have HS5 := hid' hs;have HA5 := hid' (ak_below20 KA.out HA4.out hb);have HB5 := hid' (below_from HB4.out hb HB4.out.size);clear hs hb;go_wp2_with fail;refine (HA.out _ _ b Ap.siteL _ s Ks 1 [Ap.eB] Ap.q1 (.slice none 0 0) (.slice none 0 0) w5 HA5.out HS5.out (fw_nil19 _) (fw_nil19 _) brS20 (bq20 _ _ _ (by decide) (by decide) (by decide)) szB20 (tb_below19 HT.out HB5.out)).mono ?_;obtain ⟨fs, hans, hfl⟩ := Ap.a1;rw [hans];rintro _ w6 ⟨⟨vo, n, vc, uo, m, uc, rfl, hfw, _⟩, hb⟩;obtain rfl : n = 5 := by obtain ⟨_, _, h⟩ := hfw.1.shape; injection h with _ h _; rw [h]; exact hfl
 have HA6 := hid' (ak_below20 KA.out HA5.out hb);have HS6 := hid' (HS5.out.keep hb);have HB6 := hid' (below_from HB5.out hb HB5.out.size);clear hfw hb hans hfl HA5 HS5 HB5 HA4 HB4 HD4 HA3 HB3 HD3 HA2 HB2 HB1;unfold rpC;rw [show Ap.Rp.s ⟨200, fs, Fs.hello, []⟩ = 200 from rfl, show Ap.Rp.b ⟨200, fs, Fs.hello, []⟩ = Fs.hello from rfl];unfold Fs.hello;have HXa : Hid (Ar (w6.alloc (.cells #[.int .i64 200, .slice vo 5 vc, .string ⟨#[104, 101, 108, 108, 111]⟩, .slice uo m uc] 38)) w6.heap.size 38 #[.int .i64 200, .slice vo 5 vc, .string ⟨#[104, 101, 108, 108, 111]⟩, .slice uo m uc]) := hid' (heap_alloc_last w6 _);have hbx := bl_alloc19 w6 (.cells #[.int .i64 200, .slice vo 5 vc, .string ⟨#[104, 101, 108, 108, 111]⟩, .slice uo m uc] 38);have HA7 := hid' (ak_below20 KA.out HA6.out hbx);have HS7 := hid' (HS6.out.keep hbx);have HB7 := hid' (below_from HB6.out hbx HB6.out.size);go_wp2_with fail;obtain ⟨xa, hxa⟩ : ∃ xa, w6.heap.size = xa := ⟨_, rfl⟩;rw [hxa] at HXa ⊢;clear hbx HA6 HS6 HB6;generalize w6.alloc (.cells #[.int .i64 200, .slice vo 5 vc, .string ⟨#[104, 101, 108, 108, 111]⟩, .slice uo m uc] 38) = w7 at *;clear hxa;refine (HA.out _ _ b Ap.siteL _ s Ks 1 [Ap.eB] Ap.q2 (.slice none 0 0) (.slice none 0 0) w7 HA7.out HS7.out (fw_nil19 _) (fw_nil19 _) brS20 (bq20 _ _ _ (by decide) (by decide) (by decide)) szB20 (tb_below19 HT.out HB7.out)).mono ?_;obtain ⟨fs2, hans⟩ := Ap.a2;rw [hans];rintro _ w8 ⟨⟨vo2, n2, vc2, uo2, m2, uc2, rfl, _, _⟩, hb⟩;have HX8 := hid' (HXa.out.keep hb);have HA8 := hid' (ak_below20 KA.out HA7.out hb);have HS8 := hid' (HS7.out.keep hb);have HB8 := hid' (below_from HB7.out hb HB7.out.size);clear hb hans HA7 HS7 HB7 HXa;unfold rpC;rw [show Ap.Rp.s ⟨200, fs2, [97, 98], []⟩ = 200 from rfl, show Ap.Rp.b ⟨200, fs2, [97, 98], []⟩ = [97, 98] from rfl];have HXb : Hid (Ar (w8.alloc (.cells #[.int .i64 200, .slice vo2 n2 vc2, .string ⟨#[97, 98]⟩, .slice uo2 m2 uc2] 38)) w8.heap.size 38 #[.int .i64 200, .slice vo2 n2 vc2, .string ⟨#[97, 98]⟩, .slice uo2 m2 uc2]) := hid' (heap_alloc_last w8 _);have hbx := bl_alloc19 w8 (.cells #[.int .i64 200, .slice vo2 n2 vc2, .string ⟨#[97, 98]⟩, .slice uo2 m2 uc2] 38);have HX9 := hid' (HX8.out.keep hbx);have HA9 := hid' (ak_below20 KA.out HA8.out hbx);have HS9 := hid' (HS8.out.keep hbx);have HB9 := hid' (below_from HB8.out hbx HB8.out.size);go_wp2_with fail;obtain ⟨xb, hxb⟩ : ∃ xb, w8.heap.size = xb := ⟨_, rfl⟩;rw [hxb] at HXb ⊢;clear hbx HA8 HS8 HB8 HX8;generalize w8.alloc (.cells #[.int .i64 200, .slice vo2 n2 vc2, .string ⟨#[97, 98]⟩, .slice uo2 m2 uc2] 38) = w9 at *;clear hxb;refine (HA.out _ _ b Ap.siteL _ s Ks 1 [Ap.eB] Ap.q3 (.slice none 0 0) (.slice none 0 0) w9 HA9.out HS9.out (fw_nil19 _) (fw_nil19 _) brS20 (bq20 _ _ _ (by decide) (by decide) (by decide)) szB20 (tb_below19 HT.out HB9.out)).mono ?_;obtain ⟨fs3, hans⟩ := Ap.a3;rw [hans];rintro _ w10 ⟨⟨vo3, n3, vc3, uo3, m3, uc3, rfl, _, _⟩, hb⟩;have HX10 := hid' (HX9.out.keep hb);have HY10 := hid' (HXb.out.keep hb);have HA10 := hid' (ak_below20 KA.out HA9.out hb);have HS10 := hid' (HS9.out.keep hb);have HB10 := hid' (below_from HB9.out hb HB9.out.size);clear hb hans HA9 HS9 HB9 HX9 HXb;unfold rpC;rw [show Ap.Rp.s ⟨200, fs3, [104, 101, 108, 108, 111, 32, 97, 61, 49, 32, 98, 61, 50, 10], []⟩ = 200 from rfl, show Ap.Rp.b ⟨200, fs3, [104, 101, 108, 108, 111, 32, 97, 61, 49, 32, 98, 61, 50, 10], []⟩ = [104, 101, 108, 108, 111, 32, 97, 61, 49, 32, 98, 61, 50, 10] from rfl];have HXc : Hid (Ar (w10.alloc (.cells #[.int .i64 200, .slice vo3 n3 vc3, .string ⟨#[104, 101, 108, 108, 111, 32, 97, 61, 49, 32, 98, 61, 50, 10]⟩, .slice uo3 m3 uc3] 38)) w10.heap.size 38 #[.int .i64 200, .slice vo3 n3 vc3, .string ⟨#[104, 101, 108, 108, 111, 32, 97, 61, 49, 32, 98, 61, 50, 10]⟩, .slice uo3 m3 uc3]) := hid' (heap_alloc_last w10 _);have hbx := bl_alloc19 w10 (.cells #[.int .i64 200, .slice vo3 n3 vc3, .string ⟨#[104, 101, 108, 108, 111, 32, 97, 61, 49, 32, 98, 61, 50, 10]⟩, .slice uo3 m3 uc3] 38);have HX11 := hid' (HX10.out.keep hbx);have HY11 := hid' (HY10.out.keep hbx);have HA11 := hid' (ak_below20 KA.out HA10.out hbx);have HS11 := hid' (HS10.out.keep hbx);have HB11 := hid' (below_from HB10.out hbx HB10.out.size);have a0 := HX11.out.cell 0 _ rfl;have a1 := HX11.out.cell 1 _ rfl;have a2 := HX11.out.cell 2 _ rfl;have b2 := HY11.out.cell 2 _ rfl;have c2 := HXc.out.cell 2 _ rfl;go_wp2_with fail;clear a0 a1 a2 b2 c2 hbx HA10 HS10 HB10 HX10 HY10 HXc HX11 HY11;generalize w10.alloc (.cells #[.int .i64 200, .slice vo3 n3 vc3, .string ⟨#[104, 101, 108, 108, 111, 32, 97, 61, 49, 32, 98, 61, 50, 10]⟩, .slice uo3 m3 uc3] 38) = w11 at *;refine (HA.out _ _ b Ap.siteL _ s Ks 1 [Ap.eB] Ap.q4 (.slice none 0 0) (.slice none 0 0) w11 HA11.out HS11.out (fw_nil19 _) (fw_nil19 _) brS20 (bq20 _ _ _ (by decide) (by decide) (by decide)) szB20 (tb_below19 HT.out HB11.out)).mono ?_;obtain ⟨fs4, bd4, hans⟩ := Ap.a4;rw [hans];rintro _ w12 ⟨⟨vo4, n4, vc4, uo4, m4, uc4, rfl, _, _⟩, hb⟩;have HB12 := hid' (below_from HB11.out hb HB11.out.size);clear hb hans HA11 HS11 HB11;unfold rpC;rw [show Ap.Rp.s ⟨404, fs4, bd4, []⟩ = 404 from rfl];go_wp2_with fail;rw [fld20];go_wp2;go_ret;exact ⟨rfl, HB12.out⟩


set_option maxRecDepth 20000 in
theorem cboth20 (v : Value) (l : List Dk.En) (w : World) (h : EW19 w v l) (hl : l.length ≤ 1048576) (hb : ∀ e ∈ l, e.path.size ≤ 1048576 ∧ e.body.size ≤ 1048576) :
  Calls Tryz.prog 7 #[v] w fun e w' => BP19 w w' e ∧ Below w.heap.size w w' := by
 obtain ⟨ao, cap, rfl⟩ := h.shape;obtain ⟨n, hn⟩ : ∃ n, l.length = n := ⟨_, rfl⟩;rw [hn] at h hl ⊢;have H := hid' h;have HN := hid' hn;have HS := hid' hb;clear h hn hb;go_enter Tryz.func7, Tryz.ntmps7;go_wp2_with (refine wpl_alloc 34 rfl rfl #[.slice none 0 0, .int .i64 0] (by kernel_rfl) ?_);intro rb w0 hrb ha0 hl0;have HR0 := hid' ha0;have HB0 := hid' hl0;have HRB := hid' hrb;clear hrb ha0 hl0;go_wp2_with fail;refine (cnew13 w0).mono ?_;rintro _ w1 ⟨⟨d, K1, rfl, hd⟩, hb⟩;have HD1 := hid' hd;have HB1 := hid' hb;clear hd hb;go_wp2_with (refine wpl_alloc 34 rfl rfl #[.slice none 0 0, .int .i64 0] (by kernel_rfl) ?_);intro bx w2 hbx hax hb2;have HP : Hid (PD19 w2 w0.heap.size d bx K1 (.slice none 0 0) 0 []) := hid' ⟨HD1.out.keep hb2, ⟨Nat.le_trans HB1.out.size hbx, hax, World.ownsRow_nil _ _ _ _, List.Pairwise.nil, by simp⟩⟩;have HB := hid' (below_two HB1.out hb2);clear hbx hax hb2 HD1 HB1;go_wp2;go_loopw [6] (fun s6 wr => ∃ (i : Nat) (K : Nat → Prop) (r : Value) (q : Int) (es : List Dk.En), s6 = .int .i64 (i : Int) ∧ i ≤ n ∧ 0 ≤ q ∧ q ≤ (i : Int) ∧ Hid (∀ e ∈ es, EN19 e) ∧ Hid (PD19 wr w0.heap.size d bx K r q es) ∧ Hid (Below w0.heap.size w0 wr)) (fun s6 _ => n - (intOf s6).toNat)
 case atStart => exact ⟨0, _, _, _, _, rfl, Nat.zero_le _, by decide, by decide, hid' (fun e he => by cases he), HP, HB⟩
 case round =>
  clear HP HB;obtain ⟨i, K, r, q, es, rfl, hi, hq0, hq1, HE, HP, HB⟩ := hrel;by_cases hlt : i < n
  ·have hlt2 : (i : Int) < (n : Int) := by omega
   obtain ⟨e, he⟩ : ∃ e, l[i]? = some e := ⟨_, List.getElem?_eq_getElem (by rw [HN.out]; exact hlt)⟩;have hct2 := HS.out e (List.mem_of_getElem? he);have HPS := hid' hct2.1;have HBS := hid' hct2.2;obtain ⟨a, hao, hal, h3⟩ := H.out.at2 (below_two HB0.out HB.out) i e he;subst hao;obtain ⟨p, y, t, sq⟩ := e;simp only at HPS HBS;obtain ⟨c, esN, qN, ho⟩ := putOf13_ex es q p y t;obtain ⟨henN, hqN0, hqN1⟩ := put_en19 ho HP.out.cd.ok.1 HE.out hq0 (by omega);have HO := hid' ho;have HEN := hid' henN;have HAL : Hid ((a.add (i * 4)).block < w0.heap.size) := hid' (Nat.lt_of_lt_of_le hal HB0.out.size);have H3 := hid' h3;have HKB : Hid (∀ k, K k → w0.heap.size ≤ k) := hid' (fun k hk => (HP.out.cd.lt k hk).1);have hS : wr.drew.cell? (a.add (i * 4)) = some (.string p) ∧ wr.drew.cell? ⟨(a.add (i * 4)).block, (a.add (i * 4)).off + 1, none⟩ = some (.string y) ∧ wr.drew.cell? ⟨(a.add (i * 4)).block, (a.add (i * 4)).off + 2, none⟩ = some (.int .i64 t) := h3;have HPd := hid' (HP.out.keep (below_dn wr 1));have HBd : Hid (Below w0.heap.size w0 wr.drew) := hid' HB.out.drew;clear he hct2 hal h3 ho henN;go_upto_region 6 with fail;go_region_held3 (fun W => W.cell? (a.add (i * 4)) = some (.string p) ∧ W.cell? ⟨(a.add (i * 4)).block, (a.add (i * 4)).off + 1, none⟩ = some (.string y) ∧ W.cell? ⟨(a.add (i * 4)).block, (a.add (i * 4)).off + 2, none⟩ = some (.int .i64 t)) (first | assumption) (first
    | (go_at_call 17; refine (cput13 HO.out _ d _ _ HPd.out.cd (by have := HPS.out; omega) (by have := HBS.out; omega) hq0 (by omega)).mono ?_; rintro e wA ⟨rfl, KN, hcd, hlf, hnew⟩; have h3a := e3_keep19 (e := ⟨p, y, t, 0⟩) hS hlf (fun hk => by have h1 := HKB.out _ hk; have h2 := HAL.out; omega) (Nat.lt_of_lt_of_le HAL.out HBd.out.size); have hSa : wA.cell? (a.add (i * 4)) = some (.string p) ∧ wA.cell? ⟨(a.add (i * 4)).block, (a.add (i * 4)).off + 1, none⟩ = some (.string y) ∧ wA.cell? ⟨(a.add (i * 4)).block, (a.add (i * 4)).off + 2, none⟩ = some (.int .i64 t) := h3a; have HCA := hid' hcd; have HFA := hid' hlf; have HSA := hid' hSa; clear hcd hlf hnew h3a))
   have HFA' : Hid (LF K wr wA) := hid' ((LF.of_below (S := K) (below_dn wr 1)).trans HFA.out (fun _ _ h => h));have hSb : wA.drew.cell? (a.add (i * 4)) = some (.string p) ∧ wA.drew.cell? ⟨(a.add (i * 4)).block, (a.add (i * 4)).off + 1, none⟩ = some (.string y) ∧ wA.drew.cell? ⟨(a.add (i * 4)).block, (a.add (i * 4)).off + 2, none⟩ = some (.int .i64 t) := HSA.out;have HRd : Hid (RD wA.drew w0.heap.size bx r q es) := hid' ((HP.out.rdOf HFA'.out).keep (below_dn wA 1));have HCd : Hid (CD wA.drew w0.heap.size d KN qN esN) := hid' (HCA.out.keep (below_dn wA 1));have HLd : Hid (LF K wr wA.drew) := hid' (HFA'.out.trans (LF.of_below (S := K) (below_dn wA 1)) (fun _ _ h => h));clear hS hSa HPd HBd;go_upto_region 7 with fail;go_region_held3 (fun W => W.cell? (a.add (i * 4)) = some (.string p) ∧ W.cell? ⟨(a.add (i * 4)).block, (a.add (i * 4)).off + 1, none⟩ = some (.string y) ∧ W.cell? ⟨(a.add (i * 4)).block, (a.add (i * 4)).off + 2, none⟩ = some (.int .i64 t)) (first | assumption) (first
    | (go_at_call 18; refine (dput HO.out _ bx _ _ HRd.out (by have := HPS.out; omega) hq0 (by omega)).mono ?_; rintro e wD ⟨rfl, rN, hrd, hlf, hnew⟩; have h3d := e3_keep19 (e := ⟨p, y, t, 0⟩) hSb hlf (fun hk => by have h1 := (HRd.out.rs _ hk).1; have h2 := HAL.out; omega) (Nat.lt_of_lt_of_le HAL.out HRd.out.lb); have hSd : wD.cell? (a.add (i * 4)) = some (.string p) ∧ wD.cell? ⟨(a.add (i * 4)).block, (a.add (i * 4)).off + 1, none⟩ = some (.string y) ∧ wD.cell? ⟨(a.add (i * 4)).block, (a.add (i * 4)).off + 2, none⟩ = some (.int .i64 t) := h3d; have HPN := hid' (HP.out.made HLd.out HCd.out hlf hrd); have HBN := hid' (HP.out.bl HB.out HLd.out hlf); clear hrd hlf hnew h3d))
   clear hSb hSd HRd HCd HLd HP HB;go_wp2;go_roundw
   case rel => exact ⟨i + 1, KN, rN, qN, esN, by go_num, by omega, hqN0, by omega, HEN, HPN, HBN⟩
   case measure => simp [intOf]; omega
  ·obtain rfl : i = n := by omega
   have hlt2 : ¬ (i : Int) < (i : Int) := by omega
   have HRX := hid' (HR0.out.keep HB.out);have HD := hid' HP.out.rd;have HC := hid' (cd_low19 HP.out.cd HB0.out.size);have HQ : Hid (0 ≤ q ∧ q ≤ 1048576) := hid' ⟨hq0, by omega⟩;have HBW := hid' (below_two HB0.out HB.out);obtain ⟨ro, rcp, hrv⟩ := down_shape HP.out.rd.row;obtain ⟨rn, hrn⟩ : ∃ rn, es.length = rn := ⟨_, rfl⟩;rw [hrn] at hrv;subst hrv;have x0 := HD.out.obj.cell 0 _ rfl;have x1 := HD.out.obj.cell 1 _ rfl;have HNB : Hid (bx ≠ rb) := hid' (by have h1 := HD.out.ge; have h2 := HR0.out.lt; omega);have HNK : Hid (∀ k, K k → k ≠ rb) := hid' (fun k hk => by have h1 := (HP.out.cd.lt k hk).1; have h2 := HR0.out.lt; omega);obtain ⟨KK, hKK⟩ : ∃ KK, K = KK := ⟨_, rfl⟩;rw [hKK] at HC HNK;clear hlt HP hKK hrn;go_upto_region 8 with fail;refine wp_region_held_drew (S := fun W => W.cell? ⟨bx, 0, none⟩ = some (.slice ro rn rcp) ∧ W.cell? ⟨bx, 1, none⟩ = some (.int .i64 q)) (by kernel_rfl) ⟨x0, x1⟩ (fun hHeld => ?_);refine take_d19 (i := 0) (d := some 55) (v := ?_) rfl rfl (by kernel_rfl) (by kernel_rfl) (by kernel_rfl) (fun _ _ _ h => h) (Or.inl ⟨by rfl, ?_⟩) (by assumption) ?_;rotate_left
   ·intro w hSw;go_simp
    try with_reducible rfl
   refine take_d19 (i := 1) (d := some 56) (v := ?_) rfl rfl (by kernel_rfl) (by kernel_rfl) (by kernel_rfl) (fun _ _ _ h => h) (Or.inl ⟨by rfl, ?_⟩) (by assumption) ?_;rotate_left
   ·intro w hSw
    (try dsimp only at hSw)
    obtain ⟨s0, s1⟩ := hSw;go_simp
    try with_reducible rfl
   refine take_d19 (i := 2) (d := some 2) (v := ?_) rfl rfl (by kernel_rfl) (by kernel_rfl) (by kernel_rfl) (fun _ _ _ h => h) (Or.inl ⟨by rfl, ?_⟩) (by assumption) ?_;rotate_left
   ·intro w hSw;go_simp
    try with_reducible rfl
   try simp only [Act.put, List.setIfInBounds_toArray, List.set_cons_zero, List.set_cons_succ]
   refine wpAnyH_ready (rs := [3]) (by kernel_rfl) (by simp) ?_;refine AllReadyH.cons rfl (fun K hK => ?_) AllReadyH.nil;refine step_store19 rfl 34 _ _ rfl rb #[.slice ro rn rcp, .int .i64 q] rfl rfl 34 _ (show Ar wr.drew rb _ _ from HRX.out) sizeDk19 rfl (by simp [Value.oneCell']) ?_;intro wf hawf huwf;refine hK.out _ _ ⟨(World.cell?_of_block (a := ⟨bx, 0, none⟩) (huwf.block bx HNB.out)).trans hHeld.1, (World.cell?_of_block (a := ⟨bx, 1, none⟩) (huwf.block bx HNB.out)).trans hHeld.2⟩ (fun _ => ?_);clear hK
   try simp only [Act.put]
   refine wpAnyH_done (by kernel_rfl) ?_ _;have HWF := hid' hawf;have HCF : Hid (CD wf w.heap.size d KK q es) := hid' ((HC.out.keep (below_dn wr 1)).other (LF.of_upd (S := fun k => k = rb) huwf rfl) (fun k hk e => HNK.out k hk e));have HBF : Hid (Below w.heap.size w wf) := hid' (((HBW.out.drew)).trans (huwf.below HRB.out));clear hawf huwf hHeld x0 x1;go_wp2_with fail;have hld := ldDk19 HWF.out;exact bodyPost_ret (v := .tuple #[.pointer (some ⟨d, 0, none⟩), .agg #[.slice ro rn rcp, .int .i64 q]]) (by simp [results, Tryz.results7, asAddr, hld]) rfl ⟨bp19 HCF.out HE.out HQ.out.1 HQ.out.2, HBF.out⟩


def sC17 (l : List (List UInt8)) : List Value := l.map fun x => .string ⟨x.toArray⟩
theorem sC17_app (a b : List (List UInt8)) : sC17 (a ++ b) = sC17 a ++ sC17 b := by unfold sC17; rw [List.map_append]
theorem own_str17 {w : World} {B : Nat} {e : TypeId} {ao : Option Addr} {n m cap : Nat} {l : List (List UInt8)} (h : w.ownsRow B e 1 (.slice ao n cap) m (sC17 l)) (i : Nat) (p : List UInt8) (hp : l[i]? = some p) : ∃ g, ao = some ⟨g, 0, none⟩ ∧ w.cell? ⟨g, i, none⟩ = some (.string ⟨p.toArray⟩) := by
 have hx : (sC17 l)[i]? = some (.string ⟨p.toArray⟩) := by unfold sC17; rw [List.getElem?_map, hp]; rfl
 have hlt := (List.getElem?_eq_some_iff.1 hx).1;rcases h.2 with ⟨_, h0⟩ | ⟨g, cap', cur, h1, h2⟩
 ·rw [h.1, h0] at hlt; omega
 ·injection h1 with h1 h3 h4;subst h1;have := h.cells (g := g) rfl i _ hx;rw [Addr.add_mid, Nat.zero_add] at this;exact ⟨g, rfl, this⟩
def SR17 (w : World) (ao : Option Addr) (l : List (List UInt8)) : Prop := ∀ i p, l[i]? = some p → ∃ g, ao = some ⟨g, 0, none⟩ ∧ g < w.heap.size ∧ w.cell? ⟨g, i, none⟩ = some (.string ⟨p.toArray⟩)
theorem SR17.own {w : World} {B : Nat} {e : TypeId} {ao : Option Addr} {n m cap : Nat} {l : List (List UInt8)} (h : w.ownsRow B e 1 (.slice ao n cap) m (sC17 l)) : SR17 w ao l := fun i p hp => by
 obtain ⟨g, rfl, h1⟩ := own_str17 h i p hp;exact ⟨g, rfl, own_lt h g rfl, h1⟩
theorem SR17.below {w w' : World} {ao : Option Addr} {l : List (List UInt8)} (h : SR17 w ao l) (hb : Below w.heap.size w w') : SR17 w' ao l := fun i p hp => by
 obtain ⟨g, h1, h2, h3⟩ := h i p hp;exact ⟨g, h1, Nat.lt_of_lt_of_le h2 hb.size, (hb.cell (p := ⟨g, i, none⟩) h2).trans h3⟩
namespace Pt
theorem cutS_len (l : T8) : (cutS [] l).length ≤ l.length + 1 := by
 have key : ∀ (r cur : T8), (cutS cur r).length ≤ r.length + 1 := by
  intro r
  induction r with
  | nil => intro cur; simp [cutS]
  | cons c r ih =>
   intro cur;rw [cutS];split
   ·have := ih []; simp; omega
   ·have := ih (cur ++ [c]); simp; omega
 exact key l []
theorem cutS_size (l : T8) : ∀ p ∈ cutS [] l, p.length ≤ l.length := by
 have key : ∀ (r cur : T8), ∀ q ∈ cutS cur r, q.length ≤ cur.length + r.length := by
  intro r
  induction r with
  | nil => intro cur q hq; simp [cutS] at hq; subst hq; simp
  | cons c r ih =>
   intro cur q hq;rw [cutS] at hq;split at hq
   ·rcases List.mem_cons.1 hq with rfl | hq
    ·simp
    ·have := ih [] q hq; simp at this ⊢; omega
   ·have := ih _ q hq; simp at this ⊢; omega
 intro p hp;have := key l [] p hp;simpa using this
theorem cutS_sum (l : T8) : ((cutS [] l).map List.length).sum + (cutS [] l).length = l.length + 1 := by
 have key : ∀ (r cur : T8), ((cutS cur r).map List.length).sum + (cutS cur r).length = cur.length + r.length + 1 := by
  intro r
  induction r with
  | nil => intro cur; simp [cutS]
  | cons c r ih =>
   intro cur;rw [cutS];split
   ·have := ih [];simp only [List.map_cons, List.sum_cons, List.length_cons] at *;simp at this;omega
   ·have := ih (cur ++ [c]);simp only [List.length_append, List.length_cons, List.length_nil] at *;omega
 have := key l [];simpa using this
theorem join_len : ∀ (k : List T8), (join k).length ≤ (k.map List.length).sum + k.length := by
 intro k
 induction k with
 | nil => simp [join]
 | cons p k ih =>
  cases k with
  | nil => simp [join]
  | cons q k =>
   rw [join];simp only [List.length_append, List.length_cons, List.map_cons, List.sum_cons] at *;omega
end Pt


theorem own_base17 {w : World} {B B' : Nat} {e : TypeId} {s : Nat} {v : Value} {n : Nat} {xs : List Value} (h : w.ownsRow B e s v n xs) (hB : B' ≤ B) : w.ownsRow B' e s v n xs := by
 refine ⟨h.1, ?_⟩;rcases h.2 with h1 | ⟨g, cap, cur, h1, h2, h3⟩
 ·exact .inl h1
 ·exact .inr ⟨g, cap, cur, h1, Nat.le_trans hB h2, h3⟩
theorem own_cut17 {w : World} {B : Nat} {e : TypeId} {ao : Option Addr} {n cap : Nat} {l : List (List UInt8)} (h : w.ownsRow B e 1 (.slice ao (n + 1) cap) (n + 1) (sC17 l)) : w.ownsRow B e 1 (.slice ao n cap) n (sC17 l.dropLast) ∧ n + 1 ≤ cap ∧ cap ≤ maxLen ∧ ∃ g, ao = some ⟨g, 0, none⟩ := by
 have hl : l.length = n + 1 := by have := h.1; unfold sC17 at this; simpa using this
 rcases h.2 with ⟨_, h0⟩ | ⟨g, c, cur, h1, hB, hg, hn, hm, hs, ht⟩
 ·omega
 ·injection h1 with h1 _ h3;subst h1 h3;refine ⟨⟨by unfold sC17; simp [hl], .inr ⟨g, cap, cur, rfl, hB, hg, by omega, hm, hs, ?_⟩⟩, hn, hm, g, rfl⟩;rw [Nat.mul_one] at ht ⊢;have e1 : sC17 l.dropLast = (sC17 l).take n := by
   unfold sC17;rw [List.dropLast_eq_take, hl, ← List.map_take];rfl
  rw [e1, ← ht, List.take_take];congr 1;omega

end Go.Proofs.YthhpejgpfaikaabGreatDoor
