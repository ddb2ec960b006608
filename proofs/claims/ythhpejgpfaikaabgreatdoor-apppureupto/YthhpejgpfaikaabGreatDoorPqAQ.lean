/-
  What the row stands on.
-/
import Derived.Test.YthhpejgpfaikaabGreatDoorPqAO
import Derived.Test.YthhpejgpfaikaabGreatDoorPqAP
import Derived.Test.YthhpejgpfaikaabGreatDoorShelfP
import Derived.Test.YthhpejgpfaikaabGreatDoorPqAA
namespace Go.Proofs.YthhpejgpfaikaabGreatDoor
set_option maxHeartbeats 64000000
open Go.RowKit
open Go.ChangeMaps (setBlock heap_setBlock_same heap_setBlock_other)

def toEn (e : MapEntry) : Dk.En := match e.key, e.val with
 | .string k, .agg #[.string b, .int _ t, .int _ q] => ⟨k, b, t, q⟩
 | _, _ => en0
theorem toEn_of {e : MapEntry} {k : ByteArray} {p : Dk.En} (h1 : e.key = pk k) (h2 : e.val = fk p) (h3 : p.path = k) : toEn e = p := by
 unfold toEn;rw [h1, h2];subst h3;rfl
section
variable {T : TypeId} {w : World} {B b m : Nat} {q : Int} {es : List Dk.En} {E : Array MapEntry} {clock : Nat}
theorem CX.ent (h : CX T w B b m q es E clock) {e : MapEntry} (he : e ∈ E.toList) : e.key = .string (toEn e).path ∧ e.val = fk (toEn e) ∧ toEn e ∈ es := by
 obtain ⟨k, p, h1, h2, h3⟩ := h.mp.all e he;obtain ⟨h4, h5⟩ := (Dk.get_some h.ok).1 h3;have h6 : p.path = k := ba_ext h5;rw [toEn_of h1 h2 h6, h1, h2];subst h6;exact ⟨rfl, rfl, h4⟩
theorem CX.mem (h : CX T w B b m q es E clock) (p : Dk.En) : p ∈ E.toList.map toEn ↔ p ∈ es := by
 constructor
 ·intro hp;obtain ⟨e, he, rfl⟩ := List.mem_map.1 hp;exact (h.ent he).2.2
 ·intro hp;have hg : fg es p.path = some p := (Dk.get_some h.ok).2 ⟨hp, rfl⟩;obtain ⟨e, he, hk⟩ := h.mp.has p.path p hg;refine List.mem_map.2 ⟨e, he, ?_⟩;obtain ⟨x, hx, hv⟩ := h.mp.val ky he hk;rw [hg] at hx;injection hx with hx;subst hx;exact toEn_of hk hv rfl
theorem CX.nd (h : CX T w B b m q es E clock) : (E.toList.map toEn).Nodup := by
 unfold List.Nodup;rw [List.pairwise_map];refine h.mp.nd.imp_of_mem ?_;intro x y hx hy hne e;apply hne;rw [(h.ent hx).1, (h.ent hy).1, e]
theorem left_none {D : List MapEntry} (h0 : (leftOf E (D.map (·.born)).toArray).size = 0) (hnb : (E.toList.map (·.born)).Nodup) (hD : ∀ e ∈ D, e ∈ E.toList) : ∀ e ∈ E.toList, e ∈ D := by
 intro e he;have h1 : leftOf E (D.map (·.born)).toArray = #[] := Array.eq_empty_of_size_eq_zero h0;unfold leftOf at h1;rw [Array.filter_eq_empty_iff] at h1;have h2 := h1 e (by simpa using he);simp only [Bool.not_eq_true', Bool.not_eq_false] at h2;have h3 : e.born ∈ D.map (·.born) := by simpa using h2
 obtain ⟨d, hd, hb⟩ := List.mem_map.1 h3;have hde := hD d hd;have : d = e := by
  have h5 := find_born e E.toList hnb he;have h6 := find_born d E.toList hnb hde;rw [hb, h5] at h6;injection h6 with h6;exact h6.symm
 subst this;exact hd
end

structure LI (w wr : World) (r mb : Nat) (E : Array MapEntry) (clock : Nat) (pre : List UInt8) (D : List MapEntry) (m : Nat) (ro : Option Addr) (rc : Nat) : Prop where
 it : wr.heap[r]? = some (.mapIter (some mb) clock (D.map (·.born)).toArray clock)
 sub : ∀ e ∈ D, e ∈ E.toList
 nd : D.Nodup
 len : ((D.map toEn).filter (fun e => pre.isPrefixOf (Dk.key e))).length = m
 row : wr.ownsRow w.heap.size 68 4 (.slice ro m rc) m (enC ((D.map toEn).filter (fun e => pre.isPrefixOf (Dk.key e))))
 bl : Below w.heap.size w wr
theorem sub_len {α : Type} : ∀ {D L : List α}, D.Nodup → (∀ e ∈ D, e ∈ L) → D.length ≤ L.length
 | [], _, _, _ => Nat.zero_le _
 | d :: D, L, hn, hs => by
  obtain ⟨A, R, rfl⟩ := List.append_of_mem (hs d (by simp));have hn2 := List.nodup_cons.1 hn;have := sub_len (D := D) (L := A ++ R) hn2.2 (fun e he => by
   have h1 := hs e (by simp [he]);rcases List.mem_append.1 h1 with h2 | h2
   ·exact List.mem_append.2 (.inl h2)
   ·rcases List.mem_cons.1 h2 with h3 | h3
    ·subst h3; exact absurd he hn2.1
    ·exact List.mem_append.2 (.inr h3))
  simp at this ⊢;omega
theorem li_more {D : List MapEntry} {E : Array MapEntry} (hn : D.Nodup) (hs : ∀ e ∈ D, e ∈ E.toList) : D.length ≤ E.size := by
 have := sub_len hn hs;simpa using this
theorem lst_unique {T : TypeId} {w : World} {B b mb : Nat} {q : Int} {es : List Dk.En} {E : Array MapEntry} {clock : Nat} (h : CX T w B b mb q es E clock) {pre : List UInt8} {D : List MapEntry} (hn : D.Nodup) (hs : ∀ e ∈ D, e ∈ E.toList) (h0 : (leftOf E (D.map (·.born)).toArray).size = 0)
  {l' : List Dk.En} (hp : l'.Perm ((D.map toEn).filter (fun e => pre.isPrefixOf (Dk.key e)))) (ho : l'.Pairwise (fun a b => ¬ Dk.key b < Dk.key a)) : l' = Dk.lst pre es := by
 have hall := left_none h0 h.mp.nb hs;have hmem : ∀ p, p ∈ l' ↔ p ∈ Dk.lst pre es := by
  intro p;rw [hp.mem_iff];unfold Dk.lst;rw [List.mem_filter, List.mem_filter, ← h.mem p, List.mem_map, List.mem_map];constructor
  ·rintro ⟨⟨e, he, rfl⟩, h2⟩; exact ⟨⟨e, hs e he, rfl⟩, h2⟩
  ·rintro ⟨⟨e, he, rfl⟩, h2⟩; exact ⟨⟨e, hall e he, rfl⟩, h2⟩
 have hsub : ∀ p ∈ l', p ∈ es := fun p hp => (List.mem_filter.1 ((hmem p).1 hp)).1;have hnl : l'.Nodup := by
  refine hp.nodup_iff.2 (List.Pairwise.filter _ ?_);rw [List.pairwise_map];refine hn.imp_of_mem ?_;intro x y hx hy hne e;apply hne;have h1 := List.pairwise_map.1 h.nd;have hx2 := hs x hx;have hy2 := hs y hy;have hkey : x.key = y.key := by rw [(h.ent hx2).1, (h.ent hy2).1, e]
  obtain ⟨i, hi⟩ := List.getElem?_of_mem hx2;obtain ⟨j, hj⟩ := List.getElem?_of_mem hy2;have hpw := List.pairwise_iff_getElem.1 h.mp.nd;obtain ⟨i1, i2⟩ := List.getElem?_eq_some_iff.1 hi;obtain ⟨j1, j2⟩ := List.getElem?_eq_some_iff.1 hj;rcases Nat.lt_trichotomy i j with hij | hij | hij
  ·have := hpw i j i1 j1 hij;rw [i2, j2] at this;exact absurd hkey this
  ·subst hij;rw [← i2, ← j2]
  ·have := hpw j i j1 i1 hij;rw [i2, j2] at this;exact absurd hkey.symm this
 refine Dk.ok_unique ?_ (Dk.lst_ok h.ok pre) hmem;unfold Dk.Ok Dk.Rise Dk.ks;rw [List.pairwise_map];refine (List.pairwise_and_iff.2 ⟨ho, hnl⟩).imp_of_mem ?_;intro x y hx hy ⟨h1, h2⟩;rcases Dk.lt_tri (Dk.key x) (Dk.key y) with h3 | h3 | h3
 ·exact h3
 ·exfalso;apply h2;have e1 := (Dk.get_some h.ok).2 ⟨hsub x hx, rfl⟩;have e2 := (Dk.get_some h.ok).2 ⟨hsub y hy, h3.symm⟩;rw [e1] at e2;injection e2
 ·exact absurd h3 h1

structure LJ (w w2 : World) (r mb : Nat) (E : Array MapEntry) (clock : Nat) (D : List MapEntry) (m : Nat) (ro : Option Addr) (rc : Nat) (l : List Dk.En) : Prop where
 it : w2.heap[r]? = some (.mapIter (some mb) clock (D.map (·.born)).toArray clock)
 row : w2.ownsRow w.heap.size 68 4 (.slice ro m rc) m (enC l)
 bl : Below w.heap.size w w2
 mp : w2.heap[mb]? = some (.map E clock)
theorem LJ.keep {w w2 w3 : World} {r mb : Nat} {E : Array MapEntry} {clock : Nat} {D : List MapEntry} {m : Nat} {ro : Option Addr} {rc : Nat} {l : List Dk.En} (h : LJ w w2 r mb E clock D m ro rc l) (hb : Below w2.heap.size w2 w3) : LJ w w3 r mb E clock D m ro rc l :=
 ⟨(hb.block r (Array.getElem?_eq_some_iff.1 h.it).1).trans h.it, own_same h.row (fun k hk => hb.block k (own_lt h.row k hk)), below_from h.bl hb h.bl.size, (hb.block mb (Array.getElem?_eq_some_iff.1 h.mp).1).trans h.mp⟩
theorem li_next {w wr w1 : World} {r mb : Nat} {E : Array MapEntry} {clock : Nat} {pre : List UInt8} {D : List MapEntry} {m : Nat} {ro : Option Addr} {rc : Nat} (h : LI w wr r mb E clock pre D m ro rc) (hr : w.heap.size = r) (hm : wr.heap[mb]? = some (.map E clock)) (hw : w1 = wr ∨ w1 = wr.drew) (e : MapEntry) :
  LJ w (setBlock w1 r (.mapIter (some mb) clock ((D.map (·.born)).toArray.push e.born) clock)) r mb E clock (D ++ [e]) m ro rc ((D.map toEn).filter (fun e => pre.isPrefixOf (Dk.key e))) := by
 have e1 : w1.heap = wr.heap := by rcases hw with rfl | rfl <;> rfl
 have e2 : w1.os = wr.os ∧ w1.tape = wr.tape ∧ w1.output = wr.output := by rcases hw with rfl | rfl <;> exact ⟨rfl, rfl, rfl⟩
 have hrl : r < wr.heap.size := (Array.getElem?_eq_some_iff.1 h.it).1;have hother : ∀ k, k ≠ r → (setBlock w1 r (.mapIter (some mb) clock ((D.map (·.born)).toArray.push e.born) clock)).heap[k]? = wr.heap[k]? := fun k hk => by
  simp only [setBlock];rw [Array.getElem?_setIfInBounds_ne (fun e => hk e.symm), e1]
 refine ⟨?_, own_same h.row (fun k hk => hother k ?_), ?_, (hother mb ?_).trans hm⟩
 ·simp only [setBlock];rw [Array.getElem?_setIfInBounds_self_of_lt (by rw [e1]; exact hrl)];simp
 ·rintro rfl;obtain ⟨_, cs, h1⟩ := own_ty h.row k hk;rw [h.it] at h1;cases h1
 ·refine ⟨e2.1.trans h.bl.os, e2.2.1.trans h.bl.tape, e2.2.2.trans h.bl.output, by simp only [setBlock, Array.size_setIfInBounds]; rw [e1]; exact h.bl.size, fun k hk => ?_⟩;rw [hother k (by omega)];exact h.bl.block k hk
 ·rintro rfl;rw [h.it] at hm;cases hm
theorem fil_one (D : List MapEntry) (e : MapEntry) (pre : List UInt8) (d : Bool) (hd : pre.isPrefixOf (Dk.key (toEn e)) = d) : ((D ++ [e]).map toEn).filter (fun e => pre.isPrefixOf (Dk.key e)) = (D.map toEn).filter (fun e => pre.isPrefixOf (Dk.key e)) ++ (if d = true then [toEn e] else []) := by
 rw [List.map_append, List.filter_append];congr 1;simp only [List.map_cons, List.map_nil, List.filter_cons, List.filter_nil, hd]
theorem LJ.more {w w2 : World} {r mb : Nat} {E : Array MapEntry} {clock : Nat} {D : List MapEntry} {m m' : Nat} {ro : Option Addr} {rc : Nat} {l : List Dk.En} {e : MapEntry} {pre : List UInt8} (h : LJ w w2 r mb E clock (D ++ [e]) m ro rc l) (h1 : ∀ x ∈ D, x ∈ E.toList) (h2 : D.Nodup) (he : e ∈ E.toList) (hn : e ∉ D) (hl : ((D ++ [e]).map toEn).filter (fun e => pre.isPrefixOf (Dk.key e)) = l) (hm : l.length = m') (hmm : m = m') : LI w w2 r mb E clock pre (D ++ [e]) m ro rc := by
 subst hmm;refine ⟨h.it, ?_, ?_, by rw [hl]; exact hm, by rw [hl]; exact h.row, h.bl⟩
 ·intro x hx;rcases List.mem_append.1 hx with hx | hx
  ·exact h1 x hx
  ·rw [List.mem_singleton.1 hx]; exact he
 ·refine List.nodup_append.2 ⟨h2, by simp, ?_⟩;intro a ha b hb e';rw [List.mem_singleton.1 hb] at e';subst e';exact hn ha
theorem seen_of {w : World} {r mb clock : Nat} {s : Array Nat} (h : w.heap[r]? = some (.mapIter (some mb) clock s clock)) : w.iterSeen r = s := by
 unfold World.iterSeen;rw [h]
theorem left_less {E : Array MapEntry} {D : List MapEntry} {e : MapEntry} {w w2 : World} {r mb clock : Nat} (h1 : w.heap[r]? = some (.mapIter (some mb) clock (D.map (·.born)).toArray clock)) (h2 : w2.heap[r]? = some (.mapIter (some mb) clock ((D ++ [e]).map (·.born)).toArray clock)) (he : e ∈ (leftOf E (D.map (·.born)).toArray).toList) : (leftOf E (w2.iterSeen r)).size < (leftOf E (w.iterSeen r)).size := by
 rw [seen_of h1, seen_of h2];have := left_shrinks E _ e he;simpa using this

set_option maxRecDepth 20000 in
theorem slist13 (B s : Nat) (K : Nat → Prop) (q : Int) (es : List Dk.En) (x : ByteArray) (w : World) (h : CS w B s K q es) (_hx : x.size ≤ 140737488355328) : Calls Tryz.prog 144 #[.pointer (some ⟨s, 0, none⟩), .string x] w fun e w' => (∃ m ro rc, e = .returned (.slice ro m rc) ∧ (Dk.lst x.data.toList es).length = m ∧ w'.ownsRow w.heap.size 68 4 (.slice ro m rc) m (enC (Dk.lst x.data.toList es))) ∧ Below w.heap.size w w' := by
 obtain ⟨mb, E, clock, h, _⟩ := h;have H := hid' h;have c0 := h.hd.cell 0 _ rfl;have hrg := run_range_map (P := Tryz.prog) w 70 _ _ mb E clock utm h.mp.hd;clear h;go_enter Tryz.func144, Tryz.ntmps144;obtain ⟨i0, hi0, hz0, hz1, hz2⟩ := dinfo_parts dinfoE;have HI := hid' hi0;have HZ0 := hid' hz0;have HZ1 := hid' hz1;have HZ2 := hid' hz2;clear hi0 hz0 hz1 hz2;go_upto_region 5 with fail;have HL0 : Hid (LI w (w.alloc (.mapIter (some mb) clock #[] clock)) w.heap.size mb E clock x.data.toList [] 0 none 0) := hid' ⟨heap_alloc_new _ _, (fun e he => by simp at he), List.Pairwise.nil, rfl, World.ownsRow_nil _ _ _ _, (Below.refl _ _).alloc (Nat.le_refl _) _⟩;obtain ⟨r, hr⟩ : ∃ r, w.heap.size = r := ⟨_, rfl⟩;rw [hr] at HL0 ⊢;have HR := hid' hr;generalize w.alloc (.mapIter (some mb) clock #[] clock) = w0 at *;clear hr hrg c0;go_loopw [5] (fun s5 wr => ∃ (D : List MapEntry) (m : Nat) (ro : Option Addr) (rc : Nat), s5 = .slice ro m rc ∧ Hid (LI w wr r mb E clock x.data.toList D m ro rc)) (fun _ wr => (leftOf E (wr.iterSeen r)).size)
 case atStart => exact ⟨[], 0, none, 0, rfl, HL0⟩
 case round =>
  clear HL0;obtain ⟨D, m, ro, rc, rfl, HLI⟩ := hrel;have HC := hid' (H.out.keep HLI.out.bl);have hnx := run_next_at (P := Tryz.prog) wr 0 r mb clock clock _ E clock HLI.out.it HC.out.mp.hd HC.out.mp.st (Nat.le_refl _);rcases hnx with ⟨h0, hnx⟩ | ⟨e, hel, w1, hw1, hnx⟩
  ·have H0 := hid' h0;clear h0;have HM : Hid (m ≤ 1048576) := hid' (by
    have h1 := HLI.out.len;have h2 := List.length_filter_le (fun e => x.data.toList.isPrefixOf (Dk.key e)) (D.map toEn);have h3 := li_more HLI.out.nd HLI.out.sub;have h4 := HC.out.mp.sz;have h5 := HC.out.le;rw [List.length_map] at h2;omega)
   go_wp2_with fail;refine (csort13 w.heap.size m rc ro _ HLI.out.len wr HLI.out.row HM.out).mono ?_;rintro e w2 ⟨rfl, ⟨l', hpm, hso, hrow⟩, hlf⟩;obtain rfl := lst_unique HC.out HLI.out.nd HLI.out.sub H0.out hpm hso;have HPM := hid' hpm.length_eq;have HRO := hid' hrow;have HBL : Hid (Below w.heap.size w w2) := hid' (HLI.out.bl.trans (hlf.below HLI.out.bl.size (fun k hk => (own_ty HLI.out.row k hk).1)));clear hpm hso hrow hlf hnx;go_wp2;go_ret;exact ⟨⟨m, ro, rc, rfl, HPM.out.trans HLI.out.len, HRO.out⟩, HBL.out⟩
  ·have hmn : e ∈ E.toList ∧ e ∉ D := by
    unfold leftOf at hel;have h1 : e ∈ (E.filter fun e => !((D.map (·.born)).toArray.contains e.born)) := by simpa using hel
    obtain ⟨h4, h2⟩ := Array.mem_filter.1 h1;refine ⟨by simpa using h4, fun hd => ?_⟩;have h3 : e.born ∈ D.map (·.born) := List.mem_map.2 ⟨e, hd, rfl⟩;simp only [Bool.not_eq_true'] at h2;rw [← Bool.not_eq_true] at h2;apply h2;simpa using h3
   have HMN := hid' hmn;have HEL := hid' hel;have HLJ := hid' (li_next HLI.out HR.out HC.out.mp.hd hw1 e);obtain ⟨h3, h4, h5⟩ := HC.out.ent hmn.1;have hent := run_entry_at (P := Tryz.prog) _ r mb clock (D.map (·.born)).toArray E clock e (by have := HLJ.out.it; simpa using this) HLJ.out.mp hmn.1 HC.out.mp.nb;generalize setBlock w1 r (.mapIter (some mb) clock ((D.map (·.born)).toArray.push e.born) clock) = w2 at *;rw [h3, h4] at hnx hent;obtain ⟨d, hd⟩ : ∃ d, x.data.toList.isPrefixOf (Dk.key (toEn e)) = d := ⟨_, rfl⟩;have HFL := hid' (fil_one D e x.data.toList d hd);have HPX : Hid (∀ W, Calls Tryz.prog 51 #[.string (toEn e).path, .string x] W fun e w' => e = .returned (.bool d) ∧ w' = W) := hid' (fun W => by have := Tryz.strings_HasPrefix (toEn e).path x W; unfold Lib.hasPrefix at this; rw [show (toEn e).path.data.toList = Dk.key (toEn e) from rfl, hd] at this; exact this);obtain ⟨p, hp⟩ : ∃ p, toEn e = p := ⟨_, rfl⟩;rw [hp] at hnx hent HPX HFL;simp only [fk] at hnx hent;have HM : Hid (m ≤ 1048576) := hid' (by
    have h1 := HLI.out.len;have h2 := List.length_filter_le (fun e => x.data.toList.isPrefixOf (Dk.key e)) (D.map toEn);have h3 := li_more HLI.out.nd HLI.out.sub;have h4 := HC.out.mp.sz;have h5 := HC.out.le;rw [List.length_map] at h2;omega)
   clear hmn hel hw1 h3 h4 h5 hd hp;go_wp2_with fail;have HB3 : Hid (Below w2.heap.size w2 (w2.alloc (.cells #[.string p.body, .int .i64 p.time, .int .i64 p.seq] 66))) := hid' ((Below.refl _ _).alloc (Nat.le_refl _) _);have HA3 : Hid (Ar (w2.alloc (.cells #[.string p.body, .int .i64 p.time, .int .i64 p.seq] 66)) w2.heap.size 66 #[.string p.body, .int .i64 p.time, .int .i64 p.seq]) := hid' (heap_alloc_last w2 _);have HLK := hid' (HLJ.out.keep HB3.out);obtain ⟨fb, hfb⟩ : ∃ fb, w2.heap.size = fb := ⟨_, rfl⟩;rw [hfb] at HA3 ⊢;generalize w2.alloc (.cells #[.string p.body, .int .i64 p.time, .int .i64 p.seq] 66) = w3 at *;refine (HPX.out w3).mono ?_;rintro e' w3' ⟨rfl, hw3⟩;subst w3';clear hnx hent hfb HB3 HLJ HPX;cases d
   ·simp only [Bool.false_eq_true, if_false, List.append_nil] at HFL;go_wp2;go_roundw
    case rel => exact ⟨D ++ [e], m, ro, rc, rfl, hid' (HLK.out.more HLI.out.sub HLI.out.nd HMN.out.1 HMN.out.2 HFL.out HLI.out.len rfl)⟩
    case measure => exact left_less HLI.out.it HLK.out.it HEL.out
   ·simp only [if_true] at HFL;have hld := dldF HA3.out;have p0 := HA3.out.cell 0 _ rfl;have p1 := HA3.out.cell 1 _ rfl;have p2 := HA3.out.cell 2 _ rfl;have HBA : Hid (Below w3.heap.size w3 (w3.alloc (.cells #[.string p.path, .string p.body, .int .i64 p.time, .int .i64 p.seq] 68))) := hid' ((Below.refl _ _).alloc (Nat.le_refl _) _);have HLA := hid' (HLK.out.keep HBA.out);go_wp2_with (at_builtin; refine wpList_append_own_at _ rfl _ _ 22 rfl w.heap.size 68 i0 (.agg #[.string ⟨#[]⟩, .string ⟨#[]⟩, .int .i64 0, .int .i64 0]) 4 48 Tryz.underlying22 HI.out HZ0.out HZ1.out HZ2.out rfl (by decide) (.slice ro m rc) m _ rfl HLA.out.row ⟨w3.heap.size, 0, none⟩ 1 1 [.string p.path, .string p.body, .int .i64 p.time, .int .i64 p.seq] rfl rfl (four_new _ _ _ _ _ _) (by simp [Value.oneCell']) (by have := HM.out; unfold maxLen; omega) (by have := HM.out; omega) (by simp; have := HLK.out.bl.size; omega) ?_; intro v4 w4 hown4 hgrow4 _ _; refine Hid.out ?_);refine hid' ?_;obtain ⟨v4o, v4c, hv4⟩ := down_shape hown4;subst hv4;have hit : w4.heap[r]? = some (.mapIter (some mb) clock ((D ++ [e]).map (·.born)).toArray clock) := by
     rw [hgrow4.block r (Array.getElem?_eq_some_iff.1 HLA.out.it).1 (fun e' => by
      obtain ⟨_, cs, h1⟩ := own_ty HLA.out.row r e'.symm;rw [HLA.out.it] at h1;cases h1)]
     exact HLA.out.it
    have hmp : w4.heap[mb]? = some (.map E clock) := by
     rw [hgrow4.block mb (Array.getElem?_eq_some_iff.1 HLA.out.mp).1 (fun e' => by
      obtain ⟨_, cs, h1⟩ := own_ty HLA.out.row mb e'.symm;rw [HLA.out.mp] at h1;cases h1)]
     exact HLA.out.mp
    have hbl : Below w.heap.size w w4 := HLA.out.bl.grown hgrow4 HLA.out.bl.size (fun k hk => (own_ty HLA.out.row k hk).1);have e5 : ∀ l : List Dk.En, enC l ++ [Value.string p.path, .string p.body, .int .i64 p.time, .int .i64 p.seq] = enC (l ++ [p]) := fun l => by rw [enC_append, enC_cons]; simp [enV, enC]
    rw [e5] at hown4;have HL4 : Hid (LJ w w4 r mb E clock (D ++ [e]) (m + 1) v4o v4c _) := hid' ⟨hit, hown4, hbl, hmp⟩;clear hown4 hgrow4 e5 hit hmp hbl p0 p1 p2 hld HBA;go_wp2;go_roundw
    case rel => exact ⟨D ++ [e], m + 1, v4o, v4c, rfl, hid' (HL4.out.more HLI.out.sub HLI.out.nd HMN.out.1 HMN.out.2 HFL.out (by rw [List.length_append, HLI.out.len]; rfl) rfl)⟩
    case measure => exact left_less HLI.out.it HL4.out.it HEL.out


theorem CD.keep {w w' : World} {B b : Nat} {K : Nat → Prop} {q : Int} {es : List Dk.En} (h : CD w B b K q es) (hb : Below w.heap.size w w') : CD w' B b K q es :=
 h.other (LF.of_below (S := fun _ => False) hb) (fun _ _ => id)
theorem CS.keep {w w' : World} {B b : Nat} {K : Nat → Prop} {q : Int} {es : List Dk.En} (h : CS w B b K q es) (hb : Below w.heap.size w w') : CS w' B b K q es :=
 h.other (LF.of_below (S := fun _ => False) hb) (fun _ _ => id)
theorem CD.bl {w0 w w' : World} {B b : Nat} {K : Nat → Prop} {q : Int} {es : List Dk.En} (h : CD w B b K q es) (hb : Below B w0 w) (hf : LF K w w') : Below B w0 w' := hb.trans (hf.below h.lb (fun k hk => (h.lt k hk).1))

def e1 : Dk.En := ⟨⟨#[47, 98]⟩, ⟨#[120]⟩, 7, 1⟩
def e2 : Dk.En := ⟨⟨#[47, 98]⟩, ⟨#[122]⟩, 9, 2⟩


namespace Fs
def kgo (p : T8) (i : Nat) : T8 := (((kinds.drop i).find? (fun k => Lib.hasSuffix p k.1)).map (·.2)).getD vOC
theorem kgo_0 (p : T8) : kgo p 0 = kind p := rfl
theorem kgo_end (p : T8) : kgo p 6 = vOC := rfl
theorem kgo_yes (p : T8) (i : Nat) (k : T8 × T8) (h : kinds[i]? = some k) (hs : Lib.hasSuffix p k.1 = true) : kgo p i = k.2 := by
 unfold kgo;obtain ⟨hl, h⟩ := List.getElem?_eq_some_iff.1 h;rw [List.drop_eq_getElem_cons hl, h, List.find?_cons, hs];rfl
theorem kgo_no (p : T8) (i : Nat) (k : T8 × T8) (h : kinds[i]? = some k) (hs : Lib.hasSuffix p k.1 = false) : kgo p (i + 1) = kgo p i := by
 unfold kgo;obtain ⟨hl, h⟩ := List.getElem?_eq_some_iff.1 h;rw [List.drop_eq_getElem_cons hl, h, List.find?_cons, hs]
def kdC : Array Value := #[
 .string ⟨#[46, 104, 116, 109, 108]⟩, .string ⟨#[116, 101, 120, 116, 47, 104, 116, 109, 108]⟩,
 .string ⟨#[46, 116, 120, 116]⟩, .string ⟨#[116, 101, 120, 116, 47, 112, 108, 97, 105, 110]⟩,
 .string ⟨#[46, 99, 115, 115]⟩, .string ⟨#[116, 101, 120, 116, 47, 99, 115, 115]⟩,
 .string ⟨#[46, 106, 115]⟩, .string ⟨#[116, 101, 120, 116, 47, 106, 97, 118, 97, 115, 99, 114, 105, 112, 116]⟩,
 .string ⟨#[46, 106, 115, 111, 110]⟩, .string ⟨#[97, 112, 112, 108, 105, 99, 97, 116, 105, 111, 110, 47, 106, 115, 111, 110]⟩,
 .string ⟨#[46, 112, 110, 103]⟩, .string ⟨#[105, 109, 97, 103, 101, 47, 112, 110, 103]⟩]
theorem kd_at (i : Nat) (h : i < 6) : ∃ k : T8 × T8, kinds[i]? = some k ∧ k.1.length ≤ 5 ∧ kdC.extract (i * 2) (i * 2 + 2) = #[.string ⟨k.1.toArray⟩, .string ⟨k.2.toArray⟩] := by
 have : i = 0 ∨ i = 1 ∨ i = 2 ∨ i = 3 ∨ i = 4 ∨ i = 5 := by omega
 rcases this with rfl | rfl | rfl | rfl | rfl | rfl <;> exact ⟨_, rfl, by decide, rfl⟩
theorem kind_le (p : T8) : (kind p).length ≤ 24 := by
 have h : ∀ i, i ≤ 6 → (kgo p (6 - i)).length ≤ 24 := by
  intro i
  induction i with
  | zero => intro _; rw [show 6 - 0 = 6 from rfl, kgo_end]; decide
  | succ i ih =>
   intro hi;have ih := ih (by omega);have hk : ∃ k : T8 × T8, kinds[6 - (i + 1)]? = some k ∧ k.2.length ≤ 24 := by
    have : i = 0 ∨ i = 1 ∨ i = 2 ∨ i = 3 ∨ i = 4 ∨ i = 5 := by omega
    rcases this with rfl | rfl | rfl | rfl | rfl | rfl <;> exact ⟨_, rfl, by decide⟩
   obtain ⟨k, hk, hl⟩ := hk;cases hs : Lib.hasSuffix p k.1
   ·rw [← kgo_no p _ k hk hs, show 6 - (i + 1) + 1 = 6 - i by omega]; exact ih
   ·rw [kgo_yes p _ k hk hs]; exact hl
 exact h 6 (Nat.le_refl _)
end Fs
theorem index_kd19 (i : Nat) (k : Fs.T8 × Fs.T8) (hi : i < 6) (hk : Fs.kdC.extract (i * 2) (i * 2 + 2) = #[.string ⟨k.1.toArray⟩, .string ⟨k.2.toArray⟩]) (c : Array Value) (hc : c = Fs.kdC) (w : World) : (Instr.index 262 (.agg c) (.int .i64 (i : Int))).run Tryz.prog w = .ok (.agg #[.string ⟨k.1.toArray⟩, .string ⟨k.2.toArray⟩]) w := by
 subst hc;simp [Instr.index, asIntOf, run_underlying Tryz.underlying262, hi, part, hk]
theorem sizeKd19 : (Tryz.prog.info? 262).map (·.size) = some 12 := by kernel_rfl

set_option maxRecDepth 20000 in
theorem ckind19 (p : ByteArray) (l : Fs.T8) (hp : p.data.toList = l) (hs : p.size ≤ 140737488355328) (w : World) :
  Calls Tryz.prog 160 #[.string p] w fun e w' => e = .returned (.string ⟨(Fs.kind l).toArray⟩) ∧ Below w.heap.size w w' := by
 have HS : Hid (∀ (k : Fs.T8 × Fs.T8) (b : Bool), Lib.hasSuffix l k.1 = b → ∀ W, Calls Tryz.prog 81 #[.string p, .string ⟨k.1.toArray⟩] W fun e w' => e = .returned (.bool b) ∧ w' = W) := hid' (fun k b hb W => by
  have := Tryz.strings_HasSuffix p ⟨k.1.toArray⟩ W (by omega);rw [hp, show (⟨k.1.toArray⟩ : ByteArray).data.toList = k.1 from rfl, hb] at this;exact this)
 clear hp hs;go_enter Tryz.func160, Tryz.ntmps160;go_upto_region 2 with fail;have HX : Hid (Ar (w.alloc (.cells #[.string ⟨#[46, 104, 116, 109, 108]⟩, .string ⟨#[116, 101, 120, 116, 47, 104, 116, 109, 108]⟩, .string ⟨#[46, 116, 120, 116]⟩, .string ⟨#[116, 101, 120, 116, 47, 112, 108, 97, 105, 110]⟩, .string ⟨#[46, 99, 115, 115]⟩, .string ⟨#[116, 101, 120, 116, 47, 99, 115, 115]⟩, .string ⟨#[46, 106, 115]⟩, .string ⟨#[116, 101, 120, 116, 47, 106, 97, 118, 97, 115, 99, 114, 105, 112, 116]⟩, .string ⟨#[46, 106, 115, 111, 110]⟩, .string ⟨#[97, 112, 112, 108, 105, 99, 97, 116, 105, 111, 110, 47, 106, 115, 111, 110]⟩, .string ⟨#[46, 112, 110, 103]⟩, .string ⟨#[105, 109, 97, 103, 101, 47, 112, 110, 103]⟩] 262)) w.heap.size 262 Fs.kdC) := hid' (heap_alloc_last w _);have HB := hid' (bl_alloc19 w (.cells #[.string ⟨#[46, 104, 116, 109, 108]⟩, .string ⟨#[116, 101, 120, 116, 47, 104, 116, 109, 108]⟩, .string ⟨#[46, 116, 120, 116]⟩, .string ⟨#[116, 101, 120, 116, 47, 112, 108, 97, 105, 110]⟩, .string ⟨#[46, 99, 115, 115]⟩, .string ⟨#[116, 101, 120, 116, 47, 99, 115, 115]⟩, .string ⟨#[46, 106, 115]⟩, .string ⟨#[116, 101, 120, 116, 47, 106, 97, 118, 97, 115, 99, 114, 105, 112, 116]⟩, .string ⟨#[46, 106, 115, 111, 110]⟩, .string ⟨#[97, 112, 112, 108, 105, 99, 97, 116, 105, 111, 110, 47, 106, 115, 111, 110]⟩, .string ⟨#[46, 112, 110, 103]⟩, .string ⟨#[105, 109, 97, 103, 101, 47, 112, 110, 103]⟩] 262));obtain ⟨xb, hxb⟩ : ∃ xb, w.heap.size = xb := ⟨_, rfl⟩;rw [hxb] at HX ⊢;generalize w.alloc (.cells #[.string ⟨#[46, 104, 116, 109, 108]⟩, .string ⟨#[116, 101, 120, 116, 47, 104, 116, 109, 108]⟩, .string ⟨#[46, 116, 120, 116]⟩, .string ⟨#[116, 101, 120, 116, 47, 112, 108, 97, 105, 110]⟩, .string ⟨#[46, 99, 115, 115]⟩, .string ⟨#[116, 101, 120, 116, 47, 99, 115, 115]⟩, .string ⟨#[46, 106, 115]⟩, .string ⟨#[116, 101, 120, 116, 47, 106, 97, 118, 97, 115, 99, 114, 105, 112, 116]⟩, .string ⟨#[46, 106, 115, 111, 110]⟩, .string ⟨#[97, 112, 112, 108, 105, 99, 97, 116, 105, 111, 110, 47, 106, 115, 111, 110]⟩, .string ⟨#[46, 112, 110, 103]⟩, .string ⟨#[105, 109, 97, 103, 101, 47, 112, 110, 103]⟩] 262) = w1 at *;clear hxb;obtain ⟨c, hc⟩ : ∃ c, c = Fs.kdC := ⟨_, rfl⟩;rw [← hc] at HX;have HC := hid' hc;clear hc;go_wp2_with (refine wpl_load 262 _ rfl rfl xb (by kernel_rfl) _ _ HX.out _ Tryz.underlying262 rfl (by rw [HC.out]; exact sizeKd19) ?_);go_loopw [14] (fun s14 wr => ∃ i : Nat, s14 = .int .i64 (i : Int) ∧ i ≤ 6 ∧ Hid (Fs.kgo l i = Fs.kind l) ∧ Hid (Below w.heap.size w wr)) (fun s14 _ => 6 - (intOf s14).toNat)
 case atStart => exact ⟨0, rfl, by omega, hid' (Fs.kgo_0 l), HB⟩
 case round =>
  clear HB;obtain ⟨i, rfl, hi, HI, HB⟩ := hrel;by_cases hlt : i < 6
  ·have hlt2 : (i : Int) < 6 := by omega
   obtain ⟨k, hk, hkl, hkx⟩ := Fs.kd_at i hlt;have HK := hid' hk;have hix := fun W => index_kd19 i k hlt hkx c HC.out W;obtain ⟨b, hb⟩ : ∃ b, Lib.hasSuffix l k.1 = b := ⟨_, rfl⟩;have HSK := hid' (HS.out k b hb);have HBV := hid' hb;have HW : Hid (Ar (wr.alloc (.cells #[.string ⟨k.1.toArray⟩, .string ⟨k.2.toArray⟩] 261)) wr.heap.size 261 #[.string ⟨k.1.toArray⟩, .string ⟨k.2.toArray⟩]) := hid' (heap_alloc_last wr _);have HBW := hid' (below_two HB.out (bl_alloc19 wr (.cells #[.string ⟨k.1.toArray⟩, .string ⟨k.2.toArray⟩] 261)));clear hk hkl hkx hb HB;go_upto_region 5 with fail;obtain ⟨sb, hsb⟩ : ∃ sb, wr.heap.size = sb := ⟨_, rfl⟩;rw [hsb] at HW ⊢;generalize wr.alloc (.cells #[.string ⟨k.1.toArray⟩, .string ⟨k.2.toArray⟩] 261) = w2 at *;clear hsb hix;have x0 := HW.out.cell 0 _ rfl;have x1 := HW.out.cell 1 _ rfl;go_wp2_with fail;refine (HSK.out w2).mono ?_;rintro e w3 ⟨rfl, hw3⟩;subst w3;cases b
   ·have HE : Hid (Fs.kgo l (i + 1) = Fs.kind l) := hid' (by rw [Fs.kgo_no l i k HK.out HBV.out]; exact HI.out);go_wp2;go_roundw
    case rel => exact ⟨i + 1, by go_num, by omega, HE, HBW⟩
    case measure => simp [intOf]; omega
   ·have HE : Hid (k.2 = Fs.kind l) := hid' (by rw [← HI.out, Fs.kgo_yes l i k HK.out HBV.out]);go_wp2;go_ret;exact ⟨by rw [← HE.out]; rfl, HBW.out⟩
  ·have hlt2 : ¬ (i : Int) < 6 := by omega
   obtain rfl : i = 6 := by omega
   have HE : Hid (Fs.vOC = Fs.kind l) := hid' (by rw [← HI.out, Fs.kgo_end]);clear hlt;go_wp2;go_ret;exact ⟨by rw [← HE.out]; rfl, HB.out⟩

set_option maxRecDepth 20000 in
theorem cfolder19 (s : ByteArray) (l : Fs.T8) (hp : s.data.toList = l) (hs : s.size ≤ 140737488355328) (w : World) :
  Calls Tryz.prog 143 #[.string s] w fun e w' => e = .returned (.bool (Fs.folder l)) ∧ w' = w := by
 have HS : Hid (∀ W, Calls Tryz.prog 81 #[.string s, .string ⟨#[47]⟩] W fun e w' => e = .returned (.bool (Lib.hasSuffix l [47])) ∧ w' = W) := hid' (fun W => by
  have := Tryz.strings_HasSuffix s ⟨#[47]⟩ W (by omega);rw [hp, show (⟨#[47]⟩ : ByteArray).data.toList = [47] from rfl] at this;exact this)
 have hl : s.toList = l := by rw [ba_list]; exact hp
 cases h : l.isEmpty
 ·have he : (s.toList == []) = false := by rw [hl]; cases l <;> simp at h ⊢
  have hf : Fs.folder l = Lib.hasSuffix l [47] := by unfold Fs.folder; rw [h]; rfl
  rw [hf];clear hp hs hl h hf;go_enter Tryz.func143, Tryz.ntmps143;go_wp2_with fail;refine (HS.out w).mono ?_;rintro e w3 ⟨rfl, hw3⟩;subst w3;go_wp2;go_ret;exact ⟨rfl, rfl⟩
 ·have he : (s.toList == []) = true := by rw [hl]; cases l <;> simp at h ⊢
  have hf : Fs.folder l = true := by unfold Fs.folder; rw [h]; rfl
  rw [hf];clear hp hs hl h hf HS;go_enter Tryz.func143, Tryz.ntmps143;go_wp2;go_ret;exact ⟨rfl, rfl⟩

set_option maxRecDepth 20000 in
theorem cplace19 (r s : ByteArray) (hr : r.size ≤ 1048576) (hs : s.size ≤ 1048576) (w : World) :
  ∃ q : ByteArray, q.data.toList = Fs.name r.data.toList s.data.toList ∧ q.size ≤ 2097163 ∧ Calls Tryz.prog 112 #[.string r, .string s] w fun e w' => e = .returned (.string q) ∧ w' = w := by
 have HF := hid' (cfolder19 s _ rfl (by omega) w);have e1 : r.size + 1 ≤ 9223372036854775807 := by omega
 have e2 : r.size + 1 + s.size ≤ 9223372036854775807 := by omega
 have e3 : r.size + 1 + s.size + 10 ≤ 9223372036854775807 := by omega
 have g1 : (r ++ ⟨#[47]⟩ : ByteArray).size = r.size + 1 := by rw [ByteArray.size_append]; rfl
 have g2 : ((r ++ ⟨#[47]⟩) ++ s : ByteArray).size = r.size + 1 + s.size := by rw [ByteArray.size_append, g1]
 cases hf : Fs.folder s.data.toList
 ·rw [hf] at HF;refine ⟨(r ++ ⟨#[47]⟩) ++ s, ?_, by omega, ?_⟩
  ·unfold Fs.name; rw [hf]; simp [ByteArray.data_append]
  ·clear hr hs hf g1 g2;go_enter Tryz.func112, Tryz.ntmps112;go_wp2_with fail;refine HF.out.mono ?_;rintro e w3 ⟨rfl, hw3⟩;subst w3;go_wp2;go_ret;exact ⟨rfl, rfl⟩
 ·rw [hf] at HF;refine ⟨((r ++ ⟨#[47]⟩) ++ s) ++ ⟨#[105, 110, 100, 101, 120, 46, 104, 116, 109, 108]⟩, ?_, by rw [ByteArray.size_append, g2]; show r.size + 1 + s.size + 10 ≤ _; omega, ?_⟩
  ·unfold Fs.name; rw [hf]; simp [ByteArray.data_append, Fs.vIX]
  ·clear hr hs hf g1 g2;go_enter Tryz.func112, Tryz.ntmps112;go_wp2_with fail;refine HF.out.mono ?_;rintro e w3 ⟨rfl, hw3⟩;subst w3;go_wp2;go_ret;exact ⟨rfl, rfl⟩

theorem sizeFd19 : (Tryz.prog.info? 44).map (·.size) = some 2 := by kernel_rfl
theorem ldFd19 {w : World} {b : Nat} {x0 x1 : Value} (h : Ar w b 44 #[x0, x1]) : (loadVar 44 ⟨b, 0, none⟩).run Tryz.prog w = .ok (.agg #[x0, x1]) w :=
 run_loadVar_row (P := Tryz.prog) w b 44 44 _ (0, 0) _ h Tryz.underlying44 rfl sizeFd19

set_option maxRecDepth 20000 in
theorem ctoldF19 (v : ByteArray) (w : World) :
  Calls Tryz.prog 155 #[.string v] w fun e w' => e = .returned (.agg #[.string ⟨#[99, 111, 110, 116, 101, 110, 116, 45, 114, 97, 110, 103, 101]⟩, .string v]) ∧ Below w.heap.size w w' := by
 go_enter Tryz.func155, Tryz.ntmps155;go_wp2;have hA : Ar (w.alloc (.cells #[.string ⟨#[99, 111, 110, 116, 101, 110, 116, 45, 114, 97, 110, 103, 101]⟩, .string v] 44)) w.heap.size 44 #[.string ⟨#[99, 111, 110, 116, 101, 110, 116, 45, 114, 97, 110, 103, 101]⟩, .string v] := heap_alloc_last w _;have hld := ldFd19 hA;exact bodyPost_ret (v := .agg #[.string ⟨#[99, 111, 110, 116, 101, 110, 116, 45, 114, 97, 110, 103, 101]⟩, .string v]) (by simp [results, Tryz.results155, asAddr, hld]) rfl ⟨rfl, bl_alloc19 w _⟩

end Go.Proofs.YthhpejgpfaikaabGreatDoor
