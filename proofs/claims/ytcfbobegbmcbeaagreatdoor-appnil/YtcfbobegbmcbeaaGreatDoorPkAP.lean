/-
  The code's List: by its contract.
-/
import Derived.Test.YtcfbobegbmcbeaaGreatDoorPkAO
import Derived.Test.YtcfbobegbmcbeaaGreatDoorPkAB
import Derived.Test.YtcfbobegbmcbeaaGreatDoorPkAN
namespace Go.Proofs.YtcfbobegbmcbeaaGreatDoor
open Go.RowKit
open Go.ChangeMaps (setBlock heap_setBlock_same heap_setBlock_other)

def toEn (e : MapEntry) : Dk.En := match e.key, e.val with
 | .string k, .agg #[.string b, .int _ t, .int _ q] => ⟨k, b, t, q⟩
 | _, _ => en0
theorem toEn_of {e : MapEntry} {k : ByteArray} {p : Dk.En} (h1 : e.key = pk k) (h2 : e.val = fk p) (h3 : p.path = k) : toEn e = p := by
 unfold toEn
 rw [h1, h2]
 subst h3
 rfl
section
variable {T : TypeId} {w : World} {B b m : Nat} {q : Int} {es : List Dk.En} {E : Array MapEntry} {clock : Nat}
theorem CX.ent (h : CX T w B b m q es E clock) {e : MapEntry} (he : e ∈ E.toList) : e.key = .string (toEn e).path ∧ e.val = fk (toEn e) ∧ toEn e ∈ es := by
 obtain ⟨k, p, h1, h2, h3⟩ := h.mp.all e he
 obtain ⟨h4, h5⟩ := (Dk.get_some h.ok).1 h3
 have h6 : p.path = k := ba_ext h5
 rw [toEn_of h1 h2 h6, h1, h2]
 subst h6
 exact ⟨rfl, rfl, h4⟩
theorem CX.mem (h : CX T w B b m q es E clock) (p : Dk.En) : p ∈ E.toList.map toEn ↔ p ∈ es := by
 constructor
 ·intro hp
  obtain ⟨e, he, rfl⟩ := List.mem_map.1 hp
  exact (h.ent he).2.2
 ·intro hp
  have hg : fg es p.path = some p := (Dk.get_some h.ok).2 ⟨hp, rfl⟩
  obtain ⟨e, he, hk⟩ := h.mp.has p.path p hg
  refine List.mem_map.2 ⟨e, he, ?_⟩
  obtain ⟨x, hx, hv⟩ := h.mp.val ky he hk
  rw [hg] at hx
  injection hx with hx
  subst hx
  exact toEn_of hk hv rfl
theorem CX.nd (h : CX T w B b m q es E clock) : (E.toList.map toEn).Nodup := by
 unfold List.Nodup
 rw [List.pairwise_map]
 refine h.mp.nd.imp_of_mem ?_
 intro x y hx hy hne e
 apply hne
 rw [(h.ent hx).1, (h.ent hy).1, e]
theorem left_none {D : List MapEntry} (h0 : (leftOf E (D.map (·.born)).toArray).size = 0) (hnb : (E.toList.map (·.born)).Nodup) (hD : ∀ e ∈ D, e ∈ E.toList) : ∀ e ∈ E.toList, e ∈ D := by
 intro e he
 have h1 : leftOf E (D.map (·.born)).toArray = #[] := Array.eq_empty_of_size_eq_zero h0
 unfold leftOf at h1
 rw [Array.filter_eq_empty_iff] at h1
 have h2 := h1 e (by simpa using he)
 simp only [Bool.not_eq_true', Bool.not_eq_false] at h2
 have h3 : e.born ∈ D.map (·.born) := by simpa using h2
 obtain ⟨d, hd, hb⟩ := List.mem_map.1 h3
 have hde := hD d hd
 have : d = e := by
  have h5 := find_born e E.toList hnb he
  have h6 := find_born d E.toList hnb hde
  rw [hb, h5] at h6
  injection h6 with h6
  exact h6.symm
 subst this
 exact hd
end

structure LI (w wr : World) (r mb : Nat) (E : Array MapEntry) (clock : Nat) (pre : List UInt8) (D : List MapEntry) (m : Nat) (ro : Option Addr) (rc : Nat) : Prop where
 it : wr.heap[r]? = some (.mapIter (some mb) clock (D.map (·.born)).toArray clock)
 sub : ∀ e ∈ D, e ∈ E.toList
 nd : D.Nodup
 len : ((D.map toEn).filter (fun e => pre.isPrefixOf (Dk.key e))).length = m
 row : wr.ownsRow w.heap.size 70 4 (.slice ro m rc) m (enC ((D.map toEn).filter (fun e => pre.isPrefixOf (Dk.key e))))
 bl : Below w.heap.size w wr
theorem sub_len {α : Type} : ∀ {D L : List α}, D.Nodup → (∀ e ∈ D, e ∈ L) → D.length ≤ L.length
 | [], _, _, _ => Nat.zero_le _
 | d :: D, L, hn, hs => by
  obtain ⟨A, R, rfl⟩ := List.append_of_mem (hs d (by simp))
  have hn2 := List.nodup_cons.1 hn
  have := sub_len (D := D) (L := A ++ R) hn2.2 (fun e he => by
   have h1 := hs e (by simp [he])
   rcases List.mem_append.1 h1 with h2 | h2
   ·exact List.mem_append.2 (.inl h2)
   ·rcases List.mem_cons.1 h2 with h3 | h3
    ·subst h3; exact absurd he hn2.1
    ·exact List.mem_append.2 (.inr h3))
  simp at this ⊢
  omega
theorem li_more {D : List MapEntry} {E : Array MapEntry} (hn : D.Nodup) (hs : ∀ e ∈ D, e ∈ E.toList) : D.length ≤ E.size := by
 have := sub_len hn hs
 simpa using this
theorem lst_unique {T : TypeId} {w : World} {B b mb : Nat} {q : Int} {es : List Dk.En} {E : Array MapEntry} {clock : Nat} (h : CX T w B b mb q es E clock) {pre : List UInt8} {D : List MapEntry} (hn : D.Nodup) (hs : ∀ e ∈ D, e ∈ E.toList) (h0 : (leftOf E (D.map (·.born)).toArray).size = 0)
  {l' : List Dk.En} (hp : l'.Perm ((D.map toEn).filter (fun e => pre.isPrefixOf (Dk.key e)))) (ho : l'.Pairwise (fun a b => ¬ Dk.key b < Dk.key a)) : l' = Dk.lst pre es := by
 have hall := left_none h0 h.mp.nb hs
 have hmem : ∀ p, p ∈ l' ↔ p ∈ Dk.lst pre es := by
  intro p
  rw [hp.mem_iff]
  unfold Dk.lst
  rw [List.mem_filter, List.mem_filter, ← h.mem p, List.mem_map, List.mem_map]
  constructor
  ·rintro ⟨⟨e, he, rfl⟩, h2⟩; exact ⟨⟨e, hs e he, rfl⟩, h2⟩
  ·rintro ⟨⟨e, he, rfl⟩, h2⟩; exact ⟨⟨e, hall e he, rfl⟩, h2⟩
 have hsub : ∀ p ∈ l', p ∈ es := fun p hp => (List.mem_filter.1 ((hmem p).1 hp)).1
 have hnl : l'.Nodup := by
  refine hp.nodup_iff.2 (List.Pairwise.filter _ ?_)
  rw [List.pairwise_map]
  refine hn.imp_of_mem ?_
  intro x y hx hy hne e
  apply hne
  have h1 := List.pairwise_map.1 h.nd
  have hx2 := hs x hx
  have hy2 := hs y hy
  have hkey : x.key = y.key := by rw [(h.ent hx2).1, (h.ent hy2).1, e]
  obtain ⟨i, hi⟩ := List.getElem?_of_mem hx2
  obtain ⟨j, hj⟩ := List.getElem?_of_mem hy2
  have hpw := List.pairwise_iff_getElem.1 h.mp.nd
  obtain ⟨i1, i2⟩ := List.getElem?_eq_some_iff.1 hi
  obtain ⟨j1, j2⟩ := List.getElem?_eq_some_iff.1 hj
  rcases Nat.lt_trichotomy i j with hij | hij | hij
  ·have := hpw i j i1 j1 hij
   rw [i2, j2] at this
   exact absurd hkey this
  ·subst hij
   rw [← i2, ← j2]
  ·have := hpw j i j1 i1 hij
   rw [i2, j2] at this
   exact absurd hkey.symm this
 refine Dk.ok_unique ?_ (Dk.lst_ok h.ok pre) hmem
 unfold Dk.Ok Dk.Rise Dk.ks
 rw [List.pairwise_map]
 refine (List.pairwise_and_iff.2 ⟨ho, hnl⟩).imp_of_mem ?_
 intro x y hx hy ⟨h1, h2⟩
 rcases Dk.lt_tri (Dk.key x) (Dk.key y) with h3 | h3 | h3
 ·exact h3
 ·exfalso
  apply h2
  have e1 := (Dk.get_some h.ok).2 ⟨hsub x hx, rfl⟩
  have e2 := (Dk.get_some h.ok).2 ⟨hsub y hy, h3.symm⟩
  rw [e1] at e2
  injection e2
 ·exact absurd h3 h1

structure LJ (w w2 : World) (r mb : Nat) (E : Array MapEntry) (clock : Nat) (D : List MapEntry) (m : Nat) (ro : Option Addr) (rc : Nat) (l : List Dk.En) : Prop where
 it : w2.heap[r]? = some (.mapIter (some mb) clock (D.map (·.born)).toArray clock)
 row : w2.ownsRow w.heap.size 70 4 (.slice ro m rc) m (enC l)
 bl : Below w.heap.size w w2
 mp : w2.heap[mb]? = some (.map E clock)
theorem LJ.keep {w w2 w3 : World} {r mb : Nat} {E : Array MapEntry} {clock : Nat} {D : List MapEntry} {m : Nat} {ro : Option Addr} {rc : Nat} {l : List Dk.En} (h : LJ w w2 r mb E clock D m ro rc l) (hb : Below w2.heap.size w2 w3) : LJ w w3 r mb E clock D m ro rc l :=
 ⟨(hb.block r (Array.getElem?_eq_some_iff.1 h.it).1).trans h.it, own_same h.row (fun k hk => hb.block k (own_lt h.row k hk)), below_from h.bl hb h.bl.size, (hb.block mb (Array.getElem?_eq_some_iff.1 h.mp).1).trans h.mp⟩
theorem li_next {w wr w1 : World} {r mb : Nat} {E : Array MapEntry} {clock : Nat} {pre : List UInt8} {D : List MapEntry} {m : Nat} {ro : Option Addr} {rc : Nat} (h : LI w wr r mb E clock pre D m ro rc) (hr : w.heap.size = r) (hm : wr.heap[mb]? = some (.map E clock)) (hw : w1 = wr ∨ w1 = wr.drew) (e : MapEntry) :
  LJ w (setBlock w1 r (.mapIter (some mb) clock ((D.map (·.born)).toArray.push e.born) clock)) r mb E clock (D ++ [e]) m ro rc ((D.map toEn).filter (fun e => pre.isPrefixOf (Dk.key e))) := by
 have e1 : w1.heap = wr.heap := by rcases hw with rfl | rfl <;> rfl
 have e2 : w1.os = wr.os ∧ w1.tape = wr.tape ∧ w1.output = wr.output := by rcases hw with rfl | rfl <;> exact ⟨rfl, rfl, rfl⟩
 have hrl : r < wr.heap.size := (Array.getElem?_eq_some_iff.1 h.it).1
 have hother : ∀ k, k ≠ r → (setBlock w1 r (.mapIter (some mb) clock ((D.map (·.born)).toArray.push e.born) clock)).heap[k]? = wr.heap[k]? := fun k hk => by
  simp only [setBlock]
  rw [Array.getElem?_setIfInBounds_ne (fun e => hk e.symm), e1]
 refine ⟨?_, own_same h.row (fun k hk => hother k ?_), ?_, (hother mb ?_).trans hm⟩
 ·simp only [setBlock]
  rw [Array.getElem?_setIfInBounds_self_of_lt (by rw [e1]; exact hrl)]
  simp
 ·rintro rfl
  obtain ⟨_, cs, h1⟩ := own_ty h.row k hk
  rw [h.it] at h1
  cases h1
 ·refine ⟨e2.1.trans h.bl.os, e2.2.1.trans h.bl.tape, e2.2.2.trans h.bl.output, by simp only [setBlock, Array.size_setIfInBounds]; rw [e1]; exact h.bl.size, fun k hk => ?_⟩
  rw [hother k (by omega)]
  exact h.bl.block k hk
 ·rintro rfl
  rw [h.it] at hm
  cases hm
theorem fil_one (D : List MapEntry) (e : MapEntry) (pre : List UInt8) (d : Bool) (hd : pre.isPrefixOf (Dk.key (toEn e)) = d) : ((D ++ [e]).map toEn).filter (fun e => pre.isPrefixOf (Dk.key e)) = (D.map toEn).filter (fun e => pre.isPrefixOf (Dk.key e)) ++ (if d = true then [toEn e] else []) := by
 rw [List.map_append, List.filter_append]
 congr 1
 simp only [List.map_cons, List.map_nil, List.filter_cons, List.filter_nil, hd]
theorem LJ.more {w w2 : World} {r mb : Nat} {E : Array MapEntry} {clock : Nat} {D : List MapEntry} {m m' : Nat} {ro : Option Addr} {rc : Nat} {l : List Dk.En} {e : MapEntry} {pre : List UInt8} (h : LJ w w2 r mb E clock (D ++ [e]) m ro rc l) (h1 : ∀ x ∈ D, x ∈ E.toList) (h2 : D.Nodup) (he : e ∈ E.toList) (hn : e ∉ D) (hl : ((D ++ [e]).map toEn).filter (fun e => pre.isPrefixOf (Dk.key e)) = l) (hm : l.length = m') (hmm : m = m') : LI w w2 r mb E clock pre (D ++ [e]) m ro rc := by
 subst hmm
 refine ⟨h.it, ?_, ?_, by rw [hl]; exact hm, by rw [hl]; exact h.row, h.bl⟩
 ·intro x hx
  rcases List.mem_append.1 hx with hx | hx
  ·exact h1 x hx
  ·rw [List.mem_singleton.1 hx]; exact he
 ·refine List.nodup_append.2 ⟨h2, by simp, ?_⟩
  intro a ha b hb e'
  rw [List.mem_singleton.1 hb] at e'
  subst e'
  exact hn ha
theorem seen_of {w : World} {r mb clock : Nat} {s : Array Nat} (h : w.heap[r]? = some (.mapIter (some mb) clock s clock)) : w.iterSeen r = s := by
 unfold World.iterSeen
 rw [h]
theorem left_less {E : Array MapEntry} {D : List MapEntry} {e : MapEntry} {w w2 : World} {r mb clock : Nat} (h1 : w.heap[r]? = some (.mapIter (some mb) clock (D.map (·.born)).toArray clock)) (h2 : w2.heap[r]? = some (.mapIter (some mb) clock ((D ++ [e]).map (·.born)).toArray clock)) (he : e ∈ (leftOf E (D.map (·.born)).toArray).toList) : (leftOf E (w2.iterSeen r)).size < (leftOf E (w.iterSeen r)).size := by
 rw [seen_of h1, seen_of h2]
 have := left_shrinks E _ e he
 simpa using this

set_option maxHeartbeats 4000000 in
set_option maxRecDepth 20000 in
theorem slist13 (B s : Nat) (K : Nat → Prop) (q : Int) (es : List Dk.En) (x : ByteArray) (w : World) (h : CS w B s K q es) (_hx : x.size ≤ 140737488355328) : Calls Tryz.prog 146 #[.pointer (some ⟨s, 0, none⟩), .string x] w fun e w' => (∃ m ro rc, e = .returned (.slice ro m rc) ∧ (Dk.lst x.data.toList es).length = m ∧ w'.ownsRow w.heap.size 70 4 (.slice ro m rc) m (enC (Dk.lst x.data.toList es))) ∧ Below w.heap.size w w' := by
 obtain ⟨mb, E, clock, h, _⟩ := h
 have H := hid' h
 have c0 := h.hd.cell 0 _ rfl
 have hrg := run_range_map (P := Tryz.prog) w 72 _ _ mb E clock utm h.mp.hd
 clear h
 go_enter Tryz.func146, Tryz.ntmps146
 obtain ⟨i0, hi0, hz0, hz1, hz2⟩ := dinfo_parts dinfoE
 have HI := hid' hi0
 have HZ0 := hid' hz0
 have HZ1 := hid' hz1
 have HZ2 := hid' hz2
 clear hi0 hz0 hz1 hz2
 go_upto_region 5 with fail
 have HL0 : Hid (LI w (w.alloc (.mapIter (some mb) clock #[] clock)) w.heap.size mb E clock x.data.toList [] 0 none 0) := hid' ⟨heap_alloc_new _ _, (fun e he => by simp at he), List.Pairwise.nil, rfl, World.ownsRow_nil _ _ _ _, (Below.refl _ _).alloc (Nat.le_refl _) _⟩
 obtain ⟨r, hr⟩ : ∃ r, w.heap.size = r := ⟨_, rfl⟩
 rw [hr] at HL0 ⊢
 have HR := hid' hr
 generalize w.alloc (.mapIter (some mb) clock #[] clock) = w0 at *
 clear hr hrg c0
 go_loopw [5] (fun s5 wr => ∃ (D : List MapEntry) (m : Nat) (ro : Option Addr) (rc : Nat), s5 = .slice ro m rc ∧ Hid (LI w wr r mb E clock x.data.toList D m ro rc)) (fun _ wr => (leftOf E (wr.iterSeen r)).size)
 case atStart => exact ⟨[], 0, none, 0, rfl, HL0⟩
 case round =>
  clear HL0
  obtain ⟨D, m, ro, rc, rfl, HLI⟩ := hrel
  have HC := hid' (H.out.keep HLI.out.bl)
  have hnx := run_next_at (P := Tryz.prog) wr 0 r mb clock clock _ E clock HLI.out.it HC.out.mp.hd HC.out.mp.st (Nat.le_refl _)
  rcases hnx with ⟨h0, hnx⟩ | ⟨e, hel, w1, hw1, hnx⟩
  ·have H0 := hid' h0
   clear h0
   have HM : Hid (m ≤ 1048576) := hid' (by
    have h1 := HLI.out.len
    have h2 := List.length_filter_le (fun e => x.data.toList.isPrefixOf (Dk.key e)) (D.map toEn)
    have h3 := li_more HLI.out.nd HLI.out.sub
    have h4 := HC.out.mp.sz
    have h5 := HC.out.le
    rw [List.length_map] at h2
    omega)
   go_wp2_with fail
   refine (csort13 w.heap.size m rc ro _ HLI.out.len wr HLI.out.row HM.out).mono ?_
   rintro e w2 ⟨rfl, ⟨l', hpm, hso, hrow⟩, hlf⟩
   obtain rfl := lst_unique HC.out HLI.out.nd HLI.out.sub H0.out hpm hso
   have HPM := hid' hpm.length_eq
   have HRO := hid' hrow
   have HBL : Hid (Below w.heap.size w w2) := hid' (HLI.out.bl.trans (hlf.below HLI.out.bl.size (fun k hk => (own_ty HLI.out.row k hk).1)))
   clear hpm hso hrow hlf hnx
   go_wp2
   go_ret
   exact ⟨⟨m, ro, rc, rfl, HPM.out.trans HLI.out.len, HRO.out⟩, HBL.out⟩
  ·have hmn : e ∈ E.toList ∧ e ∉ D := by
    unfold leftOf at hel
    have h1 : e ∈ (E.filter fun e => !((D.map (·.born)).toArray.contains e.born)) := by simpa using hel
    obtain ⟨h4, h2⟩ := Array.mem_filter.1 h1
    refine ⟨by simpa using h4, fun hd => ?_⟩
    have h3 : e.born ∈ D.map (·.born) := List.mem_map.2 ⟨e, hd, rfl⟩
    simp only [Bool.not_eq_true'] at h2
    rw [← Bool.not_eq_true] at h2
    apply h2
    simpa using h3
   have HMN := hid' hmn
   have HEL := hid' hel
   have HLJ := hid' (li_next HLI.out HR.out HC.out.mp.hd hw1 e)
   obtain ⟨h3, h4, h5⟩ := HC.out.ent hmn.1
   have hent := run_entry_at (P := Tryz.prog) _ r mb clock (D.map (·.born)).toArray E clock e (by have := HLJ.out.it; simpa using this) HLJ.out.mp hmn.1 HC.out.mp.nb
   generalize setBlock w1 r (.mapIter (some mb) clock ((D.map (·.born)).toArray.push e.born) clock) = w2 at *
   rw [h3, h4] at hnx hent
   obtain ⟨d, hd⟩ : ∃ d, x.data.toList.isPrefixOf (Dk.key (toEn e)) = d := ⟨_, rfl⟩
   have HFL := hid' (fil_one D e x.data.toList d hd)
   have HPX : Hid (∀ W, Calls Tryz.prog 53 #[.string (toEn e).path, .string x] W fun e w' => e = .returned (.bool d) ∧ w' = W) := hid' (fun W => by have := Tryz.strings_HasPrefix (toEn e).path x W; unfold Lib.hasPrefix at this; rw [show (toEn e).path.data.toList = Dk.key (toEn e) from rfl, hd] at this; exact this)
   obtain ⟨p, hp⟩ : ∃ p, toEn e = p := ⟨_, rfl⟩
   rw [hp] at hnx hent HPX HFL
   simp only [fk] at hnx hent
   have HM : Hid (m ≤ 1048576) := hid' (by
    have h1 := HLI.out.len
    have h2 := List.length_filter_le (fun e => x.data.toList.isPrefixOf (Dk.key e)) (D.map toEn)
    have h3 := li_more HLI.out.nd HLI.out.sub
    have h4 := HC.out.mp.sz
    have h5 := HC.out.le
    rw [List.length_map] at h2
    omega)
   clear hmn hel hw1 h3 h4 h5 hd hp
   go_wp2_with fail
   have HB3 : Hid (Below w2.heap.size w2 (w2.alloc (.cells #[.string p.body, .int .i64 p.time, .int .i64 p.seq] 68))) := hid' ((Below.refl _ _).alloc (Nat.le_refl _) _)
   have HA3 : Hid (Ar (w2.alloc (.cells #[.string p.body, .int .i64 p.time, .int .i64 p.seq] 68)) w2.heap.size 68 #[.string p.body, .int .i64 p.time, .int .i64 p.seq]) := hid' (heap_alloc_last w2 _)
   have HLK := hid' (HLJ.out.keep HB3.out)
   obtain ⟨fb, hfb⟩ : ∃ fb, w2.heap.size = fb := ⟨_, rfl⟩
   rw [hfb] at HA3 ⊢
   generalize w2.alloc (.cells #[.string p.body, .int .i64 p.time, .int .i64 p.seq] 68) = w3 at *
   refine (HPX.out w3).mono ?_
   rintro e' w3' ⟨rfl, hw3⟩
   subst w3'
   clear hnx hent hfb HB3 HLJ HPX
   cases d
   ·simp only [Bool.false_eq_true, if_false, List.append_nil] at HFL
    go_wp2
    go_roundw
    case rel => exact ⟨D ++ [e], m, ro, rc, rfl, hid' (HLK.out.more HLI.out.sub HLI.out.nd HMN.out.1 HMN.out.2 HFL.out HLI.out.len rfl)⟩
    case measure => exact left_less HLI.out.it HLK.out.it HEL.out
   ·simp only [if_true] at HFL
    have hld := dldF HA3.out
    have p0 := HA3.out.cell 0 _ rfl
    have p1 := HA3.out.cell 1 _ rfl
    have p2 := HA3.out.cell 2 _ rfl
    have HBA : Hid (Below w3.heap.size w3 (w3.alloc (.cells #[.string p.path, .string p.body, .int .i64 p.time, .int .i64 p.seq] 70))) := hid' ((Below.refl _ _).alloc (Nat.le_refl _) _)
    have HLA := hid' (HLK.out.keep HBA.out)
    go_wp2_with (at_builtin; refine wpList_append_own_at _ rfl _ _ 22 rfl w.heap.size 70 i0 (.agg #[.string ⟨#[]⟩, .string ⟨#[]⟩, .int .i64 0, .int .i64 0]) 4 48 Tryz.underlying22 HI.out HZ0.out HZ1.out HZ2.out rfl (by decide) (.slice ro m rc) m _ rfl HLA.out.row ⟨w3.heap.size, 0, none⟩ 1 1 [.string p.path, .string p.body, .int .i64 p.time, .int .i64 p.seq] rfl rfl (four_new _ _ _ _ _ _) (by simp [Value.oneCell']) (by have := HM.out; unfold maxLen; omega) (by have := HM.out; omega) (by simp; have := HLK.out.bl.size; omega) ?_; intro v4 w4 hown4 hgrow4 _ _; refine Hid.out ?_)
    refine hid' ?_
    obtain ⟨v4o, v4c, hv4⟩ := down_shape hown4
    subst hv4
    have hit : w4.heap[r]? = some (.mapIter (some mb) clock ((D ++ [e]).map (·.born)).toArray clock) := by
     rw [hgrow4.block r (Array.getElem?_eq_some_iff.1 HLA.out.it).1 (fun e' => by
      obtain ⟨_, cs, h1⟩ := own_ty HLA.out.row r e'.symm
      rw [HLA.out.it] at h1
      cases h1)]
     exact HLA.out.it
    have hmp : w4.heap[mb]? = some (.map E clock) := by
     rw [hgrow4.block mb (Array.getElem?_eq_some_iff.1 HLA.out.mp).1 (fun e' => by
      obtain ⟨_, cs, h1⟩ := own_ty HLA.out.row mb e'.symm
      rw [HLA.out.mp] at h1
      cases h1)]
     exact HLA.out.mp
    have hbl : Below w.heap.size w w4 := HLA.out.bl.grown hgrow4 HLA.out.bl.size (fun k hk => (own_ty HLA.out.row k hk).1)
    have e5 : ∀ l : List Dk.En, enC l ++ [Value.string p.path, .string p.body, .int .i64 p.time, .int .i64 p.seq] = enC (l ++ [p]) := fun l => by rw [enC_append, enC_cons]; simp [enV, enC]
    rw [e5] at hown4
    have HL4 : Hid (LJ w w4 r mb E clock (D ++ [e]) (m + 1) v4o v4c _) := hid' ⟨hit, hown4, hbl, hmp⟩
    clear hown4 hgrow4 e5 hit hmp hbl p0 p1 p2 hld HBA
    go_wp2
    go_roundw
    case rel => exact ⟨D ++ [e], m + 1, v4o, v4c, rfl, hid' (HL4.out.more HLI.out.sub HLI.out.nd HMN.out.1 HMN.out.2 HFL.out (by rw [List.length_append, HLI.out.len]; rfl) rfl)⟩
    case measure => exact left_less HLI.out.it HL4.out.it HEL.out

open Go.RowKit

theorem CD.keep {w w' : World} {B b : Nat} {K : Nat → Prop} {q : Int} {es : List Dk.En} (h : CD w B b K q es) (hb : Below w.heap.size w w') : CD w' B b K q es :=
 h.other (LF.of_below (S := fun _ => False) hb) (fun _ _ => id)
theorem CS.keep {w w' : World} {B b : Nat} {K : Nat → Prop} {q : Int} {es : List Dk.En} (h : CS w B b K q es) (hb : Below w.heap.size w w') : CS w' B b K q es :=
 h.other (LF.of_below (S := fun _ => False) hb) (fun _ _ => id)
theorem CD.bl {w0 w w' : World} {B b : Nat} {K : Nat → Prop} {q : Int} {es : List Dk.En} (h : CD w B b K q es) (hb : Below B w0 w) (hf : LF K w w') : Below B w0 w' := hb.trans (hf.below h.lb (fun k hk => (h.lt k hk).1))

def e1 : Dk.En := ⟨⟨#[47, 98]⟩, ⟨#[120]⟩, 7, 1⟩
def e2 : Dk.En := ⟨⟨#[47, 98]⟩, ⟨#[122]⟩, 9, 2⟩

open Go.RowKit

def FT20 (w : World) (v : Value) (l : List Fd) : Prop := FW w v l ∧ ∀ ad n c, l ≠ [] → v = .slice (some ad) n c → ∃ cs, w.heap[ad.block]? = some (.cells cs 39 (0, 0))
def SR20 (w w' : World) (e : Ending) (r : Ap.Rp) : Prop :=
 (∃ vo n vc uo m uc, e = .returned (.agg (rpC r.s (.slice vo n vc) ⟨r.b.toArray⟩ (.slice uo m uc))) ∧ FT20 w' (.slice vo n vc) r.fs ∧ FT20 w' (.slice uo m uc) r.ts) ∧ Below w.heap.size w w'
def BR20 (l : List Fr18) : Prop := BD18 l ∧ ∀ x ∈ l, x.2.size ≤ 1048576
structure BQ20 (r : Ap.Rq) : Prop where
 m : r.m.size ≤ 1048576
 p : r.p.size ≤ 1048570
 b : r.b.size ≤ 1048576
 fl : r.fs.length ≤ 1048576
 fz : Tg.vsz r.fs ≤ 1048576
 tl : r.ts.length ≤ 1048576
structure AK20 (AP : World → Nat → Nat → Nat → List Fr18 → Prop) : Prop where
 keep : ∀ {w w' : World} {B E b : Nat} {l : List Fr18}, AP w B E b l → w.heap.size ≤ w'.heap.size → (∀ k, B ≤ k → k < E → w'.heap[k]? = w.heap[k]?) → AP w' B E b l
 le : ∀ {w : World} {B E b : Nat} {l : List Fr18}, AP w B E b l → E ≤ w.heap.size
def NewC20 (AP : World → Nat → Nat → Nat → List Fr18 → Prop) : Prop := ∀ (ao : Option Addr) (n cap : Nat) (l : List Fr18) (w : World), l.length = n → n ≤ 1048577 → BR20 l → RW18 w (.slice ao n cap) l → TB19 w →
 Calls Tryz.prog 7 #[.slice ao n cap] w fun e w' => ((Ap.check l = 0 ∧ ∃ b, e = .returned (.tuple #[.pointer (some ⟨b, 0, none⟩), .int .i64 0]) ∧ AP w' w.heap.size w'.heap.size b l) ∨ ((Ap.check l == 0) = false ∧ e = .returned (.tuple #[.pointer none, .int .i64 (Ap.check l)]))) ∧ Below w.heap.size w w'
def AnsC20 (AP : World → Nat → Nat → Nat → List Fr18 → Prop) : Prop := ∀ (B E b : Nat) (l : List Fr18) (B' sb : Nat) (K : Nat → Prop) (q : Int) (es : List Dk.En) (r : Ap.Rq) (fv tv : Value) (w : World), AP w B E b l → CS w B' sb K q es → FW w fv r.fs → FW w tv r.ts → BR20 l → BQ20 r → (∀ e ∈ es, EN19 e) → TB19 w →
 Calls Tryz.prog 10 #[.pointer (some ⟨b, 0, none⟩), .pointer (some ⟨sb, 0, none⟩), .agg (rqC r.m r.sc r.au r.p fv r.b tv)] w fun e w' => SR20 w w' e (Ap.ans l es r)
def AnsN20 : Prop := ∀ (r : Ap.Rq) (fv tv : Value) (w : World), TB19 w →
 Calls Tryz.prog 10 #[.pointer none, .pointer none, .agg (rqC r.m r.sc r.au r.p fv r.b tv)] w fun e w' => SR20 w w' e (Ap.fin (r.m.data.toList == Fs.mHEAD) (Ap.of (Fs.plain 500 [])))
theorem ak_below20 {AP : World → Nat → Nat → Nat → List Fr18 → Prop} (k : AK20 AP) {w w' : World} {B E b : Nat} {l : List Fr18} (h : AP w B E b l) (hb : Below w.heap.size w w') : AP w' B E b l := k.keep h hb.size (fun j _ hj => hb.block j (Nat.lt_of_lt_of_le hj (k.le h)))
theorem ak_lf20 {AP : World → Nat → Nat → Nat → List Fr18 → Prop} (k : AK20 AP) {S : Nat → Prop} {w w' : World} {B E b : Nat} {l : List Fr18} (h : AP w B E b l) (hf : LF S w w') (hs : ∀ j, S j → j < B ∨ E ≤ j) : AP w' B E b l :=
 k.keep h hf.size (fun j h1 h2 => hf.block j (Nat.lt_of_lt_of_le h2 (k.le h)) (fun hj => by have := hs j hj; omega))

open Go.RowKit

theorem rw_lit20 (w : World) (l : List Fr18) (n : Nat) (hn : l.length = n) (h : n ≤ maxLen) : RW18 (w.alloc (.cells (rC18 l).toArray 32)) (.slice (some ⟨w.heap.size, 0, none⟩) n n) l :=
 RW18.of_own (B := w.heap.size) (e := 32) (by rw [hn]; exact own_lit19 w 32 (rC18 l) n 4 (by rw [rC18_len, hn]) h w.heap.size (Nat.le_refl _))

set_option maxHeartbeats 4000000 in
set_option maxRecDepth 20000 in
theorem csite20 (w : World) : Calls Tryz.prog 13 #[] w fun e w' => (∃ ao, e = .returned (.slice ao 4 4) ∧ RW18 w' (.slice ao 4 4) Ap.siteL) ∧ Below w.heap.size w w' := by
 go_enter Tryz.func13, Tryz.ntmps13
 go_wp2_with fail
 go_ret
 exact ⟨⟨_, rfl, rw_lit20 w Ap.siteL 4 rfl (by decide)⟩, bl_alloc19 w _⟩

open Go.RowKit

theorem putB20 : PutOf13 [] 0 ⟨#[47, 119, 47, 97, 46, 116, 120, 116]⟩ ⟨#[104, 101, 108, 108, 111]⟩ 0 0 [Ap.eB] 1 := .inr (.inr (.inr (.inr ⟨rfl, ⟨by decide, by decide, ⟨by decide, by decide⟩, .inr (by decide)⟩, rfl, rfl⟩)))
theorem szB20 : ∀ e ∈ [Ap.eB], EN19 e := by
 intro e he
 rw [List.mem_singleton.1 he]
 exact ⟨by decide, by decide, by decide, by decide, by decide⟩
theorem fld20 (a b c d : Value) (w : World) : (Instr.field 42 (.agg #[a, b, c, d]) 0).run Tryz.prog w = .ok a w := by kernel_rfl
theorem brS20 : BR20 Ap.siteL := by
 unfold BR20 BD18
 decide
theorem bq20 (m p b : ByteArray) (hm : m.size ≤ 1048576) (hp : p.size ≤ 1048570) (hb : b.size ≤ 1048576) : BQ20 (Ap.rq m p b) := ⟨hm, hp, hb, Nat.zero_le _, Nat.zero_le _, Nat.zero_le _⟩

set_option maxHeartbeats 4000000 in
set_option maxRecDepth 20000 in
theorem awake20 {AP : World → Nat → Nat → Nat → List Fr18 → Prop} (kA : AK20 AP) (hN : NewC20 AP) (hA : AnsC20 AP) (w : World) (hT : TB19 w) : Calls Tryz.prog 9 #[] w fun e w' => e = .returned (.bool true) ∧ Below w.heap.size w w' := by
 have KA := hid' kA
 have HN := hid' hN
 have HA := hid' hA
 have HT := hid' hT
 clear kA hN hA hT
 go_enter Tryz.func9, Tryz.ntmps9
 go_wp2_with fail
 refine (csite20 w).mono ?_
 rintro _ w1 ⟨⟨ao, rfl, hr⟩, hb⟩
 have HR1 := hid' hr
 have HB1 := hid' hb
 clear hr hb
 go_wp2_with fail
 refine (HN.out ao 4 4 Ap.siteL w1 rfl (by decide) brS20 HR1.out (tb_below19 HT.out HB1.out)).mono ?_
 rintro _ w2 ⟨⟨_, b, rfl, hap⟩ | ⟨h, _⟩, hb⟩
 rotate_left
 ·rw [Ap.site_ok] at h; cases h
 have HA2 := hid' hap
 have HB2 := hid' (below_from HB1.out hb HB1.out.size)
 clear hap hb HR1
 go_wp2_with fail
 refine (cnew13 w2).mono ?_
 rintro _ w3 ⟨⟨d, K1, rfl, hd⟩, hb⟩
 have HD3 := hid' hd
 have HA3 := hid' (ak_below20 KA.out HA2.out hb)
 have HB3 := hid' (below_from HB2.out hb HB2.out.size)
 clear hd hb
 go_wp2_with fail
 refine (cput13 putB20 _ d K1 w3 HD3.out (by decide) (by decide) (by decide) (by decide)).mono ?_
 rintro _ w4 ⟨rfl, K2, hd, hf, _⟩
 have HD4 := hid' hd
 have HA4 := hid' (ak_lf20 KA.out HA3.out hf (fun j hj => .inr (HD3.out.lt j hj).1))
 have HB4 := hid' (HB3.out.trans (hf.below HB3.out.size (fun k hk => Nat.le_trans HB2.out.size (HD3.out.lt k hk).1)))
 clear hd hf
 go_wp2_with fail
 refine (csnap13 _ d K2 1 [Ap.eB] w4 HD4.out).mono ?_
 rintro _ w5 ⟨⟨s, Ks, rfl, hs⟩, hb⟩
 have HS5 := hid' hs
 have HA5 := hid' (ak_below20 KA.out HA4.out hb)
 have HB5 := hid' (below_from HB4.out hb HB4.out.size)
 clear hs hb
 go_wp2_with fail
 refine (HA.out _ _ b Ap.siteL _ s Ks 1 [Ap.eB] Ap.q1 (.slice none 0 0) (.slice none 0 0) w5 HA5.out HS5.out (fw_nil19 _) (fw_nil19 _) brS20 (bq20 _ _ _ (by decide) (by decide) (by decide)) szB20 (tb_below19 HT.out HB5.out)).mono ?_
 obtain ⟨fs, hans, hfl⟩ := Ap.a1
 rw [hans]
 rintro _ w6 ⟨⟨vo, n, vc, uo, m, uc, rfl, hfw, _⟩, hb⟩
 obtain rfl : n = 5 := by obtain ⟨_, _, h⟩ := hfw.1.shape; injection h with _ h _; rw [h]; exact hfl
 have HA6 := hid' (ak_below20 KA.out HA5.out hb)
 have HS6 := hid' (HS5.out.keep hb)
 have HB6 := hid' (below_from HB5.out hb HB5.out.size)
 clear hfw hb hans hfl HA5 HS5 HB5 HA4 HB4 HD4 HA3 HB3 HD3 HA2 HB2 HB1
 unfold rpC
 rw [show Ap.Rp.s ⟨200, fs, Fs.hello, []⟩ = 200 from rfl, show Ap.Rp.b ⟨200, fs, Fs.hello, []⟩ = Fs.hello from rfl]
 unfold Fs.hello
 have HXa : Hid (Ar (w6.alloc (.cells #[.int .i64 200, .slice vo 5 vc, .string ⟨#[104, 101, 108, 108, 111]⟩, .slice uo m uc] 42)) w6.heap.size 42 #[.int .i64 200, .slice vo 5 vc, .string ⟨#[104, 101, 108, 108, 111]⟩, .slice uo m uc]) := hid' (heap_alloc_last w6 _)
 have hbx := bl_alloc19 w6 (.cells #[.int .i64 200, .slice vo 5 vc, .string ⟨#[104, 101, 108, 108, 111]⟩, .slice uo m uc] 42)
 have HA7 := hid' (ak_below20 KA.out HA6.out hbx)
 have HS7 := hid' (HS6.out.keep hbx)
 have HB7 := hid' (below_from HB6.out hbx HB6.out.size)
 go_wp2_with fail
 obtain ⟨xa, hxa⟩ : ∃ xa, w6.heap.size = xa := ⟨_, rfl⟩
 rw [hxa] at HXa ⊢
 clear hbx HA6 HS6 HB6
 generalize w6.alloc (.cells #[.int .i64 200, .slice vo 5 vc, .string ⟨#[104, 101, 108, 108, 111]⟩, .slice uo m uc] 42) = w7 at *
 clear hxa
 refine (HA.out _ _ b Ap.siteL _ s Ks 1 [Ap.eB] Ap.q2 (.slice none 0 0) (.slice none 0 0) w7 HA7.out HS7.out (fw_nil19 _) (fw_nil19 _) brS20 (bq20 _ _ _ (by decide) (by decide) (by decide)) szB20 (tb_below19 HT.out HB7.out)).mono ?_
 obtain ⟨fs2, hans⟩ := Ap.a2
 rw [hans]
 rintro _ w8 ⟨⟨vo2, n2, vc2, uo2, m2, uc2, rfl, _, _⟩, hb⟩
 have HX8 := hid' (HXa.out.keep hb)
 have HA8 := hid' (ak_below20 KA.out HA7.out hb)
 have HS8 := hid' (HS7.out.keep hb)
 have HB8 := hid' (below_from HB7.out hb HB7.out.size)
 clear hb hans HA7 HS7 HB7 HXa
 unfold rpC
 rw [show Ap.Rp.s ⟨200, fs2, [97, 98], []⟩ = 200 from rfl, show Ap.Rp.b ⟨200, fs2, [97, 98], []⟩ = [97, 98] from rfl]
 have HXb : Hid (Ar (w8.alloc (.cells #[.int .i64 200, .slice vo2 n2 vc2, .string ⟨#[97, 98]⟩, .slice uo2 m2 uc2] 42)) w8.heap.size 42 #[.int .i64 200, .slice vo2 n2 vc2, .string ⟨#[97, 98]⟩, .slice uo2 m2 uc2]) := hid' (heap_alloc_last w8 _)
 have hbx := bl_alloc19 w8 (.cells #[.int .i64 200, .slice vo2 n2 vc2, .string ⟨#[97, 98]⟩, .slice uo2 m2 uc2] 42)
 have HX9 := hid' (HX8.out.keep hbx)
 have HA9 := hid' (ak_below20 KA.out HA8.out hbx)
 have HS9 := hid' (HS8.out.keep hbx)
 have HB9 := hid' (below_from HB8.out hbx HB8.out.size)
 go_wp2_with fail
 obtain ⟨xb, hxb⟩ : ∃ xb, w8.heap.size = xb := ⟨_, rfl⟩
 rw [hxb] at HXb ⊢
 clear hbx HA8 HS8 HB8 HX8
 generalize w8.alloc (.cells #[.int .i64 200, .slice vo2 n2 vc2, .string ⟨#[97, 98]⟩, .slice uo2 m2 uc2] 42) = w9 at *
 clear hxb
 refine (HA.out _ _ b Ap.siteL _ s Ks 1 [Ap.eB] Ap.q3 (.slice none 0 0) (.slice none 0 0) w9 HA9.out HS9.out (fw_nil19 _) (fw_nil19 _) brS20 (bq20 _ _ _ (by decide) (by decide) (by decide)) szB20 (tb_below19 HT.out HB9.out)).mono ?_
 obtain ⟨fs3, hans⟩ := Ap.a3
 rw [hans]
 rintro _ w10 ⟨⟨vo3, n3, vc3, uo3, m3, uc3, rfl, _, _⟩, hb⟩
 have HX10 := hid' (HX9.out.keep hb)
 have HY10 := hid' (HXb.out.keep hb)
 have HA10 := hid' (ak_below20 KA.out HA9.out hb)
 have HS10 := hid' (HS9.out.keep hb)
 have HB10 := hid' (below_from HB9.out hb HB9.out.size)
 clear hb hans HA9 HS9 HB9 HX9 HXb
 unfold rpC
 rw [show Ap.Rp.s ⟨200, fs3, [104, 101, 108, 108, 111, 32, 97, 61, 49, 32, 98, 61, 50, 10], []⟩ = 200 from rfl, show Ap.Rp.b ⟨200, fs3, [104, 101, 108, 108, 111, 32, 97, 61, 49, 32, 98, 61, 50, 10], []⟩ = [104, 101, 108, 108, 111, 32, 97, 61, 49, 32, 98, 61, 50, 10] from rfl]
 have HXc : Hid (Ar (w10.alloc (.cells #[.int .i64 200, .slice vo3 n3 vc3, .string ⟨#[104, 101, 108, 108, 111, 32, 97, 61, 49, 32, 98, 61, 50, 10]⟩, .slice uo3 m3 uc3] 42)) w10.heap.size 42 #[.int .i64 200, .slice vo3 n3 vc3, .string ⟨#[104, 101, 108, 108, 111, 32, 97, 61, 49, 32, 98, 61, 50, 10]⟩, .slice uo3 m3 uc3]) := hid' (heap_alloc_last w10 _)
 have hbx := bl_alloc19 w10 (.cells #[.int .i64 200, .slice vo3 n3 vc3, .string ⟨#[104, 101, 108, 108, 111, 32, 97, 61, 49, 32, 98, 61, 50, 10]⟩, .slice uo3 m3 uc3] 42)
 have HX11 := hid' (HX10.out.keep hbx)
 have HY11 := hid' (HY10.out.keep hbx)
 have HA11 := hid' (ak_below20 KA.out HA10.out hbx)
 have HS11 := hid' (HS10.out.keep hbx)
 have HB11 := hid' (below_from HB10.out hbx HB10.out.size)
 have a0 := HX11.out.cell 0 _ rfl
 have a1 := HX11.out.cell 1 _ rfl
 have a2 := HX11.out.cell 2 _ rfl
 have b2 := HY11.out.cell 2 _ rfl
 have c2 := HXc.out.cell 2 _ rfl
 go_wp2_with fail
 clear a0 a1 a2 b2 c2 hbx HA10 HS10 HB10 HX10 HY10 HXc HX11 HY11
 generalize w10.alloc (.cells #[.int .i64 200, .slice vo3 n3 vc3, .string ⟨#[104, 101, 108, 108, 111, 32, 97, 61, 49, 32, 98, 61, 50, 10]⟩, .slice uo3 m3 uc3] 42) = w11 at *
 refine (HA.out _ _ b Ap.siteL _ s Ks 1 [Ap.eB] Ap.q4 (.slice none 0 0) (.slice none 0 0) w11 HA11.out HS11.out (fw_nil19 _) (fw_nil19 _) brS20 (bq20 _ _ _ (by decide) (by decide) (by decide)) szB20 (tb_below19 HT.out HB11.out)).mono ?_
 obtain ⟨fs4, bd4, hans⟩ := Ap.a4
 rw [hans]
 rintro _ w12 ⟨⟨vo4, n4, vc4, uo4, m4, uc4, rfl, _, _⟩, hb⟩
 have HB12 := hid' (below_from HB11.out hb HB11.out.size)
 clear hb hans HA11 HS11 HB11
 unfold rpC
 rw [show Ap.Rp.s ⟨404, fs4, bd4, []⟩ = 404 from rfl]
 go_wp2_with fail
 rw [fld20]
 go_wp2
 go_ret
 exact ⟨rfl, HB12.out⟩

open Go.RowKit

namespace Ap
theorem nil_is (head : Bool) : ∃ fs, fin head (of (Fs.plain 500 [])) = ⟨500, fs, if head then [] else [53, 48, 48, 10], []⟩ ∧ fs.length = 2 := by
 have h : Lib.itoa 500 = [53, 48, 48] := by decide +kernel
 have hb : (Fs.plain 500 []).b = [53, 48, 48, 10] := by unfold Fs.plain Fs.bd; rw [h]; rfl
 have hm : mid (of (Fs.plain 500 [])) = ⟨500, [Fs.fT, fCL [53, 48, 48, 10]], [53, 48, 48, 10], []⟩ := by
  rw [show of (Fs.plain 500 []) = ⟨500, [Fs.fT], (Fs.plain 500 []).b, []⟩ from rfl, hb]
  rfl
 unfold fin
 rw [hm]
 cases head
 ·exact ⟨_, rfl, rfl⟩
 ·exact ⟨_, rfl, rfl⟩
end Ap

set_option maxHeartbeats 4000000 in
set_option maxRecDepth 20000 in
theorem appNil_any {AP : World → Nat → Nat → Nat → List Fr18 → Prop} (kA : AK20 AP) (hN : NewC20 AP) (hA : AnsC20 AP) (hZ : AnsN20) (r : Ap.Rq) (fv tv : Value) (w : World) (hT : TB19 w) :
  Calls Tryz.prog 5 #[.agg (rqC r.m r.sc r.au r.p fv r.b tv)] w fun e w' => e = .returned (.bool true) ∧ Below w.heap.size w w' := by
 have HW := hid' (fun W (h : TB19 W) => awake20 kA hN hA W h)
 have HZ := hid' hZ
 have HT := hid' hT
 obtain ⟨m, sc, au, p, fs, b, ts⟩ := r
 clear kA hN hA hZ hT
 unfold rqC
 go_enter Tryz.func5, Tryz.ntmps5
 have HX : Hid (Ar (w.alloc (.cells #[.string m, .string sc, .string au, .string p, fv, .string b, tv] 25)) w.heap.size 25 #[.string m, .string sc, .string au, .string p, fv, .string b, tv]) := hid' (heap_alloc_last w _)
 have HB0 := hid' (bl_alloc19 w (.cells #[.string m, .string sc, .string au, .string p, fv, .string b, tv] 25))
 go_wp2_with fail
 refine (HZ.out ⟨m, sc, au, p, fs, b, ts⟩ fv tv _ (tb_below19 HT.out HB0.out)).mono ?_
 obtain ⟨fs1, h1, h2⟩ := Ap.nil_is (m.data.toList == Fs.mHEAD)
 simp only
 rw [h1]
 rintro _ w1 ⟨⟨vo, n, vc, uo, k, uc, rfl, hfw, _⟩, hb⟩
 obtain rfl : n = 2 := by obtain ⟨_, _, h⟩ := hfw.1.shape; injection h with _ h _; rw [h]; exact h2
 have HX1 := hid' (Ar.keep HX.out hb)
 have HB1 := hid' (below_from HB0.out hb HB0.out.size)
 clear hfw hb h1 h2
 unfold rpC
 by_cases hm : m.data.toList = Fs.mHEAD
 ·obtain rfl : m = ⟨#[72, 69, 65, 68]⟩ := by apply ByteArray.ext; apply Array.toList_inj.1; exact hm
  simp only [show ((⟨#[72, 69, 65, 68]⟩ : ByteArray).data.toList == Fs.mHEAD) = true from rfl, if_true]
  have HY : Hid (Ar (w1.alloc (.cells #[.int .i64 500, .slice vo 2 vc, .string ⟨([] : List UInt8).toArray⟩, .slice uo k uc] 42)) w1.heap.size 42 #[.int .i64 500, .slice vo 2 vc, .string ⟨([] : List UInt8).toArray⟩, .slice uo k uc]) := hid' (heap_alloc_last w1 _)
  have hby := bl_alloc19 w1 (.cells #[.int .i64 500, .slice vo 2 vc, .string ⟨([] : List UInt8).toArray⟩, .slice uo k uc] 42)
  have HB2 := hid' (below_from HB1.out hby HB1.out.size)
  have x0 := (HX1.out.keep hby).cell 0 _ rfl
  have y0 := HY.out.cell 0 _ rfl
  have y1 := HY.out.cell 1 _ rfl
  have y2 := HY.out.cell 2 _ rfl
  go_wp2_with fail
  refine (HW.out _ (tb_below19 HT.out HB2.out)).mono ?_
  rintro _ w2 ⟨rfl, hb⟩
  go_wp2
  go_ret
  exact ⟨rfl, below_from HB2.out hb HB2.out.size⟩
 ·have hm1 : (m.data.toList == Fs.mHEAD) = false := by simpa using hm
  simp only [hm1, Bool.false_eq_true, if_false]
  have HY : Hid (Ar (w1.alloc (.cells #[.int .i64 500, .slice vo 2 vc, .string ⟨[53, 48, 48, 10].toArray⟩, .slice uo k uc] 42)) w1.heap.size 42 #[.int .i64 500, .slice vo 2 vc, .string ⟨[53, 48, 48, 10].toArray⟩, .slice uo k uc]) := hid' (heap_alloc_last w1 _)
  have hby := bl_alloc19 w1 (.cells #[.int .i64 500, .slice vo 2 vc, .string ⟨[53, 48, 48, 10].toArray⟩, .slice uo k uc] 42)
  have HB2 := hid' (below_from HB1.out hby HB1.out.size)
  have x0 := (HX1.out.keep hby).cell 0 _ rfl
  have y0 := HY.out.cell 0 _ rfl
  have y1 := HY.out.cell 1 _ rfl
  have y2 := HY.out.cell 2 _ rfl
  go_wp2_with fail
  refine (HW.out _ (tb_below19 HT.out HB2.out)).mono ?_
  rintro _ w2 ⟨rfl, hb⟩
  go_wp2
  go_ret
  exact ⟨rfl, below_from HB2.out hb HB2.out.size⟩

end Go.Proofs.YtcfbobegbmcbeaaGreatDoor
