/-
  What the row stands on.
-/
import Derived.Test.YthhpejgpfaikaabGreatDoorProg
import Derived.Sort.Walk0
import Derived.Test.YthhpejgpfaikaabGreatDoorShelfP
import Derived.Lib.Walk
import Derived.Lib.AppendStr
import Derived.Lib.UnsafeStr
import Derived.Laws.Externs
import Derived.Test.YthhpejgpfaikaabGreatDoorPqAA
import Derived.Test.YthhpejgpfaikaabGreatDoorPqAB
import Derived.WalkKit
import Derived.Deep.CutRange
import Derived.Test.YthhpejgpfaikaabGreatDoorPqAC
import Derived.Laws.Cover1
import Derived.Laws.OwnMore
import Derived.Great.BuildSlice
import Derived.Deep.QuietTactic
import Derived.BigQuiet
import Derived.Maps.AppendAt
namespace Go.Proofs.YthhpejgpfaikaabGreatDoor.Dk

abbrev Tx8 := List UInt8
def good (p : Tx8) : Bool := !(p == []) && !(p == [46]) && !(p == [46, 46])
def pOk : Tx8 → Tx8 → Bool
 | cur, [] => good cur
 | cur, c :: r => if c = 47 then good cur && pOk [] r else (decide (32 ≤ c.toNat) && decide (c.toNat ≤ 126)) && pOk (cur ++ [c]) r
def path : Tx8 → Bool
 | [] => false
 | c :: r => decide (r.length + 1 ≤ 255) && (c == 47 && pOk [] r)

theorem lt_irrefl (a : Tx8) : ¬ a < a := List.lt_irrefl a
theorem lt_trans {a b c : Tx8} (h1 : a < b) (h2 : b < c) : a < c := List.lt_trans h1 h2
theorem lt_tri (a b : Tx8) : a < b ∨ a = b ∨ b < a := by
 by_cases h1 : a < b
 ·exact .inl h1
 ·by_cases h2 : b < a
  ·exact .inr (.inr h2)
  ·exact .inr (.inl (List.le_antisymm (List.not_lt.1 h2) (List.not_lt.1 h1)))
theorem lt_asymm {a b : Tx8} (h1 : a < b) : ¬ b < a := fun h2 => lt_irrefl a (lt_trans h1 h2)

def pl (x : Tx8) : List Tx8 → Nat
 | [] => 0
 | y :: r => if y < x then pl x r + 1 else 0
theorem pl_le (x : Tx8) (l : List Tx8) : pl x l ≤ l.length := by
 induction l with
 | nil => simp [pl]
 | cons y r ih => unfold pl; split <;> simp <;> omega
theorem pl_app (x : Tx8) (A R : List Tx8) (h1 : ∀ a ∈ A, a < x) (h2 : ∀ a ∈ R, ¬ a < x) : pl x (A ++ R) = A.length := by
 induction A with
 | nil =>
  cases R with
  | nil => rfl
  | cons y r => simp only [List.nil_append, pl, if_neg (h2 y (by simp)), List.length_nil]
 | cons y r ih =>
  have := ih (fun a ha => h1 a (by simp [ha]));simp only [List.cons_append, pl, if_pos (h1 y (by simp)), this, List.length_cons]
theorem pl_below (x : Tx8) (l : List Tx8) : ∀ t y, t < pl x l → l[t]? = some y → y < x := by
 induction l with
 | nil => intro t y h; simp [pl] at h
 | cons z r ih =>
  intro t y h hy;unfold pl at h;split at h
  ·cases t with
   | zero => simp at hy; subst hy; assumption
   | succ t => exact ih t y (by omega) (by simpa using hy)
  ·omega
theorem pl_at (x : Tx8) (l : List Tx8) : ∀ y, l[pl x l]? = some y → ¬ y < x := by
 induction l with
 | nil => intro y h; simp at h
 | cons z r ih =>
  intro y h;unfold pl at h;split at h
  ·exact ih y (by simpa using h)
  ·simp at h; subst h; assumption
def Rise (l : List Tx8) : Prop := l.Pairwise (· < ·)
theorem mem_iff (x : Tx8) (l : List Tx8) (h : Rise l) : x ∈ l ↔ l[pl x l]? = some x := by
 constructor
 ·intro hm
  induction l with
  | nil => simp at hm
  | cons y r ih =>
   have hp := List.pairwise_cons.1 h;by_cases e : x = y
   ·subst e; simp [pl, lt_irrefl]
   ·have hm' : x ∈ r := by simpa [e] using hm
    have := hp.1 x hm';simp only [pl, if_pos this, List.getElem?_cons_succ];exact ih hp.2 hm'
 ·intro h; exact List.mem_of_getElem? h

structure En where
 path : ByteArray
 body : ByteArray
 time : Int
 seq : Int
def key (e : En) : Tx8 := e.path.data.toList
def ks (es : List En) : List Tx8 := es.map key
def Ok (es : List En) : Prop := Rise (ks es)
def at' (x : Tx8) (es : List En) : Nat := pl x (ks es)
def has (x : Tx8) (es : List En) : Bool := decide (x ∈ ks es)
def put (e : En) (es : List En) : List En := es.take (at' (key e) es) ++ e :: es.drop (if has (key e) es then at' (key e) es + 1 else at' (key e) es)
def get (x : Tx8) (es : List En) : Option En := if has x es then es[at' x es]? else none
def lst (pre : Tx8) (es : List En) : List En := es.filter fun e => pre.isPrefixOf (key e)
theorem ks_len (es : List En) : (ks es).length = es.length := by simp [ks]
theorem at_le (x : Tx8) (es : List En) : at' x es ≤ es.length := by unfold at'; rw [← ks_len]; exact pl_le _ _
theorem has_lt (x : Tx8) (es : List En) (h : Ok es) (hh : has x es = true) : ∃ e, es[at' x es]? = some e ∧ key e = x := by
 have := (mem_iff x _ h).1 (of_decide_eq_true hh);unfold ks at this;rw [List.getElem?_map] at this;cases he : es[at' x es]? with
 | none => unfold at' ks at he; rw [he] at this; simp at this
 | some e => unfold at' ks at he; rw [he] at this; simp at this; exact ⟨e, rfl, this⟩
theorem not_lt_cons' (R : List En) (e : En) (h2 : ∀ p ∈ R, key e < key p) : ∀ p ∈ e :: R, ¬ key p < key e := by
 intro p hp;rcases List.mem_cons.1 hp with rfl | hp
 ·exact lt_irrefl _
 ·exact lt_asymm (h2 p hp)
theorem at_pl (A R : List En) (x : Tx8) (h1 : ∀ p ∈ A, key p < x) (h2 : ∀ p ∈ R, ¬ key p < x) : at' x (A ++ R) = A.length := by
 unfold at' ks;rw [List.map_append, pl_app]
 ·simp
 ·intro a ha; obtain ⟨p, hp, rfl⟩ := List.mem_map.1 ha; exact h1 p hp
 ·intro a ha; obtain ⟨p, hp, rfl⟩ := List.mem_map.1 ha; exact h2 p hp
theorem split_no (es : List En) (x : Tx8) (h : Ok es) (hn : has x es = false) : ∃ A R, es = A ++ R ∧ (∀ p ∈ A, key p < x) ∧ ∀ p ∈ R, x < key p := by
 have hn2 : x ∉ ks es := of_decide_eq_false hn;clear hn
 induction es with
 | nil => exact ⟨[], [], rfl, by simp, by simp⟩
 | cons p r ih =>
  have hp := List.pairwise_cons.1 (show (key p :: ks r).Pairwise (· < ·) from h);have hn3 : x ≠ key p ∧ x ∉ ks r := by
   refine ⟨fun e => hn2 ?_, fun e => hn2 ?_⟩
   ·rw [e]; simp [ks]
   ·simp only [ks, List.map_cons, List.mem_cons]; exact .inr e
  by_cases hx : key p < x
  ·obtain ⟨A, R, rfl, h1, h2⟩ := ih hp.2 hn3.2;exact ⟨p :: A, R, rfl, fun q hq => by rcases List.mem_cons.1 hq with rfl | hq; exact hx; exact h1 q hq, h2⟩
  ·refine ⟨[], p :: r, rfl, by simp, ?_⟩;have h0 : x < key p := by
    rcases lt_tri x (key p) with h | h | h
    ·exact h
    ·exact absurd h hn3.1
    ·exact absurd h hx
   intro q hq;rcases List.mem_cons.1 hq with rfl | hq
   ·exact h0
   ·exact lt_trans h0 (hp.1 (key q) (List.mem_map.2 ⟨q, hq, rfl⟩))
theorem split_yes (es : List En) (x : Tx8) (h : Ok es) (hm : has x es = true) : ∃ A e R, es = A ++ e :: R ∧ key e = x ∧ (∀ p ∈ A, key p < x) ∧ ∀ p ∈ R, x < key p := by
 obtain ⟨e, he, rfl⟩ := List.mem_map.1 (of_decide_eq_true hm);obtain ⟨A, R, rfl⟩ := List.append_of_mem he;refine ⟨A, e, R, rfl, rfl, ?_, ?_⟩
 ·intro p hp;unfold Ok Rise ks at h;rw [List.map_append, List.pairwise_append] at h;exact h.2.2 (key p) (List.mem_map.2 ⟨p, hp, rfl⟩) (key e) (by simp)
 ·intro p hp;unfold Ok Rise ks at h;rw [List.map_append, List.pairwise_append] at h;exact (List.pairwise_cons.1 h.2.1).1 (key p) (List.mem_map.2 ⟨p, hp, rfl⟩)
theorem ok_join (A R : List En) (e : En) (h : Ok (A ++ R)) (h1 : ∀ p ∈ A, key p < key e) (h2 : ∀ p ∈ R, key e < key p) : Ok (A ++ e :: R) := by
 unfold Ok Rise ks at *;rw [List.map_append, List.pairwise_append] at *;refine ⟨h.1, ?_, ?_⟩
 ·refine List.pairwise_cons.2 ⟨fun y hy => ?_, h.2.1⟩;obtain ⟨p, hp, rfl⟩ := List.mem_map.1 hy;exact h2 p hp
 ·intro a ha b hb;obtain ⟨p, hp, rfl⟩ := List.mem_map.1 ha;rcases List.mem_cons.1 (show b ∈ key e :: R.map key from hb) with rfl | hb
  ·exact h1 p hp
  ·exact h.2.2 _ ha _ hb
theorem ok_cut (A R : List En) (e : En) (h : Ok (A ++ e :: R)) : Ok (A ++ R) := by
 unfold Ok Rise ks at *;refine h.sublist ?_;rw [List.map_append, List.map_append];exact List.Sublist.append_left (List.sublist_cons_self _ _) _
theorem put_no (es : List En) (e : En) (h : Ok es) (hn : has (key e) es = false) : ∃ A R, es = A ++ R ∧ put e es = A ++ e :: R ∧ Ok (put e es) ∧ (put e es).length = es.length + 1 ∧ (∀ p ∈ A, key p < key e) ∧ ∀ p ∈ R, key e < key p := by
 obtain ⟨A, R, rfl, h1, h2⟩ := split_no es (key e) h hn;have e1 : put e (A ++ R) = A ++ e :: R := by
  unfold put;rw [hn, at_pl A R (key e) h1 (fun p hp => lt_asymm (h2 p hp))];simp
 exact ⟨A, R, rfl, e1, by rw [e1]; exact ok_join A R e h h1 h2, by rw [e1]; simp; omega, h1, h2⟩
theorem put_yes (es : List En) (e : En) (h : Ok es) (hm : has (key e) es = true) : ∃ A f R, es = A ++ f :: R ∧ key f = key e ∧ put e es = A ++ e :: R ∧ Ok (put e es) ∧ (put e es).length = es.length ∧ (∀ p ∈ A, key p < key e) ∧ ∀ p ∈ R, key e < key p := by
 obtain ⟨A, f, R, rfl, hk, h1, h2⟩ := split_yes es (key e) h hm;have e1 : put e (A ++ f :: R) = A ++ e :: R := by
  unfold put;rw [hm, at_pl A (f :: R) (key e) h1 (by rw [← hk] at *; exact not_lt_cons' R f h2)];simp
 exact ⟨A, f, R, rfl, hk, e1, by rw [e1]; exact ok_join A R e (ok_cut A R f h) h1 h2, by rw [e1]; simp, h1, h2⟩
theorem put_ok (es : List En) (e : En) (h : Ok es) : Ok (put e es) := by
 cases hh : has (key e) es
 ·obtain ⟨_, _, _, _, h1, _⟩ := put_no es e h hh; exact h1
 ·obtain ⟨_, _, _, _, _, _, h1, _⟩ := put_yes es e h hh; exact h1

end Go.Proofs.YthhpejgpfaikaabGreatDoor.Dk
namespace Go.Proofs.YthhpejgpfaikaabGreatDoor
set_option maxHeartbeats 64000000
end Go.Proofs.YthhpejgpfaikaabGreatDoor

namespace Go.Proofs.YthhpejgpfaikaabGreatDoor.Dk

theorem has_mid (A R : List En) (e : En) (x : Tx8) (hx : key e = x) : has x (A ++ e :: R) = true := by
 unfold has ks;simp [hx]
theorem get_mid (A R : List En) (e : En) (x : Tx8) (hx : key e = x) (h1 : ∀ p ∈ A, key p < x) (h2 : ∀ p ∈ R, x < key p) : get x (A ++ e :: R) = some e := by
 unfold get;rw [has_mid A R e x hx, if_pos rfl, at_pl A (e :: R) x h1 (by rw [← hx] at h2 ⊢; exact not_lt_cons' R e h2)];simp
theorem get_some {es : List En} (h : Ok es) {x : Tx8} {e : En} : get x es = some e ↔ e ∈ es ∧ key e = x := by
 constructor
 ·intro hg;unfold get at hg;split at hg
  ·rename_i hh;obtain ⟨e', he, hk⟩ := has_lt x es h hh;rw [he] at hg;injection hg with hg;subst hg;exact ⟨List.mem_of_getElem? he, hk⟩
  ·cases hg
 ·rintro ⟨hm, rfl⟩;have hh : has (key e) es = true := decide_eq_true (List.mem_map.2 ⟨e, hm, rfl⟩);obtain ⟨A, f, R, rfl, hk, h1, h2⟩ := split_yes es (key e) h hh;obtain rfl : e = f := by
   rcases List.mem_append.1 hm with hm | hm
   ·exact absurd (h1 e hm) (lt_irrefl _)
   ·rcases List.mem_cons.1 hm with hm | hm
    ·exact hm
    ·exact absurd (h2 e hm) (lt_irrefl _)
  exact get_mid A R e _ rfl h1 h2
theorem get_none {es : List En} {x : Tx8} (hn : has x es = false) : get x es = none := by unfold get; rw [hn]; rfl
theorem get_has {es : List En} (h : Ok es) {x : Tx8} : has x es = (get x es).isSome := by
 cases hh : has x es
 ·rw [get_none hh]; rfl
 ·obtain ⟨e, he, hk⟩ := has_lt x es h hh;rw [(get_some h).2 ⟨List.mem_of_getElem? he, hk⟩]; rfl
theorem mem_put {es : List En} (h : Ok es) (e p : En) : p ∈ put e es ↔ p = e ∨ (p ∈ es ∧ key p ≠ key e) := by
 cases hh : has (key e) es
 ·obtain ⟨A, R, rfl, h3, _, _, h1, h2⟩ := put_no es e h hh;rw [h3];simp only [List.mem_append, List.mem_cons];constructor
  ·rintro (hp | rfl | hp)
   ·exact .inr ⟨.inl hp, fun e => lt_irrefl _ (e ▸ h1 p hp)⟩
   ·exact .inl rfl
   ·exact .inr ⟨.inr hp, fun e => lt_irrefl _ (e ▸ h2 p hp)⟩
  ·rintro (rfl | ⟨hp | hp, _⟩)
   ·exact .inr (.inl rfl)
   ·exact .inl hp
   ·exact .inr (.inr hp)
 ·obtain ⟨A, f, R, rfl, hk, h3, _, _, h1, h2⟩ := put_yes es e h hh;rw [h3];simp only [List.mem_append, List.mem_cons];constructor
  ·rintro (hp | rfl | hp)
   ·exact .inr ⟨.inl hp, fun e => lt_irrefl _ (e ▸ h1 p hp)⟩
   ·exact .inl rfl
   ·exact .inr ⟨.inr (.inr hp), fun e => lt_irrefl _ (e ▸ h2 p hp)⟩
  ·rintro (rfl | ⟨hp | rfl | hp, hne⟩)
   ·exact .inr (.inl rfl)
   ·exact .inl hp
   ·exact absurd hk hne
   ·exact .inr (.inr hp)
theorem opt_ext {α : Type} {a b : Option α} (h : ∀ x, a = some x ↔ b = some x) : a = b := by
 cases a with
 | none =>
  cases b with
  | none => rfl
  | some y => exact (h y).2 rfl
 | some x => exact ((h x).1 rfl).symm
theorem get_put' {es : List En} (h : Ok es) (e : En) (x : Tx8) : get x (put e es) = if x = key e then some e else get x es := by
 apply opt_ext;intro p;rw [get_some (put_ok es e h), mem_put h];split
 ·rename_i hx;subst hx;constructor
  ·rintro ⟨rfl | ⟨_, hne⟩, hk⟩
   ·rfl
   ·exact absurd hk hne
  ·intro hp;injection hp with hp;subst hp;exact ⟨.inl rfl, rfl⟩
 ·rename_i hx;rw [get_some h];constructor
  ·rintro ⟨rfl | ⟨hp, _⟩, hk⟩
   ·exact absurd hk.symm hx
   ·exact ⟨hp, hk⟩
  ·rintro ⟨hp, rfl⟩;exact ⟨.inr ⟨hp, hx⟩, rfl⟩
theorem ok_unique : ∀ {a b : List En}, Ok a → Ok b → (∀ p, p ∈ a ↔ p ∈ b) → a = b
 | [], [], _, _, _ => rfl
 | [], q :: b, _, _, h => by have := (h q).2 (by simp); simp at this
 | p :: a, [], _, _, h => by have := (h p).1 (by simp); simp at this
 | p :: a, q :: b, h1, h2, h => by
  have hp := List.pairwise_cons.1 (show (key p :: ks a).Pairwise (· < ·) from h1);have hq := List.pairwise_cons.1 (show (key q :: ks b).Pairwise (· < ·) from h2);have ha : ∀ r ∈ a, key p < key r := fun r hr => hp.1 _ (List.mem_map.2 ⟨r, hr, rfl⟩);have hb : ∀ r ∈ b, key q < key r := fun r hr => hq.1 _ (List.mem_map.2 ⟨r, hr, rfl⟩);obtain rfl : p = q := by
   rcases List.mem_cons.1 ((h p).1 (by simp)) with e | e
   ·exact e
   ·rcases List.mem_cons.1 ((h q).2 (by simp)) with e' | e'
    ·exact e'.symm
    ·exact absurd (lt_trans (ha q e') (hb p e)) (lt_irrefl _)
  congr 1;refine ok_unique hp.2 hq.2 (fun r => ?_);constructor
  ·intro hr;rcases List.mem_cons.1 ((h r).1 (by simp [hr])) with e | e
   ·subst e; exact absurd (ha r hr) (lt_irrefl _)
   ·exact e
  ·intro hr;rcases List.mem_cons.1 ((h r).2 (by simp [hr])) with e | e
   ·subst e; exact absurd (hb r hr) (lt_irrefl _)
   ·exact e
theorem lst_ok {es : List En} (h : Ok es) (pre : Tx8) : Ok (lst pre es) := by
 unfold Ok Rise ks lst at *;exact h.sublist ((List.filter_sublist).map _)

end Go.Proofs.YthhpejgpfaikaabGreatDoor.Dk
namespace Go.Proofs.YthhpejgpfaikaabGreatDoor

open Go.RowKit

theorem infoByte : (Tryz.prog.info? 5).map (fun i => (i.zero, i.size, i.bytes)) = some (some (.int .u8 0), 1, 1) := by kernel_rfl
theorem sizeBuilder : (Tryz.prog.info? 123).map (·.size) = some 2 := by kernel_rfl
theorem liesBuilder : liesAt Tryz.prog Tryz.prog.depth 123 (2 / Tryz.prog.cellsOf 123) 0 123 1 = true := by kernel_rfl
def Bld (w : World) (B b : Nat) (l : List UInt8) : Prop := Lib.IsBuilder 123 5 B b (Lib.byteCells l) w

set_option maxRecDepth 100000 in
theorem copyCheck_used (b : Nat) (w : World) (h0 : w.cell? ⟨b, 0, none⟩ = some (.pointer (some ⟨b, 0, none⟩))) :
  Calls Tryz.prog 72 #[.pointer (some ⟨b, 0, none⟩)] w fun e w' => e = .returned (.tuple #[]) ∧ w' = w := by
 obtain ⟨j, hj, _⟩ := Option.map_eq_some_iff.1 sizeBuilder;go_enter Tryz.func72, Tryz.ntmps72;go_wp2;rw [Lib.run_neq_ptr_same w _ Tryz.underlying121 hj];go_wp2;go_end0;exact ⟨rfl, rfl⟩

set_option maxRecDepth 100000 in
theorem copyCheck_fresh (b : Nat) (w : World) (h0 : w.cell? ⟨b, 0, none⟩ = some (.pointer none)) (hsh : w.shape? b = some (123, 2)) (hfz : w.frozen? ⟨b, 0, none⟩ = false) :
  Calls Tryz.prog 72 #[.pointer (some ⟨b, 0, none⟩)] w fun e w' => e = .returned (.tuple #[]) ∧ w' = w.setCell ⟨b, 0, none⟩ (.pointer (some ⟨b, 0, none⟩)) := by
 obtain ⟨j, hj, hjs⟩ := Option.map_eq_some_iff.1 sizeBuilder;go_enter Tryz.func72, Tryz.ntmps72;go_wp2;rw [Lib.run_to_unsafe w ⟨b, 0, none⟩ Tryz.underlying121 Tryz.underlying173 hj (by rw [hjs]; decide) hsh (Nat.zero_lt_succ 1)];simp only [Result.andThen];rw [Oper.upon_value];go_wp2;rw [run_callFunc_extern Tryz.func101 (by kernel_rfl) (by kernel_rfl) (by kernel_rfl) (e := Extern.AbiNoEscape.same) (by kernel_rfl)];rw [Lib.run_noEscape];simp only [Result.andThen];rw [Oper.upon_value];go_wp2;rw [Lib.run_from_unsafe w ⟨b, 0, none⟩ Tryz.underlying173 Tryz.underlying121 hj hsh liesBuilder];simp only [Result.andThen];rw [Oper.upon_value];go_wp2;go_end0;exact ⟨rfl, rfl⟩

theorem copyCheck_any (B b : Nat) (bs : List Value) (w : World) (h : Lib.IsBuilder 123 5 B b bs w) :
  Calls Tryz.prog 72 #[.pointer (some ⟨b, 0, none⟩)] w fun e w' => e = .returned (.tuple #[]) ∧ (Lib.BuilderAt 123 5 B b (.pointer (some ⟨b, 0, none⟩)) bs w' ∧ Below B w w') := by
 rcases h with h | h
 ·refine (copyCheck_fresh b w h.cell0 h.shape h.frozen0).mono ?_;rintro e w' ⟨rfl, rfl⟩;exact ⟨rfl, h.used _, (Below.refl B w).setCell (p := ⟨b, 0, none⟩) h.1 _⟩
 ·refine (copyCheck_used b w h.cell0).mono ?_;rintro e w' ⟨rfl, rfl⟩;exact ⟨rfl, h, Below.refl B _⟩

set_option maxRecDepth 100000 in
theorem writeByte_cells (B b : Nat) (bs : List Value) (c : Int) (w : World) (h : Lib.IsBuilder 123 5 B b bs w) (hlen : bs.length + 1 ≤ 140737488355328) (hBw : B ≤ w.heap.size) :
  Calls Tryz.prog 78 #[.pointer (some ⟨b, 0, none⟩), .int .u8 c] w fun e w' => e = .returned .nilIface ∧ (Lib.IsBuilder 123 5 B b (bs ++ [.int .u8 c]) w' ∧ Below B w w') := by
 obtain ⟨i0, hi, hz0, hz1, hz2⟩ := info_parts infoByte;go_enter Tryz.func78, Tryz.ntmps78;go_wp2_with fail;refine (copyCheck_any B b bs _ h).mono ?_;rintro e w1 ⟨rfl, h1, hb1⟩;obtain ⟨hB, v, hbk, hown, hne⟩ := h1;have c0 : w1.cell? ⟨b, 0, none⟩ = some (.pointer (some ⟨b, 0, none⟩)) := by rw [Lib.cell_of_heap hbk]; rfl
 have c1 : w1.cell? ⟨b, 1, none⟩ = some v := by rw [Lib.cell_of_heap hbk]; rfl
 go_wp2_with (at_builtin; refine wpList_append_own _ rfl _ _ 78 rfl B 5 i0 (.int .u8 0) 1 1 Tryz.underlying78 hi hz0 hz1 hz2 rfl (by decide) _ _ _ rfl (hown.alloc _) ⟨w1.heap.size, 0, none⟩ 1 1 [.int .u8 c] rfl rfl ?c1 ?c2 ?c3 ?c4 ?c5 ?_)
 case c1 =>
  intro j u hj
  match j, hj with
  | 0, hj => simp at hj; subst hj; simp [Addr.add]
 case c2 => intro u hu; simp at hu; subst hu; rfl
 case c3 => unfold maxLen; omega
 case c4 => omega
 case c5 => have := hb1.size; simp; omega
 intro v' w2 hown' hgrow _;have hlt : b < w1.heap.size := (Array.getElem?_eq_some_iff.1 hbk).1;have hb2 : w2.heap[b]? = some (.cells #[.pointer (some ⟨b, 0, none⟩), v] 123 (0, 0)) := by
  rw [hgrow.block b (by simp; omega) (fun e => hne e.symm), Lib.alloc_old w1 _ b hlt];exact hbk
 have d1 : w2.cell? ⟨b, 1, none⟩ = some v := by rw [Lib.cell_of_heap hb2]; rfl
 have f1 : w2.frozen? ⟨b, 1, none⟩ = false := Lib.frozen_of_heap hb2 1;obtain ⟨g, cap, rfl⟩ : ∃ g cap, v' = .slice (some ⟨g, 0, none⟩) (bs.length + 1) cap := by
  rcases hown'.2 with ⟨_, h0⟩ | ⟨g, cap, cur, hv, _⟩
  ·omega
  ·exact ⟨g, cap, hv⟩
 go_wp2;go_ret;refine ⟨rfl, ?_, ?_⟩
 ·exact .inr (Lib.BuilderAt.put (T := 123) (e := 5) hB hb2 (bs' := bs ++ [.int .u8 c]) (by simpa using hown') (by decide))
 ·exact ((hb1.alloc (by have := hb1.size; omega) _).grown hgrow (by have := hb1.size; simp; omega) (fun k hk => (hown.lt k hk).1)).setCell (p := ⟨b, 1, none⟩) hB _

theorem writeByte_any (B b : Nat) (l : List UInt8) (x : UInt8) (c : Int) (hc : c = (x.toNat : Int)) (w : World) (h : Bld w B b l) (hlen : l.length + 1 ≤ 140737488355328) (hBw : B ≤ w.heap.size) :
  Calls Tryz.prog 78 #[.pointer (some ⟨b, 0, none⟩), .int .u8 c] w fun e w' => e = .returned .nilIface ∧ (Bld w' B b (l ++ [x]) ∧ Below B w w') := by
 subst hc;refine (writeByte_cells B b (Lib.byteCells l) _ w h (by rw [Lib.byteCells_length]; exact hlen) hBw).mono ?_;rintro e w' ⟨rfl, h1, h2⟩;refine ⟨rfl, ?_, h2⟩;have : Lib.byteCells (l ++ [x]) = Lib.byteCells l ++ [.int .u8 (x.toNat : Int)] := by simp [Lib.byteCells]
 unfold Bld;rw [this];exact h1

theorem bld_keep {w w' : World} {B b : Nat} {l : List UInt8} (h : Bld w B b l) (hb : Below w.heap.size w w') : Bld w' B b l := by
 have key : ∀ p, Lib.BuilderAt 123 5 B b p (Lib.byteCells l) w → Lib.BuilderAt 123 5 B b p (Lib.byteCells l) w' := by
  intro p h;have hlt := h.lt;obtain ⟨hB, v, hbk, hown, hne⟩ := h;exact ⟨hB, v, by rw [hb.block b hlt]; exact hbk, hown.kept (row := none) ⟨hb.os, hb.tape, hb.output, hb.size, fun k hk _ => hb.block k hk⟩ (by cases hv : v.ownBlock <;> simp), hne⟩
 rcases h with h | h
 ·exact .inl (key _ h)
 ·exact .inr (key _ h)
theorem bld_new (w : World) (b : Nat) (w' : World) (hb : w.heap.size ≤ b) (h : Ar w' b 123 #[.pointer none, .slice none 0 0]) : Bld w' w.heap.size b [] :=
 .inl ⟨hb, .slice none 0 0, h, World.ownsRow_nil _ _ _ _, by simp [Value.ownBlock]⟩

namespace Rg
abbrev T8 := List UInt8

def digN (l : T8) : Int := if 1 ≤ l.length ∧ l.length ≤ 15 then (Tx.num 10 l).1 else 0
def digB (l : T8) : Bool := decide (1 ≤ l.length) && decide (l.length ≤ 15) && ((Tx.num 10 l).2 == 0)
def ahead (l : T8) : Nat := (l.takeWhile (fun c => !(c == 45))).length
def hasD (l : T8) : Bool := l.contains 45
structure Rn where
 a : Int
 b : Int
def pc (l : T8) (n : Int) : Rn × Bool × Bool :=
 if hasD l then
  let d := ahead l
  let x := l.take d
  let y := l.drop (d + 1)
  if d = 0 then (⟨max (n - digN y) 0, n - 1⟩, decide (0 < digN y) && decide (0 < n), digB y)
  else if d + 1 = l.length then (⟨digN x, n - 1⟩, decide (digN x < n), digB x)
  else (⟨digN x, min (digN y) (n - 1)⟩, decide (digN x < n), digB x && digB y && decide (digN x ≤ digN y))
 else (⟨0, 0⟩, false, false)
def cutA : T8 → T8 → List T8
 | cur, [] => [cur]
 | cur, c :: r => if c = 44 then cur :: cutA [] r else cutA (cur ++ [c]) r
def pcs (l : T8) : List T8 := ((cutA [] l).map Tx.trim).filter (fun p => !(p == []))
def head6 : T8 := [98, 121, 116, 101, 115, 61]
def outs (ps : List T8) (n : Int) : List Rn := (ps.filter (fun p => (pc p n).2.1)).map (fun p => (pc p n).1)
def err (l : T8) (n : Int) : Int :=
  if n < 0 then 1 else if l.take 6 == head6 then
    (if (pcs (l.drop 6)).isEmpty || !(pcs (l.drop 6)).all (fun p => (pc p n).2.2) then 160
     else if 8 < (pcs (l.drop 6)).length then 4 else if (outs (pcs (l.drop 6)) n).isEmpty then 161 else 0)
  else 160
def res (l : T8) (n : Int) : List Rn := if err l n == 0 then outs (pcs (l.drop 6)) n else []
def sBytes : T8 := [98, 121, 116, 101, 115, 32]
def told (r : Rn) (n : Int) : T8 := sBytes ++ (Lib.itoa r.a ++ 45 :: (Lib.itoa r.b ++ 47 :: Lib.itoa n))
def unmet (n : Int) : T8 := [98, 121, 116, 101, 115, 32, 42, 47] ++ Lib.itoa n
def stands (s b : T8) : Bool := (List.range (b.length + 1 - s.length)).any fun i => (b.drop i).take s.length == s
def sPart : T8 := [112, 97, 114, 116]
def line (n : Nat) : T8 := sPart ++ Lib.itoa (n : Int)
theorem ahead_at {l : T8} {k : Nat} (h : k < ahead l) : ∃ c, l[k]? = some c ∧ (c == 45) = false := by
 unfold ahead at h
 induction l generalizing k with
 | nil => simp at h
 | cons x r ih =>
  rw [List.takeWhile_cons] at h;cases hx : (x == 45)
  ·rw [hx] at h;cases k with
   | zero => exact ⟨x, rfl, hx⟩
   | succ k => simpa using ih (by simpa using h)
  ·rw [hx] at h; simp at h
theorem ahead_stop {l : T8} (h : hasD l = true) : l[ahead l]? = some 45 := by
 unfold ahead hasD at *
 induction l with
 | nil => simp at h
 | cons x r ih =>
  rw [List.takeWhile_cons];cases hx : (x == 45)
  ·rw [List.contains_cons, Bool.or_eq_true] at h;rcases h with h | h
   ·rw [Bool.beq_comm] at h; rw [h] at hx; cases hx
   ·simpa using ih h
  ·simp; exact eq_of_beq hx
theorem ahead_lt {l : T8} (h : hasD l = true) : ahead l < l.length := by
 have := ahead_stop h;rcases Nat.lt_or_ge (ahead l) l.length with h1 | h1
 ·exact h1
 ·rw [List.getElem?_eq_none h1] at this; cases this
theorem ahead_all {l : T8} (h : hasD l = false) : ∀ (k : Nat) (c : UInt8), l[k]? = some c → (c == 45) = false := by
 intro k c hc;have := List.mem_of_getElem? hc;unfold hasD at h;cases hq : (c == 45)
 ·rfl
 ·rw [eq_of_beq hq] at this;have := List.contains_iff_mem.2 this;rw [h] at this; cases this
theorem num_bd (l : T8) : 0 ≤ (Tx.num 10 l).1 ∧ (Tx.num 10 l).1 ≤ 9223372036854775807 := by
 unfold Tx.num;split
 ·exact ⟨by decide, by decide⟩
 ·split
  ·exact ⟨by decide, by decide⟩
  ·rename_i h;have := Tx.numv_nonneg 10 (by decide) l;rw [Tx.top_eq] at h;exact ⟨this, by simp only; omega⟩
theorem digN_bd (l : T8) : 0 ≤ digN l ∧ digN l ≤ 9223372036854775807 := by
 unfold digN;split
 ·exact num_bd l
 ·exact ⟨by decide, by decide⟩
end Rg

open Go.RowKit

theorem zeroRg16 : (Tryz.prog.info? 227).map (fun i => i.zero) = some (some (.agg #[.int .i64 0, .int .i64 0])) := by kernel_rfl
theorem sizeRg16 : (Tryz.prog.info? 227).map (·.size) = some 2 := by kernel_rfl
theorem infoRg16 : (Tryz.prog.info? 227).map (fun i => (i.zero, i.size, i.bytes)) = some (some (.agg #[.int .i64 0, .int .i64 0]), 2, 16) := by kernel_rfl
theorem ldRg16 {w : World} {b : Nat} {x0 x1 : Value} (h : Ar w b 227 #[x0, x1]) : (loadVar 227 ⟨b, 0, none⟩).run Tryz.prog w = .ok (.agg #[x0, x1]) w :=
 run_loadVar_row (P := Tryz.prog) w b 227 227 _ (0, 0) _ h Tryz.underlying227 rfl sizeRg16
theorem wrp16 (x : Int) (h0 : -9223372036854775808 ≤ x) (h1 : x ≤ 9223372036854775807) : IntKind.i64.wrap x = x := by rw [IntKind.wrap_i64]; omega
theorem ext_td16 (s : ByteArray) (a b : Nat) : s.extract a b = ⟨((s.data.toList.drop a).take (b - a)).toArray⟩ := by
 apply ByteArray.ext;rw [ByteArray.data_extract];apply Array.toList_inj.1;simp [Array.toList_extract, List.extract_eq_take_drop]

open Go.RowKit

theorem minfo16 {P : Program} {t : TypeId} {z : Option Value} {s b : Nat} (h : (P.info? t).map (fun i => (i.zero, i.size, i.bytes)) = some (z, s, b)) : ∃ i, P.info? t = some i ∧ i.zero = z ∧ i.size = s ∧ i.bytes = b := by
 cases hq : P.info? t with
 | none => simp [hq] at h
 | some i => simp [hq] at h; exact ⟨i, rfl, h.1, h.2.1, h.2.2⟩
theorem own_shape16 {w : World} {B : Nat} {e : TypeId} {s : Nat} {v : Value} {n : Nat} {xs : List Value} (h : w.ownsRow B e s v n xs) : ∃ ao cap, v = .slice ao n cap := by
 rcases h.2 with ⟨h1, rfl⟩ | ⟨g, cap, cur, h1, _⟩
 ·exact ⟨none, 0, h1⟩
 ·exact ⟨_, cap, h1⟩
theorem own_kp16 {w w' : World} {B : Nat} {e : TypeId} {s : Nat} {v : Value} {n : Nat} {xs : List Value} (h : w.ownsRow B e s v n xs) (hb : Below w.heap.size w w') : w'.ownsRow B e s v n xs := own_same h (fun j hj => hb.block j (own_lt h j hj))
theorem one_cell16 (w : World) (T : TypeId) (x0 : Value) : ∀ j v, [x0][j]? = some v → (w.alloc (.cells #[x0] T)).cell? ((⟨w.heap.size, 0, none⟩ : Addr).add j) = some v := by
 intro j v h;rw [Addr.add_mid, Nat.zero_add];have hA : Ar (w.alloc (.cells #[x0] T)) w.heap.size T #[x0] := heap_alloc_last w _;exact hA.cell j v (by simpa using h)
def sC16 (l : List (List UInt8)) : List Value := l.map fun x => .string ⟨x.toArray⟩

namespace Rg
theorem drop_c {l : T8} {k : Nat} {c : UInt8} (hc : l[k]? = some c) : l.drop k = c :: l.drop (k + 1) := by
 obtain ⟨h1, h2⟩ := List.getElem?_eq_some_iff.1 hc;rw [List.drop_eq_getElem_cons h1, h2]
end Rg

end Go.Proofs.YthhpejgpfaikaabGreatDoor
