/-
  What the row stands on.
-/
import Derived.Laws.Cover1
import Derived.Laws.OwnMore
import Derived.Great.BuildSlice
import Derived.Deep.QuietTactic
import Derived.BigQuiet
import Derived.Deep.CutRange
import Derived.Test.YthhpejgpfaikaabGreatDoorPsAA
import Derived.Test.YthhpejgpfaikaabGreatDoorPsAM
import Derived.Maps.AppendAt
namespace Go.Proofs.YthhpejgpfaikaabGreatDoor
set_option maxHeartbeats 64000000
open Go.RowKit

def enV (e : Dk.En) : List Value := [.string e.path, .string e.body, .int .i64 e.time, .int .i64 e.seq]
def enC (es : List Dk.En) : List Value := es.flatMap enV
theorem enC_append (l m : List Dk.En) : enC (l ++ m) = enC l ++ enC m := by simp [enC]
theorem enC_cons (p : Dk.En) (m : List Dk.En) : enC (p :: m) = enV p ++ enC m := by simp [enC]
theorem enC_length (l : List Dk.En) : (enC l).length = l.length * 4 := by
 induction l with
 | nil => rfl
 | cons a r ih => rw [enC_cons]; simp [enV]; omega
theorem en_at (l : List Dk.En) (i : Nat) (p : Dk.En) (h : l[i]? = some p) : ∀ j, j < 4 → (enC l)[i * 4 + j]? = (enV p)[j]? := by
 induction l generalizing i with
 | nil => simp at h
 | cons a r ih =>
  intro j hj;rw [enC_cons];cases i with
  | zero => simp at h; subst h; rw [List.getElem?_append_left (by simp [enV]; omega)]; congr 1; omega
  | succ i =>
   rw [List.getElem?_append_right (by simp [enV]; omega), show (i + 1) * 4 + j - (enV a).length = i * 4 + j by simp [enV]; omega];exact ih i (by simpa using h) j hj
theorem en_take (l : List Dk.En) (i : Nat) : enC (l.take i) = (enC l).take (i * 4) := by
 induction l generalizing i with
 | nil => simp [enC]
 | cons a r ih =>
  cases i with
  | zero => simp [enC]
  | succ i =>
   have : (i + 1) * 4 = (enV a).length + i * 4 := by simp [enV]; omega
   rw [List.take_succ_cons, enC_cons, enC_cons, ih, this, List.take_append, List.take_of_length_le (l := enV a) (by omega), Nat.add_sub_cancel_left]
theorem en_drop (l : List Dk.En) (i : Nat) : enC (l.drop i) = (enC l).drop (i * 4) := by
 induction l generalizing i with
 | nil => simp [enC]
 | cons a r ih =>
  cases i with
  | zero => simp
  | succ i =>
   have : (i + 1) * 4 = (enV a).length + i * 4 := by simp [enV]; omega
   rw [List.drop_succ_cons, enC_cons, ih, this, List.drop_append, List.drop_of_length_le (l := enV a) (by omega), Nat.add_sub_cancel_left, List.nil_append]
theorem en_one (l : List Dk.En) : ∀ u ∈ enC l, u.oneCell' = true := by
 intro u hu;simp only [enC, List.mem_flatMap] at hu;obtain ⟨p, _, hp⟩ := hu;simp only [enV, List.mem_cons, List.not_mem_nil, or_false] at hp;rcases hp with rfl | rfl | rfl | rfl <;> rfl

def RE (w : World) (v : Value) (n : Nat) (xs : List Value) : Prop :=
 (v = .slice none 0 0 ∧ n = 0) ∨ ∃ a cap, v = .slice (some a) n cap ∧ ∀ j u, xs[j]? = some u → (a.add j).block < w.heap.size ∧ w.cell? (a.add j) = some u
theorem RE.keep {w w' : World} {v : Value} {n : Nat} {xs : List Value} (h : RE w v n xs) (hb : Below w.heap.size w w') : RE w' v n xs := by
 rcases h with h | ⟨a, cap, hv, hc⟩
 ·exact .inl h
 ·exact .inr ⟨a, cap, hv, fun j u hj => ⟨Nat.lt_of_lt_of_le (hc j u hj).1 hb.size, (hb.cell (hc j u hj).1).trans (hc j u hj).2⟩⟩
theorem RE.of_own {w : World} {B : Nat} {e : TypeId} {s : Nat} {v : Value} {n : Nat} {xs : List Value} (h : w.ownsRow B e s v n xs) : RE w v n xs := by
 rcases h.2 with ⟨hv, hn⟩ | ⟨g, cap, cur, hv, _, h3, _⟩
 ·exact .inl ⟨hv, hn⟩
 ·refine .inr ⟨⟨g, 0, none⟩, cap, hv, fun j u hj => ⟨?_, ?_⟩⟩
  ·have := (Array.getElem?_eq_some_iff.1 h3).1;unfold Addr.add;split <;> exact this
  ·exact h.cells (g := g) (by rw [hv]; rfl) j u hj
theorem RE.shape {w : World} {v : Value} {n : Nat} {xs : List Value} (h : RE w v n xs) : ∃ ao cap, v = .slice ao n cap := by
 rcases h with ⟨h, rfl⟩ | ⟨a, cap, h, _⟩
 ·exact ⟨none, 0, h⟩
 ·exact ⟨some a, cap, h⟩
theorem RE.four {w : World} {ao : Option Addr} {n n' cap : Nat} {l : List Dk.En} (h : RE w (.slice ao n cap) n' (enC l)) (hn : n' = l.length) (i : Nat) (p : Dk.En) (hp : l[i]? = some p) : ∃ a, ao = some a ∧ w.cell? (a.add (i * 4)) = some (.string p.path) ∧ w.cell? ⟨(a.add (i * 4)).block, (a.add (i * 4)).off + 1, none⟩ = some (.string p.body) ∧ w.cell? ⟨(a.add (i * 4)).block, (a.add (i * 4)).off + 2, none⟩ = some (.int .i64 p.time) ∧ w.cell? ⟨(a.add (i * 4)).block, (a.add (i * 4)).off + 3, none⟩ = some (.int .i64 p.seq) := by
 rcases h with ⟨_, rfl⟩ | ⟨a, cap', hv, hc⟩
 ·have := (List.getElem?_eq_some_iff.1 hp).1; omega
 ·injection hv with h1 _ _;have key : ∀ j u, j < 4 → (enV p)[j]? = some u → w.cell? (a.add (i * 4 + j)) = some u := fun j u hj hu => (hc _ _ ((en_at l i p hp j hj).trans hu)).2;have k0 := key 0 _ (by omega) rfl;have k1 := key 1 _ (by omega) rfl;have k2 := key 2 _ (by omega) rfl;have k3 := key 3 _ (by omega) rfl;rw [← Addr.add_add] at k0 k1 k2 k3;refine ⟨a, h1, ?_, ?_, ?_, ?_⟩
  ·simpa [Addr.add] using k0
  ·simpa [Addr.add] using k1
  ·simpa [Addr.add] using k2
  ·simpa [Addr.add] using k3

structure RD (w : World) (B b : Nat) (v : Value) (q : Int) (es : List Dk.En) : Prop where
 ge : B ≤ b
 obj : Ar w b 34 #[v, .int .i64 q]
 row : w.ownsRow B 68 4 v es.length (enC es)
 ok : Dk.Ok es
 le : es.length ≤ 1024
def DS13 (b : Nat) (v : Value) (k : Nat) : Prop := k = b ∨ v.ownBlock = some k
theorem RD.lb {w : World} {B b : Nat} {v : Value} {q : Int} {es : List Dk.En} (h : RD w B b v q es) : B ≤ w.heap.size := Nat.le_trans h.ge (Nat.le_of_lt h.obj.lt)
theorem RD.rs {w : World} {B b : Nat} {v : Value} {q : Int} {es : List Dk.En} (h : RD w B b v q es) : ∀ k, DS13 b v k → B ≤ k ∧ k < w.heap.size := by
 rintro k (rfl | hk)
 ·exact ⟨h.ge, h.obj.lt⟩
 ·exact ⟨(own_ty h.row k hk).1, own_lt h.row k hk⟩
theorem RD.other {S : Nat → Prop} {w w' : World} {B b : Nat} {v : Value} {q : Int} {es : List Dk.En} (h : RD w B b v q es) (hf : LF S w w') (hs : ∀ k, DS13 b v k → ¬ S k) : RD w' B b v q es :=
 ⟨h.ge, hf.ar h.obj (hs b (.inl rfl)), own_same h.row (fun k hk => hf.block k (own_lt h.row k hk) (hs k (.inr hk))), h.ok, h.le⟩
theorem RD.keep {w w' : World} {B b : Nat} {v : Value} {q : Int} {es : List Dk.En} (h : RD w B b v q es) (hb : Below w.heap.size w w') : RD w' B b v q es :=
 h.other (LF.of_below (S := fun _ => False) hb) (fun _ _ => id)
theorem RD.drewN {w : World} {B b : Nat} {v : Value} {q : Int} {es : List Dk.En} (h : RD w B b v q es) (m : Nat) : RD (w.drewN m) B b v q es := h.keep ⟨rfl, rfl, rfl, Nat.le_refl _, fun _ _ => rfl⟩
theorem down_shape {w : World} {B : Nat} {e : TypeId} {s : Nat} {v : Value} {n : Nat} {xs : List Value} (h : w.ownsRow B e s v n xs) : ∃ ao cap, v = .slice ao n cap := by
 rcases h.2 with ⟨h, h0⟩ | ⟨g, cap, cur, h, _⟩
 ·exact ⟨none, 0, by rw [h, h0]⟩
 ·exact ⟨_, _, h⟩

set_option maxRecDepth 20000 in
theorem dat (B b : Nat) (v : Value) (q : Int) (es : List Dk.En) (x : ByteArray) (i : Nat) (d : Bool) (hi : Dk.at' x.data.toList es = i) (hd : Dk.has x.data.toList es = d) (w : World) (h : RD w B b v q es) :
  Calls Tryz.prog 32 #[.pointer (some ⟨b, 0, none⟩), .string x] w fun e w' => e = .returned (.tuple #[.int .i64 (i : Int), .bool d]) ∧ ∃ m, w' = w.drewN m := by
 have c0 := h.obj.cell 0 _ rfl;obtain ⟨ao, cap, hv⟩ := down_shape h.row;subst hv;have HR := hid' (RE.of_own h.row);have hl := h.le;have HIL : Hid (i ≤ es.length) := hid' (by rw [← hi]; exact Dk.at_le _ _);have HBE : Hid (∀ t p, t < i → es[t]? = some p → Dk.key p < x.data.toList) := hid' (fun t p ht hp => Dk.pl_below x.data.toList (Dk.ks es) t (Dk.key p) (by rw [← hi] at ht; exact ht) (by simp [Dk.ks, hp]));have HAT : Hid (∀ p, es[i]? = some p → ¬ Dk.key p < x.data.toList) := hid' (fun p hp => Dk.pl_at x.data.toList (Dk.ks es) (Dk.key p) (by rw [← hi] at hp; simp only [Dk.ks, List.getElem?_map]; unfold Dk.at' Dk.ks at hp; rw [hp]; rfl));have HM : Hid (x.data.toList ∈ Dk.ks es ↔ (Dk.ks es)[i]? = some x.data.toList) := hid' (by rw [← hi]; exact Dk.mem_iff _ _ h.ok);have HD := hid' hd;obtain ⟨n, hn⟩ : ∃ n, es.length = n := ⟨_, rfl⟩;have HN := hid' hn;rw [hn] at HR c0 hl HIL;clear h hn hi hd;go_enter Tryz.func32, Tryz.ntmps32;go_wp2;go_loopw [6] (fun s6 wr => ∃ k : Nat, s6 = .int .i64 (k : Int) ∧ k ≤ i ∧ wr = w) (fun s6 _ => n - (intOf s6).toNat)
 case atStart => exact ⟨0, rfl, Nat.zero_le _, rfl⟩
 case round =>
  obtain ⟨k, rfl, hk, hwr⟩ := hrel;subst wr;have hin := HIL.out;by_cases hlt : k < n
  ·have hlt2 : (k : Int) < (n : Int) := by omega
   obtain ⟨p, hp⟩ : ∃ p, es[k]? = some p := ⟨_, List.getElem?_eq_getElem (by rw [HN.out]; exact hlt)⟩;obtain ⟨a, hao, y0, y1, y2, y3⟩ := HR.out.four HN.out.symm k p hp;subst hao;clear y1 y2 y3;by_cases hki : k < i
   ·have hpx : Op.bytesLess p.path.toList x.toList = true := by
     rw [bytesLess_eq, Lib.toList_data, Lib.toList_data];exact decide_eq_true (HBE.out k p hki hp)
    clear hp;go_wp2;go_roundw
    case rel => exact ⟨k + 1, by go_num, by omega, by first | rfl | trivial⟩
    case measure => simp [intOf]; omega
   ·obtain rfl : k = i := by omega
    have hpx : Op.bytesLess p.path.toList x.toList = false := by
     rw [bytesLess_eq, Lib.toList_data, Lib.toList_data];exact decide_eq_false (HAT.out p hp)
    have hde : (p.path.toList == x.toList) = d := by
     rw [← HD.out, Lib.toList_data, Lib.toList_data];have h1 := HM.out;have h2 : (Dk.ks es)[k]? = some (Dk.key p) := by simp [Dk.ks, hp]
     rw [h2] at h1;unfold Dk.has;by_cases e : Dk.key p = x.data.toList
     ·rw [decide_eq_true (h1.2 (by rw [e]))]; exact beq_iff_eq.2 e
     ·rw [decide_eq_false (fun hm => e (by have := h1.1 hm; injection this))]; exact beq_false_of_ne e
    clear hp hin;go_wp2;go_quiet (fail);go_wp2;go_ret2;exact ⟨rfl, _, rfl⟩
  ·have hlt2 : ¬ (k : Int) < (n : Int) := by omega
   obtain rfl : k = n := by omega
   obtain rfl : i = k := by omega
   have HDE : Hid (d = false) := hid' (by
    rw [← HD.out];refine decide_eq_false fun hm => ?_;have h1 := HM.out.1 hm;rw [List.getElem?_eq_none (by rw [Dk.ks_len, HN.out]; exact Nat.le_refl _)] at h1;cases h1)
   clear hin hlt;go_wp2;go_ret2;exact ⟨by rw [HDE.out]; rfl, 0, rfl⟩


theorem dinfo_parts {P : Program} {t : TypeId} {z : Option Value} {s b : Nat} (h : (P.info? t).map (fun i => (i.zero, i.size, i.bytes)) = some (z, s, b)) : ∃ i, P.info? t = some i ∧ i.zero = z ∧ i.size = s ∧ i.bytes = b := by
 cases hq : P.info? t with
 | none => simp [hq] at h
 | some i => simp [hq] at h; exact ⟨i, rfl, h.1, h.2.1, h.2.2⟩
theorem dinfoE : (Tryz.prog.info? 68).map (fun i => (i.zero, i.size, i.bytes)) = some (some (.agg #[.string ⟨#[]⟩, .string ⟨#[]⟩, .int .i64 0, .int .i64 0]), 4, 48) := by kernel_rfl
theorem down_le {w : World} {B B' : Nat} {e : TypeId} {s : Nat} {v : Value} {n : Nat} {xs : List Value} (h : w.ownsRow B e s v n xs) (hB : B' ≤ B) : w.ownsRow B' e s v n xs := by
 refine ⟨h.1, ?_⟩;rcases h.2 with h0 | ⟨g, cap, cur, hv, hb, r⟩
 ·exact .inl h0
 ·exact .inr ⟨g, cap, cur, hv, Nat.le_trans hB hb, r⟩
theorem down_cell {w : World} {B : Nat} {e : TypeId} {s g n cap : Nat} {xs : List Value} (h : w.ownsRow B e s (.slice (some ⟨g, 0, none⟩) n cap) n xs) (j : Nat) (u : Value) (hj : xs[j]? = some u) : w.cell? ⟨g, j, none⟩ = some u := by
 have := h.cells (g := g) rfl j u hj
 rwa [Addr.add_mid, Nat.zero_add] at this
theorem down_form {w : World} {B : Nat} {e : TypeId} {s n : Nat} {v : Value} {xs : List Value} (h : w.ownsRow B e s v n xs) (hn : 0 < n) : ∃ g cap, v = .slice (some ⟨g, 0, none⟩) n cap ∧ n ≤ cap ∧ cap ≤ maxLen := by
 rcases h.2 with ⟨_, h0⟩ | ⟨g, cap, cur, hv, _, _, h1, h2, _⟩
 ·omega
 ·exact ⟨g, cap, hv, h1, h2⟩
def PutOf13 (es : List Dk.En) (q : Int) (x y : ByteArray) (t : Int) (c : Int) (es' : List Dk.En) (q' : Int) : Prop :=
 (c = 130 ∧ Dk.path x.data.toList = false ∧ es' = es ∧ q' = q) ∨
 (c = 3 ∧ (Dk.path x.data.toList = true ∧ 65536 < y.size) ∧ es' = es ∧ q' = q) ∨
 (c = 5 ∧ (Dk.path x.data.toList = true ∧ y.size ≤ 65536 ∧ (t < 0 ∨ 253402300799 < t)) ∧ es' = es ∧ q' = q) ∨
 (c = 4 ∧ (Dk.path x.data.toList = true ∧ y.size ≤ 65536 ∧ (0 ≤ t ∧ t ≤ 253402300799) ∧ Dk.has x.data.toList es = false ∧ 1024 ≤ es.length) ∧ es' = es ∧ q' = q) ∨
 (c = 0 ∧ (Dk.path x.data.toList = true ∧ y.size ≤ 65536 ∧ (0 ≤ t ∧ t ≤ 253402300799) ∧ (Dk.has x.data.toList es = true ∨ es.length < 1024)) ∧ es' = Dk.put ⟨x, y, t, q + 1⟩ es ∧ q' = q + 1)
theorem putOf13_ex (es : List Dk.En) (q : Int) (x y : ByteArray) (t : Int) : ∃ c es' q', PutOf13 es q x y t c es' q' := by
 cases h1 : Dk.path x.data.toList
 ·exact ⟨130, _, _, .inl ⟨rfl, h1, rfl, rfl⟩⟩
 by_cases h2 : 65536 < y.size
 ·exact ⟨3, _, _, .inr (.inl ⟨rfl, ⟨h1, h2⟩, rfl, rfl⟩)⟩
 by_cases h3 : t < 0 ∨ 253402300799 < t
 ·exact ⟨5, _, _, .inr (.inr (.inl ⟨rfl, ⟨h1, by omega, h3⟩, rfl, rfl⟩))⟩
 by_cases h4 : Dk.has x.data.toList es = false ∧ 1024 ≤ es.length
 ·exact ⟨4, _, _, .inr (.inr (.inr (.inl ⟨rfl, ⟨h1, by omega, by omega, h4.1, h4.2⟩, rfl, rfl⟩)))⟩
 ·refine ⟨0, _, _, .inr (.inr (.inr (.inr ⟨rfl, ⟨h1, by omega, by omega, ?_⟩, rfl, rfl⟩)))⟩;cases h5 : Dk.has x.data.toList es
  ·exact .inr (by have : ¬ 1024 ≤ es.length := fun h => h4 ⟨h5, h⟩; omega)
  ·exact .inl rfl

set_option maxRecDepth 20000 in
theorem dput_no (B b : Nat) (v : Value) (q : Int) (es : List Dk.En) (x y : ByteArray) (t : Int) (w : World) (h : RD w B b v q es) (hx : x.size ≤ 9223372036854775807) (c : Int)
  (hc : (c = 130 ∧ Dk.path x.data.toList = false) ∨ (c = 3 ∧ (Dk.path x.data.toList = true ∧ 65536 < y.size)) ∨ (c = 5 ∧ (Dk.path x.data.toList = true ∧ y.size ≤ 65536 ∧ (t < 0 ∨ 253402300799 < t))) ∨ (c = 4 ∧ (Dk.path x.data.toList = true ∧ y.size ≤ 65536 ∧ (0 ≤ t ∧ t ≤ 253402300799) ∧ Dk.has x.data.toList es = false ∧ 1024 ≤ es.length))) :
  Calls Tryz.prog 18 #[.pointer (some ⟨b, 0, none⟩), .string x, .string y, .int .i64 t] w fun e w' => e = .returned (.int .i64 c) ∧ ∃ m, w' = w.drewN m := by
 rcases hc with ⟨rfl, h1⟩ | ⟨rfl, h1, h2⟩ | ⟨rfl, h1, h2, h3⟩ | ⟨rfl, h1, h2, h3, h4, h5⟩
 ·have HP := hid' (rpath x false h1 w hx);clear h h1;go_enter Tryz.func18, Tryz.ntmps18;go_wp2_with fail;refine HP.out.mono ?_;rintro e w1 ⟨rfl, rfl⟩;go_wp2;go_ret;exact ⟨rfl, 0, rfl⟩
 ·have HP := hid' (rpath x true h1 w hx);have h2' : (65536 : Int) < (y.size : Int) := by omega
  clear h h1;go_enter Tryz.func18, Tryz.ntmps18;go_wp2_with fail;refine HP.out.mono ?_;rintro e w1 ⟨rfl, rfl⟩;go_wp2;go_ret;exact ⟨rfl, 0, rfl⟩
 ·have HP := hid' (rpath x true h1 w hx);have h2' : ¬ (65536 : Int) < (y.size : Int) := by omega
  clear h h1;rcases h3 with h3 | h3
  ·go_enter Tryz.func18, Tryz.ntmps18;go_wp2_with fail;refine HP.out.mono ?_;rintro e w1 ⟨rfl, rfl⟩;go_wp2;go_ret;exact ⟨rfl, 0, rfl⟩
  ·have h4 : ¬ t < 0 := by omega
   go_enter Tryz.func18, Tryz.ntmps18;go_wp2_with fail;refine HP.out.mono ?_;rintro e w1 ⟨rfl, rfl⟩;go_wp2;go_ret;exact ⟨rfl, 0, rfl⟩
 ·have HP := hid' (rpath x true h1 w hx);have h2' : ¬ (65536 : Int) < (y.size : Int) := by omega
  have h3' : ¬ t < 0 := by omega
  have h3'' : ¬ 253402300799 < t := by omega
  have HA := hid' (dat B b v q es x _ false rfl h4 w h);have c0 : ∀ m, (w.drewN m).cell? ⟨b, 0, none⟩ = some v := fun m => h.obj.cell 0 _ rfl;obtain ⟨ao, cap, hv⟩ := down_shape h.row;obtain ⟨n, hn⟩ : ∃ n, es.length = n := ⟨_, rfl⟩;rw [hn] at hv h5;subst hv;have hge : (1024 : Int) ≤ (n : Int) := by omega
  clear h h1 h3 h4 hn;go_enter Tryz.func18, Tryz.ntmps18;go_wp2_with fail;refine HP.out.mono ?_;rintro e w1 ⟨rfl, rfl⟩;go_wp2_with fail;refine HA.out.mono ?_;rintro e w2 ⟨rfl, m, hw2⟩;have c0' := c0 m;rw [← hw2] at c0';have HW := hid' hw2;clear hw2 c0;go_wp2;go_ret;exact ⟨rfl, m, HW.out⟩

end Go.Proofs.YthhpejgpfaikaabGreatDoor
