/-
  What the row stands on.
-/
import Derived.Deep.QuietTactic
import Derived.BigQuiet
import Derived.Laws.IdiomStrings
import Derived.Test.YthhpejgpfaikaabGreatDoorPqAA
import Derived.Maps.AppendAt
import Derived.WalkKit
import Derived.Laws.StructEq
import Derived.Deep.CutRange
import Derived.Shelf.SlSortCmp.QuietGrown
import Derived.Test.YthhpejgpfaikaabGreatDoorShelfP
import Derived.Lib.LaidTab
import Derived.Sort.Grow
import Derived.Lib.ItoaMem
import Derived.Deep.RegionWith
import Derived.Deep.DeepFit
import Derived.Laws.AppendOwnNone
import Derived.Lib.ItoaLen
namespace Go.Proofs.YthhpejgpfaikaabGreatDoor
set_option maxHeartbeats 64000000
open Go.RowKit

theorem ba_list (l : List UInt8) : (⟨l.toArray⟩ : ByteArray).toList = l := by rw [Lib.toList_data]


theorem minfo_parts {P : Program} {t : TypeId} {z : Option Value} {s b : Nat} (h : (P.info? t).map (fun i => (i.zero, i.size, i.bytes)) = some (z, s, b)) : ∃ i, P.info? t = some i ∧ i.zero = z ∧ i.size = s ∧ i.bytes = b := by
 cases hq : P.info? t with
 | none => simp [hq] at h
 | some i => simp [hq] at h; exact ⟨i, rfl, h.1, h.2.1, h.2.2⟩
theorem infoF14 : (Tryz.prog.info? 44).map (fun i => (i.zero, i.size, i.bytes)) = some (some (.agg #[.string ⟨#[]⟩, .string ⟨#[]⟩]), 2, 32) := by kernel_rfl
theorem own_shape {w : World} {B : Nat} {e : TypeId} {s : Nat} {v : Value} {n : Nat} {xs : List Value} (h : w.ownsRow B e s v n xs) : ∃ ao cap, v = .slice ao n cap := by
 rcases h.2 with ⟨h1, rfl⟩ | ⟨g, cap, cur, h1, _⟩
 ·exact ⟨none, 0, h1⟩
 ·exact ⟨_, cap, h1⟩
theorem two_new (w : World) (T : TypeId) (x0 x1 : Value) : ∀ j v, [x0, x1][j]? = some v → (w.alloc (.cells #[x0, x1] T)).cell? ((⟨w.heap.size, 0, none⟩ : Addr).add j) = some v := by
 intro j v h;rw [Addr.add_mid, Nat.zero_add];have hA : Ar (w.alloc (.cells #[x0, x1] T)) w.heap.size T #[x0, x1] := heap_alloc_last w _;exact hA.cell j v (by simpa using h)

theorem u8_is {c : UInt8} {n : Nat} (hn : n < 256) : (c == UInt8.ofNat n) = ((c.toNat : Int) == (n : Int)) := by
 rw [Bool.eq_iff_iff, beq_iff_eq, beq_iff_eq];constructor
 ·rintro rfl; rw [UInt8.toNat_ofNat', Nat.mod_eq_of_lt hn]
 ·intro h;apply UInt8.toNat_inj.1;rw [UInt8.toNat_ofNat', Nat.mod_eq_of_lt hn]; omega

namespace Tx

def top : Int := 9223372036854775807
theorem top_eq : top = 9223372036854775807 := rfl
def numv (b : Int) (l : List UInt8) : Int := l.foldl (fun n c => n * b + dgt (c.toNat : Int)) 0
def digs (b : Int) (l : List UInt8) : Bool := allC (fun c => decide (dgt c < b)) l
theorem numv_snoc (b : Int) (l : List UInt8) (c : UInt8) : numv b (l ++ [c]) = numv b l * b + dgt (c.toNat : Int) := by
 unfold numv; rw [List.foldl_append]; rfl
theorem numv_nonneg (b : Int) (hb : 0 ≤ b) (l : List UInt8) : 0 ≤ numv b l := by
 unfold numv
 suffices h : ∀ n : Int, 0 ≤ n → 0 ≤ l.foldl (fun n c => n * b + dgt (c.toNat : Int)) n from h 0 (Int.le_refl _)
 induction l with
 | nil => intro n hn; exact hn
 | cons c l ih => intro n hn; exact ih _ (Int.add_nonneg (Int.mul_nonneg hn hb) (dgt_bd _).1)

def num (b : Int) (l : List UInt8) : Int × Int := if l.isEmpty || !digs b l then (0, 10) else if top < numv b l then (0, 5) else (numv b l, 0)

structure NumRel (b : Int) (l : List UInt8) (n : Int) (o : Bool) : Prop where
 digs : digs b l = true
 lo : 0 ≤ n
 hi : n ≤ top
 no : o = false → n = numv b l
 yes : o = true → top < numv b l
theorem NumRel.start (b : Int) : NumRel b [] 0 false := ⟨rfl, Int.le_refl _, by decide, fun _ => rfl, fun h => (by cases h)⟩
theorem digs_snoc (b : Int) (l : List UInt8) (c : UInt8) (h : digs b l = true) (hc : dgt (c.toNat : Int) < b) : digs b (l ++ [c]) = true := by
 unfold digs allC at *; rw [List.all_append, h]; simp [hc]
theorem NumRel.over {b : Int} {l : List UInt8} {n : Int} (h : NumRel b l n true) (hb : 1 ≤ b) (c : UInt8) (hc : dgt (c.toNat : Int) < b) : NumRel b (l ++ [c]) n true :=
 have hy : top < numv b (l ++ [c]) := by
  rw [numv_snoc];have h1 := h.yes rfl;have h2 := (dgt_bd (c.toNat : Int)).1;have h3 := numv_nonneg b (by omega) l;have h4 : numv b l * 1 ≤ numv b l * b := Int.mul_le_mul_of_nonneg_left hb h3;omega
 ⟨digs_snoc b l c h.digs hc, h.lo, h.hi, fun e => (by cases e), fun _ => hy⟩
theorem NumRel.goes {b : Int} {l : List UInt8} {n : Int} (h : NumRel b l n false) (c : UInt8) (hc : dgt (c.toNat : Int) < b) (hn : top < n * b + dgt (c.toNat : Int)) : NumRel b (l ++ [c]) n true :=
 ⟨digs_snoc b l c h.digs hc, h.lo, h.hi, fun e => (by cases e), fun _ => by rw [numv_snoc, ← h.no rfl]; exact hn⟩
theorem NumRel.step {b : Int} {l : List UInt8} {n : Int} (h : NumRel b l n false) (hb : 0 ≤ b) (c : UInt8) (hc : dgt (c.toNat : Int) < b) (hn : n * b + dgt (c.toNat : Int) ≤ top) : NumRel b (l ++ [c]) (n * b + dgt (c.toNat : Int)) false :=
 ⟨digs_snoc b l c h.digs hc, Int.add_nonneg (Int.mul_nonneg h.lo hb) (dgt_bd _).1, hn, fun _ => by rw [numv_snoc, ← h.no rfl], fun e => (by cases e)⟩
theorem num_bad (b : Int) (s : ByteArray) (k : Nat) (h : k < s.size) (hc : ¬ dgt (s[k].toNat : Int) < b) : num b s.data.toList = (0, 10) := by
 unfold num digs;rw [allC_no _ s k h (by simpa using hc)]; simp
theorem num_empty (b : Int) (l : List UInt8) (h : l.isEmpty = true) : num b l = (0, 10) := by unfold num; rw [h]; simp
theorem num_over (b : Int) (s : ByteArray) (k : Nat) (h : s.size ≤ k) (he : s.data.toList.isEmpty = false) (n : Int) (hr : NumRel b (s.data.toList.take k) n true) : num b s.data.toList = (0, 5) := by
 rw [List.take_of_length_le (by rw [← Lib.size_eq]; exact h)] at hr;unfold num;rw [he, hr.digs, if_neg (by decide), if_pos (hr.yes rfl)]
theorem num_ok (b : Int) (s : ByteArray) (k : Nat) (h : s.size ≤ k) (he : s.data.toList.isEmpty = false) (n : Int) (hr : NumRel b (s.data.toList.take k) n false) : num b s.data.toList = (n, 0) := by
 rw [List.take_of_length_le (by rw [← Lib.size_eq]; exact h)] at hr;have e := hr.no rfl;have hi := hr.hi;subst e;unfold num;rw [he, hr.digs, if_neg (by decide), if_neg (by omega)]

end Tx

namespace Ms
def goOn (c : UInt8) : Bool := !(c == 47) && !(c == 63)
def stop (L : List UInt8) : Nat := (L.takeWhile goOn).length
end Ms


theorem noStandF14 : Tryz.prog.stoodInHeld 44 = false := by kernel_rfl
theorem noGuardF14 : Tryz.prog.eqGuardType Tryz.prog.depth 44 = false := by kernel_rfl
theorem fieldsOfF14 : Tryz.prog.underlying 44 = some (.struct (Tryz.prog.fieldsOf 44)) := by kernel_rfl
set_option maxRecDepth 20000 in
theorem neq_f14 (f : Fd) (w : World) : (binOp .neq 44 (.agg #[.string f.n, .string f.v]) (.agg #[.string f.n, .string f.v])).run Tryz.prog w = .ok (.bool false) w := by
 rw [run_neq_struct, show (10000 : Nat) = 9999 + 1 by rfl, run_equalIn_agg w 9999 44 _ _ fieldsOfF14 noStandF14];simp only [Program.fieldsOf, Tryz.underlying44];go_simp

set_option maxRecDepth 20000 in
theorem rsame14 (va vb : Value) (l : List Fd) (w : World) (h1 : FW w va l) (h2 : FW w vb l) (hl : l.length ≤ 140737488355328) :
  Calls Tryz.prog 24 #[va, vb] w fun e w' => e = .returned (.bool true) ∧ ∃ m, w' = w.drewN m := by
 obtain ⟨ao, ca, hv⟩ := h1.shape;subst hv;obtain ⟨bo, cb, hv⟩ := h2.shape;subst hv;obtain ⟨n, hn⟩ : ∃ n, l.length = n := ⟨_, rfl⟩;rw [hn] at h1 h2 hl ⊢;have H1 := hid' h1;have H2 := hid' h2;have HN := hid' hn;have hee : ((n : Int) == (n : Int)) = true := beq_self_eq_true _;have hgd := noGuardF14;clear h1 h2 hn;go_enter Tryz.func24, Tryz.ntmps24;go_wp2;go_loopw [5] (fun s5 wr => ∃ i q : Nat, s5 = .int .i64 (i : Int) ∧ i ≤ n ∧ wr = w.drewN q) (fun s5 _ => n - (intOf s5).toNat)
 case atStart => exact ⟨0, 0, rfl, Nat.zero_le _, rfl⟩
 case round =>
  obtain ⟨i, q, rfl, hi, hwr⟩ := hrel;subst hwr;by_cases hlt : i < n
  ·have hlt2 : (i : Int) < (n : Int) := by omega
   obtain ⟨p, hp⟩ : ∃ p, l[i]? = some p := ⟨_, List.getElem?_eq_getElem (by rw [HN.out]; exact hlt)⟩;obtain ⟨a, hao, x0, x1⟩ := H1.out.two i p hp;obtain ⟨a2, hbo, y0, y1⟩ := H2.out.two i p hp;subst hao hbo;have hne : ∀ W, (binOp .neq 44 (.agg #[.string p.n, .string p.v]) (.agg #[.string p.n, .string p.v])).run Tryz.prog W = .ok (.bool false) W := fun W => neq_f14 p W;have HLT := hid' hlt;clear hp hlt;go_wp2;go_quiet (fail);go_wp2;go_roundw
   case rel => exact ⟨i + 1, _, by go_num, by have := HLT.out; omega, by first | rfl | simp⟩
   case measure => have := HLT.out; simp [intOf]; omega
  ·have hlt2 : ¬ (i : Int) < (n : Int) := by omega
   clear hlt;go_wp2;go_ret;exact ⟨rfl, _, rfl⟩


def rqC (m s a p : ByteArray) (fv : Value) (b : ByteArray) (tv : Value) : Array Value := #[.string m, .string s, .string a, .string p, fv, .string b, tv]
theorem below_dn (w : World) (n : Nat) : Below w.heap.size w (w.drewN n) := ⟨rfl, rfl, rfl, Nat.le_refl _, fun _ _ => rfl⟩


def rpC (s : Int) (fv : Value) (b : ByteArray) (tv : Value) : Array Value := #[.int .i64 s, fv, .string b, tv]

set_option maxRecDepth 20000 in
theorem rsameRes19 (s : Int) (b : ByteArray) (fv fv' tv tv' : Value) (l t : List Fd) (w : World) (h1 : FW w fv l) (h2 : FW w fv' l) (h3 : FW w tv t) (h4 : FW w tv' t) (hl : l.length ≤ 140737488355328) (ht : t.length ≤ 140737488355328) :
  Calls Tryz.prog 13 #[.agg (rpC s fv b tv), .agg (rpC s fv' b tv')] w fun e w' => e = .returned (.bool true) ∧ Below w.heap.size w w' := by
 have H1 := hid' h1;have H2 := hid' h2;have H3 := hid' h3;have H4 := hid' h4;have e1 : (s == s) = true := beq_self_eq_true _;have e5 : (b.toList == b.toList) = true := beq_self_eq_true _;clear h1 h2 h3 h4;unfold rpC;go_enter Tryz.func13, Tryz.ntmps13;go_wp2_with (refine wpl_box 38 _ rfl rfl (rpC s fv b tv) (by kernel_rfl) ?_);intro xb w1 hg1 ha1 hb1;have HX1 := hid' ha1;have HB1 := hid' hb1;clear hg1 ha1 hb1;go_wp2_with (refine wpl_box 38 _ rfl rfl (rpC s fv' b tv') (by kernel_rfl) ?_);intro yb w2 hg2 ha2 hb2;have HX2 := hid' (HX1.out.keep hb2);have HY2 := hid' ha2;have HB2 := hid' (below_two HB1.out hb2);clear hg2 ha2 hb2 HX1 HB1;have x0 : w2.cell? ⟨xb, 0, none⟩ = some (.int .i64 s) := HX2.out.cell 0 _ rfl;have x1 : w2.cell? ⟨xb, 1, none⟩ = some (fv) := HX2.out.cell 1 _ rfl;have x2 : w2.cell? ⟨xb, 2, none⟩ = some (.string b) := HX2.out.cell 2 _ rfl;have x3 : w2.cell? ⟨xb, 3, none⟩ = some (tv) := HX2.out.cell 3 _ rfl;have y0 : w2.cell? ⟨yb, 0, none⟩ = some (.int .i64 s) := HY2.out.cell 0 _ rfl;have y1 : w2.cell? ⟨yb, 1, none⟩ = some (fv') := HY2.out.cell 1 _ rfl;have y2 : w2.cell? ⟨yb, 2, none⟩ = some (.string b) := HY2.out.cell 2 _ rfl;have y3 : w2.cell? ⟨yb, 3, none⟩ = some (tv') := HY2.out.cell 3 _ rfl;go_wp2_with fail;refine (rsame14 fv fv' l w2 (H1.out.keep HB2.out) (H2.out.keep HB2.out) hl).mono ?_;rintro e w3 ⟨rfl, n3, hn3⟩;subst hn3;go_wp2_with fail;refine (rsame14 tv tv' t _ ((H3.out.keep HB2.out).keep (below_dn _ _)) ((H4.out.keep HB2.out).keep (below_dn _ _)) ht).mono ?_;rintro e w4 ⟨rfl, n4, hn4⟩;subst hn4;go_wp2;go_ret;exact ⟨rfl, below_two HB2.out (below_dn _ _)⟩

namespace Tx

def addm (p : List UInt8) : List (List UInt8) := if (trim p).isEmpty then [] else [trim p]
def mems (cur : List UInt8) (q e : Bool) : List UInt8 → List (List UInt8)
 | [] => addm cur
 | c :: r => if e then mems (cur ++ [c]) q false r
  else if c == 34 then mems (cur ++ [c]) (!q) false r
  else if q && c == 92 then mems (cur ++ [c]) q true r
  else if !q && c == 44 then addm cur ++ mems [] q false r
  else mems (cur ++ [c]) q false r
def list (l : List UInt8) : List (List UInt8) := mems [] false false l

structure ListRel (l : List UInt8) (ms : List (List UInt8)) (st k : Nat) (q : Bool) : Prop where
 le : st ≤ l.length
 stk : st ≤ k
 many : ms.length ≤ k
 eq : list l = ms ++ mems ((l.drop st).take (k - st)) q false (l.drop k)
theorem ListRel.start (l : List UInt8) : ListRel l [] 0 0 false := ⟨Nat.zero_le _, Nat.le_refl _, Nat.le_refl _, by simp [list]⟩
theorem cur_snoc (l : List UInt8) (st k : Nat) (h : k < l.length) (hs : st ≤ k) : (l.drop st).take (k + 1 - st) = (l.drop st).take (k - st) ++ [l[k]] := by
 rw [show k + 1 - st = (k - st) + 1 by omega, List.take_succ_eq_append_getElem (by rw [List.length_drop]; omega), List.getElem_drop];congr 3; omega
theorem ListRel.quote {l : List UInt8} {ms : List (List UInt8)} {st k : Nat} {q : Bool} (h : ListRel l ms st k q) (hk : k < l.length) (hc : l[k] = 34) : ListRel l ms st (k + 1) (!q) :=
 ⟨h.le, by have := h.stk; omega, by have := h.many; omega, by
  rw [h.eq, List.drop_eq_getElem_cons hk, cur_snoc l st k hk h.stk, mems, hc]; simp⟩
theorem ListRel.plain {l : List UInt8} {ms : List (List UInt8)} {st k : Nat} {q : Bool} (h : ListRel l ms st k q) (hk : k < l.length) (hc : l[k] ≠ 34) (h1 : (q && l[k] == 92) = false) (h2 : (!q && l[k] == 44) = false) : ListRel l ms st (k + 1) q :=
 ⟨h.le, by have := h.stk; omega, by have := h.many; omega, by
  rw [h.eq, List.drop_eq_getElem_cons hk, cur_snoc l st k hk h.stk, mems, if_neg (by simp), if_neg (by simpa using hc), if_neg (by simp [h1]), if_neg (by simp [h2])]⟩
theorem ListRel.comma {l : List UInt8} {ms : List (List UInt8)} {st k : Nat} (h : ListRel l ms st k false) (hk : k < l.length) (hc : l[k] = 44) : ListRel l (ms ++ addm ((l.drop st).take (k - st))) (k + 1) (k + 1) false :=
 ⟨by omega, Nat.le_refl _, by
  have := h.many;rw [List.length_append];have : (addm ((l.drop st).take (k - st))).length ≤ 1 := by unfold addm; split <;> simp
  omega, by
  rw [h.eq, List.drop_eq_getElem_cons hk, mems, hc]; simp⟩
theorem ListRel.slash {l : List UInt8} {ms : List (List UInt8)} {st k : Nat} (h : ListRel l ms st k true) (hk : k < l.length) (hc : l[k] = 92) : ListRel l ms st (k + 2) true := by
 refine ⟨h.le, by have := h.stk; omega, by have := h.many; omega, ?_⟩;have hs := h.stk;rw [h.eq, List.drop_eq_getElem_cons hk, mems, if_neg (by simp), if_neg (by rw [hc]; decide), if_pos (by rw [hc]; decide)];by_cases h2 : k + 1 < l.length
 ·rw [List.drop_eq_getElem_cons h2, mems, if_pos rfl, show k + 2 = (k + 1) + 1 from rfl, cur_snoc l st (k + 1) h2 (by omega), cur_snoc l st k hk hs]
 ·have e1 : l.drop (k + 1) = [] := List.drop_eq_nil_of_le (by omega);have e2 : l.drop (k + 2) = [] := List.drop_eq_nil_of_le (by omega);have e3 : (l.drop st).take (k + 2 - st) = l.drop st := List.take_of_length_le (by rw [List.length_drop]; omega);have e4 : (l.drop st).take (k + 1 - st) = l.drop st := List.take_of_length_le (by rw [List.length_drop]; omega);rw [e1, e2, e3, ← cur_snoc l st k hk hs, e4]; rfl
theorem ListRel.stop {l : List UInt8} {ms : List (List UInt8)} {st k : Nat} {q : Bool} (h : ListRel l ms st k q) (hk : l.length ≤ k) : list l = ms ++ addm (l.drop st) := by
 have hs := h.stk;have := h.le;rw [h.eq, List.drop_eq_nil_of_le hk, mems, List.take_of_length_le (by rw [List.length_drop]; omega)]

end Tx


theorem tab_below {P : Program} {w w' : World} {name : String} {k : IntKind} {zs : List Int} (h : Lib.TabIs P w name k zs) (hb : Below w.heap.size w w') : Lib.TabIs P w' name k zs := by
 unfold Lib.TabIs World.var? at *;cases hg : P.globalNamed name with
 | none => simp [hg] at h
 | some g =>
  simp only [hg, Option.bind_some] at h ⊢;have hlt : g < w.heap.size := by
   rcases Nat.lt_or_ge g w.heap.size with h' | h'
   ·exact h'
   ·simp [Array.getElem?_eq_none h'] at h
  rw [hb.block g hlt];exact h
theorem below_drewN (w : World) (n : Nat) : Below w.heap.size w (w.drewN n) := ⟨rfl, rfl, rfl, Nat.le_refl _, fun _ _ => rfl⟩
theorem below_grow (w : World) (os : Array Obj) : Below w.heap.size w (Sort.grow w os) :=
 ⟨rfl, rfl, rfl, by simp [Sort.grow], fun k hk => by simp [Sort.grow, Array.getElem?_append_left hk]⟩

theorem decimal_any (n : Int) (h0 : -9223372036854775808 ≤ n) (h1 : n ≤ 9223372036854775807) (w : World) (htab : Lib.TabIs Tryz.prog w "internal/strconv.uint64pow10" .u64 Lib.pow10Tab) :
  Calls Tryz.prog 34 #[.int .i64 n] w fun e w' => e = .returned (.string ⟨(Lib.itoa n).toArray⟩) ∧ Below w.heap.size w w' := by
 go_enter Tryz.func34, Tryz.ntmps34;go_wp2_with fail;refine (Tryz.strconv_Itoa n h0 h1 _ htab).mono ?_;rintro e w1 ⟨rfl, k, os, hw⟩;have hb : Below w.heap.size w w1 := by rw [hw]; exact below_two (below_drewN w k) (below_grow _ _)
 clear hw;go_wp2;go_ret;exact ⟨rfl, hb⟩

theorem Tryz.info9 : (Tryz.prog.info? 9).map (fun i => (i.zero, i.size, i.bytes)) = some (some (.string ByteArray.empty), 1, 16) := by kernel_rfl
def strCells (l : List (List UInt8)) : List Value := l.map fun m => .string ⟨m.toArray⟩

theorem addMember_any (B : Nat) (v : Value) (ms : List (List UInt8)) (p : ByteArray) (w : World) (hp : p.size ≤ maxLen) (hown : w.ownsRow B 9 1 v ms.length (strCells ms)) (hB : B ≤ w.heap.size) (hm : ms.length + 1 ≤ 8796093022208) :
  Calls Tryz.prog 211 #[v, .string p] w fun e w' => ∃ v', e = .returned v' ∧ w'.ownsRow B 9 1 v' (ms ++ Tx.addm p.data.toList).length (strCells (ms ++ Tx.addm p.data.toList)) ∧ Below B w w' := by
 obtain ⟨i0, hi, hz0, hz1, hz2⟩ := info_parts Tryz.info9;by_cases he : (Tx.trim p.data.toList).isEmpty = true
 ·go_enter Tryz.func211, Tryz.ntmps211;go_wp2_with (go_at_call 198; refine (trim_any _ _ hp).mono ?_; rintro e w' ⟨rfl, rfl⟩);go_ret;refine ⟨v, rfl, ?_, Below.refl _ _⟩;rw [show Tx.addm p.data.toList = [] from by unfold Tx.addm; rw [if_pos he], List.append_nil];exact hown
 ·replace he : (Tx.trim p.data.toList).isEmpty = false := by simpa using he
  go_enter Tryz.func211, Tryz.ntmps211;go_wp2_with (first
   | (go_at_call 198; refine (trim_any _ _ hp).mono ?_; rintro e w' ⟨rfl, rfl⟩)
   | (at_builtin; refine wpList_append_own _ rfl _ _ 76 rfl B 9 i0 (.string ByteArray.empty) 1 16 Tryz.underlying76 hi hz0 hz1 hz2 rfl (by decide) _ _ _ rfl (hown.alloc _) ⟨_, 0, none⟩ 1 1 [.string ⟨(Tx.trim p.data.toList).toArray⟩] rfl rfl ?c1 ?c2 ?c3 ?c4 ?c5 ?_))
  case c1 =>
   intro j u hj
   match j, hj with
   | 0, hj => simp at hj; subst hj; simp [Addr.add]
  case c2 => intro u hu; simp at hu; subst hu; rfl
  case c3 => unfold maxLen; omega
  case c4 => omega
  case c5 => simp; omega
  ·intro v' w1 hown' hgrow _;have HG := hid hgrow;have HO := hid hown';clear hgrow hown';go_wp2;go_ret;refine ⟨v', rfl, ?_, ?_⟩
   ·rw [show Tx.addm p.data.toList = [Tx.trim p.data.toList] from by unfold Tx.addm; rw [if_neg (by simp [he])]];have := HO.out;rw [List.length_append, strCells, List.map_append];exact this
   ·exact ((Below.refl _ _).alloc hB _).grown HG.out (by simp; omega) (fun k hk => (hown.lt k hk).1)

namespace Tx

theorem itoa_lo (n : Int) (h0 : 0 ≤ n) (h : n < 10) : Lib.itoa n = [UInt8.ofNat (48 + n).toNat] := by
 obtain ⟨u, rfl⟩ := Int.eq_ofNat_of_zero_le h0;rw [Lib.itoa_nonneg, Lib.decDigits_one (by omega)];congr 2
theorem itoa_hi (n : Int) (h : 10 ≤ n) : Lib.itoa n = Lib.itoa (n / 10) ++ [UInt8.ofNat (48 + n % 10).toNat] := by
 obtain ⟨u, rfl⟩ := Int.eq_ofNat_of_zero_le (by omega : 0 ≤ n);rw [Lib.itoa_nonneg, show ((u : Int) / 10) = ((u / 10 : Nat) : Int) by omega, Lib.itoa_nonneg, Lib.decDigits, dif_neg (by omega)];congr 3
theorem itoa_le (n : Int) : ∀ m : Nat, n.natAbs < 10 ^ m → (Lib.itoa n).length ≤ m + 2 := by
 intro m h;have hd : ∀ (m u : Nat), u < 10 ^ m → (Lib.decDigits u).length ≤ m + 1 := by
  intro m
  induction m with
  | zero => intro u hu; rw [Lib.decDigits_one (by omega)]; simp
  | succ m ih =>
   intro u hu;by_cases hs : u < 10
   ·rw [Lib.decDigits_one hs]; simp
   ·rw [Lib.decDigits, dif_neg hs, List.length_append];have := ih (u / 10) (by rw [Nat.pow_succ] at hu; omega);simp; omega
 unfold Lib.itoa;split
 ·have := hd m n.natAbs h; simp; omega
 ·have := hd m n.toNat (by omega); omega

end Tx


theorem str_snoc (q : List UInt8) (c : UInt8) : (⟨q.toArray⟩ : ByteArray) ++ ⟨#[c]⟩ = ⟨(q ++ [c]).toArray⟩ := by
 apply ByteArray.ext; simp


theorem own_lit19 (w : World) (e : TypeId) (xs : List Value) (n s : Nat) (hl : xs.length = n * s) (hn : n ≤ maxLen) (B : Nat) (hB : B ≤ w.heap.size) : (w.alloc (.cells xs.toArray e)).ownsRow B e s (.slice (some ⟨w.heap.size, 0, none⟩) n n) n xs :=
 ⟨hl, .inr ⟨w.heap.size, n, xs.toArray, rfl, hB, heap_alloc_last w _, Nat.le_refl _, hn, by simpa using hl, by rw [← hl]; simp⟩⟩
theorem fw_lit19 (w : World) (l : List Fd) (n : Nat) (hn : l.length = n) (h : n ≤ maxLen) : FW (w.alloc (.cells (fC l).toArray 44)) (.slice (some ⟨w.heap.size, 0, none⟩) n n) l :=
 FW.of_own (B := w.heap.size) (e := 44) (by rw [hn]; exact own_lit19 w 44 (fC l) n 2 (by rw [fC_length, hn]) h w.heap.size (Nat.le_refl _))
theorem fC_one19 (l : List Fd) : ∀ u ∈ fC l, u.oneCell' = true := by
 intro u hu;unfold fC at hu;obtain ⟨f, _, hf⟩ := List.mem_flatMap.1 hu;simp [fV] at hf;rcases hf with rfl | rfl <;> rfl
theorem wpl_appL19 {w : World} {ops : Array Oper} {rest : List Oper} {o : Oper} {a : Act} {Q : Exit → Act → World → Prop} (hgd : o.guard = none) (s x : Operand)
  (ho : o.op = .call { callee := .builtin .append, args := #[s, x], argTypes := #[23, 23] })
  (B : Nat) (v : Value) (n : Nat) (xs : List Value) (hs : a.eval s = v) (hown : w.ownsRow B 44 2 v n xs) (y : Value) (l : List Fd) (hx : a.eval x = y) (hy : FW w y l)
  (h63 : n + l.length ≤ 4398046511103) (hB : B ≤ w.heap.size)
  (h : ∀ v' w', w'.ownsRow B 44 2 v' (n + l.length) (xs ++ fC l) → w.grownBy w' v.ownBlock → wpList Tryz.prog ops Q rest (a.put o.dst v') w') :
  wpList Tryz.prog ops Q (o :: rest) a w := by
 obtain ⟨i0, hi0, hz0, hz1, hz2⟩ := minfo_parts infoF14;rcases hy with ⟨rfl, rfl⟩ | ⟨ad, cap, rfl, hc, hcells⟩
 ·refine wpList_append_own_none hgd s x 23 ho B 44 i0 2 Tryz.underlying23 hi0 v n xs hs hown hx ?_;refine h v w ?_ ⟨rfl, rfl, rfl, Nat.le_refl _, fun _ _ _ => rfl⟩;simpa [fC] using hown
 ·refine wpList_append_own_at w hgd s x 23 ho B 44 i0 (.agg #[.string ⟨#[]⟩, .string ⟨#[]⟩]) 2 32 Tryz.underlying23 hi0 hz0 hz1 hz2 rfl (by decide) v n xs hs hown ad l.length cap (fC l) hx (fC_length l) (fun j u hj => (hcells j u hj).2) (fC_one19 l) (by unfold maxLen; omega) (by omega) hB ?_;intro v' w' h1 h2 _ h4;exact h v' w' h1 h2
theorem below_grown19 {B : Nat} {w0 w w' : World} {v : Value} {n : Nat} {xs : List Value} (hb : Below B w0 w) (hB : B ≤ w.heap.size) (ho : w.ownsRow B 44 2 v n xs) (hg : w.grownBy w' v.ownBlock) : Below B w0 w' :=
 hb.grown hg hB (fun k hk => (own_ty ho k hk).1)

theorem bl_alloc19 (w : World) (x : Obj) : Below w.heap.size w (w.alloc x) := (Below.refl _ _).alloc (Nat.le_refl _) _
theorem own_ge19 {w : World} {B : Nat} {e : TypeId} {s : Nat} {v : Value} {n : Nat} {xs : List Value} (h : w.ownsRow B e s v n xs) (j : Nat) (hj : v.ownBlock = some j) : B ≤ j := (own_ty h j hj).1
theorem own_base19 {w : World} {B B' : Nat} {e : TypeId} {s : Nat} {v : Value} {n : Nat} {xs : List Value} (h : w.ownsRow B e s v n xs) (hB : B' ≤ B) : w.ownsRow B' e s v n xs := by
 obtain ⟨h0, h1 | ⟨g, cap, cur, h1, h2, h3⟩⟩ := h
 ·exact ⟨h0, .inl h1⟩
 ·exact ⟨h0, .inr ⟨g, cap, cur, h1, Nat.le_trans hB h2, h3⟩⟩
theorem sizeRp19 : (Tryz.prog.info? 38).map (·.size) = some 4 := by kernel_rfl
theorem zeroRp19 : (Tryz.prog.info? 38).map (fun i => i.zero) = some (some (.agg #[.int .i64 0, .slice none 0 0, .string ⟨#[]⟩, .slice none 0 0])) := by kernel_rfl
theorem ldRp19 {w : World} {b : Nat} {x0 x1 x2 x3 : Value} (h : Ar w b 38 #[x0, x1, x2, x3]) : (loadVar 38 ⟨b, 0, none⟩).run Tryz.prog w = .ok (.agg #[x0, x1, x2, x3]) w :=
 run_loadVar_row (P := Tryz.prog) w b 38 38 _ (0, 0) _ h Tryz.underlying38 rfl sizeRp19

namespace Fs
def fT : Fd := ⟨⟨#[99, 111, 110, 116, 101, 110, 116, 45, 116, 121, 112, 101]⟩, ⟨#[116, 101, 120, 116, 47, 112, 108, 97, 105, 110]⟩⟩
def bd (s : Int) : List UInt8 := Lib.itoa s ++ [10]
end Fs

namespace Tg

structure Tag where
 w : Bool
 v : List UInt8
def etC (c : Int) : Bool := (c == 33) || (decide (35 ≤ c) && decide (c ≤ 126)) || decide (128 ≤ c)
def etB (c : UInt8) : Bool := etC (c.toNat : Int)
def wk (l : List UInt8) : Bool := l.take 2 == [87, 47]
def wn (l : List UInt8) : Nat := if wk l then 2 else 0
def inn (l : List UInt8) : Nat := (l.takeWhile etB).length
def opq (l : List UInt8) : List UInt8 := l.drop (wn l)
def sz (l : List UInt8) : Nat := inn ((opq l).drop 1)
def isOne (l : List UInt8) : Bool := (opq l).head? == some 34 && ((opq l).drop (1 + sz l)).head? == some 34
def tagOf (l : List UInt8) : Tag := ⟨wk l, (opq l).take (sz l + 2)⟩
def nOf (l : List UInt8) : Nat := wn l + (sz l + 2)
def go (op : Bool) : List UInt8 → Option (List Tag)
  | [] => some []
  | c :: r => if Tx.blkB c then go op r else if c == 44 then go true r else
      if isOne (c :: r) && op then (go false (r.drop (nOf (c :: r) - 1))).map (tagOf (c :: r) :: ·) else none
 termination_by l => l.length
 decreasing_by all_goals simp; try omega

def sepB (c : UInt8) : Bool := Tx.blkB c || c == 44
def pieces (l : List UInt8) : List UInt8 := l.dropWhile sepB
def ends (l : List UInt8) : Bool := (l.dropWhile Tx.blkB == []) || ((l.dropWhile Tx.blkB).head? == some 44)

theorem go_nil (op : Bool) : go op [] = some [] := by rw [go]
theorem go_blank (op : Bool) (c : UInt8) (r : List UInt8) (h : Tx.blkB c = true) : go op (c :: r) = go op r := by rw [go, if_pos h]
theorem go_comma (op : Bool) (r : List UInt8) : go op (44 :: r) = go true r := by
 rw [go, if_neg (by decide), if_pos (by decide)]
theorem go_other (op : Bool) (c : UInt8) (r : List UInt8) (h : Tx.blkB c = false) (h2 : (c == 44) = false) : go op (c :: r) = if isOne (c :: r) && op then (go false ((c :: r).drop (nOf (c :: r)))).map (tagOf (c :: r) :: ·) else none := by
 rw [go, if_neg (by rw [h]; decide), if_neg (by rw [h2]; decide)];have : (c :: r).drop (nOf (c :: r)) = r.drop (nOf (c :: r) - 1) := by
  rw [show nOf (c :: r) = (nOf (c :: r) - 1) + 1 by unfold nOf; omega, List.drop_succ_cons];rfl
 rw [this]
theorem go_dw (op : Bool) (l : List UInt8) : go op (l.dropWhile Tx.blkB) = go op l := by
 induction l with
 | nil => rfl
 | cons c r ih =>
  cases h : Tx.blkB c
  ·rw [List.dropWhile_cons, h]; rfl
  ·rw [List.dropWhile_cons, h, go_blank op c r h, ← ih]; rfl
theorem go_pieces (l : List UInt8) : go true (pieces l) = go true l := by
 unfold pieces
 induction l with
 | nil => rfl
 | cons c r ih =>
  cases h : Tx.blkB c
  ·cases h2 : c == 44
   ·rw [List.dropWhile_cons, sepB, h, h2]; rfl
   ·obtain rfl := eq_of_beq h2;rw [List.dropWhile_cons, show sepB 44 = true by decide, go_comma, ← ih]; rfl
  ·rw [List.dropWhile_cons, sepB, h, go_blank true c r h, ← ih]; rfl
theorem pieces_head {l : List UInt8} {c : UInt8} {r : List UInt8} (h : pieces l = c :: r) : Tx.blkB c = false ∧ (c == 44) = false := by
 have h1 : sepB c = false := by
  have := List.head?_dropWhile_not sepB l;unfold pieces at h;rw [h] at this;simpa using this
 unfold sepB at h1;rw [Bool.or_eq_false_iff] at h1;exact h1
theorem go_behind (l : List UInt8) : go false l = if ends l then go true (pieces l) else none := by
 unfold ends;have hp : pieces l = pieces (l.dropWhile Tx.blkB) := by
  unfold pieces
  induction l with
  | nil => rfl
  | cons c r ih =>
   cases h : Tx.blkB c
   ·rw [List.dropWhile_cons (p := Tx.blkB), h]; rfl
   ·rw [List.dropWhile_cons, List.dropWhile_cons (p := Tx.blkB), h, sepB, h];exact ih
 rw [← go_dw false l, hp, go_pieces];cases hq : l.dropWhile Tx.blkB with
 | nil => simp [go_nil]
 | cons c r =>
  have hb : Tx.blkB c = false := by
   have := List.head?_dropWhile_not Tx.blkB l;rw [hq] at this;simpa using this
  cases h2 : c == 44
  ·rw [go_other false c r hb h2];have : (some c == some (44 : UInt8)) = false := by simpa using h2
   simp [this]
  ·obtain rfl := eq_of_beq h2;rw [go_comma, go_comma];simp
theorem go_step {l : List UInt8} {c : UInt8} {r : List UInt8} (hl : l = c :: r) (hb : Tx.blkB c = false) (h2 : (c == 44) = false) :
  go true l = if isOne l && ends (l.drop (nOf l)) then (go true (pieces (l.drop (nOf l)))).map (tagOf l :: ·) else none := by
 subst hl;rw [go_other true c r hb h2, go_behind];cases isOne (c :: r)
 ·simp
 ·cases ends ((c :: r).drop (nOf (c :: r))) <;> simp

-- blanks behind
theorem blk_not {x : UInt8} (h : Tx.blkB x = true) : x ≠ 34 ∧ x ≠ 47 ∧ x ≠ 87 ∧ etB x = false := by
 unfold Tx.blkB Tx.blkC at h;rw [Bool.or_eq_true] at h;have hx : x = 32 ∨ x = 9 := by
  rcases h with h | h
  ·left; apply UInt8.toNat_inj.1; have := eq_of_beq h; simp; omega
  ·right; apply UInt8.toNat_inj.1; have := eq_of_beq h; simp; omega
 rcases hx with rfl | rfl <;> decide
theorem head_app {o b : List UInt8} (hb : ∀ x ∈ b, Tx.blkB x = true) : ((o ++ b).head? == some 34) = (o.head? == some 34) := by
 cases o with
 | cons c r => rfl
 | nil =>
  cases b with
  | nil => rfl
  | cons x y =>
   have := (blk_not (hb x (by simp))).1;simp [this]
theorem inn_app {o b : List UInt8} (hb : ∀ x ∈ b, Tx.blkB x = true) : inn (o ++ b) = inn o := by
 unfold inn
 induction o with
 | nil =>
  cases b with
  | nil => rfl
  | cons x y => simp [(blk_not (hb x (by simp))).2.2.2]
 | cons c r ih =>
  rw [List.cons_append, List.takeWhile_cons, List.takeWhile_cons];cases etB c
  ·rfl
  ·simp [ih]
theorem inn_le (l : List UInt8) : inn l ≤ l.length := (List.takeWhile_sublist etB).length_le
theorem wk_app {l b : List UInt8} (hl : l ≠ []) (hb : ∀ x ∈ b, Tx.blkB x = true) : wk (l ++ b) = wk l := by
 unfold wk
 match l, hl with
 | [c], _ =>
  cases b with
  | nil => rfl
  | cons x y =>
   have := (blk_not (hb x (by simp))).2.1;simp [this]
 | c :: d :: r, _ => simp
theorem wn_le (l : List UInt8) : wn l ≤ l.length := by
 unfold wn;cases h : wk l
 ·simp
 ·unfold wk at h;have := congrArg List.length (eq_of_beq h);simp at this;simp; omega
theorem opq_app {l b : List UInt8} (hl : l ≠ []) (hb : ∀ x ∈ b, Tx.blkB x = true) : opq (l ++ b) = opq l ++ b := by
 have e : wn (l ++ b) = wn l := by unfold wn; rw [wk_app hl hb]
 unfold opq;rw [e, List.drop_append_of_le_length (wn_le l)]
theorem drop_app1 (o b : List UInt8) (hb : ∀ x ∈ b, Tx.blkB x = true) : inn ((o ++ b).drop 1) = inn (o.drop 1) := by
 cases o with
 | nil =>
  have : inn (b.drop 1) = inn ([] ++ b.drop 1) := rfl;rw [List.nil_append, this, inn_app (fun x hx => hb x (List.mem_of_mem_drop hx))];rfl
 | cons c r => simpa using inn_app (o := r) hb
theorem one_app {l b : List UInt8} (hl : l ≠ []) (hb : ∀ x ∈ b, Tx.blkB x = true) : isOne (l ++ b) = isOne l ∧ (isOne l = true → tagOf (l ++ b) = tagOf l ∧ nOf (l ++ b) = nOf l ∧ nOf l ≤ l.length) := by
 have e1 := opq_app hl hb;have e2 : sz (l ++ b) = sz l := by unfold sz; rw [e1, drop_app1 _ _ hb]
 have e3 : wn (l ++ b) = wn l := by unfold wn; rw [wk_app hl hb]
 have hi := inn_le ((opq l).drop 1);have hol : (opq l).length = l.length - wn l := by unfold opq; simp
 have hwl := wn_le l;have h1 : isOne (l ++ b) = isOne l := by
  unfold isOne;rw [e1, e2, head_app hb];cases hh : (opq l).head? == some 34
  ·rfl
  ·have hne : 1 ≤ (opq l).length := by
    cases ho : opq l with
    | nil => rw [ho] at hh; simp at hh
    | cons c r => simp
   have : 1 + sz l ≤ (opq l).length := by
    unfold sz;rw [List.length_drop] at hi; omega
   rw [List.drop_append_of_le_length this, head_app hb]
 refine ⟨h1, fun ho => ?_⟩;unfold isOne at ho;rw [Bool.and_eq_true] at ho;have hlt : 1 + sz l < (opq l).length := by
  cases hd : (opq l).drop (1 + sz l) with
  | nil => rw [hd] at ho; simp at ho
  | cons c r =>
   have := congrArg List.length hd;simp at this; omega
 refine ⟨?_, ?_, ?_⟩
 ·unfold tagOf;rw [wk_app hl hb, e1, e2, List.take_append_of_le_length (by omega)]
 ·unfold nOf; rw [e3, e2]
 ·unfold nOf; omega
def star (l : List UInt8) : Bool := Tx.trim l == [42]
def tags (l : List UInt8) : List Tag := if star l then [] else (go true l).getD []
def err (l : List UInt8) : Int := if star l then 0 else if (tags l).isEmpty then 150 else 0
end Tg
end Go.Proofs.YthhpejgpfaikaabGreatDoor
