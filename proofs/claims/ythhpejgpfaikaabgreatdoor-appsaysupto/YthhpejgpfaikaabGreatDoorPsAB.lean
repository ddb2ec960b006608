/-
  What the row stands on.
-/
import Derived.Laws.IdiomStrings
import Derived.Test.YthhpejgpfaikaabGreatDoorPsAA
import Derived.Deep.QuietTactic
import Derived.BigQuiet
import Derived.Maps.AppendAt
import Derived.WalkKit
import Derived.Laws.StructEq
import Derived.Deep.CutRange
import Derived.Shelf.SlSortCmp.QuietGrown
import Derived.Test.YthhpejgpfaikaabGreatDoorShelfR
import Derived.Lib.LaidTab
import Derived.Sort.Grow
import Derived.Lib.ItoaMem
import Derived.Deep.RegionWith
import Derived.Deep.DeepFit
namespace Go.Proofs.YthhpejgpfaikaabGreatDoor
set_option maxHeartbeats 64000000
namespace Tx

def Row (w : World) (b : Nat) (l : List UInt8) : Prop := ∀ j (hj : j < l.length), w.cell? ⟨b, j, none⟩ = some (.int .u8 (l[j].toNat : Int)) ∧ w.frozen? ⟨b, j, none⟩ = false

theorem Row.set {w : World} {b : Nat} {l : List UInt8} (h : Row w b l) (k : Nat) (c : UInt8) (v : Int) (hv : v = (c.toNat : Int)) : Row (w.setCell ⟨b, k, none⟩ (.int .u8 v)) b (l.set k c) := by
 subst hv;intro j hj;rw [List.length_set] at hj;refine ⟨?_, by rw [World.frozen?_setCell]; exact (h j hj).2⟩;by_cases e : k = j
 ·subst e;rw [World.cell?_setCell_same w _ _ (h k hj).1, List.getElem_set_self]
 ·rw [World.cell?_setCell_other w _ _ _ (by intro h; exact e (by cases h; rfl)), List.getElem_set_ne e];exact (h j hj).1

theorem Row.conv (w : World) (s : ByteArray) (e : TypeId) (cap : Nat) : Row ((w.alloc (.cells (bytesRow s cap) e ((bytesRow s cap).size, (bytesRow s cap).size + 1))).drew) w.heap.size s.data.toList := by
 intro j hj;have hj' : j < s.data.size := by simpa using hj
 refine ⟨?_, ?_⟩
 ·show (w.alloc _).cell? _ = _;rw [World.cell?_alloc_mark, bytesRow_at s cap j hj'];rfl
 ·show (w.alloc _).frozen? _ = _;rw [World.frozen?_alloc_mark];have : s.data.size ≤ (bytesRow s cap).size := by unfold bytesRow; simp
  simp; omega

theorem Row.back {P : Program} {w : World} {b : Nat} {l : List UInt8} (h : Row w b l) (src dst e : TypeId) (n cap : Nat) (hn : l.length = n) (hs : P.underlying src = some (.slice e)) (he : P.underlying e = some (.int .u8)) (hd : P.underlying dst = some .string) :
  (convert src dst (.slice (some ⟨b, 0, none⟩) n cap)).run P w = .ok (.string ⟨l.toArray⟩) w := by
 subst hn;exact run_convert_bytes_back w src dst e ⟨b, 0, none⟩ cap l hs he hd fun j hj => by
  have : (⟨b, 0, none⟩ : Addr).add j = ⟨b, j, none⟩ := by unfold Addr.add; split <;> simp_all
  rw [this]; exact (h j hj).1

def lowTo (l : List UInt8) (k : Nat) : List UInt8 := lower (l.take k) ++ l.drop k
theorem lowTo_zero (l : List UInt8) : lowTo l 0 = l := by simp [lowTo, lower]
theorem lowTo_length (l : List UInt8) (k : Nat) : (lowTo l k).length = l.length := by simp [lowTo, lower]; omega
theorem lowTo_all (l : List UInt8) (k : Nat) (h : l.length ≤ k) : lowTo l k = lower l := by
 simp [lowTo, List.take_of_length_le h, List.drop_eq_nil_of_le h]
theorem lowTo_at (l : List UInt8) (k : Nat) (h : k < l.length) (h' : k < (lowTo l k).length) : (lowTo l k)[k] = l[k] := by
 have e : (lowTo l k)[k]? = l[k]? := by
  unfold lowTo;rw [List.getElem?_append_right (by simp [lower]; omega)];simp [lower, Nat.min_eq_left (Nat.le_of_lt h)]
 rw [List.getElem?_eq_getElem h', List.getElem?_eq_getElem h, Option.some.injEq] at e;exact e
theorem lowTo_step (l : List UInt8) (k : Nat) (h : k < l.length) : lowTo l (k + 1) = (lowTo l k).set k (lowC l[k]) := by
 unfold lowTo;rw [List.set_append_right _ _ (by simp [lower]; omega), List.take_succ_eq_append_getElem h, lower, List.map_append, List.append_assoc];congr 1;have e : k - (lower (l.take k)).length = 0 := by simp [lower]; omega
 rw [e, List.drop_eq_getElem_cons h];rfl
theorem lowTo_stay (l : List UInt8) (k : Nat) (h : k < l.length) (hc : ¬ (65 ≤ l[k].toNat ∧ l[k].toNat ≤ 90)) : lowTo l (k + 1) = lowTo l k := by
 rw [lowTo_step l k h, lowC_no _ hc];refine List.ext_getElem (by simp) fun j h1 h2 => ?_;rw [List.getElem_set];split
 ·subst_vars; exact (lowTo_at l _ h _).symm
 ·rfl

end Tx

open Go.RowKit

theorem ret_str' {a b : ByteArray} (h : a = b) : Ending.returned (.string a) = .returned (.string b) := by rw [h]


theorem rLower_any (s : ByteArray) (w : World) (hs : s.size ≤ maxLen) :
  Calls Tryz.prog 23 #[.string s] w fun e w' => e = .returned (.string ⟨(Tx.lower s.data.toList).toArray⟩) ∧ Below w.heap.size w w' := by
 unfold maxLen at hs;have hconv := run_bytes_of_string (P := Tryz.prog) w 9 78 5 s Tryz.underlying9 Tryz.underlying78 Tryz.underlying5;go_enter Tryz.func23, Tryz.ntmps23;go_wp2;clear hconv;go_loopw [4] (fun i wr => ∃ k : Nat, k ≤ s.size ∧ i = .int .i64 k ∧ Tx.Row wr w.heap.size (Tx.lowTo s.data.toList k) ∧ Below w.heap.size w wr) (fun i _ => s.size - (intOf i).toNat)
 case atStart => exact ⟨0, Nat.zero_le _, rfl, by rw [Tx.lowTo_zero]; exact Tx.Row.conv w s _ _, ((Below.refl _ _).alloc (Nat.le_refl _) _).drew⟩
 case round =>
  obtain ⟨k, hk, rfl, hrow, hbel⟩ := hrel;by_cases hlt : k < s.size
  ·have hl : k < s.data.toList.length := by rw [← Lib.size_eq]; exact hlt
   have hat := hrow k (by rw [Tx.lowTo_length]; exact hl);rw [Tx.lowTo_at _ k hl] at hat;obtain ⟨hcell, hfr⟩ := hat;replace hcell : wr.cell? ⟨w.heap.size, k, none⟩ = some (.int .u8 (s[k].toNat : Int)) := hcell;have HR : Hid (Tx.Row wr w.heap.size (Tx.lowTo s.data.toList k)) := hrow;have HB : Hid (Below w.heap.size w wr) := hbel;clear hrow hbel;by_cases hc : (65 : Int) ≤ (s[k].toNat : Int) ∧ (s[k].toNat : Int) ≤ 90
   ·obtain ⟨hc1, hc2⟩ := hc;go_wp2;go_roundw
    case rel =>
     refine ⟨k + 1, by omega, by go_num, ?_, HB.out.setCell (Nat.le_refl _) _⟩;rw [Tx.lowTo_step _ k hl];exact HR.out.set k _ _ (by rw [show s.data.toList[k] = s[k] from rfl, Tx.lowC_up _ (by omega) (by omega)]; omega)
    case measure => simp [intOf]; omega
   ·by_cases hc1 : (65 : Int) ≤ (s[k].toNat : Int)
    all_goals
     go_wp2;go_roundw
     case rel => exact ⟨k + 1, by omega, by go_num, by rw [Tx.lowTo_stay _ k hl (by rw [show s.data.toList[k] = s[k] from rfl]; omega)]; exact HR.out, HB.out⟩
     case measure => simp [intOf]; omega
  ·have hback := hrow.back (P := Tryz.prog) 78 9 5 s.size (grownCap w s.size 0 5) (by rw [Tx.lowTo_length, Lib.size_eq]) Tryz.underlying78 Tryz.underlying5 Tryz.underlying9;have HF : Hid (Tx.lowTo s.data.toList k = Tx.lower s.data.toList) := Tx.lowTo_all _ k (by rw [← Lib.size_eq]; omega);have HB : Hid (Below w.heap.size w wr) := hbel;clear hrow hbel;go_wp2;go_ret;exact ⟨ret_str' (by rw [HF.out]), HB.out⟩


def sC (l : List (List UInt8)) : List Value := l.map fun t => .string ⟨t.toArray⟩
theorem ba_list (l : List UInt8) : (⟨l.toArray⟩ : ByteArray).toList = l := by rw [Lib.toList_data]
theorem has_drop {l : List (List UInt8)} {i : Nat} {t : List UInt8} (h : l[i]? = some t) (x : List UInt8) : (l.drop i).contains x = (t == x || (l.drop (i + 1)).contains x) := by
 obtain ⟨h1, h2⟩ := List.getElem?_eq_some_iff.1 h;rw [List.drop_eq_getElem_cons h1, h2, List.contains_cons, show (x == t) = (t == x) from Bool.eq_iff_iff.2 (by rw [beq_iff_eq, beq_iff_eq]; exact eq_comm)]

theorem rin14 (blk n : Nat) (l : List (List UInt8)) (hn : l.length = n) (x : ByteArray) (r : Bool) (hr : l.contains x.toList = r) (w : World) (h : Ar w blk 9 (sC l).toArray) (hl : n ≤ 1000) :
  Calls Tryz.prog 22 #[.slice (some ⟨blk, 0, none⟩) n n, .string x] w fun e w' => e = .returned (.bool r) ∧ w' = w := by
 have H := hid' h;have HN := hid' hn;have HR := hid' hr;clear h hn hr;go_enter Tryz.func22, Tryz.ntmps22;go_wp2;go_loopw [5] (fun s5 wr => ∃ i : Nat, s5 = .int .i64 (i : Int) ∧ i ≤ n ∧ wr = w ∧ Hid ((l.drop i).contains x.toList = r)) (fun s5 _ => n - (intOf s5).toNat)
 case atStart => exact ⟨0, rfl, Nat.zero_le _, rfl, HR⟩
 case round =>
  obtain ⟨i, rfl, hi, hwr, HI⟩ := hrel;subst wr;by_cases hlt : i < n
  ·have hlt2 : (i : Int) < (n : Int) := by omega
   obtain ⟨t, ht⟩ : ∃ t, l[i]? = some t := ⟨_, List.getElem?_eq_getElem (by rw [HN.out]; exact hlt)⟩;have c0 : w.cell? ⟨blk, i, none⟩ = some (.string ⟨t.toArray⟩) := H.out.cell i _ (by simp [sC, ht]);have hd := has_drop ht x.toList;obtain ⟨y, hy⟩ : ∃ y : ByteArray, (⟨t.toArray⟩ : ByteArray) = y := ⟨_, rfl⟩;rw [hy] at c0;have hyt : y.toList = t := by rw [← hy]; exact ba_list t
   rw [← hyt, HI.out] at hd;have HD := hid' hd;clear ht hd hy hyt;cases eb : (y.toList == x.toList)
   ·have HE : Hid ((l.drop (i + 1)).contains x.toList = r) := hid' (by rw [HD.out, eb]; rfl);go_wp2;go_roundw
    case rel => exact ⟨i + 1, by go_num, by omega, by first | rfl | trivial, HE⟩
    case measure => simp [intOf]; omega
   ·have HE : Hid (r = true) := hid' (by rw [HD.out, eb]; rfl);go_wp2;go_ret;exact ⟨by rw [HE.out]; rfl, rfl⟩
  ·obtain rfl : i = n := by omega
   have hlt2 : ¬ (i : Int) < (i : Int) := by omega
   have HE : Hid (r = false) := hid' (by rw [← HI.out, List.drop_of_length_le (by rw [HN.out]; exact Nat.le_refl _)]; rfl);clear hlt;go_wp2;go_ret;exact ⟨by rw [HE.out]; rfl, rfl⟩

set_option maxRecDepth 20000 in
theorem rbnd14 (x : ByteArray) (r : Bool) (hr : Ms.bnd x = r) (w : World) (hx : x.size ≤ 140737488355328) :
  Calls Tryz.prog 10 #[.string x] w fun e w' => e = .returned (.bool r) ∧ Below w.heap.size w w' := by
 have HR := hid' hr;clear hr;go_enter Tryz.func10, Tryz.ntmps10;go_wp2_with fail;have HA : Hid (Ar (w.alloc (.cells (sC Ms.conns).toArray 9)) w.heap.size 9 (sC Ms.conns).toArray) := hid' (heap_alloc_last w _);have HB0 : Hid (Below w.heap.size w (w.alloc (.cells (sC Ms.conns).toArray 9))) := hid' ((Below.refl _ _).alloc (Nat.le_refl _) _);change Calls _ _ _ (w.alloc (.cells (sC Ms.conns).toArray 9)) _;obtain ⟨bk, hbk⟩ : ∃ bk, w.heap.size = bk := ⟨_, rfl⟩;rw [hbk] at HA ⊢;generalize w.alloc (.cells (sC Ms.conns).toArray 9) = w0 at *;refine (rLower_any x _ (by unfold maxLen; omega)).mono ?_;rintro e w1 ⟨rfl, hb1⟩;have HA1 := hid' (HA.out.keep hb1);have HB1 := hid' (below_two HB0.out hb1);obtain ⟨y, hy⟩ : ∃ y : ByteArray, (⟨(Tx.lower x.data.toList).toArray⟩ : ByteArray) = y := ⟨_, rfl⟩;have HY : Hid (Ms.conns.contains y.toList = r) := hid' (by rw [← HR.out, ← hy, ba_list]; rfl);rw [hy];clear hb1 hy hbk HA HB0;go_wp2_with fail;refine (rin14 bk 5 Ms.conns rfl y r HY.out w1 HA1.out (by omega)).mono ?_;rintro e w2 ⟨rfl, hw2⟩;subst w2;go_wp2;go_ret;exact ⟨rfl, HB1.out⟩


theorem minfo_parts {P : Program} {t : TypeId} {z : Option Value} {s b : Nat} (h : (P.info? t).map (fun i => (i.zero, i.size, i.bytes)) = some (z, s, b)) : ∃ i, P.info? t = some i ∧ i.zero = z ∧ i.size = s ∧ i.bytes = b := by
 cases hq : P.info? t with
 | none => simp [hq] at h
 | some i => simp [hq] at h; exact ⟨i, rfl, h.1, h.2.1, h.2.2⟩
theorem infoF14 : (Tryz.prog.info? 44).map (fun i => (i.zero, i.size, i.bytes)) = some (some (.agg #[.string ⟨#[]⟩, .string ⟨#[]⟩]), 2, 32) := by kernel_rfl
theorem own_shape {w : World} {B : Nat} {e : TypeId} {s : Nat} {v : Value} {n : Nat} {xs : List Value} (h : w.ownsRow B e s v n xs) : ∃ ao cap, v = .slice ao n cap := by
 rcases h.2 with ⟨h1, rfl⟩ | ⟨g, cap, cur, h1, _⟩
 ·exact ⟨none, 0, h1⟩
 ·exact ⟨_, cap, h1⟩
theorem two_new (w : World) (T : TypeId) (x0 x1 : Value) : ∀ j v, [x0, x1][j]? = some v → (w.alloc (.cells #[x0, x1] T)).cell? ((⟨w.heap.size, 0, none⟩ : Addr).add j) = some v := by
 intro j v h;rw [Addr.add_mid, Nat.zero_add];have hA : Ar (w.alloc (.cells #[x0, x1] T)) w.heap.size T #[x0, x1] := heap_alloc_last w _;exact hA.cell j v (by simpa using h)

theorem u8_is {c : UInt8} {n : Nat} (hn : n < 256) : (c == UInt8.ofNat n) = ((c.toNat : Int) == (n : Int)) := by
 rw [Bool.eq_iff_iff, beq_iff_eq, beq_iff_eq];constructor
 ·rintro rfl; rw [UInt8.toNat_ofNat', Nat.mod_eq_of_lt hn]
 ·intro h;apply UInt8.toNat_inj.1;rw [UInt8.toNat_ofNat', Nat.mod_eq_of_lt hn]; omega

namespace Tx

def top : Int := 9223372036854775807
theorem top_eq : top = 9223372036854775807 := rfl
def numv (b : Int) (l : List UInt8) : Int := l.foldl (fun n c => n * b + dgt (c.toNat : Int)) 0
def digs (b : Int) (l : List UInt8) : Bool := allC (fun c => decide (dgt c < b)) l
theorem numv_snoc (b : Int) (l : List UInt8) (c : UInt8) : numv b (l ++ [c]) = numv b l * b + dgt (c.toNat : Int) := by
 unfold numv; rw [List.foldl_append]; rfl
theorem numv_nonneg (b : Int) (hb : 0 ≤ b) (l : List UInt8) : 0 ≤ numv b l := by
 unfold numv
 suffices h : ∀ n : Int, 0 ≤ n → 0 ≤ l.foldl (fun n c => n * b + dgt (c.toNat : Int)) n from h 0 (Int.le_refl _)
 induction l with
 | nil => intro n hn; exact hn
 | cons c l ih => intro n hn; exact ih _ (Int.add_nonneg (Int.mul_nonneg hn hb) (dgt_bd _).1)

def num (b : Int) (l : List UInt8) : Int × Int := if l.isEmpty || !digs b l then (0, 10) else if top < numv b l then (0, 5) else (numv b l, 0)

structure NumRel (b : Int) (l : List UInt8) (n : Int) (o : Bool) : Prop where
 digs : digs b l = true
 lo : 0 ≤ n
 hi : n ≤ top
 no : o = false → n = numv b l
 yes : o = true → top < numv b l
theorem NumRel.start (b : Int) : NumRel b [] 0 false := ⟨rfl, Int.le_refl _, by decide, fun _ => rfl, fun h => (by cases h)⟩
theorem digs_snoc (b : Int) (l : List UInt8) (c : UInt8) (h : digs b l = true) (hc : dgt (c.toNat : Int) < b) : digs b (l ++ [c]) = true := by
 unfold digs allC at *; rw [List.all_append, h]; simp [hc]
theorem NumRel.over {b : Int} {l : List UInt8} {n : Int} (h : NumRel b l n true) (hb : 1 ≤ b) (c : UInt8) (hc : dgt (c.toNat : Int) < b) : NumRel b (l ++ [c]) n true :=
 have hy : top < numv b (l ++ [c]) := by
  rw [numv_snoc];have h1 := h.yes rfl;have h2 := (dgt_bd (c.toNat : Int)).1;have h3 := numv_nonneg b (by omega) l;have h4 : numv b l * 1 ≤ numv b l * b := Int.mul_le_mul_of_nonneg_left hb h3;omega
 ⟨digs_snoc b l c h.digs hc, h.lo, h.hi, fun e => (by cases e), fun _ => hy⟩
theorem NumRel.goes {b : Int} {l : List UInt8} {n : Int} (h : NumRel b l n false) (c : UInt8) (hc : dgt (c.toNat : Int) < b) (hn : top < n * b + dgt (c.toNat : Int)) : NumRel b (l ++ [c]) n true :=
 ⟨digs_snoc b l c h.digs hc, h.lo, h.hi, fun e => (by cases e), fun _ => by rw [numv_snoc, ← h.no rfl]; exact hn⟩
theorem NumRel.step {b : Int} {l : List UInt8} {n : Int} (h : NumRel b l n false) (hb : 0 ≤ b) (c : UInt8) (hc : dgt (c.toNat : Int) < b) (hn : n * b + dgt (c.toNat : Int) ≤ top) : NumRel b (l ++ [c]) (n * b + dgt (c.toNat : Int)) false :=
 ⟨digs_snoc b l c h.digs hc, Int.add_nonneg (Int.mul_nonneg h.lo hb) (dgt_bd _).1, hn, fun _ => by rw [numv_snoc, ← h.no rfl], fun e => (by cases e)⟩
theorem num_bad (b : Int) (s : ByteArray) (k : Nat) (h : k < s.size) (hc : ¬ dgt (s[k].toNat : Int) < b) : num b s.data.toList = (0, 10) := by
 unfold num digs;rw [allC_no _ s k h (by simpa using hc)]; simp
theorem num_empty (b : Int) (l : List UInt8) (h : l.isEmpty = true) : num b l = (0, 10) := by unfold num; rw [h]; simp
theorem num_over (b : Int) (s : ByteArray) (k : Nat) (h : s.size ≤ k) (he : s.data.toList.isEmpty = false) (n : Int) (hr : NumRel b (s.data.toList.take k) n true) : num b s.data.toList = (0, 5) := by
 rw [List.take_of_length_le (by rw [← Lib.size_eq]; exact h)] at hr;unfold num;rw [he, hr.digs, if_neg (by decide), if_pos (hr.yes rfl)]
theorem num_ok (b : Int) (s : ByteArray) (k : Nat) (h : s.size ≤ k) (he : s.data.toList.isEmpty = false) (n : Int) (hr : NumRel b (s.data.toList.take k) n false) : num b s.data.toList = (n, 0) := by
 rw [List.take_of_length_le (by rw [← Lib.size_eq]; exact h)] at hr;have e := hr.no rfl;have hi := hr.hi;subst e;unfold num;rw [he, hr.digs, if_neg (by decide), if_neg (by omega)]

end Tx

namespace Ms
def goOn (c : UInt8) : Bool := !(c == 47) && !(c == 63)
def stop (L : List UInt8) : Nat := (L.takeWhile goOn).length
end Ms


def rqC (m s a p : ByteArray) (fv : Value) (b : ByteArray) (tv : Value) : Array Value := #[.string m, .string s, .string a, .string p, fv, .string b, tv]
theorem below_dn (w : World) (n : Nat) : Below w.heap.size w (w.drewN n) := ⟨rfl, rfl, rfl, Nat.le_refl _, fun _ _ => rfl⟩


def rpC (s : Int) (fv : Value) (b : ByteArray) (tv : Value) : Array Value := #[.int .i64 s, fv, .string b, tv]

namespace Tx

def addm (p : List UInt8) : List (List UInt8) := if (trim p).isEmpty then [] else [trim p]
def mems (cur : List UInt8) (q e : Bool) : List UInt8 → List (List UInt8)
 | [] => addm cur
 | c :: r => if e then mems (cur ++ [c]) q false r
  else if c == 34 then mems (cur ++ [c]) (!q) false r
  else if q && c == 92 then mems (cur ++ [c]) q true r
  else if !q && c == 44 then addm cur ++ mems [] q false r
  else mems (cur ++ [c]) q false r
def list (l : List UInt8) : List (List UInt8) := mems [] false false l

structure ListRel (l : List UInt8) (ms : List (List UInt8)) (st k : Nat) (q : Bool) : Prop where
 le : st ≤ l.length
 stk : st ≤ k
 many : ms.length ≤ k
 eq : list l = ms ++ mems ((l.drop st).take (k - st)) q false (l.drop k)
theorem ListRel.start (l : List UInt8) : ListRel l [] 0 0 false := ⟨Nat.zero_le _, Nat.le_refl _, Nat.le_refl _, by simp [list]⟩
theorem cur_snoc (l : List UInt8) (st k : Nat) (h : k < l.length) (hs : st ≤ k) : (l.drop st).take (k + 1 - st) = (l.drop st).take (k - st) ++ [l[k]] := by
 rw [show k + 1 - st = (k - st) + 1 by omega, List.take_succ_eq_append_getElem (by rw [List.length_drop]; omega), List.getElem_drop];congr 3; omega
theorem ListRel.quote {l : List UInt8} {ms : List (List UInt8)} {st k : Nat} {q : Bool} (h : ListRel l ms st k q) (hk : k < l.length) (hc : l[k] = 34) : ListRel l ms st (k + 1) (!q) :=
 ⟨h.le, by have := h.stk; omega, by have := h.many; omega, by
  rw [h.eq, List.drop_eq_getElem_cons hk, cur_snoc l st k hk h.stk, mems, hc]; simp⟩
theorem ListRel.plain {l : List UInt8} {ms : List (List UInt8)} {st k : Nat} {q : Bool} (h : ListRel l ms st k q) (hk : k < l.length) (hc : l[k] ≠ 34) (h1 : (q && l[k] == 92) = false) (h2 : (!q && l[k] == 44) = false) : ListRel l ms st (k + 1) q :=
 ⟨h.le, by have := h.stk; omega, by have := h.many; omega, by
  rw [h.eq, List.drop_eq_getElem_cons hk, cur_snoc l st k hk h.stk, mems, if_neg (by simp), if_neg (by simpa using hc), if_neg (by simp [h1]), if_neg (by simp [h2])]⟩
theorem ListRel.comma {l : List UInt8} {ms : List (List UInt8)} {st k : Nat} (h : ListRel l ms st k false) (hk : k < l.length) (hc : l[k] = 44) : ListRel l (ms ++ addm ((l.drop st).take (k - st))) (k + 1) (k + 1) false :=
 ⟨by omega, Nat.le_refl _, by
  have := h.many;rw [List.length_append];have : (addm ((l.drop st).take (k - st))).length ≤ 1 := by unfold addm; split <;> simp
  omega, by
  rw [h.eq, List.drop_eq_getElem_cons hk, mems, hc]; simp⟩
theorem ListRel.slash {l : List UInt8} {ms : List (List UInt8)} {st k : Nat} (h : ListRel l ms st k true) (hk : k < l.length) (hc : l[k] = 92) : ListRel l ms st (k + 2) true := by
 refine ⟨h.le, by have := h.stk; omega, by have := h.many; omega, ?_⟩;have hs := h.stk;rw [h.eq, List.drop_eq_getElem_cons hk, mems, if_neg (by simp), if_neg (by rw [hc]; decide), if_pos (by rw [hc]; decide)];by_cases h2 : k + 1 < l.length
 ·rw [List.drop_eq_getElem_cons h2, mems, if_pos rfl, show k + 2 = (k + 1) + 1 from rfl, cur_snoc l st (k + 1) h2 (by omega), cur_snoc l st k hk hs]
 ·have e1 : l.drop (k + 1) = [] := List.drop_eq_nil_of_le (by omega);have e2 : l.drop (k + 2) = [] := List.drop_eq_nil_of_le (by omega);have e3 : (l.drop st).take (k + 2 - st) = l.drop st := List.take_of_length_le (by rw [List.length_drop]; omega);have e4 : (l.drop st).take (k + 1 - st) = l.drop st := List.take_of_length_le (by rw [List.length_drop]; omega);rw [e1, e2, e3, ← cur_snoc l st k hk hs, e4]; rfl
theorem ListRel.stop {l : List UInt8} {ms : List (List UInt8)} {st k : Nat} {q : Bool} (h : ListRel l ms st k q) (hk : l.length ≤ k) : list l = ms ++ addm (l.drop st) := by
 have hs := h.stk;have := h.le;rw [h.eq, List.drop_eq_nil_of_le hk, mems, List.take_of_length_le (by rw [List.length_drop]; omega)]

end Tx


theorem tab_below {P : Program} {w w' : World} {name : String} {k : IntKind} {zs : List Int} (h : Lib.TabIs P w name k zs) (hb : Below w.heap.size w w') : Lib.TabIs P w' name k zs := by
 unfold Lib.TabIs World.var? at *;cases hg : P.globalNamed name with
 | none => simp [hg] at h
 | some g =>
  simp only [hg, Option.bind_some] at h ⊢;have hlt : g < w.heap.size := by
   rcases Nat.lt_or_ge g w.heap.size with h' | h'
   ·exact h'
   ·simp [Array.getElem?_eq_none h'] at h
  rw [hb.block g hlt];exact h
theorem below_drewN (w : World) (n : Nat) : Below w.heap.size w (w.drewN n) := ⟨rfl, rfl, rfl, Nat.le_refl _, fun _ _ => rfl⟩
theorem below_grow (w : World) (os : Array Obj) : Below w.heap.size w (Sort.grow w os) :=
 ⟨rfl, rfl, rfl, by simp [Sort.grow], fun k hk => by simp [Sort.grow, Array.getElem?_append_left hk]⟩

theorem decimal_any (n : Int) (h0 : -9223372036854775808 ≤ n) (h1 : n ≤ 9223372036854775807) (w : World) (htab : Lib.TabIs Tryz.prog w "internal/strconv.uint64pow10" .u64 Lib.pow10Tab) :
  Calls Tryz.prog 34 #[.int .i64 n] w fun e w' => e = .returned (.string ⟨(Lib.itoa n).toArray⟩) ∧ Below w.heap.size w w' := by
 go_enter Tryz.func34, Tryz.ntmps34;go_wp2_with fail;refine (Tryz.strconv_Itoa n h0 h1 _ htab).mono ?_;rintro e w1 ⟨rfl, k, os, hw⟩;have hb : Below w.heap.size w w1 := by rw [hw]; exact below_two (below_drewN w k) (below_grow _ _)
 clear hw;go_wp2;go_ret;exact ⟨rfl, hb⟩

theorem Tryz.info9 : (Tryz.prog.info? 9).map (fun i => (i.zero, i.size, i.bytes)) = some (some (.string ByteArray.empty), 1, 16) := by kernel_rfl
def strCells (l : List (List UInt8)) : List Value := l.map fun m => .string ⟨m.toArray⟩

theorem addMember_any (B : Nat) (v : Value) (ms : List (List UInt8)) (p : ByteArray) (w : World) (hp : p.size ≤ maxLen) (hown : w.ownsRow B 9 1 v ms.length (strCells ms)) (hB : B ≤ w.heap.size) (hm : ms.length + 1 ≤ 8796093022208) :
  Calls Tryz.prog 211 #[v, .string p] w fun e w' => ∃ v', e = .returned v' ∧ w'.ownsRow B 9 1 v' (ms ++ Tx.addm p.data.toList).length (strCells (ms ++ Tx.addm p.data.toList)) ∧ Below B w w' := by
 obtain ⟨i0, hi, hz0, hz1, hz2⟩ := info_parts Tryz.info9;by_cases he : (Tx.trim p.data.toList).isEmpty = true
 ·go_enter Tryz.func211, Tryz.ntmps211;go_wp2_with (go_at_call 198; refine (trim_any _ _ hp).mono ?_; rintro e w' ⟨rfl, rfl⟩);go_ret;refine ⟨v, rfl, ?_, Below.refl _ _⟩;rw [show Tx.addm p.data.toList = [] from by unfold Tx.addm; rw [if_pos he], List.append_nil];exact hown
 ·replace he : (Tx.trim p.data.toList).isEmpty = false := by simpa using he
  go_enter Tryz.func211, Tryz.ntmps211;go_wp2_with (first
   | (go_at_call 198; refine (trim_any _ _ hp).mono ?_; rintro e w' ⟨rfl, rfl⟩)
   | (at_builtin; refine wpList_append_own _ rfl _ _ 76 rfl B 9 i0 (.string ByteArray.empty) 1 16 Tryz.underlying76 hi hz0 hz1 hz2 rfl (by decide) _ _ _ rfl (hown.alloc _) ⟨_, 0, none⟩ 1 1 [.string ⟨(Tx.trim p.data.toList).toArray⟩] rfl rfl ?c1 ?c2 ?c3 ?c4 ?c5 ?_))
  case c1 =>
   intro j u hj
   match j, hj with
   | 0, hj => simp at hj; subst hj; simp [Addr.add]
  case c2 => intro u hu; simp at hu; subst hu; rfl
  case c3 => unfold maxLen; omega
  case c4 => omega
  case c5 => simp; omega
  ·intro v' w1 hown' hgrow _;have HG := hid hgrow;have HO := hid hown';clear hgrow hown';go_wp2;go_ret;refine ⟨v', rfl, ?_, ?_⟩
   ·rw [show Tx.addm p.data.toList = [Tx.trim p.data.toList] from by unfold Tx.addm; rw [if_neg (by simp [he])]];have := HO.out;rw [List.length_append, strCells, List.map_append];exact this
   ·exact ((Below.refl _ _).alloc hB _).grown HG.out (by simp; omega) (fun k hk => (hown.lt k hk).1)

namespace Tx

theorem itoa_lo (n : Int) (h0 : 0 ≤ n) (h : n < 10) : Lib.itoa n = [UInt8.ofNat (48 + n).toNat] := by
 obtain ⟨u, rfl⟩ := Int.eq_ofNat_of_zero_le h0;rw [Lib.itoa_nonneg, Lib.decDigits_one (by omega)];congr 2
theorem itoa_hi (n : Int) (h : 10 ≤ n) : Lib.itoa n = Lib.itoa (n / 10) ++ [UInt8.ofNat (48 + n % 10).toNat] := by
 obtain ⟨u, rfl⟩ := Int.eq_ofNat_of_zero_le (by omega : 0 ≤ n);rw [Lib.itoa_nonneg, show ((u : Int) / 10) = ((u / 10 : Nat) : Int) by omega, Lib.itoa_nonneg, Lib.decDigits, dif_neg (by omega)];congr 3
theorem itoa_nlo (n : Int) (h : n < 0) (h' : -10 < n) : Lib.itoa n = 45 :: Lib.itoa (-n) := by
 obtain ⟨u, hu⟩ := Int.eq_ofNat_of_zero_le (by omega : 0 ≤ -n);obtain rfl : n = -(u : Int) := by omega
 rw [Lib.itoa_neg u (by omega), Int.neg_neg, Lib.itoa_nonneg]
theorem itoa_nhi (n : Int) (h : n ≤ -10) : Lib.itoa n = Lib.itoa (n.tdiv 10) ++ [UInt8.ofNat (48 - n.tmod 10).toNat] := by
 obtain ⟨u, hu⟩ := Int.eq_ofNat_of_zero_le (by omega : 0 ≤ -n);obtain rfl : n = -(u : Int) := by omega
 have e1 : (-(u : Int)).tdiv 10 = -((u / 10 : Nat) : Int) := by rw [Int.neg_tdiv]; rfl
 have e2 : (-(u : Int)).tmod 10 = -((u % 10 : Nat) : Int) := by rw [Int.neg_tmod]; rfl
 rw [e1, e2, Lib.itoa_neg u (by omega), Lib.itoa_neg (u / 10) (by omega), Lib.decDigits, dif_neg (by omega), List.cons_append];congr 4; omega
theorem itoa_le (n : Int) : ∀ m : Nat, n.natAbs < 10 ^ m → (Lib.itoa n).length ≤ m + 2 := by
 intro m h;have hd : ∀ (m u : Nat), u < 10 ^ m → (Lib.decDigits u).length ≤ m + 1 := by
  intro m
  induction m with
  | zero => intro u hu; rw [Lib.decDigits_one (by omega)]; simp
  | succ m ih =>
   intro u hu;by_cases hs : u < 10
   ·rw [Lib.decDigits_one hs]; simp
   ·rw [Lib.decDigits, dif_neg hs, List.length_append];have := ih (u / 10) (by rw [Nat.pow_succ] at hu; omega);simp; omega
 unfold Lib.itoa;split
 ·have := hd m n.natAbs h; simp; omega
 ·have := hd m n.toNat (by omega); omega

end Tx


theorem str_snoc (q : List UInt8) (c : UInt8) : (⟨q.toArray⟩ : ByteArray) ++ ⟨#[c]⟩ = ⟨(q ++ [c]).toArray⟩ := by
 apply ByteArray.ext; simp
theorem bcell {W w1 : World} (hb : Below W.heap.size W w1) : ∀ b o, b < W.heap.size → w1.cell? ⟨b, o, none⟩ = W.cell? ⟨b, o, none⟩ := fun b o h => hb.cell (p := ⟨b, o, none⟩) h
theorem one_back (x : Int) (h0 : 0 ≤ x) (h1 : x ≤ 255) (W : World) (b : Nat) (h : W.cell? ⟨b, 0, none⟩ = some (.int .u8 x)) :
  (convert 78 9 (.slice (some ⟨b, 0, none⟩) 1 1)).run Tryz.prog W = .ok (.string ⟨#[UInt8.ofNat x.toNat]⟩) W := by
 have hx : x = ((UInt8.ofNat x.toNat).toNat : Int) := by simp; omega
 refine run_convert_bytes_back W _ _ 5 ⟨b, 0, none⟩ 1 [UInt8.ofNat x.toNat] Tryz.underlying78 Tryz.underlying5 Tryz.underlying9 ?_;intro j hj;obtain rfl : j = 0 := by simpa using hj
 rw [show (⟨b, 0, none⟩ : Addr).add 0 = ⟨b, 0, none⟩ by simp [Addr.add], h];simp only [List.getElem_cons_zero];rw [← hx]
theorem one_new (x : Int) (h0 : 0 ≤ x) (h1 : x ≤ 255) (W : World) :
  (convert 78 9 (.slice (some ⟨W.heap.size, 0, none⟩) 1 1)).run Tryz.prog (W.alloc (.cells #[.int .u8 x] 5)) = .ok (.string ⟨#[UInt8.ofNat x.toNat]⟩) (W.alloc (.cells #[.int .u8 x] 5)) :=
 one_back x h0 h1 _ _ (by rw [World.cell?_alloc_mark]; rfl)

set_option maxRecDepth 20000 in
theorem rDecimal_lo (n : Int) (h0 : 0 ≤ n) (h : n < 10) (w : World) :
  Calls Tryz.prog 11 #[.int .i64 n] w fun e w' => e = .returned (.string ⟨(Lib.itoa n).toArray⟩) ∧ Below w.heap.size w w' := by
 have HF := hid (Tx.itoa_lo n h0 h);have hone := one_new (48 + n) (by omega) (by omega) w;go_enter Tryz.func11, Tryz.ntmps11;go_wp2;go_ret;exact ⟨ret_str (by rw [HF.out]), (Below.refl _ _).alloc (Nat.le_refl _) _⟩

set_option maxRecDepth 20000 in
theorem rDecimal_nlo (n : Int) (h0 : n < 0) (h : -10 < n) (w : World) :
  Calls Tryz.prog 11 #[.int .i64 n] w fun e w' => e = .returned (.string ⟨(Lib.itoa n).toArray⟩) ∧ Below w.heap.size w w' := by
 have HF := hid (Tx.itoa_nlo n h0 h);have HL := hid (Tx.itoa_lo (-n) (by omega) (by omega));go_enter Tryz.func11, Tryz.ntmps11;go_wp2_with fail;refine (rDecimal_lo (-n) (by omega) (by omega) _).mono ?_;rintro e w1 ⟨rfl, hb1⟩;rw [HL.out];go_wp2;go_ret;exact ⟨ret_str (by rw [HF.out, HL.out]; rfl), hb1⟩

set_option maxRecDepth 20000 in
theorem rDecimal_hi (n : Int) (h : 10 ≤ n) (hm : n ≤ 9223372036854775807) (w : World) (q : List UInt8) (hq : q.length ≤ 1000) (c : UInt8)
  (hc : (48 : Int) + n.tmod 10 = (c.toNat : Int)) (ih : Hid (∀ w, Calls Tryz.prog 11 #[.int .i64 (IntKind.i64.wrap (n.tdiv 10))] w fun e w' => e = .returned (.string ⟨q.toArray⟩) ∧ Below w.heap.size w w')) :
  Calls Tryz.prog 11 #[.int .i64 n] w fun e w' => e = .returned (.string ⟨(q ++ [c]).toArray⟩) ∧ Below w.heap.size w w' := by
 have hx : IntKind.u8.wrap (IntKind.i64.wrap (48 + n.tmod 10)) = (c.toNat : Int) := by
  have := c.toNat_lt;rw [hc, IntKind.wrap_i64, IntKind.wrap_u8]; omega
 have hone : ∀ (W : World) (b : Nat), W.cell? ⟨b, 0, none⟩ = some (.int .u8 (c.toNat : Int)) → (convert 78 9 (.slice (some ⟨b, 0, none⟩) 1 1)).run Tryz.prog W = .ok (.string ⟨#[c]⟩) W := fun W b hb => by
  have := one_back (c.toNat : Int) (by omega) (by have := c.toNat_lt; omega) W b hb;simpa using this
 clear hc;go_enter Tryz.func11, Tryz.ntmps11;go_wp2;go_region_with (go_at_call 11; refine (ih.out _).mono ?_; rintro e w1 ⟨rfl, hb1⟩; have hcc := bcell hb1)
 all_goals go_wp2
 all_goals go_ret
 all_goals refine ⟨ret_str ?_, ?_⟩
 all_goals first
  | exact str_snoc q c
  | exact ((Below.refl _ _).drew.trans hb1).alloc hb1.size _
  | exact (((Below.refl _ w).alloc (Nat.le_refl _) _).drew).trans (hb1.mono (by simp))

set_option maxRecDepth 20000 in
theorem rDecimal_nhi (n : Int) (h : n ≤ -10) (hm : -9223372036854775808 ≤ n) (w : World) (q : List UInt8) (hq : q.length ≤ 1000) (c : UInt8)
  (hc : (48 : Int) - n.tmod 10 = (c.toNat : Int)) (ih : Hid (∀ w, Calls Tryz.prog 11 #[.int .i64 (IntKind.i64.wrap (n.tdiv 10))] w fun e w' => e = .returned (.string ⟨q.toArray⟩) ∧ Below w.heap.size w w')) :
  Calls Tryz.prog 11 #[.int .i64 n] w fun e w' => e = .returned (.string ⟨(q ++ [c]).toArray⟩) ∧ Below w.heap.size w w' := by
 have hx : IntKind.u8.wrap (IntKind.i64.wrap (48 - n.tmod 10)) = (c.toNat : Int) := by
  have := c.toNat_lt;rw [hc, IntKind.wrap_i64, IntKind.wrap_u8]; omega
 have hone : ∀ (W : World) (b : Nat), W.cell? ⟨b, 0, none⟩ = some (.int .u8 (c.toNat : Int)) → (convert 78 9 (.slice (some ⟨b, 0, none⟩) 1 1)).run Tryz.prog W = .ok (.string ⟨#[c]⟩) W := fun W b hb => by
  have := one_back (c.toNat : Int) (by omega) (by have := c.toNat_lt; omega) W b hb;simpa using this
 clear hc;go_enter Tryz.func11, Tryz.ntmps11;go_wp2;go_region_with (go_at_call 11; refine (ih.out _).mono ?_; rintro e w1 ⟨rfl, hb1⟩; have hcc := bcell hb1)
 all_goals go_wp2
 all_goals go_ret
 all_goals refine ⟨ret_str ?_, ?_⟩
 all_goals first
  | exact str_snoc q c
  | exact ((Below.refl _ _).drew.trans hb1).alloc hb1.size _
  | exact (((Below.refl _ w).alloc (Nat.le_refl _) _).drew).trans (hb1.mono (by simp))

theorem wrap_id (x : Int) (h0 : -9223372036854775808 ≤ x) (h1 : x ≤ 9223372036854775807) : IntKind.i64.wrap x = x := by
 rw [IntKind.wrap_i64]; omega
theorem u8_of (x : Int) (h0 : 0 ≤ x) (h1 : x ≤ 255) : x = ((UInt8.ofNat x.toNat).toNat : Int) := by simp; omega
theorem rDecimal_all : ∀ (m : Nat) (n : Int), n.natAbs ≤ m → -9223372036854775808 ≤ n → n ≤ 9223372036854775807 → ∀ w : World,
  Calls Tryz.prog 11 #[.int .i64 n] w fun e w' => e = .returned (.string ⟨(Lib.itoa n).toArray⟩) ∧ Below w.heap.size w w' := by
 intro m
 induction m with
 | zero => intro n h _ _ w; exact rDecimal_lo n (by omega) (by omega) w
 | succ m ih =>
  intro n h h0 h1 w;by_cases hn : n < 0
  ·by_cases h10 : -10 < n
   ·exact rDecimal_nlo n hn h10 w
   ·have e1 : n.tdiv 10 = -((-n) / 10) := by rw [← Int.tdiv_eq_ediv_of_nonneg (by omega : 0 ≤ -n), Int.neg_tdiv, Int.neg_neg]
    have e2 : n.tmod 10 = -((-n) % 10) := by rw [← Int.tmod_eq_emod_of_nonneg (by omega : 0 ≤ -n), Int.neg_tmod, Int.neg_neg]
    rw [Tx.itoa_nhi n (by omega)];refine rDecimal_nhi n (by omega) h0 w (Lib.itoa (n.tdiv 10)) ?_ _ (u8_of _ (by omega) (by omega)) (hid ?_)
    ·have := Tx.itoa_le (n.tdiv 10) 19 (by rw [e1]; omega); omega
    ·rw [wrap_id _ (by omega) (by omega)];exact ih _ (by omega) (by omega) (by omega)
  ·by_cases h10 : n < 10
   ·exact rDecimal_lo n (by omega) h10 w
   ·have e1 : n.tdiv 10 = n / 10 := Int.tdiv_eq_ediv_of_nonneg (by omega);have e2 : n.tmod 10 = n % 10 := Int.tmod_eq_emod_of_nonneg (by omega);rw [Tx.itoa_hi n (by omega), ← e1, ← e2];refine rDecimal_hi n (by omega) h1 w (Lib.itoa (n.tdiv 10)) ?_ _ (u8_of _ (by omega) (by omega)) (hid ?_)
    ·have := Tx.itoa_le (n.tdiv 10) 19 (by rw [e1]; omega); omega
    ·rw [wrap_id _ (by omega) (by omega)];exact ih _ (by omega) (by omega) (by omega)
theorem rDecimal_any (n : Int) (h0 : -9223372036854775808 ≤ n) (h1 : n ≤ 9223372036854775807) (w : World) :
  Calls Tryz.prog 11 #[.int .i64 n] w fun e w' => e = .returned (.string ⟨(Lib.itoa n).toArray⟩) ∧ Below w.heap.size w w' :=
 rDecimal_all n.natAbs n (Nat.le_refl _) h0 h1 w

end Go.Proofs.YthhpejgpfaikaabGreatDoor
