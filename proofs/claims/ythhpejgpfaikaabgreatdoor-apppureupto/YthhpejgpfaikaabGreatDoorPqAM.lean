/-
  What the row stands on.
-/
import Derived.Test.YthhpejgpfaikaabGreatDoorPqAA
import Derived.Test.YthhpejgpfaikaabGreatDoorPqAB
import Derived.Test.YthhpejgpfaikaabGreatDoorPqAG
import Derived.Test.YthhpejgpfaikaabGreatDoorPqAH
import Derived.Test.YthhpejgpfaikaabGreatDoorPqAK
import Derived.Test.YthhpejgpfaikaabGreatDoorPqAL
import Derived.Lib.Strings
import Derived.Laws.Cover1
import Derived.Laws.OwnMore
import Derived.Great.BuildSlice
import Derived.Deep.QuietTactic
import Derived.BigQuiet
import Derived.Deep.CutRange
import Derived.Maps.AppendAt
namespace Go.Proofs.YthhpejgpfaikaabGreatDoor
set_option maxHeartbeats 64000000
namespace Pt
abbrev T8 := List UInt8
def pre (l : T8) : T8 := l.takeWhile (fun c => !(c == 63))
def qry (l : T8) : T8 := l.drop ((pre l).length + 1)
def hx (c : UInt8) : Int := Tx.dgr (c.toNat : Int)
theorem hx_le (c : UInt8) : hx c ≤ 15 := by
 unfold hx Tx.dgr Tx.digC;simp only [Bool.and_eq_true, decide_eq_true_eq]
 repeat' split
 all_goals omega
def okb (n : Int) : Bool := !decide (n < 32) && (!(n == 127) && !(n == 47))
def byt (a b : UInt8) : Int := 16 * hx a + hx b
def undo : T8 → Option T8
 | [] => some []
 | [c] => if c == 37 then none else some [c]
 | [c, d] => if c == 37 then none else if d == 37 then none else some [c, d]
 | c :: a :: b :: t => if c == 37 then (if decide (0 ≤ hx a) && (decide (0 ≤ hx b) && okb (byt a b)) then (undo t).map (fun r => UInt8.ofNat (byt a b).toNat :: r) else none) else (undo (a :: b :: t)).map (fun r => c :: r)
def cutS : T8 → T8 → List T8
 | cur, [] => [cur]
 | cur, c :: r => if c == 47 then cur :: cutS [] r else cutS (cur ++ [c]) r
def parts (l : T8) : List T8 := (cutS [] l).filter (fun p => !p.isEmpty)
def dot : T8 := [46]
def dots : T8 := [46, 46]
def step (k : List T8) (p : T8) : Option (List T8) := if p == dots then (if k.isEmpty then none else some k.dropLast) else if p.isEmpty || p == dot then some k else some (k ++ [p])
def keep : List T8 → List T8 → Option (List T8)
 | k, [] => some k
 | k, p :: r => match step k p with | none => none | some k' => keep k' r
def join : List T8 → T8
 | [] => []
 | [p] => p
 | p :: q :: r => p ++ 47 :: join (q :: r)
def isLast (p : T8) : Bool := p.isEmpty || (p == dot || p == dots)
def out (k : List T8) (last : T8) : T8 := 47 :: (join k ++ (if !k.isEmpty && isLast last then [47] else []))
def lastOf (l : List T8) : T8 := l.getLast?.getD []
def core (p : T8) : T8 × Int :=
 if p.head? == some 47 then
  match undo p with
  | none => ([], 170)
  | some s => match keep [] (cutS [] s) with
   | none => ([], 171)
   | some k => (out k (lastOf (cutS [] s)), 0)
 else ([], 1)
def clean (l : T8) : T8 × T8 × Int := ((core (pre l)).1, (if (core (pre l)).2 == 0 then qry l else []), (core (pre l)).2)
def plain (c : UInt8) : Bool := (decide (97 ≤ c.toNat) && decide (c.toNat ≤ 122)) || (decide (65 ≤ c.toNat) && decide (c.toNat ≤ 90)) || (decide (48 ≤ c.toNat) && decide (c.toNat ≤ 57)) || c == 45 || c == 46 || c == 95 || c == 126 || c == 47
def hd16 (n : Nat) : UInt8 := UInt8.ofNat (if n < 10 then 48 + n else 55 + n)
def esc1 (c : UInt8) : T8 := if plain c then [c] else [37, hd16 (c.toNat / 16), hd16 (c.toNat % 16)]
def esc (l : T8) : T8 := l.flatMap esc1

def good (p : T8) : Prop := p ≠ [] ∧ p ≠ dot ∧ p ≠ dots ∧ 47 ∉ p
theorem cutS_ne : ∀ (l cur : T8), cutS cur l ≠ [] := by
 intro l
 induction l with
 | nil => intro cur; simp [cutS]
 | cons c r ih =>
  intro cur;rw [cutS];split
  ·simp
  ·exact ih _
theorem cutS_no : ∀ (l cur : T8), 47 ∉ cur → ∀ p ∈ cutS cur l, 47 ∉ p ∧ ∀ c ∈ p, c ∈ cur ∨ c ∈ l := by
 intro l
 induction l with
 | nil =>
  intro cur h p hp;simp only [cutS, List.mem_singleton] at hp;subst hp;exact ⟨h, fun c hc => .inl hc⟩
 | cons a r ih =>
  intro cur h p hp;rw [cutS] at hp;split at hp
  ·rcases List.mem_cons.1 hp with rfl | hp
   ·exact ⟨h, fun c hc => .inl hc⟩
   ·obtain ⟨h1, h2⟩ := ih [] (by simp) p hp;refine ⟨h1, fun c hc => ?_⟩;rcases h2 c hc with h3 | h3
    ·simp at h3
    ·exact .inr (List.mem_cons_of_mem _ h3)
  ·rename_i ha;have ha' : a ≠ 47 := by simpa using ha
   obtain ⟨h1, h2⟩ := ih (cur ++ [a]) (by simp; exact ⟨h, fun e => ha' e.symm⟩) p hp;refine ⟨h1, fun c hc => ?_⟩;rcases h2 c hc with h3 | h3
   ·rcases List.mem_append.1 h3 with h3 | h3
    ·exact .inl h3
    ·exact .inr (by simp at h3; simp [h3])
   ·exact .inr (List.mem_cons_of_mem _ h3)
theorem cutS_app : ∀ (x cur r : T8), 47 ∉ x → cutS cur (x ++ r) = cutS (cur ++ x) r := by
 intro x
 induction x with
 | nil => intro cur r _; simp
 | cons a b ih =>
  intro cur r h;have ha : (a == 47) = false := beq_false_of_ne (fun e => h (by rw [e]; simp));rw [List.cons_append, cutS, ha];simp only [Bool.false_eq_true, if_false];rw [ih _ _ (fun e => h (List.mem_cons_of_mem _ e))];simp
theorem cutS_join : ∀ (k : List T8) (r : T8), k ≠ [] → (∀ x ∈ k, 47 ∉ x) → cutS [] (join k ++ 47 :: r) = k ++ cutS [] r := by
 intro k
 induction k with
 | nil => intro r h; exact absurd rfl h
 | cons p k ih =>
  intro r _ h;cases k with
  | nil =>
   rw [join, cutS_app p [] _ (h p (by simp)), List.nil_append, cutS];rfl
  | cons q k =>
   rw [join, List.append_assoc, cutS_app p [] _ (h p (by simp)), List.nil_append, List.cons_append, cutS];simp only [beq_self_eq_true, if_true];rw [ih r (by simp) (fun x hx => h x (List.mem_cons_of_mem _ hx))];rfl
theorem cutS_join0 : ∀ (k : List T8), k ≠ [] → (∀ x ∈ k, 47 ∉ x) → cutS [] (join k) = k := by
 intro k
 induction k with
 | nil => intro h; exact absurd rfl h
 | cons p k ih =>
  intro _ h;cases k with
  | nil =>
   have := cutS_app p [] [] (h p (by simp));rw [List.append_nil, List.nil_append] at this;rw [join, this, cutS]
  | cons q k =>
   rw [join, cutS_app p [] _ (h p (by simp)), List.nil_append, cutS];simp only [beq_self_eq_true, if_true];rw [ih (by simp) (fun x hx => h x (List.mem_cons_of_mem _ hx))]
theorem join_flat : ∀ (k : List T8), k ≠ [] → k.flatMap (fun p => 47 :: p) = 47 :: join k := by
 intro k
 induction k with
 | nil => intro h; exact absurd rfl h
 | cons p k ih =>
  intro _;cases k with
  | nil => simp [join]
  | cons q k => rw [List.flatMap_cons, ih (by simp), join]; rfl
theorem undo_plain {c : UInt8} (h : (c == 37) = false) (r : T8) : undo (c :: r) = (undo r).map (fun x => c :: x) := by
 match r with
 | [] => simp [undo, h]
 | [d] =>
  cases hd : (d == 37)
  ·simp [undo, h, hd]
  ·simp [undo, h, hd]
 | a :: b :: t => rw [undo, h]; rfl
theorem undo_esc {a b : UInt8} {t : T8} (h : (decide (0 ≤ hx a) && (decide (0 ≤ hx b) && okb (byt a b))) = true) : undo (37 :: a :: b :: t) = (undo t).map (fun r => UInt8.ofNat (byt a b).toNat :: r) := by
 rw [undo, if_pos (by decide), if_pos h]
theorem undo_bad {a b : UInt8} {t : T8} (h : (decide (0 ≤ hx a) && (decide (0 ≤ hx b) && okb (byt a b))) = false) : undo (37 :: a :: b :: t) = none := by
 rw [undo, if_pos (by decide), h]; rfl
theorem undo_short {t : T8} (h : t.length < 2) : undo (37 :: t) = none := by
 match t with
 | [] => rfl
 | [d] => rfl
 | a :: b :: r => simp at h; omega
end Pt

namespace Fs
abbrev T8 := List UInt8
def str (l : T8) : ByteArray := ⟨l.toArray⟩
structure Rp where
 s : Int
 fs : List Fd
 b : T8
def nET : T8 := [101, 116, 97, 103]
def nLM : T8 := [108, 97, 115, 116, 45, 109, 111, 100, 105, 102, 105, 101, 100]
def nAR : T8 := [97, 99, 99, 101, 112, 116, 45, 114, 97, 110, 103, 101, 115]
def nCR : T8 := [99, 111, 110, 116, 101, 110, 116, 45, 114, 97, 110, 103, 101]
def nCT : T8 := [99, 111, 110, 116, 101, 110, 116, 45, 116, 121, 112, 101]
def nLO : T8 := [108, 111, 99, 97, 116, 105, 111, 110]
def nAL : T8 := [97, 108, 108, 111, 119]
def nRG : T8 := [114, 97, 110, 103, 101]
def vAL : T8 := [71, 69, 84, 44, 32, 72, 69, 65, 68, 44, 32, 79, 80, 84, 73, 79, 78, 83]
def vBY : T8 := [98, 121, 116, 101, 115]
def vMP : T8 := [109, 117, 108, 116, 105, 112, 97, 114, 116, 47, 98, 121, 116, 101, 114, 97, 110, 103, 101, 115, 59, 32, 98, 111, 117, 110, 100, 97, 114, 121, 61]
def vIX : T8 := [105, 110, 100, 101, 120, 46, 104, 116, 109, 108]
def mGET : T8 := [71, 69, 84]
def mHEAD : T8 := [72, 69, 65, 68]
def fd (n v : T8) : Fd := ⟨str n, str v⟩
def kinds : List (T8 × T8) := [
 ([46, 104, 116, 109, 108], [116, 101, 120, 116, 47, 104, 116, 109, 108]),
 ([46, 116, 120, 116], [116, 101, 120, 116, 47, 112, 108, 97, 105, 110]),
 ([46, 99, 115, 115], [116, 101, 120, 116, 47, 99, 115, 115]),
 ([46, 106, 115], [116, 101, 120, 116, 47, 106, 97, 118, 97, 115, 99, 114, 105, 112, 116]),
 ([46, 106, 115, 111, 110], [97, 112, 112, 108, 105, 99, 97, 116, 105, 111, 110, 47, 106, 115, 111, 110]),
 ([46, 112, 110, 103], [105, 109, 97, 103, 101, 47, 112, 110, 103])]
def vOC : T8 := [97, 112, 112, 108, 105, 99, 97, 116, 105, 111, 110, 47, 111, 99, 116, 101, 116, 45, 115, 116, 114, 101, 97, 109]
def kind (p : T8) : T8 := ((kinds.find? (fun k => Lib.hasSuffix p k.1)).map (·.2)).getD vOC
def fmt (t : Int) : T8 := Dt.fmtC t
def line (x : T8) : T8 := Rg.line (((List.range (x.length + 1)).find? (fun q => !Rg.stands (Rg.line q) x)).getD 0)
theorem line_ex (x : T8) : ∃ q, Rg.IsFree x q ∧ line x = Rg.line q := by
 obtain ⟨q, h1, h2, h3⟩ := Rg.free_ex x;refine ⟨q, ⟨h1, h2, h3⟩, ?_⟩;unfold line;rw [List.find?_range_eq_some.2 ⟨by rw [h1]; rfl, List.mem_range.2 (by omega), fun j hj => by rw [h2 j hj]; rfl⟩];rfl
def plain (s : Int) (l : List Fd) : Rp := ⟨s, fT :: l, bd s⟩
def folder (rest : T8) : Bool := rest.isEmpty || Lib.hasSuffix rest [47]
def name (root rest : T8) : T8 := (root ++ 47 :: rest) ++ (if folder rest then vIX else [])
def head (kd : T8) (e : Dk.En) : List Fd := [fd nCT kd, fd nET (Tg.mk e.seq e.body.size), fd nLM (fmt e.time), fd nAR vBY]
def whole (kd : T8) (e : Dk.En) : Rp := ⟨200, head kd e, e.body.data.toList⟩
def one (kd : T8) (e : Dk.En) (r : Rg.Rn) : Rp := ⟨206, head kd e ++ [fd nCR (Rg.told r e.body.size)], (e.body.data.toList.take (r.b + 1).toNat).drop r.a.toNat⟩
def sev (kd : T8) (e : Dk.En) (rs : List Rg.Rn) : Rp := ⟨206, head (vMP ++ line e.body.data.toList) e, Rg.partsS e.body.data.toList kd (line e.body.data.toList) rs⟩
def rgd (kd : T8) (e : Dk.En) (v : T8) : Rp :=
 if Rg.err v e.body.size == 161 then plain 416 [fd nCR (Rg.unmet e.body.size)]
 else if Rg.err v e.body.size == 0 then
  (match Rg.res v e.body.size with
  | [r] => one kd e r
  | rs => sev kd e rs)
 else whole kd e
def part (kd : T8) (e : Dk.En) (get : Bool) (l : List Fd) : Rp :=
 match (if get && Tg.sam l (Tg.mk e.seq e.body.size) e.time then Tg.vals l nRG else []) with
 | [v] => rgd kd e v
 | _ => whole kd e
def ansOf (p : T8) (f : Option Dk.En) (below : Bool) (method target rest : T8) (l : List Fd) : Rp :=
 if method == mGET || method == mHEAD then
  match f with
  | none => if !folder rest && below then plain 301 [fd nLO (Pt.esc target ++ [47])] else plain 404 []
  | some e =>
   if Tg.dec true l (Tg.mk e.seq e.body.size) e.time == 412 then plain 412 []
   else if Tg.dec true l (Tg.mk e.seq e.body.size) e.time == 304 then ⟨304, [fd nET (Tg.mk e.seq e.body.size), fd nLM (fmt e.time)], []⟩
   else part (kind p) e (method == mGET) l
 else plain 405 [fd nAL vAL]
def ans (es : List Dk.En) (root method target rest : T8) (l : List Fd) : Rp :=
 ansOf (name root rest) (Dk.get (name root rest) es) (!(Dk.lst (name root rest ++ [47]) es).isEmpty) method target rest l

end Fs

open Go.RowKit

theorem du8_eq {c : UInt8} {n : Nat} (h : ((c.toNat : Int) == (n : Int)) = true) (hn : n < 256) : c = UInt8.ofNat n := by
 rw [beq_iff_eq] at h;apply UInt8.toNat_inj.1;rw [UInt8.toNat_ofNat', Nat.mod_eq_of_lt hn]; omega
theorem du8_ne {c : UInt8} {n : Nat} (h : ((c.toNat : Int) == (n : Int)) = false) (hn : n < 256) : c ≠ UInt8.ofNat n := by
 rw [beq_eq_false_iff_ne] at h;intro e; apply h; rw [e, UInt8.toNat_ofNat', Nat.mod_eq_of_lt hn]
theorem path_long (L : List UInt8) (h : 255 < L.length) : Dk.path L = false := by
 cases L with
 | nil => rfl
 | cons c r => simp only [Dk.path]; rw [decide_eq_false (by simp at h; omega)]; rfl
theorem path_short (L : List UInt8) (h : L.length < 2) : Dk.path L = false := by
 match L, h with
 | [], _ => rfl
 | [c], _ => simp [Dk.path, Dk.pOk, Dk.good]
theorem take_one (L : List UInt8) (f k : Nat) (c : UInt8) (hf : f ≤ k) (hc : L[k]? = some c) : (L.drop f).take (k + 1 - f) = (L.drop f).take (k - f) ++ [c] := by
 rw [show k + 1 - f = (k - f) + 1 by omega, List.take_add_one, List.getElem?_drop, show f + (k - f) = k by omega, hc];rfl
theorem drop_one (L : List UInt8) (k : Nat) (c : UInt8) (hc : L[k]? = some c) : L.drop k = c :: L.drop (k + 1) := by
 obtain ⟨h1, h2⟩ := List.getElem?_eq_some_iff.1 hc;rw [List.drop_eq_getElem_cons h1, h2]

set_option maxRecDepth 20000 in
theorem rpath (s : ByteArray) (b : Bool) (hb : Dk.path s.data.toList = b) (w : World) (hs : s.size ≤ 9223372036854775807) : Calls Tryz.prog 31 #[.string s] w fun e w' => e = .returned (.bool b) ∧ w' = w := by
 have HB := hid' hb;clear hb;have hsz : s.data.toList.length = s.size := by rw [← Lib.size_eq]
 by_cases h1 : 255 < s.size
 ·have HF : Hid (b = false) := hid' (by rw [← HB.out]; exact path_long _ (by omega));have h1' : (255 : Int) < (s.size : Int) := by omega
  clear hsz;go_enter Tryz.func31, Tryz.ntmps31;go_wp2;go_ret;exact ⟨by rw [HF.out]; rfl, rfl⟩
 have h1' : ¬ (255 : Int) < (s.size : Int) := by omega
 by_cases h2 : s.size < 2
 ·have HF : Hid (b = false) := hid' (by rw [← HB.out]; exact path_short _ (by omega));have h2' : (s.size : Int) < 2 := by omega
  clear hsz;go_enter Tryz.func31, Tryz.ntmps31;go_wp2;go_ret;exact ⟨by rw [HF.out]; rfl, rfl⟩
 have h2' : ¬ (s.size : Int) < 2 := by omega
 have h0 : 0 < s.size := by omega
 obtain ⟨L, hL⟩ : ∃ L, s.data.toList = L := ⟨_, rfl⟩;have HL := hid' hL;rw [hL] at hsz HB;have HSZ := hid' hsz;have hc0 : L[0]? = some s[0] := by rw [← hL, List.getElem?_eq_getElem (by rw [hL]; omega)]; rfl
 by_cases c0' : ((s[0].toNat : Int) == 47) = false
 ·have HF : Hid (b = false) := hid' (by
   rw [← HB.out];have := drop_one L 0 _ hc0;rw [List.drop_zero] at this;rw [this];have hne := du8_ne c0' (by decide);have : (s[0] == 47) = false := beq_false_of_ne hne;simp only [Dk.path, this, Bool.false_and, Bool.and_false])
  clear hsz hL hc0;go_enter Tryz.func31, Tryz.ntmps31;go_wp2;go_ret;exact ⟨by rw [HF.out]; rfl, rfl⟩
 have c0 : ((s[0].toNat : Int) == 47) = true := by simpa using c0'
 clear c0';have HP : Hid (b = Dk.pOk [] (L.drop 1)) := hid' (by
  rw [← HB.out];have := drop_one L 0 _ hc0;rw [List.drop_zero] at this;have hne := du8_eq c0 (by decide);have e47 : (s[0] == 47) = true := by rw [hne]; rfl
  have hlen : (L.drop (0 + 1)).length + 1 ≤ 255 := by rw [List.length_drop]; omega
  rw [this];simp only [Dk.path, e47, Bool.true_and, decide_eq_true hlen, List.drop_succ_cons, List.drop_zero])
 clear hsz hL hc0;go_enter Tryz.func31, Tryz.ntmps31;go_wp2;go_loopw [3, 4, 5] (fun s3 s4 _ wr => ∃ f k : Nat, s3 = .int .i64 (f : Int) ∧ s4 = .int .i64 (k : Int) ∧ k ≤ s.size + 1 ∧ f ≤ k ∧ wr = w ∧ Hid ((k ≤ s.size → b = Dk.pOk ((L.drop f).take (k - f)) (L.drop k)) ∧ (k = s.size + 1 → b = true))) (fun _ s4 _ _ => s.size + 1 - (intOf s4).toNat)
 case atStart => exact ⟨1, 1, rfl, rfl, by omega, Nat.le_refl _, rfl, hid' ⟨fun _ => by rw [HP.out]; simp, fun h => by omega⟩⟩
 case round =>
  obtain ⟨f, k, rfl, rfl, hk, hfk, hwr, HR⟩ := hrel;subst wr;by_cases hlt : k < s.size
  ·have hlt2 : (k : Int) < (s.size : Int) := by omega
   have hle2 : (k : Int) ≤ (s.size : Int) := by omega
   have hck : L[k]? = some s[k] := by rw [← HL.out, List.getElem?_eq_getElem (by rw [← Lib.size_eq]; exact hlt)]; rfl
   have hdr := drop_one L k _ hck;have HB2 : Hid (b = Dk.pOk ((L.drop f).take (k - f)) (s[k] :: L.drop (k + 1))) := hid' (by rw [← hdr]; exact HR.out.1 (by omega));have HTK : Hid ((L.drop f).take (k + 1 - f) = (L.drop f).take (k - f) ++ [s[k]]) := hid' (take_one L f k _ hfk hck);clear hck hdr HR;by_cases ck : ((s[k].toNat : Int) == 47) = true
   ·have HK : Hid (s[k] = 47) := hid' (du8_eq ck (by decide));obtain ⟨p, hp⟩ : ∃ p, s.extract f k = p := ⟨_, rfl⟩;have HPL : Hid (p.toList = (L.drop f).take (k - f)) := hid' (by rw [← hp, Lib.toList_data, Lib.extract_data, HL.out]);have HB3 : Hid (b = (Dk.good p.toList && Dk.pOk [] (L.drop (k + 1)))) := hid' (by rw [HB2.out, HPL.out, Dk.pOk, if_pos HK.out]);clear HB2 HK;by_cases g1 : (p.toList == []) = true
    ·have HF : Hid (b = false) := hid' (by rw [HB3.out]; simp only [Dk.good, g1]; rfl);go_wp2;go_ret;exact ⟨by rw [HF.out]; rfl, rfl⟩
    have g1' : (p.toList == []) = false := by simpa using g1
    by_cases g2 : (p.toList == [46]) = true
    ·have HF : Hid (b = false) := hid' (by rw [HB3.out]; simp only [Dk.good, g2]; simp);clear g1;go_wp2;go_ret;exact ⟨by rw [HF.out]; rfl, rfl⟩
    have g2' : (p.toList == [46]) = false := by simpa using g2
    by_cases g3 : (p.toList == [46, 46]) = true
    ·have HF : Hid (b = false) := hid' (by rw [HB3.out]; simp only [Dk.good, g3]; simp);clear g1 g2;go_wp2;go_ret;exact ⟨by rw [HF.out]; rfl, rfl⟩
    have g3' : (p.toList == [46, 46]) = false := by simpa using g3
    have HN : Hid (b = Dk.pOk ((L.drop (k + 1)).take (k + 1 - (k + 1))) (L.drop (k + 1))) := hid' (by
     rw [HB3.out];have : Dk.good p.toList = true := by unfold Dk.good; rw [g1', g2', g3']; rfl
     rw [this]; simp)
    clear g1 g2 g3;go_wp2;go_roundw
    case rel => exact ⟨k + 1, k + 1, by go_num, by go_num, by omega, Nat.le_refl _, by first | rfl | trivial, hid' ⟨fun _ => HN.out, fun h => by omega⟩⟩
    case measure => simp [intOf]; omega
   ·have ck' : ((s[k].toNat : Int) == 47) = false := by simpa using ck
    have HK : Hid (¬ s[k] = 47) := hid' (du8_ne ck' (by decide));have HB3 : Hid (b = ((decide (32 ≤ s[k].toNat) && decide (s[k].toNat ≤ 126)) && Dk.pOk ((L.drop f).take (k - f) ++ [s[k]]) (L.drop (k + 1)))) := hid' (by rw [HB2.out, Dk.pOk, if_neg HK.out]);clear HB2 HK ck;by_cases d1 : s[k].toNat < 32
    ·have HF : Hid (b = false) := hid' (by rw [HB3.out, decide_eq_false (by omega)]; rfl);have d1' : (s[k].toNat : Int) < 32 := by omega
     go_wp2;go_ret;exact ⟨by rw [HF.out]; rfl, rfl⟩
    have d1' : ¬ (s[k].toNat : Int) < 32 := by omega
    by_cases d2 : 126 < s[k].toNat
    ·have HF : Hid (b = false) := hid' (by rw [HB3.out, decide_eq_false (show ¬ s[k].toNat ≤ 126 by omega)]; simp);have d2' : (126 : Int) < (s[k].toNat : Int) := by omega
     go_wp2;go_ret;exact ⟨by rw [HF.out]; rfl, rfl⟩
    have d2' : ¬ (126 : Int) < (s[k].toNat : Int) := by omega
    have HN : Hid (b = Dk.pOk ((L.drop f).take (k + 1 - f)) (L.drop (k + 1))) := hid' (by
     rw [HB3.out, HTK.out, decide_eq_true (by omega), decide_eq_true (by omega)]; rfl)
    go_wp2;go_roundw
    case rel => exact ⟨f, k + 1, rfl, by go_num, by omega, by omega, by first | rfl | trivial, hid' ⟨fun _ => HN.out, fun h => by omega⟩⟩
    case measure => simp [intOf]; omega
  ·by_cases hke : k = s.size
   ·have hlt2 : ¬ (k : Int) < (s.size : Int) := by omega
    have hle2 : (k : Int) ≤ (s.size : Int) := by omega
    obtain ⟨p, hp⟩ : ∃ p, s.extract f k = p := ⟨_, rfl⟩;have HPL : Hid (p.toList = (L.drop f).take (k - f)) := hid' (by rw [← hp, Lib.toList_data, Lib.extract_data, HL.out]);have HB3 : Hid (b = Dk.good p.toList) := hid' (by
     rw [HR.out.1 (by omega), HPL.out, List.drop_of_length_le (i := k) (by rw [HSZ.out]; omega)]; rfl)
    have HKE := hid' hke;have hks : k ≤ s.size := by omega
    clear hke HR hlt;by_cases g1 : (p.toList == []) = true
    ·have HF : Hid (b = false) := hid' (by rw [HB3.out]; simp only [Dk.good, g1]; rfl);go_wp2;go_ret;exact ⟨by rw [HF.out]; rfl, rfl⟩
    have g1' : (p.toList == []) = false := by simpa using g1
    by_cases g2 : (p.toList == [46]) = true
    ·have HF : Hid (b = false) := hid' (by rw [HB3.out]; simp only [Dk.good, g2]; simp);clear g1;go_wp2;go_ret;exact ⟨by rw [HF.out]; rfl, rfl⟩
    have g2' : (p.toList == [46]) = false := by simpa using g2
    by_cases g3 : (p.toList == [46, 46]) = true
    ·have HF : Hid (b = false) := hid' (by rw [HB3.out]; simp only [Dk.good, g3]; simp);clear g1 g2;go_wp2;go_ret;exact ⟨by rw [HF.out]; rfl, rfl⟩
    have g3' : (p.toList == [46, 46]) = false := by simpa using g3
    have HN : Hid (b = true) := hid' (by rw [HB3.out]; unfold Dk.good; rw [g1', g2', g3']; rfl);clear g1 g2 g3;go_wp2;go_roundw
    case rel => exact ⟨k + 1, k + 1, by go_num, by go_num, by have := HKE.out; omega, Nat.le_refl _, by first | rfl | trivial, hid' ⟨fun h => by have := HKE.out; omega, fun _ => HN.out⟩⟩
    case measure => simp [intOf]; omega
   ·have hle2 : ¬ (k : Int) ≤ (s.size : Int) := by omega
    have HN : Hid (b = true) := hid' (HR.out.2 (by omega));clear hke hlt HR;go_wp2;go_ret;exact ⟨by rw [HN.out]; rfl, rfl⟩


def enV (e : Dk.En) : List Value := [.string e.path, .string e.body, .int .i64 e.time, .int .i64 e.seq]
def enC (es : List Dk.En) : List Value := es.flatMap enV
theorem enC_append (l m : List Dk.En) : enC (l ++ m) = enC l ++ enC m := by simp [enC]
theorem enC_cons (p : Dk.En) (m : List Dk.En) : enC (p :: m) = enV p ++ enC m := by simp [enC]
theorem enC_length (l : List Dk.En) : (enC l).length = l.length * 4 := by
 induction l with
 | nil => rfl
 | cons a r ih => rw [enC_cons]; simp [enV]; omega
theorem en_at (l : List Dk.En) (i : Nat) (p : Dk.En) (h : l[i]? = some p) : ∀ j, j < 4 → (enC l)[i * 4 + j]? = (enV p)[j]? := by
 induction l generalizing i with
 | nil => simp at h
 | cons a r ih =>
  intro j hj;rw [enC_cons];cases i with
  | zero => simp at h; subst h; rw [List.getElem?_append_left (by simp [enV]; omega)]; congr 1; omega
  | succ i =>
   rw [List.getElem?_append_right (by simp [enV]; omega), show (i + 1) * 4 + j - (enV a).length = i * 4 + j by simp [enV]; omega];exact ih i (by simpa using h) j hj
theorem en_take (l : List Dk.En) (i : Nat) : enC (l.take i) = (enC l).take (i * 4) := by
 induction l generalizing i with
 | nil => simp [enC]
 | cons a r ih =>
  cases i with
  | zero => simp [enC]
  | succ i =>
   have : (i + 1) * 4 = (enV a).length + i * 4 := by simp [enV]; omega
   rw [List.take_succ_cons, enC_cons, enC_cons, ih, this, List.take_append, List.take_of_length_le (l := enV a) (by omega), Nat.add_sub_cancel_left]
theorem en_drop (l : List Dk.En) (i : Nat) : enC (l.drop i) = (enC l).drop (i * 4) := by
 induction l generalizing i with
 | nil => simp [enC]
 | cons a r ih =>
  cases i with
  | zero => simp
  | succ i =>
   have : (i + 1) * 4 = (enV a).length + i * 4 := by simp [enV]; omega
   rw [List.drop_succ_cons, enC_cons, ih, this, List.drop_append, List.drop_of_length_le (l := enV a) (by omega), Nat.add_sub_cancel_left, List.nil_append]
theorem en_one (l : List Dk.En) : ∀ u ∈ enC l, u.oneCell' = true := by
 intro u hu;simp only [enC, List.mem_flatMap] at hu;obtain ⟨p, _, hp⟩ := hu;simp only [enV, List.mem_cons, List.not_mem_nil, or_false] at hp;rcases hp with rfl | rfl | rfl | rfl <;> rfl

def RE (w : World) (v : Value) (n : Nat) (xs : List Value) : Prop :=
 (v = .slice none 0 0 ∧ n = 0) ∨ ∃ a cap, v = .slice (some a) n cap ∧ ∀ j u, xs[j]? = some u → (a.add j).block < w.heap.size ∧ w.cell? (a.add j) = some u
theorem RE.keep {w w' : World} {v : Value} {n : Nat} {xs : List Value} (h : RE w v n xs) (hb : Below w.heap.size w w') : RE w' v n xs := by
 rcases h with h | ⟨a, cap, hv, hc⟩
 ·exact .inl h
 ·exact .inr ⟨a, cap, hv, fun j u hj => ⟨Nat.lt_of_lt_of_le (hc j u hj).1 hb.size, (hb.cell (hc j u hj).1).trans (hc j u hj).2⟩⟩
theorem RE.of_own {w : World} {B : Nat} {e : TypeId} {s : Nat} {v : Value} {n : Nat} {xs : List Value} (h : w.ownsRow B e s v n xs) : RE w v n xs := by
 rcases h.2 with ⟨hv, hn⟩ | ⟨g, cap, cur, hv, _, h3, _⟩
 ·exact .inl ⟨hv, hn⟩
 ·refine .inr ⟨⟨g, 0, none⟩, cap, hv, fun j u hj => ⟨?_, ?_⟩⟩
  ·have := (Array.getElem?_eq_some_iff.1 h3).1;unfold Addr.add;split <;> exact this
  ·exact h.cells (g := g) (by rw [hv]; rfl) j u hj
theorem RE.shape {w : World} {v : Value} {n : Nat} {xs : List Value} (h : RE w v n xs) : ∃ ao cap, v = .slice ao n cap := by
 rcases h with ⟨h, rfl⟩ | ⟨a, cap, h, _⟩
 ·exact ⟨none, 0, h⟩
 ·exact ⟨some a, cap, h⟩
theorem RE.four {w : World} {ao : Option Addr} {n n' cap : Nat} {l : List Dk.En} (h : RE w (.slice ao n cap) n' (enC l)) (hn : n' = l.length) (i : Nat) (p : Dk.En) (hp : l[i]? = some p) : ∃ a, ao = some a ∧ w.cell? (a.add (i * 4)) = some (.string p.path) ∧ w.cell? ⟨(a.add (i * 4)).block, (a.add (i * 4)).off + 1, none⟩ = some (.string p.body) ∧ w.cell? ⟨(a.add (i * 4)).block, (a.add (i * 4)).off + 2, none⟩ = some (.int .i64 p.time) ∧ w.cell? ⟨(a.add (i * 4)).block, (a.add (i * 4)).off + 3, none⟩ = some (.int .i64 p.seq) := by
 rcases h with ⟨_, rfl⟩ | ⟨a, cap', hv, hc⟩
 ·have := (List.getElem?_eq_some_iff.1 hp).1; omega
 ·injection hv with h1 _ _;have key : ∀ j u, j < 4 → (enV p)[j]? = some u → w.cell? (a.add (i * 4 + j)) = some u := fun j u hj hu => (hc _ _ ((en_at l i p hp j hj).trans hu)).2;have k0 := key 0 _ (by omega) rfl;have k1 := key 1 _ (by omega) rfl;have k2 := key 2 _ (by omega) rfl;have k3 := key 3 _ (by omega) rfl;rw [← Addr.add_add] at k0 k1 k2 k3;refine ⟨a, h1, ?_, ?_, ?_, ?_⟩
  ·simpa [Addr.add] using k0
  ·simpa [Addr.add] using k1
  ·simpa [Addr.add] using k2
  ·simpa [Addr.add] using k3

structure RD (w : World) (B b : Nat) (v : Value) (q : Int) (es : List Dk.En) : Prop where
 ge : B ≤ b
 obj : Ar w b 34 #[v, .int .i64 q]
 row : w.ownsRow B 68 4 v es.length (enC es)
 ok : Dk.Ok es
 le : es.length ≤ 1024
def DS13 (b : Nat) (v : Value) (k : Nat) : Prop := k = b ∨ v.ownBlock = some k
theorem RD.lb {w : World} {B b : Nat} {v : Value} {q : Int} {es : List Dk.En} (h : RD w B b v q es) : B ≤ w.heap.size := Nat.le_trans h.ge (Nat.le_of_lt h.obj.lt)
theorem RD.rs {w : World} {B b : Nat} {v : Value} {q : Int} {es : List Dk.En} (h : RD w B b v q es) : ∀ k, DS13 b v k → B ≤ k ∧ k < w.heap.size := by
 rintro k (rfl | hk)
 ·exact ⟨h.ge, h.obj.lt⟩
 ·exact ⟨(own_ty h.row k hk).1, own_lt h.row k hk⟩
theorem RD.other {S : Nat → Prop} {w w' : World} {B b : Nat} {v : Value} {q : Int} {es : List Dk.En} (h : RD w B b v q es) (hf : LF S w w') (hs : ∀ k, DS13 b v k → ¬ S k) : RD w' B b v q es :=
 ⟨h.ge, hf.ar h.obj (hs b (.inl rfl)), own_same h.row (fun k hk => hf.block k (own_lt h.row k hk) (hs k (.inr hk))), h.ok, h.le⟩
theorem RD.keep {w w' : World} {B b : Nat} {v : Value} {q : Int} {es : List Dk.En} (h : RD w B b v q es) (hb : Below w.heap.size w w') : RD w' B b v q es :=
 h.other (LF.of_below (S := fun _ => False) hb) (fun _ _ => id)
theorem RD.drewN {w : World} {B b : Nat} {v : Value} {q : Int} {es : List Dk.En} (h : RD w B b v q es) (m : Nat) : RD (w.drewN m) B b v q es := h.keep ⟨rfl, rfl, rfl, Nat.le_refl _, fun _ _ => rfl⟩
theorem down_shape {w : World} {B : Nat} {e : TypeId} {s : Nat} {v : Value} {n : Nat} {xs : List Value} (h : w.ownsRow B e s v n xs) : ∃ ao cap, v = .slice ao n cap := by
 rcases h.2 with ⟨h, h0⟩ | ⟨g, cap, cur, h, _⟩
 ·exact ⟨none, 0, by rw [h, h0]⟩
 ·exact ⟨_, _, h⟩

set_option maxRecDepth 20000 in
theorem dat (B b : Nat) (v : Value) (q : Int) (es : List Dk.En) (x : ByteArray) (i : Nat) (d : Bool) (hi : Dk.at' x.data.toList es = i) (hd : Dk.has x.data.toList es = d) (w : World) (h : RD w B b v q es) :
  Calls Tryz.prog 32 #[.pointer (some ⟨b, 0, none⟩), .string x] w fun e w' => e = .returned (.tuple #[.int .i64 (i : Int), .bool d]) ∧ ∃ m, w' = w.drewN m := by
 have c0 := h.obj.cell 0 _ rfl;obtain ⟨ao, cap, hv⟩ := down_shape h.row;subst hv;have HR := hid' (RE.of_own h.row);have hl := h.le;have HIL : Hid (i ≤ es.length) := hid' (by rw [← hi]; exact Dk.at_le _ _);have HBE : Hid (∀ t p, t < i → es[t]? = some p → Dk.key p < x.data.toList) := hid' (fun t p ht hp => Dk.pl_below x.data.toList (Dk.ks es) t (Dk.key p) (by rw [← hi] at ht; exact ht) (by simp [Dk.ks, hp]));have HAT : Hid (∀ p, es[i]? = some p → ¬ Dk.key p < x.data.toList) := hid' (fun p hp => Dk.pl_at x.data.toList (Dk.ks es) (Dk.key p) (by rw [← hi] at hp; simp only [Dk.ks, List.getElem?_map]; unfold Dk.at' Dk.ks at hp; rw [hp]; rfl));have HM : Hid (x.data.toList ∈ Dk.ks es ↔ (Dk.ks es)[i]? = some x.data.toList) := hid' (by rw [← hi]; exact Dk.mem_iff _ _ h.ok);have HD := hid' hd;obtain ⟨n, hn⟩ : ∃ n, es.length = n := ⟨_, rfl⟩;have HN := hid' hn;rw [hn] at HR c0 hl HIL;clear h hn hi hd;go_enter Tryz.func32, Tryz.ntmps32;go_wp2;go_loopw [6] (fun s6 wr => ∃ k : Nat, s6 = .int .i64 (k : Int) ∧ k ≤ i ∧ wr = w) (fun s6 _ => n - (intOf s6).toNat)
 case atStart => exact ⟨0, rfl, Nat.zero_le _, rfl⟩
 case round =>
  obtain ⟨k, rfl, hk, hwr⟩ := hrel;subst wr;have hin := HIL.out;by_cases hlt : k < n
  ·have hlt2 : (k : Int) < (n : Int) := by omega
   obtain ⟨p, hp⟩ : ∃ p, es[k]? = some p := ⟨_, List.getElem?_eq_getElem (by rw [HN.out]; exact hlt)⟩;obtain ⟨a, hao, y0, y1, y2, y3⟩ := HR.out.four HN.out.symm k p hp;subst hao;clear y1 y2 y3;by_cases hki : k < i
   ·have hpx : Op.bytesLess p.path.toList x.toList = true := by
     rw [bytesLess_eq, Lib.toList_data, Lib.toList_data];exact decide_eq_true (HBE.out k p hki hp)
    clear hp;go_wp2;go_roundw
    case rel => exact ⟨k + 1, by go_num, by omega, by first | rfl | trivial⟩
    case measure => simp [intOf]; omega
   ·obtain rfl : k = i := by omega
    have hpx : Op.bytesLess p.path.toList x.toList = false := by
     rw [bytesLess_eq, Lib.toList_data, Lib.toList_data];exact decide_eq_false (HAT.out p hp)
    have hde : (p.path.toList == x.toList) = d := by
     rw [← HD.out, Lib.toList_data, Lib.toList_data];have h1 := HM.out;have h2 : (Dk.ks es)[k]? = some (Dk.key p) := by simp [Dk.ks, hp]
     rw [h2] at h1;unfold Dk.has;by_cases e : Dk.key p = x.data.toList
     ·rw [decide_eq_true (h1.2 (by rw [e]))]; exact beq_iff_eq.2 e
     ·rw [decide_eq_false (fun hm => e (by have := h1.1 hm; injection this))]; exact beq_false_of_ne e
    clear hp hin;go_wp2;go_quiet (fail);go_wp2;go_ret2;exact ⟨rfl, _, rfl⟩
  ·have hlt2 : ¬ (k : Int) < (n : Int) := by omega
   obtain rfl : k = n := by omega
   obtain rfl : i = k := by omega
   have HDE : Hid (d = false) := hid' (by
    rw [← HD.out];refine decide_eq_false fun hm => ?_;have h1 := HM.out.1 hm;rw [List.getElem?_eq_none (by rw [Dk.ks_len, HN.out]; exact Nat.le_refl _)] at h1;cases h1)
   clear hin hlt;go_wp2;go_ret2;exact ⟨by rw [HDE.out]; rfl, 0, rfl⟩


theorem dinfo_parts {P : Program} {t : TypeId} {z : Option Value} {s b : Nat} (h : (P.info? t).map (fun i => (i.zero, i.size, i.bytes)) = some (z, s, b)) : ∃ i, P.info? t = some i ∧ i.zero = z ∧ i.size = s ∧ i.bytes = b := by
 cases hq : P.info? t with
 | none => simp [hq] at h
 | some i => simp [hq] at h; exact ⟨i, rfl, h.1, h.2.1, h.2.2⟩
theorem dinfoE : (Tryz.prog.info? 68).map (fun i => (i.zero, i.size, i.bytes)) = some (some (.agg #[.string ⟨#[]⟩, .string ⟨#[]⟩, .int .i64 0, .int .i64 0]), 4, 48) := by kernel_rfl
theorem down_le {w : World} {B B' : Nat} {e : TypeId} {s : Nat} {v : Value} {n : Nat} {xs : List Value} (h : w.ownsRow B e s v n xs) (hB : B' ≤ B) : w.ownsRow B' e s v n xs := by
 refine ⟨h.1, ?_⟩;rcases h.2 with h0 | ⟨g, cap, cur, hv, hb, r⟩
 ·exact .inl h0
 ·exact .inr ⟨g, cap, cur, hv, Nat.le_trans hB hb, r⟩
theorem down_cell {w : World} {B : Nat} {e : TypeId} {s g n cap : Nat} {xs : List Value} (h : w.ownsRow B e s (.slice (some ⟨g, 0, none⟩) n cap) n xs) (j : Nat) (u : Value) (hj : xs[j]? = some u) : w.cell? ⟨g, j, none⟩ = some u := by
 have := h.cells (g := g) rfl j u hj
 rwa [Addr.add_mid, Nat.zero_add] at this
theorem down_form {w : World} {B : Nat} {e : TypeId} {s n : Nat} {v : Value} {xs : List Value} (h : w.ownsRow B e s v n xs) (hn : 0 < n) : ∃ g cap, v = .slice (some ⟨g, 0, none⟩) n cap ∧ n ≤ cap ∧ cap ≤ maxLen := by
 rcases h.2 with ⟨_, h0⟩ | ⟨g, cap, cur, hv, _, _, h1, h2, _⟩
 ·omega
 ·exact ⟨g, cap, hv, h1, h2⟩
def PutOf13 (es : List Dk.En) (q : Int) (x y : ByteArray) (t : Int) (c : Int) (es' : List Dk.En) (q' : Int) : Prop :=
 (c = 130 ∧ Dk.path x.data.toList = false ∧ es' = es ∧ q' = q) ∨
 (c = 3 ∧ (Dk.path x.data.toList = true ∧ 65536 < y.size) ∧ es' = es ∧ q' = q) ∨
 (c = 5 ∧ (Dk.path x.data.toList = true ∧ y.size ≤ 65536 ∧ (t < 0 ∨ 253402300799 < t)) ∧ es' = es ∧ q' = q) ∨
 (c = 4 ∧ (Dk.path x.data.toList = true ∧ y.size ≤ 65536 ∧ (0 ≤ t ∧ t ≤ 253402300799) ∧ Dk.has x.data.toList es = false ∧ 1024 ≤ es.length) ∧ es' = es ∧ q' = q) ∨
 (c = 0 ∧ (Dk.path x.data.toList = true ∧ y.size ≤ 65536 ∧ (0 ≤ t ∧ t ≤ 253402300799) ∧ (Dk.has x.data.toList es = true ∨ es.length < 1024)) ∧ es' = Dk.put ⟨x, y, t, q + 1⟩ es ∧ q' = q + 1)
theorem putOf13_ex (es : List Dk.En) (q : Int) (x y : ByteArray) (t : Int) : ∃ c es' q', PutOf13 es q x y t c es' q' := by
 cases h1 : Dk.path x.data.toList
 ·exact ⟨130, _, _, .inl ⟨rfl, h1, rfl, rfl⟩⟩
 by_cases h2 : 65536 < y.size
 ·exact ⟨3, _, _, .inr (.inl ⟨rfl, ⟨h1, h2⟩, rfl, rfl⟩)⟩
 by_cases h3 : t < 0 ∨ 253402300799 < t
 ·exact ⟨5, _, _, .inr (.inr (.inl ⟨rfl, ⟨h1, by omega, h3⟩, rfl, rfl⟩))⟩
 by_cases h4 : Dk.has x.data.toList es = false ∧ 1024 ≤ es.length
 ·exact ⟨4, _, _, .inr (.inr (.inr (.inl ⟨rfl, ⟨h1, by omega, by omega, h4.1, h4.2⟩, rfl, rfl⟩)))⟩
 ·refine ⟨0, _, _, .inr (.inr (.inr (.inr ⟨rfl, ⟨h1, by omega, by omega, ?_⟩, rfl, rfl⟩)))⟩;cases h5 : Dk.has x.data.toList es
  ·exact .inr (by have : ¬ 1024 ≤ es.length := fun h => h4 ⟨h5, h⟩; omega)
  ·exact .inl rfl

set_option maxRecDepth 20000 in
theorem dput_no (B b : Nat) (v : Value) (q : Int) (es : List Dk.En) (x y : ByteArray) (t : Int) (w : World) (h : RD w B b v q es) (hx : x.size ≤ 9223372036854775807) (c : Int)
  (hc : (c = 130 ∧ Dk.path x.data.toList = false) ∨ (c = 3 ∧ (Dk.path x.data.toList = true ∧ 65536 < y.size)) ∨ (c = 5 ∧ (Dk.path x.data.toList = true ∧ y.size ≤ 65536 ∧ (t < 0 ∨ 253402300799 < t))) ∨ (c = 4 ∧ (Dk.path x.data.toList = true ∧ y.size ≤ 65536 ∧ (0 ≤ t ∧ t ≤ 253402300799) ∧ Dk.has x.data.toList es = false ∧ 1024 ≤ es.length))) :
  Calls Tryz.prog 18 #[.pointer (some ⟨b, 0, none⟩), .string x, .string y, .int .i64 t] w fun e w' => e = .returned (.int .i64 c) ∧ ∃ m, w' = w.drewN m := by
 rcases hc with ⟨rfl, h1⟩ | ⟨rfl, h1, h2⟩ | ⟨rfl, h1, h2, h3⟩ | ⟨rfl, h1, h2, h3, h4, h5⟩
 ·have HP := hid' (rpath x false h1 w hx);clear h h1;go_enter Tryz.func18, Tryz.ntmps18;go_wp2_with fail;refine HP.out.mono ?_;rintro e w1 ⟨rfl, rfl⟩;go_wp2;go_ret;exact ⟨rfl, 0, rfl⟩
 ·have HP := hid' (rpath x true h1 w hx);have h2' : (65536 : Int) < (y.size : Int) := by omega
  clear h h1;go_enter Tryz.func18, Tryz.ntmps18;go_wp2_with fail;refine HP.out.mono ?_;rintro e w1 ⟨rfl, rfl⟩;go_wp2;go_ret;exact ⟨rfl, 0, rfl⟩
 ·have HP := hid' (rpath x true h1 w hx);have h2' : ¬ (65536 : Int) < (y.size : Int) := by omega
  clear h h1;rcases h3 with h3 | h3
  ·go_enter Tryz.func18, Tryz.ntmps18;go_wp2_with fail;refine HP.out.mono ?_;rintro e w1 ⟨rfl, rfl⟩;go_wp2;go_ret;exact ⟨rfl, 0, rfl⟩
  ·have h4 : ¬ t < 0 := by omega
   go_enter Tryz.func18, Tryz.ntmps18;go_wp2_with fail;refine HP.out.mono ?_;rintro e w1 ⟨rfl, rfl⟩;go_wp2;go_ret;exact ⟨rfl, 0, rfl⟩
 ·have HP := hid' (rpath x true h1 w hx);have h2' : ¬ (65536 : Int) < (y.size : Int) := by omega
  have h3' : ¬ t < 0 := by omega
  have h3'' : ¬ 253402300799 < t := by omega
  have HA := hid' (dat B b v q es x _ false rfl h4 w h);have c0 : ∀ m, (w.drewN m).cell? ⟨b, 0, none⟩ = some v := fun m => h.obj.cell 0 _ rfl;obtain ⟨ao, cap, hv⟩ := down_shape h.row;obtain ⟨n, hn⟩ : ∃ n, es.length = n := ⟨_, rfl⟩;rw [hn] at hv h5;subst hv;have hge : (1024 : Int) ≤ (n : Int) := by omega
  clear h h1 h3 h4 hn;go_enter Tryz.func18, Tryz.ntmps18;go_wp2_with fail;refine HP.out.mono ?_;rintro e w1 ⟨rfl, rfl⟩;go_wp2_with fail;refine HA.out.mono ?_;rintro e w2 ⟨rfl, m, hw2⟩;have c0' := c0 m;rw [← hw2] at c0';have HW := hid' hw2;clear hw2 c0;go_wp2;go_ret;exact ⟨rfl, m, HW.out⟩

end Go.Proofs.YthhpejgpfaikaabGreatDoor
