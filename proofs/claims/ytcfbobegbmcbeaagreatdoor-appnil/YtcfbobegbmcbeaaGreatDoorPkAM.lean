/-
  Paths on lists of bytes: what is of no program.
-/
import Derived.Test.YtcfbobegbmcbeaaGreatDoorPkAA
import Derived.Test.YtcfbobegbmcbeaaGreatDoorPkAB
import Derived.Test.YtcfbobegbmcbeaaGreatDoorPkAG
import Derived.Test.YtcfbobegbmcbeaaGreatDoorPkAH
import Derived.Test.YtcfbobegbmcbeaaGreatDoorPkAK
import Derived.Test.YtcfbobegbmcbeaaGreatDoorPkAL
import Derived.Sort.Walk0
import Derived.Deep.CutRange
import Derived.Laws.Cover1
import Derived.Laws.OwnMore
import Derived.Great.BuildSlice
import Derived.Deep.QuietTactic
import Derived.BigQuiet
import Derived.Maps.AppendAt
import Derived.Laws.AppendOwnNone
namespace Go.Proofs.YtcfbobegbmcbeaaGreatDoor
namespace Pt
abbrev T8 := List UInt8
def pre (l : T8) : T8 := l.takeWhile (fun c => !(c == 63))
def qry (l : T8) : T8 := l.drop ((pre l).length + 1)
def hx (c : UInt8) : Int := Tx.dgr (c.toNat : Int)
theorem hx_le (c : UInt8) : hx c ≤ 15 := by
 unfold hx Tx.dgr Tx.digC
 simp only [Bool.and_eq_true, decide_eq_true_eq]
 repeat' split
 all_goals omega
def okb (n : Int) : Bool := !decide (n < 32) && (!(n == 127) && !(n == 47))
def byt (a b : UInt8) : Int := 16 * hx a + hx b
def undo : T8 → Option T8
 | [] => some []
 | [c] => if c == 37 then none else some [c]
 | [c, d] => if c == 37 then none else if d == 37 then none else some [c, d]
 | c :: a :: b :: t => if c == 37 then (if decide (0 ≤ hx a) && (decide (0 ≤ hx b) && okb (byt a b)) then (undo t).map (fun r => UInt8.ofNat (byt a b).toNat :: r) else none) else (undo (a :: b :: t)).map (fun r => c :: r)
def cutS : T8 → T8 → List T8
 | cur, [] => [cur]
 | cur, c :: r => if c == 47 then cur :: cutS [] r else cutS (cur ++ [c]) r
def parts (l : T8) : List T8 := (cutS [] l).filter (fun p => !p.isEmpty)
def dot : T8 := [46]
def dots : T8 := [46, 46]
def step (k : List T8) (p : T8) : Option (List T8) := if p == dots then (if k.isEmpty then none else some k.dropLast) else if p.isEmpty || p == dot then some k else some (k ++ [p])
def keep : List T8 → List T8 → Option (List T8)
 | k, [] => some k
 | k, p :: r => match step k p with | none => none | some k' => keep k' r
def join : List T8 → T8
 | [] => []
 | [p] => p
 | p :: q :: r => p ++ 47 :: join (q :: r)
def isLast (p : T8) : Bool := p.isEmpty || (p == dot || p == dots)
def out (k : List T8) (last : T8) : T8 := 47 :: (join k ++ (if !k.isEmpty && isLast last then [47] else []))
def lastOf (l : List T8) : T8 := l.getLast?.getD []
def core (p : T8) : T8 × Int :=
 if p.head? == some 47 then
  match undo p with
  | none => ([], 170)
  | some s => match keep [] (cutS [] s) with
   | none => ([], 171)
   | some k => (out k (lastOf (cutS [] s)), 0)
 else ([], 1)
def clean (l : T8) : T8 × T8 × Int := ((core (pre l)).1, (if (core (pre l)).2 == 0 then qry l else []), (core (pre l)).2)
def plain (c : UInt8) : Bool := (decide (97 ≤ c.toNat) && decide (c.toNat ≤ 122)) || (decide (65 ≤ c.toNat) && decide (c.toNat ≤ 90)) || (decide (48 ≤ c.toNat) && decide (c.toNat ≤ 57)) || c == 45 || c == 46 || c == 95 || c == 126 || c == 47
def hd16 (n : Nat) : UInt8 := UInt8.ofNat (if n < 10 then 48 + n else 55 + n)
def esc1 (c : UInt8) : T8 := if plain c then [c] else [37, hd16 (c.toNat / 16), hd16 (c.toNat % 16)]
def esc (l : T8) : T8 := l.flatMap esc1

def good (p : T8) : Prop := p ≠ [] ∧ p ≠ dot ∧ p ≠ dots ∧ 47 ∉ p
theorem cutS_ne : ∀ (l cur : T8), cutS cur l ≠ [] := by
 intro l
 induction l with
 | nil => intro cur; simp [cutS]
 | cons c r ih =>
  intro cur
  rw [cutS]
  split
  ·simp
  ·exact ih _
theorem cutS_no : ∀ (l cur : T8), 47 ∉ cur → ∀ p ∈ cutS cur l, 47 ∉ p ∧ ∀ c ∈ p, c ∈ cur ∨ c ∈ l := by
 intro l
 induction l with
 | nil =>
  intro cur h p hp
  simp only [cutS, List.mem_singleton] at hp
  subst hp
  exact ⟨h, fun c hc => .inl hc⟩
 | cons a r ih =>
  intro cur h p hp
  rw [cutS] at hp
  split at hp
  ·rcases List.mem_cons.1 hp with rfl | hp
   ·exact ⟨h, fun c hc => .inl hc⟩
   ·obtain ⟨h1, h2⟩ := ih [] (by simp) p hp
    refine ⟨h1, fun c hc => ?_⟩
    rcases h2 c hc with h3 | h3
    ·simp at h3
    ·exact .inr (List.mem_cons_of_mem _ h3)
  ·rename_i ha
   have ha' : a ≠ 47 := by simpa using ha
   obtain ⟨h1, h2⟩ := ih (cur ++ [a]) (by simp; exact ⟨h, fun e => ha' e.symm⟩) p hp
   refine ⟨h1, fun c hc => ?_⟩
   rcases h2 c hc with h3 | h3
   ·rcases List.mem_append.1 h3 with h3 | h3
    ·exact .inl h3
    ·exact .inr (by simp at h3; simp [h3])
   ·exact .inr (List.mem_cons_of_mem _ h3)
theorem cutS_app : ∀ (x cur r : T8), 47 ∉ x → cutS cur (x ++ r) = cutS (cur ++ x) r := by
 intro x
 induction x with
 | nil => intro cur r _; simp
 | cons a b ih =>
  intro cur r h
  have ha : (a == 47) = false := beq_false_of_ne (fun e => h (by rw [e]; simp))
  rw [List.cons_append, cutS, ha]
  simp only [Bool.false_eq_true, if_false]
  rw [ih _ _ (fun e => h (List.mem_cons_of_mem _ e))]
  simp
theorem cutS_join : ∀ (k : List T8) (r : T8), k ≠ [] → (∀ x ∈ k, 47 ∉ x) → cutS [] (join k ++ 47 :: r) = k ++ cutS [] r := by
 intro k
 induction k with
 | nil => intro r h; exact absurd rfl h
 | cons p k ih =>
  intro r _ h
  cases k with
  | nil =>
   rw [join, cutS_app p [] _ (h p (by simp)), List.nil_append, cutS]
   rfl
  | cons q k =>
   rw [join, List.append_assoc, cutS_app p [] _ (h p (by simp)), List.nil_append, List.cons_append, cutS]
   simp only [beq_self_eq_true, if_true]
   rw [ih r (by simp) (fun x hx => h x (List.mem_cons_of_mem _ hx))]
   rfl
theorem cutS_join0 : ∀ (k : List T8), k ≠ [] → (∀ x ∈ k, 47 ∉ x) → cutS [] (join k) = k := by
 intro k
 induction k with
 | nil => intro h; exact absurd rfl h
 | cons p k ih =>
  intro _ h
  cases k with
  | nil =>
   have := cutS_app p [] [] (h p (by simp))
   rw [List.append_nil, List.nil_append] at this
   rw [join, this, cutS]
  | cons q k =>
   rw [join, cutS_app p [] _ (h p (by simp)), List.nil_append, cutS]
   simp only [beq_self_eq_true, if_true]
   rw [ih (by simp) (fun x hx => h x (List.mem_cons_of_mem _ hx))]
theorem join_flat : ∀ (k : List T8), k ≠ [] → k.flatMap (fun p => 47 :: p) = 47 :: join k := by
 intro k
 induction k with
 | nil => intro h; exact absurd rfl h
 | cons p k ih =>
  intro _
  cases k with
  | nil => simp [join]
  | cons q k => rw [List.flatMap_cons, ih (by simp), join]; rfl
theorem undo_plain {c : UInt8} (h : (c == 37) = false) (r : T8) : undo (c :: r) = (undo r).map (fun x => c :: x) := by
 match r with
 | [] => simp [undo, h]
 | [d] =>
  cases hd : (d == 37)
  ·simp [undo, h, hd]
  ·simp [undo, h, hd]
 | a :: b :: t => rw [undo, h]; rfl
theorem undo_esc {a b : UInt8} {t : T8} (h : (decide (0 ≤ hx a) && (decide (0 ≤ hx b) && okb (byt a b))) = true) : undo (37 :: a :: b :: t) = (undo t).map (fun r => UInt8.ofNat (byt a b).toNat :: r) := by
 rw [undo, if_pos (by decide), if_pos h]
theorem undo_bad {a b : UInt8} {t : T8} (h : (decide (0 ≤ hx a) && (decide (0 ≤ hx b) && okb (byt a b))) = false) : undo (37 :: a :: b :: t) = none := by
 rw [undo, if_pos (by decide), h]; rfl
theorem undo_short {t : T8} (h : t.length < 2) : undo (37 :: t) = none := by
 match t with
 | [] => rfl
 | [d] => rfl
 | a :: b :: r => simp at h; omega
end Pt

namespace Fs
abbrev T8 := List UInt8
def str (l : T8) : ByteArray := ⟨l.toArray⟩
structure Rp where
 s : Int
 fs : List Fd
 b : T8
def nET : T8 := [101, 116, 97, 103]
def nLM : T8 := [108, 97, 115, 116, 45, 109, 111, 100, 105, 102, 105, 101, 100]
def nAR : T8 := [97, 99, 99, 101, 112, 116, 45, 114, 97, 110, 103, 101, 115]
def nCR : T8 := [99, 111, 110, 116, 101, 110, 116, 45, 114, 97, 110, 103, 101]
def nCT : T8 := [99, 111, 110, 116, 101, 110, 116, 45, 116, 121, 112, 101]
def nLO : T8 := [108, 111, 99, 97, 116, 105, 111, 110]
def nAL : T8 := [97, 108, 108, 111, 119]
def nRG : T8 := [114, 97, 110, 103, 101]
def vAL : T8 := [71, 69, 84, 44, 32, 72, 69, 65, 68, 44, 32, 79, 80, 84, 73, 79, 78, 83]
def vBY : T8 := [98, 121, 116, 101, 115]
def vMP : T8 := [109, 117, 108, 116, 105, 112, 97, 114, 116, 47, 98, 121, 116, 101, 114, 97, 110, 103, 101, 115, 59, 32, 98, 111, 117, 110, 100, 97, 114, 121, 61]
def vIX : T8 := [105, 110, 100, 101, 120, 46, 104, 116, 109, 108]
def mGET : T8 := [71, 69, 84]
def mHEAD : T8 := [72, 69, 65, 68]
def fd (n v : T8) : Fd := ⟨str n, str v⟩
def kinds : List (T8 × T8) := [
 ([46, 104, 116, 109, 108], [116, 101, 120, 116, 47, 104, 116, 109, 108]),
 ([46, 116, 120, 116], [116, 101, 120, 116, 47, 112, 108, 97, 105, 110]),
 ([46, 99, 115, 115], [116, 101, 120, 116, 47, 99, 115, 115]),
 ([46, 106, 115], [116, 101, 120, 116, 47, 106, 97, 118, 97, 115, 99, 114, 105, 112, 116]),
 ([46, 106, 115, 111, 110], [97, 112, 112, 108, 105, 99, 97, 116, 105, 111, 110, 47, 106, 115, 111, 110]),
 ([46, 112, 110, 103], [105, 109, 97, 103, 101, 47, 112, 110, 103])]
def vOC : T8 := [97, 112, 112, 108, 105, 99, 97, 116, 105, 111, 110, 47, 111, 99, 116, 101, 116, 45, 115, 116, 114, 101, 97, 109]
def kind (p : T8) : T8 := ((kinds.find? (fun k => Lib.hasSuffix p k.1)).map (·.2)).getD vOC
def fmt (t : Int) : T8 := Dt.fmtC t
def line (x : T8) : T8 := Rg.line (((List.range (x.length + 1)).find? (fun q => !Rg.stands (Rg.line q) x)).getD 0)
theorem line_ex (x : T8) : ∃ q, Rg.IsFree x q ∧ line x = Rg.line q := by
 obtain ⟨q, h1, h2, h3⟩ := Rg.free_ex x
 refine ⟨q, ⟨h1, h2, h3⟩, ?_⟩
 unfold line
 rw [List.find?_range_eq_some.2 ⟨by rw [h1]; rfl, List.mem_range.2 (by omega), fun j hj => by rw [h2 j hj]; rfl⟩]
 rfl
def plain (s : Int) (l : List Fd) : Rp := ⟨s, fT :: l, bd s⟩
def folder (rest : T8) : Bool := rest.isEmpty || Lib.hasSuffix rest [47]
def name (root rest : T8) : T8 := (root ++ 47 :: rest) ++ (if folder rest then vIX else [])
def head (kd : T8) (e : Dk.En) : List Fd := [fd nCT kd, fd nET (Tg.mk e.seq e.body.size), fd nLM (fmt e.time), fd nAR vBY]
def whole (kd : T8) (e : Dk.En) : Rp := ⟨200, head kd e, e.body.data.toList⟩
def one (kd : T8) (e : Dk.En) (r : Rg.Rn) : Rp := ⟨206, head kd e ++ [fd nCR (Rg.told r e.body.size)], (e.body.data.toList.take (r.b + 1).toNat).drop r.a.toNat⟩
def sev (kd : T8) (e : Dk.En) (rs : List Rg.Rn) : Rp := ⟨206, head (vMP ++ line e.body.data.toList) e, Rg.partsS e.body.data.toList kd (line e.body.data.toList) rs⟩
def rgd (kd : T8) (e : Dk.En) (v : T8) : Rp :=
 if Rg.err v e.body.size == 161 then plain 416 [fd nCR (Rg.unmet e.body.size)]
 else if Rg.err v e.body.size == 0 then
  (match Rg.res v e.body.size with
  | [r] => one kd e r
  | rs => sev kd e rs)
 else whole kd e
def part (kd : T8) (e : Dk.En) (get : Bool) (l : List Fd) : Rp :=
 match (if get && Tg.sam l (Tg.mk e.seq e.body.size) e.time then Tg.vals l nRG else []) with
 | [v] => rgd kd e v
 | _ => whole kd e
def ansOf (p : T8) (f : Option Dk.En) (below : Bool) (method target rest : T8) (l : List Fd) : Rp :=
 if method == mGET || method == mHEAD then
  match f with
  | none => if !folder rest && below then plain 301 [fd nLO (Pt.esc target ++ [47])] else plain 404 []
  | some e =>
   if Tg.dec true l (Tg.mk e.seq e.body.size) e.time == 412 then plain 412 []
   else if Tg.dec true l (Tg.mk e.seq e.body.size) e.time == 304 then ⟨304, [fd nET (Tg.mk e.seq e.body.size), fd nLM (fmt e.time)], []⟩
   else part (kind p) e (method == mGET) l
 else plain 405 [fd nAL vAL]
def ans (es : List Dk.En) (root method target rest : T8) (l : List Fd) : Rp :=
 ansOf (name root rest) (Dk.get (name root rest) es) (!(Dk.lst (name root rest ++ [47]) es).isEmpty) method target rest l

end Fs

namespace Rt
abbrev T8 := List UInt8
structure Prt where
 k : Nat
 t : T8
def isLow (c : UInt8) : Bool := decide (97 ≤ c.toNat) && decide (c.toNat ≤ 122)
def isDg (c : UInt8) : Bool := decide (48 ≤ c.toNat) && decide (c.toNat ≤ 57)
def nameB : T8 → Bool
 | [] => false
 | c :: r => isLow c && r.all (fun d => isLow d || isDg d)
def vis (c : UInt8) : Bool := !decide (c.toNat < 33) && !decide (126 < c.toNat) && !(c == 123) && !(c == 125)
def prt (s : T8) : Prt × Bool :=
  if decide (2 ≤ s.length) && (s.head? == some 123 && s.getLast? == some 125) then
    (if decide (5 ≤ s.length) && s.drop (s.length - 4) == [46, 46, 46, 125] then (⟨2, (s.drop 1).take (s.length - 5)⟩, nameB ((s.drop 1).take (s.length - 5)))
     else (⟨1, (s.drop 1).take (s.length - 2)⟩, nameB ((s.drop 1).take (s.length - 2))))
  else if s.all vis then (⟨0, s⟩, !s.isEmpty) else (⟨0, []⟩, false)
def dup (out : List Prt) (p : Prt) : Bool := out.any fun q => !(q.k == 0) && (!(p.k == 0) && q.t == p.t)
def pats : List Prt → List T8 → Option (List Prt)
 | out, [] => some out
 | out, x :: r => if !(prt x).2 || ((prt x).1.k == 2 && !r.isEmpty) then none else if dup out (prt x).1 then none else pats (out ++ [(prt x).1]) r
def pattern (s : T8) : Option (List Prt) := if s == [47] then some [] else if s.head? == some 47 then pats [] (Pt.cutS [] (s.drop 1)) else none
def alike (a b : Prt) : Bool := a.k == b.k && (!(a.k == 0) || a.t == b.t)
def shape : List Prt → List Prt → Bool
 | [], [] => true
 | a :: x, b :: y => alike a b && shape x y
 | _, _ => false
def fit1 (p : Prt) (l : T8) : Bool := !(p.k == 0) || p.t == l
def fits : List Prt → List T8 → Bool
 | [], [] => true
 | [], _ :: _ => false
 | p :: x, l => if p.k == 2 then x.isEmpty else match l with | [] => false | a :: y => fit1 p a && fits x y
def kinds (p : List Prt) : List Nat := p.map (·.k)
def lex : List Nat → List Nat → Bool
 | _, [] => false
 | [], _ :: _ => true
 | a :: x, b :: y => if a == b then lex x y else decide (a < b)
def finer (a b : List Prt) : Bool := lex (kinds a) (kinds b)
def caught : List Prt → List T8 → Bool → List (T8 × T8)
 | [], _, _ => []
 | p :: x, l, e => if p.k == 1 then (p.t, l.headD []) :: caught x l.tail e else if p.k == 2 then (p.t, Pt.join l ++ (if !l.isEmpty && e then [47] else [])) :: caught x l.tail e else caught x l.tail e
def lay : List T8 → T8 → List T8
 | [], s => [s]
 | a :: r, s => if a < s then a :: lay r s else if a == s then a :: r else s :: a :: r
structure Ro where
 m : T8
 p : T8
 h : Int
def pat (r : Ro) : List Prt := (pattern r.p).getD []
def sGET : T8 := [71, 69, 84]
def sHEAD : T8 := [72, 69, 65, 68]
def sOPT : T8 := [79, 80, 84, 73, 79, 78, 83]
def meth (l : List T8) (of : List Prt) (r : Ro) : List T8 := if shape (pat r) of then (if r.m == sGET then lay (lay l r.m) sHEAD else lay l r.m) else l
def meths (rs : List Ro) (of : List Prt) : List T8 := rs.foldl (fun l r => meth l of r) [sOPT]
def comma (s x : T8) : T8 := if s.isEmpty then s ++ x else s ++ [44, 32] ++ x
def allow (rs : List Ro) (of : List Prt) : T8 := (meths rs of).foldl comma []
def byM (rs : List Ro) (of : List Prt) (m : T8) : Option Nat := rs.findIdx? fun r => shape (pat r) of && r.m == m
def wins (b : Option (List Prt)) (p : List Prt) : Bool := match b with | none => true | some q => finer p q
def better (l : List T8) (b : Option (List Prt)) (r : Ro) : Option (List Prt) := if fits (pat r) l && wins b (pat r) then some (pat r) else b
def best (rs : List Ro) (l : List T8) : Option (List Prt) := rs.foldl (better l) none
structure Mt where
 st : Int
 ro : Int
 ps : List (T8 × T8)
 al : T8
def sel (rs : List Ro) (of : List Prt) (m : T8) : Option Nat := (byM rs of m).or ((if m == sHEAD then byM rs of sGET else none).or (byM rs of []))
def ends (path : T8) : Bool := path.getLast? == some 47
def find (rs : List Ro) (m path : T8) : Mt :=
 match best rs (Pt.parts path) with
 | none => ⟨404, -1, [], []⟩
 | some q => match sel rs q m with
  | some k => ⟨200, k, caught ((rs[k]?.map pat).getD []) (Pt.parts path) (ends path), []⟩
  | none => ⟨if m == sOPT then 200 else 405, -1, [], allow rs q⟩
def badRo (r : Ro) : Bool := (pattern r.p).isNone || ((!r.m.isEmpty && !Tx.isTok r.m) || (decide (r.h < 1) || decide (4 < r.h)))
def twice (ps : List Ro) (r : Ro) : Bool := ps.any fun q => q.m == r.m && shape (pat r) (pat q)
def chk : List Ro → List Ro → Int
 | _, [] => 0
 | ps, r :: rs => if badRo r then 180 else if twice ps r then 181 else chk (ps ++ [r]) rs
def check (rs : List Ro) : Int := if 256 < rs.length then 4 else chk [] rs

theorem fits_cons (p : Prt) (x : List Prt) (l : List T8) : fits (p :: x) l = if p.k == 2 then x.isEmpty else (match l with | [] => false | a :: y => fit1 p a && fits x y) := by
 cases l <;> rfl
theorem better_yes {l : List T8} {b : Option (List Prt)} {r : Ro} (h : (fits (pat r) l && wins b (pat r)) = true) : better l b r = some (pat r) := by unfold better; rw [h]; rfl
theorem better_no {l : List T8} {b : Option (List Prt)} {r : Ro} (h : (fits (pat r) l && wins b (pat r)) = false) : better l b r = b := by unfold better; rw [h]; rfl
theorem alike_refl (a : Prt) : alike a a = true := by unfold alike; simp
theorem alike_symm {a b : Prt} (h : alike a b = true) : alike b a = true := by
 unfold alike at *
 simp only [Bool.and_eq_true, Bool.or_eq_true, beq_iff_eq, Bool.not_eq_true', beq_eq_false_iff_ne] at *
 obtain ⟨h1, h2⟩ := h
 exact ⟨h1.symm, h2.imp (fun h => by rw [← h1]; exact h) (fun h => h.symm)⟩
theorem alike_trans {a b c : Prt} (h : alike a b = true) (h' : alike b c = true) : alike a c = true := by
 unfold alike at *
 simp only [Bool.and_eq_true, Bool.or_eq_true, beq_iff_eq, Bool.not_eq_true', beq_eq_false_iff_ne] at *
 obtain ⟨h1, h2⟩ := h
 obtain ⟨h3, h4⟩ := h'
 refine ⟨h1.trans h3, ?_⟩
 rcases h2 with h2 | h2
 ·exact .inl h2
 ·rcases h4 with h4 | h4
  ·exact .inl (by rw [h1]; exact h4)
  ·exact .inr (h2.trans h4)
theorem shape_refl : ∀ (a : List Prt), shape a a = true := by
 intro a
 induction a with
 | nil => rfl
 | cons p x ih => rw [shape, alike_refl, ih]; rfl
theorem shape_symm : ∀ {a b : List Prt}, shape a b = true → shape b a = true := by
 intro a
 induction a with
 | nil => intro b h; cases b with | nil => rfl | cons q y => cases h
 | cons p x ih =>
  intro b h
  cases b with
  | nil => cases h
  | cons q y =>
   rw [shape, Bool.and_eq_true] at h ⊢
   exact ⟨alike_symm h.1, ih h.2⟩
theorem shape_trans : ∀ {a b c : List Prt}, shape a b = true → shape b c = true → shape a c = true := by
 intro a
 induction a with
 | nil =>
  intro b c h h'
  cases b with
  | nil => exact h'
  | cons q y => cases h
 | cons p x ih =>
  intro b c h h'
  cases b with
  | nil => cases h
  | cons q y =>
   cases c with
   | nil => cases h'
   | cons r z =>
    rw [shape, Bool.and_eq_true] at h h' ⊢
    exact ⟨alike_trans h.1 h'.1, ih h.2 h'.2⟩
theorem shape_kinds : ∀ {a b : List Prt}, shape a b = true → kinds a = kinds b := by
 intro a
 induction a with
 | nil => intro b h; cases b with | nil => rfl | cons q y => cases h
 | cons p x ih =>
  intro b h
  cases b with
  | nil => cases h
  | cons q y =>
   rw [shape, Bool.and_eq_true] at h
   have h1 := h.1
   unfold alike at h1
   simp only [Bool.and_eq_true, beq_iff_eq] at h1
   unfold kinds at *
   rw [List.map_cons, List.map_cons, h1.1, ih h.2]
theorem shape_fits : ∀ {a b : List Prt} {l : List T8}, shape a b = true → fits a l = fits b l := by
 intro a
 induction a with
 | nil => intro b l h; cases b with | nil => rfl | cons q y => cases h
 | cons p x ih =>
  intro b l h
  cases b with
  | nil => cases h
  | cons q y =>
   rw [shape, Bool.and_eq_true] at h
   have h1 := h.1
   unfold alike at h1
   simp only [Bool.and_eq_true, Bool.or_eq_true, beq_iff_eq, Bool.not_eq_true', beq_eq_false_iff_ne] at h1
   have hxy : x.isEmpty = y.isEmpty := by
    cases x with
    | nil => cases y with | nil => rfl | cons c d => cases h.2
    | cons c d => cases y with | nil => cases h.2 | cons e f => rfl
   rw [fits_cons, fits_cons, h1.1, hxy]
   split
   ·rfl
   ·cases l with
    | nil => rfl
    | cons c d =>
     simp only
     rw [ih h.2]
     congr 1
     unfold fit1
     rw [h1.1]
     rcases h1.2 with h2 | h2
     ·rw [h1.1] at h2
      rw [beq_false_of_ne h2]; rfl
     ·rw [h2]
theorem kinds_shape : ∀ {a b : List Prt} {l : List T8}, fits a l = true → fits b l = true → kinds a = kinds b → shape a b = true := by
 intro a
 induction a with
 | nil => intro b l _ _ h; cases b with | nil => rfl | cons q y => simp [kinds] at h
 | cons p x ih =>
  intro b l ha hb h
  cases b with
  | nil => simp [kinds] at h
  | cons q y =>
   have hk : p.k = q.k ∧ kinds x = kinds y := by simpa [kinds] using h
   rw [shape, Bool.and_eq_true]
   rw [fits_cons] at ha hb
   rw [← hk.1] at hb
   cases h2 : (p.k == 2)
   ·rw [h2] at ha hb
    simp only [Bool.false_eq_true, if_false] at ha hb
    cases l with
    | nil => cases ha
    | cons c d =>
     simp only [Bool.and_eq_true] at ha hb
     refine ⟨?_, ih ha.2 hb.2 hk.2⟩
     have f1 := ha.1
     have f2 := hb.1
     unfold fit1 at f1 f2
     rw [← hk.1] at f2
     unfold alike
     simp only [Bool.and_eq_true, Bool.or_eq_true, beq_iff_eq, Bool.not_eq_true', beq_eq_false_iff_ne] at *
     refine ⟨hk.1, ?_⟩
     rcases f1 with f1 | f1
     ·exact .inl f1
     ·rcases f2 with f2 | f2
      ·exact .inl f2
      ·exact .inr (f1.trans f2.symm)
   ·rw [h2] at ha hb
    simp only [if_true] at ha hb
    have hx : x = [] := by cases x with | nil => rfl | cons c d => cases ha
    have hy : y = [] := by cases y with | nil => rfl | cons c d => cases hb
    subst hx hy
    refine ⟨?_, rfl⟩
    unfold alike
    have hp2 : p.k = 2 := eq_of_beq h2
    rw [hk.1]
    rw [hk.1] at hp2
    rw [hp2]; rfl
theorem lex_irrefl : ∀ (a : List Nat), lex a a = false := by
 intro a
 induction a with
 | nil => rfl
 | cons x r ih => rw [lex]; simp [ih]
theorem lex_tri : ∀ (a b : List Nat), lex a b = true ∨ a = b ∨ lex b a = true := by
 intro a
 induction a with
 | nil => intro b; cases b with | nil => exact .inr (.inl rfl) | cons y s => exact .inl rfl
 | cons x r ih =>
  intro b
  cases b with
  | nil => exact .inr (.inr rfl)
  | cons y s =>
   rcases Nat.lt_trichotomy x y with h | h | h
   ·left; rw [lex, if_neg (by simp; omega)]; exact decide_eq_true h
   ·subst h
    rcases ih s with h1 | h1 | h1
    ·left; rw [lex]; simpa using h1
    ·right; left; rw [h1]
    ·right; right; rw [lex]; simpa using h1
   ·right; right; rw [lex, if_neg (by simp; omega)]; exact decide_eq_true h
theorem lex_trans : ∀ {a b c : List Nat}, lex a b = true → lex b c = true → lex a c = true := by
 intro a
 induction a with
 | nil =>
  intro b c h h'
  cases b with
  | nil => cases h
  | cons y s => cases c with | nil => cases h' | cons z t => rfl
 | cons x r ih =>
  intro b c h h'
  cases b with
  | nil => cases h
  | cons y s =>
   cases c with
   | nil => cases h'
   | cons z t =>
    rw [lex] at h h' ⊢
    by_cases hxy : x = y
    ·subst hxy
     simp only [beq_self_eq_true, if_true] at h
     by_cases hyz : x = z
     ·subst hyz
      simp only [beq_self_eq_true, if_true] at h' ⊢
      exact ih h h'
     ·rw [if_neg (by simpa using hyz)] at h' ⊢
      exact h'
    ·rw [if_neg (by simpa using hxy)] at h
     have h1 := of_decide_eq_true h
     by_cases hyz : y = z
     ·subst hyz
      rw [if_neg (by simpa using hxy)]
      exact h
     ·rw [if_neg (by simpa using hyz)] at h'
      have h2 := of_decide_eq_true h'
      rw [if_neg (by simp; omega)]
      exact decide_eq_true (by omega)
theorem best_none {rs : List Ro} {l : List T8} : best rs l = none ↔ ∀ r ∈ rs, fits (pat r) l = false := by
 have key : ∀ (rs : List Ro) (b : Option (List Prt)), rs.foldl (better l) b = none ↔ b = none ∧ ∀ r ∈ rs, fits (pat r) l = false := by
  intro rs
  induction rs with
  | nil => intro b; simp
  | cons r rs ih =>
   intro b
   rw [List.foldl_cons, ih]
   constructor
   ·rintro ⟨h1, h2⟩
    cases hb : (fits (pat r) l && wins b (pat r))
    ·rw [better_no hb] at h1
     subst h1
     refine ⟨rfl, fun q hq => ?_⟩
     rcases List.mem_cons.1 hq with rfl | hq
     ·simpa [wins] using hb
     ·exact h2 q hq
    ·rw [better_yes hb] at h1; cases h1
   ·rintro ⟨rfl, h2⟩
    refine ⟨?_, fun q hq => h2 q (List.mem_cons_of_mem _ hq)⟩
    rw [better_no (by rw [h2 r (by simp)]; rfl)]
 have := key rs none
 simpa [best] using this
theorem best_some {rs : List Ro} {l : List T8} {q : List Prt} (h : best rs l = some q) : (∃ r ∈ rs, pat r = q) ∧ fits q l = true ∧ ∀ r ∈ rs, fits (pat r) l = true → lex (kinds (pat r)) (kinds q) = false := by
 have key : ∀ (rs : List Ro) (b : Option (List Prt)) (q : List Prt), rs.foldl (better l) b = some q → (∀ c, b = some c → fits c l = true) → ((∃ r ∈ rs, pat r = q) ∨ b = some q) ∧ fits q l = true ∧ (∀ c, b = some c → lex (kinds c) (kinds q) = false) ∧ ∀ r ∈ rs, fits (pat r) l = true → lex (kinds (pat r)) (kinds q) = false := by
  intro rs
  induction rs with
  | nil =>
   intro b q h hb
   simp only [List.foldl_nil] at h
   subst h
   exact ⟨.inr rfl, hb q rfl, fun c hc => by injection hc with hc; rw [hc]; exact lex_irrefl _, fun r hr => by simp at hr⟩
  | cons r rs ih =>
   intro b q h hb
   rw [List.foldl_cons] at h
   have hb' : ∀ c, better l b r = some c → fits c l = true := fun c hc => by
    cases h1 : (fits (pat r) l && wins b (pat r))
    ·rw [better_no h1] at hc
     exact hb c hc
    ·rw [better_yes h1] at hc
     injection hc with hc
     rw [← hc]
     simp only [Bool.and_eq_true] at h1
     exact h1.1
   obtain ⟨h1, h2, h3, h4⟩ := ih (better l b r) q h hb'
   have hr : fits (pat r) l = true → lex (kinds (pat r)) (kinds q) = false := fun hf => by
    cases hbb : b with
    | none =>
     exact h3 _ (better_yes (by rw [hf, hbb]; rfl))
    | some c =>
     cases hfi : finer (pat r) c
     ·have h5 := h3 c (by rw [better_no (by rw [hf, hbb]; exact hfi)]; exact hbb)
      unfold finer at hfi
      cases hq : lex (kinds (pat r)) (kinds q)
      ·rfl
      ·exfalso
       rcases lex_tri (kinds c) (kinds q) with h6 | h6 | h6
       ·rw [h6] at h5; cases h5
       ·rw [← h6, hfi] at hq; cases hq
       ·have := lex_trans hq h6
        rw [hfi] at this; cases this
     ·exact h3 _ (better_yes (by rw [hf, hbb]; exact hfi))
   have hc : ∀ c, b = some c → lex (kinds c) (kinds q) = false := fun c hc => by
    cases hf : (fits (pat r) l && finer (pat r) c)
    ·exact h3 c (by rw [better_no (by rw [hc]; exact hf)]; exact hc)
    ·have hbt : better l b r = some (pat r) := better_yes (by rw [hc]; exact hf)
     have h5 := h3 _ hbt
     simp only [Bool.and_eq_true] at hf
     have h6 := hf.2
     unfold finer at h6
     cases hq : lex (kinds c) (kinds q)
     ·rfl
     ·have := lex_trans h6 hq
      rw [h5] at this; cases this
   refine ⟨?_, h2, hc, fun x hx hf => ?_⟩
   ·rcases h1 with ⟨x, hx, h1⟩ | h1
    ·exact .inl ⟨x, List.mem_cons_of_mem _ hx, h1⟩
    ·cases hb1 : (fits (pat r) l && wins b (pat r))
     ·rw [better_no hb1] at h1; exact .inr h1
     ·rw [better_yes hb1] at h1
      injection h1 with h1
      exact .inl ⟨r, by simp, h1⟩
   ·rcases List.mem_cons.1 hx with rfl | hx
    ·exact hr hf
    ·exact h4 x hx hf
 obtain ⟨h1, h2, _, h4⟩ := key rs none q h (fun c hc => by cases hc)
 exact ⟨h1.resolve_right (by simp), h2, h4⟩
end Rt

namespace Ap
abbrev T8 := List UInt8
structure Rp where
 s : Int
 fs : List Fd
 b : T8
 ts : List Fd
structure Rq where
 m : ByteArray
 sc : ByteArray
 au : ByteArray
 p : ByteArray
 fs : List Fd
 b : ByteArray
 ts : List Fd
def of (r : Fs.Rp) : Rp := ⟨r.s, r.fs, r.b, []⟩
def nCL : T8 := [99, 111, 110, 116, 101, 110, 116, 45, 108, 101, 110, 103, 116, 104]
def fCL (b : T8) : Fd := Fs.fd nCL (Lib.itoa b.length)
def mid (a : Rp) : Rp := if a.s == 204 || a.s == 304 then ⟨a.s, a.fs, [], []⟩ else if a.ts.isEmpty then ⟨a.s, a.fs ++ [fCL a.b], a.b, []⟩ else a
def fin (head : Bool) (a : Rp) : Rp := if head then ⟨(mid a).s, (mid a).fs, [], []⟩ else mid a
def kindOf (fs : List Fd) : ByteArray := ((fs.find? (fun f => f.n.data.toList == Fs.nCT)).map (·.v)).getD (Fs.str Fs.vOC)
def echo (r : Rq) : Rp := ⟨200, [⟨Fs.str Fs.nCT, kindOf r.fs⟩], r.b.data.toList, r.ts⟩
def says (ps : List (T8 × T8)) : T8 := [104, 101, 108, 108, 111] ++ ps.flatMap (fun p => 32 :: (p.1 ++ 61 :: p.2)) ++ [10]
def hello (ps : List (T8 × T8)) : Rp := ⟨200, [Fs.fT], says ps, []⟩
def by' (x : Rt.Ro × ByteArray) (es : List Dk.En) (r : Rq) (cl : T8) (ps : List (T8 × T8)) : Rp :=
 if x.1.h == 1 then of (Fs.ans es x.2.data.toList r.m.data.toList cl ((ps.getLast?.map (·.2)).getD []) r.fs)
 else if x.1.h == 2 then echo r
 else if x.1.h == 3 then hello ps
 else of (Fs.plain 410 [])
def met (rs : List (Rt.Ro × ByteArray)) (q : Rt.Mt) (es : List Dk.En) (r : Rq) (cl : T8) : Rp :=
 if q.st == 404 then of (Fs.plain 404 [])
 else if q.st == 405 then of (Fs.plain 405 [Fs.fd Fs.nAL q.al])
 else if q.ro < 0 then ⟨204, [Fs.fd Fs.nAL q.al], [], []⟩
 else match rs[q.ro.toNat]? with
  | some x => by' x es r cl q.ps
  | none => of (Fs.plain 410 [])
def raw (rs : List (Rt.Ro × ByteArray)) (es : List Dk.En) (r : Rq) : Rp :=
 if r.p.data.toList == [42] then ⟨204, [], [], []⟩
 else if (Pt.clean r.p.data.toList).2.2 == 0 then met rs (Rt.find (rs.map (·.1)) r.m.data.toList (Pt.clean r.p.data.toList).1) es r (Pt.clean r.p.data.toList).1
 else of (Fs.plain 400 [])
def ans (rs : List (Rt.Ro × ByteArray)) (es : List Dk.En) (r : Rq) : Rp := fin (r.m.data.toList == Fs.mHEAD) (raw rs es r)
def check (rs : List (Rt.Ro × ByteArray)) : Int :=
 if Rt.check (rs.map (·.1)) == 0 then (if rs.any (fun x => x.1.h == 1 && (!x.2.data.toList.isEmpty && !Dk.path x.2.data.toList)) then 130 else 0) else Rt.check (rs.map (·.1))

end Ap

namespace Fs
def pA : T8 := [47, 119, 47, 97, 46, 116, 120, 116]
def rW : T8 := [47, 119]
def tA : T8 := [47, 102, 47, 97, 46, 116, 120, 116]
def sA : T8 := [97, 46, 116, 120, 116]
def hello : T8 := [104, 101, 108, 108, 111]
theorem dec_none (l : List Fd) (m : T8) (t : Int) (h1 : Tg.vals l Tg.nIM = []) (h2 : Tg.vals l Tg.nIU = []) (h3 : Tg.vals l Tg.nNM = []) (h4 : Tg.vals l Tg.nMS = []) : Tg.dec true l m t = 0 := by
 have hm : Tg.may l m t = true := by
  unfold Tg.may Tg.dte
  rw [h1, h2]
  rfl
 unfold Tg.dec
 rw [hm, h3]
 unfold Tg.dte
 rw [h4]
 rfl
theorem sam_none (l : List Fd) (m : T8) (t : Int) (h : Tg.vals l Tg.nIR = []) : Tg.sam l m t = true := by
 unfold Tg.sam
 rw [h]
 rfl
end Fs

open Go.RowKit

def byteCells (l : List UInt8) : List Value := l.map fun c => .int .u8 (c.toNat : Int)
theorem size_l' (l : List UInt8) : (⟨l.toArray⟩ : ByteArray).size = l.length := by simp [ByteArray.size]

open Go.RowKit

theorem bl_alloc17 (w : World) (x : Obj) : Below w.heap.size w (w.alloc x) := (Below.refl _ _).alloc (Nat.le_refl _) _
theorem minfo17 {P : Program} {t : TypeId} {z : Option Value} {s b : Nat} (h : (P.info? t).map (fun i => (i.zero, i.size, i.bytes)) = some (z, s, b)) : ∃ i, P.info? t = some i ∧ i.zero = z ∧ i.size = s ∧ i.bytes = b := by
 cases hq : P.info? t with
 | none => simp [hq] at h
 | some i => simp [hq] at h; exact ⟨i, rfl, h.1, h.2.1, h.2.2⟩
theorem infoS17 : (Tryz.prog.info? 9).map (fun i => (i.zero, i.size, i.bytes)) = some (some (.string ⟨#[]⟩), 1, 16) := by kernel_rfl
theorem own_shape17 {w : World} {B : Nat} {e : TypeId} {s : Nat} {v : Value} {n : Nat} {xs : List Value} (h : w.ownsRow B e s v n xs) : ∃ ao cap, v = .slice ao n cap := by
 rcases h.2 with ⟨h1, rfl⟩ | ⟨g, cap, cur, h1, _⟩
 ·exact ⟨none, 0, h1⟩
 ·exact ⟨_, cap, h1⟩
theorem own_kp17 {w w' : World} {B : Nat} {e : TypeId} {s : Nat} {v : Value} {n : Nat} {xs : List Value} (h : w.ownsRow B e s v n xs) (hb : Below w.heap.size w w') : w'.ownsRow B e s v n xs := own_same h (fun j hj => hb.block j (own_lt h j hj))
theorem one_cell17 (w : World) (T : TypeId) (x0 : Value) : ∀ j v, [x0][j]? = some v → (w.alloc (.cells #[x0] T)).cell? ((⟨w.heap.size, 0, none⟩ : Addr).add j) = some v := by
 intro j v h
 rw [Addr.add_mid, Nat.zero_add]
 have hA : Ar (w.alloc (.cells #[x0] T)) w.heap.size T #[x0] := heap_alloc_last w _
 exact hA.cell j v (by simpa using h)
theorem ext_td17 (s : ByteArray) (a b : Nat) : s.extract a b = ⟨((s.data.toList.drop a).take (b - a)).toArray⟩ := by
 apply ByteArray.ext
 rw [ByteArray.data_extract]
 apply Array.toList_inj.1
 simp [Array.toList_extract, List.extract_eq_take_drop]

theorem bc_snoc17 (l : List UInt8) (c : UInt8) : byteCells l ++ [.int .u8 (c.toNat : Int)] = byteCells (l ++ [c]) := by
  unfold byteCells
  rw [List.map_append]; rfl

namespace Pt
theorem drop_c {l : T8} {k : Nat} {c : UInt8} (hc : l[k]? = some c) : l.drop k = c :: l.drop (k + 1) := by
 obtain ⟨h1, h2⟩ := List.getElem?_eq_some_iff.1 hc
 rw [List.drop_eq_getElem_cons h1, h2]
theorem hx_bd (c : UInt8) : -1 ≤ hx c ∧ hx c ≤ 15 := by
 refine ⟨?_, hx_le c⟩
 unfold hx Tx.dgr Tx.digC
 simp only [Bool.and_eq_true, decide_eq_true_eq]
 repeat' split
 all_goals omega
end Pt

open Go.RowKit

namespace Rt
theorem by_no18 {rs : List Ro} {of : List Prt} {m : T8} (hb : ∀ (j : Nat) (q : Ro), rs[j]? = some q → (shape (pat q) of && q.m == m) = false) : byM rs of m = none := by
 unfold byM
 rw [List.findIdx?_eq_none_iff]
 intro q hq
 obtain ⟨j, hj, hjq⟩ := List.mem_iff_getElem.1 hq
 exact hb j q (by rw [List.getElem?_eq_getElem hj, hjq])
end Rt

abbrev Fr18 := Rt.Ro × ByteArray
def rV18 (x : Fr18) : List Value := [.string ⟨x.1.m.toArray⟩, .string ⟨x.1.p.toArray⟩, .int .u8 x.1.h, .string x.2]
def rC18 (l : List Fr18) : List Value := l.flatMap rV18
theorem rC18_len (l : List Fr18) : (rC18 l).length = l.length * 4 := by
 induction l with
 | nil => rfl
 | cons a r ih => simp only [rC18, List.flatMap_cons, List.length_append, List.length_cons] at *; simp [rV18] at *; omega
theorem rC18_at (l : List Fr18) (i : Nat) (p : Fr18) (h : l[i]? = some p) : ∀ j, j < 4 → (rC18 l)[i * 4 + j]? = (rV18 p)[j]? := by
 induction l generalizing i with
 | nil => simp at h
 | cons a r ih =>
  intro j hj
  rw [show rC18 (a :: r) = rV18 a ++ rC18 r from rfl]
  cases i with
  | zero => simp at h; subst h; rw [List.getElem?_append_left (by simp [rV18]; omega)]; congr 1; omega
  | succ i =>
   rw [List.getElem?_append_right (by simp [rV18]; omega), show (i + 1) * 4 + j - (rV18 a).length = i * 4 + j by simp [rV18]; omega]
   exact ih i (by simpa using h) j hj
def RW18 (w : World) (v : Value) (l : List Fr18) : Prop :=
 (v = .slice none 0 0 ∧ l = []) ∨ ∃ a cap, v = .slice (some a) l.length cap ∧ l.length ≤ cap ∧ ∀ j u, (rC18 l)[j]? = some u → (a.add j).block < w.heap.size ∧ w.cell? (a.add j) = some u
theorem RW18.keep {w w' : World} {v : Value} {l : List Fr18} (h : RW18 w v l) (hb : Below w.heap.size w w') : RW18 w' v l := by
 rcases h with h | ⟨a, cap, hv, hcp, hc⟩
 ·exact .inl h
 ·exact .inr ⟨a, cap, hv, hcp, fun j u hj => ⟨Nat.lt_of_lt_of_le (hc j u hj).1 hb.size, (hb.cell (hc j u hj).1).trans (hc j u hj).2⟩⟩
theorem RW18.shape {w : World} {v : Value} {l : List Fr18} (h : RW18 w v l) : ∃ ao cap, v = .slice ao l.length cap := by
 rcases h with ⟨h, rfl⟩ | ⟨a, cap, h, _⟩
 ·exact ⟨none, 0, h⟩
 ·exact ⟨some a, cap, h⟩
theorem RW18.four {w : World} {ao : Option Addr} {n cap : Nat} {l : List Fr18} (h : RW18 w (.slice ao n cap) l) (i : Nat) (p : Fr18) (hp : l[i]? = some p) : ∃ a, ao = some a ∧ (a.add (i * 4)).block < w.heap.size ∧ w.cell? (a.add (i * 4)) = some (.string ⟨p.1.m.toArray⟩) ∧ w.cell? ⟨(a.add (i * 4)).block, (a.add (i * 4)).off + 1, none⟩ = some (.string ⟨p.1.p.toArray⟩) ∧ w.cell? ⟨(a.add (i * 4)).block, (a.add (i * 4)).off + 2, none⟩ = some (.int .u8 p.1.h) ∧ w.cell? ⟨(a.add (i * 4)).block, (a.add (i * 4)).off + 3, none⟩ = some (.string p.2) := by
 rcases h with ⟨_, rfl⟩ | ⟨a, cap', hv, hcp, hc⟩
 ·simp at hp
 ·injection hv with h1 _ _
  have key : ∀ j u, j < 4 → (rV18 p)[j]? = some u → (a.add (i * 4 + j)).block < w.heap.size ∧ w.cell? (a.add (i * 4 + j)) = some u := fun j u hj hu => hc _ _ ((rC18_at l i p hp j hj).trans hu)
  have k0 := key 0 _ (by omega) rfl
  have k1 := (key 1 _ (by omega) rfl).2
  have k2 := (key 2 _ (by omega) rfl).2
  have k3 := (key 3 _ (by omega) rfl).2
  rw [← Addr.add_add] at k0 k1 k2 k3
  refine ⟨a, h1, ?_, ?_, ?_, ?_, ?_⟩
  ·simpa [Addr.add] using k0.1
  ·simpa [Addr.add] using k0.2
  ·simpa [Addr.add] using k1
  ·simpa [Addr.add] using k2
  ·simpa [Addr.add] using k3
theorem RW18.of_own {w : World} {B : Nat} {e : TypeId} {v : Value} {l : List Fr18} (h : w.ownsRow B e 4 v l.length (rC18 l)) : RW18 w v l := by
 rcases h.2 with ⟨hv, hn⟩ | ⟨g, cap, cur, hv, _, h3, h4, _⟩
 ·exact .inl ⟨hv, List.eq_nil_of_length_eq_zero hn⟩
 ·refine .inr ⟨⟨g, 0, none⟩, cap, hv, h4, fun j u hj => ⟨?_, ?_⟩⟩
  ·have := (Array.getElem?_eq_some_iff.1 h3).1
   unfold Addr.add
   split <;> exact this
  ·exact h.cells (g := g) (by rw [hv]; rfl) j u hj
def BD18 (l : List Fr18) : Prop := ∀ x ∈ l, x.1.p.length ≤ 4194304 ∧ x.1.m.length ≤ 4194304

end Go.Proofs.YtcfbobegbmcbeaaGreatDoor
