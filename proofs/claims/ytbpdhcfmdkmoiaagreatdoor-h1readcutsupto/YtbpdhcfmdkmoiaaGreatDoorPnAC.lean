/-
  The reader of requests of version 1, on lists: what is of no program.
  The reader byte by byte, on lists: what is of no program.
-/
import Derived.Lib.IndexMore
import Derived.Test.YtbpdhcfmdkmoiaaGreatDoorPnAA
import Derived.Test.YtbpdhcfmdkmoiaaGreatDoorPnAB
namespace Go.Proofs.YtbpdhcfmdkmoiaaGreatDoor
namespace Hr
abbrev T8 := List UInt8
/-- What is read next: ten of them: start, field, size, trailer, body, chunk, cr, lf, fin, dead, in this order. -/
abbrev Md := Sum Bool IntKind
/-- What a reader keeps. -/
structure St where
  L : Nat
  M : Nat
  md : Md
  bg : Bool
  ln : T8
  cr : Bool
  m : ByteArray
  t : ByteArray
  old : Bool
  fs : List Fd
  left : Nat
  room : Nat
  st : Int
/-- A piece. -/
structure Pc where
  mark : Int
  rq : Ms.Rq
  wait : Bool
  last : Bool
  old : Bool
  has : Bool
  bd : ByteArray
  fs : List Fd
  st : Int
def pc0 : Pc := ⟨0, Ms.rq0, false, false, false, false, Ms.e0, [], 0⟩
def brk (c : Int) : Pc := { pc0 with mark := 4, st := c }
def bodyP (x : ByteArray) : Pc := { pc0 with mark := 2, bd := x }
def allP (fs : List Fd) : Pc := { pc0 with mark := 3, fs := fs }
def zero (L M : Nat) (md : Md) : St := ⟨L, M, md, false, [], false, Ms.e0, Ms.e0, false, [], 0, 0, 0⟩
def fresh (s : St) : St := zero s.L s.M (.inl false)
def dead (s : St) (c : Int) : St := { zero s.L s.M (.inr .u64) with st := c }
def broke (s : St) (c : Int) : Pc × St := (brk c, dead s c)

def sTE : T8 := [116, 114, 97, 110, 115, 102, 101, 114, 45, 101, 110, 99, 111, 100, 105, 110, 103]
def sCL : T8 := [99, 111, 110, 116, 101, 110, 116, 45, 108, 101, 110, 103, 116, 104]
def sExp : T8 := [101, 120, 112, 101, 99, 116]
def sCont : T8 := [49, 48, 48, 45, 99, 111, 110, 116, 105, 110, 117, 101]
def sChk : T8 := [99, 104, 117, 110, 107, 101, 100]
def sConn : T8 := [99, 111, 110, 110, 101, 99, 116, 105, 111, 110]
def sClose : T8 := [99, 108, 111, 115, 101]
def sKeep : T8 := [107, 101, 101, 112, 45, 97, 108, 105, 118, 101]
def sHost : T8 := [104, 111, 115, 116]
def v11 : T8 := [72, 84, 84, 80, 47, 49, 46, 49]
def v10 : T8 := [72, 84, 84, 80, 47, 49, 46, 48]
def ba (l : T8) : ByteArray := ⟨l.toArray⟩
def hasB (l : List Fd) (x : T8) : Bool := l.any fun f => f.n.toList == x
/-- The members of all fields of a name. -/
def mems (l : List Fd) (x : T8) : List T8 := (l.filter fun f => f.n.toList == x).flatMap fun f => Tx.list f.v.data.toList
def holds (ms : List T8) (x : T8) : Bool := ms.any fun m => Tx.lower m == x
def isV (v : T8) : Bool := v.length == 8 && v.take 5 == [72, 84, 84, 80, 47] && Tx.digC ((v.getD 5 0).toNat : Int) && v.getD 6 0 == 46 && Tx.digC ((v.getD 7 0).toNat : Int)
/-- A text's parts about two places of a byte 20, and no third. -/
def three (l : T8) : Option (T8 × T8 × T8) :=
  if (Lib.cut l [32]).2.2 && (Lib.cut (Lib.cut l [32]).2.1 [32]).2.2 && !(Lib.cut (Lib.cut (Lib.cut l [32]).2.1 [32]).2.1 [32]).2.2
  then some ((Lib.cut l [32]).1, (Lib.cut (Lib.cut l [32]).2.1 [32]).1, (Lib.cut (Lib.cut l [32]).2.1 [32]).2.1) else none
/-- The status of a request line; nought: it is one. -/
def startE (l : T8) : Int :=
  match three l with
  | none => 400
  | some (m, t, v) => if t.isEmpty || !Tx.isTok m then 400 else if v == v11 || v == v10 then 0 else if isV v then 505 else 400
def p1 (l : T8) : T8 := (Lib.cut l [32]).1
def p2 (l : T8) : T8 := (Lib.cut (Lib.cut l [32]).2.1 [32]).1
def p3 (l : T8) : T8 := (Lib.cut (Lib.cut l [32]).2.1 [32]).2.1
def fldN (l : T8) : T8 := (Lib.cut l [58]).1
def fldV (l : T8) : T8 := Tx.trim (Lib.cut l [58]).2.1
def fldB (l : T8) : Bool := (Lib.cut l [58]).2.2 && Tx.isTok (fldN l) && Tx.isVal (fldV l)
/-- The field that a line is. -/
def fld (l : T8) : Fd := ⟨ba (Tx.lower (fldN l)), ba (fldV l)⟩
def addF (s : St) (l : T8) : Pc × St :=
  if fldB l then (if s.L < Ms.size (s.fs ++ [fld l]) then broke s 431 else (pc0, { s with fs := s.fs ++ [fld l] })) else broke s 400
def hostF : Fd := ⟨ba sHost, Ms.e0⟩
def withH (s : St) : List Fd := if s.old && !hasB s.fs sHost then s.fs ++ [hostF] else s.fs
def codE (s : St) : Int :=
  if hasB s.fs sTE then
    (if s.old || hasB s.fs sCL || (mems s.fs sTE).isEmpty then 400
     else if decide (1 < (mems s.fs sTE).length) || !(Tx.lower ((mems s.fs sTE).headD []) == sChk) then 501 else 0)
  else 0
def expE (l : List Fd) : Bool := l.any fun f => f.n.toList == sExp && !(Tx.lower f.v.data.toList == sCont)
def lenN (l : List Fd) : Int := match Ms.lenGo none l with | some (some v) => (Tx.num 10 v.data.toList).1 | _ => 0
/-- The status of what a head says of its body, and of what it expects. -/
def lenE (s : St) : Int :=
  if codE s == 0 then (if (Ms.lenGo none s.fs).isNone then 400 else if (s.M : Int) < lenN s.fs then 413 else if expE s.fs then 417 else 0) else codE s
def headE (s : St) : Int := if lenE s == 0 then (if Ms.oneE s.m s.t (withH s) == 0 then 0 else 400) else lenE s
def lastB (s : St) : Bool := holds (mems s.fs sConn) sClose || (s.old && !holds (mems s.fs sConn) sKeep)
def follows (s : St) : Bool := hasB s.fs sTE || decide (0 < lenN s.fs)
def headP (s : St) : Pc :=
  ⟨1, Ms.oneR s.m s.t (withH s), follows s && hasB s.fs sExp && !s.old, lastB s, s.old, follows s, Ms.e0, [], 0⟩
/-- What stands behind a head. -/
def behind (s : St) : St :=
  if hasB s.fs sTE then { zero s.L s.M (.inr .i8) with bg := true, room := s.M }
  else if 0 < lenN s.fs then { zero s.L s.M (.inr .i32) with bg := true, left := (lenN s.fs).toNat } else fresh s
def useStart (s : St) (l : T8) : Pc × St :=
  if l.isEmpty then (pc0, s)
  else if startE l == 0 then (pc0, { s with bg := true, md := (.inl true), m := ba (p1 l), t := ba (p2 l), old := p3 l == v10 }) else broke s (startE l)
def useField (s : St) (l : T8) : Pc × St :=
  if l.isEmpty then (if headE s == 0 then (headP s, behind s) else broke s (headE s)) else addF s l
def digs (l : T8) : T8 := (Lib.cut l [59]).1
def useSize (s : St) (l : T8) : Pc × St :=
  if !((Tx.num 16 (digs l)).2 == 0) || decide (15 < (digs l).length) then broke s 400
  else if (s.room : Int) < (Tx.num 16 (digs l)).1 then broke s 413
  else if (Tx.num 16 (digs l)).1 == 0 then (pc0, { s with md := (.inr .i16) })
  else (pc0, { s with md := (.inr .i64), room := s.room - (Tx.num 16 (digs l)).1.toNat, left := (Tx.num 16 (digs l)).1.toNat })
def useTrailer (s : St) (l : T8) : Pc × St :=
  if l.isEmpty then (if Ms.trail s.fs == 0 then (allP s.fs, fresh s) else broke s 400) else addF s l
/-- How many bytes a line may have, and the status if it has more. -/
def most (s : St) : Nat := match s.md with | (.inr .i8) => 256 | _ => s.L
def code (s : St) : Int := match s.md with | (.inl false) => 414 | (.inr .i8) => 400 | _ => 431
def useL (s : St) (l : T8) : Pc × St :=
  match s.md with
  | (.inl false) => useStart s l
  | (.inl true) => useField s l
  | (.inr .i8) => useSize s l
  | _ => useTrailer s l
/-- A byte of a line. -/
def takeB (s : St) (b : UInt8) : Pc × St :=
  if !(s.cr == (b == 10)) then broke s 400
  else if s.cr then useL { s with ln := [], cr := false } s.ln
  else if b == 13 then (pc0, { s with cr := true })
  else if s.ln.length == most s then broke s (code s)
  else (pc0, { s with ln := s.ln ++ [b] })
/-- Bytes up to a line's end. -/
def rl (s : St) : T8 → Nat × Pc × St
  | [] => (0, pc0, s)
  | b :: r => if s.cr || !((takeB s b).1.mark == 0) then (1, takeB s b) else ((rl (takeB s b).2 r).1 + 1, (rl (takeB s b).2 r).2)
/-- A byte that must be this one. -/
def oneB (s : St) (c : UInt8) (md : Md) : T8 → Nat × Pc × St
  | [] => (0, pc0, s)
  | b :: _ => if b == c then (1, pc0, { s with md := md }) else (1, broke s 400)
def part (s : St) (md : Md) (d : T8) : Nat × Pc × St :=
  if min s.left d.length = 0 then (0, pc0, s)
  else (min s.left d.length, bodyP (ba (d.take (min s.left d.length))), { s with left := s.left - min s.left d.length, md := if s.left - min s.left d.length = 0 then md else s.md })
/-- What is next. -/
def nx (s : St) (d : T8) : Nat × Pc × St :=
  match s.md with
  | (.inr .i32) => part s (.inr .u32) d
  | (.inr .i64) => part s (.inr .u8) d
  | (.inr .u8) => oneB s 13 (.inr .u16) d
  | (.inr .u16) => oneB s 10 (.inr .i8) d
  | (.inr .u32) => (0, allP [], fresh s)
  | (.inr .u64) => (0, brk s.st, s)
  | _ => rl s d
/-- Read, with so many tries. -/
def rd : Nat → St → T8 → Nat × Pc × St
  | 0, s, _ => (0, pc0, s)
  | k + 1, s, d => if (nx s d).1 = 0 || !((nx s d).2.1.mark == 0) then nx s d
    else ((nx s d).1 + (rd k (nx s d).2.2 (d.drop (nx s d).1)).1, (rd k (nx s d).2.2 (d.drop (nx s d).1)).2)
def read (s : St) (d : T8) : Nat × Pc × St := rd (d.length + 1) s d
def lnH (s : St) : Nat := s.ln.length + (if s.cr then 1 else 0)
def fsH (l : List Fd) : Nat := (l.map fun f => f.n.size + f.v.size).sum
def held (s : St) : Nat := lnH s + s.m.size + s.t.size + fsH s.fs
def within (s : St) : Bool := s.bg || decide (0 < lnH s)

end Hr

end Go.Proofs.YtbpdhcfmdkmoiaaGreatDoor

namespace Go.Proofs.YtbpdhcfmdkmoiaaGreatDoor
namespace Hr

/-- A byte where no body is read. -/
def one (s : St) (b : UInt8) : Pc × St :=
  match s.md with
  | (.inr .u8) => if b == 13 then (pc0, { s with md := (.inr .u16) }) else broke s 400
  | (.inr .u16) => if b == 10 then (pc0, { s with md := (.inr .i8) }) else broke s 400
  | _ => takeB s b
/-- Whether a body is read, or nothing. -/
def lone (s : St) : Bool := match s.md with | (.inr .i32) | (.inr .i64) | (.inr .u32) | (.inr .u64) => true | _ => false
def feed (s : St) : T8 → Nat × Pc × St
  | [] => if lone s then nx s [] else (0, pc0, s)
  | b :: r => if lone s then nx s (b :: r)
    else if (one s b).1.mark == 0 then ((feed (one s b).2 r).1 + 1, (feed (one s b).2 r).2) else (1, one s b)
theorem feed_lone {s : St} (h : lone s = true) (d : T8) : feed s d = nx s d := by
  cases d with
  | nil => rw [feed, if_pos h]
  | cons b r => rw [feed, if_pos h]
def lineM (s : St) : Bool := match s.md with | (.inl false) | (.inl true) | (.inr .i8) | (.inr .i16) => true | _ => false
theorem one_line {s : St} (h : lineM s = true) (b : UInt8) : one s b = takeB s b := by
  unfold lineM at h
  unfold one
  split <;> simp_all
theorem lone_line {s : St} (h : lineM s = true) : lone s = false := by
  unfold lineM at h
  unfold lone
  split <;> simp_all
theorem nx_line {s : St} (h : lineM s = true) (d : T8) : nx s d = rl s d := by
  unfold lineM at h
  unfold nx
  split <;> simp_all
/-- A byte of a line that reads nothing and ends none. -/
theorem takeB_stay {s : St} {b : UInt8} (hc : s.cr = false) (hm : ((takeB s b).1.mark == 0) = true) : (takeB s b).2.md = s.md ∧ (takeB s b).1 = pc0 := by
  unfold takeB at *
  rw [hc] at *
  split at hm
  · simp [broke, brk] at hm
  · rename_i h1
    rw [if_neg h1]
    simp only [Bool.false_eq_true, if_false] at *
    split at hm
    · rename_i h2; rw [if_pos h2]; exact ⟨rfl, rfl⟩
    · rename_i h2
      rw [if_neg h2]
      split at hm
      · simp [broke, brk] at hm
      · rename_i h3; rw [if_neg h3]; exact ⟨rfl, rfl⟩
theorem rl_feed : ∀ (d : T8) (s : St), lineM s = true → feed s d = if (rl s d).1 = 0 || !((rl s d).2.1.mark == 0) then rl s d
    else ((rl s d).1 + (feed (rl s d).2.2 (d.drop (rl s d).1)).1, (feed (rl s d).2.2 (d.drop (rl s d).1)).2)
  | [], s, h => by
    have e : rl s [] = (0, pc0, s) := rfl
    rw [e, feed, lone_line h]
    rfl
  | b :: r, s, h => by
    rw [feed, lone_line h, one_line h, rl]
    simp only [Bool.false_eq_true, if_false]
    cases hm : ((takeB s b).1.mark == 0) with
    | false =>
      simp only [Bool.false_eq_true, if_false, Bool.not_false, Bool.or_true, if_true]
      simp only [hm, Bool.not_false, Bool.or_true, if_true]
    | true =>
      simp only [Bool.not_true, Bool.or_false, if_true]
      cases hc : s.cr with
      | true =>
        simp only [if_true, hm, Bool.not_true, Bool.or_false]
        rw [if_neg (by decide)]
        simp only [List.drop_succ_cons, List.drop_zero]
        rw [Nat.add_comm]
      | false =>
        simp only [Bool.false_eq_true, if_false]
        obtain ⟨hmd, _⟩ := takeB_stay hc hm
        have hl : lineM (takeB s b).2 = true := by unfold lineM at *; rw [hmd]; exact h
        have ih := rl_feed r (takeB s b).2 hl
        rw [ih]
        by_cases h0 : (rl (takeB s b).2 r).1 = 0
        · rw [if_pos (by rw [h0]; rfl)]
          cases hp : ((rl (takeB s b).2 r).2.1.mark == 0) with
          | false => rw [if_pos (by simp)]
          | true =>
            rw [if_neg (by simp), h0]
            -- a line that took nothing: all was taken
            have : r = [] ∨ False := by
              cases r with
              | nil => exact .inl rfl
              | cons c q =>
                rw [rl] at h0
                split at h0
                · simp at h0
                · simp at h0
            rcases this with rfl | h
            · simp only [Nat.zero_add, List.drop_succ_cons, List.drop_nil]
              rw [show rl (takeB s b).2 [] = (0, pc0, (takeB s b).2) from rfl]
              simp only
              rw [feed, lone_line hl]
              rfl
            · exact h.elim
        · cases hp : ((rl (takeB s b).2 r).2.1.mark == 0) with
          | false => rw [if_pos (by simp), if_pos (by simp)]
          | true =>
            rw [if_neg (by simp [h0]), if_neg (by simp)]
            simp only [List.drop_succ_cons]
            ext1
            · simp only; omega
            · rfl
theorem part_n (s : St) (md : Md) (d : T8) : (part s md d).1 ≤ d.length := by
  unfold part
  split
  · exact Nat.zero_le _
  · exact Nat.min_le_right _ _
theorem rl_n : ∀ (d : T8) (s : St), (rl s d).1 ≤ d.length
  | [], s => Nat.le_refl _
  | b :: r, s => by
    rw [rl]
    split
    · simp
    · simp only [List.length_cons]; have := rl_n r (takeB s b).2; omega
theorem oneB_n (s : St) (c : UInt8) (md : Md) (d : T8) : (oneB s c md d).1 ≤ d.length := by
  cases d with
  | nil => exact Nat.le_refl _
  | cons b r =>
    rw [oneB]
    cases b == c <;> simp
theorem nx_n (s : St) (d : T8) : (nx s d).1 ≤ d.length := by
  unfold nx
  split
  · exact part_n _ _ _
  · exact part_n _ _ _
  · exact oneB_n _ _ _ _
  · exact oneB_n _ _ _ _
  · exact Nat.zero_le _
  · exact Nat.zero_le _
  · exact rl_n _ _
theorem nx_feed (s : St) (d : T8) : feed s d = if (nx s d).1 = 0 || !((nx s d).2.1.mark == 0) then nx s d
    else ((nx s d).1 + (feed (nx s d).2.2 (d.drop (nx s d).1)).1, (feed (nx s d).2.2 (d.drop (nx s d).1)).2) := by
  cases hl : lineM s with
  | true => rw [nx_line hl]; exact rl_feed d s hl
  | false =>
    cases ho : lone s with
    | true =>
      rw [feed_lone ho, if_pos ?_]
      unfold lone at ho
      unfold nx
      split at ho
      · rename_i hm; rw [hm]; simp only [part]; split
        · simp
        · simp [bodyP]
      · rename_i hm; rw [hm]; simp only [part]; split
        · simp
        · simp [bodyP]
      · rename_i hm; rw [hm]; simp
      · rename_i hm; rw [hm]; simp
      · simp at ho
    | false =>
      have hmd : s.md = (.inr .u8) ∨ s.md = (.inr .u16) := by
        unfold lineM at hl
        unfold lone at ho
        rcases hm : s.md with ((_ | _) | (_ | _ | _ | _ | _ | _ | _ | _)) <;> rw [hm] at hl ho <;> simp at hl ho <;> simp
      cases d with
      | nil => rw [feed, ho]; rcases hmd with hm | hm <;> simp [nx, hm, oneB]
      | cons b r =>
        rw [feed, ho]
        rcases hmd with hm | hm
        · by_cases hb : b == 13
          · simp [nx, hm, oneB, one, hb, pc0]; rw [Nat.add_comm]
          · simp [nx, hm, oneB, one, hb, broke, brk]
        · by_cases hb : b == 10
          · simp [nx, hm, oneB, one, hb, pc0]; rw [Nat.add_comm]
          · simp [nx, hm, oneB, one, hb, broke, brk]
theorem rd_feed : ∀ (k : Nat) (s : St) (d : T8), d.length < k → rd k s d = feed s d
  | 0, s, d, h => absurd h (Nat.not_lt_zero _)
  | k + 1, s, d, h => by
    rw [rd, nx_feed s d]
    split
    · rfl
    · rename_i hn
      have h0 : (nx s d).1 ≠ 0 := fun e => hn (by simp [e])
      have h1 := nx_n s d
      rw [rd_feed k _ _ (by rw [List.length_drop]; omega)]
theorem read_feed (s : St) (d : T8) : read s d = feed s d := rd_feed _ _ _ (Nat.lt_succ_self _)

end Hr

end Go.Proofs.YtbpdhcfmdkmoiaaGreatDoor
