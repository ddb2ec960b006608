/-
  Blocks of fields: the plain theory. Texts are read and written by two letters (rs, str), of which one thing is asked: what is written is read back.
-/
import Derived.Test.YtmkkhfkfjmfdcaaPrimP
import Derived.Test.YtmkkhfkfjmfdcaaTabPF
namespace Go.Proofs.Ytmkkhfkfjmfdcaa
namespace Hp

/-- A text, read. -/
inductive Tx where
  | ok (t : List UInt8) (k : Nat)
  | err (e : Nat)
/-- What a representation is (0 indexed, 1 added, 2 an update, 3 plain), and how many bits its number has. -/
def kind (b : UInt8) : Nat × Nat := if 128 ≤ b.toNat then (0, 7) else if 64 ≤ b.toNat then (1, 6) else if 32 ≤ b.toNat then (2, 5) else (3, 4)
/-- The error of a number. -/
def rErr : Pm.R → Nat
  | .ok _ _ => 0
  | .arg => 1
  | .short => 40
  | .number => 41

/-- A field, read: the field and what is left; or an error. -/
inductive Fl where
  | ok (f : List UInt8 × List UInt8) (rest : List UInt8)
  | err (e : Nat)
def value (rs : List UInt8 → Tx) (name rest : List UInt8) : Fl :=
  match rs rest with
  | .err e => .err e
  | .ok t k => .ok (name, t) (rest.drop k)
/-- The field of a representation that is no update, whose number is n; rest: what stands behind the number. -/
def field (rs : List UInt8 → Tx) (fs : List (List UInt8 × List UInt8)) (what n : Nat) (rest : List UInt8) : Fl :=
  if what = 0 then
    match Tb.at? fs (n : Int) with
    | none => .err 50
    | some f => .ok f rest
  else if n = 0 then
    match rs rest with
    | .err e => .err e
    | .ok t k => value rs t (rest.drop k)
  else
    match Tb.at? fs (n : Int) with
    | none => .err 50
    | some f => value rs f.1 rest

/-- A decoder on its way through a block: its table (room and fields), what it has read (the newest last). -/
structure D where
  room : Nat
  fs : List (List UInt8 × List UInt8)
  out : List (List UInt8 × List UInt8)
/-- One representation. -/
inductive St where
  | err (e : Nat)
  | go (d : D) (rest : List UInt8)
def step (rs : List UInt8 → Tx) (lim : Nat) (d : D) (b : UInt8) (l : List UInt8) : St :=
  match Pm.rd (kind b).2 (b :: l) with
  | .ok n k =>
    if (kind b).1 = 2 then
      if d.out ≠ [] ∨ lim < n then .err 60
      else .go { d with room := n, fs := Tb.shr n d.fs } ((b :: l).drop k)
    else if lim < d.room then .err 60
    else
      match field rs d.fs (kind b).1 n ((b :: l).drop k) with
      | .err e => .err e
      | .ok f rest => .go { room := d.room, fs := if (kind b).1 = 1 then Tb.add d.room d.fs f else d.fs, out := d.out ++ [f] } rest
  | r => .err (rErr r)
/-- A block: the error (0: none), and the decoder behind it. -/
def run (rs : List UInt8 → Tx) (lim : Nat) : Nat → D → List UInt8 → Nat × D
  | 0, d, _ => (0, d)
  | _ + 1, d, [] => (0, d)
  | m + 1, d, b :: l =>
    match step rs lim d b l with
    | .err e => (e, d)
    | .go d' rest => run rs lim m d' rest
/-- A block, read: with as many steps as it has bytes. -/
def read (rs : List UInt8 → Tx) (lim : Nat) (d : D) (l : List UInt8) : Nat × D := run rs lim l.length d l

/-- Names that are never added; names that are not. -/
def never (n : List UInt8) : Bool := n == [97, 117, 116, 104, 111, 114, 105, 122, 97, 116, 105, 111, 110] || n == [99, 111, 111, 107, 105, 101] || n == [112, 114, 111, 120, 121, 45, 97, 117, 116, 104, 111, 114, 105, 122, 97, 116, 105, 111, 110] || n == [115, 101, 116, 45, 99, 111, 111, 107, 105, 101]
def nots (n : List UInt8) : Bool := n == [58, 112, 97, 116, 104] || n == [99, 111, 110, 116, 101, 110, 116, 45, 108, 101, 110, 103, 116, 104] || n == [99, 111, 110, 116, 101, 110, 116, 45, 114, 97, 110, 103, 101] || n == [100, 97, 116, 101] || n == [101, 116, 97, 103] || n == [108, 97, 115, 116, 45, 109, 111, 100, 105, 102, 105, 101, 100] || n == [108, 111, 99, 97, 116, 105, 111, 110]
/-- A field's texts behind the number. -/
def texts (str : List UInt8 → List UInt8) (k : Nat) (f : List UInt8 × List UInt8) : List UInt8 := (if k = 0 then str f.1 else []) ++ str f.2
/-- A field's representation, and the table's fields behind it. -/
def one (str : List UInt8 → List UInt8) (room : Nat) (fs : List (List UInt8 × List UInt8)) (f : List UInt8 × List UInt8) : List UInt8 × List (List UInt8 × List UInt8) :=
  if never f.1 then (Pm.num 16 4 (Tb.find fs f).1 ++ texts str (Tb.find fs f).1 f, fs)
  else if (Tb.find fs f).2 then (Pm.num 128 7 (Tb.find fs f).1, fs)
  else if nots f.1 ∨ room < Tb.wt f then (Pm.num 0 4 (Tb.find fs f).1 ++ texts str (Tb.find fs f).1 f, fs)
  else (Pm.num 64 6 (Tb.find fs f).1 ++ texts str (Tb.find fs f).1 f, Tb.add room fs f)
def many (str : List UInt8 → List UInt8) (room : Nat) : List (List UInt8 × List UInt8) → List (List UInt8 × List UInt8) → List UInt8 × List (List UInt8 × List UInt8)
  | fs, [] => ([], fs)
  | fs, f :: r => ((one str room fs f).1 ++ (many str room (one str room fs f).2 r).1, (many str room (one str room fs f).2 r).2)
/-- The updates ahead of a block. -/
def head (was least now : Nat) : List UInt8 := if least < now then Pm.num 32 5 least ++ Pm.num 32 5 now else if now ≠ was then Pm.num 32 5 now else []

theorem kind_of (h b : Nat) (hb : (h, b) = (128, 7) ∨ (h, b) = (64, 6) ∨ (h, b) = (32, 5) ∨ (h, b) = (16, 4) ∨ (h, b) = (0, 4)) (n : Nat) :
    ∃ x r, Pm.num h b n = x :: r ∧ kind x = (if h = 128 then 0 else if h = 64 then 1 else if h = 32 then 2 else 3, b) := by
  have key : 1 ≤ b ∧ b ≤ 8 ∧ h < 256 ∧ h % 2 ^ b = 0 := by
    rcases hb with hb | hb | hb | hb | hb <;> (obtain ⟨rfl, rfl⟩ := Prod.mk.inj hb; decide)
  obtain ⟨x, r, e, h1, h2⟩ := Pm.head_lt h b n key.1 key.2.1 key.2.2.1 key.2.2.2
  refine ⟨x, r, e, ?_⟩
  unfold kind
  rcases hb with hb | hb | hb | hb | hb <;> obtain ⟨rfl, rfl⟩ := Prod.mk.inj hb
  · rw [if_pos h1]; rfl
  · rw [if_neg (by omega), if_pos h1]; rfl
  · rw [if_neg (by omega), if_neg (by omega), if_pos h1]; rfl
  · rw [if_neg (by omega), if_neg (by omega), if_neg (by omega)]; rfl
  · rw [if_neg (by omega), if_neg (by omega), if_neg (by omega)]; rfl

end Hp
end Go.Proofs.Ytmkkhfkfjmfdcaa
