/-
  Numbers of blocks: the plain theory.
  What is found: the plain theory.
  Blocks of fields: the plain theory. Texts are read and written by two letters (rs, str), of which one thing is asked: what is written is read back.
  Blocks of fields: what is written is read back: the plain theory.
  Blocks of fields: a block that is written again is no longer, and the same from then on: the plain theory.
-/
import Derived.WalkKit
import Derived.Test.YtmkkhfkfjmfdcaaGreatTabP
namespace Go.Proofs.YtmkkhfkfjmfdcaaGreat
namespace Pm

/-- The bytes behind the first one. -/
def tail (n : Nat) : List UInt8 := if n < 128 then [UInt8.ofNat n] else UInt8.ofNat (128 + n % 128) :: tail (n / 128)
  termination_by n
  decreasing_by omega
theorem tail_small (n : Nat) (h : n < 128) : tail n = [UInt8.ofNat n] := by rw [tail, if_pos h]
theorem tail_big (n : Nat) (h : 128 ≤ n) : tail n = UInt8.ofNat (128 + n % 128) :: tail (n / 128) := by rw [tail, if_neg (by omega)]
/-- The bytes of a number. -/
def num (h b n : Nat) : List UInt8 := if n < 2 ^ b - 1 then [UInt8.ofNat (h + n)] else UInt8.ofNat (h + (2 ^ b - 1)) :: tail (n - (2 ^ b - 1))

inductive R where
  | ok (n k : Nat)
  | arg
  | short
  | number
  deriving DecidableEq
/-- Reading goes on. -/
def more (n u i : Nat) : List UInt8 → R
  | [] => .short
  | b :: r =>
    if 2147483647 < n + u * (b.toNat % 128) ∨ (i = 5 ∧ 128 ≤ b.toNat) then .number
    else if b.toNat < 128 then .ok (n + u * (b.toNat % 128)) (i + 1)
    else more (n + u * (b.toNat % 128)) (128 * u) (i + 1) r
/-- A number is read. -/
def rd (b : Nat) : List UInt8 → R
  | [] => .short
  | x :: r => if x.toNat % 2 ^ b < 2 ^ b - 1 then .ok (x.toNat % 2 ^ b) 1 else more (x.toNat % 2 ^ b) 1 1 r

theorem tail_length_pos (n : Nat) : 1 ≤ (tail n).length := by
  by_cases h : n < 128
  · rw [tail_small n h]; simp
  · rw [tail_big n (by omega)]; simp
theorem tail_length (k : Nat) : ∀ n, n < 128 ^ (k + 1) → (tail n).length ≤ k + 1 := by
  induction k with
  | zero => intro n h; rw [tail_small n (by simpa using h)]; simp
  | succ k ih =>
    intro n h
    by_cases h1 : n < 128
    · rw [tail_small n h1]; simp
    · rw [tail_big n (by omega), List.length_cons]
      have := ih (n / 128) (by rw [Nat.pow_succ] at h; exact Nat.div_lt_of_lt_mul (by omega))
      omega
theorem tail_five (n : Nat) (h : n ≤ 2147483647) : (tail n).length ≤ 5 := tail_length 4 n (by omega)
theorem num_length (h b n : Nat) (hn : n ≤ 2147483647) : 1 ≤ (num h b n).length ∧ (num h b n).length ≤ 6 := by
  unfold num
  split
  · simp
  · have := tail_five (n - (2 ^ b - 1)) (by omega)
    simp; omega
theorem num_ten (h b n : Nat) (hn : n ≤ 4611686018427387904) : (num h b n).length ≤ 10 := by
  unfold num
  split
  · simp
  · have := tail_length 8 (n - (2 ^ b - 1)) (by omega)
    simp; omega

theorem more_tail (u i n r) : ∀ m : Nat, n + u * m ≤ 2147483647 → i + (tail m).length ≤ 6 → more n u i (tail m ++ r) = .ok (n + u * m) (i + (tail m).length) := by
  intro m
  induction m using Nat.strongRecOn generalizing u i n with
  | _ m ih =>
    intro h1 h2
    by_cases h : m < 128
    · rw [tail_small m h, List.cons_append, List.nil_append, more]
      have e : (UInt8.ofNat m).toNat = m := by rw [UInt8.toNat_ofNat', Nat.mod_eq_of_lt (by omega)]
      rw [e, Nat.mod_eq_of_lt h, if_neg (by omega), if_pos h]; rfl
    · have hp := tail_length_pos (m / 128)
      rw [tail_big m (by omega)] at h2 ⊢
      rw [List.length_cons] at h2 ⊢
      rw [List.cons_append, more]
      have e : (UInt8.ofNat (128 + m % 128)).toNat = 128 + m % 128 := by rw [UInt8.toNat_ofNat', Nat.mod_eq_of_lt (by omega)]
      have e2 : (128 + m % 128) % 128 = m % 128 := by omega
      have e3 : n + u * (m % 128) + 128 * u * (m / 128) = n + u * m := by
        conv => rhs; rw [← Nat.div_add_mod m 128, Nat.mul_add]
        rw [Nat.mul_comm 128 u, Nat.mul_assoc]; omega
      have e4 : u * (m % 128) ≤ u * m := Nat.mul_le_mul_left _ (Nat.mod_le _ _)
      rw [e, e2, if_neg (by omega), if_neg (by omega), ih (m / 128) (by omega) (128 * u) (i + 1) (n + u * (m % 128)) (by omega) (by omega), e3]
      congr 1; omega
theorem more_short (u i n) : ∀ (m j : Nat), n + u * m ≤ 2147483647 → i + (tail m).length ≤ 6 → j < (tail m).length → more n u i ((tail m).take j) = .short := by
  intro m
  induction m using Nat.strongRecOn generalizing u i n with
  | _ m ih =>
    intro j h1 h2 h3
    cases j with
    | zero => rw [List.take_zero]; rfl
    | succ j =>
      by_cases h : m < 128
      · rw [tail_small m h] at h3; simp at h3
      · have hp := tail_length_pos (m / 128)
        rw [tail_big m (by omega)] at h2 h3 ⊢
        rw [List.length_cons] at h2 h3
        rw [List.take_succ_cons, more]
        have e : (UInt8.ofNat (128 + m % 128)).toNat = 128 + m % 128 := by rw [UInt8.toNat_ofNat', Nat.mod_eq_of_lt (by omega)]
        have e2 : (128 + m % 128) % 128 = m % 128 := by omega
        have e3 : n + u * (m % 128) + 128 * u * (m / 128) = n + u * m := by
          conv => rhs; rw [← Nat.div_add_mod m 128, Nat.mul_add]
          rw [Nat.mul_comm 128 u, Nat.mul_assoc]; omega
        have e4 : u * (m % 128) ≤ u * m := Nat.mul_le_mul_left _ (Nat.mod_le _ _)
        rw [e, e2, if_neg (by omega), if_neg (by omega)]
        exact ih (m / 128) (by omega) (128 * u) (i + 1) (n + u * (m % 128)) j (by omega) (by omega) (by omega)

theorem pow8 (b : Nat) (h0 : 1 ≤ b) (h1 : b ≤ 8) : ∃ q, 2 ^ b * q = 256 ∧ 2 ≤ 2 ^ b ∧ 2 ^ b ≤ 256 := by
  refine ⟨2 ^ (8 - b), by rw [← Nat.pow_add, show b + (8 - b) = 8 by omega], ?_, ?_⟩
  · exact Nat.pow_le_pow_right (n := 2) (by omega) h0
  · exact Nat.pow_le_pow_right (n := 2) (by omega) h1
/-- A first byte. -/
theorem first (h b n : Nat) (h0 : 1 ≤ b) (h1 : b ≤ 8) (hh : h < 256) (hm : h % 2 ^ b = 0) (hn : n < 2 ^ b) : h + n < 256 ∧ (h + n) % 2 ^ b = n := by
  obtain ⟨q, hq, h2, h3⟩ := pow8 b h0 h1
  generalize 2 ^ b = p at *
  have e := Nat.div_add_mod h p
  rw [hm, Nat.add_zero] at e
  have hl : h / p < q := Nat.div_lt_of_lt_mul (by omega)
  have hl2 : p * (h / p + 1) ≤ p * q := Nat.mul_le_mul_left _ hl
  rw [Nat.mul_add, Nat.mul_one] at hl2
  refine ⟨by omega, ?_⟩
  rw [Nat.add_mod, hm, Nat.zero_add, Nat.mod_mod, Nat.mod_eq_of_lt hn]
theorem back (h b n : Nat) (r : List UInt8) (h0 : 1 ≤ b) (h1 : b ≤ 8) (hh : h < 256) (hm : h % 2 ^ b = 0) (hn : n ≤ 2147483647) : rd b (num h b n ++ r) = .ok n (num h b n).length := by
  obtain ⟨q, hq, h2, h3⟩ := pow8 b h0 h1
  unfold num
  by_cases hc : n < 2 ^ b - 1
  · rw [if_pos hc, List.cons_append, rd]
    obtain ⟨f1, f2⟩ := first h b n h0 h1 hh hm (by omega)
    have e : (UInt8.ofNat (h + n)).toNat = h + n := by rw [UInt8.toNat_ofNat', Nat.mod_eq_of_lt (by omega)]
    rw [e, f2, if_pos hc]; rfl
  · rw [if_neg hc, List.cons_append, rd]
    obtain ⟨f1, f2⟩ := first h b (2 ^ b - 1) h0 h1 hh hm (by omega)
    have e : (UInt8.ofNat (h + (2 ^ b - 1))).toNat = h + (2 ^ b - 1) := by rw [UInt8.toNat_ofNat', Nat.mod_eq_of_lt (by omega)]
    have := tail_five (n - (2 ^ b - 1)) (by omega)
    rw [e, f2, if_neg (by omega), more_tail _ _ _ _ _ (by omega) (by omega), List.length_cons]
    congr 1 <;> omega
theorem torn (h b n c : Nat) (h0 : 1 ≤ b) (h1 : b ≤ 8) (hh : h < 256) (hm : h % 2 ^ b = 0) (hn : n ≤ 2147483647) (hc : c < (num h b n).length) : rd b ((num h b n).take c) = .short := by
  obtain ⟨q, hq, h2, h3⟩ := pow8 b h0 h1
  cases c with
  | zero => rfl
  | succ c =>
    unfold num at hc ⊢
    by_cases hd : n < 2 ^ b - 1
    · rw [if_pos hd] at hc; simp at hc
    · rw [if_neg hd] at hc ⊢
      obtain ⟨f1, f2⟩ := first h b (2 ^ b - 1) h0 h1 hh hm (by omega)
      have e : (UInt8.ofNat (h + (2 ^ b - 1))).toNat = h + (2 ^ b - 1) := by rw [UInt8.toNat_ofNat', Nat.mod_eq_of_lt (by omega)]
      have := tail_five (n - (2 ^ b - 1)) (by omega)
      rw [List.length_cons] at hc
      rw [List.take_succ_cons, rd, e, f2, if_neg (by omega)]
      exact more_short _ _ _ _ _ (by omega) (by omega) (by omega)
theorem head_lt (h b n : Nat) (h0 : 1 ≤ b) (h1 : b ≤ 8) (hh : h < 256) (hm : h % 2 ^ b = 0) : ∃ x r, num h b n = x :: r ∧ h ≤ x.toNat ∧ x.toNat < h + 2 ^ b := by
  obtain ⟨q, hq, h2, h3⟩ := pow8 b h0 h1
  unfold num
  by_cases hc : n < 2 ^ b - 1
  · rw [if_pos hc]
    obtain ⟨f1, f2⟩ := first h b n h0 h1 hh hm (by omega)
    refine ⟨_, _, rfl, ?_⟩
    rw [UInt8.toNat_ofNat', Nat.mod_eq_of_lt (by omega)]
    omega
  · rw [if_neg hc]
    obtain ⟨f1, f2⟩ := first h b (2 ^ b - 1) h0 h1 hh hm (by omega)
    refine ⟨_, _, rfl, ?_⟩
    rw [UInt8.toNat_ofNat', Nat.mod_eq_of_lt (by omega)]
    omega

/-- What reading answers. -/
def rV : R → Value
  | .ok n k => .tuple #[.int .i64 (n : Int), .int .i64 (k : Int), .int .i64 0]
  | .arg => .tuple #[.int .i64 0, .int .i64 0, .int .i64 1]
  | .short => .tuple #[.int .i64 0, .int .i64 0, .int .i64 40]
  | .number => .tuple #[.int .i64 0, .int .i64 0, .int .i64 41]
end Pm
end Go.Proofs.YtmkkhfkfjmfdcaaGreat

namespace Go.Proofs.YtmkkhfkfjmfdcaaGreat
namespace Tb

theorem findGo_whole (f : (List UInt8 × List UInt8)) (l : List (List UInt8 × List UInt8)) : ∀ i named k, findGo f l i named = (k, true) → ∃ j, k = i + j + 1 ∧ l[j]? = some f := by
  induction l with
  | nil => intro i named k h; simp [findGo] at h
  | cons g r ih =>
    intro i named k h
    unfold findGo at h
    split at h
    · rename_i e
      injection h with h1 _
      exact ⟨0, by omega, by simp [e]⟩
    · obtain ⟨j, hk, hj⟩ := ih _ _ _ h
      exact ⟨j + 1, by omega, by simpa using hj⟩
theorem findGo_not (f : (List UInt8 × List UInt8)) (l : List (List UInt8 × List UInt8)) : ∀ i named k, findGo f l i named = (k, false) → (∀ g ∈ l, g ≠ f) ∧ (k = named ∨ ∃ j v2, k = i + j + 1 ∧ l[j]? = some (f.1, v2)) := by
  induction l with
  | nil =>
    intro i named k h
    simp [findGo] at h
    exact ⟨by simp, .inl h.symm⟩
  | cons g r ih =>
    intro i named k h
    unfold findGo at h
    split at h
    · injection h with _ h2; cases h2
    · rename_i hne
      obtain ⟨h1, h2⟩ := ih _ _ _ h
      refine ⟨fun x hx => by rcases List.mem_cons.1 hx with rfl | hx; exact hne; exact h1 x hx, ?_⟩
      rcases h2 with h2 | ⟨j, v2, hk, hj⟩
      · by_cases hc : g.1 = f.1 ∧ named = 0
        · rw [if_pos hc] at h2
          exact .inr ⟨0, g.2, by omega, by simp [← hc.1]⟩
        · rw [if_neg hc] at h2
          exact .inl h2
      · exact .inr ⟨j + 1, v2, by omega, by simpa using hj⟩
theorem at_nat (fs : List (List UInt8 × List UInt8)) (j : Nat) : at? fs ((j + 1 : Nat) : Int) = (all fs)[j]? := by
  unfold at?
  rw [if_pos (by omega), show (((j + 1 : Nat) : Int) - 1).toNat = j by omega]
theorem find_whole (fs : List (List UInt8 × List UInt8)) (f : (List UInt8 × List UInt8)) (k : Nat) (h : find fs f = (k, true)) : 0 < k ∧ at? fs (k : Int) = some f := by
  obtain ⟨j, hk, hj⟩ := findGo_whole f (all fs) 0 0 k h
  have : k = j + 1 := by omega
  subst this
  exact ⟨by omega, by rw [at_nat]; exact hj⟩
theorem find_named (fs : List (List UInt8 × List UInt8)) (f : (List UInt8 × List UInt8)) (k : Nat) (h : find fs f = (k, false)) : k = 0 ∨ (0 < k ∧ ∃ v2, at? fs (k : Int) = some (f.1, v2) ∧ (f.1, v2) ≠ f) := by
  obtain ⟨h1, h2⟩ := findGo_not f (all fs) 0 0 k h
  rcases h2 with h2 | ⟨j, v2, hk, hj⟩
  · exact .inl h2
  · have : k = j + 1 := by omega
    subst this
    exact .inr ⟨by omega, v2, by rw [at_nat]; exact hj, h1 _ (List.mem_of_getElem? hj)⟩

end Tb
end Go.Proofs.YtmkkhfkfjmfdcaaGreat

namespace Go.Proofs.YtmkkhfkfjmfdcaaGreat
namespace Hp

/-- A text, read. -/
inductive Tx where
  | ok (t : List UInt8) (k : Nat)
  | err (e : Nat)
/-- What a representation is (0 indexed, 1 added, 2 an update, 3 plain), and how many bits its number has. -/
def kind (b : UInt8) : Nat × Nat := if 128 ≤ b.toNat then (0, 7) else if 64 ≤ b.toNat then (1, 6) else if 32 ≤ b.toNat then (2, 5) else (3, 4)
/-- The error of a number. -/
def rErr : Pm.R → Nat
  | .ok _ _ => 0
  | .arg => 1
  | .short => 40
  | .number => 41

/-- A field, read: the field and what is left; or an error. -/
inductive Fl where
  | ok (f : List UInt8 × List UInt8) (rest : List UInt8)
  | err (e : Nat)
def value (rs : List UInt8 → Tx) (name rest : List UInt8) : Fl :=
  match rs rest with
  | .err e => .err e
  | .ok t k => .ok (name, t) (rest.drop k)
/-- The field of a representation that is no update, whose number is n; rest: what stands behind the number. -/
def field (rs : List UInt8 → Tx) (fs : List (List UInt8 × List UInt8)) (what n : Nat) (rest : List UInt8) : Fl :=
  if what = 0 then
    match Tb.at? fs (n : Int) with
    | none => .err 50
    | some f => .ok f rest
  else if n = 0 then
    match rs rest with
    | .err e => .err e
    | .ok t k => value rs t (rest.drop k)
  else
    match Tb.at? fs (n : Int) with
    | none => .err 50
    | some f => value rs f.1 rest

/-- A decoder on its way through a block: its table (room and fields), what it has read (the newest last). -/
structure D where
  room : Nat
  fs : List (List UInt8 × List UInt8)
  out : List (List UInt8 × List UInt8)
/-- One representation. -/
inductive St where
  | err (e : Nat)
  | go (d : D) (rest : List UInt8)
def step (rs : List UInt8 → Tx) (lim : Nat) (d : D) (b : UInt8) (l : List UInt8) : St :=
  match Pm.rd (kind b).2 (b :: l) with
  | .ok n k =>
    if (kind b).1 = 2 then
      if d.out ≠ [] ∨ lim < n then .err 60
      else .go { d with room := n, fs := Tb.shr n d.fs } ((b :: l).drop k)
    else if lim < d.room then .err 60
    else
      match field rs d.fs (kind b).1 n ((b :: l).drop k) with
      | .err e => .err e
      | .ok f rest => .go { room := d.room, fs := if (kind b).1 = 1 then Tb.add d.room d.fs f else d.fs, out := d.out ++ [f] } rest
  | r => .err (rErr r)
/-- A block: the error (0: none), and the decoder behind it. -/
def run (rs : List UInt8 → Tx) (lim : Nat) : Nat → D → List UInt8 → Nat × D
  | 0, d, _ => (0, d)
  | _ + 1, d, [] => (0, d)
  | m + 1, d, b :: l =>
    match step rs lim d b l with
    | .err e => (e, d)
    | .go d' rest => run rs lim m d' rest
/-- A block, read: with as many steps as it has bytes. -/
def read (rs : List UInt8 → Tx) (lim : Nat) (d : D) (l : List UInt8) : Nat × D := run rs lim l.length d l

/-- Names that are never added; names that are not. -/
def never (n : List UInt8) : Bool := n == [97, 117, 116, 104, 111, 114, 105, 122, 97, 116, 105, 111, 110] || n == [99, 111, 111, 107, 105, 101] || n == [112, 114, 111, 120, 121, 45, 97, 117, 116, 104, 111, 114, 105, 122, 97, 116, 105, 111, 110] || n == [115, 101, 116, 45, 99, 111, 111, 107, 105, 101]
def nots (n : List UInt8) : Bool := n == [58, 112, 97, 116, 104] || n == [99, 111, 110, 116, 101, 110, 116, 45, 108, 101, 110, 103, 116, 104] || n == [99, 111, 110, 116, 101, 110, 116, 45, 114, 97, 110, 103, 101] || n == [100, 97, 116, 101] || n == [101, 116, 97, 103] || n == [108, 97, 115, 116, 45, 109, 111, 100, 105, 102, 105, 101, 100] || n == [108, 111, 99, 97, 116, 105, 111, 110]
/-- A field's texts behind the number. -/
def texts (str : List UInt8 → List UInt8) (k : Nat) (f : List UInt8 × List UInt8) : List UInt8 := (if k = 0 then str f.1 else []) ++ str f.2
/-- A field's representation, and the table's fields behind it. -/
def one (str : List UInt8 → List UInt8) (room : Nat) (fs : List (List UInt8 × List UInt8)) (f : List UInt8 × List UInt8) : List UInt8 × List (List UInt8 × List UInt8) :=
  if never f.1 then (Pm.num 16 4 (Tb.find fs f).1 ++ texts str (Tb.find fs f).1 f, fs)
  else if (Tb.find fs f).2 then (Pm.num 128 7 (Tb.find fs f).1, fs)
  else if nots f.1 ∨ room < Tb.wt f then (Pm.num 0 4 (Tb.find fs f).1 ++ texts str (Tb.find fs f).1 f, fs)
  else (Pm.num 64 6 (Tb.find fs f).1 ++ texts str (Tb.find fs f).1 f, Tb.add room fs f)
def many (str : List UInt8 → List UInt8) (room : Nat) : List (List UInt8 × List UInt8) → List (List UInt8 × List UInt8) → List UInt8 × List (List UInt8 × List UInt8)
  | fs, [] => ([], fs)
  | fs, f :: r => ((one str room fs f).1 ++ (many str room (one str room fs f).2 r).1, (many str room (one str room fs f).2 r).2)
/-- The updates ahead of a block. -/
def head (was least now : Nat) : List UInt8 := if least < now then Pm.num 32 5 least ++ Pm.num 32 5 now else if now ≠ was then Pm.num 32 5 now else []

theorem kind_of (h b : Nat) (hb : (h, b) = (128, 7) ∨ (h, b) = (64, 6) ∨ (h, b) = (32, 5) ∨ (h, b) = (16, 4) ∨ (h, b) = (0, 4)) (n : Nat) :
    ∃ x r, Pm.num h b n = x :: r ∧ kind x = (if h = 128 then 0 else if h = 64 then 1 else if h = 32 then 2 else 3, b) := by
  have key : 1 ≤ b ∧ b ≤ 8 ∧ h < 256 ∧ h % 2 ^ b = 0 := by
    rcases hb with hb | hb | hb | hb | hb <;> (obtain ⟨rfl, rfl⟩ := Prod.mk.inj hb; decide)
  obtain ⟨x, r, e, h1, h2⟩ := Pm.head_lt h b n key.1 key.2.1 key.2.2.1 key.2.2.2
  refine ⟨x, r, e, ?_⟩
  unfold kind
  rcases hb with hb | hb | hb | hb | hb <;> obtain ⟨rfl, rfl⟩ := Prod.mk.inj hb
  · rw [if_pos h1]; rfl
  · rw [if_neg (by omega), if_pos h1]; rfl
  · rw [if_neg (by omega), if_neg (by omega), if_pos h1]; rfl
  · rw [if_neg (by omega), if_neg (by omega), if_neg (by omega)]; rfl
  · rw [if_neg (by omega), if_neg (by omega), if_neg (by omega)]; rfl

end Hp
end Go.Proofs.YtmkkhfkfjmfdcaaGreat

namespace Go.Proofs.YtmkkhfkfjmfdcaaGreat
namespace Hp

theorem find_le (fs : List (List UInt8 × List UInt8)) (f : List UInt8 × List UInt8) : (Tb.find fs f).1 ≤ 61 + fs.length := by
  have := Tb.findGo_le f (Tb.all fs) 0 0 (Nat.le_refl _)
  rw [Tb.all_length, Nat.zero_add] at this
  exact this

/-- A number that is written is met by the next step. -/
theorem step_num (rs : List UInt8 → Tx) (lim : Nat) (d : D) (h b : Nat) (hb : (h, b) = (128, 7) ∨ (h, b) = (64, 6) ∨ (h, b) = (32, 5) ∨ (h, b) = (16, 4) ∨ (h, b) = (0, 4)) (n : Nat) (hn : n ≤ 2147483647) (w : Nat) (hw : w = if h = 128 then 0 else if h = 64 then 1 else if h = 32 then 2 else 3) (t : List UInt8) :
    ∃ x l, Pm.num h b n ++ t = x :: l ∧ step rs lim d x l =
      if w = 2 then (if d.out ≠ [] ∨ lim < n then .err 60 else .go { d with room := n, fs := Tb.shr n d.fs } t)
      else if lim < d.room then .err 60
      else match field rs d.fs w n t with
        | .err e => .err e
        | .ok f rest => .go { room := d.room, fs := if w = 1 then Tb.add d.room d.fs f else d.fs, out := d.out ++ [f] } rest := by
  obtain ⟨x, r, e, hk⟩ := kind_of h b hb n
  have key : 1 ≤ b ∧ b ≤ 8 ∧ h < 256 ∧ h % 2 ^ b = 0 := by
    rcases hb with hb | hb | hb | hb | hb <;> (obtain ⟨rfl, rfl⟩ := Prod.mk.inj hb; decide)
  refine ⟨x, r ++ t, by rw [e]; rfl, ?_⟩
  have hrd := Pm.back h b n t key.1 key.2.1 key.2.2.1 key.2.2.2 hn
  have hx : x :: (r ++ t) = Pm.num h b n ++ t := by rw [e]; rfl
  rw [← hw] at hk
  unfold step
  rw [hk]
  simp only
  rw [hx, hrd]
  simp only [List.drop_left]
  all_goals rfl

section
variable (rs : List UInt8 → Tx) (str : List UInt8 → List UInt8) (hback : ∀ l r : List UInt8, l.length < 268435456 → rs (str l ++ r) = .ok l (str l).length)
 include hback

theorem value_back (name v r : List UInt8) (hv : v.length < 268435456) : value rs name (str v ++ r) = .ok (name, v) r := by
  unfold value
  rw [hback v r hv]
  simp only [List.drop_left]
theorem texts_back (fs : List (List UInt8 × List UInt8)) (w : Nat) (hw : w ≠ 0) (f : List UInt8 × List UInt8) (h1 : f.1.length < 268435456) (h2 : f.2.length < 268435456) (r : List UInt8) :
    field rs fs w (Tb.find fs f).1 (texts str (Tb.find fs f).1 f ++ r) = .ok f r := by
  unfold field texts
  rw [if_neg hw]
  by_cases hk : (Tb.find fs f).1 = 0
  · rw [if_pos hk, if_pos hk, List.append_assoc, hback f.1 _ h1]
    simp only [List.drop_left]
    exact value_back rs str hback f.1 f.2 r h2
  · rw [if_neg hk, if_neg hk, List.nil_append]
    have hname : ∃ v2, Tb.at? fs ((Tb.find fs f).1 : Int) = some (f.1, v2) := by
      cases hwh : (Tb.find fs f).2 with
      | true =>
        obtain ⟨_, h⟩ := Tb.find_whole fs f (Tb.find fs f).1 (by rw [← hwh])
        exact ⟨f.2, h⟩
      | false =>
        rcases Tb.find_named fs f (Tb.find fs f).1 (by rw [← hwh]) with h | ⟨_, v2, h, _⟩
        · exact absurd h hk
        · exact ⟨v2, h⟩
    obtain ⟨v2, hat⟩ := hname
    rw [hat]
    exact value_back rs str hback f.1 f.2 r h2

/-- A field that is written is read. -/
theorem step_one (lim room : Nat) (fs : List (List UInt8 × List UInt8)) (out : List (List UInt8 × List UInt8)) (f : List UInt8 × List UInt8) (hr : room ≤ lim) (hl : fs.length ≤ 65536) (h1 : f.1.length < 268435456) (h2 : f.2.length < 268435456) (t : List UInt8) :
    ∃ x l, (one str room fs f).1 ++ t = x :: l ∧ step rs lim ⟨room, fs, out⟩ x l = .go ⟨room, (one str room fs f).2, out ++ [f]⟩ t := by
  have hk : (Tb.find fs f).1 ≤ 2147483647 := by have := find_le fs f; omega
  have hlt : ¬ lim < room := by omega
  unfold one
  by_cases c1 : never f.1 = true
  · rw [if_pos c1]
    obtain ⟨x, l, e, hs⟩ := step_num rs lim ⟨room, fs, out⟩ 16 4 (by simp) _ hk 3 rfl (texts str (Tb.find fs f).1 f ++ t)
    refine ⟨x, l, by rw [← e, List.append_assoc], ?_⟩
    rw [hs, if_neg (by decide), if_neg hlt, texts_back rs str hback fs 3 (by decide) f h1 h2 t]
    rfl
  · rw [if_neg c1]
    by_cases c2 : (Tb.find fs f).2 = true
    · rw [if_pos c2]
      obtain ⟨x, l, e, hs⟩ := step_num rs lim ⟨room, fs, out⟩ 128 7 (by simp) _ hk 0 rfl t
      obtain ⟨_, hat⟩ := Tb.find_whole fs f (Tb.find fs f).1 (by rw [← c2])
      refine ⟨x, l, e, ?_⟩
      rw [hs, if_neg (by decide), if_neg hlt]
      unfold field
      rw [if_pos rfl, hat]
      rfl
    · rw [if_neg c2]
      by_cases c3 : nots f.1 = true ∨ room < Tb.wt f
      · rw [if_pos c3]
        obtain ⟨x, l, e, hs⟩ := step_num rs lim ⟨room, fs, out⟩ 0 4 (by simp) _ hk 3 rfl (texts str (Tb.find fs f).1 f ++ t)
        refine ⟨x, l, by rw [← e, List.append_assoc], ?_⟩
        rw [hs, if_neg (by decide), if_neg hlt, texts_back rs str hback fs 3 (by decide) f h1 h2 t]
        rfl
      · rw [if_neg c3]
        obtain ⟨x, l, e, hs⟩ := step_num rs lim ⟨room, fs, out⟩ 64 6 (by simp) _ hk 1 rfl (texts str (Tb.find fs f).1 f ++ t)
        refine ⟨x, l, by rw [← e, List.append_assoc], ?_⟩
        rw [hs, if_neg (by decide), if_neg hlt, texts_back rs str hback fs 1 (by decide) f h1 h2 t]
        rfl

 omit hback in
theorem one_size (room : Nat) (fs : List (List UInt8 × List UInt8)) (f : List UInt8 × List UInt8) (hs : Tb.size fs ≤ room) : Tb.size (one str room fs f).2 ≤ room := by
  unfold one
  split
  · exact hs
  · split
    · exact hs
    · split
      · exact hs
      · exact Tb.add_size _ _ _
 omit hback in
theorem many_size (room : Nat) (l : List (List UInt8 × List UInt8)) : ∀ fs, Tb.size fs ≤ room → Tb.size (many str room fs l).2 ≤ room := by
  induction l with
  | nil => intro fs h; exact h
  | cons f r ih => intro fs h; exact ih _ (one_size str room fs f h)

/-- Fields that are written are read, one behind the other. -/
theorem run_many (lim room : Nat) (hr : room ≤ lim) (hr2 : room ≤ 65536) (l : List (List UInt8 × List UInt8)) : ∀ (fs out : List (List UInt8 × List UInt8)) (m : Nat), Tb.size fs ≤ room → (∀ f ∈ l, f.1.length < 268435456 ∧ f.2.length < 268435456) → (many str room fs l).1.length ≤ m →
    run rs lim m ⟨room, fs, out⟩ (many str room fs l).1 = (0, ⟨room, (many str room fs l).2, out ++ l⟩) := by
  induction l with
  | nil =>
    intro fs out m _ _ _
    simp only [many, List.append_nil]
    cases m <;> rfl
  | cons f r ih =>
    intro fs out m hs hb hm
    have hl : fs.length ≤ 65536 := by have := Tb.size_len fs; omega
    obtain ⟨x, t, e, hst⟩ := step_one rs str hback lim room fs out f hr hl (hb f (by simp)).1 (hb f (by simp)).2 (many str room (one str room fs f).2 r).1
    have hlen : (x :: t).length ≤ m := by rw [← e]; exact hm
    simp only [many]
    rw [e]
    cases m with
    | zero => simp at hlen
    | succ m =>
      simp only [run, hst]
      have hlen2 : (many str room (one str room fs f).2 r).1.length ≤ m := by
        have h1 : ((one str room fs f).1 ++ (many str room (one str room fs f).2 r).1).length = (x :: t).length := by rw [e]
        have h2 : 1 ≤ (one str room fs f).1.length := by
          unfold one
          have hk : (Tb.find fs f).1 ≤ 2147483647 := by have := find_le fs f; omega
          split
          · have := (Pm.num_length 16 4 _ hk).1; simp; omega
          · split
            · exact (Pm.num_length 128 7 _ hk).1
            · split
              · have := (Pm.num_length 0 4 _ hk).1; simp; omega
              · have := (Pm.num_length 64 6 _ hk).1; simp; omega
        rw [List.length_append] at h1
        rw [List.length_cons] at h1 hlen
        omega
      rw [ih (one str room fs f).2 (out ++ [f]) m (one_size str room fs f hs) (fun g hg => hb g (by simp [hg])) hlen2, List.append_assoc]
      rfl

 omit hback in
/-- An update that is written is carried out. -/
theorem run_update (lim n : Nat) (hn : n ≤ lim) (hn2 : n ≤ 65536) (room : Nat) (fs : List (List UInt8 × List UInt8)) (t : List UInt8) (m : Nat) (hm : (Pm.num 32 5 n ++ t).length ≤ m) :
    ∃ m', t.length ≤ m' ∧ run rs lim m ⟨room, fs, []⟩ (Pm.num 32 5 n ++ t) = run rs lim m' ⟨n, Tb.shr n fs, []⟩ t := by
  obtain ⟨x, l, e, hs⟩ := step_num rs lim ⟨room, fs, []⟩ 32 5 (by simp) n (by omega) 2 rfl t
  rw [if_pos rfl, if_neg (by simp; omega)] at hs
  have h1 := (Pm.num_length 32 5 n (by omega)).1
  rw [List.length_append] at hm
  cases m with
  | zero => omega
  | succ m =>
    refine ⟨m, by omega, ?_⟩
    rw [e]
    simp only [run, hs]

/-- A block that is written is read: the fields, and both tables are the same. was, least: as the encoder has them; the decoder's table is as the encoder's was. -/
theorem read_block (lim was now : Nat) (fs : List (List UInt8 × List UInt8)) (l : List (List UInt8 × List UInt8)) (hw : was ≤ 65536) (hlim : lim ≤ 65536) (hnow : now ≤ lim) (hs : Tb.size fs ≤ was) (hb : ∀ f ∈ l, f.1.length < 268435456 ∧ f.2.length < 268435456) :
    read rs lim ⟨was, fs, []⟩ (head was (min was now) now ++ (many str now (Tb.shr now fs) l).1) = (0, ⟨now, (many str now (Tb.shr now fs) l).2, l⟩) := by
  have hsz := Tb.shr_size fs now
  unfold read head
  by_cases c1 : was < now
  · rw [Nat.min_eq_left (by omega), if_pos c1, List.append_assoc]
    obtain ⟨m1, h1, e1⟩ := run_update rs lim was (by omega) (by omega) was fs (Pm.num 32 5 now ++ (many str now (Tb.shr now fs) l).1) _ (Nat.le_refl _)
    rw [e1]
    obtain ⟨m2, h2, e2⟩ := run_update rs lim now (by omega) (by omega) was (Tb.shr was fs) ((many str now (Tb.shr now fs) l).1) m1 h1
    rw [e2, Tb.shr_all fs was hs]
    exact run_many rs str hback lim now hnow (by omega) l (Tb.shr now fs) [] m2 hsz hb h2
  · rw [Nat.min_eq_right (by omega), if_neg (by omega)]
    by_cases c2 : now ≠ was
    · rw [if_pos c2]
      obtain ⟨m1, h1, e1⟩ := run_update rs lim now (by omega) (by omega) was fs ((many str now (Tb.shr now fs) l).1) _ (Nat.le_refl _)
      rw [e1]
      exact run_many rs str hback lim now hnow (by omega) l (Tb.shr now fs) [] m1 hsz hb h1
    · have e : now = was := by omega
      subst e
      rw [if_neg (by simp), List.nil_append]
      have hfs : Tb.shr now fs = fs := Tb.shr_all fs now hs
      rw [hfs] at *
      exact run_many rs str hback lim now hnow (by omega) l fs [] _ hs hb (Nat.le_refl _)
end

end Hp
end Go.Proofs.YtmkkhfkfjmfdcaaGreat

namespace Go.Proofs.YtmkkhfkfjmfdcaaGreat
namespace Hp

theorem findGo_true (f : List UInt8 × List UInt8) (l : List (List UInt8 × List UInt8)) : ∀ i named, (Tb.findGo f l i named).2 = true ↔ f ∈ l := by
  induction l with
  | nil => intro i named; simp [Tb.findGo]
  | cons g r ih =>
    intro i named
    unfold Tb.findGo
    by_cases h : g = f
    · rw [if_pos h]; simp [h]
    · rw [if_neg h, ih, List.mem_cons]
      constructor
      · intro h2; exact .inr h2
      · rintro (h2 | h2)
        · exact absurd h2.symm h
        · exact h2
theorem findGo_zero (f : List UInt8 × List UInt8) (l : List (List UInt8 × List UInt8)) : ∀ i named, (Tb.findGo f l i named).1 = 0 ↔ named = 0 ∧ ∀ g ∈ l, g.1 ≠ f.1 := by
  induction l with
  | nil => intro i named; simp [Tb.findGo]
  | cons g r ih =>
    intro i named
    unfold Tb.findGo
    by_cases h : g = f
    · rw [if_pos h]
      constructor
      · intro h2; simp at h2
      · rintro ⟨_, h2⟩; exact absurd (by rw [h]) (h2 g (by simp))
    · rw [if_neg h, ih]
      by_cases h1 : g.1 = f.1
      · constructor
        · rintro ⟨h2, _⟩
          by_cases hn : named = 0
          · rw [if_pos ⟨h1, hn⟩] at h2; omega
          · rw [if_neg (fun x => hn x.2)] at h2; exact absurd h2 hn
        · rintro ⟨_, h2⟩; exact absurd h1 (h2 g (by simp))
      · rw [if_neg (fun x => h1 x.1)]
        constructor
        · rintro ⟨h2, h3⟩
          exact ⟨h2, fun x hx => by rcases List.mem_cons.1 hx with rfl | hx; exact h1; exact h3 x hx⟩
        · rintro ⟨h2, h3⟩
          exact ⟨h2, fun x hx => h3 x (by simp [hx])⟩
theorem find_true (fs : List (List UInt8 × List UInt8)) (f : List UInt8 × List UInt8) : (Tb.find fs f).2 = true ↔ f ∈ Tb.all fs := findGo_true f _ 0 0
theorem find_zero (fs : List (List UInt8 × List UInt8)) (f : List UInt8 × List UInt8) : (Tb.find fs f).1 = 0 ↔ ∀ g ∈ Tb.all fs, g.1 ≠ f.1 := by
  have := findGo_zero f (Tb.all fs) 0 0
  simpa [Tb.find] using this
theorem all_sub {fs gs : List (List UInt8 × List UInt8)} (h : ∀ g ∈ fs, g ∈ gs) : ∀ g ∈ Tb.all fs, g ∈ Tb.all gs := by
  intro g hg
  unfold Tb.all at *
  rcases List.mem_append.1 hg with h1 | h1
  · exact List.mem_append.2 (.inl h1)
  · exact List.mem_append.2 (.inr (h g h1))

section
variable (str : List UInt8 → List UInt8)

theorem one_grow (fs : List (List UInt8 × List UInt8)) (f : List UInt8 × List UInt8) (hs : Tb.size fs + Tb.wt f ≤ 4096) :
    ((one str 4096 fs f).2 = fs ∨ (one str 4096 fs f).2 = f :: fs) ∧ (never f.1 = true ∨ nots f.1 = true ∨ f ∈ Tb.all (one str 4096 fs f).2) := by
  unfold one
  by_cases c1 : never f.1 = true
  · rw [if_pos c1]; exact ⟨.inl rfl, .inl c1⟩
  · rw [if_neg c1]
    by_cases c2 : (Tb.find fs f).2 = true
    · rw [if_pos c2]; exact ⟨.inl rfl, .inr (.inr ((find_true fs f).1 c2))⟩
    · rw [if_neg c2]
      by_cases c3 : nots f.1 = true ∨ 4096 < Tb.wt f
      · rw [if_pos c3]
        rcases c3 with c3 | c3
        · exact ⟨.inl rfl, .inr (.inl c3)⟩
        · omega
      · rw [if_neg c3]
        have e : Tb.add 4096 fs f = f :: fs := by
          unfold Tb.add
          rw [if_neg (by omega), Tb.shr_all fs _ (by omega)]
        exact ⟨.inr e, .inr (.inr (by show f ∈ Tb.all (Tb.add 4096 fs f); rw [e]; unfold Tb.all; simp))⟩
theorem many_grow (l : List (List UInt8 × List UInt8)) : ∀ fs, Tb.size fs + Tb.size l ≤ 4096 → (∀ g ∈ fs, g ∈ (many str 4096 fs l).2) ∧ Tb.size (many str 4096 fs l).2 ≤ Tb.size fs + Tb.size l ∧ ∀ f ∈ l, never f.1 = true ∨ nots f.1 = true ∨ f ∈ Tb.all (many str 4096 fs l).2 := by
  induction l with
  | nil => intro fs _; exact ⟨fun g h => h, by simp [many, Tb.size], by simp⟩
  | cons f r ih =>
    intro fs hs
    rw [Tb.size_cons] at hs
    obtain ⟨h1, h2⟩ := one_grow str fs f (by omega)
    have hsz : Tb.size (one str 4096 fs f).2 ≤ Tb.size fs + Tb.wt f := by
      rcases h1 with h1 | h1 <;> rw [h1]
      · omega
      · rw [Tb.size_cons]; omega
    have hsub : ∀ g ∈ fs, g ∈ (one str 4096 fs f).2 := by
      intro g hg
      rcases h1 with h1 | h1 <;> rw [h1]
      · exact hg
      · exact List.mem_cons_of_mem _ hg
    obtain ⟨i1, i2, i3⟩ := ih (one str 4096 fs f).2 (by omega)
    simp only [many]
    refine ⟨fun g hg => i1 g (hsub g hg), by rw [Tb.size_cons]; omega, fun g hg => ?_⟩
    rcases List.mem_cons.1 hg with rfl | hg
    · rcases h2 with h2 | h2 | h2
      · exact .inl h2
      · exact .inr (.inl h2)
      · exact .inr (.inr (all_sub i1 g h2))
    · exact i3 g hg

theorem one_still (fs : List (List UInt8 × List UInt8)) (f : List UInt8 × List UInt8) (h : never f.1 = true ∨ nots f.1 = true ∨ f ∈ Tb.all fs) : (one str 4096 fs f).2 = fs := by
  unfold one
  by_cases c1 : never f.1 = true
  · rw [if_pos c1]
  · rw [if_neg c1]
    by_cases c2 : (Tb.find fs f).2 = true
    · rw [if_pos c2]
    · rw [if_neg c2]
      by_cases c3 : nots f.1 = true ∨ 4096 < Tb.wt f
      · rw [if_pos c3]
      · rcases h with h | h | h
        · exact absurd h c1
        · exact absurd (.inl h) c3
        · exact absurd ((find_true fs f).2 h) c2
theorem many_still (fs : List (List UInt8 × List UInt8)) (l : List (List UInt8 × List UInt8)) (h : ∀ f ∈ l, never f.1 = true ∨ nots f.1 = true ∨ f ∈ Tb.all fs) : (many str 4096 fs l).2 = fs := by
  induction l with
  | nil => rfl
  | cons f r ih =>
    simp only [many]
    rw [one_still str fs f (h f (by simp))]
    exact ih (fun g hg => h g (by simp [hg]))

theorem num4 (h n : Nat) (hn : n ≤ 142) : 1 ≤ (Pm.num h 4 n).length ∧ (Pm.num h 4 n).length ≤ 2 := by
  unfold Pm.num
  split
  · simp
  · rw [Pm.tail_small _ (by omega)]; simp
theorem num7 (h n : Nat) (hn : n < 127) : (Pm.num h 7 n).length = 1 := by
  unfold Pm.num
  rw [if_pos (by simpa using hn)]; rfl

theorem one_len (fs gs : List (List UInt8 × List UInt8)) (f : List UInt8 × List UInt8) (hsub : ∀ g ∈ fs, g ∈ gs) (h1 : fs.length ≤ 64) (h2 : gs.length ≤ 64) (h : never f.1 = true ∨ nots f.1 = true ∨ f ∈ Tb.all gs) :
    (one str 4096 gs f).1.length ≤ (one str 4096 fs f).1.length + 1 := by
  have k1 := find_le fs f
  have k2 := find_le gs f
  have ht : (texts str (Tb.find gs f).1 f).length ≤ (texts str (Tb.find fs f).1 f).length := by
    unfold texts
    by_cases c : (Tb.find fs f).1 = 0
    · rw [if_pos c]
      split
      · exact Nat.le_refl _
      · simp
    · rw [if_neg c]
      have : (Tb.find gs f).1 ≠ 0 := fun e => c ((find_zero fs f).2 fun g hg => (find_zero gs f).1 e g (all_sub hsub g hg))
      rw [if_neg this]
      exact Nat.le_refl _
  have n1 := num4 16 (Tb.find fs f).1 (by omega)
  have n2 := num4 16 (Tb.find gs f).1 (by omega)
  have n3 := num4 0 (Tb.find fs f).1 (by omega)
  have n4 := num4 0 (Tb.find gs f).1 (by omega)
  unfold one
  by_cases c1 : never f.1 = true
  · rw [if_pos c1, if_pos c1]
    simp only [List.length_append]
    omega
  · rw [if_neg c1, if_neg c1]
    by_cases c2 : (Tb.find gs f).2 = true
    · rw [if_pos c2]
      have := num7 128 (Tb.find gs f).1 (by omega)
      simp only [this]
      omega
    · rw [if_neg c2]
      have c2' : ¬ (Tb.find fs f).2 = true := fun e => c2 ((find_true gs f).2 (all_sub hsub f ((find_true fs f).1 e)))
      rw [if_neg c2']
      have c3 : nots f.1 = true := by
        rcases h with h | h | h
        · exact absurd h c1
        · exact h
        · exact absurd ((find_true gs f).2 h) c2
      rw [if_pos (.inl c3), if_pos (.inl c3)]
      simp only [List.length_append]
      omega
theorem many_len (gs : List (List UInt8 × List UInt8)) (h2 : Tb.size gs ≤ 2000) (l : List (List UInt8 × List UInt8)) : ∀ fs, Tb.size fs + Tb.size l ≤ 2000 → (∀ g ∈ (many str 4096 fs l).2, g ∈ gs) → (∀ f ∈ l, never f.1 = true ∨ nots f.1 = true ∨ f ∈ Tb.all gs) →
    (many str 4096 gs l).1.length ≤ (many str 4096 fs l).1.length + l.length := by
  have hg : gs.length ≤ 64 := by have := Tb.size_len gs; omega
  induction l with
  | nil => intro fs _ _ _; simp [many]
  | cons f r ih =>
    intro fs hs hsub ha
    rw [Tb.size_cons] at hs
    have hfl : fs.length ≤ 64 := by have := Tb.size_len fs; omega
    obtain ⟨g1, g2⟩ := one_grow str fs f (by omega)
    have hsz : Tb.size (one str 4096 fs f).2 ≤ Tb.size fs + Tb.wt f := by
      rcases g1 with g1 | g1 <;> rw [g1]
      · omega
      · rw [Tb.size_cons]; omega
    have hin : ∀ g ∈ (one str 4096 fs f).2, g ∈ gs := fun g hg' => hsub g (by simp only [many]; exact (many_grow str r _ (by omega)).1 g hg')
    have hfs : ∀ g ∈ fs, g ∈ gs := by
      intro g hg'
      refine hin g ?_
      rcases g1 with g1 | g1 <;> rw [g1]
      · exact hg'
      · exact List.mem_cons_of_mem _ hg'
    have hone := one_len str fs gs f hfs hfl hg (ha f (by simp))
    have hrec := ih (one str 4096 fs f).2 (by omega) (fun g hg' => hsub g (by simp only [many]; exact hg')) (fun x hx => ha x (by simp [hx]))
    simp only [many, List.length_append, List.length_cons]
    rw [one_still str gs f (ha f (by simp))]
    omega

/-- A block that is written again: the same from then on, and no longer than the first one by more than a byte a field. -/
theorem less (l : List (List UInt8 × List UInt8)) (hl : Tb.size l ≤ 2000) :
    (many str 4096 (many str 4096 [] l).2 l).1.length ≤ (many str 4096 [] l).1.length + l.length ∧ (many str 4096 (many str 4096 (many str 4096 [] l).2 l).2 l).1 = (many str 4096 (many str 4096 [] l).2 l).1 ∧ (many str 4096 (many str 4096 [] l).2 l).2 = (many str 4096 [] l).2 := by
  obtain ⟨h1, h2, h3⟩ := many_grow str l [] (by rw [Tb.size_nil]; omega)
  rw [Tb.size_nil, Nat.zero_add] at h2
  have hs := many_still str _ l h3
  exact ⟨many_len str _ (by omega) l [] (by rw [Tb.size_nil]; omega) (fun g hg => hg) h3, by rw [hs], hs⟩
end

end Hp
end Go.Proofs.YtmkkhfkfjmfdcaaGreat
