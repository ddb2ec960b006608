/-
  Messages on lists: lengths as decimals. What is of no program.
  Messages on lists: which request a header list is, and which a request line and fields are. What is of no program.
  The writer of responses of version 1, on lists: what is of no program.
-/
import Derived.Test.YtbpdhcfmdkmoiaaDoorPwAB
import Derived.Test.YtbpdhcfmdkmoiaaDoorPwAF
import Derived.Lib.ItoaNum
namespace Go.Proofs.YtbpdhcfmdkmoiaaDoor
namespace Ms
open Tx

def dg (c : UInt8) : Bool := decide (48 ≤ c.toNat) && decide (c.toNat ≤ 57)
theorem dg_dgt (c : UInt8) : decide (dgt (c.toNat : Int) < 10) = dg c := by
  unfold dgt digC dg
  by_cases h1 : 48 ≤ c.toNat ∧ c.toNat ≤ 57
  · rw [if_pos (by simp; omega)]
    rw [decide_eq_true (by omega), decide_eq_true h1.1, decide_eq_true h1.2]; rfl
  · rw [if_neg (by simp; omega)]
    have : (decide (48 ≤ c.toNat) && decide (c.toNat ≤ 57)) = false := by simp; omega
    rw [this]
    apply decide_eq_false
    split
    · rename_i h; simp at h; omega
    · split
      · rename_i h; simp at h; omega
      · omega
theorem digs_dg (L : List UInt8) : digs 10 L = L.all dg := by
  unfold digs allC
  congr 1
  funext c
  exact dg_dgt c
theorem dgt_dg {c : UInt8} (h : dg c = true) : dgt (c.toNat : Int) = ((c.toNat - 48 : Nat) : Int) := by
  unfold dg at h
  simp at h
  unfold dgt digC
  rw [if_pos (by simp; omega)]
  omega
theorem of_dg {c : UInt8} (h : dg c = true) : UInt8.ofNat (48 + (c.toNat - 48)) = c := by
  unfold dg at h
  simp at h
  apply UInt8.toNat_inj.1
  rw [UInt8.toNat_ofNat', Nat.mod_eq_of_lt] <;> omega
theorem snoc_of {L : List UInt8} {n : Nat} (h : L.length = n + 1) : ∃ r c, L = r ++ [c] ∧ r.length = n := by
  have hne : L ≠ [] := by intro e; rw [e] at h; simp at h
  exact ⟨L.dropLast, L.getLast hne, (List.dropLast_concat_getLast hne).symm, by rw [List.length_dropLast]; omega⟩
/-- A decimal without noughts ahead is written as it is read. -/
theorem dec_back : ∀ (n : Nat) (L : List UInt8), L.length = n + 1 → L.all dg = true → (L.head? = some 48 → n = 0) → ∃ u : Nat, numv 10 L = (u : Int) ∧ Lib.decDigits u = L ∧ (L.head? ≠ some 48 → 1 ≤ u) ∧ u < 10 ^ (n + 1)
  | 0, L, hl, ha, _ => by
    obtain ⟨c, rfl⟩ := List.length_eq_one_iff.1 hl
    have hc : dg c = true := by simpa using ha
    refine ⟨c.toNat - 48, ?_, ?_, ?_, ?_⟩
    · unfold numv
      simp only [List.foldl_cons, List.foldl_nil]
      rw [dgt_dg hc]; omega
    · rw [Lib.decDigits_one (by unfold dg at hc; simp at hc; omega), of_dg hc]
    · intro hh
      unfold dg at hc
      simp at hc hh
      have : c.toNat ≠ 48 := fun e => hh (UInt8.toNat_inj.1 e)
      omega
    · unfold dg at hc; simp at hc; omega
  | n + 1, L, hl, ha, hh => by
    obtain ⟨r, c, rfl, hr⟩ := snoc_of hl
    rw [List.all_append, Bool.and_eq_true] at ha
    have hc : dg c = true := by simpa using ha.2
    have hhd : (r ++ [c]).head? = r.head? := by
      cases r with
      | nil => simp at hr
      | cons a b => rfl
    have h48 : r.head? ≠ some 48 := fun e => by have := hh (hhd.trans e); omega
    obtain ⟨u, hu, hd, h1, hb⟩ := dec_back n r hr ha.1 (fun e => absurd e h48)
    have hu1 := h1 h48
    have hc9 : c.toNat - 48 < 10 := by unfold dg at hc; simp at hc; omega
    refine ⟨u * 10 + (c.toNat - 48), ?_, ?_, fun _ => by omega, by rw [Nat.pow_succ]; omega⟩
    · rw [numv_snoc, hu, dgt_dg hc]; omega
    · rw [Lib.decDigits, dif_neg (by omega), show (u * 10 + (c.toNat - 48)) / 10 = u by omega, show (u * 10 + (c.toNat - 48)) % 10 = c.toNat - 48 by omega, hd, of_dg hc]
theorem dd_head : ∀ (m u : Nat), u ≤ m → 1 ≤ u → (Lib.decDigits u).head? ≠ some 48
  | 0, u, h, h1 => by omega
  | m + 1, u, h, h1 => by
    by_cases hs : u < 10
    · rw [Lib.decDigits_one hs]
      intro e
      simp only [List.head?_cons, Option.some.injEq] at e
      have := congrArg UInt8.toNat e
      rw [UInt8.toNat_ofNat', Nat.mod_eq_of_lt (by omega)] at this
      have h48 : (48 : UInt8).toNat = 48 := rfl
      omega
    · have ih := dd_head m (u / 10) (by omega) (by omega)
      rw [Lib.decDigits, dif_neg hs]
      have hne := (decDigits_reads (u / 10) (u / 10) (Nat.le_refl _)).2.2
      intro e
      apply ih
      cases hq : Lib.decDigits (u / 10) with
      | nil => rw [hq] at hne; simp at hne
      | cons a b => rw [hq] at e; exact e
theorem dec_eq (b : ByteArray) : dec b = (!(tx b == []) && decide (b.size ≤ 15) && !(((tx b).head? == some 48) && decide (1 < b.size)) && (tx b).all dg) := rfl
theorem tx_len (b : ByteArray) : (tx b).length = b.size := by rw [tx, ← Lib.size_eq]
/-- What a text that is a decimal reads as, and that it is written so. -/
theorem dec_num {b : ByteArray} (h : dec b = true) : ∃ u : Nat, num 10 (tx b) = ((u : Int), 0) ∧ Lib.decDigits u = tx b ∧ u < 1000000000000000 := by
  rw [dec_eq] at h
  simp only [Bool.and_eq_true, Bool.not_eq_true', decide_eq_true_eq] at h
  obtain ⟨⟨⟨h1, h2⟩, h3⟩, h4⟩ := h
  have hl := tx_len b
  have h0 : tx b ≠ [] := by intro e; rw [e] at h1; simp at h1
  have hp : 0 < (tx b).length := List.length_pos_iff.2 h0
  obtain ⟨n, hn⟩ : ∃ n, (tx b).length = n + 1 := ⟨(tx b).length - 1, by omega⟩
  obtain ⟨u, hu, hd, _, hb⟩ := dec_back n (tx b) hn h4 (fun e => by
    rw [e] at h3
    simp at h3
    omega)
  have hlt : u < 1000000000000000 := Nat.lt_of_lt_of_le hb (Nat.le_trans (Nat.pow_le_pow_right (by omega) (show n + 1 ≤ 15 by omega)) (by decide))
  refine ⟨u, ?_, hd, hlt⟩
  unfold num
  rw [if_neg (by rw [digs_dg, h4]; simp [h0]), if_neg (by rw [top_eq, hu]; omega), hu]
theorem dec_of {b : ByteArray} (h2 : (num 10 (tx b)).2 = 0) (hs : b.size ≤ 15) (hi : Lib.itoa (num 10 (tx b)).1 = tx b) : dec b = true := by
  have hq : (tx b).isEmpty = false ∧ digs 10 (tx b) = true ∧ num 10 (tx b) = (numv 10 (tx b), 0) := by
    unfold num at h2 ⊢
    split at h2
    · simp at h2
    · rename_i hx
      rw [if_neg hx]
      simp only [Bool.or_eq_true, Bool.not_eq_true', not_or, Bool.not_eq_true, Bool.not_eq_false] at hx
      split at h2
      · simp at h2
      · rename_i hy
        rw [if_neg hy]
        exact ⟨hx.1, hx.2, rfl⟩
  obtain ⟨q1, q2, q3⟩ := hq
  rw [q3] at hi
  obtain ⟨u, hu⟩ := Int.eq_ofNat_of_zero_le (numv_nonneg 10 (by decide) (tx b))
  simp only [hu, Lib.itoa_nonneg] at hi
  rw [dec_eq]
  have hl := tx_len b
  have a1 : (tx b == []) = false := by cases hq : tx b with | nil => rw [hq] at q1; simp at q1 | cons a r => rfl
  have a3 : (((tx b).head? == some 48) && decide (1 < b.size)) = false := by
    by_cases hz : 1 ≤ u
    · have := dd_head u u (Nat.le_refl _) hz
      rw [hi] at this
      rw [show ((tx b).head? == some 48) = false from beq_false_of_ne this]
      rfl
    · have hz0 : u = 0 := by omega
      subst hz0
      rw [Lib.decDigits_one (by omega)] at hi
      rw [← hl, ← hi]
      rfl
  rw [a1, a3, decide_eq_true hs, ← digs_dg, q2]
  rfl
theorem dec_inj {x y : ByteArray} (hx : dec x = true) (hy : dec y = true) (h : (num 10 (tx x)).1 = (num 10 (tx y)).1) : tx x = tx y := by
  obtain ⟨u, hu, hd, _⟩ := dec_num hx
  obtain ⟨v, hv, he, _⟩ := dec_num hy
  rw [hu, hv] at h
  simp only at h
  rw [← hd, ← he]
  congr 1
  omega

end Ms
end Go.Proofs.YtbpdhcfmdkmoiaaDoor

namespace Go.Proofs.YtbpdhcfmdkmoiaaDoor
namespace Ms

def e0 : ByteArray := ⟨#[]⟩
def keepB (f : Fd) : Bool := !psd f.n && !(f.n.toList == [104, 111, 115, 116]) && !(f.n.toList == [116, 101])
def keep (l : List Fd) : List Fd := l.filter keepB
def lines (m s p : ByteArray) : Bool := Tx.isTok (tx m) && (s.toList == sHttp || s.toList == sHttps) && goes m p

end Ms
end Go.Proofs.YtbpdhcfmdkmoiaaDoor

namespace Go.Proofs.YtbpdhcfmdkmoiaaDoor
namespace Hw
abbrev T8 := List UInt8
def ba (l : T8) : ByteArray := ⟨l.toArray⟩
theorem ba_list (l : T8) : (ba l).data.toList = l := rfl
def crlf : T8 := [13, 10]
def ver : T8 := [72, 84, 84, 80, 47, 49, 46, 49, 32]
/-- The statuses that have a phrase of their own. -/
def reasons : List (Int × T8) := [(100, [67, 111, 110, 116, 105, 110, 117, 101]), (200, [79, 75]), (204, [78, 111, 32, 67, 111, 110, 116, 101, 110, 116]), (206, [80, 97, 114, 116, 105, 97, 108, 32, 67, 111, 110, 116, 101, 110, 116]), (304, [78, 111, 116, 32, 77, 111, 100, 105, 102, 105, 101, 100]), (400, [66, 97, 100, 32, 82, 101, 113, 117, 101, 115, 116]), (404, [78, 111, 116, 32, 70, 111, 117, 110, 100]), (405, [77, 101, 116, 104, 111, 100, 32, 78, 111, 116, 32, 65, 108, 108, 111, 119, 101, 100]), (408, [82, 101, 113, 117, 101, 115, 116, 32, 84, 105, 109, 101, 111, 117, 116]), (410, [71, 111, 110, 101]), (412, [80, 114, 101, 99, 111, 110, 100, 105, 116, 105, 111, 110, 32, 70, 97, 105, 108, 101, 100]), (413, [67, 111, 110, 116, 101, 110, 116, 32, 84, 111, 111, 32, 76, 97, 114, 103, 101]), (414, [85, 82, 73, 32, 84, 111, 111, 32, 76, 111, 110, 103]), (416, [82, 97, 110, 103, 101, 32, 78, 111, 116, 32, 83, 97, 116, 105, 115, 102, 105, 97, 98, 108, 101]), (417, [69, 120, 112, 101, 99, 116, 97, 116, 105, 111, 110, 32, 70, 97, 105, 108, 101, 100]), (421, [77, 105, 115, 100, 105, 114, 101, 99, 116, 101, 100, 32, 82, 101, 113, 117, 101, 115, 116]), (431, [82, 101, 113, 117, 101, 115, 116, 32, 72, 101, 97, 100, 101, 114, 32, 70, 105, 101, 108, 100, 115, 32, 84, 111, 111, 32, 76, 97, 114, 103, 101]), (500, [73, 110, 116, 101, 114, 110, 97, 108, 32, 83, 101, 114, 118, 101, 114, 32, 69, 114, 114, 111, 114]), (501, [78, 111, 116, 32, 73, 109, 112, 108, 101, 109, 101, 110, 116, 101, 100]), (503, [83, 101, 114, 118, 105, 99, 101, 32, 85, 110, 97, 118, 97, 105, 108, 97, 98, 108, 101]), (505, [72, 84, 84, 80, 32, 86, 101, 114, 115, 105, 111, 110, 32, 78, 111, 116, 32, 83, 117, 112, 112, 111, 114, 116, 101, 100])]
def sStatus : T8 := [83, 116, 97, 116, 117, 115]
def reason (s : Int) : T8 := match reasons.find? (fun p => s == p.1) with | some p => p.2 | none => sStatus
def stat (s : Int) : Int := if s < 100 ∨ 999 < s then 500 else s
def line1 (s : Int) : T8 := ver ++ Lib.itoa (stat s) ++ [32] ++ reason (stat s) ++ crlf
def line (f : Fd) : T8 := Tx.lower f.n.data.toList ++ [58, 32] ++ f.v.data.toList ++ crlf
def lns (l : List Fd) : T8 := (Ms.strip l).flatMap line
def mayF (f : Fd) : Bool := Tx.isTok f.n.data.toList && Tx.isVal f.v.data.toList
def may (l : List Fd) : Bool := l.all mayF
def hexD (d : Nat) : UInt8 := if d < 10 then UInt8.ofNat (48 + d) else UInt8.ofNat (87 + d)
def hexF : Nat → Nat → T8
  | 0, n => [hexD n]
  | k + 1, n => if n < 16 then [hexD n] else hexF k (n / 16) ++ [hexD (n % 16)]
def hex (n : Nat) : T8 := hexF n n
theorem hexF_eq : ∀ (k m n : Nat), n ≤ k → n ≤ m → hexF k n = hexF m n
  | 0, 0, n, _, _ => rfl
  | 0, m + 1, n, h, _ => by
    obtain rfl : n = 0 := by omega
    rfl
  | k + 1, 0, n, _, h => by
    obtain rfl : n = 0 := by omega
    rfl
  | k + 1, m + 1, n, h, h' => by
    rw [hexF, hexF]
    split
    · rfl
    · rw [hexF_eq k m (n / 16) (by omega) (by omega)]
theorem hex_step (u : Nat) (h : ¬ u < 16) : hex u = hex (u / 16) ++ [hexD (u % 16)] := by
  unfold hex
  obtain ⟨k, rfl⟩ : ∃ k, u = k + 1 := ⟨u - 1, by omega⟩
  rw [hexF, if_neg h, hexF_eq k ((k + 1) / 16) ((k + 1) / 16) (by omega) (Nat.le_refl _)]
theorem hex_one (u : Nat) (h : u < 16) : hex u = [hexD u] := by
  unfold hex
  cases u with
  | zero => rfl
  | succ k => rw [hexF, if_pos h]
def te : T8 := [116, 114, 97, 110, 115, 102, 101, 114, 45, 101, 110, 99, 111, 100, 105, 110, 103, 58, 32, 99, 104, 117, 110, 107, 101, 100, 13, 10]
def clo : T8 := [99, 111, 110, 110, 101, 99, 116, 105, 111, 110, 58, 32, 99, 108, 111, 115, 101, 13, 10]
def kee : T8 := [99, 111, 110, 110, 101, 99, 116, 105, 111, 110, 58, 32, 107, 101, 101, 112, 45, 97, 108, 105, 118, 101, 13, 10]
/-- How many parts a body has, and the parts. -/
def pn (n : Nat) : Nat := (n + 16383) / 16384
def part (b : T8) (j : Nat) : T8 := (b.drop (j * 16384)).take 16384
def parts (b : T8) : List T8 := (List.range (pn b.length)).map (part b)
def chunk (p : T8) : T8 := hex p.length ++ crlf ++ p ++ crlf
/-- A response. -/
structure Rp where
  s : Int
  fs : List Fd
  b : ByteArray
  ts : List Fd
/-- What the length field says, if one does. -/
def lenI (o : Option ByteArray) : Int := match o with | some v => (Tx.num 10 v.data.toList).1 | none => 0
/-- The response has no body. -/
def bare0 (s : Int) : Bool := (decide (100 ≤ s) && decide (s ≤ 199)) || s == 204 || s == 304
def bare (r : Rp) (head : Bool) : Bool := head || bare0 (stat r.s)
def opn (r : Rp) (head : Bool) (o : Option ByteArray) : Bool := !bare r head && o.isNone
/-- What a head says of its end. -/
def ends (opn old last : Bool) : T8 := (if opn && !old then te else []) ++ (if last || opn && old then clo else if old then kee else [])
def top (r : Rp) (opn old last : Bool) : T8 := line1 r.s ++ lns r.fs ++ ends opn old last ++ crlf
def fin (ts : List Fd) : T8 := [48, 13, 10] ++ lns ts ++ crlf
def rest (r : Rp) (opn old : Bool) : List T8 := if opn && !old then (parts r.b.data.toList).map chunk ++ [fin r.ts] else parts r.b.data.toList
/-- A response's pieces, and what is wrong with it: 0 nothing, 10 a field, 31 its length. -/
def pieces (r : Rp) (old head last : Bool) : List T8 × Int :=
  if !may r.fs || !may r.ts then ([], 220) else
  match Ms.lenGo none r.fs with
  | none => ([], 142)
  | some o => if !bare r head && o.isSome && !(lenI o == (r.b.size : Int)) then ([], 142)
    else (top r (opn r head o) old last :: (if bare r head then [] else rest r (opn r head o) old), 0)

theorem pn_lt {n j : Nat} : j < pn n ↔ j * 16384 < n := by unfold pn; omega
theorem parts_len (b : T8) : (parts b).length = pn b.length := by unfold parts; rw [List.length_map, List.length_range]
theorem parts_at (b : T8) (j : Nat) (h : j < pn b.length) : (parts b)[j]? = some (part b j) := by
  unfold parts; rw [List.getElem?_map, List.getElem?_range h]; rfl
theorem range_snoc (f : Nat → T8) (j : Nat) : (List.range (j + 1)).map f = (List.range j).map f ++ [f j] := by rw [List.range_succ, List.map_append]; rfl
theorem part_len (b : T8) (j : Nat) : (part b j).length ≤ 16384 := by unfold part; rw [List.length_take]; omega
theorem part_pos (b : T8) (j : Nat) (h : j < pn b.length) : 1 ≤ (part b j).length := by
  rw [pn_lt] at h; unfold part; rw [List.length_take, List.length_drop]; omega

theorem stat_bd (s : Int) : 100 ≤ stat s ∧ stat s ≤ 999 := by unfold stat; split <;> omega

end Hw
end Go.Proofs.YtbpdhcfmdkmoiaaDoor
