/-
  Numbers that texts write: plain functions and lemmas, with no program in sight.
  Messages on lists: walks, lengths, trailers, targets. What is of no program.
  Decimal numerals: plain lemmas, with no program in sight.
  Messages on lists: lengths as decimals. What is of no program.
-/
import Derived.Test.YthhpejgpfaikaaaGreatDoorPnAA
import Derived.WalkKit
import Derived.Lib.ItoaMem
namespace Go.Proofs.YthhpejgpfaikaaaGreatDoor
namespace Tx

/-- The greatest number. -/
def top : Int := 9223372036854775807
theorem top_eq : top = 9223372036854775807 := rfl
/-- The number that digits of base b write. -/
def numv (b : Int) (l : List UInt8) : Int := l.foldl (fun n c => n * b + dgt (c.toNat : Int)) 0
def digs (b : Int) (l : List UInt8) : Bool := allC (fun c => decide (dgt c < b)) l
theorem numv_snoc (b : Int) (l : List UInt8) (c : UInt8) : numv b (l ++ [c]) = numv b l * b + dgt (c.toNat : Int) := by
  unfold numv; rw [List.foldl_append]; rfl
theorem numv_nonneg (b : Int) (hb : 0 ≤ b) (l : List UInt8) : 0 ≤ numv b l := by
  unfold numv
  suffices h : ∀ n : Int, 0 ≤ n → 0 ≤ l.foldl (fun n c => n * b + dgt (c.toNat : Int)) n from h 0 (Int.le_refl _)
  induction l with
  | nil => intro n hn; exact hn
  | cons c l ih => intro n hn; exact ih _ (Int.add_nonneg (Int.mul_nonneg hn hb) (dgt_bd _).1)

/-- P1.5: the number and the error's number. -/
def num (b : Int) (l : List UInt8) : Int × Int := if l.isEmpty || !digs b l then (0, 10) else if top < numv b l then (0, 5) else (numv b l, 0)

/-- What the loop of read keeps. -/
structure NumRel (b : Int) (l : List UInt8) (n : Int) (o : Bool) : Prop where
  digs : digs b l = true
  lo : 0 ≤ n
  hi : n ≤ top
  no : o = false → n = numv b l
  yes : o = true → top < numv b l
theorem NumRel.start (b : Int) : NumRel b [] 0 false := ⟨rfl, Int.le_refl _, by decide, fun _ => rfl, fun h => (by cases h)⟩
theorem digs_snoc (b : Int) (l : List UInt8) (c : UInt8) (h : digs b l = true) (hc : dgt (c.toNat : Int) < b) : digs b (l ++ [c]) = true := by
  unfold digs allC at *; rw [List.all_append, h]; simp [hc]
theorem NumRel.over {b : Int} {l : List UInt8} {n : Int} (h : NumRel b l n true) (hb : 1 ≤ b) (c : UInt8) (hc : dgt (c.toNat : Int) < b) : NumRel b (l ++ [c]) n true :=
  have hy : top < numv b (l ++ [c]) := by
    rw [numv_snoc]
    have h1 := h.yes rfl
    have h2 := (dgt_bd (c.toNat : Int)).1
    have h3 := numv_nonneg b (by omega) l
    have h4 : numv b l * 1 ≤ numv b l * b := Int.mul_le_mul_of_nonneg_left hb h3
    omega
  ⟨digs_snoc b l c h.digs hc, h.lo, h.hi, fun e => (by cases e), fun _ => hy⟩
theorem NumRel.goes {b : Int} {l : List UInt8} {n : Int} (h : NumRel b l n false) (c : UInt8) (hc : dgt (c.toNat : Int) < b) (hn : top < n * b + dgt (c.toNat : Int)) : NumRel b (l ++ [c]) n true :=
  ⟨digs_snoc b l c h.digs hc, h.lo, h.hi, fun e => (by cases e), fun _ => by rw [numv_snoc, ← h.no rfl]; exact hn⟩
theorem NumRel.step {b : Int} {l : List UInt8} {n : Int} (h : NumRel b l n false) (hb : 0 ≤ b) (c : UInt8) (hc : dgt (c.toNat : Int) < b) (hn : n * b + dgt (c.toNat : Int) ≤ top) : NumRel b (l ++ [c]) (n * b + dgt (c.toNat : Int)) false :=
  ⟨digs_snoc b l c h.digs hc, Int.add_nonneg (Int.mul_nonneg h.lo hb) (dgt_bd _).1, hn, fun _ => by rw [numv_snoc, ← h.no rfl], fun e => (by cases e)⟩
theorem num_bad (b : Int) (s : ByteArray) (k : Nat) (h : k < s.size) (hc : ¬ dgt (s[k].toNat : Int) < b) : num b s.data.toList = (0, 10) := by
  unfold num digs
  rw [allC_no _ s k h (by simpa using hc)]; simp
theorem num_empty (b : Int) (l : List UInt8) (h : l.isEmpty = true) : num b l = (0, 10) := by unfold num; rw [h]; simp
theorem num_over (b : Int) (s : ByteArray) (k : Nat) (h : s.size ≤ k) (he : s.data.toList.isEmpty = false) (n : Int) (hr : NumRel b (s.data.toList.take k) n true) : num b s.data.toList = (0, 5) := by
  rw [List.take_of_length_le (by rw [← Lib.size_eq]; exact h)] at hr
  unfold num
  rw [he, hr.digs, if_neg (by decide), if_pos (hr.yes rfl)]
theorem num_ok (b : Int) (s : ByteArray) (k : Nat) (h : s.size ≤ k) (he : s.data.toList.isEmpty = false) (n : Int) (hr : NumRel b (s.data.toList.take k) n false) : num b s.data.toList = (n, 0) := by
  rw [List.take_of_length_le (by rw [← Lib.size_eq]; exact h)] at hr
  have e := hr.no rfl
  have hi := hr.hi
  subst e
  unfold num
  rw [he, hr.digs, if_neg (by decide), if_neg (by omega)]

end Tx
end Go.Proofs.YthhpejgpfaikaaaGreatDoor

namespace Go.Proofs.YthhpejgpfaikaaaGreatDoor
namespace Ms
/-- The value that the length's fields say, ahead of it the one that was said; none: they are refused. -/
def lenGo : Option ByteArray → List Fd → Option (Option ByteArray)
  | cur, [] => some cur
  | cur, f :: r => if lo f.n == sLen then (if dec f.v && (match cur with | some v => f.v.toList == v.toList | none => true) then lenGo (some f.v) r else none) else lenGo cur r
def lenV : Option (Option ByteArray) → Value
  | none => .tuple #[.int .i64 0, .bool false, .int .i64 142]
  | some none => .tuple #[.int .i64 0, .bool false, .int .i64 0]
  | some (some v) => .tuple #[.int .i64 (Tx.num 10 v.data.toList).1, .bool true, .int .i64 0]
theorem len_drop {l : List Fd} {i : Nat} {f : Fd} (h : l[i]? = some f) (cur : Option ByteArray) : lenGo cur (l.drop i) = if lo f.n == sLen then (if dec f.v && (match cur with | some v => f.v.toList == v.toList | none => true) then lenGo (some f.v) (l.drop (i + 1)) else none) else lenGo cur (l.drop (i + 1)) := by
  obtain ⟨h1, h2⟩ := List.getElem?_eq_some_iff.1 h
  rw [List.drop_eq_getElem_cons h1, h2]
  cases cur <;> rfl
def opt (has : Bool) (v : ByteArray) : Option ByteArray := if has then some v else none
def bad1 (ahead : List Fd) (bh : Bool) (f : Fd) : Bool := bh || (fnd f.n.toList ahead).isSome || !pss.contains f.n.toList
def bad2 (ahead : List Fd) (f : Fd) : Bool := !plain f || (f.n.toList == [116, 101] && !(f.v.toList == [116, 114, 97, 105, 108, 101, 114, 115])) || (f.n.toList == [104, 111, 115, 116] && (fnd f.n.toList ahead).isSome)
/-- What is wrong with a header list from here on. -/
def walk (ahead : List Fd) (bh : Bool) : List Fd → Int
  | [] => 0
  | f :: r => if psd f.n then (if bad1 ahead bh f then 140 else walk (ahead ++ [f]) bh r) else if bad2 ahead f then 141 else walk (ahead ++ [f]) true r
theorem walk_drop {l : List Fd} {i : Nat} {f : Fd} (h : l[i]? = some f) (bh : Bool) : walk (l.take i) bh (l.drop i) = if psd f.n then (if bad1 (l.take i) bh f then 140 else walk (l.take (i + 1)) bh (l.drop (i + 1))) else if bad2 (l.take i) f then 141 else walk (l.take (i + 1)) true (l.drop (i + 1)) := by
  obtain ⟨h1, h2⟩ := List.getElem?_eq_some_iff.1 h
  rw [List.drop_eq_getElem_cons h1, h2, walk, List.take_add_one, h]
  rfl
/-- What is wrong with trailers. -/
def trail : List Fd → Int
  | [] => 0
  | f :: r => if psd f.n then 140 else if !plain f || noTr.contains f.n.toList then 143 else trail r
theorem trail_drop {l : List Fd} {i : Nat} {f : Fd} (h : l[i]? = some f) : trail (l.drop i) = if psd f.n then 140 else if !plain f || noTr.contains f.n.toList then 143 else trail (l.drop (i + 1)) := by
  obtain ⟨h1, h2⟩ := List.getElem?_eq_some_iff.1 h
  rw [List.drop_eq_getElem_cons h1, h2, trail]
def beg (x h : ByteArray) : Bool := decide (h.size ≤ x.size) && ((x.extract 0 h.size).toList == h.toList)
def bHttp : ByteArray := ⟨#[104, 116, 116, 112]⟩
def bHttps : ByteArray := ⟨#[104, 116, 116, 112, 115]⟩
def bHttp3 : ByteArray := ⟨#[104, 116, 116, 112, 58, 47, 47]⟩
def bHttps3 : ByteArray := ⟨#[104, 116, 116, 112, 115, 58, 47, 47]⟩
def goOn (c : UInt8) : Bool := !(c == 47) && !(c == 63)
/-- Where an authority ends. -/
def stop (L : List UInt8) : Nat := (L.takeWhile goOn).length
theorem stop_le (L : List UInt8) : stop L ≤ L.length := (List.takeWhile_sublist _).length_le
theorem stop_lt {L : List UInt8} {i : Nat} {c : UInt8} (hi : i < stop L) (hc : L[i]? = some c) : goOn c = true := by
  induction L generalizing i with
  | nil => simp at hc
  | cons a r ih =>
    unfold stop at hi
    rw [List.takeWhile_cons] at hi
    split at hi
    · rename_i ha
      cases i with
      | zero => simp at hc; subst hc; exact ha
      | succ i => exact ih (i := i) (by simp at hi; exact hi) (by simpa using hc)
    · simp at hi
theorem stop_at {L : List UInt8} {c : UInt8} (hc : L[stop L]? = some c) : goOn c = false := by
  induction L with
  | nil => simp at hc
  | cons a r ih =>
    unfold stop at hc
    rw [List.takeWhile_cons] at hc
    split at hc
    · exact ih (by simpa [stop] using hc)
    · rename_i ha
      simp at hc
      subst hc
      simpa using ha
def head47 (p : ByteArray) : ByteArray := if decide (0 < p.size) && ((tx p).head? == some 47) then p else ⟨#[47]⟩ ++ p
end Ms
end Go.Proofs.YthhpejgpfaikaaaGreatDoor

namespace Go.Proofs.YthhpejgpfaikaaaGreatDoor
namespace Tx

theorem itoa_lo (n : Int) (h0 : 0 ≤ n) (h : n < 10) : Lib.itoa n = [UInt8.ofNat (48 + n).toNat] := by
  obtain ⟨u, rfl⟩ := Int.eq_ofNat_of_zero_le h0
  rw [Lib.itoa_nonneg, Lib.decDigits_one (by omega)]
  congr 2
theorem itoa_hi (n : Int) (h : 10 ≤ n) : Lib.itoa n = Lib.itoa (n / 10) ++ [UInt8.ofNat (48 + n % 10).toNat] := by
  obtain ⟨u, rfl⟩ := Int.eq_ofNat_of_zero_le (by omega : 0 ≤ n)
  rw [Lib.itoa_nonneg, show ((u : Int) / 10) = ((u / 10 : Nat) : Int) by omega, Lib.itoa_nonneg, Lib.decDigits, dif_neg (by omega)]
  congr 3
theorem itoa_nlo (n : Int) (h : n < 0) (h' : -10 < n) : Lib.itoa n = 45 :: Lib.itoa (-n) := by
  obtain ⟨u, hu⟩ := Int.eq_ofNat_of_zero_le (by omega : 0 ≤ -n)
  obtain rfl : n = -(u : Int) := by omega
  rw [Lib.itoa_neg u (by omega), Int.neg_neg, Lib.itoa_nonneg]
theorem itoa_nhi (n : Int) (h : n ≤ -10) : Lib.itoa n = Lib.itoa (n.tdiv 10) ++ [UInt8.ofNat (48 - n.tmod 10).toNat] := by
  obtain ⟨u, hu⟩ := Int.eq_ofNat_of_zero_le (by omega : 0 ≤ -n)
  obtain rfl : n = -(u : Int) := by omega
  have e1 : (-(u : Int)).tdiv 10 = -((u / 10 : Nat) : Int) := by rw [Int.neg_tdiv]; rfl
  have e2 : (-(u : Int)).tmod 10 = -((u % 10 : Nat) : Int) := by rw [Int.neg_tmod]; rfl
  rw [e1, e2, Lib.itoa_neg u (by omega), Lib.itoa_neg (u / 10) (by omega), Lib.decDigits, dif_neg (by omega), List.cons_append]
  congr 4; omega
theorem itoa_le (n : Int) : ∀ m : Nat, n.natAbs < 10 ^ m → (Lib.itoa n).length ≤ m + 2 := by
  intro m h
  have hd : ∀ (m u : Nat), u < 10 ^ m → (Lib.decDigits u).length ≤ m + 1 := by
    intro m
    induction m with
    | zero => intro u hu; rw [Lib.decDigits_one (by omega)]; simp
    | succ m ih =>
      intro u hu
      by_cases hs : u < 10
      · rw [Lib.decDigits_one hs]; simp
      · rw [Lib.decDigits, dif_neg hs, List.length_append]
        have := ih (u / 10) (by rw [Nat.pow_succ] at hu; omega)
        simp; omega
  unfold Lib.itoa
  split
  · have := hd m n.natAbs h; simp; omega
  · have := hd m n.toNat (by omega); omega

/-! ### what a numeral reads as -/
theorem dgt_of (k : Nat) (h : k < 10) : dgt (((UInt8.ofNat (48 + k)).toNat : Nat) : Int) = k := by
  have e : (UInt8.ofNat (48 + k)).toNat = 48 + k := by simp; omega
  rw [e]; unfold dgt digC
  rw [if_pos (by simp; omega)]; omega
theorem digs_append (b : Int) (l r : List UInt8) : digs b (l ++ r) = (digs b l && digs b r) := by unfold digs allC; rw [List.all_append]
theorem decDigits_reads : ∀ (m u : Nat), u ≤ m → digs 10 (Lib.decDigits u) = true ∧ numv 10 (Lib.decDigits u) = u ∧ (Lib.decDigits u).isEmpty = false := by
  intro m
  induction m with
  | zero =>
    intro u hu
    obtain rfl : u = 0 := by omega
    rw [Lib.decDigits_one (by omega)]
    decide
  | succ m ih =>
    intro u hu
    by_cases hs : u < 10
    · rw [Lib.decDigits_one hs]
      have := dgt_of u hs
      refine ⟨?_, ?_, rfl⟩
      · unfold digs allC; simp only [List.all_cons, List.all_nil, Bool.and_true, this]; simp; omega
      · unfold numv; simp only [List.foldl_cons, List.foldl_nil, this]; omega
    · obtain ⟨h1, h2, _⟩ := ih (u / 10) (by omega)
      have hd := dgt_of (u % 10) (by omega)
      rw [Lib.decDigits, dif_neg hs]
      refine ⟨?_, ?_, by simp⟩
      · rw [digs_append, h1]; unfold digs allC; simp only [List.all_cons, List.all_nil, Bool.and_true, Bool.true_and, hd]; simp; omega
      · rw [numv_snoc, h2, hd]; omega
theorem numv_noughts (z : Nat) (l : List UInt8) : numv 10 (List.replicate z 48 ++ l) = numv 10 l := by
  induction z with
  | zero => rfl
  | succ z ih =>
    rw [List.replicate_succ, List.cons_append, ← ih]
    unfold numv
    rw [List.foldl_cons]
    rfl
theorem digs_noughts (z : Nat) : digs 10 (List.replicate z 48) = true := by
  unfold digs allC
  rw [List.all_eq_true]
  intro x hx
  obtain rfl := (List.mem_replicate.1 hx).2
  decide
/-- P1.8 -/
theorem num_itoa (n : Int) (h0 : 0 ≤ n) (h1 : n ≤ 9223372036854775807) (z : Nat) : num 10 (List.replicate z 48 ++ Lib.itoa n) = (n, 0) := by
  obtain ⟨u, rfl⟩ := Int.eq_ofNat_of_zero_le h0
  rw [Lib.itoa_nonneg]
  obtain ⟨hd, hn, he⟩ := decDigits_reads u u (Nat.le_refl _)
  unfold num
  rw [digs_append, digs_noughts, hd, numv_noughts, hn, if_neg (by simp; intro _ e; rw [e] at he; simp at he), if_neg (by rw [top_eq]; omega)]
theorem num_itoa_neg (n : Int) (h0 : n < 0) (z : Nat) : num 10 (List.replicate z 48 ++ Lib.itoa n) = (0, 10) := by
  obtain ⟨u, hu⟩ := Int.eq_ofNat_of_zero_le (by omega : 0 ≤ -n)
  obtain rfl : n = -(u : Int) := by omega
  rw [Lib.itoa_neg u (by omega)]
  unfold num
  have : digs 10 (45 :: Lib.decDigits u) = false := by
    unfold digs allC; rw [List.all_cons]; rfl
  rw [digs_append, this]; simp

end Tx
end Go.Proofs.YthhpejgpfaikaaaGreatDoor

namespace Go.Proofs.YthhpejgpfaikaaaGreatDoor
namespace Ms
open Tx

def dg (c : UInt8) : Bool := decide (48 ≤ c.toNat) && decide (c.toNat ≤ 57)
theorem dg_dgt (c : UInt8) : decide (dgt (c.toNat : Int) < 10) = dg c := by
  unfold dgt digC dg
  by_cases h1 : 48 ≤ c.toNat ∧ c.toNat ≤ 57
  · rw [if_pos (by simp; omega)]
    rw [decide_eq_true (by omega), decide_eq_true h1.1, decide_eq_true h1.2]; rfl
  · rw [if_neg (by simp; omega)]
    have : (decide (48 ≤ c.toNat) && decide (c.toNat ≤ 57)) = false := by simp; omega
    rw [this]
    apply decide_eq_false
    split
    · rename_i h; simp at h; omega
    · split
      · rename_i h; simp at h; omega
      · omega
theorem digs_dg (L : List UInt8) : digs 10 L = L.all dg := by
  unfold digs allC
  congr 1
  funext c
  exact dg_dgt c
theorem dgt_dg {c : UInt8} (h : dg c = true) : dgt (c.toNat : Int) = ((c.toNat - 48 : Nat) : Int) := by
  unfold dg at h
  simp at h
  unfold dgt digC
  rw [if_pos (by simp; omega)]
  omega
theorem of_dg {c : UInt8} (h : dg c = true) : UInt8.ofNat (48 + (c.toNat - 48)) = c := by
  unfold dg at h
  simp at h
  apply UInt8.toNat_inj.1
  rw [UInt8.toNat_ofNat', Nat.mod_eq_of_lt] <;> omega
theorem snoc_of {L : List UInt8} {n : Nat} (h : L.length = n + 1) : ∃ r c, L = r ++ [c] ∧ r.length = n := by
  have hne : L ≠ [] := by intro e; rw [e] at h; simp at h
  exact ⟨L.dropLast, L.getLast hne, (List.dropLast_concat_getLast hne).symm, by rw [List.length_dropLast]; omega⟩
/-- A decimal without noughts ahead is written as it is read. -/
theorem dec_back : ∀ (n : Nat) (L : List UInt8), L.length = n + 1 → L.all dg = true → (L.head? = some 48 → n = 0) → ∃ u : Nat, numv 10 L = (u : Int) ∧ Lib.decDigits u = L ∧ (L.head? ≠ some 48 → 1 ≤ u) ∧ u < 10 ^ (n + 1)
  | 0, L, hl, ha, _ => by
    obtain ⟨c, rfl⟩ := List.length_eq_one_iff.1 hl
    have hc : dg c = true := by simpa using ha
    refine ⟨c.toNat - 48, ?_, ?_, ?_, ?_⟩
    · unfold numv
      simp only [List.foldl_cons, List.foldl_nil]
      rw [dgt_dg hc]; omega
    · rw [Lib.decDigits_one (by unfold dg at hc; simp at hc; omega), of_dg hc]
    · intro hh
      unfold dg at hc
      simp at hc hh
      have : c.toNat ≠ 48 := fun e => hh (UInt8.toNat_inj.1 e)
      omega
    · unfold dg at hc; simp at hc; omega
  | n + 1, L, hl, ha, hh => by
    obtain ⟨r, c, rfl, hr⟩ := snoc_of hl
    rw [List.all_append, Bool.and_eq_true] at ha
    have hc : dg c = true := by simpa using ha.2
    have hhd : (r ++ [c]).head? = r.head? := by
      cases r with
      | nil => simp at hr
      | cons a b => rfl
    have h48 : r.head? ≠ some 48 := fun e => by have := hh (hhd.trans e); omega
    obtain ⟨u, hu, hd, h1, hb⟩ := dec_back n r hr ha.1 (fun e => absurd e h48)
    have hu1 := h1 h48
    have hc9 : c.toNat - 48 < 10 := by unfold dg at hc; simp at hc; omega
    refine ⟨u * 10 + (c.toNat - 48), ?_, ?_, fun _ => by omega, by rw [Nat.pow_succ]; omega⟩
    · rw [numv_snoc, hu, dgt_dg hc]; omega
    · rw [Lib.decDigits, dif_neg (by omega), show (u * 10 + (c.toNat - 48)) / 10 = u by omega, show (u * 10 + (c.toNat - 48)) % 10 = c.toNat - 48 by omega, hd, of_dg hc]
theorem dd_head : ∀ (m u : Nat), u ≤ m → 1 ≤ u → (Lib.decDigits u).head? ≠ some 48
  | 0, u, h, h1 => by omega
  | m + 1, u, h, h1 => by
    by_cases hs : u < 10
    · rw [Lib.decDigits_one hs]
      intro e
      simp only [List.head?_cons, Option.some.injEq] at e
      have := congrArg UInt8.toNat e
      rw [UInt8.toNat_ofNat', Nat.mod_eq_of_lt (by omega)] at this
      have h48 : (48 : UInt8).toNat = 48 := rfl
      omega
    · have ih := dd_head m (u / 10) (by omega) (by omega)
      rw [Lib.decDigits, dif_neg hs]
      have hne := (decDigits_reads (u / 10) (u / 10) (Nat.le_refl _)).2.2
      intro e
      apply ih
      cases hq : Lib.decDigits (u / 10) with
      | nil => rw [hq] at hne; simp at hne
      | cons a b => rw [hq] at e; exact e
theorem dec_eq (b : ByteArray) : dec b = (!(tx b == []) && decide (b.size ≤ 15) && !(((tx b).head? == some 48) && decide (1 < b.size)) && (tx b).all dg) := rfl
theorem tx_len (b : ByteArray) : (tx b).length = b.size := by rw [tx, ← Lib.size_eq]
/-- What a text that is a decimal reads as, and that it is written so. -/
theorem dec_num {b : ByteArray} (h : dec b = true) : ∃ u : Nat, num 10 (tx b) = ((u : Int), 0) ∧ Lib.decDigits u = tx b ∧ u < 1000000000000000 := by
  rw [dec_eq] at h
  simp only [Bool.and_eq_true, Bool.not_eq_true', decide_eq_true_eq] at h
  obtain ⟨⟨⟨h1, h2⟩, h3⟩, h4⟩ := h
  have hl := tx_len b
  have h0 : tx b ≠ [] := by intro e; rw [e] at h1; simp at h1
  have hp : 0 < (tx b).length := List.length_pos_iff.2 h0
  obtain ⟨n, hn⟩ : ∃ n, (tx b).length = n + 1 := ⟨(tx b).length - 1, by omega⟩
  obtain ⟨u, hu, hd, _, hb⟩ := dec_back n (tx b) hn h4 (fun e => by
    rw [e] at h3
    simp at h3
    omega)
  have hlt : u < 1000000000000000 := Nat.lt_of_lt_of_le hb (Nat.le_trans (Nat.pow_le_pow_right (by omega) (show n + 1 ≤ 15 by omega)) (by decide))
  refine ⟨u, ?_, hd, hlt⟩
  unfold num
  rw [if_neg (by rw [digs_dg, h4]; simp [h0]), if_neg (by rw [top_eq, hu]; omega), hu]
theorem dec_of {b : ByteArray} (h2 : (num 10 (tx b)).2 = 0) (hs : b.size ≤ 15) (hi : Lib.itoa (num 10 (tx b)).1 = tx b) : dec b = true := by
  have hq : (tx b).isEmpty = false ∧ digs 10 (tx b) = true ∧ num 10 (tx b) = (numv 10 (tx b), 0) := by
    unfold num at h2 ⊢
    split at h2
    · simp at h2
    · rename_i hx
      rw [if_neg hx]
      simp only [Bool.or_eq_true, Bool.not_eq_true', not_or, Bool.not_eq_true, Bool.not_eq_false] at hx
      split at h2
      · simp at h2
      · rename_i hy
        rw [if_neg hy]
        exact ⟨hx.1, hx.2, rfl⟩
  obtain ⟨q1, q2, q3⟩ := hq
  rw [q3] at hi
  obtain ⟨u, hu⟩ := Int.eq_ofNat_of_zero_le (numv_nonneg 10 (by decide) (tx b))
  simp only [hu, Lib.itoa_nonneg] at hi
  rw [dec_eq]
  have hl := tx_len b
  have a1 : (tx b == []) = false := by cases hq : tx b with | nil => rw [hq] at q1; simp at q1 | cons a r => rfl
  have a3 : (((tx b).head? == some 48) && decide (1 < b.size)) = false := by
    by_cases hz : 1 ≤ u
    · have := dd_head u u (Nat.le_refl _) hz
      rw [hi] at this
      rw [show ((tx b).head? == some 48) = false from beq_false_of_ne this]
      rfl
    · have hz0 : u = 0 := by omega
      subst hz0
      rw [Lib.decDigits_one (by omega)] at hi
      rw [← hl, ← hi]
      rfl
  rw [a1, a3, decide_eq_true hs, ← digs_dg, q2]
  rfl
theorem dec_inj {x y : ByteArray} (hx : dec x = true) (hy : dec y = true) (h : (num 10 (tx x)).1 = (num 10 (tx y)).1) : tx x = tx y := by
  obtain ⟨u, hu, hd, _⟩ := dec_num hx
  obtain ⟨v, hv, he, _⟩ := dec_num hy
  rw [hu, hv] at h
  simp only at h
  rw [← hd, ← he]
  congr 1
  omega

end Ms
end Go.Proofs.YthhpejgpfaikaaaGreatDoor
