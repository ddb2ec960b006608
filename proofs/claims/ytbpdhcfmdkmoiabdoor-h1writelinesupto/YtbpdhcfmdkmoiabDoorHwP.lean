/-
  The writer of responses of version 1, on lists: what is of no program.
-/
import Derived.Test.YtbpdhcfmdkmoiabDoorMsR
import Derived.Test.YtbpdhcfmdkmoiabDoorPureList
import Derived.Test.YtbpdhcfmdkmoiabDoorPureNum
import Derived.Lib.ItoaNum
namespace Go.Proofs.YtbpdhcfmdkmoiabDoor
namespace Hw
abbrev T8 := List UInt8
def ba (l : T8) : ByteArray := ⟨l.toArray⟩
theorem ba_list (l : T8) : (ba l).data.toList = l := rfl
theorem ba_of (x : ByteArray) : ba x.data.toList = x := rfl
theorem ba_app (a b : T8) : ba a ++ ba b = ba (a ++ b) := by
  apply ByteArray.ext; unfold ba; simp [ByteArray.data_append]
theorem ba_size (l : T8) : (ba l).size = l.length := rfl
theorem size_ba (x : ByteArray) : x.data.toList.length = x.size := rfl
def crlf : T8 := [13, 10]
def ver : T8 := [72, 84, 84, 80, 47, 49, 46, 49, 32]
/-- The statuses that have a phrase of their own. -/
def reasons : List (Int × T8) := [(100, [67, 111, 110, 116, 105, 110, 117, 101]), (200, [79, 75]), (204, [78, 111, 32, 67, 111, 110, 116, 101, 110, 116]), (206, [80, 97, 114, 116, 105, 97, 108, 32, 67, 111, 110, 116, 101, 110, 116]), (304, [78, 111, 116, 32, 77, 111, 100, 105, 102, 105, 101, 100]), (400, [66, 97, 100, 32, 82, 101, 113, 117, 101, 115, 116]), (404, [78, 111, 116, 32, 70, 111, 117, 110, 100]), (405, [77, 101, 116, 104, 111, 100, 32, 78, 111, 116, 32, 65, 108, 108, 111, 119, 101, 100]), (408, [82, 101, 113, 117, 101, 115, 116, 32, 84, 105, 109, 101, 111, 117, 116]), (410, [71, 111, 110, 101]), (412, [80, 114, 101, 99, 111, 110, 100, 105, 116, 105, 111, 110, 32, 70, 97, 105, 108, 101, 100]), (413, [67, 111, 110, 116, 101, 110, 116, 32, 84, 111, 111, 32, 76, 97, 114, 103, 101]), (414, [85, 82, 73, 32, 84, 111, 111, 32, 76, 111, 110, 103]), (416, [82, 97, 110, 103, 101, 32, 78, 111, 116, 32, 83, 97, 116, 105, 115, 102, 105, 97, 98, 108, 101]), (417, [69, 120, 112, 101, 99, 116, 97, 116, 105, 111, 110, 32, 70, 97, 105, 108, 101, 100]), (421, [77, 105, 115, 100, 105, 114, 101, 99, 116, 101, 100, 32, 82, 101, 113, 117, 101, 115, 116]), (431, [82, 101, 113, 117, 101, 115, 116, 32, 72, 101, 97, 100, 101, 114, 32, 70, 105, 101, 108, 100, 115, 32, 84, 111, 111, 32, 76, 97, 114, 103, 101]), (500, [73, 110, 116, 101, 114, 110, 97, 108, 32, 83, 101, 114, 118, 101, 114, 32, 69, 114, 114, 111, 114]), (501, [78, 111, 116, 32, 73, 109, 112, 108, 101, 109, 101, 110, 116, 101, 100]), (503, [83, 101, 114, 118, 105, 99, 101, 32, 85, 110, 97, 118, 97, 105, 108, 97, 98, 108, 101]), (505, [72, 84, 84, 80, 32, 86, 101, 114, 115, 105, 111, 110, 32, 78, 111, 116, 32, 83, 117, 112, 112, 111, 114, 116, 101, 100])]
def sStatus : T8 := [83, 116, 97, 116, 117, 115]
def reason (s : Int) : T8 := match reasons.find? (fun p => s == p.1) with | some p => p.2 | none => sStatus
def stat (s : Int) : Int := if s < 100 ∨ 999 < s then 500 else s
def line1 (s : Int) : T8 := ver ++ Lib.itoa (stat s) ++ [32] ++ reason (stat s) ++ crlf
def line (f : Fd) : T8 := Tx.lower f.n.data.toList ++ [58, 32] ++ f.v.data.toList ++ crlf
def lns (l : List Fd) : T8 := (Ms.strip l).flatMap line
def mayF (f : Fd) : Bool := Tx.isTok f.n.data.toList && Tx.isVal f.v.data.toList
def may (l : List Fd) : Bool := l.all mayF
def hexD (d : Nat) : UInt8 := if d < 10 then UInt8.ofNat (48 + d) else UInt8.ofNat (87 + d)
def hexF : Nat → Nat → T8
  | 0, n => [hexD n]
  | k + 1, n => if n < 16 then [hexD n] else hexF k (n / 16) ++ [hexD (n % 16)]
def hex (n : Nat) : T8 := hexF n n
theorem hexF_eq : ∀ (k m n : Nat), n ≤ k → n ≤ m → hexF k n = hexF m n
  | 0, 0, n, _, _ => rfl
  | 0, m + 1, n, h, _ => by
    obtain rfl : n = 0 := by omega
    rfl
  | k + 1, 0, n, _, h => by
    obtain rfl : n = 0 := by omega
    rfl
  | k + 1, m + 1, n, h, h' => by
    rw [hexF, hexF]
    split
    · rfl
    · rw [hexF_eq k m (n / 16) (by omega) (by omega)]
theorem hex_step (u : Nat) (h : ¬ u < 16) : hex u = hex (u / 16) ++ [hexD (u % 16)] := by
  unfold hex
  obtain ⟨k, rfl⟩ : ∃ k, u = k + 1 := ⟨u - 1, by omega⟩
  rw [hexF, if_neg h, hexF_eq k ((k + 1) / 16) ((k + 1) / 16) (by omega) (Nat.le_refl _)]
theorem hex_one (u : Nat) (h : u < 16) : hex u = [hexD u] := by
  unfold hex
  cases u with
  | zero => rfl
  | succ k => rw [hexF, if_pos h]
def te : T8 := [116, 114, 97, 110, 115, 102, 101, 114, 45, 101, 110, 99, 111, 100, 105, 110, 103, 58, 32, 99, 104, 117, 110, 107, 101, 100, 13, 10]
def clo : T8 := [99, 111, 110, 110, 101, 99, 116, 105, 111, 110, 58, 32, 99, 108, 111, 115, 101, 13, 10]
def kee : T8 := [99, 111, 110, 110, 101, 99, 116, 105, 111, 110, 58, 32, 107, 101, 101, 112, 45, 97, 108, 105, 118, 101, 13, 10]
/-- How many parts a body has, and the parts. -/
def pn (n : Nat) : Nat := (n + 16383) / 16384
def part (b : T8) (j : Nat) : T8 := (b.drop (j * 16384)).take 16384
def parts (b : T8) : List T8 := (List.range (pn b.length)).map (part b)
def chunk (p : T8) : T8 := hex p.length ++ crlf ++ p ++ crlf
/-- A response. -/
structure Rp where
  s : Int
  fs : List Fd
  b : ByteArray
  ts : List Fd
/-- What the length field says, if one does. -/
def lenI (o : Option ByteArray) : Int := match o with | some v => (Tx.num 10 v.data.toList).1 | none => 0
/-- The response has no body. -/
def bare0 (s : Int) : Bool := (decide (100 ≤ s) && decide (s ≤ 199)) || s == 204 || s == 304
def bare (r : Rp) (head : Bool) : Bool := head || bare0 (stat r.s)
def opn (r : Rp) (head : Bool) (o : Option ByteArray) : Bool := !bare r head && o.isNone
/-- What a head says of its end. -/
def ends (opn old last : Bool) : T8 := (if opn && !old then te else []) ++ (if last || opn && old then clo else if old then kee else [])
def top (r : Rp) (opn old last : Bool) : T8 := line1 r.s ++ lns r.fs ++ ends opn old last ++ crlf
def fin (ts : List Fd) : T8 := [48, 13, 10] ++ lns ts ++ crlf
def rest (r : Rp) (opn old : Bool) : List T8 := if opn && !old then (parts r.b.data.toList).map chunk ++ [fin r.ts] else parts r.b.data.toList
/-- A response's pieces, and what is wrong with it: 0 nothing, 10 a field, 31 its length. -/
def pieces (r : Rp) (old head last : Bool) : List T8 × Int :=
  if !may r.fs || !may r.ts then ([], 220) else
  match Ms.lenGo none r.fs with
  | none => ([], 142)
  | some o => if !bare r head && o.isSome && !(lenI o == (r.b.size : Int)) then ([], 142)
    else (top r (opn r head o) old last :: (if bare r head then [] else rest r (opn r head o) old), 0)
def bareT (s : Int) : T8 := line1 s ++ [99, 111, 110, 116, 101, 110, 116, 45, 108, 101, 110, 103, 116, 104, 58, 32, 48, 13, 10] ++ clo ++ crlf

theorem pn_zero : pn 0 = 0 := rfl
theorem pn_more (n : Nat) (h : 0 < n) : pn n = pn (n - 16384) + 1 := by unfold pn; omega
theorem pn_lt {n j : Nat} : j < pn n ↔ j * 16384 < n := by unfold pn; omega
theorem parts_len (b : T8) : (parts b).length = pn b.length := by unfold parts; rw [List.length_map, List.length_range]
theorem parts_at (b : T8) (j : Nat) (h : j < pn b.length) : (parts b)[j]? = some (part b j) := by
  unfold parts; rw [List.getElem?_map, List.getElem?_range h]; rfl
theorem range_snoc (f : Nat → T8) (j : Nat) : (List.range (j + 1)).map f = (List.range j).map f ++ [f j] := by rw [List.range_succ, List.map_append]; rfl
theorem parts_flat (b : T8) : ∀ k, ((List.range k).map (part b)).flatten = b.take (k * 16384)
  | 0 => by simp
  | k + 1 => by
    rw [range_snoc, List.flatten_append, parts_flat b k, List.flatten_cons, List.flatten_nil, List.append_nil, part, Nat.succ_mul, List.take_add]
theorem flat (b : T8) : (parts b).flatten = b := by
  unfold parts
  rw [parts_flat, List.take_of_length_le]
  unfold pn; omega
theorem part_len (b : T8) (j : Nat) : (part b j).length ≤ 16384 := by unfold part; rw [List.length_take]; omega
theorem part_pos (b : T8) (j : Nat) (h : j < pn b.length) : 1 ≤ (part b j).length := by
  rw [pn_lt] at h; unfold part; rw [List.length_take, List.length_drop]; omega

/-! ### line ends -/
theorem none10 {f : Int → Bool} {l : T8} (h : Tx.allC f l = true) (hf : f 10 = false) : l.count 10 = 0 := by
  rw [List.count_eq_zero]
  intro hm
  have h1 := List.all_eq_true.1 h 10 hm
  rw [show ((10 : UInt8).toNat : Int) = 10 from rfl, hf] at h1
  cases h1
theorem low10 (c : UInt8) : Tx.lowC c = 10 ↔ c = 10 := by
  constructor
  · intro h
    unfold Tx.lowC at h
    split at h
    · rename_i hc
      have h2 := congrArg UInt8.toNat h
      rw [UInt8.toNat_ofNat', Nat.mod_eq_of_lt (by omega), show (10 : UInt8).toNat = 10 from rfl] at h2
      omega
    · exact h
  · rintro rfl; rfl
theorem lower10 (l : T8) : (Tx.lower l).count 10 = l.count 10 := by
  induction l with
  | nil => rfl
  | cons a r ih =>
    rw [Tx.lower, List.map_cons, List.count_cons, List.count_cons, ← Tx.lower, ih]
    have : (Tx.lowC a == 10) = (a == 10) := by rw [Bool.eq_iff_iff, beq_iff_eq, beq_iff_eq]; exact low10 a
    rw [this]
theorem dec10 : ∀ (m u : Nat), u ≤ m → (Lib.decDigits u).count 10 = 0
  | 0, u, h => by
    obtain rfl : u = 0 := by omega
    rw [Lib.decDigits, dif_pos (by omega)]; decide
  | m + 1, u, h => by
    have hd : ∀ d : Nat, d < 10 → ([UInt8.ofNat (48 + d)] : T8).count 10 = 0 := by decide
    rw [Lib.decDigits]
    split
    · rename_i h1; exact hd u h1
    · rw [List.count_append, dec10 m (u / 10) (by omega), hd _ (Nat.mod_lt _ (by omega))]
theorem stat_bd (s : Int) : 100 ≤ stat s ∧ stat s ≤ 999 := by unfold stat; split <;> omega
theorem itoa_stat (s : Int) : Lib.itoa (stat s) = Lib.decDigits (stat s).toNat := by
  have := stat_bd s
  unfold Lib.itoa; rw [if_neg (by omega)]
theorem reason10 (s : Int) : (reason s).count 10 = 0 := by
  unfold reason
  split
  · rename_i p h
    have : ∀ p ∈ reasons, p.2.count 10 = 0 := by decide
    exact this p (List.mem_of_find?_eq_some h)
  · decide
theorem line1_10 (s : Int) : (line1 s).count 10 = 1 := by
  unfold line1
  rw [List.count_append, List.count_append, List.count_append, List.count_append, reason10, itoa_stat, dec10 _ _ (Nat.le_refl _)]
  rfl
theorem line_10 (f : Fd) (h : mayF f = true) : (line f).count 10 = 1 := by
  unfold mayF at h
  rw [Bool.and_eq_true] at h
  have h1 : f.n.data.toList.count 10 = 0 := by
    have := h.1; unfold Tx.isTok at this; rw [Bool.and_eq_true] at this
    exact none10 this.1 (by decide)
  have h2 : f.v.data.toList.count 10 = 0 := by
    have := h.2; unfold Tx.isVal at this; rw [Bool.and_eq_true] at this
    exact none10 this.1 (by decide)
  unfold line
  rw [List.count_append, List.count_append, List.count_append, lower10, h1, h2]
  rfl
theorem strip_may {l : List Fd} (h : may l = true) : ∀ f ∈ Ms.strip l, mayF f = true := fun f hf => List.all_eq_true.1 h f ((List.mem_filter.1 hf).1)
theorem flat10 : ∀ l : List Fd, (∀ f ∈ l, mayF f = true) → (l.flatMap line).count 10 = l.length
  | [], _ => rfl
  | f :: r, h => by
    rw [List.flatMap_cons, List.count_append, line_10 f (h f (by simp)), flat10 r (fun g hg => h g (by simp [hg])), List.length_cons]; omega
theorem lns10 {l : List Fd} (h : may l = true) : (lns l).count 10 = (Ms.strip l).length := flat10 _ (strip_may h)
theorem top10 {r : Rp} (h : may r.fs = true) (o old last : Bool) : (Ms.strip r.fs).length + 2 ≤ (top r o old last).count 10 ∧ (top r o old last).count 10 ≤ (Ms.strip r.fs).length + 4 := by
  unfold top
  rw [List.count_append, List.count_append, List.count_append, line1_10, lns10 h]
  have : (ends o old last).count 10 ≤ 2 := by cases o <;> cases old <;> cases last <;> decide
  have : crlf.count 10 = 1 := rfl
  omega
/-- It ends with a line's end. -/
def EndL (x : T8) : Prop := ∃ y, x = y ++ crlf
theorem EndL.after (x : T8) {y : T8} (h : EndL y) : EndL (x ++ y) := by obtain ⟨z, rfl⟩ := h; exact ⟨x ++ z, by rw [List.append_assoc]⟩
theorem lns_end {x : T8} (h : EndL x) (l : List Fd) : EndL (x ++ lns l) := by
  unfold lns
  generalize Ms.strip l = m
  rcases List.eq_nil_or_concat m with rfl | ⟨a, q, rfl⟩
  · simpa using h
  · rw [List.concat_eq_append, List.flatMap_append, List.flatMap_cons, List.flatMap_nil, List.append_nil]
    exact EndL.after _ (EndL.after _ ⟨_, rfl⟩)
theorem ends_end {x : T8} (h : EndL x) (o old last : Bool) : EndL (x ++ ends o old last) := by
  have e : ∀ o old last, ends o old last = [] ∨ EndL (ends o old last) := by
    intro o old last
    cases o <;> cases old <;> cases last
    · exact .inl rfl
    · exact .inr ⟨clo.take 17, rfl⟩
    · exact .inr ⟨kee.take 22, rfl⟩
    · exact .inr ⟨clo.take 17, rfl⟩
    · exact .inr ⟨te.take 26, rfl⟩
    · exact .inr ⟨te ++ clo.take 17, rfl⟩
    · exact .inr ⟨clo.take 17, rfl⟩
    · exact .inr ⟨clo.take 17, rfl⟩
  rcases e o old last with h1 | h1
  · rw [h1]; simpa using h
  · exact EndL.after _ h1
theorem top_end (r : Rp) (o old last : Bool) : ∃ y, top r o old last = y ++ (crlf ++ crlf) ∧ 1 ≤ y.length := by
  have h1 : EndL (line1 r.s) := ⟨_, rfl⟩
  obtain ⟨y, hy⟩ := ends_end (lns_end h1 r.fs) o old last
  refine ⟨y, ?_, ?_⟩
  · unfold top; rw [hy, List.append_assoc]
  · have := congrArg List.length hy
    simp only [line1, List.length_append, ver, crlf, List.length_cons, List.length_nil] at this
    omega

end Hw
end Go.Proofs.YtbpdhcfmdkmoiabDoor
