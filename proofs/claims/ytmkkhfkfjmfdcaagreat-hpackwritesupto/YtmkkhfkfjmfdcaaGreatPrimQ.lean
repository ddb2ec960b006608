/-
  Texts of blocks: the plain theory.
-/
import Derived.Test.YtmkkhfkfjmfdcaaGreatHuffW
import Derived.Test.YtmkkhfkfjmfdcaaGreatHpPl
namespace Go.Proofs.YtmkkhfkfjmfdcaaGreat
namespace Pm

theorem more_le (n k : Nat) : ∀ (l : List UInt8) (m u i : Nat), i ≤ 5 → more m u i l = .ok n k → i + 1 ≤ k ∧ k ≤ i + l.length ∧ k ≤ 6 ∧ n ≤ 2147483647 := by
  intro l
  induction l with
  | nil => intro m u i _ h; rw [more] at h; cases h
  | cons b r ih =>
    intro m u i hi h
    rw [more] at h
    split at h
    · cases h
    · split at h
      · injection h with h1 h2
        rw [List.length_cons]
        omega
      · have := ih _ _ (i + 1) (by omega) h
        rw [List.length_cons]
        omega
theorem rd_le (b n k : Nat) (hb : b ≤ 8) (l : List UInt8) (h : rd b l = .ok n k) : 1 ≤ k ∧ k ≤ l.length ∧ k ≤ 6 ∧ n ≤ 2147483647 := by
  have h8 : 2 ^ b ≤ 2 ^ 8 := Nat.pow_le_pow_right (by omega) hb
  cases l with
  | nil => rw [rd] at h; cases h
  | cons x r =>
    rw [rd] at h
    rw [List.length_cons]
    split at h
    · injection h with h1 h2
      omega
    · have := more_le n k r _ _ 1 (by omega) h
      omega

/-- A text, read. -/
inductive S where
  | ok (t : List UInt8) (k : Nat)
  | err (e : Nat)
  deriving DecidableEq
def ofRes (k : Nat) : Hf.Res → S
  | .ok t => .ok t k
  | .long => .err 3
  | .pad => .err 30
  | .fin => .err 31
def body (M : Nat) (l : List UInt8) (n k : Nat) (c : Bool) : S :=
  if M < (if c then (n + 3) / 4 else n) then .err 3
  else if l.length < k + n then .err 40
  else if c then ofRes (k + n) (Hf.dec M (Hf.unp ((l.drop k).take n)) 0 0 [])
  else .ok ((l.drop k).take n) (k + n)
def ofR (M : Nat) (l : List UInt8) : R → S
  | .ok n k => body M l n k (decide (128 ≤ (l.headD 0).toNat))
  | .arg => .err 1
  | .short => .err 40
  | .number => .err 41
def rs (M : Nat) (l : List UInt8) : S := ofR M l (rd 7 l)
def sV : S → Value
  | .ok t k => .tuple #[.string ⟨t.toArray⟩, .int .i64 (k : Int), .int .i64 0]
  | .err e => .tuple #[.string ⟨#[]⟩, .int .i64 0, .int .i64 (e : Int)]
/-- A text, written. -/
def str (l : List UInt8) : List UInt8 := if (Hf.enc l).length < l.length then num 128 7 (Hf.enc l).length ++ Hf.enc l else num 0 7 l.length ++ l

theorem enc_le (l : List UInt8) : 5 * l.length ≤ 8 * (Hf.enc l).length ∧ (Hf.enc l).length ≤ 4 * l.length := by
  have := Hf.nbits_le l
  rw [Hf.enc_length]; omega
theorem headD_get (l : List UInt8) (h : 0 < l.length) : l.headD 0 = l[0] := by
  cases l with
  | nil => simp at h
  | cons a r => rfl
theorem head_app (a b : List UInt8) (x : UInt8) (r : List UInt8) (h : a = x :: r) : (a ++ b).headD 0 = x := by rw [h]; rfl
/-- What a text's bytes are, either way. -/
theorem str_parts (l : List UInt8) : ∃ (c : Bool) (n h : Nat) (b : List UInt8), str l = num h 7 n ++ b ∧ b.length = n ∧ n ≤ l.length ∧ h < 256 ∧ h % 2 ^ 7 = 0 ∧ (c = true → h = 128 ∧ b = Hf.enc l ∧ n < l.length ∧ n = (Hf.enc l).length) ∧ (c = false → h = 0 ∧ b = l ∧ n = l.length ∧ l.length ≤ (Hf.enc l).length) := by
  unfold str
  by_cases hc : (Hf.enc l).length < l.length
  · exact ⟨true, _, 128, Hf.enc l, by rw [if_pos hc], rfl, by omega, by omega, by decide, fun _ => ⟨rfl, rfl, hc, rfl⟩, (fun h => by cases h)⟩
  · exact ⟨false, _, 0, l, by rw [if_neg hc], rfl, by omega, by omega, by decide, (fun h => by cases h), fun _ => ⟨rfl, rfl, rfl, by omega⟩⟩
theorem str_length (l : List UInt8) (hl : l.length < 268435456) : 1 ≤ (str l).length ∧ (str l).length ≤ l.length + 5 := by
  obtain ⟨c, n, h, b, hs, hb, hn, hh, hm, _, _⟩ := str_parts l
  rw [hs, List.length_append, hb]
  have h1 := num_length h 7 n (by omega)
  have h2 : (num h 7 n).length ≤ 5 := by
    unfold num
    split
    · simp
    · have := tail_length 3 (n - (2 ^ 7 - 1)) (by omega)
      simp; omega
  omega
theorem num_head (h n : Nat) (hh : h < 256) (hm : h % 2 ^ 7 = 0) (r : List UInt8) : decide (128 ≤ ((num h 7 n ++ r).headD 0).toNat) = decide (128 ≤ h) := by
  obtain ⟨x, q, e, h1, h2⟩ := head_lt h 7 n (by omega) (by omega) hh hm
  rw [head_app _ r x q e]
  congr 1
  apply propext
  omega
theorem rs_app (h n M : Nat) (b r : List UInt8) (hh : h < 256) (hm : h % 2 ^ 7 = 0) (hn : n ≤ 2147483647) (hb : b.length = n) :
    rs M (num h 7 n ++ b ++ r) = if M < (if decide (128 ≤ h) then (n + 3) / 4 else n) then .err 3
      else if decide (128 ≤ h) then ofRes ((num h 7 n ++ b).length) (Hf.dec M (Hf.unp b) 0 0 []) else .ok b ((num h 7 n ++ b).length) := by
  have e1 : rd 7 (num h 7 n ++ b ++ r) = .ok n (num h 7 n).length := by rw [List.append_assoc]; exact back h 7 n _ (by omega) (by omega) hh hm hn
  have e2 : ((num h 7 n ++ b ++ r).drop (num h 7 n).length).take n = b := by
    rw [List.append_assoc, List.drop_left, ← hb, List.take_left]
  have e3 : ¬ (num h 7 n ++ b ++ r).length < (num h 7 n).length + n := by simp only [List.length_append]; omega
  have e4 : (num h 7 n).length + n = (num h 7 n ++ b).length := by rw [List.length_append, hb]
  have e5 : decide (128 ≤ ((num h 7 n ++ b ++ r).headD 0).toNat) = decide (128 ≤ h) := by rw [List.append_assoc]; exact num_head h n hh hm _
  unfold rs
  rw [e1]
  simp only [ofR, body]
  rw [e5, e2, if_neg e3, e4]
/-- A text that is written is read. -/
theorem str_back (l r : List UInt8) (hl : l.length < 268435456) : rs l.length (str l ++ r) = .ok l (str l).length := by
  obtain ⟨c, n, h, b, hs, hb, hn, hh, hm, h1, h0⟩ := str_parts l
  rw [hs, rs_app h n _ b r hh hm (by omega) hb]
  cases c with
  | true =>
    obtain ⟨rfl, rfl, h3, h4⟩ := h1 rfl
    rw [if_neg (by simp; omega), if_pos (by decide), Hf.back_ok _ l (by omega)]; rfl
  | false =>
    obtain ⟨rfl, rfl, h3, h4⟩ := h0 rfl
    rw [if_neg (by simp; omega), if_neg (by decide)]
theorem str_long (l : List UInt8) (hl : l.length < 268435456) (h0 : 0 < l.length) : rs (l.length - 1) (str l) = .err 3 := by
  obtain ⟨c, n, h, b, hs, hb, hn, hh, hm, h1, h0'⟩ := str_parts l
  have := rs_app h n (l.length - 1) b [] hh hm (by omega) hb
  rw [List.append_nil] at this
  rw [hs, this]
  cases c with
  | true =>
    obtain ⟨rfl, rfl, h3, h4⟩ := h1 rfl
    rw [if_pos (show decide (128 ≤ 128) = true from rfl), if_pos (show decide (128 ≤ 128) = true from rfl), Hf.back_long _ l (by omega)]
    split <;> rfl
  | false =>
    obtain ⟨rfl, rfl, h3, h4⟩ := h0' rfl
    rw [if_pos (by simp; omega)]
theorem str_torn (l : List UInt8) (c : Nat) (hl : l.length < 268435456) (hc : c < (str l).length) : rs l.length ((str l).take c) = .err 40 := by
  obtain ⟨d, n, h, b, hs, hb, hn, hh, hm, h1, h0⟩ := str_parts l
  rw [hs] at hc ⊢
  by_cases hcut : c < (num h 7 n).length
  · have e : (num h 7 n ++ b).take c = (num h 7 n).take c := List.take_append_of_le_length (by omega)
    unfold rs
    rw [e, torn h 7 n c (by omega) (by omega) hh hm (by omega) hcut]; rfl
  · have e : (num h 7 n ++ b).take c = num h 7 n ++ b.take (c - (num h 7 n).length) := by
      rw [List.take_append, List.take_of_length_le (by omega)]
    have e1 := back h 7 n (b.take (c - (num h 7 n).length)) (by omega) (by omega) hh hm (by omega)
    have e5 := num_head h n hh hm (b.take (c - (num h 7 n).length))
    rw [List.length_append] at hc
    unfold rs
    rw [e, e1]
    simp only [ofR, body]
    rw [e5, if_neg ?_, if_pos (by rw [List.length_append, List.length_take]; omega)]
    cases d with
    | true =>
      obtain ⟨rfl, rfl, h3, h4⟩ := h1 rfl
      simp; omega
    | false =>
      obtain ⟨rfl, rfl, h3, h4⟩ := h0 rfl
      simp; omega
end Pm
end Go.Proofs.YtmkkhfkfjmfdcaaGreat
