/-
  Seconds, days, years and months as the document counts them, and the text of a date: plain definitions and lemmas, with no program in sight.
-/
import Derived.Test.YtgnbcoklmflpfaaDoorPureDec
namespace Go.Proofs.YtgnbcoklmflpfaaDoor
namespace Dt

/-! ### years -/
def leap (y : Int) : Bool := y % 4 == 0 && (y % 100 != 0 || y % 400 == 0)
/-- How many years of 366 days there are up to a year (it is 0 or more). -/
def ly (y : Int) : Int := y / 4 - y / 100 + y / 400
/-- The days ahead of a year. -/
def dY (y : Int) : Int := (y - 1970) * 365 + ly (y - 1) - 477
/-- What the program counts ahead of a year from 0 on. -/
def dYz (y : Int) : Int := if y = 0 then -719527 else dY y
def yl (y : Int) : Int := if leap y then 366 else 365
theorem yl_cases (y : Int) : yl y = 365 ∨ yl y = 366 := by unfold yl; split <;> simp
theorem leap_iff (y : Int) : leap y = true ↔ (y % 4 = 0 ∧ (y % 100 ≠ 0 ∨ y % 400 = 0)) := by simp [leap]
theorem dY_succ (y : Int) : dY (y + 1) = dY y + yl y := by
  unfold dY yl ly
  by_cases h : leap y = true
  · rw [if_pos h]; rw [leap_iff] at h; omega
  · rw [if_neg h]; rw [leap_iff] at h; omega
theorem dY_first : dY 1970 = 0 := by decide
theorem dY_last : dY 10000 = 2932897 := by decide
theorem dY_mono (y k : Int) (h : y ≤ k) : dY y ≤ dY k := by
  obtain ⟨n, rfl⟩ : ∃ n : Nat, k = y + n := ⟨(k - y).toNat, by omega⟩
  clear h
  induction n with
  | zero => simp
  | succ n ih =>
    have h := dY_succ (y + n)
    have h2 := yl_cases (y + n)
    have e : y + ((n + 1 : Nat) : Int) = y + n + 1 := by omega
    rw [e]; omega
theorem dY_low (d : Int) (h : 0 ≤ d) (_ : d ≤ 2932896) : dY (1970 + d / 366) ≤ d := by unfold dY ly; omega
theorem dYz_bd (y : Int) (h0 : 0 ≤ y) (h1 : y ≤ 10001) : -1000000 ≤ dYz y ∧ dYz y ≤ 4000000 := by
  unfold dYz; split
  · decide
  · unfold dY ly; omega
theorem dY_bd (y : Int) (h0 : 0 ≤ y) (h1 : y ≤ 10001) : -1000000 ≤ dY y ∧ dY y ≤ 4000000 := by unfold dY ly; omega
theorem dY_ex (d : Int) (h0 : 0 ≤ d) (h1 : d ≤ 2932896) : ∃ y, 1970 ≤ y ∧ y ≤ 9999 ∧ dY y ≤ d ∧ d < dY (y + 1) := by
  have key : ∀ n : Nat, d < dY (1970 + n) → ∃ y : Int, 1970 ≤ y ∧ y < 1970 + n ∧ dY y ≤ d ∧ d < dY (y + 1) := by
    intro n
    induction n with
    | zero => intro h; rw [show ((1970 : Int) + ((0 : Nat) : Int)) = 1970 by rfl, dY_first] at h; omega
    | succ n ih =>
      intro h
      by_cases hd : d < dY (1970 + n)
      · obtain ⟨y, a, b, c⟩ := ih hd; exact ⟨y, a, by omega, c⟩
      · exact ⟨1970 + n, by omega, by omega, by omega, by rw [show (1970 : Int) + n + 1 = 1970 + ((n + 1 : Nat) : Int) by omega]; exact h⟩
  obtain ⟨y, a, b, c⟩ := key 8030 (by rw [show (1970 : Int) + ((8030 : Nat) : Int) = 10000 by rfl, dY_last]; omega)
  exact ⟨y, a, by omega, c⟩
theorem dY_uniq {d y k : Int} (a : dY y ≤ d) (b : d < dY (y + 1)) (c : dY k ≤ d) (e : d < dY (k + 1)) : y = k := by
  by_cases h : y = k
  · exact h
  · rcases Int.lt_or_gt_of_ne h with h | h
    · have := dY_mono (y + 1) k (by omega); omega
    · have := dY_mono (k + 1) y (by omega); omega

/-! ### months -/
/-- The days of a year ahead of its month m, counted from 0 on. -/
def ahead (m : Int) : Int := if m ≤ 0 then 0 else if m = 1 then 31 else if m = 2 then 59 else if m = 3 then 90 else if m = 4 then 120 else if m = 5 then 151 else if m = 6 then 181 else if m = 7 then 212 else if m = 8 then 243 else if m = 9 then 273 else if m = 10 then 304 else if m = 11 then 334 else 365
def dM (m y : Int) : Int := if 1 < m && leap y then ahead m + 1 else ahead m
theorem m_cases {P : Int → Prop} (m : Int) (h0 : 0 ≤ m) (h1 : m ≤ 11) (h : P 0 ∧ P 1 ∧ P 2 ∧ P 3 ∧ P 4 ∧ P 5 ∧ P 6 ∧ P 7 ∧ P 8 ∧ P 9 ∧ P 10 ∧ P 11) : P m := by
  obtain ⟨a, b, c, d, e, f, g, i, j, k, l, o⟩ := h
  have : m = 0 ∨ m = 1 ∨ m = 2 ∨ m = 3 ∨ m = 4 ∨ m = 5 ∨ m = 6 ∨ m = 7 ∨ m = 8 ∨ m = 9 ∨ m = 10 ∨ m = 11 := by omega
  rcases this with rfl | rfl | rfl | rfl | rfl | rfl | rfl | rfl | rfl | rfl | rfl | rfl <;> assumption
/-- A month's days. -/
def ml (m y : Int) : Int := if m = 1 then yl y - 337 else if m = 3 ∨ m = 5 ∨ m = 8 ∨ m = 10 then 30 else 31
theorem dM_succ (m y : Int) (h0 : 0 ≤ m) (h1 : m ≤ 11) : dM (m + 1) y = dM m y + ml m y := by
  refine m_cases (P := fun m => dM (m + 1) y = dM m y + ml m y) m h0 h1 ?_
  cases h : leap y <;> simp [dM, ml, yl, h, ahead]
theorem dM_first (y : Int) : dM 0 y = 0 := by simp [dM, ahead]
theorem dM_last (y : Int) : dM 12 y = yl y := by cases h : leap y <;> simp [dM, h, ahead, yl]
theorem ml_bd (m y : Int) : 28 ≤ ml m y ∧ ml m y ≤ 31 := by
  have := yl_cases y; unfold ml; split
  · omega
  · split <;> omega
theorem dM_bd (m y : Int) (h0 : 0 ≤ m) (h1 : m ≤ 12) : 0 ≤ dM m y ∧ dM m y ≤ 366 := by
  by_cases h : m = 12
  · subst h; rw [dM_last]; have := yl_cases y; omega
  · refine m_cases (P := fun m => 0 ≤ dM m y ∧ dM m y ≤ 366) m h0 (by omega) ?_
    cases h : leap y <;> simp [dM, h, ahead]
theorem dM_mono (m k y : Int) (h0 : 0 ≤ m) (h : m ≤ k) (h1 : k ≤ 12) : dM m y ≤ dM k y := by
  obtain ⟨n, rfl⟩ : ∃ n : Nat, k = m + n := ⟨(k - m).toNat, by omega⟩
  clear h
  induction n with
  | zero => simp
  | succ n ih =>
    have h := dM_succ (m + n) y (by omega) (by omega)
    have h2 := ml_bd (m + n) y
    have e : m + ((n + 1 : Nat) : Int) = m + n + 1 := by omega
    have := ih (by omega)
    rw [e]; omega
theorem dM_ex (d y : Int) (h0 : 0 ≤ d) (h1 : d < yl y) : ∃ m, 0 ≤ m ∧ m ≤ 11 ∧ dM m y ≤ d ∧ d < dM (m + 1) y := by
  have key : ∀ n : Nat, n ≤ 12 → d < dM n y → ∃ m : Int, 0 ≤ m ∧ m < n ∧ dM m y ≤ d ∧ d < dM (m + 1) y := by
    intro n
    induction n with
    | zero => intro _ h; rw [show ((0 : Nat) : Int) = 0 by rfl, dM_first] at h; omega
    | succ n ih =>
      intro hn h
      by_cases hd : d < dM n y
      · obtain ⟨m, a, b, c⟩ := ih (by omega) hd; exact ⟨m, a, by omega, c⟩
      · exact ⟨n, by omega, by omega, by omega, by rw [show (n : Int) + 1 = ((n + 1 : Nat) : Int) by omega]; exact h⟩
  obtain ⟨m, a, b, c⟩ := key 12 (Nat.le_refl _) (by rw [show ((12 : Nat) : Int) = 12 by rfl, dM_last]; exact h1)
  exact ⟨m, a, by omega, c⟩
theorem dM_uniq {d y m k : Int} (m0 : 0 ≤ m) (m1 : m ≤ 11) (k0 : 0 ≤ k) (k1 : k ≤ 11) (a : dM m y ≤ d) (b : d < dM (m + 1) y) (c : dM k y ≤ d) (e : d < dM (k + 1) y) : m = k := by
  by_cases h : m = k
  · exact h
  · rcases Int.lt_or_gt_of_ne h with h | h
    · have := dM_mono (m + 1) k y (by omega) (by omega) (by omega); omega
    · have := dM_mono (k + 1) m y (by omega) (by omega) (by omega); omega

/-! ### texts -/
def ch (n : Int) : UInt8 := UInt8.ofNat n.toNat
def two (n : Int) : List UInt8 := [ch (48 + n / 10), ch (48 + n % 10)]
def four (n : Int) : List UInt8 := two (n / 100) ++ two (n % 100)
theorem two_len (n : Int) : (two n).length = 2 := rfl
theorem four_len (n : Int) : (four n).length = 4 := rfl
theorem itoa_two (n : Int) (h0 : 10 ≤ n) (h1 : n ≤ 99) : Lib.itoa n = two n := by
  rw [Tx.itoa_hi n h0, Tx.itoa_lo (n / 10) (by omega) (by omega)]; rfl
theorem itoa_one (n : Int) (h0 : 0 ≤ n) (h1 : n ≤ 9) : 48 :: Lib.itoa n = two n := by
  rw [Tx.itoa_lo n h0 (by omega)]; unfold two ch
  rw [show n / 10 = 0 by omega, show n % 10 = n by omega]; rfl
theorem itoa_four (n : Int) (h0 : 1000 ≤ n) (h1 : n ≤ 9999) : Lib.itoa n = four n := by
  rw [Tx.itoa_hi n (by omega), Tx.itoa_hi (n / 10) (by omega), itoa_two (n / 10 / 10) (by omega) (by omega)]
  unfold four
  rw [show n / 10 / 10 = n / 100 by omega]
  unfold two ch
  rw [show n / 10 % 10 = n % 100 / 10 by omega, show n % 10 = n % 100 % 10 by omega]; rfl
/-- The days of the week, from Monday on; the months. -/
def wk (i : Int) : List UInt8 := (([77, 111, 110, 84, 117, 101, 87, 101, 100, 84, 104, 117, 70, 114, 105, 83, 97, 116, 83, 117, 110] : List UInt8).drop (3 * i.toNat)).take 3
def mon (i : Int) : List UInt8 := (([74, 97, 110, 70, 101, 98, 77, 97, 114, 65, 112, 114, 77, 97, 121, 74, 117, 110, 74, 117, 108, 65, 117, 103, 83, 101, 112, 79, 99, 116, 78, 111, 118, 68, 101, 99] : List UInt8).drop (3 * i.toNat)).take 3
def dayText (d m y : Int) : List UInt8 := two d ++ [32] ++ mon m ++ [32] ++ four y
def clockText (r : Int) : List UInt8 := two (r / 3600) ++ [58] ++ two (r / 60 % 60) ++ [58] ++ two (r % 60)
def line (n y m d : Int) : List UInt8 := wk ((n / 86400 + 3) % 7) ++ [44, 32] ++ dayText d m y ++ [32] ++ clockText (n % 86400) ++ [32, 71, 77, 84]
/-- The second n is on the day d of the month m of the year y. -/
structure On (n y m d : Int) : Prop where
  n0 : 0 ≤ n
  n1 : n ≤ 253402300799
  y0 : 1970 ≤ y
  y1 : y ≤ 9999
  ylo : dY y ≤ n / 86400
  yhi : n / 86400 < dY (y + 1)
  m0 : 0 ≤ m
  m1 : m ≤ 11
  mlo : dM m y ≤ n / 86400 - dY y
  mhi : n / 86400 - dY y < dM (m + 1) y
  deq : d = n / 86400 - dY y - dM m y + 1
theorem on_ex (n : Int) (h0 : 0 ≤ n) (h1 : n ≤ 253402300799) : ∃ y m d, On n y m d := by
  obtain ⟨y, a, b, c, e⟩ := dY_ex (n / 86400) (by omega) (by omega)
  have hs := dY_succ y
  obtain ⟨m, f, g, i, j⟩ := dM_ex (n / 86400 - dY y) y (by omega) (by omega)
  exact ⟨y, m, _, h0, h1, a, b, c, e, f, g, i, j, rfl⟩
theorem On.uniq {n y m d y' m' d' : Int} (h : On n y m d) (h' : On n y' m' d') : y = y' ∧ m = m' ∧ d = d' := by
  obtain rfl := dY_uniq h.ylo h.yhi h'.ylo h'.yhi
  obtain rfl := dM_uniq h.m0 h.m1 h'.m0 h'.m1 h.mlo h.mhi h'.mlo h'.mhi
  exact ⟨rfl, rfl, by rw [h.deq, h'.deq]⟩
theorem On.d_bd {n y m d : Int} (h : On n y m d) : 1 ≤ d ∧ d ≤ 31 := by
  have h1 := h.mlo; have h2 := h.mhi; have h3 := h.deq
  have h4 := dM_succ m y h.m0 h.m1
  have h5 := ml_bd m y
  omega
/-- The second n's date is l. -/
def Dated (n : Int) (l : List UInt8) : Prop := ∃ y m d, On n y m d ∧ l = line n y m d
theorem dated_ex (n : Int) (h0 : 0 ≤ n) (h1 : n ≤ 253402300799) : ∃ l, Dated n l := by
  obtain ⟨y, m, d, h⟩ := on_ex n h0 h1; exact ⟨_, y, m, d, h, rfl⟩
theorem Dated.uniq {n : Int} {l k : List UInt8} (h : Dated n l) (h' : Dated n k) : l = k := by
  obtain ⟨y, m, d, a, rfl⟩ := h
  obtain ⟨y', m', d', a', rfl⟩ := h'
  obtain ⟨rfl, rfl, rfl⟩ := a.uniq a'
  rfl
theorem wk_len (i : Int) (h0 : 0 ≤ i) (h1 : i < 7) : (wk i).length = 3 := by unfold wk; simp; omega
theorem mon_len (i : Int) (h0 : 0 ≤ i) (h1 : i < 12) : (mon i).length = 3 := by unfold mon; simp; omega
theorem Dated.len {n : Int} {l : List UInt8} (h : Dated n l) : l.length = 29 := by
  obtain ⟨y, m, d, a, rfl⟩ := h
  have e1 := wk_len ((n / 86400 + 3) % 7) (by omega) (by omega)
  have e2 := mon_len m a.m0 (by have := a.m1; omega)
  simp [line, dayText, clockText, e1, e2, two_len, four_len]

/-! ### reading -/
theorem ch_toNat (n : Int) (h0 : 0 ≤ n) (h1 : n ≤ 255) : ((ch n).toNat : Int) = n := by unfold ch; simp; omega
theorem dgt_ch (k : Int) (h0 : 0 ≤ k) (h1 : k ≤ 9) : Tx.dgt ((ch (48 + k)).toNat : Int) = k := by
  rw [ch_toNat _ (by omega) (by omega)]; unfold Tx.dgt Tx.digC; rw [if_pos (by simp; omega)]; omega
def nmb (l : List UInt8) : Int := (Tx.num 10 l).1
theorem num_small (l : List UInt8) (hd : ∀ c ∈ l, Tx.dgt (c.toNat : Int) < 10) : Tx.digs 10 l = true := by
  unfold Tx.digs Tx.allC; rw [List.all_eq_true]; intro c hc; exact decide_eq_true (hd c hc)
theorem nmb_two (n : Int) (h0 : 0 ≤ n) (h1 : n ≤ 99) : nmb (two n) = n := by
  have a := dgt_ch (n / 10) (by omega) (by omega)
  have b := dgt_ch (n % 10) (by omega) (by omega)
  have hd : Tx.digs 10 (two n) = true := num_small _ (by intro c hc; simp [two] at hc; rcases hc with rfl | rfl <;> omega)
  have hv : Tx.numv 10 (two n) = n := by simp only [two, Tx.numv, List.foldl]; rw [a, b]; omega
  unfold nmb Tx.num
  rw [hd, hv, if_neg (by simp [two]), if_neg (by rw [Tx.top_eq]; omega)]
theorem nmb_four (n : Int) (h0 : 0 ≤ n) (h1 : n ≤ 9999) : nmb (four n) = n := by
  have a := dgt_ch (n / 100 / 10) (by omega) (by omega)
  have b := dgt_ch (n / 100 % 10) (by omega) (by omega)
  have c := dgt_ch (n % 100 / 10) (by omega) (by omega)
  have d := dgt_ch (n % 100 % 10) (by omega) (by omega)
  have hd : Tx.digs 10 (four n) = true := num_small _ (by intro c hc; simp only [four, two, List.cons_append, List.nil_append, List.mem_cons, List.not_mem_nil, or_false] at hc; rcases hc with rfl | rfl | rfl | rfl <;> omega)
  have hv : Tx.numv 10 (four n) = n := by simp only [four, two, Tx.numv, List.foldl, List.cons_append, List.nil_append]; rw [a, b, c, d]; omega
  unfold nmb Tx.num
  rw [hd, hv, if_neg (by simp [four, two]), if_neg (by rw [Tx.top_eq]; omega)]
theorem numv_hi (l : List UInt8) (hd : Tx.digs 10 l = true) : Tx.numv 10 l < 10 ^ l.length := by
  suffices h : ∀ r : List UInt8, (∃ k, r = l.take k) → Tx.numv 10 r < 10 ^ r.length from h l ⟨l.length, by simp⟩
  rintro _ ⟨k, rfl⟩
  induction k with
  | zero => simp [Tx.numv]
  | succ k ih =>
    by_cases hk : k < l.length
    · have e : l.take (k + 1) = l.take k ++ [l[k]] := by rw [List.take_add_one]; simp [hk]
      have hc : Tx.dgt (l[k].toNat : Int) < 10 := by
        unfold Tx.digs Tx.allC at hd; exact of_decide_eq_true (List.all_eq_true.1 hd l[k] (List.getElem_mem hk))
      rw [e, Tx.numv_snoc, List.length_append, List.length_singleton, Int.pow_succ]; omega
    · rw [List.take_of_length_le (by omega)] at ih ⊢; exact ih
theorem nmb_bd (l : List UInt8) : 0 ≤ nmb l ∧ nmb l < 10 ^ l.length := by
  have hp : (0 : Int) < 10 ^ l.length := Int.pow_pos (by decide)
  unfold nmb Tx.num
  split
  · exact ⟨Int.le_refl _, hp⟩
  · rename_i h
    split
    · exact ⟨Int.le_refl _, hp⟩
    · refine ⟨Tx.numv_nonneg 10 (by decide) l, numv_hi l ?_⟩
      by_cases hd : Tx.digs 10 l = true
      · exact hd
      · simp [hd] at h
/-- The month that a name is, else 0. -/
def mth (l : List UInt8) : Int := if mon 1 = l then 1 else if mon 2 = l then 2 else if mon 3 = l then 3 else if mon 4 = l then 4 else if mon 5 = l then 5 else if mon 6 = l then 6 else if mon 7 = l then 7 else if mon 8 = l then 8 else if mon 9 = l then 9 else if mon 10 = l then 10 else if mon 11 = l then 11 else 0
theorem mth_bd (l : List UInt8) : 0 ≤ mth l ∧ mth l ≤ 11 := by
  unfold mth; repeat' split
  all_goals decide
theorem mth_mon (m : Int) (h0 : 0 ≤ m) (h1 : m ≤ 11) : mth (mon m) = m :=
  m_cases (P := fun m => mth (mon m) = m) m h0 h1 (by decide +kernel)
theorem mon_inj (m k : Int) (h0 : 0 ≤ m) (h1 : m ≤ 11) (k0 : 0 ≤ k) (k1 : k ≤ 11) (h : mon m = mon k) : m = k := by
  rw [← mth_mon m h0 h1, h, mth_mon k k0 k1]
theorem mth_none (l : List UInt8) (h : ∀ m : Int, 0 ≤ m → m ≤ 11 → mon m ≠ l) : mth l = 0 := by
  unfold mth
  rw [if_neg (h 1 (by decide) (by decide)), if_neg (h 2 (by decide) (by decide)), if_neg (h 3 (by decide) (by decide)), if_neg (h 4 (by decide) (by decide)), if_neg (h 5 (by decide) (by decide)), if_neg (h 6 (by decide) (by decide)), if_neg (h 7 (by decide) (by decide)), if_neg (h 8 (by decide) (by decide)), if_neg (h 9 (by decide) (by decide)), if_neg (h 10 (by decide) (by decide)), if_neg (h 11 (by decide) (by decide))]
/-- What is read out of a date's day and clock. -/
def rday (l : List UInt8) : Int := dYz (nmb ((l.drop 7).take 4)) + dM (mth ((l.drop 3).take 3)) (nmb ((l.drop 7).take 4)) + nmb (l.take 2) - 1
def rclock (l : List UInt8) : Int := nmb (l.take 2) * 3600 + nmb ((l.drop 3).take 2) * 60 + nmb ((l.drop 6).take 2)
def rsec (l : List UInt8) : Int := rday ((l.drop 5).take 11) * 86400 + rclock ((l.drop 17).take 8)
theorem three {l : List UInt8} (h : l.length = 3) : ∃ a b c, l = [a, b, c] := by
  match l, h with
  | [a, b, c], _ => exact ⟨a, b, c, rfl⟩
theorem On.rsec {n y m d : Int} (h : On n y m d) : rsec (line n y m d) = n := by
  obtain ⟨a, b, c, e1⟩ := three (wk_len ((n / 86400 + 3) % 7) (by omega) (by omega))
  obtain ⟨f, g, i, e2⟩ := three (mon_len m h.m0 (by have := h.m1; omega))
  have hd := h.d_bd
  have p1 : ((line n y m d).drop 5).take 11 = dayText d m y := by
    simp [line, dayText, clockText, e1, e2, two, four]
  have p2 : ((line n y m d).drop 17).take 8 = clockText (n % 86400) := by
    simp [line, dayText, clockText, e1, e2, two, four]
  have q1 : ((dayText d m y).drop 7).take 4 = four y := by simp [dayText, e2, two, four]
  have q2 : ((dayText d m y).drop 3).take 3 = mon m := by simp [dayText, e2, two, four]
  have q3 : (dayText d m y).take 2 = two d := by simp [dayText, e2, two, four]
  have r1 : (clockText (n % 86400)).take 2 = two (n % 86400 / 3600) := by simp [clockText, two]
  have r2 : ((clockText (n % 86400)).drop 3).take 2 = two (n % 86400 / 60 % 60) := by simp [clockText, two]
  have r3 : ((clockText (n % 86400)).drop 6).take 2 = two (n % 86400 % 60) := by simp [clockText, two]
  have hy := h.y0
  have hy1 := h.y1
  unfold Dt.rsec
  rw [p1, p2]
  unfold rday rclock
  rw [q1, q2, q3, r1, r2, r3, nmb_four y (by omega) (by omega), nmb_two d (by omega) (by omega), mth_mon m h.m0 h.m1, nmb_two _ (by omega) (by omega), nmb_two _ (by omega) (by omega), nmb_two _ (by omega) (by omega)]
  have := h.deq
  rw [show dYz y = dY y by unfold dYz; rw [if_neg (by omega)]]
  omega
theorem Dated.rsec {n : Int} {l : List UInt8} (h : Dated n l) : rsec l = n := by
  obtain ⟨y, m, d, a, rfl⟩ := h; exact a.rsec
theorem Dated.inj {n k : Int} {l : List UInt8} (h : Dated n l) (h' : Dated k l) : n = k := by rw [← h.rsec, h'.rsec]

end Dt
end Go.Proofs.YtgnbcoklmflpfaaDoor
