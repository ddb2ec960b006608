/-
  What is coded is read: the plain theory.
-/
import Derived.Test.YtmkkhfkfjmfdcaaGreatHuffI
namespace Go.Proofs.YtmkkhfkfjmfdcaaGreat
namespace Hf

def fstsL : List Int := [
  0, 0, 0, 0, 0, 0, 20, 92, 248, 508, 1016, 2042, 4090, 8184, 16380, 32764, 65534, 131068, 262136, 524272, 1048550, 2097116, 4194258, 8388568,
  16777194, 33554412, 67108832, 134217694, 268435426, 536870910, 1073741820]
def stasL : List Int := [
  0, 0, 0, 0, 0, 0, 10, 36, 68, 74, 74, 79, 82, 84, 90, 92, 95, 95, 95, 95, 98, 106, 119, 145,
  174, 186, 190, 205, 224, 253, 253]
def codsL : List Int := [
  8184, 8388568, 268435426, 268435427, 268435428, 268435429, 268435430, 268435431, 268435432, 16777194, 1073741820, 268435433, 268435434, 1073741821, 268435435, 268435436, 268435437, 268435438, 268435439, 268435440, 268435441, 268435442, 1073741822, 268435443,
  268435444, 268435445, 268435446, 268435447, 268435448, 268435449, 268435450, 268435451, 20, 1016, 1017, 4090, 8185, 21, 248, 2042, 1018, 1019, 249, 2043, 250, 22, 23, 24,
  0, 1, 2, 25, 26, 27, 28, 29, 30, 31, 92, 251, 32764, 32, 4091, 1020, 8186, 33, 93, 94, 95, 96, 97, 98,
  99, 100, 101, 102, 103, 104, 105, 106, 107, 108, 109, 110, 111, 112, 113, 114, 252, 115, 253, 8187, 524272, 8188, 16380, 34,
  32765, 3, 35, 4, 36, 5, 37, 38, 39, 6, 116, 117, 40, 41, 42, 7, 43, 118, 44, 8, 9, 45, 119, 120,
  121, 122, 123, 32766, 2044, 16381, 8189, 268435452, 1048550, 4194258, 1048551, 1048552, 4194259, 4194260, 4194261, 8388569, 4194262, 8388570, 8388571, 8388572, 8388573, 8388574, 16777195, 8388575,
  16777196, 16777197, 4194263, 8388576, 16777198, 8388577, 8388578, 8388579, 8388580, 2097116, 4194264, 8388581, 4194265, 8388582, 8388583, 16777199, 4194266, 2097117, 1048553, 4194267, 4194268, 8388584, 8388585, 2097118,
  8388586, 4194269, 4194270, 16777200, 2097119, 4194271, 8388587, 8388588, 2097120, 2097121, 4194272, 2097122, 8388589, 4194273, 8388590, 8388591, 1048554, 4194274, 4194275, 4194276, 8388592, 4194277, 4194278, 8388593,
  67108832, 67108833, 1048555, 524273, 4194279, 8388594, 4194280, 33554412, 67108834, 67108835, 67108836, 134217694, 134217695, 67108837, 16777201, 33554413, 524274, 2097123, 67108838, 134217696, 134217697, 67108839, 134217698, 16777202,
  2097124, 2097125, 67108840, 67108841, 268435453, 134217699, 134217700, 134217701, 1048556, 16777203, 1048557, 2097126, 4194281, 2097127, 2097128, 8388595, 4194282, 4194283, 33554414, 33554415, 16777204, 16777205, 67108842, 8388596,
  67108843, 134217702, 67108844, 67108845, 134217703, 134217704, 134217705, 134217706, 134217707, 268435454, 134217708, 134217709, 134217710, 134217711, 134217712, 67108846, 1073741823]
def ordsL : List Int := [
  48, 49, 50, 97, 99, 101, 105, 111, 115, 116, 32, 37, 45, 46, 47, 51, 52, 53, 54, 55, 56, 57, 61, 65,
  95, 98, 100, 102, 103, 104, 108, 109, 110, 112, 114, 117, 58, 66, 67, 68, 69, 70, 71, 72, 73, 74, 75, 76,
  77, 78, 79, 80, 81, 82, 83, 84, 85, 86, 87, 89, 106, 107, 113, 118, 119, 120, 121, 122, 38, 42, 44, 59,
  88, 90, 33, 34, 40, 41, 63, 39, 43, 124, 35, 62, 0, 36, 64, 91, 93, 126, 94, 125, 60, 96, 123, 92,
  195, 208, 128, 130, 131, 162, 184, 194, 224, 226, 153, 161, 167, 172, 176, 177, 179, 209, 216, 217, 227, 229, 230, 129,
  132, 133, 134, 136, 146, 154, 156, 160, 163, 164, 169, 170, 173, 178, 181, 185, 186, 187, 189, 190, 196, 198, 228, 232,
  233, 1, 135, 137, 138, 139, 140, 141, 143, 147, 149, 150, 151, 152, 155, 157, 158, 165, 166, 168, 174, 175, 180, 182,
  183, 188, 191, 197, 231, 239, 9, 142, 144, 145, 148, 159, 171, 206, 215, 225, 236, 237, 199, 207, 234, 235, 192, 193,
  200, 201, 202, 205, 210, 213, 218, 219, 238, 240, 242, 243, 255, 203, 204, 211, 212, 214, 221, 222, 223, 241, 244, 245,
  246, 247, 248, 250, 251, 252, 253, 254, 2, 3, 4, 5, 6, 7, 8, 11, 12, 14, 15, 16, 17, 18, 19, 20,
  21, 23, 24, 25, 26, 27, 28, 29, 30, 31, 127, 220, 249, 10, 13, 22, 256]
theorem fsts_eq : fsts = fstsL := by decide +kernel
theorem stas_eq : stas = stasL := by decide +kernel
theorem cods_eq : cods = codsL := by decide +kernel
theorem ords_eq : ords = ordsL := by decide +kernel
def symL (c n : Nat) : Option Nat :=
  if (c : Int) - fstsL.getD n 0 < 0 ∨ cnt.getD n 0 ≤ (c : Int) - fstsL.getD n 0 then none else some (ordsL.getD (stasL.getD n 0 + ((c : Int) - fstsL.getD n 0)).toNat 0).toNat
theorem sym_eq (c n : Nat) : sym c n = symL c n := by unfold sym symL; rw [fsts_eq, stas_eq, ords_eq]
def codL (x : Nat) : Nat := (codsL.getD x 0).toNat
theorem cod_eq (x : Nat) : codN x = codL x := by unfold codN codL; rw [cods_eq]

/-- These bits are the code of x, from a state on. -/
def chk : List Bool → Nat → Nat → Nat → Bool
  | [], _, _, _ => false
  | b :: r, c, n, x =>
    match symL (2 * c + b.toNat) (n + 1) with
    | none => chk r (2 * c + b.toNat) (n + 1) x
    | some y => r.isEmpty && y == x
theorem words_ok : (List.range 257).all (fun x => chk (bitsN (lenN x) (codL x)) 0 0 x) = true := by decide +kernel
theorem word_ok (x : Nat) (h : x < 257) : chk (word x) 0 0 x = true := by
  have := List.all_eq_true.1 words_ok x (List.mem_range.2 h)
  rw [word, cod_eq]; exact this
theorem dec_chk (most : Nat) (bs : List Bool) : ∀ (c n x : Nat) (r : List Bool) (out : List UInt8), chk bs c n x = true →
    dec most (bs ++ r) c n out = if x = 256 then .fin else if out.length = most then .long else dec most r 0 0 (out ++ [UInt8.ofNat x]) := by
  induction bs with
  | nil => intro c n x r out h; simp [chk] at h
  | cons b bs ih =>
    intro c n x r out h
    rw [List.cons_append, dec, sym_eq]
    rw [chk] at h
    cases hs : symL (2 * c + b.toNat) (n + 1) with
    | none => rw [hs] at h; exact ih _ _ _ _ _ h
    | some y =>
      rw [hs] at h
      simp only [Bool.and_eq_true, List.isEmpty_iff, beq_iff_eq] at h
      obtain ⟨rfl, rfl⟩ := h
      rfl
theorem dec_cut (most : Nat) (bs : List Bool) : ∀ (c n x m : Nat) (out : List UInt8), chk bs c n x = true → m < bs.length →
    dec most (bs.take m) c n out = .pad ∨ dec most (bs.take m) c n out = .ok out := by
  induction bs with
  | nil => intro c n x m out h; simp [chk] at h
  | cons b bs ih =>
    intro c n x m out h hm
    cases m with
    | zero =>
      rw [List.take_zero, dec]
      by_cases h' : 7 < n ∨ c ≠ 2 ^ n - 1
      · left; rw [if_pos h']
      · right; rw [if_neg h']
    | succ m =>
      rw [List.take_succ_cons, dec, sym_eq]
      rw [chk] at h
      cases hs : symL (2 * c + b.toNat) (n + 1) with
      | none => rw [hs] at h; exact ih _ _ _ _ _ h (by simpa using hm)
      | some y =>
        rw [hs] at h
        simp only [Bool.and_eq_true, List.isEmpty_iff] at h
        obtain ⟨rfl, _⟩ := h
        simp at hm
theorem bits_cons (c : UInt8) (s : List UInt8) : bits (c :: s) = word c.toNat ++ bits s := by simp [bits]
theorem dec_byte (most : Nat) (c : UInt8) (r : List Bool) (out : List UInt8) : dec most (word c.toNat ++ r) 0 0 out = if out.length = most then .long else dec most r 0 0 (out ++ [c]) := by
  have hc := UInt8.toNat_lt c
  rw [dec_chk most _ 0 0 c.toNat r out (word_ok _ (by omega)), if_neg (by omega)]
  simp
theorem dec_bits_ok (most : Nat) (s : List UInt8) : ∀ (r : List Bool) (out : List UInt8), out.length + s.length ≤ most → dec most (bits s ++ r) 0 0 out = dec most r 0 0 (out ++ s) := by
  induction s with
  | nil => intro r out _; simp [bits]
  | cons c s ih =>
    intro r out h
    rw [List.length_cons] at h
    rw [bits_cons, List.append_assoc, dec_byte, if_neg (by omega), ih _ _ (by simp; omega)]
    simp
theorem dec_bits_long (most : Nat) (s : List UInt8) : ∀ (r : List Bool) (out : List UInt8), out.length ≤ most → most < out.length + s.length → dec most (bits s ++ r) 0 0 out = .long := by
  induction s with
  | nil => intro r out h1 h2; simp at h2; omega
  | cons c s ih =>
    intro r out h1 h2
    rw [List.length_cons] at h2
    rw [bits_cons, List.append_assoc, dec_byte]
    by_cases h : out.length = most
    · rw [if_pos h]
    · rw [if_neg h]; exact ih _ _ (by simp; omega) (by simp; omega)
theorem dec_torn (most : Nat) (s : List UInt8) : ∀ (m : Nat) (out : List UInt8), out.length + s.length ≤ most → m < (bits s).length →
    dec most ((bits s).take m) 0 0 out = .pad ∨ ∃ t, dec most ((bits s).take m) 0 0 out = .ok t ∧ t.length < out.length + s.length := by
  induction s with
  | nil => intro m out _ h; simp [bits] at h
  | cons c s ih =>
    intro m out h hm
    have hc := UInt8.toNat_lt c
    rw [List.length_cons] at h
    rw [bits_cons] at hm ⊢
    rw [List.length_append] at hm
    by_cases hw : m < (word c.toNat).length
    · rw [List.take_append_of_le_length (by omega)]
      rcases dec_cut most _ 0 0 c.toNat m out (word_ok _ (by omega)) hw with h' | h'
      · exact .inl h'
      · exact .inr ⟨out, h', by simp⟩
    · rw [List.take_append, List.take_of_length_le (by omega), dec_byte, if_neg (by omega)]
      rcases ih (m - (word c.toNat).length) (out ++ [c]) (by simp; omega) (by omega) with h' | ⟨t, h1, h2⟩
      · exact .inl h'
      · refine .inr ⟨t, h1, ?_⟩
        simp at h2 ⊢
        omega

theorem bitsN_snoc (n c : Nat) (b : Bool) (h : c < 2 ^ n) : bitsN (n + 1) (2 * c + b.toNat) = bitsN n c ++ [b] := by
  have := bitsN_val (bitsN n c ++ [b])
  rw [List.length_append, bitsN_length, val_append, val_bitsN, Nat.mod_eq_of_lt h] at this
  rw [← this]
  congr 1
  cases b <;> simp [val, valF] <;> omega
theorem bitsN_ones (n : Nat) : bitsN n (2 ^ n - 1) = ones n := by
  have := bitsN_val (ones n)
  rw [val_ones, show (ones n).length = n by rw [ones, List.length_replicate]] at this
  exact this
theorem book_ok : (List.range 31).all (fun n => (List.range (cnt.getD n 0).toNat).all fun j => let x := (ordsL.getD (stasL.getD n 0 + (j : Int)).toNat 0).toNat; decide (lenN x = n) && decide ((codL x : Int) = fstsL.getD n 0 + j)) = true := by decide +kernel
theorem cnt_past (n : Nat) (h : 31 ≤ n) : cnt.getD n 0 = 0 ∧ fstsL.getD n 0 = 0 := by
  constructor
  · rw [List.getD_eq_getElem?_getD, List.getElem?_eq_none (by rw [show cnt.length = 31 by rfl]; exact h)]; rfl
  · rw [List.getD_eq_getElem?_getD, List.getElem?_eq_none (by rw [show fstsL.length = 31 by rfl]; exact h)]; rfl
theorem sym_back (c n x : Nat) (h : sym c n = some x) : lenN x = n ∧ codN x = c := by
  rw [sym_eq] at h
  unfold symL at h
  by_cases h2 : (c : Int) - fstsL.getD n 0 < 0 ∨ cnt.getD n 0 ≤ (c : Int) - fstsL.getD n 0
  · rw [if_pos h2] at h; cases h
  · rw [if_neg h2] at h
    have hx := Option.some.inj h
    have hn : n < 31 := by
      by_cases hn : n < 31
      · exact hn
      · have := cnt_past n (by omega)
        omega
    have h3 := List.all_eq_true.1 book_ok n (List.mem_range.2 hn)
    have h4 := List.all_eq_true.1 h3 ((c : Int) - fstsL.getD n 0).toNat (List.mem_range.2 (by omega))
    have e : ((((c : Int) - fstsL.getD n 0).toNat : Nat) : Int) = (c : Int) - fstsL.getD n 0 := Int.toNat_of_nonneg (by omega)
    simp only [e, hx, Bool.and_eq_true, decide_eq_true_eq] at h4
    rw [cod_eq]
    exact ⟨h4.1, by omega⟩
theorem dec_ok (most : Nat) (bs : List Bool) : ∀ (c n : Nat) (out t : List UInt8), c < 2 ^ n → dec most bs c n out = .ok t →
    ∃ t' p, p ≤ 7 ∧ t = out ++ t' ∧ bitsN n c ++ bs = bits t' ++ ones p := by
  induction bs with
  | nil =>
    intro c n out t hc h
    rw [dec] at h
    by_cases h' : 7 < n ∨ c ≠ 2 ^ n - 1
    · rw [if_pos h'] at h; cases h
    · rw [if_neg h'] at h
      cases h
      obtain rfl : c = 2 ^ n - 1 := by omega
      exact ⟨[], n, by omega, by simp, by rw [bitsN_ones]; simp [bits]⟩
  | cons b bs ih =>
    intro c n out t hc h
    rw [dec] at h
    have hp : 2 ^ (n + 1) = 2 * 2 ^ n := by rw [Nat.pow_succ]; omega
    have hb : b.toNat ≤ 1 := by cases b <;> simp
    have e : bitsN n c ++ b :: bs = bitsN (n + 1) (2 * c + b.toNat) ++ bs := by rw [bitsN_snoc n c b hc]; simp
    rw [e]
    cases hs : sym (2 * c + b.toNat) (n + 1) with
    | none => rw [hs] at h; exact ih _ _ _ _ (by omega) h
    | some x =>
      rw [hs] at h
      simp only at h
      by_cases h6 : x = 256
      · rw [if_pos h6] at h; cases h
      · rw [if_neg h6] at h
        by_cases hm : out.length = most
        · rw [if_pos hm] at h; cases h
        · rw [if_neg hm] at h
          obtain ⟨t', p, h1, h2, h3⟩ := ih _ _ _ _ (by decide) h
          obtain ⟨b1, b2⟩ := sym_back _ _ _ hs
          have b3 : x < 257 := by
            by_cases hx : x < 257
            · exact hx
            · exfalso
              have : lenN x = 0 := by unfold lenN; rw [List.getD_eq_getElem?_getD, List.getElem?_eq_none (by rw [lens_length]; omega)]; rfl
              omega
          refine ⟨UInt8.ofNat x :: t', p, h1, by rw [h2]; simp, ?_⟩
          rw [bits_cons, UInt8.toNat_ofNat', Nat.mod_eq_of_lt (by omega), List.append_assoc, ← h3, word, b1, b2]
          simp [bitsN]
theorem dec_long (most : Nat) (bs : List Bool) : ∀ (c n : Nat) (out : List UInt8), out.length ≤ most → dec most bs c n out = .long → 5 * (most + 1) ≤ 5 * out.length + n + bs.length := by
  induction bs with
  | nil =>
    intro c n out _ h
    rw [dec] at h
    by_cases h' : 7 < n ∨ c ≠ 2 ^ n - 1
    · rw [if_pos h'] at h; cases h
    · rw [if_neg h'] at h; cases h
  | cons b bs ih =>
    intro c n out ho h
    rw [dec] at h
    rw [List.length_cons]
    cases hs : sym (2 * c + b.toNat) (n + 1) with
    | none => rw [hs] at h; have := ih _ _ _ ho h; omega
    | some x =>
      have h5 := sym_five _ _ _ hs
      rw [hs] at h
      simp only at h
      by_cases h6 : x = 256
      · rw [if_pos h6] at h; cases h
      · rw [if_neg h6] at h
        by_cases hm : out.length = most
        · omega
        · rw [if_neg hm] at h
          have := ih _ _ _ (by simp; omega) h
          simp at this
          omega
/-- No code in the padding. -/
theorem ones_ok : (List.range 8).all (fun p => decide (dec 0 (ones p) 0 0 [] = .ok [])) = true := by decide +kernel
theorem dec_none (bs : List Bool) : ∀ (c n m1 : Nat) (out : List UInt8), dec 0 bs c n [] = .ok [] → dec m1 bs c n out = .ok out := by
  induction bs with
  | nil =>
    intro c n m1 out h
    rw [dec] at h ⊢
    by_cases h' : 7 < n ∨ c ≠ 2 ^ n - 1
    · rw [if_pos h'] at h; cases h
    · rw [if_neg h']
  | cons b bs ih =>
    intro c n m1 out h
    rw [dec] at h ⊢
    cases hs : sym (2 * c + b.toNat) (n + 1) with
    | none => rw [hs] at h; exact ih _ _ _ _ h
    | some x =>
      rw [hs] at h
      simp only at h
      by_cases h6 : x = 256
      · rw [if_pos h6] at h; cases h
      · rw [if_neg h6] at h; simp at h
theorem dec_ones (most p : Nat) (h : p ≤ 7) (out : List UInt8) : dec most (ones p) 0 0 out = .ok out := by
  have := List.all_eq_true.1 ones_ok p (List.mem_range.2 (by omega))
  simp only [decide_eq_true_eq] at this
  exact dec_none _ _ _ _ _ this

theorem pad_le (n : Nat) : pad n ≤ 7 ∧ (n + pad n) = 8 * ((n + 7) / 8) := by unfold pad; omega
theorem ones_length (n : Nat) : (ones n).length = n := by rw [ones, List.length_replicate]
theorem enc_bits (s : List UInt8) : unp (enc s) = bits s ++ ones (pad (bits s).length) := by
  unfold enc
  exact unp_pk ((nbits s + 7) / 8) _ (by rw [List.length_append, ones_length, (pad_le _).2, bits_length])
theorem enc_length (s : List UInt8) : (enc s).length = (nbits s + 7) / 8 :=
  pk_length _ _ (by rw [List.length_append, ones_length, (pad_le _).2, bits_length])
theorem enc_nil : enc [] = [] := by simp [enc, bits, pad, ones, pk]

/-- Decode of Encode. -/
theorem back_ok (most : Nat) (s : List UInt8) (h : s.length ≤ most) : dec most (unp (enc s)) 0 0 [] = .ok s := by
  rw [enc_bits, dec_bits_ok most s _ [] (by simpa using h), dec_ones _ _ (pad_le _).1]
  simp
theorem back_long (most : Nat) (s : List UInt8) (h : most < s.length) : dec most (unp (enc s)) 0 0 [] = .long := by
  rw [enc_bits]
  exact dec_bits_long most s _ [] (Nat.zero_le _) (by simpa using h)
/-- What Decode reads Encode writes. -/
theorem there_ok (most : Nat) (s t : List UInt8) (h : dec most (unp s) 0 0 [] = .ok t) : enc t = s := by
  obtain ⟨t', p, h1, h2, h3⟩ := dec_ok most _ 0 0 [] t (by decide) h
  obtain rfl : t = t' := by simpa using h2
  have h4 : unp s = bits t ++ ones p := by simpa [bitsN] using h3
  have hl : 8 * s.length = (bits t).length + p := by
    have := congrArg List.length h4
    rw [unp_length, List.length_append, ones_length] at this
    exact this
  have hp : pad (bits t).length = p := by unfold pad; omega
  unfold enc
  rw [hp, ← h4, pk_unp]
theorem there_fits (s : List UInt8) : dec (2 * s.length) (unp s) 0 0 [] ≠ .long := by
  intro h
  have := dec_long _ _ _ _ _ (Nat.zero_le _) h
  rw [unp_length] at this
  simp at this
  omega
theorem there_len (most : Nat) (s t : List UInt8) (h : dec most (unp s) 0 0 [] = .ok t) : 5 * t.length ≤ 8 * s.length := by
  have h1 := there_ok most s t h
  have h2 := enc_length t
  rw [h1] at h2
  have := (nbits_le t).1
  omega
/-- Two texts together. -/
theorem join_len (a b : List UInt8) : (enc (a ++ b)).length ≤ (enc a).length + (enc b).length ∧ (enc a).length + (enc b).length ≤ (enc (a ++ b)).length + 1 ∧ (enc a).length ≤ (enc (a ++ b)).length := by
  rw [enc_length, enc_length, enc_length, nbits_append]; omega
theorem pk_take (m : Nat) (a : List Bool) (h : 8 * m ≤ a.length) (q : Nat) (hq : a.length = 8 * q) : (pk a).take m = pk (a.take (8 * m)) := by
  have e : a = a.take (8 * m) ++ a.drop (8 * m) := (List.take_append_drop _ _).symm
  have l : (a.take (8 * m)).length = 8 * m := by rw [List.length_take]; omega
  conv => lhs; rw [e, pk_append m _ _ l]
  rw [List.take_append_of_le_length (by rw [pk_length m _ l]; exact Nat.le_refl _), List.take_of_length_le (by rw [pk_length m _ l]; exact Nat.le_refl _)]
theorem join_head (a b : List UInt8) (k : Nat) (h : k + 1 ≤ (enc a).length ∨ k = 0) : (enc (a ++ b)).take k = (enc a).take k := by
  rcases h with h | rfl
  · rw [enc_length] at h
    have hk : 8 * k ≤ (bits a).length := by rw [bits_length]; omega
    have la : (bits a ++ ones (pad (bits a).length)).length = 8 * ((nbits a + 7) / 8) := by rw [List.length_append, ones_length, (pad_le _).2, bits_length]
    have lb : (bits (a ++ b) ++ ones (pad (bits (a ++ b)).length)).length = 8 * ((nbits (a ++ b) + 7) / 8) := by rw [List.length_append, ones_length, (pad_le _).2, bits_length]
    unfold enc
    rw [pk_take k _ (by omega) _ la, pk_take k _ (by rw [lb, nbits_append]; rw [bits_length] at hk; omega) _ lb]
    rw [List.take_append_of_le_length hk, bits_append, List.append_assoc, List.take_append_of_le_length hk]
  · simp
/-- The last byte left out. -/
theorem torn_less (s : List UInt8) (hs : s ≠ []) : dec s.length (unp ((enc s).take ((enc s).length - 1))) 0 0 [] = .pad ∨ ∃ t, dec s.length (unp ((enc s).take ((enc s).length - 1))) 0 0 [] = .ok t ∧ t.length < s.length := by
  have h5 := (nbits_le s).1
  have hpos : 0 < s.length := List.length_pos_iff.2 hs
  have hl := enc_length s
  have hp := pad_le (bits s).length
  rw [bits_length] at hp
  have la : (bits s ++ ones (pad (bits s).length)).length = 8 * ((nbits s + 7) / 8) := by rw [List.length_append, ones_length, (pad_le _).2, bits_length]
  have e : unp ((enc s).take ((enc s).length - 1)) = (bits s).take (8 * ((nbits s + 7) / 8 - 1)) := by
    rw [hl, enc, pk_take _ _ (by omega) _ la, unp_pk ((nbits s + 7) / 8 - 1) _ (by rw [List.length_take]; omega), List.take_append_of_le_length (by rw [bits_length]; omega)]
  rw [e]
  have := dec_torn s.length s (8 * ((nbits s + 7) / 8 - 1)) [] (by simp) (by rw [bits_length]; omega)
  simpa using this
/-- A byte more. -/
theorem torn_more (s : List UInt8) (x : UInt8) : dec (2 * s.length + 8) (unp (enc s ++ [x])) 0 0 [] ≠ .long ∧ ∀ u, dec (2 * s.length + 8) (unp (enc s ++ [x])) 0 0 [] = .ok u → s.length < u.length := by
  have e : unp (enc s ++ [x]) = bits s ++ (ones (pad (bits s).length) ++ bitsN 8 x.toNat) := by
    have : unp (enc s ++ [x]) = unp (enc s) ++ bitsN 8 x.toNat := by simp [unp]
    rw [this, enc_bits, List.append_assoc]
  have hp := (pad_le (bits s).length).1
  rw [e, dec_bits_ok _ s _ [] (by simp; omega)]
  constructor
  · intro h
    have := dec_long _ _ _ _ _ (by simp; omega) h
    simp [ones_length, bitsN_length] at this
    omega
  · intro u hu
    obtain ⟨t', p, h1, h2, h3⟩ := dec_ok _ _ 0 0 _ u (by decide) hu
    have hl := congrArg List.length h3
    simp [bitsN_length, ones_length] at hl
    rw [h2]
    have : t' ≠ [] := by
      rintro rfl
      simp [bits] at hl
      omega
    have := List.length_pos_iff.2 this
    simp
    omega

end Hf
end Go.Proofs.YtmkkhfkfjmfdcaaGreat
