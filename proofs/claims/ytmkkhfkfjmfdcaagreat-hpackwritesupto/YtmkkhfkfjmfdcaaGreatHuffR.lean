/-
  Bits and bytes: the plain facts.
-/
import Derived.Test.YtmkkhfkfjmfdcaaGreatHuffQ
import Derived.Laws.BitsLemmas
namespace Go.Proofs.YtmkkhfkfjmfdcaaGreat
namespace Hf

theorem valF_eq (l : List Bool) (a : Nat) : valF a l = a * 2 ^ l.length + val l := by
  unfold val
  induction l generalizing a with
  | nil => simp [valF]
  | cons b r ih =>
    have h1 := ih (2 * a + b.toNat)
    have h2 := ih (2 * 0 + b.toNat)
    simp only [valF, List.foldl_cons] at *
    rw [h1, h2, List.length_cons, Nat.pow_succ]
    generalize 2 ^ r.length = p
    generalize List.foldl (fun a b => 2 * a + b.toNat) 0 r = q
    rw [Nat.add_mul, Nat.add_mul, Nat.mul_comm p 2, Nat.mul_comm 2 a, Nat.mul_assoc a 2 p]
    omega
theorem val_append (a b : List Bool) : val (a ++ b) = val a * 2 ^ b.length + val b := by
  rw [← valF_eq]
  simp [val, valF, List.foldl_append]
theorem val_cons (b : Bool) (l : List Bool) : val (b :: l) = b.toNat * 2 ^ l.length + val l := by
  have := val_append [b] l
  simpa [val, valF] using this
theorem val_lt (l : List Bool) : val l < 2 ^ l.length := by
  induction l with
  | nil => simp [val, valF]
  | cons b r ih =>
    rw [val_cons, List.length_cons, Nat.pow_succ]
    cases b <;> simp <;> omega
theorem val_bitsN (n v : Nat) : val (bitsN n v) = v % 2 ^ n := by
  induction n with
  | zero => simp [bitsN, val, valF]; omega
  | succ n ih =>
    rw [bitsN, val_cons, ih, bitsN_length, Nat.pow_succ, Nat.mod_mul]
    rcases Nat.mod_two_eq_zero_or_one (v / 2 ^ n) with h | h <;> simp [h]
    omega
theorem bitsN_mod (n m v : Nat) (h : n ≤ m) : bitsN n (v % 2 ^ m) = bitsN n v := by
  induction n with
  | zero => rfl
  | succ n ih =>
    rw [bitsN, bitsN, ih (by omega)]
    congr 2
    have : 2 ^ m = 2 ^ n * 2 ^ (m - n) := by rw [← Nat.pow_add]; congr 1; omega
    rw [this, Nat.mod_mul_right_div_self]
    have h2 : 2 ^ (m - n) = 2 * 2 ^ (m - n - 1) := by rw [Nat.mul_comm, ← Nat.pow_succ]; congr 1; omega
    rw [h2, Nat.mod_mul_right_mod]
theorem bitsN_val (l : List Bool) : bitsN l.length (val l) = l := by
  induction l with
  | nil => rfl
  | cons b r ih =>
    rw [List.length_cons, bitsN]
    have h1 := val_lt r
    have h2 : val (b :: r) / 2 ^ r.length = b.toNat := by
      rw [val_cons, Nat.add_comm, Nat.add_mul_div_right _ _ (Nat.two_pow_pos _), Nat.div_eq_of_lt h1, Nat.zero_add]
    have h3 : val (b :: r) % 2 ^ r.length = val r := by
      rw [val_cons, Nat.add_comm, Nat.add_mul_mod_self_right, Nat.mod_eq_of_lt h1]
    rw [h2]
    congr 1
    · cases b <;> rfl
    · rw [← bitsN_mod r.length r.length _ (Nat.le_refl _), h3]; exact ih
theorem val_word (x : Nat) (h : x < 257) : val (word x) = codN x := by
  rw [word, val_bitsN, Nat.mod_eq_of_lt (cod_at x h).2]
theorem eight (l : List Bool) (h : l.length = 8) : ∃ a b c d e f g i, l = [a, b, c, d, e, f, g, i] := by
  match l, h with
  | [a, b, c, d, e, f, g, i], _ => exact ⟨a, b, c, d, e, f, g, i, rfl⟩
theorem pk_append (m : Nat) : ∀ (a b : List Bool), a.length = 8 * m → pk (a ++ b) = pk a ++ pk b := by
  induction m with
  | zero => intro a b h; obtain rfl := List.eq_nil_of_length_eq_zero (by omega); simp [pk]
  | succ m ih =>
    intro a b h
    obtain ⟨x0, x1, x2, x3, x4, x5, x6, x7, hx⟩ := eight (a.take 8) (by simp; omega)
    have ha : a = a.take 8 ++ a.drop 8 := (List.take_append_drop 8 a).symm
    rw [ha, hx]
    simp only [List.cons_append, List.nil_append, pk]
    rw [ih (a.drop 8) b (by simp; omega)]
theorem pk_eight (l : List Bool) (h : l.length = 8) : pk l = [UInt8.ofNat (val l)] := by
  obtain ⟨x0, x1, x2, x3, x4, x5, x6, x7, rfl⟩ := eight l h
  simp [pk]
theorem pk_length (m : Nat) : ∀ (a : List Bool), a.length = 8 * m → (pk a).length = m := by
  induction m with
  | zero => intro a h; obtain rfl := List.eq_nil_of_length_eq_zero (by omega); simp [pk]
  | succ m ih =>
    intro a h
    have ha : a = a.take 8 ++ a.drop 8 := (List.take_append_drop 8 a).symm
    rw [ha, pk_append 1 _ _ (by simp; omega), pk_eight _ (by simp; omega), List.length_append, ih _ (by simp; omega)]
    simp; omega
theorem unp_length (l : List UInt8) : (unp l).length = 8 * l.length := by
  induction l with
  | nil => rfl
  | cons c r ih => simp only [unp, List.flatMap_cons, List.length_append, List.length_cons] at *; rw [ih, bitsN_length]; omega
theorem unp_pk (m : Nat) : ∀ (a : List Bool), a.length = 8 * m → unp (pk a) = a := by
  induction m with
  | zero => intro a h; obtain rfl := List.eq_nil_of_length_eq_zero (by omega); simp [pk, unp]
  | succ m ih =>
    intro a h
    have ha : a = a.take 8 ++ a.drop 8 := (List.take_append_drop 8 a).symm
    have h8 : (a.take 8).length = 8 := by simp; omega
    have hv := val_lt (a.take 8)
    rw [h8] at hv
    have e : unp (pk a) = bitsN 8 (val (a.take 8)) ++ unp (pk (a.drop 8)) := by
      conv => lhs; rw [ha, pk_append 1 _ _ (by omega), pk_eight _ h8]
      simp only [unp, List.flatMap_append, List.flatMap_cons, List.flatMap_nil, List.append_nil]
      congr 2
      rw [UInt8.toNat_ofNat', Nat.mod_eq_of_lt (by omega)]
    rw [e, ih _ (by simp; omega)]
    have := bitsN_val (a.take 8)
    rw [h8] at this
    rw [this]
    exact ha.symm
theorem pk_unp (l : List UInt8) : pk (unp l) = l := by
  induction l with
  | nil => rfl
  | cons c r ih =>
    have e : unp (c :: r) = bitsN 8 c.toNat ++ unp r := by simp [unp]
    rw [e, pk_append 1 _ _ (by rw [bitsN_length]), pk_eight _ (bitsN_length _ _), ih, val_bitsN]
    have := UInt8.toNat_lt c
    rw [Nat.mod_eq_of_lt (by omega)]
    simp
/-- One byte more. -/
theorem pk_more (bs : List Bool) (m r : Nat) (h : 8 * m + r = bs.length) (hr : 8 ≤ r) : pk (bs.take (8 * (m + 1))) = pk (bs.take (8 * m)) ++ [UInt8.ofNat (val bs / 2 ^ (r - 8) % 256)] := by
  have h1 : bs.take (8 * (m + 1)) = bs.take (8 * m) ++ (bs.drop (8 * m)).take 8 := by
    rw [show 8 * (m + 1) = 8 * m + 8 by omega, List.take_add]
  rw [h1, pk_append m _ _ (by rw [List.length_take]; omega), pk_eight ((bs.drop (8 * m)).take 8) (by rw [List.length_take, List.length_drop]; omega)]
  congr 3
  have h2 : bs = bs.take (8 * m) ++ ((bs.drop (8 * m)).take 8 ++ (bs.drop (8 * m)).drop 8) := by
    rw [List.take_append_drop, List.take_append_drop]
  have l3 : ((bs.drop (8 * m)).drop 8).length = r - 8 := by simp; omega
  have l2 : ((bs.drop (8 * m)).take 8).length = 8 := by simp; omega
  have v3 := val_lt ((bs.drop (8 * m)).drop 8)
  have v2 := val_lt ((bs.drop (8 * m)).take 8)
  rw [l3] at v3
  rw [l2] at v2
  have e : val bs = (val (bs.take (8 * m)) * 2 ^ 8 + val ((bs.drop (8 * m)).take 8)) * 2 ^ (r - 8) + val ((bs.drop (8 * m)).drop 8) := by
    conv => lhs; rw [h2, ← List.append_assoc, val_append, val_append, l3, l2]
  have e2 : val bs / 2 ^ (r - 8) = val (bs.take (8 * m)) * 2 ^ 8 + val ((bs.drop (8 * m)).take 8) := by
    rw [e, Nat.mul_comm _ (2 ^ (r - 8)), Nat.mul_add_div (Nat.two_pow_pos _), Nat.div_eq_of_lt v3, Nat.add_zero]
  rw [e2]
  omega
theorem mod_div_mod (V a : Nat) (h : a + 8 ≤ 64) : V % 2 ^ 64 / 2 ^ a % 256 = V / 2 ^ a % 256 := by
  have h1 : 2 ^ 64 = 2 ^ a * 2 ^ (64 - a) := by rw [← Nat.pow_add]; congr 1; omega
  have h2 : 2 ^ (64 - a) = 256 * 2 ^ (64 - a - 8) := by rw [show 256 = 2 ^ 8 by rfl, ← Nat.pow_add]; congr 1; omega
  rw [h1, Nat.mod_mul_right_div_self, h2, Nat.mod_mul_right_mod]

theorem held_step (V c q : Nat) : (V % 2 ^ 64 * 2 ^ q + c) % 2 ^ 64 = (V * 2 ^ q + c) % 2 ^ 64 := by
  rw [Nat.add_mod, Nat.mul_mod, Nat.mod_mod, ← Nat.mul_mod, ← Nat.add_mod]
theorem val_ones (n : Nat) : val (ones n) = 2 ^ n - 1 := by
  induction n with
  | zero => rfl
  | succ n ih =>
    rw [ones, List.replicate_succ, val_cons, List.length_replicate]
    rw [ones] at ih
    rw [ih, Nat.pow_succ]
    have := Nat.two_pow_pos n
    simp
    omega
theorem pk_last (bs : List Bool) (m r q V : Nat) (h : 8 * m + r = bs.length) (hq : q + r = 8) (hV : V = val bs % 2 ^ 64) : pk (bs ++ ones q) = pk (bs.take (8 * m)) ++ [UInt8.ofNat ((V * 2 ^ q + (2 ^ q - 1)) % 2 ^ 64 % 256)] := by
  have hl : (bs ++ ones q).length = 8 * (m + 1) := by rw [List.length_append, ones, List.length_replicate]; omega
  have := pk_more (bs ++ ones q) m 8 (by omega) (by omega)
  rw [List.take_of_length_le (by omega), List.take_append_of_le_length (by omega)] at this
  rw [this, val_append, val_ones, hV, held_step, show (ones q).length = q by rw [ones, List.length_replicate]]
  congr 3
  rw [Nat.sub_self, Nat.pow_zero, Nat.div_one]
  omega

theorem wraps_u64 (n : Int) (h₀ : 0 ≤ n) (h₁ : n < 2 ^ 64) : IntKind.u64.wrap n = n := by rw [IntKind.wrap_u64]; omega
theorem or_shift (h c q : Nat) (hq : q ≤ 30) (hc : c < 2 ^ q) : Go.bits .or .u64 (IntKind.u64.wrap ((h : Int) * 2 ^ q)) (c : Int) = (((h * 2 ^ q + c) % 2 ^ 64 : Nat) : Int) := by
  have e1 : IntKind.u64.wrap ((h : Int) * 2 ^ q) = ((h * 2 ^ q % 2 ^ 64 : Nat) : Int) := by
    rw [IntKind.wrap_u64, show ((h : Int) * 2 ^ q) = ((h * 2 ^ q : Nat) : Int) by norm_cast]
    generalize h * 2 ^ q = z
    omega
  have h64 : 2 ^ 64 = 2 ^ q * 2 ^ (64 - q) := by rw [← Nat.pow_add]; congr 1; omega
  have e2 : h * 2 ^ q % 2 ^ 64 = 2 ^ q * (h % 2 ^ (64 - q)) := by rw [h64, Nat.mul_comm h, Nat.mul_mod_mul_left]
  have hp : 0 < 2 ^ q := Nat.two_pow_pos q
  have hq2 : 2 ^ q ≤ 2 ^ 30 := Nat.pow_le_pow_right (by omega) hq
  have hlt : h % 2 ^ (64 - q) < 2 ^ (64 - q) := Nat.mod_lt _ (Nat.two_pow_pos _)
  have hle : 2 ^ q * (h % 2 ^ (64 - q)) + 2 ^ q ≤ 2 ^ 64 := by
    rw [h64, ← Nat.mul_succ]; exact Nat.mul_le_mul_left _ hlt
  have hsum : h * 2 ^ q % 2 ^ 64 + c < 2 ^ 64 := by rw [e2]; omega
  have hmod : h * 2 ^ q % 2 ^ 64 % 2 ^ q = 0 := by rw [e2]; exact Nat.mul_mod_right _ _
  rw [e1]
  generalize h * 2 ^ q = z at hsum hmod ⊢
  rw [bits_join .u64 64 (by decide) wraps_u64 q _ _ (by omega) (by exact_mod_cast hmod) (by omega) (by omega) (by exact_mod_cast hc) (by omega)]
  omega

end Hf
end Go.Proofs.YtmkkhfkfjmfdcaaGreat
