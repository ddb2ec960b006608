/-
  Frames in memory: structs known whole, texts that are cut, bits.
-/
import Derived.Test.YthbidfcfkjamdaaProg
import Derived.Test.YthbidfcfkjamdaaHuffM
import Derived.Test.YthbidfcfkjamdaaFrP
import Derived.Laws.OwnMore
import Derived.Great.BuildSlice
import Derived.Laws.Bits128
import Derived.Laws.StructEq
import Derived.BigRegion
namespace Go.Proofs.Ythbidfcfkjamdaa
open Go.RowKit

theorem ret_bool {a b : Bool} (h : a = b) : Ending.returned (.bool a) = .returned (.bool b) := by rw [h]
theorem ret_int {k : IntKind} {a b : Int} (h : a = b) : Ending.returned (.int k a) = .returned (.int k b) := by rw [h]
theorem ret_str {a b : ByteArray} (h : a = b) : Ending.returned (.string a) = .returned (.string b) := by rw [h]
theorem cut_ends (c : List UInt8) (n : Nat) : (⟨c.toArray⟩ : ByteArray).extract 0 n = ⟨(c.take n).toArray⟩ := by
  apply ByteArray.ext
  simp [ByteArray.data_extract]
theorem cut_mid (c : List UInt8) (m n : Nat) : (⟨c.toArray⟩ : ByteArray).extract m n = ⟨((c.drop m).take (n - m)).toArray⟩ := by
  apply ByteArray.ext
  simp [ByteArray.data_extract]
theorem cut_rest (c : List UInt8) (m : Nat) : (⟨c.toArray⟩ : ByteArray).extract m c.length = ⟨(c.drop m).toArray⟩ := by
  rw [cut_mid, List.take_of_length_le (by simp)]
theorem str_cat (a b : List UInt8) : (⟨a.toArray⟩ : ByteArray) ++ ⟨b.toArray⟩ = ⟨(a ++ b).toArray⟩ := by
  apply ByteArray.ext; simp
theorem wraps_i64 (n : Int) (h₀ : 0 ≤ n) (h₁ : n < 2 ^ 62) : IntKind.i64.wrap n = n := by rw [IntKind.wrap_i64]; omega

theorem and_two_pow (x i : Nat) : x &&& 2 ^ i = (x.testBit i).toNat * 2 ^ i := by
  apply Nat.eq_of_testBit_eq
  intro j
  rw [Nat.testBit_and, Nat.testBit_two_pow]
  cases hx : x.testBit i with
  | false =>
    by_cases hj : i = j
    · subst hj; simp [hx]
    · simp [hj]
  | true =>
    by_cases hj : i = j
    · subst hj; simp [hx]
    · simp [hj]
/-- A flag. -/
theorem and_bit (n : Int) (i : Nat) (B : Int) (h : (BitVec.ofInt 64 B).toNat = 2 ^ i) (hB : (2 ^ i : Nat) = B) (hi : i ≤ 40) :
    Go.bits .and .i64 n B = if ((n % 18446744073709551616).toNat / 2 ^ i) % 2 = 1 then B else 0 := by
  have key : (BitVec.ofInt 64 n &&& BitVec.ofInt 64 B).toNat = ((n % ((2 ^ 64 : Nat) : Int)).toNat.testBit i).toNat * 2 ^ i := by
    rw [BitVec.toNat_and, BitVec.toNat_ofInt, h, and_two_pow]
  show IntKind.i64.wrap ((BitVec.ofInt 64 n &&& BitVec.ofInt 64 B).toNat : Nat) = _
  have hp : 2 ^ i ≤ 2 ^ 40 := Nat.pow_le_pow_right (by omega) hi
  rw [key, Nat.testBit_eq_decide_div_mod_eq, IntKind.wrap_i64]
  have e64 : ((2 ^ 64 : Nat) : Int) = 18446744073709551616 := by decide
  rw [e64]
  by_cases hb : ((n % 18446744073709551616).toNat / 2 ^ i) % 2 = 1
  · rw [if_pos hb, decide_eq_true hb, Bool.toNat_true, Nat.one_mul]
    have h40 : (2 ^ 40 : Nat) = 1099511627776 := by decide
    rw [hB]; rw [h40] at hp; omega
  · rw [if_neg hb, decide_eq_false hb, Bool.toNat_false, Nat.zero_mul]; decide
theorem has1 (n : Int) : (Go.bits .and .i64 n 1 != 0) = Fm.has n 1 := by
  rw [and_bit n 0 1 (by decide) (by decide) (by decide)]
  unfold Fm.has
  by_cases h : 1 ≤ n % (2 * 1)
  · rw [decide_eq_true h, if_pos (by omega)]; rfl
  · rw [decide_eq_false h, if_neg (by omega)]; rfl
theorem has8 (n : Int) : (Go.bits .and .i64 n 8 != 0) = Fm.has n 8 := by
  rw [and_bit n 3 8 (by decide) (by decide) (by decide)]
  unfold Fm.has
  by_cases h : 8 ≤ n % (2 * 8)
  · rw [decide_eq_true h, if_pos (by omega)]; rfl
  · rw [decide_eq_false h, if_neg (by omega)]; rfl
theorem has32 (n : Int) : (Go.bits .and .i64 n 32 != 0) = Fm.has n 32 := by
  rw [and_bit n 5 32 (by decide) (by decide) (by decide)]
  unfold Fm.has
  by_cases h : 32 ≤ n % (2 * 32)
  · rw [decide_eq_true h, if_pos (by omega)]; rfl
  · rw [decide_eq_false h, if_neg (by omega)]; rfl
theorem top_bit (n : Nat) (h : n < 4294967296) : (Go.bits .and .i64 (n : Int) 2147483648 != 0) = decide (2147483648 ≤ n) := by
  rw [and_bit n 31 2147483648 (by decide) (by decide) (by decide)]
  by_cases h : 2147483648 ≤ n
  · rw [decide_eq_true h, if_pos (by omega)]; rfl
  · rw [decide_eq_false h, if_neg (by omega)]; rfl
theorem low31 (n : Nat) (h : n < 4294967296) : Go.bits .and .i64 (n : Int) 2147483647 = ((n % 2147483648 : Nat) : Int) := by
  have := bits_mask .i64 62 (by decide) wraps_i64 31 (by decide) (n : Int) (by omega) (by omega)
  simp at this
  rw [this]; omega
theorem or_byte (n : Int) (b : Nat) (h0 : 0 ≤ n) (h1 : n ≤ 16777215) (hb : b < 256) : Go.bits .or .i64 (n * 256) (b : Int) = n * 256 + b := by
  rw [bits_join .i64 62 (by decide) wraps_i64 8 (n * 256) (b : Int) (by omega) (by omega) (by omega) (by omega) (by omega) (by omega)]
theorem or_top (n : Int) (h0 : 0 ≤ n) (h1 : n ≤ 2147483647) : Go.bits .or .i64 n 2147483648 = n + 2147483648 := by
  have hc : Go.bits .or .i64 n 2147483648 = Go.bits .or .i64 2147483648 n := by simp only [Go.bits, BitVec.or_comm]
  rw [hc, bits_join .i64 62 (by decide) wraps_i64 31 2147483648 n (by omega) (by omega) (by omega) (by omega) (by omega) (by omega)]
  omega

/-- The structs' zeros and sizes. -/
theorem zeroFrame : (Try.prog.info? 31).map (fun i => i.zero) = some (some (.agg #[.int .i64 0, .int .i64 0, .int .i64 0, .string ⟨#[]⟩])) := by kernel_rfl
theorem sizeFrame : (Try.prog.info? 31).map (·.size) = some 4 := by kernel_rfl
theorem zeroParts : (Try.prog.info? 27).map (fun i => i.zero) = some (some (.agg #[.string ⟨#[]⟩, .int .i64 0, .int .i64 0, .int .i64 0, .int .i64 0, .bool false, .int .i64 0, .slice none 0 0])) := by kernel_rfl
theorem sizeParts : (Try.prog.info? 27).map (·.size) = some 8 := by kernel_rfl
theorem zeroWrong : (Try.prog.info? 74).map (fun i => i.zero) = some (some (.agg #[.bool false, .bool false, .int .i64 0])) := by kernel_rfl
theorem sizeWrong : (Try.prog.info? 74).map (·.size) = some 3 := by kernel_rfl
theorem zeroSetting : (Try.prog.info? 29).map (fun i => i.zero) = some (some (.agg #[.int .i64 0, .int .i64 0])) := by kernel_rfl
theorem sizeSetting : (Try.prog.info? 29).map (·.size) = some 2 := by kernel_rfl

/-- A frame's cells, those of what it says, of what is wrong. -/
def frC (k fl st : Int) (l : List UInt8) : Array Value := #[.int .i64 k, .int .i64 fl, .int .i64 st, .string ⟨l.toArray⟩]
def ptC (p : Fm.Pt) (v : Value) : Array Value := #[.string ⟨p.data.toArray⟩, .int .i64 p.pad, .int .i64 p.code, .int .i64 p.last, .int .i64 p.weight, .bool p.only, .int .i64 p.more, v]
def wgC (i c : Bool) (e : Int) : Array Value := #[.bool i, .bool c, .int .i64 e]

theorem ld_frame {w : World} {b : Nat} {x0 x1 x2 x3 : Value} (h : Ar w b 31 #[x0, x1, x2, x3]) : (loadVar 31 ⟨b, 0, none⟩).run Try.prog w = .ok (.agg #[x0, x1, x2, x3]) w :=
  run_loadVar_row (P := Try.prog) w b 31 31 _ (0, 0) _ h Try.underlying31 rfl sizeFrame
theorem ld_parts {w : World} {b : Nat} {x0 x1 x2 x3 x4 x5 x6 x7 : Value} (h : Ar w b 27 #[x0, x1, x2, x3, x4, x5, x6, x7]) : (loadVar 27 ⟨b, 0, none⟩).run Try.prog w = .ok (.agg #[x0, x1, x2, x3, x4, x5, x6, x7]) w :=
  run_loadVar_row (P := Try.prog) w b 27 27 _ (0, 0) _ h Try.underlying27 rfl sizeParts
theorem ld_wrong {w : World} {b : Nat} {x0 x1 x2 : Value} (h : Ar w b 74 #[x0, x1, x2]) : (loadVar 74 ⟨b, 0, none⟩).run Try.prog w = .ok (.agg #[x0, x1, x2]) w :=
  run_loadVar_row (P := Try.prog) w b 74 74 _ (0, 0) _ h Try.underlying74 rfl sizeWrong

theorem frC_cells {w : World} {b : Nat} {k fl st : Int} {l : List UInt8} (h : Ar w b 31 (frC k fl st l)) :
    w.cell? ⟨b, 0, none⟩ = some (.int .i64 k) ∧ w.cell? ⟨b, 1, none⟩ = some (.int .i64 fl) ∧ w.cell? ⟨b, 2, none⟩ = some (.int .i64 st) ∧ w.cell? ⟨b, 3, none⟩ = some (.string ⟨l.toArray⟩) :=
  ⟨h.cell 0 _ rfl, h.cell 1 _ rfl, h.cell 2 _ rfl, h.cell 3 _ rfl⟩

/-- The cells of no parts and of nothing wrong. -/
def ptZ : Array Value := #[.string ⟨#[]⟩, .int .i64 0, .int .i64 0, .int .i64 0, .int .i64 0, .bool false, .int .i64 0, .slice none 0 0]
def wgZ : Array Value := #[.bool false, .bool false, .int .i64 0]
/-- A frame in its box, and the places of what is answered. -/
structure FB (w0 w : World) (b1 b2 b3 : Nat) (k fl st : Int) (l : List UInt8) : Prop where
  bel : Below w0.heap.size w0 w
  g1 : w0.heap.size ≤ b1
  g2 : w0.heap.size ≤ b2
  g3 : w0.heap.size ≤ b3
  a1 : Ar w b1 31 (frC k fl st l)
  a2 : Ar w b2 27 ptZ
  a3 : Ar w b3 74 wgZ
theorem FB.keep {w0 w w' : World} {b1 b2 b3 : Nat} {k fl st : Int} {l : List UInt8} (h : FB w0 w b1 b2 b3 k fl st l) (hb : Below w.heap.size w w') : FB w0 w' b1 b2 b3 k fl st l :=
  ⟨below_two h.bel hb, h.g1, h.g2, h.g3, h.a1.keep hb, h.a2.keep hb, h.a3.keep hb⟩
theorem Ar.apart {w : World} {a b : Nat} {T T' : TypeId} {cs cs' : Array Value} (h : Ar w a T cs) (h' : Ar w b T' cs') (hne : T ≠ T') : a ≠ b := by
  rintro rfl
  unfold Ar at h h'
  rw [h] at h'
  injection h' with h'
  injection h' with _ h2 _
  exact hne h2

theorem FB.upd {w0 w w' : World} {b b1 b2 b3 : Nat} {k fl st : Int} {l : List UInt8} (h : FB w0 w b1 b2 b3 k fl st l) (hu : Upd b w w') (hg : w0.heap.size ≤ b) (n1 : b1 ≠ b) (n2 : b2 ≠ b) (n3 : b3 ≠ b) : FB w0 w' b1 b2 b3 k fl st l :=
  ⟨h.bel.trans (hu.below hg), h.g1, h.g2, h.g3, hu.keep h.a1 n1, hu.keep h.a2 n2, hu.keep h.a3 n3⟩

section
variable {ops : Array Oper} {rest : List Oper} {o o' o'' : Oper} {a : Act} {w : World} {Q : Exit → Act → World → Prop}
/-- A frame is boxed, parts and wrong are laid. -/
theorem wpl_open (x : Operand) (ho : o.op = .box 31 x) (hgd : o.guard = none) (ho' : o'.op = .alloc 27) (hgd' : o'.guard = none) (ho'' : o''.op = .alloc 74) (hgd'' : o''.guard = none)
    (k fl st : Int) (l : List UInt8) (hx : a.eval x = .agg (frC k fl st l))
    (h : ∀ b1 b2 b3 w', FB w w' b1 b2 b3 k fl st l → wpList Try.prog ops Q rest (((a.put o.dst (.pointer (some ⟨b1, 0, none⟩))).put o'.dst (.pointer (some ⟨b2, 0, none⟩))).put o''.dst (.pointer (some ⟨b3, 0, none⟩))) w') :
    wpList Try.prog ops Q (o :: o' :: o'' :: rest) a w := by
  refine wpl_box 31 x ho hgd _ hx ?_
  intro b1 w1 hg1 ha1 hb1
  refine wpl_alloc 27 ho' hgd' _ zeroParts ?_
  intro b2 w2 hg2 ha2 hb2
  refine wpl_alloc 74 ho'' hgd'' _ zeroWrong ?_
  intro b3 w3 hg3 ha3 hb3
  have s1 := hb1.size
  have s2 := hb2.size
  exact h b1 b2 b3 w3 ⟨below_two (below_two hb1 hb2) hb3, hg1, by omega, by omega, (ha1.keep hb2).keep hb3, ha2.keep hb3, ha3⟩
/-- Parts and wrong are laid. -/
theorem wpl_open2 (ho' : o'.op = .alloc 27) (hgd' : o'.guard = none) (ho'' : o''.op = .alloc 74) (hgd'' : o''.guard = none)
    (h : ∀ b2 b3 w', w.heap.size ≤ b2 → w.heap.size ≤ b3 → Ar w' b2 27 ptZ → Ar w' b3 74 wgZ → Below w.heap.size w w' → wpList Try.prog ops Q rest ((a.put o'.dst (.pointer (some ⟨b2, 0, none⟩))).put o''.dst (.pointer (some ⟨b3, 0, none⟩))) w') :
    wpList Try.prog ops Q (o' :: o'' :: rest) a w := by
  refine wpl_alloc 27 ho' hgd' _ zeroParts ?_
  intro b2 w2 hg2 ha2 hb2
  refine wpl_alloc 74 ho'' hgd'' _ zeroWrong ?_
  intro b3 w3 hg3 ha3 hb3
  have s2 := hb2.size
  exact h b2 b3 w3 hg2 (by omega) (ha2.keep hb3) ha3 (below_two hb2 hb3)
/-- Parts are stored. -/
theorem wpl_stp (x y : Operand) (ho : o.op = .store 27 x y) (hgd : o.guard = none) (b : Nat) (p : Fm.Pt) (ao : Option Addr) (n cap : Nat) (hx : a.eval x = .pointer (some ⟨b, 0, none⟩)) (hy : a.eval y = .agg (ptC p (.slice ao n cap)))
    (old : Array Value) (hg : Ar w b 27 old) (hold : old.size = 8)
    (h : ∀ w', Ar w' b 27 (ptC p (.slice ao n cap)) → Upd b w w' → wpList Try.prog ops Q rest (a.put o.dst undef) w') : wpList Try.prog ops Q (o :: rest) a w :=
  wpl_store 27 x y ho hgd b _ hx hy _ _ hg sizeParts hold (by simp [ptC, Value.oneCell']) h
/-- What is wrong is stored. -/
theorem wpl_stw (x y : Operand) (ho : o.op = .store 74 x y) (hgd : o.guard = none) (b : Nat) (i c : Bool) (e : Int) (hx : a.eval x = .pointer (some ⟨b, 0, none⟩)) (hy : a.eval y = .agg (wgC i c e))
    (old : Array Value) (hg : Ar w b 74 old) (hold : old.size = 3)
    (h : ∀ w', Ar w' b 74 (wgC i c e) → Upd b w w' → wpList Try.prog ops Q rest (a.put o.dst undef) w') : wpList Try.prog ops Q (o :: rest) a w :=
  wpl_store 74 x y ho hgd b _ hx hy _ _ hg sizeWrong hold (by simp [wgC, Value.oneCell']) h
/-- Both are stored. -/
theorem wpl_st2 (x y x' y' : Operand) (ho : o.op = .store 27 x y) (hgd : o.guard = none) (ho' : o'.op = .store 74 x' y') (hgd' : o'.guard = none) (B b2 b3 : Nat) (p : Fm.Pt) (ao : Option Addr) (n cap : Nat) (i c : Bool) (e : Int)
    (hx : a.eval x = .pointer (some ⟨b2, 0, none⟩)) (hy : a.eval y = .agg (ptC p (.slice ao n cap))) (hx' : (a.put o.dst undef).eval x' = .pointer (some ⟨b3, 0, none⟩)) (hy' : (a.put o.dst undef).eval y' = .agg (wgC i c e))
    (h2 : Ar w b2 27 ptZ) (h3 : Ar w b3 74 wgZ) (hB2 : B ≤ b2) (hB3 : B ≤ b3)
    (h : ∀ w', Ar w' b2 27 (ptC p (.slice ao n cap)) → Ar w' b3 74 (wgC i c e) → Below B w w' → wpList Try.prog ops Q rest ((a.put o.dst undef).put o'.dst undef) w') :
    wpList Try.prog ops Q (o :: o' :: rest) a w := by
  have hne : b3 ≠ b2 := h3.apart h2 (by decide)
  refine wpl_stp x y ho hgd b2 p ao n cap hx hy _ h2 rfl ?_
  intro w1 ha1 hu1
  refine wpl_stw x' y' ho' hgd' b3 i c e hx' hy' _ (hu1.keep h3 hne) rfl ?_
  intro w2 ha2 hu2
  exact h w2 (hu2.keep ha1 (Ne.symm hne)) ha2 ((hu1.below hB2).trans (hu2.below hB3))
end
/-- Cells of a struct that are stored one by one. -/
theorem Upd.refl (b : Nat) (w : World) : Upd b w w := ⟨rfl, rfl, rfl, rfl, fun _ _ => rfl⟩
theorem Upd.trans {b : Nat} {w w1 w2 : World} (h1 : Upd b w w1) (h2 : Upd b w1 w2) : Upd b w w2 :=
  ⟨h2.os.trans h1.os, h2.tape.trans h1.tape, h2.output.trans h1.output, h2.size.trans h1.size, fun k hk => (h2.block k hk).trans (h1.block k hk)⟩
theorem Upd.put {b : Nat} {w w1 : World} (h1 : Upd b w w1) (i : Nat) (v : Value) : Upd b w (w1.setCell ⟨b, i, none⟩ v) := h1.trans (upd_setCell w1 b i v)
theorem st8 {w : World} {b : Nat} {a0 a1 a2 a3 a4 a5 a6 a7 : Value} (h : Ar w b 27 #[a0, a1, a2, a3, a4, a5, a6, a7]) (x0 x1 x2 x3 x4 x5 x6 x7 : Value) :
    Ar ((((((((w.setCell ⟨b, 0, none⟩ x0).setCell ⟨b, 1, none⟩ x1).setCell ⟨b, 2, none⟩ x2).setCell ⟨b, 3, none⟩ x3).setCell ⟨b, 4, none⟩ x4).setCell ⟨b, 5, none⟩ x5).setCell ⟨b, 6, none⟩ x6).setCell ⟨b, 7, none⟩ x7) b 27 #[x0, x1, x2, x3, x4, x5, x6, x7] ∧ Upd b w ((((((((w.setCell ⟨b, 0, none⟩ x0).setCell ⟨b, 1, none⟩ x1).setCell ⟨b, 2, none⟩ x2).setCell ⟨b, 3, none⟩ x3).setCell ⟨b, 4, none⟩ x4).setCell ⟨b, 5, none⟩ x5).setCell ⟨b, 6, none⟩ x6).setCell ⟨b, 7, none⟩ x7) :=
  ⟨by simpa using ((((((((h.set 0 x0).set 1 x1).set 2 x2).set 3 x3).set 4 x4).set 5 x5).set 6 x6).set 7 x7), (((((((((Upd.refl b w).put 0 x0).put 1 x1).put 2 x2).put 3 x3).put 4 x4).put 5 x5).put 6 x6).put 7 x7)⟩
theorem st3 {w : World} {b : Nat} {a0 a1 a2 : Value} (h : Ar w b 74 #[a0, a1, a2]) (x0 x1 x2 : Value) :
    Ar (((w.setCell ⟨b, 0, none⟩ x0).setCell ⟨b, 1, none⟩ x1).setCell ⟨b, 2, none⟩ x2) b 74 #[x0, x1, x2] ∧ Upd b w (((w.setCell ⟨b, 0, none⟩ x0).setCell ⟨b, 1, none⟩ x1).setCell ⟨b, 2, none⟩ x2) :=
  ⟨by simpa using (((h.set 0 x0).set 1 x1).set 2 x2), ((((Upd.refl b w).put 0 x0).put 1 x1).put 2 x2)⟩
theorem st4 {w : World} {b : Nat} {a0 a1 a2 a3 : Value} (h : Ar w b 31 #[a0, a1, a2, a3]) (x0 x1 x2 x3 : Value) :
    Ar ((((w.setCell ⟨b, 0, none⟩ x0).setCell ⟨b, 1, none⟩ x1).setCell ⟨b, 2, none⟩ x2).setCell ⟨b, 3, none⟩ x3) b 31 #[x0, x1, x2, x3] ∧ Upd b w ((((w.setCell ⟨b, 0, none⟩ x0).setCell ⟨b, 1, none⟩ x1).setCell ⟨b, 2, none⟩ x2).setCell ⟨b, 3, none⟩ x3) :=
  ⟨by simpa using ((((h.set 0 x0).set 1 x1).set 2 x2).set 3 x3), (((((Upd.refl b w).put 0 x0).put 1 x1).put 2 x2).put 3 x3)⟩
theorem ptZ_cells {w : World} {b : Nat} (h : Ar w b 27 ptZ) :
    (w.cell? ⟨b, 0, none⟩ = some (.string ⟨#[]⟩) ∧ w.cell? ⟨b, 1, none⟩ = some (.int .i64 0) ∧ w.cell? ⟨b, 2, none⟩ = some (.int .i64 0) ∧ w.cell? ⟨b, 3, none⟩ = some (.int .i64 0) ∧ w.cell? ⟨b, 4, none⟩ = some (.int .i64 0) ∧ w.cell? ⟨b, 5, none⟩ = some (.bool false) ∧ w.cell? ⟨b, 6, none⟩ = some (.int .i64 0) ∧ w.cell? ⟨b, 7, none⟩ = some (.slice none 0 0)) ∧ 
    (w.frozen? ⟨b, 0, none⟩ = false ∧ w.frozen? ⟨b, 1, none⟩ = false ∧ w.frozen? ⟨b, 2, none⟩ = false ∧ w.frozen? ⟨b, 3, none⟩ = false ∧ w.frozen? ⟨b, 4, none⟩ = false ∧ w.frozen? ⟨b, 5, none⟩ = false ∧ w.frozen? ⟨b, 6, none⟩ = false ∧ w.frozen? ⟨b, 7, none⟩ = false) :=
  ⟨⟨h.cell 0 _ rfl, h.cell 1 _ rfl, h.cell 2 _ rfl, h.cell 3 _ rfl, h.cell 4 _ rfl, h.cell 5 _ rfl, h.cell 6 _ rfl, h.cell 7 _ rfl⟩, h.free 0, h.free 1, h.free 2, h.free 3, h.free 4, h.free 5, h.free 6, h.free 7⟩
theorem wgZ_cells {w : World} {b : Nat} (h : Ar w b 74 wgZ) :
    (w.cell? ⟨b, 0, none⟩ = some (.bool false) ∧ w.cell? ⟨b, 1, none⟩ = some (.bool false) ∧ w.cell? ⟨b, 2, none⟩ = some (.int .i64 0)) ∧ (w.frozen? ⟨b, 0, none⟩ = false ∧ w.frozen? ⟨b, 1, none⟩ = false ∧ w.frozen? ⟨b, 2, none⟩ = false) :=
  ⟨⟨h.cell 0 _ rfl, h.cell 1 _ rfl, h.cell 2 _ rfl⟩, h.free 0, h.free 1, h.free 2⟩
theorem wrap_byte (c : UInt8) : IntKind.i64.wrap (c.toNat : Int) = (c.toNat : Int) := by have := UInt8.toNat_lt c; rw [IntKind.wrap_i64]; omega
theorem wrap_byte1 (c : UInt8) : IntKind.i64.wrap ((c.toNat : Int) + 1) = (c.toNat : Int) + 1 := by have := UInt8.toNat_lt c; rw [IntKind.wrap_i64]; omega

/-- What is answered of a frame. -/
def rdV (r : Fm.Rd) (v : Value) : Value :=
  match r with
  | .bad c e => .tuple #[.agg ptZ, .agg (wgC true c e)]
  | .ok p => .tuple #[.agg (ptC p v), .agg wgZ]

theorem ldp {w : World} {b : Nat} {p : Fm.Pt} {v : Value} (h : Ar w b 27 (ptC p v)) : (loadVar 27 ⟨b, 0, none⟩).run Try.prog w = .ok (.agg (ptC p v)) w := ld_parts h
theorem ldw {w : World} {b : Nat} {i c : Bool} {e : Int} (h : Ar w b 74 (wgC i c e)) : (loadVar 74 ⟨b, 0, none⟩).run Try.prog w = .ok (.agg (wgC i c e)) w := ld_wrong h

end Go.Proofs.Ythbidfcfkjamdaa
