/-
  strings.Builder's WriteString and String at this program, a frame by types: by their contracts.
  Numbers that texts write: plain functions and lemmas, with no program in sight.
  Messages on lists: walks, lengths, trailers, targets. What is of no program.
  Decimal numerals: plain lemmas, with no program in sight.
-/
import Derived.Test.YtbpdhcfmdkmoiaaDoorPwAA
import Derived.Test.YtbpdhcfmdkmoiaaDoorPwAE
import Derived.Test.YtbpdhcfmdkmoiaaDoorPwAB
import Derived.WalkKit
import Derived.Lib.ItoaMem
namespace Go.Proofs.YtbpdhcfmdkmoiaaDoor
open Go.RowKit

theorem size_l22 (l : List UInt8) : (⟨l.toArray⟩ : ByteArray).size = l.length := by simp [ByteArray.size]
theorem zeroBd22 : (Tryd.prog.info? 76).map (fun i => i.zero) = some (some (.agg #[.pointer none, .slice none 0 0])) := by kernel_rfl
/-- All blocks but one, and but rows of bytes, are as they were. -/
structure UF (b : Nat) (w w' : World) : Prop where
  size : w.heap.size ≤ w'.heap.size
  block : ∀ k, k < w.heap.size → k ≠ b → (∀ cs fz, w.heap[k]? ≠ some (.cells cs 5 fz)) → w'.heap[k]? = w.heap[k]?
theorem UF.of_below {b : Nat} {w w' : World} (h : Below w.heap.size w w') : UF b w w' := ⟨h.size, fun k hk _ _ => h.block k hk⟩
theorem UF.of_set (b i : Nat) (v : Value) (w : World) : UF b w (w.setCell ⟨b, i, none⟩ v) := ⟨by simp [World.setCell], fun k _ hb _ => (upd_setCell w b i v).block k hb⟩
theorem UF.trans {b : Nat} {w w1 w2 : World} (h1 : UF b w w1) (h2 : UF b w1 w2) : UF b w w2 :=
  ⟨Nat.le_trans h1.size h2.size, fun k hk hb hn => (h2.block k (Nat.lt_of_lt_of_le hk h1.size) hb (fun cs fz hc => hn cs fz (by rw [← h1.block k hk hb hn]; exact hc))).trans (h1.block k hk hb hn)⟩
theorem UF.ar {b c : Nat} {w w' : World} {T : TypeId} {cs : Array Value} (h : UF b w w') (ha : Ar w c T cs) (hb : c ≠ b) (hT : T ≠ 5) : Ar w' c T cs := by
  have := h.block c ha.lt hb (fun ds fz hd => by unfold Ar at ha; rw [ha] at hd; injection hd with hd; injection hd with _ h2 _; exact hT h2)
  unfold Ar at *
  rw [this]; exact ha
theorem bld_obj {w : World} {B b : Nat} {l : List UInt8} (h : Bld w B b l) : ∃ p q, Ar w b 76 #[p, q] := by
  rcases h with ⟨_, v, hbk, _⟩ | ⟨_, v, hbk, _⟩
  · exact ⟨_, v, hbk⟩
  · exact ⟨_, v, hbk⟩
set_option maxHeartbeats 2000000 in
set_option maxRecDepth 100000 in
theorem writeString_cells (B b : Nat) (bs : List Value) (s : ByteArray) (w : World) (h : Lib.IsBuilder 76 5 B b bs w) (hlen : bs.length + s.size ≤ 140737488355328) (hBw : B ≤ w.heap.size) :
    Calls Tryd.prog 66 #[.pointer (some ⟨b, 0, none⟩), .string s] w fun e w' => e = .returned (.tuple #[.int .i64 (s.size : Int), .nilIface]) ∧ (Lib.IsBuilder 76 5 B b (bs ++ Lib.strCells s) w' ∧ Below B w w' ∧ UF b w w') := by
  obtain ⟨i0, hi, hz0, hz1, hz2⟩ := minfo_parts infoByte
  have HU : Hid (∀ w1, Lib.BuilderAt 76 5 B b (.pointer (some ⟨b, 0, none⟩)) bs w1 ∧ (w1 = w ∨ w1 = w.setCell ⟨b, 0, none⟩ (.pointer (some ⟨b, 0, none⟩))) → UF b w w1) := hid' fun w1 ⟨_, hw⟩ => by
    rcases hw with rfl | rfl
    · exact UF.of_below (Below.refl _ _)
    · exact UF.of_set _ _ _ _
  have hcc : Calls Tryd.prog 84 #[.pointer (some ⟨b, 0, none⟩)] w fun e w' => e = .returned (.tuple #[]) ∧ (Lib.BuilderAt 76 5 B b (.pointer (some ⟨b, 0, none⟩)) bs w' ∧ Below B w w' ∧ UF b w w') := by
    rcases h with h | h
    · refine (copyCheck_fresh b w h.cell0 h.shape h.frozen0).mono ?_
      rintro e w' ⟨rfl, rfl⟩
      exact ⟨rfl, h.used _, (Below.refl B w).setCell (p := ⟨b, 0, none⟩) h.1 _, UF.of_set _ _ _ _⟩
    · refine (copyCheck_used b w h.cell0).mono ?_
      rintro e w' ⟨rfl, rfl⟩
      exact ⟨rfl, h, Below.refl B _, UF.of_below (Below.refl _ _)⟩
  have HCC := hid' hcc
  clear hcc HU h
  go_enter Tryd.func66, Tryd.ntmps66
  go_wp2_with fail
  refine HCC.out.mono ?_
  rintro e w1 ⟨rfl, h1, hb1, hu1⟩
  clear HCC
  obtain ⟨hB, v, hbk, hown, hne⟩ := h1
  have c0 : w1.cell? ⟨b, 0, none⟩ = some (.pointer (some ⟨b, 0, none⟩)) := by rw [Lib.cell_of_heap hbk]; rfl
  have c1 : w1.cell? ⟨b, 1, none⟩ = some v := by rw [Lib.cell_of_heap hbk]; rfl
  go_wp2_with (at_builtin; refine Lib.wpList_append_own_string _ rfl _ _ 72 9 rfl B 5 i0 Tryd.underlying72 Tryd.underlying9 hi hz0 hz1 hz2 _ _ _ rfl hown s rfl ?c3 ?c4 ?c5 ?_)
  case c3 => unfold maxLen; omega
  case c4 => omega
  case c5 => have := hb1.size; omega
  intro v' w2 hown' hgrow _
  have hlt : b < w1.heap.size := (Array.getElem?_eq_some_iff.1 hbk).1
  have hb2 : w2.heap[b]? = some (.cells #[.pointer (some ⟨b, 0, none⟩), v] 76 (0, 0)) := by
    rw [hgrow.block b (by omega) (fun e => hne e.symm)]
    exact hbk
  have d1 : w2.cell? ⟨b, 1, none⟩ = some v := by rw [Lib.cell_of_heap hb2]; rfl
  have f1 : w2.frozen? ⟨b, 1, none⟩ = false := Lib.frozen_of_heap hb2 1
  obtain ⟨ao, n', cap, rfl⟩ : ∃ ao n' cap, v' = .slice ao n' cap := by
    rcases hown'.2 with ⟨h, _⟩ | ⟨g, cap, cur, hv, _⟩
    · exact ⟨_, _, _, h⟩
    · exact ⟨_, _, _, hv⟩
  have HUG : Hid (UF b w1 w2) := hid' ⟨hgrow.size, fun k hk _ hn => hgrow.block k hk (fun e => by
    rcases hown.2 with ⟨rfl, _⟩ | ⟨g, cap, cur, rfl, _, hg, _⟩
    · simp [Value.ownBlock] at e
    · simp [Value.ownBlock] at e
      subst e
      exact hn cur (0, 0) hg)⟩
  have HU1 := hid' hu1
  clear hu1
  go_wp2
  go_ret2
  refine ⟨rfl, ?_, ?_, (HU1.out.trans HUG.out).trans (UF.of_set _ _ _ _)⟩
  · exact .inr (Lib.BuilderAt.put (T := 76) (e := 5) hB hb2 (bs' := bs ++ Lib.strCells s) (by simpa [Lib.strCells_length] using hown') (by decide))
  · exact (hb1.grown hgrow (by have := hb1.size; omega) (fun k hk => (hown.lt k hk).1)).setCell (p := ⟨b, 1, none⟩) hB _

theorem writeString_any (B b : Nat) (l s : List UInt8) (w : World) (h : Bld w B b l) (hlen : l.length + s.length ≤ 140737488355328) (hBw : B ≤ w.heap.size) :
    Calls Tryd.prog 66 #[.pointer (some ⟨b, 0, none⟩), .string ⟨s.toArray⟩] w fun e w' => e = .returned (.tuple #[.int .i64 (s.length : Int), .nilIface]) ∧ (Bld w' B b (l ++ s) ∧ Below B w w' ∧ UF b w w') := by
  refine (writeString_cells B b (Lib.byteCells l) ⟨s.toArray⟩ w h (by rw [Lib.byteCells_length, size_l22]; exact hlen) hBw).mono ?_
  rintro e w' ⟨rfl, h1, h2⟩
  refine ⟨by rw [size_l22], ?_, h2⟩
  have : Lib.byteCells (l ++ s) = Lib.byteCells l ++ Lib.strCells ⟨s.toArray⟩ := by simp [Lib.byteCells, Lib.strCells]
  unfold Bld
  rw [this]
  exact h1

theorem string_any (B b : Nat) (l : List UInt8) (w : World) (h : Bld w B b l) (hBw : B ≤ w.heap.size) :
    Calls Tryd.prog 67 #[.pointer (some ⟨b, 0, none⟩)] w fun e w' => e = .returned (.string ⟨l.toArray⟩) ∧ Below B w w' ∧ UF b w w' := by
  refine (Tryd.Builder_String_any_k B b l w (Lib.IsBuilderF.of h) hBw).mono ?_
  rintro e w' ⟨rfl, _, hb, ho⟩
  refine ⟨rfl, hb, hb.size, fun k hk hne hn => ?_⟩
  obtain ⟨o, hk'⟩ : ∃ o, w.heap[k]? = some o := ⟨_, Array.getElem?_eq_getElem hk⟩
  rw [ho k o hk' (by simpa using hne) (fun c fz e => hn c fz (by rw [hk', e])), hk']

theorem ar_ne22 {w : World} {a b : Nat} {T T' : TypeId} {c c' : Array Value} (h : Ar w a T c) (h' : Ar w b T' c') (hT : T ≠ T') : a ≠ b := fun e => by
  unfold Ar at h h'
  rw [e, h'] at h
  injection h with h
  injection h with _ h _
  exact hT h.symm

end Go.Proofs.YtbpdhcfmdkmoiaaDoor

namespace Go.Proofs.YtbpdhcfmdkmoiaaDoor
namespace Tx

/-- The greatest number. -/
def top : Int := 9223372036854775807
theorem top_eq : top = 9223372036854775807 := rfl
/-- The number that digits of base b write. -/
def numv (b : Int) (l : List UInt8) : Int := l.foldl (fun n c => n * b + dgt (c.toNat : Int)) 0
def digs (b : Int) (l : List UInt8) : Bool := allC (fun c => decide (dgt c < b)) l
theorem numv_snoc (b : Int) (l : List UInt8) (c : UInt8) : numv b (l ++ [c]) = numv b l * b + dgt (c.toNat : Int) := by
  unfold numv; rw [List.foldl_append]; rfl
theorem numv_nonneg (b : Int) (hb : 0 ≤ b) (l : List UInt8) : 0 ≤ numv b l := by
  unfold numv
  suffices h : ∀ n : Int, 0 ≤ n → 0 ≤ l.foldl (fun n c => n * b + dgt (c.toNat : Int)) n from h 0 (Int.le_refl _)
  induction l with
  | nil => intro n hn; exact hn
  | cons c l ih => intro n hn; exact ih _ (Int.add_nonneg (Int.mul_nonneg hn hb) (dgt_bd _).1)

/-- P1.5: the number and the error's number. -/
def num (b : Int) (l : List UInt8) : Int × Int := if l.isEmpty || !digs b l then (0, 10) else if top < numv b l then (0, 5) else (numv b l, 0)

/-- What the loop of read keeps. -/
structure NumRel (b : Int) (l : List UInt8) (n : Int) (o : Bool) : Prop where
  digs : digs b l = true
  lo : 0 ≤ n
  hi : n ≤ top
  no : o = false → n = numv b l
  yes : o = true → top < numv b l
theorem NumRel.start (b : Int) : NumRel b [] 0 false := ⟨rfl, Int.le_refl _, by decide, fun _ => rfl, fun h => (by cases h)⟩
theorem digs_snoc (b : Int) (l : List UInt8) (c : UInt8) (h : digs b l = true) (hc : dgt (c.toNat : Int) < b) : digs b (l ++ [c]) = true := by
  unfold digs allC at *; rw [List.all_append, h]; simp [hc]
theorem NumRel.over {b : Int} {l : List UInt8} {n : Int} (h : NumRel b l n true) (hb : 1 ≤ b) (c : UInt8) (hc : dgt (c.toNat : Int) < b) : NumRel b (l ++ [c]) n true :=
  have hy : top < numv b (l ++ [c]) := by
    rw [numv_snoc]
    have h1 := h.yes rfl
    have h2 := (dgt_bd (c.toNat : Int)).1
    have h3 := numv_nonneg b (by omega) l
    have h4 : numv b l * 1 ≤ numv b l * b := Int.mul_le_mul_of_nonneg_left hb h3
    omega
  ⟨digs_snoc b l c h.digs hc, h.lo, h.hi, fun e => (by cases e), fun _ => hy⟩
theorem NumRel.goes {b : Int} {l : List UInt8} {n : Int} (h : NumRel b l n false) (c : UInt8) (hc : dgt (c.toNat : Int) < b) (hn : top < n * b + dgt (c.toNat : Int)) : NumRel b (l ++ [c]) n true :=
  ⟨digs_snoc b l c h.digs hc, h.lo, h.hi, fun e => (by cases e), fun _ => by rw [numv_snoc, ← h.no rfl]; exact hn⟩
theorem NumRel.step {b : Int} {l : List UInt8} {n : Int} (h : NumRel b l n false) (hb : 0 ≤ b) (c : UInt8) (hc : dgt (c.toNat : Int) < b) (hn : n * b + dgt (c.toNat : Int) ≤ top) : NumRel b (l ++ [c]) (n * b + dgt (c.toNat : Int)) false :=
  ⟨digs_snoc b l c h.digs hc, Int.add_nonneg (Int.mul_nonneg h.lo hb) (dgt_bd _).1, hn, fun _ => by rw [numv_snoc, ← h.no rfl], fun e => (by cases e)⟩
theorem num_bad (b : Int) (s : ByteArray) (k : Nat) (h : k < s.size) (hc : ¬ dgt (s[k].toNat : Int) < b) : num b s.data.toList = (0, 10) := by
  unfold num digs
  rw [allC_no _ s k h (by simpa using hc)]; simp
theorem num_empty (b : Int) (l : List UInt8) (h : l.isEmpty = true) : num b l = (0, 10) := by unfold num; rw [h]; simp
theorem num_over (b : Int) (s : ByteArray) (k : Nat) (h : s.size ≤ k) (he : s.data.toList.isEmpty = false) (n : Int) (hr : NumRel b (s.data.toList.take k) n true) : num b s.data.toList = (0, 5) := by
  rw [List.take_of_length_le (by rw [← Lib.size_eq]; exact h)] at hr
  unfold num
  rw [he, hr.digs, if_neg (by decide), if_pos (hr.yes rfl)]
theorem num_ok (b : Int) (s : ByteArray) (k : Nat) (h : s.size ≤ k) (he : s.data.toList.isEmpty = false) (n : Int) (hr : NumRel b (s.data.toList.take k) n false) : num b s.data.toList = (n, 0) := by
  rw [List.take_of_length_le (by rw [← Lib.size_eq]; exact h)] at hr
  have e := hr.no rfl
  have hi := hr.hi
  subst e
  unfold num
  rw [he, hr.digs, if_neg (by decide), if_neg (by omega)]

end Tx
end Go.Proofs.YtbpdhcfmdkmoiaaDoor

namespace Go.Proofs.YtbpdhcfmdkmoiaaDoor
namespace Ms
/-- The value that the length's fields say, ahead of it the one that was said; none: they are refused. -/
def lenGo : Option ByteArray → List Fd → Option (Option ByteArray)
  | cur, [] => some cur
  | cur, f :: r => if lo f.n == sLen then (if dec f.v && (match cur with | some v => f.v.toList == v.toList | none => true) then lenGo (some f.v) r else none) else lenGo cur r
def lenV : Option (Option ByteArray) → Value
  | none => .tuple #[.int .i64 0, .bool false, .int .i64 142]
  | some none => .tuple #[.int .i64 0, .bool false, .int .i64 0]
  | some (some v) => .tuple #[.int .i64 (Tx.num 10 v.data.toList).1, .bool true, .int .i64 0]
theorem len_drop {l : List Fd} {i : Nat} {f : Fd} (h : l[i]? = some f) (cur : Option ByteArray) : lenGo cur (l.drop i) = if lo f.n == sLen then (if dec f.v && (match cur with | some v => f.v.toList == v.toList | none => true) then lenGo (some f.v) (l.drop (i + 1)) else none) else lenGo cur (l.drop (i + 1)) := by
  obtain ⟨h1, h2⟩ := List.getElem?_eq_some_iff.1 h
  rw [List.drop_eq_getElem_cons h1, h2]
  cases cur <;> rfl
def opt (has : Bool) (v : ByteArray) : Option ByteArray := if has then some v else none
end Ms
end Go.Proofs.YtbpdhcfmdkmoiaaDoor

namespace Go.Proofs.YtbpdhcfmdkmoiaaDoor
namespace Tx

theorem itoa_lo (n : Int) (h0 : 0 ≤ n) (h : n < 10) : Lib.itoa n = [UInt8.ofNat (48 + n).toNat] := by
  obtain ⟨u, rfl⟩ := Int.eq_ofNat_of_zero_le h0
  rw [Lib.itoa_nonneg, Lib.decDigits_one (by omega)]
  congr 2
theorem itoa_hi (n : Int) (h : 10 ≤ n) : Lib.itoa n = Lib.itoa (n / 10) ++ [UInt8.ofNat (48 + n % 10).toNat] := by
  obtain ⟨u, rfl⟩ := Int.eq_ofNat_of_zero_le (by omega : 0 ≤ n)
  rw [Lib.itoa_nonneg, show ((u : Int) / 10) = ((u / 10 : Nat) : Int) by omega, Lib.itoa_nonneg, Lib.decDigits, dif_neg (by omega)]
  congr 3
theorem itoa_nlo (n : Int) (h : n < 0) (h' : -10 < n) : Lib.itoa n = 45 :: Lib.itoa (-n) := by
  obtain ⟨u, hu⟩ := Int.eq_ofNat_of_zero_le (by omega : 0 ≤ -n)
  obtain rfl : n = -(u : Int) := by omega
  rw [Lib.itoa_neg u (by omega), Int.neg_neg, Lib.itoa_nonneg]
theorem itoa_nhi (n : Int) (h : n ≤ -10) : Lib.itoa n = Lib.itoa (n.tdiv 10) ++ [UInt8.ofNat (48 - n.tmod 10).toNat] := by
  obtain ⟨u, hu⟩ := Int.eq_ofNat_of_zero_le (by omega : 0 ≤ -n)
  obtain rfl : n = -(u : Int) := by omega
  have e1 : (-(u : Int)).tdiv 10 = -((u / 10 : Nat) : Int) := by rw [Int.neg_tdiv]; rfl
  have e2 : (-(u : Int)).tmod 10 = -((u % 10 : Nat) : Int) := by rw [Int.neg_tmod]; rfl
  rw [e1, e2, Lib.itoa_neg u (by omega), Lib.itoa_neg (u / 10) (by omega), Lib.decDigits, dif_neg (by omega), List.cons_append]
  congr 4; omega
theorem itoa_le (n : Int) : ∀ m : Nat, n.natAbs < 10 ^ m → (Lib.itoa n).length ≤ m + 2 := by
  intro m h
  have hd : ∀ (m u : Nat), u < 10 ^ m → (Lib.decDigits u).length ≤ m + 1 := by
    intro m
    induction m with
    | zero => intro u hu; rw [Lib.decDigits_one (by omega)]; simp
    | succ m ih =>
      intro u hu
      by_cases hs : u < 10
      · rw [Lib.decDigits_one hs]; simp
      · rw [Lib.decDigits, dif_neg hs, List.length_append]
        have := ih (u / 10) (by rw [Nat.pow_succ] at hu; omega)
        simp; omega
  unfold Lib.itoa
  split
  · have := hd m n.natAbs h; simp; omega
  · have := hd m n.toNat (by omega); omega

/-! ### what a numeral reads as -/
theorem dgt_of (k : Nat) (h : k < 10) : dgt (((UInt8.ofNat (48 + k)).toNat : Nat) : Int) = k := by
  have e : (UInt8.ofNat (48 + k)).toNat = 48 + k := by simp; omega
  rw [e]; unfold dgt digC
  rw [if_pos (by simp; omega)]; omega
theorem digs_append (b : Int) (l r : List UInt8) : digs b (l ++ r) = (digs b l && digs b r) := by unfold digs allC; rw [List.all_append]
theorem decDigits_reads : ∀ (m u : Nat), u ≤ m → digs 10 (Lib.decDigits u) = true ∧ numv 10 (Lib.decDigits u) = u ∧ (Lib.decDigits u).isEmpty = false := by
  intro m
  induction m with
  | zero =>
    intro u hu
    obtain rfl : u = 0 := by omega
    rw [Lib.decDigits_one (by omega)]
    decide
  | succ m ih =>
    intro u hu
    by_cases hs : u < 10
    · rw [Lib.decDigits_one hs]
      have := dgt_of u hs
      refine ⟨?_, ?_, rfl⟩
      · unfold digs allC; simp only [List.all_cons, List.all_nil, Bool.and_true, this]; simp; omega
      · unfold numv; simp only [List.foldl_cons, List.foldl_nil, this]; omega
    · obtain ⟨h1, h2, _⟩ := ih (u / 10) (by omega)
      have hd := dgt_of (u % 10) (by omega)
      rw [Lib.decDigits, dif_neg hs]
      refine ⟨?_, ?_, by simp⟩
      · rw [digs_append, h1]; unfold digs allC; simp only [List.all_cons, List.all_nil, Bool.and_true, Bool.true_and, hd]; simp; omega
      · rw [numv_snoc, h2, hd]; omega

end Tx
end Go.Proofs.YtbpdhcfmdkmoiaaDoor
