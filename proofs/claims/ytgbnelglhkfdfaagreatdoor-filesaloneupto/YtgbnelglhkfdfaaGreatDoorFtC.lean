/-
  The members of a list (P1.7): plain functions and lemmas, with no program in sight.
  Same, Decimal, SameTexts, addMember and List, each by its contract.
  Decimal numerals: plain lemmas, with no program in sight.
  The document's Decimal, by its contract.
  The document's Plain: by its contract.
  The law's number: by its contract.
-/
import Derived.Test.YtgbnelglhkfdfaaGreatDoorFtA
import Derived.Test.YtgbnelglhkfdfaaGreatDoorFtB
import Derived.Test.YtgbnelglhkfdfaaGreatDoorShelf
import Derived.Deep.QuietTactic
import Derived.BigQuiet
import Derived.Lib.LaidTab
import Derived.Sort.Grow
import Derived.Lib.ItoaMem
import Derived.Deep.RegionWith
import Derived.Deep.DeepFit
import Derived.Laws.AppendOwnNone
import Derived.Lib.ItoaLen
namespace Go.Proofs.YtgbnelglhkfdfaaGreatDoor
namespace Tx

/-- A piece's member, if there is one. -/
def addm (p : List UInt8) : List (List UInt8) := if (trim p).isEmpty then [] else [trim p]
/-- The members: cur: the piece that stands open; q: within quotes; e: behind a byte 5C within quotes. -/
def mems (cur : List UInt8) (q e : Bool) : List UInt8 → List (List UInt8)
  | [] => addm cur
  | c :: r => if e then mems (cur ++ [c]) q false r
    else if c == 34 then mems (cur ++ [c]) (!q) false r
    else if q && c == 92 then mems (cur ++ [c]) q true r
    else if !q && c == 44 then addm cur ++ mems [] q false r
    else mems (cur ++ [c]) q false r
def list (l : List UInt8) : List (List UInt8) := mems [] false false l

/-- What the loop of List keeps. -/
structure ListRel (l : List UInt8) (ms : List (List UInt8)) (st k : Nat) (q : Bool) : Prop where
  le : st ≤ l.length
  stk : st ≤ k
  many : ms.length ≤ k
  eq : list l = ms ++ mems ((l.drop st).take (k - st)) q false (l.drop k)
theorem ListRel.start (l : List UInt8) : ListRel l [] 0 0 false := ⟨Nat.zero_le _, Nat.le_refl _, Nat.le_refl _, by simp [list]⟩
theorem cur_snoc (l : List UInt8) (st k : Nat) (h : k < l.length) (hs : st ≤ k) : (l.drop st).take (k + 1 - st) = (l.drop st).take (k - st) ++ [l[k]] := by
  rw [show k + 1 - st = (k - st) + 1 by omega, List.take_succ_eq_append_getElem (by rw [List.length_drop]; omega), List.getElem_drop]
  congr 3; omega
theorem ListRel.quote {l : List UInt8} {ms : List (List UInt8)} {st k : Nat} {q : Bool} (h : ListRel l ms st k q) (hk : k < l.length) (hc : l[k] = 34) : ListRel l ms st (k + 1) (!q) :=
  ⟨h.le, by have := h.stk; omega, by have := h.many; omega, by
    rw [h.eq, List.drop_eq_getElem_cons hk, cur_snoc l st k hk h.stk, mems, hc]; simp⟩
theorem ListRel.plain {l : List UInt8} {ms : List (List UInt8)} {st k : Nat} {q : Bool} (h : ListRel l ms st k q) (hk : k < l.length) (hc : l[k] ≠ 34) (h1 : (q && l[k] == 92) = false) (h2 : (!q && l[k] == 44) = false) : ListRel l ms st (k + 1) q :=
  ⟨h.le, by have := h.stk; omega, by have := h.many; omega, by
    rw [h.eq, List.drop_eq_getElem_cons hk, cur_snoc l st k hk h.stk, mems, if_neg (by simp), if_neg (by simpa using hc), if_neg (by simp [h1]), if_neg (by simp [h2])]⟩
theorem ListRel.comma {l : List UInt8} {ms : List (List UInt8)} {st k : Nat} (h : ListRel l ms st k false) (hk : k < l.length) (hc : l[k] = 44) : ListRel l (ms ++ addm ((l.drop st).take (k - st))) (k + 1) (k + 1) false :=
  ⟨by omega, Nat.le_refl _, by
    have := h.many
    rw [List.length_append]
    have : (addm ((l.drop st).take (k - st))).length ≤ 1 := by unfold addm; split <;> simp
    omega, by
    rw [h.eq, List.drop_eq_getElem_cons hk, mems, hc]; simp⟩
theorem ListRel.slash {l : List UInt8} {ms : List (List UInt8)} {st k : Nat} (h : ListRel l ms st k true) (hk : k < l.length) (hc : l[k] = 92) : ListRel l ms st (k + 2) true := by
  refine ⟨h.le, by have := h.stk; omega, by have := h.many; omega, ?_⟩
  have hs := h.stk
  rw [h.eq, List.drop_eq_getElem_cons hk, mems, if_neg (by simp), if_neg (by rw [hc]; decide), if_pos (by rw [hc]; decide)]
  by_cases h2 : k + 1 < l.length
  · rw [List.drop_eq_getElem_cons h2, mems, if_pos rfl, show k + 2 = (k + 1) + 1 from rfl, cur_snoc l st (k + 1) h2 (by omega), cur_snoc l st k hk hs]
  · have e1 : l.drop (k + 1) = [] := List.drop_eq_nil_of_le (by omega)
    have e2 : l.drop (k + 2) = [] := List.drop_eq_nil_of_le (by omega)
    have e3 : (l.drop st).take (k + 2 - st) = l.drop st := List.take_of_length_le (by rw [List.length_drop]; omega)
    have e4 : (l.drop st).take (k + 1 - st) = l.drop st := List.take_of_length_le (by rw [List.length_drop]; omega)
    rw [e1, e2, e3, ← cur_snoc l st k hk hs, e4]; rfl
theorem ListRel.slashLast {l : List UInt8} {ms : List (List UInt8)} {st k : Nat} (h : ListRel l ms st k true) (hk : k < l.length) (hl : l.length ≤ k + 1) (hc : l[k] = 92) : ListRel l ms st (k + 1) true := by
  refine ⟨h.le, by have := h.stk; omega, by have := h.many; omega, ?_⟩
  have hs := h.stk
  rw [h.eq, List.drop_eq_getElem_cons hk, mems, if_neg (by simp), if_neg (by rw [hc]; decide), if_pos (by rw [hc]; decide), cur_snoc l st k hk hs]
  have e1 : l.drop (k + 1) = [] := List.drop_eq_nil_of_le (by omega)
  rw [e1]; rfl
theorem ListRel.stop {l : List UInt8} {ms : List (List UInt8)} {st k : Nat} {q : Bool} (h : ListRel l ms st k q) (hk : l.length ≤ k) : list l = ms ++ addm (l.drop st) := by
  have hs := h.stk
  have := h.le
  rw [h.eq, List.drop_eq_nil_of_le hk, mems, List.take_of_length_le (by rw [List.length_drop]; omega)]

end Tx
end Go.Proofs.YtgbnelglhkfdfaaGreatDoor

namespace Go.Proofs.YtgbnelglhkfdfaaGreatDoor
open Go.RowKit

theorem tab_below {P : Program} {w w' : World} {name : String} {k : IntKind} {zs : List Int} (h : Lib.TabIs P w name k zs) (hb : Below w.heap.size w w') : Lib.TabIs P w' name k zs := by
  unfold Lib.TabIs World.var? at *
  cases hg : P.globalNamed name with
  | none => simp [hg] at h
  | some g =>
    simp only [hg, Option.bind_some] at h ⊢
    have hlt : g < w.heap.size := by
      rcases Nat.lt_or_ge g w.heap.size with h' | h'
      · exact h'
      · simp [Array.getElem?_eq_none h'] at h
    rw [hb.block g hlt]
    exact h
theorem below_drewN (w : World) (n : Nat) : Below w.heap.size w (w.drewN n) := ⟨rfl, rfl, rfl, Nat.le_refl _, fun _ _ => rfl⟩
theorem below_grow (w : World) (os : Array Obj) : Below w.heap.size w (Sort.grow w os) :=
  ⟨rfl, rfl, rfl, by simp [Sort.grow], fun k hk => by simp [Sort.grow, Array.getElem?_append_left hk]⟩

set_option maxHeartbeats 400000 in
theorem decimal_any (n : Int) (h0 : -9223372036854775808 ≤ n) (h1 : n ≤ 9223372036854775807) (w : World) (htab : Lib.TabIs Tryz.prog w "internal/strconv.uint64pow10" .u64 Lib.pow10Tab) :
    Calls Tryz.prog 20 #[.int .i64 n] w fun e w' => e = .returned (.string ⟨(Lib.itoa n).toArray⟩) ∧ Below w.heap.size w w' := by
  go_enter Tryz.func20, Tryz.ntmps20
  go_wp2_with fail
  refine (Tryz.strconv_Itoa n h0 h1 _ htab).mono ?_
  rintro e w1 ⟨rfl, k, os, hw⟩
  have hb : Below w.heap.size w w1 := by rw [hw]; exact below_two (below_drewN w k) (below_grow _ _)
  clear hw
  go_wp2
  go_ret
  exact ⟨rfl, hb⟩

/-- A slice of strings: the value v reads as the texts l in the world w. -/
def Strs (w : World) (v : Value) (l : List (List UInt8)) : Prop :=
  ∃ a cap, v = .slice a l.length cap ∧ ∀ j (hj : j < l.length), ∃ b o, a = some ⟨b, o, none⟩ ∧ w.cell? ⟨b, o + j, none⟩ = some (.string ⟨l[j].toArray⟩)
theorem Strs.head {w : World} {v : Value} {l : List (List UInt8)} (h : Strs w v l) (hl : 0 < l.length) : ∃ b o cap, v = .slice (some ⟨b, o, none⟩) l.length cap ∧ ∀ j (hj : j < l.length), w.cell? ⟨b, o + j, none⟩ = some (.string ⟨l[j].toArray⟩) := by
  obtain ⟨a, cap, rfl, hc⟩ := h
  obtain ⟨b, o, rfl, _⟩ := hc 0 hl
  refine ⟨b, o, cap, rfl, fun j hj => ?_⟩
  obtain ⟨b', o', e, h'⟩ := hc j hj
  cases e
  exact h'

theorem Tryz.info9 : (Tryz.prog.info? 9).map (fun i => (i.zero, i.size, i.bytes)) = some (some (.string ByteArray.empty), 1, 16) := by kernel_rfl
/-- The cells of texts. -/
def strCells (l : List (List UInt8)) : List Value := l.map fun m => .string ⟨m.toArray⟩

set_option maxHeartbeats 1000000 in
theorem addMember_any (B : Nat) (v : Value) (ms : List (List UInt8)) (p : ByteArray) (w : World) (hp : p.size ≤ maxLen) (hown : w.ownsRow B 9 1 v ms.length (strCells ms)) (hB : B ≤ w.heap.size) (hm : ms.length + 1 ≤ 8796093022208) :
    Calls Tryz.prog 111 #[v, .string p] w fun e w' => ∃ v', e = .returned v' ∧ w'.ownsRow B 9 1 v' (ms ++ Tx.addm p.data.toList).length (strCells (ms ++ Tx.addm p.data.toList)) ∧ Below B w w' := by
  obtain ⟨i0, hi, hz0, hz1, hz2⟩ := info_parts Tryz.info9
  by_cases he : (Tx.trim p.data.toList).isEmpty = true
  · go_enter Tryz.func111, Tryz.ntmps111
    go_wp2_with (go_at_call 98; refine (trim_any _ _ hp).mono ?_; rintro e w' ⟨rfl, rfl⟩)
    go_ret
    refine ⟨v, rfl, ?_, Below.refl _ _⟩
    rw [show Tx.addm p.data.toList = [] from by unfold Tx.addm; rw [if_pos he], List.append_nil]
    exact hown
  · replace he : (Tx.trim p.data.toList).isEmpty = false := by simpa using he
    go_enter Tryz.func111, Tryz.ntmps111
    go_wp2_with (first
      | (go_at_call 98; refine (trim_any _ _ hp).mono ?_; rintro e w' ⟨rfl, rfl⟩)
      | (at_builtin; refine wpList_append_own _ rfl _ _ 75 rfl B 9 i0 (.string ByteArray.empty) 1 16 Tryz.underlying75 hi hz0 hz1 hz2 rfl (by decide) _ _ _ rfl (hown.alloc _) ⟨_, 0, none⟩ 1 1 [.string ⟨(Tx.trim p.data.toList).toArray⟩] rfl rfl ?c1 ?c2 ?c3 ?c4 ?c5 ?_))
    case c1 =>
      intro j u hj
      match j, hj with
      | 0, hj => simp at hj; subst hj; simp [Addr.add]
    case c2 => intro u hu; simp at hu; subst hu; rfl
    case c3 => unfold maxLen; omega
    case c4 => omega
    case c5 => simp; omega
    · intro v' w1 hown' hgrow _
      have HG := hid hgrow
      have HO := hid hown'
      clear hgrow hown'
      go_wp2
      go_ret
      refine ⟨v', rfl, ?_, ?_⟩
      · rw [show Tx.addm p.data.toList = [Tx.trim p.data.toList] from by unfold Tx.addm; rw [if_neg (by simp [he])]]
        have := HO.out
        rw [List.length_append, strCells, List.map_append]
        exact this
      · exact ((Below.refl _ _).alloc hB _).grown HG.out (by simp; omega) (fun k hk => (hown.lt k hk).1)

end Go.Proofs.YtgbnelglhkfdfaaGreatDoor

namespace Go.Proofs.YtgbnelglhkfdfaaGreatDoor
namespace Tx

theorem itoa_lo (n : Int) (h0 : 0 ≤ n) (h : n < 10) : Lib.itoa n = [UInt8.ofNat (48 + n).toNat] := by
  obtain ⟨u, rfl⟩ := Int.eq_ofNat_of_zero_le h0
  rw [Lib.itoa_nonneg, Lib.decDigits_one (by omega)]
  congr 2
theorem itoa_hi (n : Int) (h : 10 ≤ n) : Lib.itoa n = Lib.itoa (n / 10) ++ [UInt8.ofNat (48 + n % 10).toNat] := by
  obtain ⟨u, rfl⟩ := Int.eq_ofNat_of_zero_le (by omega : 0 ≤ n)
  rw [Lib.itoa_nonneg, show ((u : Int) / 10) = ((u / 10 : Nat) : Int) by omega, Lib.itoa_nonneg, Lib.decDigits, dif_neg (by omega)]
  congr 3
theorem itoa_nlo (n : Int) (h : n < 0) (h' : -10 < n) : Lib.itoa n = 45 :: Lib.itoa (-n) := by
  obtain ⟨u, hu⟩ := Int.eq_ofNat_of_zero_le (by omega : 0 ≤ -n)
  obtain rfl : n = -(u : Int) := by omega
  rw [Lib.itoa_neg u (by omega), Int.neg_neg, Lib.itoa_nonneg]
theorem itoa_nhi (n : Int) (h : n ≤ -10) : Lib.itoa n = Lib.itoa (n.tdiv 10) ++ [UInt8.ofNat (48 - n.tmod 10).toNat] := by
  obtain ⟨u, hu⟩ := Int.eq_ofNat_of_zero_le (by omega : 0 ≤ -n)
  obtain rfl : n = -(u : Int) := by omega
  have e1 : (-(u : Int)).tdiv 10 = -((u / 10 : Nat) : Int) := by rw [Int.neg_tdiv]; rfl
  have e2 : (-(u : Int)).tmod 10 = -((u % 10 : Nat) : Int) := by rw [Int.neg_tmod]; rfl
  rw [e1, e2, Lib.itoa_neg u (by omega), Lib.itoa_neg (u / 10) (by omega), Lib.decDigits, dif_neg (by omega), List.cons_append]
  congr 4; omega
theorem itoa_le (n : Int) : ∀ m : Nat, n.natAbs < 10 ^ m → (Lib.itoa n).length ≤ m + 2 := by
  intro m h
  have hd : ∀ (m u : Nat), u < 10 ^ m → (Lib.decDigits u).length ≤ m + 1 := by
    intro m
    induction m with
    | zero => intro u hu; rw [Lib.decDigits_one (by omega)]; simp
    | succ m ih =>
      intro u hu
      by_cases hs : u < 10
      · rw [Lib.decDigits_one hs]; simp
      · rw [Lib.decDigits, dif_neg hs, List.length_append]
        have := ih (u / 10) (by rw [Nat.pow_succ] at hu; omega)
        simp; omega
  unfold Lib.itoa
  split
  · have := hd m n.natAbs h; simp; omega
  · have := hd m n.toNat (by omega); omega

/-! ### what a numeral reads as -/
theorem dgt_of (k : Nat) (h : k < 10) : dgt (((UInt8.ofNat (48 + k)).toNat : Nat) : Int) = k := by
  have e : (UInt8.ofNat (48 + k)).toNat = 48 + k := by simp; omega
  rw [e]; unfold dgt digC
  rw [if_pos (by simp; omega)]; omega
theorem digs_append (b : Int) (l r : List UInt8) : digs b (l ++ r) = (digs b l && digs b r) := by unfold digs allC; rw [List.all_append]
theorem decDigits_reads : ∀ (m u : Nat), u ≤ m → digs 10 (Lib.decDigits u) = true ∧ numv 10 (Lib.decDigits u) = u ∧ (Lib.decDigits u).isEmpty = false := by
  intro m
  induction m with
  | zero =>
    intro u hu
    obtain rfl : u = 0 := by omega
    rw [Lib.decDigits_one (by omega)]
    decide
  | succ m ih =>
    intro u hu
    by_cases hs : u < 10
    · rw [Lib.decDigits_one hs]
      have := dgt_of u hs
      refine ⟨?_, ?_, rfl⟩
      · unfold digs allC; simp only [List.all_cons, List.all_nil, Bool.and_true, this]; simp; omega
      · unfold numv; simp only [List.foldl_cons, List.foldl_nil, this]; omega
    · obtain ⟨h1, h2, _⟩ := ih (u / 10) (by omega)
      have hd := dgt_of (u % 10) (by omega)
      rw [Lib.decDigits, dif_neg hs]
      refine ⟨?_, ?_, by simp⟩
      · rw [digs_append, h1]; unfold digs allC; simp only [List.all_cons, List.all_nil, Bool.and_true, Bool.true_and, hd]; simp; omega
      · rw [numv_snoc, h2, hd]; omega
theorem numv_noughts (z : Nat) (l : List UInt8) : numv 10 (List.replicate z 48 ++ l) = numv 10 l := by
  induction z with
  | zero => rfl
  | succ z ih =>
    rw [List.replicate_succ, List.cons_append, ← ih]
    unfold numv
    rw [List.foldl_cons]
    rfl
theorem digs_noughts (z : Nat) : digs 10 (List.replicate z 48) = true := by
  unfold digs allC
  rw [List.all_eq_true]
  intro x hx
  obtain rfl := (List.mem_replicate.1 hx).2
  decide
/-- P1.8 -/
theorem num_itoa (n : Int) (h0 : 0 ≤ n) (h1 : n ≤ 9223372036854775807) (z : Nat) : num 10 (List.replicate z 48 ++ Lib.itoa n) = (n, 0) := by
  obtain ⟨u, rfl⟩ := Int.eq_ofNat_of_zero_le h0
  rw [Lib.itoa_nonneg]
  obtain ⟨hd, hn, he⟩ := decDigits_reads u u (Nat.le_refl _)
  unfold num
  rw [digs_append, digs_noughts, hd, numv_noughts, hn, if_neg (by simp; intro _ e; rw [e] at he; simp at he), if_neg (by rw [top_eq]; omega)]
theorem num_itoa_neg (n : Int) (h0 : n < 0) (z : Nat) : num 10 (List.replicate z 48 ++ Lib.itoa n) = (0, 10) := by
  obtain ⟨u, hu⟩ := Int.eq_ofNat_of_zero_le (by omega : 0 ≤ -n)
  obtain rfl : n = -(u : Int) := by omega
  rw [Lib.itoa_neg u (by omega)]
  unfold num
  have : digs 10 (45 :: Lib.decDigits u) = false := by
    unfold digs allC; rw [List.all_cons]; rfl
  rw [digs_append, this]; simp

end Tx
end Go.Proofs.YtgbnelglhkfdfaaGreatDoor

namespace Go.Proofs.YtgbnelglhkfdfaaGreatDoor
open Go.RowKit

theorem str_snoc (q : List UInt8) (c : UInt8) : (⟨q.toArray⟩ : ByteArray) ++ ⟨#[c]⟩ = ⟨(q ++ [c]).toArray⟩ := by
  apply ByteArray.ext; simp
theorem bcell {W w1 : World} (hb : Below W.heap.size W w1) : ∀ b o, b < W.heap.size → w1.cell? ⟨b, o, none⟩ = W.cell? ⟨b, o, none⟩ := fun b o h => hb.cell (p := ⟨b, o, none⟩) h
theorem one_back (x : Int) (h0 : 0 ≤ x) (h1 : x ≤ 255) (W : World) (b : Nat) (h : W.cell? ⟨b, 0, none⟩ = some (.int .u8 x)) :
    (convert 73 9 (.slice (some ⟨b, 0, none⟩) 1 1)).run Tryz.prog W = .ok (.string ⟨#[UInt8.ofNat x.toNat]⟩) W := by
  have hx : x = ((UInt8.ofNat x.toNat).toNat : Int) := by simp; omega
  refine run_convert_bytes_back W _ _ 5 ⟨b, 0, none⟩ 1 [UInt8.ofNat x.toNat] Tryz.underlying73 Tryz.underlying5 Tryz.underlying9 ?_
  intro j hj
  obtain rfl : j = 0 := by simpa using hj
  rw [show (⟨b, 0, none⟩ : Addr).add 0 = ⟨b, 0, none⟩ by simp [Addr.add], h]
  simp only [List.getElem_cons_zero]
  rw [← hx]
theorem one_new (x : Int) (h0 : 0 ≤ x) (h1 : x ≤ 255) (W : World) :
    (convert 73 9 (.slice (some ⟨W.heap.size, 0, none⟩) 1 1)).run Tryz.prog (W.alloc (.cells #[.int .u8 x] 5)) = .ok (.string ⟨#[UInt8.ofNat x.toNat]⟩) (W.alloc (.cells #[.int .u8 x] 5)) :=
  one_back x h0 h1 _ _ (by rw [World.cell?_alloc_mark]; rfl)

set_option maxHeartbeats 1000000 in
set_option maxRecDepth 20000 in
theorem rDecimal_lo (n : Int) (h0 : 0 ≤ n) (h : n < 10) (w : World) :
    Calls Tryz.prog 22 #[.int .i64 n] w fun e w' => e = .returned (.string ⟨(Lib.itoa n).toArray⟩) ∧ Below w.heap.size w w' := by
  have HF := hid (Tx.itoa_lo n h0 h)
  have hone := one_new (48 + n) (by omega) (by omega) w
  go_enter Tryz.func22, Tryz.ntmps22
  go_wp2
  go_ret
  exact ⟨ret_str (by rw [HF.out]), (Below.refl _ _).alloc (Nat.le_refl _) _⟩

set_option maxHeartbeats 1000000 in
set_option maxRecDepth 20000 in
theorem rDecimal_nlo (n : Int) (h0 : n < 0) (h : -10 < n) (w : World) :
    Calls Tryz.prog 22 #[.int .i64 n] w fun e w' => e = .returned (.string ⟨(Lib.itoa n).toArray⟩) ∧ Below w.heap.size w w' := by
  have HF := hid (Tx.itoa_nlo n h0 h)
  have HL := hid (Tx.itoa_lo (-n) (by omega) (by omega))
  go_enter Tryz.func22, Tryz.ntmps22
  go_wp2_with fail
  refine (rDecimal_lo (-n) (by omega) (by omega) _).mono ?_
  rintro e w1 ⟨rfl, hb1⟩
  rw [HL.out]
  go_wp2
  go_ret
  exact ⟨ret_str (by rw [HF.out, HL.out]; rfl), hb1⟩

set_option maxHeartbeats 1000000 in
set_option maxRecDepth 20000 in
theorem rDecimal_hi (n : Int) (h : 10 ≤ n) (hm : n ≤ 9223372036854775807) (w : World) (q : List UInt8) (hq : q.length ≤ 1000) (c : UInt8)
    (hc : (48 : Int) + n.tmod 10 = (c.toNat : Int)) (ih : Hid (∀ w, Calls Tryz.prog 22 #[.int .i64 (IntKind.i64.wrap (n.tdiv 10))] w fun e w' => e = .returned (.string ⟨q.toArray⟩) ∧ Below w.heap.size w w')) :
    Calls Tryz.prog 22 #[.int .i64 n] w fun e w' => e = .returned (.string ⟨(q ++ [c]).toArray⟩) ∧ Below w.heap.size w w' := by
  have hx : IntKind.u8.wrap (IntKind.i64.wrap (48 + n.tmod 10)) = (c.toNat : Int) := by
    have := c.toNat_lt
    rw [hc, IntKind.wrap_i64, IntKind.wrap_u8]; omega
  have hone : ∀ (W : World) (b : Nat), W.cell? ⟨b, 0, none⟩ = some (.int .u8 (c.toNat : Int)) → (convert 73 9 (.slice (some ⟨b, 0, none⟩) 1 1)).run Tryz.prog W = .ok (.string ⟨#[c]⟩) W := fun W b hb => by
    have := one_back (c.toNat : Int) (by omega) (by have := c.toNat_lt; omega) W b hb
    simpa using this
  clear hc
  go_enter Tryz.func22, Tryz.ntmps22
  go_wp2
  go_region_with (go_at_call 22; refine (ih.out _).mono ?_; rintro e w1 ⟨rfl, hb1⟩; have hcc := bcell hb1)
  all_goals go_wp2
  all_goals go_ret
  all_goals refine ⟨ret_str ?_, ?_⟩
  all_goals first
    | exact str_snoc q c
    | exact ((Below.refl _ _).drew.trans hb1).alloc hb1.size _
    | exact (((Below.refl _ w).alloc (Nat.le_refl _) _).drew).trans (hb1.mono (by simp))

set_option maxHeartbeats 1000000 in
set_option maxRecDepth 20000 in
theorem rDecimal_nhi (n : Int) (h : n ≤ -10) (hm : -9223372036854775808 ≤ n) (w : World) (q : List UInt8) (hq : q.length ≤ 1000) (c : UInt8)
    (hc : (48 : Int) - n.tmod 10 = (c.toNat : Int)) (ih : Hid (∀ w, Calls Tryz.prog 22 #[.int .i64 (IntKind.i64.wrap (n.tdiv 10))] w fun e w' => e = .returned (.string ⟨q.toArray⟩) ∧ Below w.heap.size w w')) :
    Calls Tryz.prog 22 #[.int .i64 n] w fun e w' => e = .returned (.string ⟨(q ++ [c]).toArray⟩) ∧ Below w.heap.size w w' := by
  have hx : IntKind.u8.wrap (IntKind.i64.wrap (48 - n.tmod 10)) = (c.toNat : Int) := by
    have := c.toNat_lt
    rw [hc, IntKind.wrap_i64, IntKind.wrap_u8]; omega
  have hone : ∀ (W : World) (b : Nat), W.cell? ⟨b, 0, none⟩ = some (.int .u8 (c.toNat : Int)) → (convert 73 9 (.slice (some ⟨b, 0, none⟩) 1 1)).run Tryz.prog W = .ok (.string ⟨#[c]⟩) W := fun W b hb => by
    have := one_back (c.toNat : Int) (by omega) (by have := c.toNat_lt; omega) W b hb
    simpa using this
  clear hc
  go_enter Tryz.func22, Tryz.ntmps22
  go_wp2
  go_region_with (go_at_call 22; refine (ih.out _).mono ?_; rintro e w1 ⟨rfl, hb1⟩; have hcc := bcell hb1)
  all_goals go_wp2
  all_goals go_ret
  all_goals refine ⟨ret_str ?_, ?_⟩
  all_goals first
    | exact str_snoc q c
    | exact ((Below.refl _ _).drew.trans hb1).alloc hb1.size _
    | exact (((Below.refl _ w).alloc (Nat.le_refl _) _).drew).trans (hb1.mono (by simp))

theorem wrap_id (x : Int) (h0 : -9223372036854775808 ≤ x) (h1 : x ≤ 9223372036854775807) : IntKind.i64.wrap x = x := by
  rw [IntKind.wrap_i64]; omega
theorem u8_of (x : Int) (h0 : 0 ≤ x) (h1 : x ≤ 255) : x = ((UInt8.ofNat x.toNat).toNat : Int) := by simp; omega
theorem rDecimal_all : ∀ (m : Nat) (n : Int), n.natAbs ≤ m → -9223372036854775808 ≤ n → n ≤ 9223372036854775807 → ∀ w : World,
    Calls Tryz.prog 22 #[.int .i64 n] w fun e w' => e = .returned (.string ⟨(Lib.itoa n).toArray⟩) ∧ Below w.heap.size w w' := by
  intro m
  induction m with
  | zero => intro n h _ _ w; exact rDecimal_lo n (by omega) (by omega) w
  | succ m ih =>
    intro n h h0 h1 w
    by_cases hn : n < 0
    · by_cases h10 : -10 < n
      · exact rDecimal_nlo n hn h10 w
      · have e1 : n.tdiv 10 = -((-n) / 10) := by rw [← Int.tdiv_eq_ediv_of_nonneg (by omega : 0 ≤ -n), Int.neg_tdiv, Int.neg_neg]
        have e2 : n.tmod 10 = -((-n) % 10) := by rw [← Int.tmod_eq_emod_of_nonneg (by omega : 0 ≤ -n), Int.neg_tmod, Int.neg_neg]
        rw [Tx.itoa_nhi n (by omega)]
        refine rDecimal_nhi n (by omega) h0 w (Lib.itoa (n.tdiv 10)) ?_ _ (u8_of _ (by omega) (by omega)) (hid ?_)
        · have := Tx.itoa_le (n.tdiv 10) 19 (by rw [e1]; omega); omega
        · rw [wrap_id _ (by omega) (by omega)]
          exact ih _ (by omega) (by omega) (by omega)
    · by_cases h10 : n < 10
      · exact rDecimal_lo n (by omega) h10 w
      · have e1 : n.tdiv 10 = n / 10 := Int.tdiv_eq_ediv_of_nonneg (by omega)
        have e2 : n.tmod 10 = n % 10 := Int.tmod_eq_emod_of_nonneg (by omega)
        rw [Tx.itoa_hi n (by omega), ← e1, ← e2]
        refine rDecimal_hi n (by omega) h1 w (Lib.itoa (n.tdiv 10)) ?_ _ (u8_of _ (by omega) (by omega)) (hid ?_)
        · have := Tx.itoa_le (n.tdiv 10) 19 (by rw [e1]; omega); omega
        · rw [wrap_id _ (by omega) (by omega)]
          exact ih _ (by omega) (by omega) (by omega)
theorem rDecimal_any (n : Int) (h0 : -9223372036854775808 ≤ n) (h1 : n ≤ 9223372036854775807) (w : World) :
    Calls Tryz.prog 22 #[.int .i64 n] w fun e w' => e = .returned (.string ⟨(Lib.itoa n).toArray⟩) ∧ Below w.heap.size w w' :=
  rDecimal_all n.natAbs n (Nat.le_refl _) h0 h1 w

end Go.Proofs.YtgbnelglhkfdfaaGreatDoor

namespace Go.Proofs.YtgbnelglhkfdfaaGreatDoor
open Go.RowKit

theorem own_lit19 (w : World) (e : TypeId) (xs : List Value) (n s : Nat) (hl : xs.length = n * s) (hn : n ≤ maxLen) (B : Nat) (hB : B ≤ w.heap.size) : (w.alloc (.cells xs.toArray e)).ownsRow B e s (.slice (some ⟨w.heap.size, 0, none⟩) n n) n xs :=
  ⟨hl, .inr ⟨w.heap.size, n, xs.toArray, rfl, hB, heap_alloc_last w _, Nat.le_refl _, hn, by simpa using hl, by rw [← hl]; simp⟩⟩
theorem fw_lit19 (w : World) (l : List Fd) (n : Nat) (hn : l.length = n) (h : n ≤ maxLen) : FW (w.alloc (.cells (fC l).toArray 42)) (.slice (some ⟨w.heap.size, 0, none⟩) n n) l :=
  FW.of_own (B := w.heap.size) (e := 42) (by rw [hn]; exact own_lit19 w 42 (fC l) n 2 (by rw [fC_length, hn]) h w.heap.size (Nat.le_refl _))
theorem fC_one19 (l : List Fd) : ∀ u ∈ fC l, u.oneCell' = true := by
  intro u hu
  unfold fC at hu
  obtain ⟨f, _, hf⟩ := List.mem_flatMap.1 hu
  simp [fV] at hf
  rcases hf with rfl | rfl <;> rfl
theorem wpl_appL19 {w : World} {ops : Array Oper} {rest : List Oper} {o : Oper} {a : Act} {Q : Exit → Act → World → Prop} (hgd : o.guard = none) (s x : Operand)
    (ho : o.op = .call { callee := .builtin .append, args := #[s, x], argTypes := #[22, 22] })
    (B : Nat) (v : Value) (n : Nat) (xs : List Value) (hs : a.eval s = v) (hown : w.ownsRow B 42 2 v n xs) (y : Value) (l : List Fd) (hx : a.eval x = y) (hy : FW w y l)
    (h63 : n + l.length ≤ 4398046511103) (hB : B ≤ w.heap.size)
    (h : ∀ v' w', w'.ownsRow B 42 2 v' (n + l.length) (xs ++ fC l) → w.grownBy w' v.ownBlock → wpList Tryz.prog ops Q rest (a.put o.dst v') w') :
    wpList Tryz.prog ops Q (o :: rest) a w := by
  obtain ⟨i0, hi0, hz0, hz1, hz2⟩ := minfo_parts infoF14
  rcases hy with ⟨rfl, rfl⟩ | ⟨ad, cap, rfl, hc, hcells⟩
  · refine wpList_append_own_none hgd s x 22 ho B 42 i0 2 Tryz.underlying22 hi0 v n xs hs hown hx ?_
    refine h v w ?_ ⟨rfl, rfl, rfl, Nat.le_refl _, fun _ _ _ => rfl⟩
    simpa [fC] using hown
  · refine wpList_append_own_at w hgd s x 22 ho B 42 i0 (.agg #[.string ⟨#[]⟩, .string ⟨#[]⟩]) 2 32 Tryz.underlying22 hi0 hz0 hz1 hz2 rfl (by decide) v n xs hs hown ad l.length cap (fC l) hx (fC_length l) (fun j u hj => (hcells j u hj).2) (fC_one19 l) (by unfold maxLen; omega) (by omega) hB ?_
    intro v' w' h1 h2 _ h4
    exact h v' w' h1 h2
theorem below_grown19 {B : Nat} {w0 w w' : World} {v : Value} {n : Nat} {xs : List Value} (hb : Below B w0 w) (hB : B ≤ w.heap.size) (ho : w.ownsRow B 42 2 v n xs) (hg : w.grownBy w' v.ownBlock) : Below B w0 w' :=
  hb.grown hg hB (fun k hk => (own_ty ho k hk).1)

theorem bl_alloc19 (w : World) (x : Obj) : Below w.heap.size w (w.alloc x) := (Below.refl _ _).alloc (Nat.le_refl _) _
theorem own_ge19 {w : World} {B : Nat} {e : TypeId} {s : Nat} {v : Value} {n : Nat} {xs : List Value} (h : w.ownsRow B e s v n xs) (j : Nat) (hj : v.ownBlock = some j) : B ≤ j := (own_ty h j hj).1
theorem own_base19 {w : World} {B B' : Nat} {e : TypeId} {s : Nat} {v : Value} {n : Nat} {xs : List Value} (h : w.ownsRow B e s v n xs) (hB : B' ≤ B) : w.ownsRow B' e s v n xs := by
  obtain ⟨h0, h1 | ⟨g, cap, cur, h1, h2, h3⟩⟩ := h
  · exact ⟨h0, .inl h1⟩
  · exact ⟨h0, .inr ⟨g, cap, cur, h1, Nat.le_trans hB h2, h3⟩⟩
theorem sizeRp19 : (Tryz.prog.info? 24).map (·.size) = some 4 := by kernel_rfl
theorem zeroRp19 : (Tryz.prog.info? 24).map (fun i => i.zero) = some (some (.agg #[.int .i64 0, .slice none 0 0, .string ⟨#[]⟩, .slice none 0 0])) := by kernel_rfl
theorem ldRp19 {w : World} {b : Nat} {x0 x1 x2 x3 : Value} (h : Ar w b 24 #[x0, x1, x2, x3]) : (loadVar 24 ⟨b, 0, none⟩).run Tryz.prog w = .ok (.agg #[x0, x1, x2, x3]) w :=
  run_loadVar_row (P := Tryz.prog) w b 24 24 _ (0, 0) _ h Tryz.underlying24 rfl sizeRp19

namespace Fs
/-- The field that says what kind a short answer is. -/
def fT : Fd := ⟨⟨#[99, 111, 110, 116, 101, 110, 116, 45, 116, 121, 112, 101]⟩, ⟨#[116, 101, 120, 116, 47, 112, 108, 97, 105, 110]⟩⟩
/-- A short answer's body. -/
def bd (s : Int) : List UInt8 := Lib.itoa s ++ [10]
end Fs

set_option maxHeartbeats 4000000 in
set_option maxRecDepth 20000 in
theorem rplain19 (s : Int) (s0 : -9223372036854775808 ≤ s) (s1 : s ≤ 9223372036854775807) (v : Value) (l : List Fd) (w : World) (h : FW w v l) (hl : l.length ≤ 1048576) :
    Calls Tryz.prog 9 #[.int .i64 s, v] w fun e w' => (∃ vo vc, e = .returned (.agg (rpC s (.slice vo (1 + l.length) vc) ⟨(Fs.bd s).toArray⟩ (.slice none 0 0))) ∧ w'.ownsRow w.heap.size 42 2 (.slice vo (1 + l.length) vc) (1 + l.length) (fC (Fs.fT :: l))) ∧ Below w.heap.size w w' := by
  obtain ⟨ao, cap, rfl⟩ := h.shape
  have H := hid' h
  have HD := hid' (fun W => rDecimal_any s s0 s1 W)
  have HL := hid' hl
  have HA := hid' (str_snoc (Lib.itoa s) 10)
  have hq : (Lib.itoa s).length ≤ 21 := Lib.itoa_length_le s s0 s1
  unfold rpC
  obtain ⟨n, hn⟩ : ∃ n, l.length = n := ⟨_, rfl⟩
  have HN := hid' hn
  rw [hn] at H ⊢
  clear h hl s0 s1 hn
  go_enter Tryz.func9, Tryz.ntmps9
  go_wp2_with (refine wpl_alloc 24 rfl rfl _ zeroRp19 ?_)
  intro rb w1 hrb ha1 hl1
  have HA1 := hid' ha1
  have HB1 := hid' hl1
  have HRB := hid' hrb
  clear ha1 hl1 hrb
  have HO0 : Hid ((w1.alloc (.cells (fC [Fs.fT]).toArray 42)).ownsRow w1.heap.size 42 2 (.slice (some ⟨w1.heap.size, 0, none⟩) 1 1) 1 (fC [Fs.fT])) := hid' (own_lit19 w1 _ _ 1 2 rfl (by decide) _ (Nat.le_refl _))
  have HB0 := hid' (bl_alloc19 w1 (.cells (fC [Fs.fT]).toArray 42))
  go_wp2_with (at_builtin; refine wpl_appL19 rfl _ _ rfl w1.heap.size (.slice (some ⟨w1.heap.size, 0, none⟩) 1 1) 1 (fC [Fs.fT]) rfl HO0.out _ l rfl ((H.out.keep HB1.out).keep HB0.out) (by have := HL.out; omega) HB0.out.size ?_; intro v2 w2 hown2 hgrow2; refine Hid.out ?_)
  refine hid' ?_
  have HB2 : Hid (Below w1.heap.size w1 w2) := hid' (below_grown19 HB0.out HB0.out.size HO0.out hgrow2)
  rw [← fC_append, HN.out] at hown2
  obtain ⟨v2o, v2c, hv2⟩ := own_shape hown2
  subst hv2
  have HO2 := hid' hown2
  clear hown2 hgrow2 HO0 HB0
  have HDC := hid' (HD.out w2)
  go_wp2_with (go_at_call 22; refine HDC.out.mono ?_; rintro e w3 ⟨rfl, hb3⟩; refine Hid.out ?_)
  refine hid' ?_
  have HB3 := hid' (below_two HB2.out hb3)
  have HO3 := hid' (own_same HO2.out (fun j hj => hb3.block j (own_lt HO2.out j hj)))
  have HA3 := hid' (HA1.out.keep HB3.out)
  have HLT := hid' HA1.out.lt
  clear hb3
  go_wp2_with (refine wpl_store 24 _ _ rfl rfl rb #[.int .i64 s, .slice v2o (1 + n) v2c, .string (⟨(Lib.itoa s).toArray⟩ ++ ⟨#[10]⟩), .slice none 0 0] (by kernel_rfl) (by kernel_rfl) _ _ HA3.out sizeRp19 rfl (by simp [Value.oneCell']) ?_)
  intro wf hwf huf
  go_wp2
  have hld := ldRp19 hwf
  refine bodyPost_ret (v := .agg #[.int .i64 s, .slice v2o (1 + n) v2c, .string (⟨(Lib.itoa s).toArray⟩ ++ ⟨#[10]⟩), .slice none 0 0]) (by simp [results, Tryz.results9, asAddr, hld]) rfl ⟨⟨v2o, v2c, ?_, ?_⟩, ?_⟩
  · rw [HA.out]; rfl
  · refine own_base19 (own_same HO3.out (fun j hj => huf.block j (fun e => ?_))) HB1.out.size
    subst e
    have h5 := own_ge19 HO3.out j hj
    have h6 := HLT.out
    omega
  · exact (below_two HB1.out HB3.out).trans (huf.below HRB.out)

end Go.Proofs.YtgbnelglhkfdfaaGreatDoor

namespace Go.Proofs.YtgbnelglhkfdfaaGreatDoor
open Go.RowKit

set_option maxHeartbeats 1000000 in
set_option maxRecDepth 20000 in
theorem num19_lo (n : Int) (h0 : 0 ≤ n) (h : n < 10) (w : World) :
    Calls Tryz.prog 16 #[.int .i64 n] w fun e w' => e = .returned (.string ⟨(Lib.itoa n).toArray⟩) ∧ Below w.heap.size w w' := by
  have HF := hid (Tx.itoa_lo n h0 h)
  have hone := one_new (48 + n) (by omega) (by omega) w
  go_enter Tryz.func16, Tryz.ntmps16
  go_wp2
  go_ret
  exact ⟨ret_str (by rw [HF.out]), (Below.refl _ _).alloc (Nat.le_refl _) _⟩

set_option maxHeartbeats 1000000 in
set_option maxRecDepth 20000 in
theorem num19_hi (n : Int) (h : 10 ≤ n) (hm : n ≤ 9223372036854775807) (w : World) (q : List UInt8) (hq : q.length ≤ 1000) (c : UInt8)
    (ih : Hid (∀ w, Calls Tryz.prog 16 #[.int .i64 (n / 10)] w fun e w' => e = .returned (.string ⟨q.toArray⟩) ∧ Below w.heap.size w w'))
    (ih2 : Hid (∀ w, Calls Tryz.prog 16 #[.int .i64 (n % 10)] w fun e w' => e = .returned (.string ⟨#[c]⟩) ∧ Below w.heap.size w w')) :
    Calls Tryz.prog 16 #[.int .i64 n] w fun e w' => e = .returned (.string ⟨(q ++ [c]).toArray⟩) ∧ Below w.heap.size w w' := by
  have HS := hid' (str_snoc q c)
  go_enter Tryz.func16, Tryz.ntmps16
  go_wp2_with fail
  refine (ih.out _).mono ?_
  rintro e w1 ⟨rfl, hb1⟩
  have HB1 := hid' hb1
  clear hb1
  go_wp2_with fail
  refine (ih2.out _).mono ?_
  rintro e w2 ⟨rfl, hb2⟩
  have HB2 := hid' (below_two HB1.out hb2)
  clear hb2
  go_wp2
  go_ret
  exact ⟨ret_str HS.out, HB2.out⟩

theorem num19 : ∀ (m : Nat) (n : Int), n.natAbs ≤ m → 0 ≤ n → n ≤ 9223372036854775807 → ∀ w : World,
    Calls Tryz.prog 16 #[.int .i64 n] w fun e w' => e = .returned (.string ⟨(Lib.itoa n).toArray⟩) ∧ Below w.heap.size w w' := by
  intro m
  induction m with
  | zero => intro n h _ _ w; exact num19_lo n (by omega) (by omega) w
  | succ m ih =>
    intro n h h0 h1 w
    by_cases h10 : n < 10
    · exact num19_lo n (by omega) h10 w
    · rw [Tx.itoa_hi n (by omega)]
      refine num19_hi n (by omega) h1 w (Lib.itoa (n / 10)) ?_ _ (hid ?_) (hid ?_)
      · have := Tx.itoa_le (n / 10) 19 (by omega); omega
      · exact ih _ (by omega) (by omega) (by omega)
      · intro W
        have := num19_lo (n % 10) (by omega) (by omega) W
        rw [Tx.itoa_lo _ (by omega) (by omega)] at this
        exact this
theorem num19_any (n : Int) (h0 : 0 ≤ n) (h1 : n ≤ 9223372036854775807) (w : World) :
    Calls Tryz.prog 16 #[.int .i64 n] w fun e w' => e = .returned (.string ⟨(Lib.itoa n).toArray⟩) ∧ Below w.heap.size w w' := num19 n.natAbs n (Nat.le_refl _) h0 h1 w

end Go.Proofs.YtgbnelglhkfdfaaGreatDoor
