/-
  (*huff.book).symbol, by its contract.
-/
import Derived.Test.YtmkkhfkfjmfdcaaGreatHuffE
import Derived.Test.YtmkkhfkfjmfdcaaGreatHuffQ
import Derived.Deep.QuietTactic
import Derived.BigQuiet
namespace Go.Proofs.YtmkkhfkfjmfdcaaGreat
namespace Hf
theorem book_bd : (List.range 31).all (fun n => decide (0 ≤ fsts.getD n 0) && decide (fsts.getD n 0 < 1073741824) && decide (0 ≤ cnt.getD n 0) && decide (0 ≤ stas.getD n 0) && decide (stas.getD n 0 + cnt.getD n 0 ≤ 257)) = true := by decide +kernel
theorem book_at (n : Nat) (h : n < 31) : 0 ≤ fsts.getD n 0 ∧ fsts.getD n 0 < 1073741824 ∧ 0 ≤ cnt.getD n 0 ∧ 0 ≤ stas.getD n 0 ∧ stas.getD n 0 + cnt.getD n 0 ≤ 257 := by
  have := List.all_eq_true.1 book_bd n (List.mem_range.2 h)
  simp only [Bool.and_eq_true, decide_eq_true_eq] at this
  obtain ⟨⟨⟨⟨h1, h2⟩, h3⟩, h4⟩, h5⟩ := this
  exact ⟨h1, h2, h3, h4, h5⟩
theorem ords_all : ords.all (fun x => decide (0 ≤ x) && decide (x < 257)) = true := by decide +kernel
theorem all_getD (l : List Int) (p : Int → Bool) (h : l.all p = true) (j : Nat) (hj : j < l.length) : p (l.getD j 0) = true := by
  rw [List.getD_eq_getElem?_getD, List.getElem?_eq_getElem hj, Option.getD_some]
  exact List.all_eq_true.1 h _ (List.getElem_mem hj)
theorem ords_nonneg (j : Nat) (h : j < 257) : 0 ≤ ords.getD j 0 := by
  have := all_getD ords _ ords_all j (by rw [ords_length]; exact h)
  simp only [Bool.and_eq_true, decide_eq_true_eq] at this
  exact this.1
end Hf
open Go.RowKit

theorem getD_some (l : List Int) (i : Nat) (h : i < l.length) : l[i]? = some (l.getD i 0) := by rw [List.getD_eq_getElem?_getD, List.getElem?_eq_getElem h]; rfl

set_option maxHeartbeats 1000000 in
set_option maxRecDepth 100000 in
theorem symbol_none (b c n : Nat) (hn : n < 31) (hc : c < 2147483648) (hs : Hf.sym c n = none) (w : World) (ha : Ar w b 150 (book Hf.cnt Hf.fsts Hf.stas Hf.ords)) :
    Calls Tryz.prog 101 #[.pointer (some ⟨b, 0, none⟩), .int .u64 (c : Int), .int .i64 (n : Int)] w fun e w' => e = .returned (.tuple #[.int .i64 0, .bool false]) ∧ w' = w := by
  obtain ⟨f0, f1, t0, s0, st⟩ := Hf.book_at n hn
  have hcf : w.cell? ⟨b, 31 + n, none⟩ = some (.int .u64 (Hf.fsts.getD n 0)) := ha.cell _ _ (bookL_f _ _ _ _ n _ _ (by rw [cnt_length]) (getD_some _ _ (by rw [Hf.fsts_length]; exact hn)))
  have hcc : w.cell? ⟨b, n, none⟩ = some (.int .i64 (Hf.cnt.getD n 0)) := ha.cell _ _ (bookL_c _ _ _ _ n _ (getD_some _ _ (by rw [cnt_length]; exact hn)))
  unfold Hf.sym at hs
  have hs' : (c : Int) - Hf.fsts.getD n 0 < 0 ∨ Hf.cnt.getD n 0 ≤ (c : Int) - Hf.fsts.getD n 0 := by
    by_cases h : (c : Int) - Hf.fsts.getD n 0 < 0 ∨ Hf.cnt.getD n 0 ≤ (c : Int) - Hf.fsts.getD n 0
    · exact h
    · rw [if_neg h] at hs; cases hs
  generalize Hf.fsts.getD n 0 = f at hs' f0 f1 hcf
  generalize Hf.cnt.getD n 0 = t at hs' t0 st hcc
  have hn2 : (n : Int) < 31 := by omega
  clear hs ha st s0
  rcases Int.lt_or_le ((c : Int) - f) 0 with h | h
  · go_enter Tryz.func101, Tryz.ntmps101
    go_wp2
    go_ret2
    exact ⟨rfl, rfl⟩
  · have h2 : t ≤ (c : Int) - f := by omega
    clear hs'
    go_enter Tryz.func101, Tryz.ntmps101
    go_wp2
    go_ret2
    exact ⟨rfl, rfl⟩

set_option maxHeartbeats 1000000 in
set_option maxRecDepth 100000 in
theorem symbol_some (b c n x : Nat) (hn : n < 31) (hc : c < 2147483648) (hs : Hf.sym c n = some x) (w : World) (ha : Ar w b 150 (book Hf.cnt Hf.fsts Hf.stas Hf.ords)) :
    Calls Tryz.prog 101 #[.pointer (some ⟨b, 0, none⟩), .int .u64 (c : Int), .int .i64 (n : Int)] w fun e w' => e = .returned (.tuple #[.int .i64 (x : Int), .bool true]) ∧ Below w.heap.size w w' := by
  obtain ⟨f0, f1, t0, s0, st⟩ := Hf.book_at n hn
  have hcf : w.cell? ⟨b, 31 + n, none⟩ = some (.int .u64 (Hf.fsts.getD n 0)) := ha.cell _ _ (bookL_f _ _ _ _ n _ _ (by rw [cnt_length]) (getD_some _ _ (by rw [Hf.fsts_length]; exact hn)))
  have hcc : w.cell? ⟨b, n, none⟩ = some (.int .i64 (Hf.cnt.getD n 0)) := ha.cell _ _ (bookL_c _ _ _ _ n _ (getD_some _ _ (by rw [cnt_length]; exact hn)))
  have hcs : w.cell? ⟨b, 62 + n, none⟩ = some (.int .i64 (Hf.stas.getD n 0)) := ha.cell _ _ (bookL_s _ _ _ _ n _ _ (by rw [cnt_length, Hf.fsts_length]; omega) (getD_some _ _ (by rw [Hf.stas_length]; exact hn)))
  unfold Hf.sym at hs
  have hs' : ¬ ((c : Int) - Hf.fsts.getD n 0 < 0 ∨ Hf.cnt.getD n 0 ≤ (c : Int) - Hf.fsts.getD n 0) := by
    intro h
    rw [if_pos h] at hs; cases hs
  rw [if_neg hs'] at hs
  have hx := Option.some.inj hs
  generalize Hf.fsts.getD n 0 = f at hs' f0 f1 hcf hx
  generalize Hf.cnt.getD n 0 = t at hs' t0 st hcc
  generalize Hf.stas.getD n 0 = s at hcs hx st s0
  obtain ⟨j, hj⟩ : ∃ j : Nat, s + ((c : Int) - f) = (j : Int) := ⟨(s + ((c : Int) - f)).toNat, by omega⟩
  rw [hj, Int.toNat_natCast] at hx
  have hj2 : (j : Int) < 257 := by omega
  have hco : w.cell? ⟨b, 93 + j, none⟩ = some (.int .i64 (Hf.ords.getD j 0)) := ha.cell _ _ (bookL_o _ _ _ _ j _ _ (by rw [cnt_length, Hf.fsts_length, Hf.stas_length]; omega) (getD_some _ _ (by rw [Hf.ords_length]; omega)))
  have hox : Hf.ords.getD j 0 = (x : Int) := by
    have hm : 0 ≤ Hf.ords.getD j 0 := Hf.ords_nonneg j (by omega)
    omega
  rw [hox] at hco
  have hn2 : (n : Int) < 31 := by omega
  have h1 : 0 ≤ (c : Int) - f := by omega
  have h2 : (c : Int) - f < t := by omega
  clear hs ha hx hs' hox
  go_enter Tryz.func101, Tryz.ntmps101
  go_wp2
  go_quiet (fail)
  go_wp2
  go_ret2
  exact ⟨rfl, ⟨rfl, rfl, rfl, Nat.le_refl _, fun _ _ => rfl⟩⟩

end Go.Proofs.YtmkkhfkfjmfdcaaGreat
