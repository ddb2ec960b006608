/-
  The lengths of the symbols and what is made of them: the tables, as plain lists.
-/
import Derived.WalkKit
namespace Go.Proofs.YtmkkhfkfjmfdcaaGreat
namespace Hf

def rows : List Int := [
  13, 23, 28, 28, 28, 28, 28, 28, 28, 24, 30, 28, 28, 30, 28, 28, 28, 28, 28, 28, 28, 28, 30, 28, 28, 28, 28, 28, 28, 28, 28, 28,
  6, 10, 10, 12, 13, 6, 8, 11, 10, 10, 8, 11, 8, 6, 6, 6, 5, 5, 5, 6, 6, 6, 6, 6, 6, 6, 7, 8, 15, 6, 12, 10,
  13, 6, 7, 7, 7, 7, 7, 7, 7, 7, 7, 7, 7, 7, 7, 7, 7, 7, 7, 7, 7, 7, 7, 7, 8, 7, 8, 13, 19, 13, 14, 6,
  15, 5, 6, 5, 6, 5, 6, 6, 6, 5, 7, 7, 6, 6, 6, 5, 6, 7, 6, 5, 5, 6, 7, 7, 7, 7, 7, 15, 11, 14, 13, 28,
  20, 22, 20, 20, 22, 22, 22, 23, 22, 23, 23, 23, 23, 23, 24, 23, 24, 24, 22, 23, 24, 23, 23, 23, 23, 21, 22, 23, 22, 23, 23, 24,
  22, 21, 20, 22, 22, 23, 23, 21, 23, 22, 22, 24, 21, 22, 23, 23, 21, 21, 22, 21, 23, 22, 23, 23, 20, 22, 22, 22, 23, 22, 22, 23,
  26, 26, 20, 19, 22, 23, 22, 25, 26, 26, 26, 27, 27, 26, 24, 25, 19, 21, 26, 27, 27, 26, 27, 24, 21, 21, 26, 26, 28, 27, 27, 27,
  20, 24, 20, 21, 22, 21, 21, 23, 22, 22, 25, 25, 24, 24, 26, 23, 26, 27, 26, 26, 27, 27, 27, 27, 27, 28, 27, 27, 27, 27, 27, 26]
def lens : List Int := rows ++ [30]
theorem lens_length : lens.length = 257 := by decide +kernel
theorem rows_length : rows.length = 256 := by decide +kernel

/-- The rows of the table. -/
def row (i : Nat) : List Int := (rows.drop (32 * i)).take 32
theorem rows_bd : rows.all (fun b => decide (5 ≤ b) && decide (b ≤ 30)) = true := by decide +kernel
theorem lens_bd : lens.all (fun b => decide (5 ≤ b) && decide (b ≤ 30)) = true := by decide +kernel
theorem rows_at (k : Nat) (h : k < 256) : ∃ v, rows[k]? = some v ∧ 5 ≤ v ∧ v ≤ 30 := by
  have hk : k < rows.length := by rw [rows_length]; exact h
  have := List.all_eq_true.1 rows_bd rows[k] (List.getElem_mem hk)
  simp only [Bool.and_eq_true, decide_eq_true_eq] at this
  exact ⟨_, List.getElem?_eq_getElem hk, this⟩
theorem lens_at (k : Nat) (h : k < 257) : ∃ v, lens[k]? = some v ∧ 5 ≤ v ∧ v ≤ 30 := by
  have hk : k < lens.length := by rw [lens_length]; exact h
  have := List.all_eq_true.1 lens_bd lens[k] (List.getElem_mem hk)
  simp only [Bool.and_eq_true, decide_eq_true_eq] at this
  exact ⟨_, List.getElem?_eq_getElem hk, this⟩

/-- A list copied over another one, up to a place. -/
def over (r z : List Int) (k : Nat) : List Int := r.take k ++ z.drop k
theorem over_step (r z : List Int) (k : Nat) (hz : k < z.length) (v : Int) (hv : r[k]? = some v) : over r z (k + 1) = (over r z k).set k v := by
  have hk : k < r.length := (List.getElem?_eq_some_iff.1 hv).1
  have hv' : r[k] = v := by rw [List.getElem?_eq_getElem hk] at hv; exact Option.some.inj hv
  unfold over
  have h1 : (r.take k).length = k := by simp; omega
  rw [List.set_append_right _ _ (by omega), h1, Nat.sub_self, ← List.take_append_getElem hk, hv', List.drop_eq_getElem_cons hz]
  simp only [List.set_cons_zero, List.append_assoc, List.cons_append, List.nil_append]
theorem over_length (r z : List Int) (k : Nat) (hr : k ≤ r.length) (hz : k ≤ z.length) : (over r z k).length = z.length := by
  simp [over]; omega
def zero31 : List Int := List.replicate 31 0
theorem zero31_length : zero31.length = 31 := by decide +kernel
def zero257 : List Int := List.replicate 257 0
theorem zero257_length : zero257.length = 257 := by decide +kernel
/-- The lengths ahead of the loop that lays them. -/
def len0 : List Int := List.replicate 256 0 ++ [30]
theorem len0_length : len0.length = 257 := by decide +kernel
def lenTo (k : Nat) : List Int := over rows len0 k
theorem lenTo_zero : lenTo 0 = len0 := by simp [lenTo, over]
theorem lenTo_all : lenTo 256 = lens := by decide +kernel
theorem lenTo_length (k : Nat) (h : k ≤ 256) : (lenTo k).length = 257 := by rw [lenTo, over_length _ _ _ (by rw [rows_length]; exact h) (by rw [len0_length]; omega), len0_length]
theorem lenTo_step (k : Nat) (h : k < 256) (v : Int) (hv : rows[k]? = some v) : lenTo (k + 1) = (lenTo k).set k v := over_step _ _ _ (by rw [len0_length]; omega) v hv

/-- One more at a place. -/
def bump (k : IntKind) (l : List Int) (i : Nat) : List Int := l.set i (k.wrap (l.getD i 0 + 1))
/-- How many symbols have each length, of the first so many. -/
def cntTo (k : Nat) : List Int := (lens.take k).foldl (fun l b => bump .i64 l b.toNat) zero31
theorem cntTo_step (k : Nat) (v : Int) (hv : lens[k]? = some v) : cntTo (k + 1) = bump .i64 (cntTo k) v.toNat := by
  unfold cntTo
  rw [List.take_add_one, hv]
  simp [List.foldl_append]
theorem bump_length (k : IntKind) (l : List Int) (i : Nat) : (bump k l i).length = l.length := by simp [bump]
theorem fold_bump_length (k : IntKind) (bs : List Int) (l : List Int) : (bs.foldl (fun l b => bump k l b.toNat) l).length = l.length := by
  induction bs generalizing l with
  | nil => rfl
  | cons b r ih => rw [List.foldl_cons, ih, bump_length]
theorem cntTo_length (k : Nat) : (cntTo k).length = 31 := by
  unfold cntTo; rw [fold_bump_length, zero31_length]
def cnt : List Int := [0, 0, 0, 0, 0, 10, 26, 32, 6, 0, 5, 3, 2, 6, 2, 3, 0, 0, 0, 3, 8, 13, 26, 29, 12, 4, 15, 19, 29, 0, 4]
theorem cntTo_all : cntTo 257 = cnt := by decide +kernel

/-- The first codes of the first so many lengths. -/
def fstTo : Nat → List Int
  | 0 => zero31
  | k + 1 => (fstTo k).set (k + 1) (IntKind.u64.wrap (IntKind.u64.wrap ((fstTo k).getD k 0 + IntKind.u64.wrap (cnt.getD k 0)) * 2))
theorem fstTo_length (k : Nat) : (fstTo k).length = 31 := by
  induction k with
  | zero => exact zero31_length
  | succ k ih => simp [fstTo, ih]
def fsts : List Int := fstTo 30
/-- The places of the first ones, likewise. -/
def staTo : Nat → List Int
  | 0 => zero31
  | k + 1 => (staTo k).set (k + 1) (IntKind.i64.wrap ((staTo k).getD k 0 + cnt.getD k 0))
theorem staTo_length (k : Nat) : (staTo k).length = 31 := by
  induction k with
  | zero => exact zero31_length
  | succ k ih => simp [staTo, ih]
def stas : List Int := staTo 30

/-- The next codes, after so many symbols. -/
def nxtTo (k : Nat) : List Int := (lens.take k).foldl (fun l b => bump .u64 l b.toNat) fsts
theorem nxtTo_step (k : Nat) (v : Int) (hv : lens[k]? = some v) : nxtTo (k + 1) = bump .u64 (nxtTo k) v.toNat := by
  unfold nxtTo
  rw [List.take_add_one, hv]
  simp [List.foldl_append]
theorem nxtTo_length (k : Nat) : (nxtTo k).length = 31 := by
  unfold nxtTo; rw [fold_bump_length, fsts, fstTo_length]
/-- What lies at each symbol's length when its turn comes. -/
def runs (kd : IntKind) : List Int → List Int → List Int
  | [], _ => []
  | b :: r, l => l.getD b.toNat 0 :: runs kd r (bump kd l b.toNat)
theorem runs_at (kd : IntKind) (bs : List Int) (l : List Int) (k : Nat) (b : Int) (h : bs[k]? = some b) :
    (runs kd bs l)[k]? = some (((bs.take k).foldl (fun l b => bump kd l b.toNat) l).getD b.toNat 0) := by
  induction bs generalizing l k with
  | nil => simp at h
  | cons c r ih =>
    cases k with
    | zero => simp at h; subst h; simp [runs]
    | succ k => simp only [List.getElem?_cons_succ] at h; simp only [runs, List.getElem?_cons_succ, List.take_succ_cons, List.foldl_cons]; exact ih _ _ h
/-- The codes. -/
def cods : List Int := runs .u64 lens fsts
theorem cods_length : cods.length = 257 := by decide +kernel
theorem cods_at (k : Nat) (b : Int) (h : lens[k]? = some b) : cods[k]? = some ((nxtTo k).getD b.toNat 0) := runs_at .u64 lens fsts k b h
def codTo (k : Nat) : List Int := over cods zero257 k
theorem codTo_zero : codTo 0 = zero257 := by simp [codTo, over]
theorem codTo_all : codTo 257 = cods := by decide +kernel
theorem codTo_length (k : Nat) (h : k ≤ 257) : (codTo k).length = 257 := by rw [codTo, over_length _ _ _ (by rw [cods_length]; exact h) (by rw [zero257_length]; exact h), zero257_length]
theorem codTo_step (k : Nat) (h : k < 257) (v : Int) (hv : cods[k]? = some v) : codTo (k + 1) = (codTo k).set k v := over_step _ _ _ (by rw [zero257_length]; exact h) v hv
/-- The next places, and the order. -/
def plcTo (k : Nat) : List Int := (lens.take k).foldl (fun l b => bump .i64 l b.toNat) stas
theorem plcTo_step (k : Nat) (v : Int) (hv : lens[k]? = some v) : plcTo (k + 1) = bump .i64 (plcTo k) v.toNat := by
  unfold plcTo
  rw [List.take_add_one, hv]
  simp [List.foldl_append]
theorem plcTo_length (k : Nat) : (plcTo k).length = 31 := by
  unfold plcTo; rw [fold_bump_length, stas, staTo_length]
/-- The places of the symbols. -/
def plcs : List Int := runs .i64 lens stas
theorem plcs_length : plcs.length = 257 := by decide +kernel
theorem plcs_at (k : Nat) (b : Int) (h : lens[k]? = some b) : plcs[k]? = some ((plcTo k).getD b.toNat 0) := runs_at .i64 lens stas k b h
theorem plcs_bd : plcs.all (fun b => decide (0 ≤ b) && decide (b < 257)) = true := by decide +kernel
theorem plc_at (k : Nat) (h : k < 257) : ∃ p : Nat, plcs[k]? = some (p : Int) ∧ p < 257 := by
  have hk : k < plcs.length := by rw [plcs_length]; exact h
  have := List.all_eq_true.1 plcs_bd plcs[k] (List.getElem_mem hk)
  simp only [Bool.and_eq_true, decide_eq_true_eq] at this
  exact ⟨plcs[k].toNat, by rw [List.getElem?_eq_getElem hk]; congr 1; omega, by omega⟩
def ordTo : Nat → List Int
  | 0 => zero257
  | k + 1 => (ordTo k).set (plcs.getD k 0).toNat k
theorem ordTo_length (k : Nat) : (ordTo k).length = 257 := by
  induction k with
  | zero => exact zero257_length
  | succ k ih => simp [ordTo, ih]
def ords : List Int := ordTo 257
theorem ords_length : ords.length = 257 := ordTo_length 257
theorem stas_length : stas.length = 31 := staTo_length 30
theorem fsts_length : fsts.length = 31 := fstTo_length 30

end Hf
end Go.Proofs.YtmkkhfkfjmfdcaaGreat
