/-
  Small rows of bytes, cuts and joins of texts.
-/
import Derived.Test.YtmkkhfkfjmfdcaaGreatHuffW
import Derived.Test.YtmkkhfkfjmfdcaaGreatHpPl
import Derived.Great.BuildSlice
import Derived.Laws.OwnMore
import Derived.Laws.Bits128
namespace Go.Proofs.YtmkkhfkfjmfdcaaGreat
open Go.RowKit
namespace Pm

theorem cut_ends (c : List UInt8) (n : Nat) : (⟨c.toArray⟩ : ByteArray).extract 0 n = ⟨(c.take n).toArray⟩ := by
  apply ByteArray.ext
  simp [ByteArray.data_extract]
theorem cut_mid (c : List UInt8) (m n : Nat) : (⟨c.toArray⟩ : ByteArray).extract m n = ⟨((c.drop m).take (n - m)).toArray⟩ := by
  apply ByteArray.ext
  simp [ByteArray.data_extract]
theorem str_cat (a b : List UInt8) : (⟨a.toArray⟩ : ByteArray) ++ ⟨b.toArray⟩ = ⟨(a ++ b).toArray⟩ := by
  apply ByteArray.ext; simp
theorem one_string (w : World) (x : UInt8) : (convert 57 9 (.slice (some ⟨w.heap.size, 0, none⟩) 1 1)).run Tryz.prog (w.alloc (.cells #[.int .u8 (x.toNat : Int)] 5)) = .ok (.string ⟨#[x]⟩) (w.alloc (.cells #[.int .u8 (x.toNat : Int)] 5)) := by
  refine run_convert_bytes_back _ _ _ 5 ⟨w.heap.size, 0, none⟩ 1 [x] Tryz.underlying57 Tryz.underlying5 Tryz.underlying9 fun j hj => ?_
  obtain rfl : j = 0 := by simpa using hj
  simp [Addr.add]
theorem str_nil (w : World) : (convert 57 9 (.slice none 0 0)).run Tryz.prog w = .ok (.string ⟨#[]⟩) w := by kernel_rfl
theorem own_str {w : World} {B n : Nat} {v : Value} {l : List UInt8} (h : w.ownsRow B 5 1 v n (Lib.byteCells l)) (hn : l.length = n) : (convert 57 9 v).run Tryz.prog w = .ok (.string ⟨l.toArray⟩) w := by
  subst hn
  rcases h.2 with ⟨rfl, hn⟩ | ⟨g, cap, cur, rfl, _⟩
  · obtain rfl := List.eq_nil_of_length_eq_zero hn
    exact str_nil w
  · refine run_convert_bytes_back w _ _ 5 ⟨g, 0, none⟩ cap l Tryz.underlying57 Tryz.underlying5 Tryz.underlying9 fun j hj => ?_
    exact h.cells (g := g) rfl j _ (by rw [Lib.byteCells, List.getElem?_map, List.getElem?_eq_getElem hj]; rfl)
theorem grown_alloc {w : World} {o : Obj} {w' : World} {row : Option Nat} (h : (w.alloc o).grownBy w' row) : w.grownBy w' row :=
  ⟨h.os, h.tape, h.output, Nat.le_trans (by simp) h.size, fun k hk hne => by rw [h.block k (by simp; omega) hne]; exact Lib.alloc_old w _ k hk⟩
theorem one_new (w : World) (t : TypeId) (x : Value) : ∀ j u, ([x] : List Value)[j]? = some u → (w.alloc (.cells #[x] t)).cell? ((⟨w.heap.size, 0, none⟩ : Addr).add j) = some u := by
  intro j u hj
  match j, hj with
  | 0, hj => simp at hj; subst hj; simp [Addr.add]
theorem grown_below {w w' : World} {B n : Nat} {e : TypeId} {v : Value} {xs : List Value} (h : w.ownsRow B e 1 v n xs) (hg : w.grownBy w' v.ownBlock) (hB : B ≤ w.heap.size) : Below B w w' :=
  (Below.refl B w).grown hg hB (fun k hk => (h.lt k hk).1)
theorem byteCells_snoc (l : List UInt8) (x : UInt8) : Lib.byteCells (l ++ [x]) = Lib.byteCells l ++ [.int .u8 (x.toNat : Int)] := by simp [Lib.byteCells]
theorem own_one (w : World) (x : UInt8) : (w.alloc (.cells #[.int .u8 (x.toNat : Int)] 5)).ownsRow w.heap.size 5 1 (.slice (some ⟨w.heap.size, 0, none⟩) 1 1) 1 (Lib.byteCells [x]) :=
  World.ownsRow_lit w #[.int .u8 (x.toNat : Int)] 1 (Nat.le_refl _) (by decide) rfl

theorem wraps_i64 (n : Int) (h₀ : 0 ≤ n) (h₁ : n < 2 ^ 62) : IntKind.i64.wrap n = n := by rw [IntKind.wrap_i64]; omega
/-- The lowest bits. -/
theorem mask_i64 (x b o : Nat) (hx : x < 256) (hb : b ≤ 8) (ho : 2 ^ b - 1 = o) : Go.bits .and .i64 (x : Int) (o : Int) = ((x % 2 ^ b : Nat) : Int) := by
  have h1 := bits_mask .i64 62 (by decide) wraps_i64 b (by omega) (x : Int) (by omega) (by omega)
  have hp := Nat.two_pow_pos b
  have e : ((o : Nat) : Int) = 2 ^ b - 1 := by
    rw [← ho, Int.natCast_sub hp]; simp
  rw [e, h1]; simp
theorem or_u8 (h n b : Nat) (hh : h < 256) (hm : h % 2 ^ b = 0) (hb : b ≤ 8) (hn : n < 2 ^ b) : Go.bits .or .u8 (h : Int) (n : Int) = ((h + n : Nat) : Int) := by
  have h8 : 2 ^ b ≤ 2 ^ 8 := Nat.pow_le_pow_right (by omega) hb
  rw [bits_join .u8 8 (by decide) wraps_u8 b _ _ (by omega) (by exact_mod_cast hm) (by omega) (by omega) (by exact_mod_cast hn) (by omega)]
  simp
theorem or_128 : ∀ y : Nat, y < 256 → Go.bits .or .u8 128 (y : Int) = ((128 + y % 128 : Nat) : Int) := by decide +kernel
theorem and_128 : ∀ y : Nat, y < 256 → Go.bits .and .i64 (y : Int) 128 = (if y < 128 then 0 else 128) := by decide +kernel
theorem and_128_u8 : ∀ y : Nat, y < 256 → Go.bits .and .u8 (y : Int) 128 = (if y < 128 then 0 else 128) := by decide +kernel
end Pm
end Go.Proofs.YtmkkhfkfjmfdcaaGreat
