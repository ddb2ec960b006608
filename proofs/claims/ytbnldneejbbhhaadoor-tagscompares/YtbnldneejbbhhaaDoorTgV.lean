/-
  Tags and files that came in: as a row hands them; what a row says of the library's variables.
-/
import Derived.Test.YtbnldneejbbhhaaDoorTgL
import Derived.Test.YtbnldneejbbhhaaDoorRows
import Derived.Deep.Slices
import Derived.Deep.Strs
import Derived.RowKit
import Derived.ProofKit
import Derived.OpenShut
import Derived.LaidMore
import Derived.Stop.LaidErr
import Derived.Deep.DeepHandedRow
import Derived.Lib.LaidTab
import Derived.Lib.ItoaNum
import Derived.Lib.SmallJoins
namespace Go.Proofs.YtbnldneejbbhhaaDoor
open Go.RowKit Go.ChangeShapes Go.WideShapes Go.ChangeAt Go.Deep Go.Joins

set_option maxRecDepth 100000 in
theorem open_tag15 {H : Type} {enc : TypeId × Value → H} {W : World} {base : Nat} {v : Value} {d : DataW H} {p : List MemPlace} (hval : Value.okWide Tryd.prog W .any base 31 v) (h : DataW.Trod enc Tryd.prog W 0 (fun _ => true) true 31 v d p) :
    ∃ a : Tg.Tag, v = tA a := by
  obtain ⟨x0, x1, y0, y1, m, rfl, rfl, _, g0, g1⟩ := open_agg2 Tryd.underlying31 (by kernel_rfl) (by kernel_rfl) hval h
  obtain ⟨b, f0, _⟩ := DataW.trod_bool Tryd.underlying4 g0
  obtain ⟨s, f1, _, _⟩ := DataW.trod_string Tryd.underlying9 g1
  simp only [List.cons.injEq, and_true] at f0 f1
  subst f0 f1
  exact ⟨⟨b, s.data.toList⟩, rfl⟩
set_option maxRecDepth 100000 in
theorem open_file15 {H : Type} {enc : TypeId × Value → H} {W : World} {base : Nat} {v : Value} {d : DataW H} {p : List MemPlace} (hval : Value.okWide Tryd.prog W .any base 35 v) (h : DataW.Trod enc Tryd.prog W 0 (fun _ => true) true 35 v d p) :
    ∃ (y : ByteArray) (t q : Int), v = .agg (flC y t q) ∧ y.size ≤ 9223372036854775807 ∧ -9223372036854775808 ≤ q ∧ q ≤ 9223372036854775807 := by
  obtain ⟨x0, x1, x2, y0, y1, y2, m, rfl, rfl, _, g0, g1, g2⟩ := open_agg3 Tryd.underlying35 (by kernel_rfl) (by kernel_rfl) hval h
  obtain ⟨s, f0, _, hs⟩ := DataW.trod_string Tryd.underlying9 g0
  obtain ⟨t, f1, _, _⟩ := DataW.trod_int Tryd.underlying3 g1
  obtain ⟨q, f2, _, hq⟩ := DataW.trod_int Tryd.underlying3 g2
  simp only [List.cons.injEq, and_true] at f0 f1 f2
  subst f0 f1 f2
  have e1 : IntKind.i64.min = -9223372036854775808 := rfl
  have e2 : IntKind.i64.max = 9223372036854775807 := rfl
  simp [Lit.wf, e1, e2] at hq
  exact ⟨s, t, q, rfl, hs, by omega, by omega⟩

namespace Frame15
theorem gTab : Tryd.prog.globalNamed "internal/strconv.uint64pow10" = some 2 := by kernel_rfl
theorem gTabType : (Tryd.prog.globals[2]?).map (·.type) = some 123 := by kernel_rfl
theorem cellsA : Tryd.prog.cellsOf 123 = 20 := by kernel_rfl
theorem cellsE : Tryd.prog.cellsOf 105 = 1 := by kernel_rfl
theorem tab_eq : (Rows.laid_internal_strconv_uint64pow10 : DataW Unit) = Lib.tabData .u64 Lib.pow10Tab := by kernel_rfl
/-- What the rows' list gives: the table of powers. -/
theorem tb {W : World} (h : laidMetH Tryd.prog [("math/bits.deBruijn32tab", Rows.laid_math_bits_deBruijn32tab), ("math/bits.deBruijn64tab", Rows.laid_math_bits_deBruijn64tab), ("internal/strconv.uint64pow10", Rows.laid_internal_strconv_uint64pow10), ("unicode/utf8.acceptRanges", Rows.laid_unicode_utf8_acceptRanges), ("unicode/utf8.first", Rows.laid_unicode_utf8_first)] W) : Lib.TabIs Tryd.prog W "internal/strconv.uint64pow10" .u64 Lib.pow10Tab := by
  have h' : laidMet Tryd.prog [("math/bits.deBruijn32tab", Rows.laid_math_bits_deBruijn32tab), ("math/bits.deBruijn64tab", Rows.laid_math_bits_deBruijn64tab), ("internal/strconv.uint64pow10", Rows.laid_internal_strconv_uint64pow10), ("unicode/utf8.acceptRanges", Rows.laid_unicode_utf8_acceptRanges), ("unicode/utf8.first", Rows.laid_unicode_utf8_first)] W := h
  have h3 := h'.tail.tail
  rw [tab_eq] at h3
  exact Lib.tabIs_of_head (rest := [("unicode/utf8.acceptRanges", Rows.laid_unicode_utf8_acceptRanges), ("unicode/utf8.first", Rows.laid_unicode_utf8_first)]) gTab gTabType Tryd.underlying123 Tryd.underlying105 cellsE cellsA h3
end Frame15

end Go.Proofs.YtbnldneejbbhhaaDoor
