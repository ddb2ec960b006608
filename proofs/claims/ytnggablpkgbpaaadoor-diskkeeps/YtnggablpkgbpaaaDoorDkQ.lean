/-
  Plain: what a change answers, and what the file is behind it.
-/
import Derived.Test.YtnggablpkgbpaaaDoorDkI
namespace Go.Proofs.YtnggablpkgbpaaaDoor
open Go.RowKit

namespace Dk
theorem get_put (es : List En) (e : En) (h : Ok es) : get (key e) (put e es) = some e ∧ has (key e) (put e es) = true := by
  cases hh : has (key e) es
  · obtain ⟨A, R, _, h3, _, _, h1, h2⟩ := put_no es e h hh
    rw [h3]
    exact ⟨get_mid A R e _ rfl h1 h2, has_mid A R e _ rfl⟩
  · obtain ⟨A, f, R, _, _, h3, _, _, h1, h2⟩ := put_yes es e h hh
    rw [h3]
    exact ⟨get_mid A R e _ rfl h1 h2, has_mid A R e _ rfl⟩
theorem has_rem (es : List En) (x : Tx8) (h : Ok es) (hm : has x es = true) : has x (rem x es) = false := by
  obtain ⟨A, f, R, _, _, h3, _, _, h1, h2⟩ := rem_yes es x h hm
  rw [h3]
  unfold has ks
  simp only [decide_eq_false_iff_not, List.map_append, List.mem_append, List.mem_map]
  rintro (⟨p, hp, rfl⟩ | ⟨p, hp, rfl⟩)
  · exact lt_irrefl _ (h1 p hp)
  · exact lt_irrefl _ (h2 p hp)
end Dk

end Go.Proofs.YtnggablpkgbpaaaDoor
