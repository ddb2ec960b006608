/-
  ostlerref07.Parse of any frame: by its contract.
-/
import Derived.Test.YthbidfcfkjamdaaFrDh
import Derived.Test.YthbidfcfkjamdaaFrDz
import Derived.Test.YthbidfcfkjamdaaFrDy
import Derived.Test.YthbidfcfkjamdaaFrDs
import Derived.Test.YthbidfcfkjamdaaFrDw
namespace Go.Proofs.Ythbidfcfkjamdaa
open Go.RowKit

theorem rpadded_any (k fl st : Int) (hk : k = 0 ∨ k = 1) (l : List UInt8) (r : Fm.Rd) (hsz : l.length ≤ 140737488355328) (hr : Fm.parse k fl st l = r) (w : World) : Calls Try.prog 53 #[.agg (frC k fl st l)] w fun e w' => e = .returned (rdV r (.slice none 0 0)) ∧ Below w.heap.size w w' := by
  by_cases hs : st = 0
  · subst hs
    obtain rfl : r = .bad true 1 := by rw [← hr]; rcases hk with rfl | rfl <;> simp [Fm.parse, Fm.mis]
    exact rpadded_st k fl l w
  · rcases hk with rfl | rfl
    · cases h8 : Fm.has fl 8
      · exact rpadded_data0 fl st l r hs h8 hsz hr w
      · exact rpadded_data1 fl st l r hs h8 hsz hr w
    · cases h8 : Fm.has fl 8 <;> cases h32 : Fm.has fl 32
      · exact rpadded_head00 fl st l r hs h8 h32 hsz hr w
      · exact rpadded_head01 fl st l r hs h8 h32 hsz hr w
      · exact rpadded_head10 fl st l r hs h8 h32 hsz hr w
      · exact rpadded_head11 fl st l r hs h8 h32 hsz hr w
theorem rwhole_any (k fl st : Int) (hk : k = 6 ∨ k = 7 ∨ k = 16) (l : List UInt8) (r : Fm.Rd) (hr : Fm.parse k fl st l = r) (w : World) : Calls Try.prog 56 #[.agg (frC k fl st l)] w fun e w' => e = .returned (rdV r (.slice none 0 0)) ∧ Below w.heap.size w w' := by
  by_cases hs : st = 0
  · subst hs
    rcases hk with rfl | rfl | rfl
    · exact rwhole_ping fl l r hr w
    · exact rwhole_away fl l r hr w
    · exact rwhole_update fl l r hr w
  · obtain rfl : r = .bad true 1 := by rw [← hr]; rcases hk with rfl | rfl | rfl <;> simp [Fm.parse, Fm.mis, hs]
    exact rwhole_st k fl st l hs w
/-- Of any kind but SETTINGS. -/
theorem rparse_any (k fl st : Int) (hk : k ≠ 4) (l : List UInt8) (r : Fm.Rd) (hsz : l.length ≤ 140737488355328) (hr : Fm.parse k fl st l = r) (w : World) : Calls Try.prog 38 #[.agg (frC k fl st l)] w fun e w' => e = .returned (rdV r (.slice none 0 0)) ∧ Below w.heap.size w w' := by
  by_cases h0 : k = 0
  · subst h0; exact rparse_data fl st l r (fun w => rpadded_any 0 fl st (.inl rfl) l r hsz hr w) w
  by_cases h1 : k = 1
  · subst h1; exact rparse_headers fl st l r (fun w => rpadded_any 1 fl st (.inr rfl) l r hsz hr w) w
  by_cases h2 : k = 2
  · subst h2
    by_cases hs : st = 0
    · subst hs; exact rparse_prio0 fl l r hr w
    · exact rparse_prio fl st l r hs hr w
  by_cases h3 : k = 3
  · subst h3
    by_cases hs : st = 0
    · subst hs; exact rparse_reset0 fl l r hr w
    · exact rparse_reset fl st l r hs hr w
  by_cases h5 : k = 5
  · subst h5; exact rparse_push fl st l r hr w
  by_cases h6 : k = 6
  · subst h6; exact rparse_ping fl st l r (fun w => rwhole_any 6 fl st (.inl rfl) l r hr w) w
  by_cases h7 : k = 7
  · subst h7; exact rparse_away fl st l r (fun w => rwhole_any 7 fl st (.inr (.inl rfl)) l r hr w) w
  by_cases h8 : k = 8
  · subst h8; exact rparse_window fl st l r (fun w => rwindow_any fl st l r hr w) w
  by_cases h9 : k = 9
  · subst h9
    by_cases hs : st = 0
    · subst hs; exact rparse_more0 fl l r hr w
    · exact rparse_more fl st l r hs hr w
  by_cases h16 : k = 16
  · subst h16; exact rparse_update fl st l r (fun w => rwhole_any 16 fl st (.inr (.inr rfl)) l r hr w) w
  exact rparse_other k fl st l r h0 h1 h2 h3 hk h5 h6 h7 h8 h9 h16 hr w

end Go.Proofs.Ythbidfcfkjamdaa
