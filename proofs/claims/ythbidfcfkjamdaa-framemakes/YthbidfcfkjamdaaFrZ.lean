/-
  frame.parts, frame.Parse: by their contracts.
-/
import Derived.Test.YthbidfcfkjamdaaFrYa
import Derived.Test.YthbidfcfkjamdaaFrYb
import Derived.Test.YthbidfcfkjamdaaFrYc
import Derived.Test.YthbidfcfkjamdaaShelf
namespace Go.Proofs.Ythbidfcfkjamdaa
open Go.RowKit

theorem fclone_l (s : List UInt8) (hs : s.length ≤ 281474976710656) (w : World) : Calls Try.prog 63 #[.string ⟨s.toArray⟩] w fun e w' => e = .returned (.string ⟨s.toArray⟩) ∧ Below w.heap.size w w' := by
  go_enter Try.func63, Try.ntmps63
  go_wp2_with fail
  refine (Try.stringslite_Clone ⟨s.toArray⟩ _ (by simpa [ByteArray.size] using hs)).mono ?_
  rintro e w1 ⟨rfl, hb1⟩
  go_wp2
  go_ret
  exact ⟨rfl, hb1⟩

theorem cparts_any (k fl st : Int) (l : List UInt8) (r : Fm.Rd) (hr : Fm.parse k fl st l = r) (hsz : l.length ≤ 35184372088832) (w : World) :
    Calls Try.prog 48 #[.agg (frC k fl st l)] w fun e w' => (∃ v, e = .returned (rdV r v) ∧ Hid (SP w.heap.size w' r v)) ∧ Below w.heap.size w w' := by
  unfold Fm.parse at hr
  cases hm : Fm.mis k st with
  | true =>
    rw [hm, if_pos rfl] at hr
    subst hr
    exact cparts_mis k fl st l hm w
  | false =>
    rw [hm, if_neg (by decide)] at hr
    cases hs : Fm.sized k fl l.length with
    | false =>
      rw [hs, if_neg (by decide)] at hr
      subst hr
      exact cparts_unsized k fl st l _ hm hs rfl hsz w
    | true =>
      rw [hs, if_pos rfl] at hr
      by_cases k0 : k = 0
      · subst k0
        cases r with
        | bad c e => exact cparts_data0 fl st l hm hs c e hr hsz w
        | ok p => exact cparts_data1 fl st l hm hs p hr hsz w
      by_cases k1 : k = 1
      · subst k1
        cases r with
        | bad c e => exact cparts_head0 fl st l hm hs c e hr hsz w
        | ok p => exact cparts_head1 fl st l hm hs p hr hsz w
      by_cases k4 : k = 4
      · subst k4
        cases r with
        | bad c e => exact cparts_sets0 fl st l hm hs c e hr hsz w
        | ok p => exact cparts_sets1 fl st l hm hs p hr hsz w
      by_cases k8 : k = 8
      · subst k8
        cases r with
        | bad c e => exact cparts_window0 fl st l hm hs c e hr hsz w
        | ok p => exact cparts_window1 fl st l hm hs p hr hsz w
      by_cases k16 : k = 16
      · subst k16
        cases r with
        | bad c e => exact cparts_update0 fl st l hm hs c e hr hsz w
        | ok p => exact cparts_update1 fl st l hm hs p hr hsz w
      by_cases k2 : k = 2
      · subst k2
        subst hr
        exact cparts_prio fl st l hm hs hsz w
      by_cases k3 : k = 3
      · subst k3
        subst hr
        exact cparts_reset fl st l hm hs hsz w
      by_cases k6 : k = 6
      · subst k6
        subst hr
        exact cparts_ping fl st l hm hs hsz w
      by_cases k9 : k = 9
      · subst k9
        subst hr
        exact cparts_more fl st l hm hs hsz w
      by_cases k7 : k = 7
      · subst k7
        subst hr
        exact cparts_away fl st l hm hs hsz w
      · have e : Fm.say k fl st l = .ok Fm.none' := by
          unfold Fm.say
          rw [if_neg (by omega), if_neg k2, if_neg k3, if_neg k4, if_neg (by omega), if_neg k7, if_neg k8, if_neg k16]
        rw [e] at hr
        subst hr
        exact cparts_other k fl st l hm hs ⟨k0, k1, k2, k3, k4, k6, k7, k8, k9, k16⟩ hsz w

theorem pt_cells {w : World} {b : Nat} {p : Fm.Pt} {v : Value} (h : Ar w b 27 (ptC p v)) :
    w.cell? ⟨b, 0, none⟩ = some (.string ⟨p.data.toArray⟩) ∧ w.cell? ⟨b, 1, none⟩ = some (.int .i64 p.pad) ∧ w.cell? ⟨b, 2, none⟩ = some (.int .i64 p.code) ∧ w.cell? ⟨b, 3, none⟩ = some (.int .i64 p.last) ∧ w.cell? ⟨b, 4, none⟩ = some (.int .i64 p.weight) ∧ w.cell? ⟨b, 5, none⟩ = some (.bool p.only) ∧ w.cell? ⟨b, 6, none⟩ = some (.int .i64 p.more) ∧ w.cell? ⟨b, 7, none⟩ = some v :=
  ⟨h.cell 0 _ rfl, h.cell 1 _ rfl, h.cell 2 _ rfl, h.cell 3 _ rfl, h.cell 4 _ rfl, h.cell 5 _ rfl, h.cell 6 _ rfl, h.cell 7 _ rfl⟩

end Go.Proofs.Ythbidfcfkjamdaa
