/-
  The code's Line: by its contract.
-/
import Derived.Test.YtdbldompjhienaaDoorRhAC
import Derived.Test.YtdbldompjhienaaDoorRgG
namespace Go.Proofs.YtdbldompjhienaaDoor
open Go.RowKit

namespace Rg
/-- The number of a body's line. -/
def IsFree (l : T8) (q : Nat) : Prop := stands (line q) l = false ∧ (∀ m, m < q → stands (line m) l = true) ∧ q ≤ l.length
theorem free_ex (l : T8) : ∃ q, IsFree l q := by
  have hp := List.mergeSort_perm (taken l.length l) (fun x y => decide (x ≤ y))
  have hs := List.pairwise_mergeSort (le := fun (x y : Nat) => decide (x ≤ y)) (fun a b c h1 h2 => by simp at *; omega) (fun a b => by simp; omega) (taken l.length l)
  exact ⟨_, lf_line l _ (hs.imp (fun h => of_decide_eq_true h)) hp⟩
theorem free_one {l : T8} {q q' : Nat} (h : IsFree l q) (h' : IsFree l q') : q = q' := by
  obtain ⟨a1, a2, _⟩ := h
  obtain ⟨b1, b2, _⟩ := h'
  rcases Nat.lt_trichotomy q q' with h | h | h
  · rw [b2 q h] at a1; cases a1
  · exact h
  · rw [a2 q' h] at b1; cases b1
end Rg

set_option maxHeartbeats 1600000 in
theorem cline16 (x : ByteArray) (q : Nat) (hq : Rg.IsFree x.data.toList q) (w : World) (hx : x.size ≤ 1048576) (hT : TB16 w) :
    Calls Tryd.prog 17 #[.string x] w fun e w' => e = .returned (.string ⟨(Rg.line q).toArray⟩) ∧ Below w.heap.size w w' := by
  have HTK := hid' (ctaken16 x x.data.toList rfl w hx hT)
  have HT := hid' hT
  have HQ := hid' hq
  have hqb : q ≤ 1048576 := by have := hq.2.2; rw [← Lib.size_eq] at this; omega
  obtain ⟨c, hc⟩ : ∃ c, Lib.itoa (q : Int) = c := ⟨_, rfl⟩
  have lc : c.length ≤ 21 := by rw [← hc]; exact Tx.itoa_le _ 19 (by omega)
  have HD := hid' (fun W (h : TB16 W) => decimal_any (q : Int) (by omega) (by omega) W h.1)
  rw [hc] at HD
  have k1 : ¬ 9223372036854775807 < 4 + c.length := by omega
  have HYE : Hid ((⟨#[112, 97, 114, 116]⟩ : ByteArray) ++ ⟨c.toArray⟩ = ⟨(Rg.line q).toArray⟩) := hid' (by rw [line_cat16]; unfold Rg.line; rw [hc])
  clear hT hq hc
  go_enter Tryd.func17, Tryd.ntmps17
  go_wp2_with fail
  refine HTK.out.mono ?_
  rintro e w1 ⟨⟨m, ro, rc, rfl, hm, hown⟩, hb1⟩
  have HB1 := hid' hb1
  have HFR := hid' (cfree16 w.heap.size m rc ro _ hm w1 hown (by
    have := (Rg.taken_bound x.data.toList.length _ x.data.toList (Nat.le_refl _)).1
    rw [hm, ← Lib.size_eq] at this
    omega) hb1.size)
  clear hm hown hb1 HTK
  go_wp2_with fail
  refine HFR.out.mono ?_
  rintro e w2 ⟨⟨t, ht1, ht2, rfl⟩, hb2⟩
  have hfq : Rg.lf t 0 = q := Rg.free_one (Rg.lf_line x.data.toList t ht1 ht2) HQ.out
  rw [hfq]
  have HB2 := hid' (HB1.out.trans hb2)
  have HT2 := hid' (HT.out.keep HB2.out)
  clear ht1 ht2 hb2 hfq HFR
  go_wp2_with fail
  refine (HD.out _ HT2.out).mono ?_
  rintro e w3 ⟨rfl, hb3⟩
  have HB3 := hid' (below_two HB2.out hb3)
  clear hb3
  go_wp2
  go_ret
  exact ⟨by rw [HYE.out]; rfl, HB3.out⟩

end Go.Proofs.YtdbldompjhienaaDoor
