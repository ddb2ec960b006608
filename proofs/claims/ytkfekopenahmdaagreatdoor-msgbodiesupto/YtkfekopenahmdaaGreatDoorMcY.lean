/-
  The laws' lent, kept, spoil: by their contracts.
-/
import Derived.Test.YtkfekopenahmdaaGreatDoorMcU
import Derived.Test.YtkfekopenahmdaaGreatDoorMcW
namespace Go.Proofs.YtkfekopenahmdaaGreatDoor
open Go.RowKit

def fMark : Fd := ⟨⟨#[109, 97, 114, 107]⟩, ⟨#[]⟩⟩
/-- Fields that are lent: a marked one stands behind them. -/
structure LN (w : World) (B g cap : Nat) (l : List Fd) : Prop where
  own : w.ownsRow B 42 2 (.slice (some ⟨g, 0, none⟩) (l.length + 1) cap) (l.length + 1) (fC (l ++ [fMark]))
theorem LN.keep {w w' : World} {B g cap : Nat} {l : List Fd} (h : LN w B g cap l) (hb : Below w.heap.size w w') : LN w' B g cap l :=
  ⟨own_same h.own (fun k hk => hb.block k (own_lt h.own k hk))⟩
theorem LN.fw {w : World} {B g cap : Nat} {l : List Fd} (h : LN w B g cap l) : FW w (.slice (some ⟨g, 0, none⟩) l.length cap) l := by
  have h1 : FW w (.slice (some ⟨g, 0, none⟩) (l.length + 1) cap) (l ++ [fMark]) := FW.of_own (by rw [List.length_append]; exact h.own)
  have h2 := h1.take (k := l.length) (by simp)
  rwa [List.take_left] at h2
theorem LN.cap {w : World} {B g cap : Nat} {l : List Fd} (h : LN w B g cap l) : l.length + 1 ≤ cap := by
  rcases h.own.2 with ⟨h1, _⟩ | ⟨_, _, _, h1, _, _, h4, _⟩
  · cases h1
  · injection h1 with _ _ e
    rw [e]; exact h4
theorem LN.mark {w : World} {B g cap : Nat} {l : List Fd} (h : LN w B g cap l) : w.cell? ⟨g, l.length * 2, none⟩ = some (.string ⟨#[109, 97, 114, 107]⟩) ∧ w.cell? ⟨g, l.length * 2 + 1, none⟩ = some (.string ⟨#[]⟩) := by
  have key : ∀ j u, j < 2 → (fV fMark)[j]? = some u → w.cell? ⟨g, l.length * 2 + j, none⟩ = some u := fun j u hj hu => by
    have e1 : (fC (l ++ [fMark]))[l.length * 2 + j]? = some u := by
      rw [f_at (l ++ [fMark]) l.length fMark (by simp) j hj]; exact hu
    have := h.own.cells (g := g) rfl _ u e1
    rwa [Addr.add_mid, Nat.zero_add] at this
  exact ⟨key 0 _ (by omega) rfl, key 1 _ (by omega) rfl⟩

set_option maxHeartbeats 4000000 in
set_option maxRecDepth 20000 in
theorem lent14 (v : Value) (l : List Fd) (w : World) (h : FW w v l) (hl : l.length ≤ 1048576) :
    Calls Tryz.prog 5 #[v] w fun e w' => (∃ g cap, e = .returned (.slice (some ⟨g, 0, none⟩) l.length cap) ∧ LN w' w.heap.size g cap l) ∧ Below w.heap.size w w' := by
  have H := hid' h
  obtain ⟨ao, ac, hv⟩ := h.shape
  subst hv
  obtain ⟨n, hn⟩ : ∃ n, l.length = n := ⟨_, rfl⟩
  have HN := hid' hn
  rw [hn] at hl H ⊢
  clear h
  go_enter Tryz.func5, Tryz.ntmps5
  go_wp2_with (at_builtin; refine wpl_appL rfl _ _ rfl w.heap.size (.slice none 0 0) 0 [] rfl (World.ownsRow_nil _ _ _ _) _ l rfl H.out (by have := HN.out; omega) (Nat.le_refl _) ?_; intro v1 w1 hown1 hgrow1 _; refine Hid.out ?_)
  refine hid' ?_
  rw [Nat.zero_add, List.nil_append, HN.out] at hown1
  have HB1 : Hid (Below w.heap.size w w1) := hid' (below_grown (v := .slice none 0 0) (n := 0) (xs := []) (Below.refl _ _) (Nat.le_refl _) (World.ownsRow_nil _ _ _ _) hgrow1)
  obtain ⟨v1o, v1c, hv1⟩ := own_shape hown1
  subst hv1
  have HO1 := hid' (hown1.alloc (.cells #[.string ⟨#[109, 97, 114, 107]⟩, .string ⟨#[]⟩] 42))
  have HBa := hid' (below_two HB1.out (bl_alloc w1 (.cells #[.string ⟨#[109, 97, 114, 107]⟩, .string ⟨#[]⟩] 42)))
  have HLP : Hid (FW (w1.alloc (.cells #[.string ⟨#[109, 97, 114, 107]⟩, .string ⟨#[]⟩] 42)) (.slice (some ⟨w1.heap.size, 0, none⟩) 1 1) [fMark]) := hid' (fw_lit w1 [fMark] 1 rfl (by decide))
  clear hown1 hgrow1
  go_wp2_with (at_builtin; refine wpl_appL rfl _ _ rfl w.heap.size (.slice v1o n v1c) n (fC l) rfl HO1.out _ [fMark] rfl HLP.out (by simp; omega) HBa.out.size ?_; intro v2 w2 hown2 hgrow2 _; refine Hid.out ?_)
  refine hid' ?_
  rw [← fC_append, show n + [fMark].length = n + 1 from rfl] at hown2
  have HB2 : Hid (Below w.heap.size w w2) := hid' (below_grown HBa.out HBa.out.size HO1.out hgrow2)
  have hg : ∃ g cap, v2 = .slice (some ⟨g, 0, none⟩) (n + 1) cap ∧ n + 1 ≤ cap := by
    rcases hown2.2 with ⟨_, h0⟩ | ⟨g, cap, cur, h1, _, _, h4, _⟩
    · omega
    · exact ⟨g, cap, h1, h4⟩
  obtain ⟨g, cap, rfl, hgc⟩ := hg
  have HLN : Hid (LN w2 w.heap.size g cap l) := hid' ⟨by rw [HN.out]; exact hown2⟩
  have g1 : (n : Int) ≤ (cap : Int) := by omega
  clear hown2 hgrow2 HO1 HBa HLP HB1
  go_wp2
  go_ret
  exact ⟨⟨g, cap, rfl, HLN.out⟩, HB2.out⟩

set_option maxHeartbeats 4000000 in
set_option maxRecDepth 20000 in
theorem kept14 (B g cap : Nat) (v : Value) (l : List Fd) (w : World) (h : LN w B g cap l) (hv : FW w v l) (hl : l.length ≤ 1048576) :
    Calls Tryz.prog 9 #[.slice (some ⟨g, 0, none⟩) l.length cap, v] w fun e w' => e = .returned (.bool true) ∧ Below w.heap.size w w' := by
  have H := hid' h.fw
  have HV := hid' hv
  have hcap := h.cap
  have HMK := hid' h
  obtain ⟨ao, ac, hvv⟩ := hv.shape
  subst hvv
  obtain ⟨n, hn⟩ : ∃ n, l.length = n := ⟨_, rfl⟩
  have HN := hid' hn
  have hmk := h.mark
  rw [hn] at hl H HV hcap hmk ⊢
  obtain ⟨m0, m1⟩ := hmk
  have g1 : (n : Int) + 1 ≤ (cap : Int) := by omega
  clear h hv hn
  go_enter Tryz.func9, Tryz.ntmps9
  go_wp2_with fail
  refine (rsame14 _ _ l w H.out HV.out (by have := HN.out; omega)).mono ?_
  rintro e w1 ⟨rfl, hw1⟩
  have hb1 : Below w.heap.size w w1 := by first | exact hw1 | exact hw1 ▸ Below.refl _ _ | (obtain ⟨q, hq⟩ := hw1; rw [hq]; exact below_drewN _ _)
  have HB1 := hid' hb1
  have k0 : w1.cell? ⟨g, n * 2, none⟩ = some (.string ⟨#[109, 97, 114, 107]⟩) := (hb1.cell (cell_lt m0)).trans m0
  have k1 : w1.cell? ⟨g, n * 2 + 1, none⟩ = some (.string ⟨#[]⟩) := (hb1.cell (cell_lt m1)).trans m1
  clear hw1 hb1 m0 m1
  go_wp2
  go_ret
  exact ⟨rfl, HB1.out⟩

end Go.Proofs.YtkfekopenahmdaaGreatDoor
