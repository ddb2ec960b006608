/-
  awake: by its contract.
-/
import Derived.Test.YtjpgnifogacpcaaTabKN
import Derived.Test.YtjpgnifogacpcaaTabKA
namespace Go.Proofs.Ytjpgnifogacpcaa
open Go.RowKit

theorem Sl.apart {w : World} {B B' : Nat} {e e' : TypeId} {s s' : Nat} {v v' : Value} {n n' : Nat} {xs xs' : List Value} (h : Sl w B e s v n xs) (h' : Sl w B' e' s' v' n' xs') (hne : e ≠ e') : ∀ k, v.ownBlock = some k → v'.ownBlock ≠ some k := by
  intro k hk
  rcases h.2 with ⟨rfl, _⟩ | ⟨g, q, cap, cur, rfl, _, hg, _⟩
  · simp [Value.ownBlock] at hk
  · simp [Value.ownBlock] at hk
    subst hk
    exact h'.ne (show Ar w g e cur from hg) hne
theorem CT.two {w w' : World} {B b c : Nat} {v : Value} {M : Nat} {fs : List (List UInt8 × List UInt8)} {row : Option Nat} (h : CT w B b v M fs) (ht : Two c row w w') (h0 : b ≠ c) (h0' : row ≠ some b) (h1 : v.ownBlock ≠ some c) (h2 : ∀ k, v.ownBlock = some k → row ≠ some k) : CT w' B b v M fs := ⟨h.ring.two ht h0 h0' h1 h2⟩

/-- A table and a row of numbers do not touch each other. -/
structure TR (w : World) (B b c : Nat) (v u : Value) (M : Nat) (fs : List (List UInt8 × List UInt8)) (n : Nat) (xs : List Value) : Prop where
  tab : CT w B b v M fs
  ring : RG w B c 74 3 1 u [] n xs
theorem TR.keep {w w' : World} {B b c : Nat} {v u : Value} {M : Nat} {fs : List (List UInt8 × List UInt8)} {n : Nat} {xs : List Value} (h : TR w B b c v u M fs n xs) (hb : Below w.heap.size w w') : TR w' B b c v u M fs n xs := ⟨h.tab.keep hb, h.ring.keep hb⟩
theorem TR.ne {w : World} {B b c : Nat} {v u : Value} {M : Nat} {fs : List (List UInt8 × List UInt8)} {n : Nat} {xs : List Value} (h : TR w B b c v u M fs n xs) : b ≠ c := by
  intro e
  have h1 := h.tab.ring.obj
  have h2 := h.ring.obj
  unfold Ar at h1 h2
  rw [e, h2] at h1
  injection h1 with h1
  injection h1 with _ h3 _
  exact absurd h3 (by decide)
theorem TR.ofTab {w w' : World} {B b c : Nat} {v v' u : Value} {M M' : Nat} {fs fs' : List (List UInt8 × List UInt8)} {n : Nat} {xs : List Value} (h : TR w B b c v u M fs n xs) (ht : Two b v.ownBlock w w') (hc : CT w' B b v' M' fs') : TR w' B b c v' u M' fs' n xs :=
  ⟨hc, h.ring.two ht (fun e => h.ne e.symm) (h.tab.ring.row.ne h.ring.obj (by decide)) (h.ring.row.ne h.tab.ring.obj (by decide)) (h.ring.row.apart h.tab.ring.row (by decide))⟩
theorem TR.ofRing {w w' : World} {B b c : Nat} {v u u' : Value} {M : Nat} {fs : List (List UInt8 × List UInt8)} {n n' : Nat} {xs xs' : List Value} (h : TR w B b c v u M fs n xs) (ht : Two c u.ownBlock w w') (hr : RG w' B c 74 3 1 u' [] n' xs') : TR w' B b c v u' M fs n' xs' :=
  ⟨h.tab.two ht h.ne (h.ring.row.ne h.tab.ring.obj (by decide)) (h.tab.ring.row.ne h.ring.obj (by decide)) (h.tab.ring.row.apart h.ring.row (by decide)), hr⟩
theorem TR.belowTab {w w' : World} {B b c : Nat} {v u : Value} {M : Nat} {fs : List (List UInt8 × List UInt8)} {n : Nat} {xs : List Value} (h : TR w B b c v u M fs n xs) (ht : Two b v.ownBlock w w') (hB : B ≤ w.heap.size) : Below B w w' := ht.below h.tab.ring.ge (fun k hk => (h.tab.ring.row.lt k hk).1) hB
theorem TR.belowRing {w w' : World} {B b c : Nat} {v u : Value} {M : Nat} {fs : List (List UInt8 × List UInt8)} {n : Nat} {xs : List Value} (h : TR w B b c v u M fs n xs) (ht : Two c u.ownBlock w w') (hB : B ≤ w.heap.size) : Below B w w' := ht.below h.ring.ge (fun k hk => (h.ring.row.lt k hk).1) hB

theorem aw_add1 : Tb.add 100 [] ([97], [98]) = [([97], [98])] := by decide +kernel
theorem aw_add2 : Tb.add 100 [([97], [98])] ([99], []) = [([99], []), ([97], [98])] := by decide +kernel
theorem aw_add3 : Tb.add 100 [([99], []), ([97], [98])] ([100], [101]) = [([100], [101]), ([99], [])] := by decide +kernel
theorem aw_at : Tb.at? [([100], [101]), ([99], [])] 62 = some ([100], [101]) := by decide +kernel
theorem aw_find1 : Tb.find [([100], [101]), ([99], [])] ([58, 109, 101, 116, 104, 111, 100], [80, 79, 83, 84]) = (3, true) := by decide +kernel
theorem aw_find2 : Tb.find [([100], [101]), ([99], [])] ([58, 109, 101, 116, 104, 111, 100], [80, 85, 84]) = (2, false) := by decide +kernel

theorem aw_size : Tb.size [([100], [101]), ([99], [])] = 67 := by decide +kernel
theorem csize_at (B b : Nat) (v : Value) (M : Nat) (fs : List (List UInt8 × List UInt8)) (S : Nat) (hS : Tb.size fs = S) (w : World) (h : CT w B b v M fs) :
    Calls Try.prog 19 #[.pointer (some ⟨b, 0, none⟩)] w fun e w' => e = .returned (.int .i64 (S : Int)) ∧ w' = w := by
  subst hS; exact csize_any B b v M fs w h
/-- The callers' forms, with letters for what is added. -/
theorem aw_add (B b c : Nat) (v u : Value) (fs gs : List (List UInt8 × List UInt8)) (n val : List UInt8) (w : World) (W : World) (h : TR w B b c v u 100 fs 0 []) (hs : Tb.size fs ≤ 100) (hB : B ≤ w.heap.size) (hW : Below B W w) (hn : n.length ≤ 100) (hv : val.length ≤ 100) (hg : Tb.add 100 fs (n, val) = gs) :
    Calls Try.prog 11 #[.pointer (some ⟨b, 0, none⟩), .agg #[.string ⟨n.toArray⟩, .string ⟨val.toArray⟩]] w fun e w' => e = .returned (.tuple #[]) ∧ ∃ v', TR w' B b c v' u 100 gs 0 [] ∧ B ≤ w'.heap.size ∧ Below B W w' := by
  refine (cadd_any B b v 100 fs n val w h.tab (by omega) (by omega) hB (by omega) (by omega)).mono ?_
  rintro e w' ⟨rfl, v', hC, _, hT⟩
  rw [hg] at hC
  exact ⟨rfl, v', h.ofTab hT hC, Nat.le_trans hB hT.size, hW.trans (h.belowTab hT hB)⟩

set_option maxHeartbeats 4000000 in
set_option maxRecDepth 20000 in
theorem awake_any (w : World) : Calls Try.prog 10 #[] w fun e w' => e = .returned (.bool true) ∧ Below w.heap.size w w' := by
  go_enter Try.func10, Try.ntmps10
  go_wp2_with fail
  refine (cnew_yes 100 (by omega) w.heap.size _ (Nat.le_refl _)).mono ?_
  rintro e w1 ⟨rfl, hC1, hb1⟩
  obtain ⟨b, hb⟩ : ∃ b, w.heap.size = b := ⟨_, rfl⟩
  obtain ⟨B, hB⟩ : ∃ B, B = b := ⟨_, rfl⟩
  rw [hb] at hC1 hb1 ⊢
  rw [← hB] at hb1
  have HC1 : Hid (CT w1 B b (.slice none 0 0) 100 []) := hid' (by rw [hB]; exact hC1)
  have HB1 : Hid (Below B w w1) := hid' hb1
  have HS1 : Hid (B ≤ w1.heap.size) := hid' (by have := hb1.size; omega)
  clear hC1 hb1
  go_wp2_with fail
  refine (newI B _ HS1.out).mono ?_
  rintro e w2 ⟨rfl, hR2, hb2⟩
  obtain ⟨c, hc⟩ : ∃ c, w1.heap.size = c := ⟨_, rfl⟩
  have HTR : Hid (TR w2 B b c (.slice none 0 0) (.slice none 0 0) 100 [] 0 []) := hid' ⟨HC1.out.keep hb2, by rw [← hc]; exact hR2⟩
  have HB2 : Hid (Below B w w2) := hid' (HB1.out.trans (hb2.mono HS1.out))
  have HS2 : Hid (B ≤ w2.heap.size) := hid' (Nat.le_trans HS1.out hb2.size)
  rw [hc] at *
  clear hR2 hb2 HC1 HB1 HS1 hc
  go_wp2_with fail
  refine (field_any _ _ _).mono ?_
  rintro e w3 ⟨rfl, hb3⟩
  have HTR3 := hid' (HTR.out.keep hb3)
  have HB3 := hid' (HB2.out.trans (hb3.mono HS2.out))
  have HS3 := hid' (Nat.le_trans HS2.out hb3.size)
  clear hb3 HTR HB2 HS2
  go_wp2_with fail
  refine (aw_add B b c _ _ [] _ [97] [98] _ w HTR3.out (by decide) HS3.out HB3.out (by decide) (by decide) aw_add1).mono ?_
  rintro e w4 ⟨rfl, v4, h4, s4, b4⟩
  have HTR := hid' h4
  have HB2 := hid' b4
  have HS2 := hid' s4
  clear h4 b4 s4 HTR3 HB3 HS3
  go_wp2_with fail
  refine (field_any _ _ _).mono ?_
  rintro e w3 ⟨rfl, hb3⟩
  have HTR3 := hid' (HTR.out.keep hb3)
  have HB3 := hid' (HB2.out.trans (hb3.mono HS2.out))
  have HS3 := hid' (Nat.le_trans HS2.out hb3.size)
  clear hb3 HTR HB2 HS2
  go_wp2_with fail
  refine (aw_add B b c _ _ _ _ [99] [] _ w HTR3.out (by decide) HS3.out HB3.out (by decide) (by decide) aw_add2).mono ?_
  rintro e w5 ⟨rfl, v5, h4, s4, b4⟩
  have HTR := hid' h4
  have HB2 := hid' b4
  have HS2 := hid' s4
  clear h4 b4 s4 HTR3 HB3 HS3
  go_wp2_with fail
  refine (field_any _ _ _).mono ?_
  rintro e w3 ⟨rfl, hb3⟩
  have HTR3 := hid' (HTR.out.keep hb3)
  have HB3 := hid' (HB2.out.trans (hb3.mono HS2.out))
  have HS3 := hid' (Nat.le_trans HS2.out hb3.size)
  clear hb3 HTR HB2 HS2
  go_wp2_with fail
  refine (aw_add B b c _ _ _ _ [100] [101] _ w HTR3.out (by decide) HS3.out HB3.out (by decide) (by decide) aw_add3).mono ?_
  rintro e w6 ⟨rfl, v6, h4, s4, b4⟩
  have HTR := hid' h4
  have HB2 := hid' b4
  have HS2 := hid' s4
  clear h4 b4 s4 HTR3 HB3 HS3
  go_wp2_with fail
  refine (cat_some B b _ 100 _ 62 _ _ HTR.out.tab (by decide) aw_at).mono ?_
  rintro e w7 ⟨rfl, hb7⟩
  have HTR7 := hid' (HTR.out.keep hb7)
  have HB7 := hid' (HB2.out.trans (hb7.mono HS2.out))
  have HS7 := hid' (Nat.le_trans HS2.out hb7.size)
  clear hb7 HTR HB2 HS2
  go_wp2_with fail
  have hb8 : Below w7.heap.size w7 (w7.alloc (.cells #[.string ⟨#[100]⟩, .string ⟨#[101]⟩] 32)) := (Below.refl _ _).alloc (Nat.le_refl _) _
  have HA : Hid (Ar (w7.alloc (.cells #[.string ⟨#[100]⟩, .string ⟨#[101]⟩] 32)) w7.heap.size 32 #[.string ⟨#[100]⟩, .string ⟨#[101]⟩]) := hid' (heap_alloc_last w7 _)
  have HTR8 := hid' (HTR7.out.keep hb8)
  have HB8 := hid' (HB7.out.trans (hb8.mono HS7.out))
  have HS8 := hid' (Nat.le_trans HS7.out hb8.size)
  have hBf : B ≤ w7.heap.size := HS7.out
  obtain ⟨fb, hfb⟩ : ∃ fb, w7.heap.size = fb := ⟨_, rfl⟩
  rw [hfb] at HA hBf ⊢
  have hfT : fb ≠ b := by have := HTR7.out.tab.ring.obj.lt; omega
  have hfR : fb ≠ c := by have := HTR7.out.ring.obj.lt; omega
  clear hb8 HTR7 HB7 HS7 hfb
  generalize w7.alloc (.cells #[.string ⟨#[100]⟩, .string ⟨#[101]⟩] 32) = w8 at *
  refine (field_any _ _ _).mono ?_
  rintro e w9 ⟨rfl, hb9⟩
  have HTR9 := hid' (HTR8.out.keep hb9)
  have HB9 := hid' (HB8.out.trans (hb9.mono HS8.out))
  have HS9 := hid' (Nat.le_trans HS8.out hb9.size)
  have HA9 := hid' (HA.out.keep hb9)
  clear hb9 HTR8 HB8 HS8 HA
  go_wp2_with fail
  refine (cfind_any B b _ 100 _ [58, 109, 101, 116, 104, 111, 100] [80, 79, 83, 84] _ HTR9.out.tab (by decide) 3 true aw_find1).mono ?_
  rintro e w10 ⟨rfl, hb10⟩
  have HTR := hid' (HTR9.out.keep hb10)
  have HB := hid' (HB9.out.trans (hb10.mono HS9.out))
  have HS := hid' (Nat.le_trans HS9.out hb10.size)
  have HA := hid' (HA9.out.keep hb10)
  clear hb10 HTR9 HB9 HS9 HA9
  go_wp2_with fail
  refine (field_any _ _ _).mono ?_
  rintro e w9 ⟨rfl, hb9⟩
  have HTR9 := hid' (HTR.out.keep hb9)
  have HB9 := hid' (HB.out.trans (hb9.mono HS.out))
  have HS9 := hid' (Nat.le_trans HS.out hb9.size)
  have HA9 := hid' (HA.out.keep hb9)
  clear hb9 HTR HB HS HA
  go_wp2_with fail
  refine (cfind_any B b _ 100 _ [58, 109, 101, 116, 104, 111, 100] [80, 85, 84] _ HTR9.out.tab (by decide) 2 false aw_find2).mono ?_
  rintro e w11 ⟨rfl, hb10⟩
  have HTR := hid' (HTR9.out.keep hb10)
  have HB := hid' (HB9.out.trans (hb10.mono HS9.out))
  have HS := hid' (Nat.le_trans HS9.out hb10.size)
  have HA := hid' (HA9.out.keep hb10)
  clear hb10 HTR9 HB9 HS9 HA9
  go_wp2_with fail
  refine (pushI B c _ _ _ 0 [] 1 _ HTR.out.ring (by decide) (by omega) HS.out).mono ?_
  rintro e w12 ⟨rfl, u12, hR, _, hT⟩
  have HTR9 := hid' (HTR.out.ofRing hT hR)
  have HB9 := hid' (HB.out.trans (HTR.out.belowRing hT HS.out))
  have HS9 := hid' (Nat.le_trans HS.out hT.size)
  have HA9 := hid' (hT.ar HA.out hfR (by simp [Value.ownBlock]))
  clear hT hR HTR HB HS HA
  go_wp2_with fail
  refine (pushI B c _ _ _ 1 _ 2 _ HTR9.out.ring (by decide) (by omega) HS9.out).mono ?_
  rintro e w13 ⟨rfl, u13, hR, _, hT⟩
  have HTR := hid' (HTR9.out.ofRing hT hR)
  have HB := hid' (HB9.out.trans (HTR9.out.belowRing hT HS9.out))
  have HS := hid' (Nat.le_trans HS9.out hT.size)
  have HA := hid' (hT.ar HA9.out hfR (HTR9.out.ring.row.ne HA9.out (by decide)))
  clear hT hR HTR9 HB9 HS9 HA9
  go_wp2_with fail
  refine (popI_some B c _ _ _ 1 1 [.int .i64 2] _ HTR.out.ring).mono ?_
  rintro e w14 ⟨rfl, u14, hR, _, hT⟩
  have HTR9 := hid' (HTR.out.ofRing hT hR)
  have HB9 := hid' (HB.out.trans (HTR.out.belowRing hT HS.out))
  have HS9 := hid' (Nat.le_trans HS.out hT.size)
  have HA9 := hid' (hT.ar HA.out hfR (HTR.out.ring.row.ne HA.out (by decide)))
  clear hT hR HTR HB HS HA
  go_wp2
  have hng := noGuard
  have heq := eq_field_yes [100] [101]
  have x0 := HA9.out.cell 0 _ rfl
  have x1 := HA9.out.cell 1 _ rfl
  have hS : Below w14.heap.size w14 w14 ∧ w14.cell? ⟨fb, 0, none⟩ = some (.string ⟨#[100]⟩) ∧ w14.cell? ⟨fb, 1, none⟩ = some (.string ⟨#[101]⟩) := ⟨Below.refl _ _, x0, x1⟩
  have sOf : ∀ W W1 : World, (Below w14.heap.size w14 W ∧ W.cell? ⟨fb, 0, none⟩ = some (.string ⟨#[100]⟩) ∧ W.cell? ⟨fb, 1, none⟩ = some (.string ⟨#[101]⟩)) → Below W.heap.size W W1 → Below w14.heap.size w14 W1 ∧ W1.cell? ⟨fb, 0, none⟩ = some (.string ⟨#[100]⟩) ∧ W1.cell? ⟨fb, 1, none⟩ = some (.string ⟨#[101]⟩) := fun W W1 ⟨h, h0, h1⟩ hb => ⟨below_two h hb, (hb.cell (World.block_lt_of_cell? W _ h0)).trans h0, (hb.cell (World.block_lt_of_cell? W _ h1)).trans h1⟩
  have tOf : ∀ W : World, (Below w14.heap.size w14 W ∧ W.cell? ⟨fb, 0, none⟩ = some (.string ⟨#[100]⟩) ∧ W.cell? ⟨fb, 1, none⟩ = some (.string ⟨#[101]⟩)) → TR W B b c v6 u14 100 [([100], [101]), ([99], [])] 1 [.int .i64 2] := fun W h => HTR9.out.keep h.1
  go_region_held3 (fun W => Below w14.heap.size w14 W ∧ W.cell? ⟨fb, 0, none⟩ = some (.string ⟨#[100]⟩) ∧ W.cell? ⟨fb, 1, none⟩ = some (.string ⟨#[101]⟩))
    (first | assumption | exact sOf _ _ (by assumption) (by assumption) | exact sOf _ _ (by assumption) ((Below.refl _ _).drew))
    (first
    | (go_at_call 31; refine (field_any _ _ _).mono ?_; rintro e w15 ⟨rfl, hb15⟩)
    | (go_at_call 19; refine (csize_at B b _ 100 _ 67 aw_size _ (tOf _ (by assumption)).tab).mono ?_; rintro e w15 ⟨rfl, rfl⟩)
    | (go_at_call 22; refine (clen_any B b _ 100 _ _ (tOf _ (by assumption)).tab).mono ?_; rintro e w15 ⟨rfl, rfl⟩)
    | (go_at_call 33; refine (lenI B c _ _ _ 1 _ _ (tOf _ (by assumption)).ring).mono ?_; rintro e w15 ⟨rfl, rfl⟩)
    | (go_at_call 23; refine (cweight_at [100] [101] 34 (by decide) (by omega) _).mono ?_; rintro e w16 ⟨rfl, hb16⟩))
  have HE : Hid (Below B w w16) := hid' ((HB9.out.trans ((below_two ((Below.refl _ _).drew) hb15).mono HS9.out)).trans (hb16.mono (Nat.le_trans HS9.out (below_two ((Below.refl _ w14).drew) hb15).size)))
  clear x0 x1 hS sOf tOf hb15 hb16 heq hng
  go_wp2
  go_ret
  refine ⟨rfl, ?_⟩
  rw [hb, ← hB]
  exact HE.out

end Go.Proofs.Ytjpgnifogacpcaa
