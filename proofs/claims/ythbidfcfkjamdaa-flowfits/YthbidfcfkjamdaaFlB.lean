/-
  A gate in memory, the code's and the document's: NewGate, Got, Used, Grant, Left: by their contracts.
-/
import Derived.Test.YthbidfcfkjamdaaFlA
import Derived.BigQuiet
namespace Go.Proofs.Ythbidfcfkjamdaa
open Go.RowKit

theorem Upd.trans {b : Nat} {w w1 w2 : World} (h1 : Upd b w w1) (h2 : Upd b w1 w2) : Upd b w w2 :=
  ⟨h2.os.trans h1.os, h2.tape.trans h1.tape, h2.output.trans h1.output, h2.size.trans h1.size, fun k hk => (h2.block k hk).trans (h1.block k hk)⟩

theorem Upd.drewN {b : Nat} {w : World} (n : Nat) : Upd b w (w.drewN n) := ⟨rfl, rfl, rfl, rfl, fun _ _ => rfl⟩

/-- The code's gate in memory. -/
def CG (w : World) (b : Nat) (g : Fw.G) : Prop := Ar w b 82 #[.int .i64 g.size, .int .i64 g.left, .int .i64 g.held]

/-- The document's. -/
def DG (w : World) (b : Nat) (g : Fw.G) : Prop := Ar w b 64 #[.int .i64 g.size, .int .i64 g.left, .int .i64 g.held, .int .i64 (Fw.free g)]

theorem gnew_no (n : Int) (h : n < 1 ∨ 2147483647 < n) (w : World) : Calls Try.prog 25 #[.int .i64 n] w fun e w' => e = .returned (.tuple #[.pointer none, .int .i64 5]) ∧ w' = w := by
  by_cases h1 : n < 1
  · clear h
    go_enter Try.func25, Try.ntmps25
    go_wp2
    go_ret2
    exact ⟨rfl, rfl⟩
  · have h2 : 2147483647 < n := by omega
    clear h
    go_enter Try.func25, Try.ntmps25
    go_wp2
    go_ret2
    exact ⟨rfl, rfl⟩
theorem gnew_yes (n : Int) (h1 : ¬ n < 1) (h2 : ¬ 2147483647 < n) (w : World) : Calls Try.prog 25 #[.int .i64 n] w fun e w' => (∃ b, e = .returned (.tuple #[.pointer (some ⟨b, 0, none⟩), .int .i64 0]) ∧ w.heap.size ≤ b ∧ CG w' b ⟨n, n, 0⟩) ∧ Below w.heap.size w w' := by
  go_enter Try.func25, Try.ntmps25
  go_wp2
  go_ret2
  have hz : Fw.free ⟨n, n, 0⟩ = 0 := by simp [Fw.free]
  refine ⟨⟨_, rfl, Nat.le_refl _, ?_⟩, (Below.refl _ _).alloc (Nat.le_refl _) _⟩
  unfold CG
  clear hz
  exact heap_alloc_last w _

theorem dgnew_no (n : Int) (h : n < 1 ∨ 2147483647 < n) (w : World) : Calls Try.prog 26 #[.int .i64 n] w fun e w' => e = .returned (.tuple #[.pointer none, .int .i64 5]) ∧ w' = w := by
  by_cases h1 : n < 1
  · clear h
    go_enter Try.func26, Try.ntmps26
    go_wp2
    go_ret2
    exact ⟨rfl, rfl⟩
  · have h2 : 2147483647 < n := by omega
    clear h
    go_enter Try.func26, Try.ntmps26
    go_wp2
    go_ret2
    exact ⟨rfl, rfl⟩
theorem dgnew_yes (n : Int) (h1 : ¬ n < 1) (h2 : ¬ 2147483647 < n) (w : World) : Calls Try.prog 26 #[.int .i64 n] w fun e w' => (∃ b, e = .returned (.tuple #[.pointer (some ⟨b, 0, none⟩), .int .i64 0]) ∧ w.heap.size ≤ b ∧ DG w' b ⟨n, n, 0⟩) ∧ Below w.heap.size w w' := by
  go_enter Try.func26, Try.ntmps26
  go_wp2
  go_ret2
  have hz : Fw.free ⟨n, n, 0⟩ = 0 := by simp [Fw.free]
  refine ⟨⟨_, rfl, Nat.le_refl _, ?_⟩, (Below.refl _ _).alloc (Nat.le_refl _) _⟩
  unfold DG
  rw [hz]
  exact heap_alloc_last w _

theorem ggot_any (b : Nat) (g g' : Fw.G) (n r : Int) (hp : Fw.got g n = (r, g')) (hg : Fw.Ok g) (w : World) (h : CG w b g) :
    Calls Try.prog 27 #[.pointer (some ⟨b, 0, none⟩), .int .i64 n] w fun e w' => e = .returned (.int .i64 r) ∧ CG w' b g' ∧ Upd b w w' := by
  obtain ⟨s, l, d⟩ := g
  obtain ⟨hs1, hs2, hl, hd, hall⟩ := hg
  simp only at hs1 hs2 hl hd hall
  unfold CG at h
  simp only at h
  have c0 := h.cell 0 _ rfl
  have c1 := h.cell 1 _ rfl
  have c2 := h.cell 2 _ rfl
  have f1 := h.free 1
  have f2 := h.free 2
  have H := hid' h
  clear h 
  simp only [Fw.got] at hp
  by_cases h1 : n < 0
  · rw [if_pos h1] at hp
    obtain ⟨rfl, hq⟩ := Prod.mk.inj hp
    subst hq
    clear hp
    go_enter Try.func27, Try.ntmps27
    go_wp2
    go_ret
    exact ⟨rfl, H.out, Upd.refl _ _⟩
  rw [if_neg h1] at hp
  by_cases h2 : l < n
  · rw [if_pos h2] at hp
    obtain ⟨rfl, hq⟩ := Prod.mk.inj hp
    subst hq
    clear hp
    go_enter Try.func27, Try.ntmps27
    go_wp2
    go_ret
    exact ⟨rfl, H.out, Upd.refl _ _⟩
  · rw [if_neg h2] at hp
    obtain ⟨rfl, hq⟩ := Prod.mk.inj hp
    subst hq
    clear hp
    go_enter Try.func27, Try.ntmps27
    go_wp2
    go_ret
    exact ⟨rfl, ((H.out.set 1 _).set 2 _), ((upd_setCell _ _ _ _).trans (upd_setCell _ _ _ _))⟩

theorem gused_any (b : Nat) (g g' : Fw.G) (n r : Int) (hp : Fw.used g n = (r, g')) (hg : Fw.Ok g) (w : World) (h : CG w b g) :
    Calls Try.prog 29 #[.pointer (some ⟨b, 0, none⟩), .int .i64 n] w fun e w' => e = .returned (.int .i64 r) ∧ CG w' b g' ∧ Upd b w w' := by
  obtain ⟨s, l, d⟩ := g
  obtain ⟨hs1, hs2, hl, hd, hall⟩ := hg
  simp only at hs1 hs2 hl hd hall
  unfold CG at h
  simp only at h
  have c0 := h.cell 0 _ rfl
  have c1 := h.cell 1 _ rfl
  have c2 := h.cell 2 _ rfl
  have f1 := h.free 1
  have f2 := h.free 2
  have H := hid' h
  clear h 
  simp only [Fw.used] at hp
  by_cases h1 : n < 0
  · rw [if_pos h1] at hp
    obtain ⟨rfl, hq⟩ := Prod.mk.inj hp
    subst hq
    clear hp
    go_enter Try.func29, Try.ntmps29
    go_wp2
    go_ret
    exact ⟨rfl, H.out, Upd.refl _ _⟩
  rw [if_neg h1] at hp
  by_cases h2 : d < n
  · rw [if_pos h2] at hp
    obtain ⟨rfl, hq⟩ := Prod.mk.inj hp
    subst hq
    clear hp
    go_enter Try.func29, Try.ntmps29
    go_wp2
    go_ret
    exact ⟨rfl, H.out, Upd.refl _ _⟩
  · rw [if_neg h2] at hp
    obtain ⟨rfl, hq⟩ := Prod.mk.inj hp
    subst hq
    clear hp
    go_enter Try.func29, Try.ntmps29
    go_wp2
    go_ret
    exact ⟨rfl, (H.out.set 2 _), (upd_setCell _ _ _ _)⟩

theorem ggrant_any (b : Nat) (g g' : Fw.G) (r : Int) (hp : Fw.grant g = (r, g')) (hg : Fw.Ok g) (w : World) (h : CG w b g) :
    Calls Try.prog 31 #[.pointer (some ⟨b, 0, none⟩)] w fun e w' => e = .returned (.int .i64 r) ∧ CG w' b g' ∧ Upd b w w' := by
  obtain ⟨s, l, d⟩ := g
  obtain ⟨hs1, hs2, hl, hd, hall⟩ := hg
  simp only at hs1 hs2 hl hd hall
  unfold CG at h
  simp only at h
  have c0 := h.cell 0 _ rfl
  have c1 := h.cell 1 _ rfl
  have c2 := h.cell 2 _ rfl
  have f1 := h.free 1
  have f2 := h.free 2
  have H := hid' h
  clear h 
  simp only [Fw.grant] at hp
  have he : Fw.free ⟨s, l, d⟩ = s - l - d := rfl
  rw [he] at hp
  clear he
  by_cases h1 : 2 * (s - l - d) < s
  · rw [if_pos h1] at hp
    obtain ⟨rfl, hq⟩ := Prod.mk.inj hp
    subst hq
    clear hp
    go_enter Try.func31, Try.ntmps31
    go_wp2_with fail
    go_quiet (fail)
    go_wp2
    go_ret
    exact ⟨rfl, H.out, Upd.drewN _⟩
  · rw [if_neg h1] at hp
    obtain ⟨rfl, hq⟩ := Prod.mk.inj hp
    subst hq
    clear hp
    go_enter Try.func31, Try.ntmps31
    go_wp2_with fail
    go_quiet (fail)
    go_wp2
    go_ret
    exact ⟨rfl, (H.out.set 1 _), (Upd.drewN _).trans (upd_setCell _ _ _ _)⟩

theorem dggot_any (b : Nat) (g g' : Fw.G) (n r : Int) (hp : Fw.got g n = (r, g')) (hg : Fw.Ok g) (w : World) (h : DG w b g) :
    Calls Try.prog 28 #[.pointer (some ⟨b, 0, none⟩), .int .i64 n] w fun e w' => e = .returned (.int .i64 r) ∧ DG w' b g' ∧ Upd b w w' := by
  obtain ⟨s, l, d⟩ := g
  obtain ⟨hs1, hs2, hl, hd, hall⟩ := hg
  simp only at hs1 hs2 hl hd hall
  obtain ⟨f, hf⟩ : ∃ f, Fw.free ⟨s, l, d⟩ = f := ⟨_, rfl⟩
  have hff : f = s - l - d := by rw [← hf]; rfl
  have hf1 : 0 ≤ f := by omega
  have hf2 : f ≤ 2147483647 := by omega
  have HF := hid' hff
  unfold DG at h
  simp only [hf] at h
  have c3 := h.cell 3 _ rfl
  have f3 := h.free 3
  have c0 := h.cell 0 _ rfl
  have c1 := h.cell 1 _ rfl
  have c2 := h.cell 2 _ rfl
  have f1 := h.free 1
  have f2 := h.free 2
  have H := hid' h
  clear h hff
  simp only [Fw.got] at hp
  clear hf
  by_cases h1 : n < 0
  · rw [if_pos h1] at hp
    obtain ⟨rfl, hq⟩ := Prod.mk.inj hp
    subst hq
    clear hp
    go_enter Try.func28, Try.ntmps28
    go_wp2
    go_ret
    refine ⟨rfl, ?_, Upd.refl _ _⟩
    have hz : Fw.free ⟨s, l, d⟩ = f := HF.out.symm
    unfold DG
    simp only [hz]
    exact H.out
  rw [if_neg h1] at hp
  by_cases h2 : l < n
  · rw [if_pos h2] at hp
    obtain ⟨rfl, hq⟩ := Prod.mk.inj hp
    subst hq
    clear hp
    go_enter Try.func28, Try.ntmps28
    go_wp2
    go_ret
    refine ⟨rfl, ?_, Upd.refl _ _⟩
    have hz : Fw.free ⟨s, l, d⟩ = f := HF.out.symm
    unfold DG
    simp only [hz]
    exact H.out
  · rw [if_neg h2] at hp
    obtain ⟨rfl, hq⟩ := Prod.mk.inj hp
    subst hq
    clear hp
    go_enter Try.func28, Try.ntmps28
    go_wp2
    go_ret
    refine ⟨rfl, ?_, ((upd_setCell _ _ _ _).trans (upd_setCell _ _ _ _))⟩
    have hz : Fw.free ⟨s, l - n, d + n⟩ = f := by have := HF.out; simp only [Fw.free]; omega
    unfold DG
    simp only [hz]
    exact ((H.out.set 1 _).set 2 _)

theorem dgused_any (b : Nat) (g g' : Fw.G) (n r : Int) (hp : Fw.used g n = (r, g')) (hg : Fw.Ok g) (w : World) (h : DG w b g) :
    Calls Try.prog 30 #[.pointer (some ⟨b, 0, none⟩), .int .i64 n] w fun e w' => e = .returned (.int .i64 r) ∧ DG w' b g' ∧ Upd b w w' := by
  obtain ⟨s, l, d⟩ := g
  obtain ⟨hs1, hs2, hl, hd, hall⟩ := hg
  simp only at hs1 hs2 hl hd hall
  obtain ⟨f, hf⟩ : ∃ f, Fw.free ⟨s, l, d⟩ = f := ⟨_, rfl⟩
  have hff : f = s - l - d := by rw [← hf]; rfl
  have hf1 : 0 ≤ f := by omega
  have hf2 : f ≤ 2147483647 := by omega
  have HF := hid' hff
  unfold DG at h
  simp only [hf] at h
  have c3 := h.cell 3 _ rfl
  have f3 := h.free 3
  have c0 := h.cell 0 _ rfl
  have c1 := h.cell 1 _ rfl
  have c2 := h.cell 2 _ rfl
  have f1 := h.free 1
  have f2 := h.free 2
  have H := hid' h
  clear h hff
  simp only [Fw.used] at hp
  clear hf
  by_cases h1 : n < 0
  · rw [if_pos h1] at hp
    obtain ⟨rfl, hq⟩ := Prod.mk.inj hp
    subst hq
    clear hp
    go_enter Try.func30, Try.ntmps30
    go_wp2
    go_ret
    refine ⟨rfl, ?_, Upd.refl _ _⟩
    have hz : Fw.free ⟨s, l, d⟩ = f := HF.out.symm
    unfold DG
    simp only [hz]
    exact H.out
  rw [if_neg h1] at hp
  by_cases h2 : d < n
  · rw [if_pos h2] at hp
    obtain ⟨rfl, hq⟩ := Prod.mk.inj hp
    subst hq
    clear hp
    go_enter Try.func30, Try.ntmps30
    go_wp2
    go_ret
    refine ⟨rfl, ?_, Upd.refl _ _⟩
    have hz : Fw.free ⟨s, l, d⟩ = f := HF.out.symm
    unfold DG
    simp only [hz]
    exact H.out
  · rw [if_neg h2] at hp
    obtain ⟨rfl, hq⟩ := Prod.mk.inj hp
    subst hq
    clear hp
    go_enter Try.func30, Try.ntmps30
    go_wp2
    go_ret
    refine ⟨rfl, ?_, ((upd_setCell _ _ _ _).trans (upd_setCell _ _ _ _))⟩
    have hz : Fw.free ⟨s, l, d - n⟩ = f + n := by have := HF.out; simp only [Fw.free]; omega
    unfold DG
    simp only [hz]
    exact ((H.out.set 2 _).set 3 _)

theorem dggrant_any (b : Nat) (g g' : Fw.G) (r : Int) (hp : Fw.grant g = (r, g')) (hg : Fw.Ok g) (w : World) (h : DG w b g) :
    Calls Try.prog 32 #[.pointer (some ⟨b, 0, none⟩)] w fun e w' => e = .returned (.int .i64 r) ∧ DG w' b g' ∧ Upd b w w' := by
  obtain ⟨s, l, d⟩ := g
  obtain ⟨hs1, hs2, hl, hd, hall⟩ := hg
  simp only at hs1 hs2 hl hd hall
  obtain ⟨f, hf⟩ : ∃ f, Fw.free ⟨s, l, d⟩ = f := ⟨_, rfl⟩
  have hff : f = s - l - d := by rw [← hf]; rfl
  have hf1 : 0 ≤ f := by omega
  have hf2 : f ≤ 2147483647 := by omega
  have HF := hid' hff
  unfold DG at h
  simp only [hf] at h
  have c3 := h.cell 3 _ rfl
  have f3 := h.free 3
  have c0 := h.cell 0 _ rfl
  have c1 := h.cell 1 _ rfl
  have c2 := h.cell 2 _ rfl
  have f1 := h.free 1
  have f2 := h.free 2
  have H := hid' h
  clear h hff
  simp only [Fw.grant, hf] at hp
  clear hf
  by_cases h1 : 2 * f < s
  · rw [if_pos h1] at hp
    obtain ⟨rfl, hq⟩ := Prod.mk.inj hp
    subst hq
    clear hp
    by_cases h0 : f = 0
    · subst h0
      go_enter Try.func32, Try.ntmps32
      go_wp2
      go_ret
      refine ⟨rfl, ?_, Upd.refl _ _⟩
      have hz : Fw.free ⟨s, l, d⟩ = 0 := HF.out.symm
      unfold DG
      simp only [hz]
      exact H.out
    · have t0 : (f == 0) = false := by simp; omega
      go_enter Try.func32, Try.ntmps32
      go_wp2
      go_ret
      refine ⟨rfl, ?_, Upd.refl _ _⟩
      have hz : Fw.free ⟨s, l, d⟩ = f := HF.out.symm
      unfold DG
      simp only [hz]
      exact H.out
  · rw [if_neg h1] at hp
    obtain ⟨rfl, hq⟩ := Prod.mk.inj hp
    subst hq
    clear hp
    have h0 : ¬ f = 0 := by omega
    have t0 : (f == 0) = false := by simp; omega
    go_enter Try.func32, Try.ntmps32
    go_wp2
    go_ret
    refine ⟨rfl, ?_, ((upd_setCell _ _ _ _).trans (upd_setCell _ _ _ _))⟩
    have hz : Fw.free ⟨s, l + f, d⟩ = 0 := by have := HF.out; simp only [Fw.free]; omega
    unfold DG
    simp only [hz]
    exact ((H.out.set 1 _).set 3 _)

theorem gleft_any (b : Nat) (g : Fw.G) (w : World) (h : CG w b g) : Calls Try.prog 33 #[.pointer (some ⟨b, 0, none⟩)] w fun e w' => e = .returned (.int .i64 g.left) ∧ w' = w := by
  have c1 := h.cell 1 _ rfl
  clear h
  go_enter Try.func33, Try.ntmps33
  go_wp2
  go_ret
  exact ⟨rfl, rfl⟩

theorem gnil_got (n : Int) (w : World) : Calls Try.prog 27 #[.pointer none, .int .i64 n] w fun e w' => e = .returned (.int .i64 2) ∧ w' = w := by
  go_enter Try.func27, Try.ntmps27
  go_wp2
  go_ret
  exact ⟨rfl, rfl⟩

theorem gnil_used (n : Int) (w : World) : Calls Try.prog 29 #[.pointer none, .int .i64 n] w fun e w' => e = .returned (.int .i64 2) ∧ w' = w := by
  go_enter Try.func29, Try.ntmps29
  go_wp2
  go_ret
  exact ⟨rfl, rfl⟩

theorem gnil_grant (w : World) : Calls Try.prog 31 #[.pointer none] w fun e w' => e = .returned (.int .i64 0) ∧ w' = w := by
  go_enter Try.func31, Try.ntmps31
  go_wp2
  go_ret
  exact ⟨rfl, rfl⟩

theorem gnil_left (w : World) : Calls Try.prog 33 #[.pointer none] w fun e w' => e = .returned (.int .i64 0) ∧ w' = w := by
  go_enter Try.func33, Try.ntmps33
  go_wp2
  go_ret
  exact ⟨rfl, rfl⟩

end Go.Proofs.Ythbidfcfkjamdaa
