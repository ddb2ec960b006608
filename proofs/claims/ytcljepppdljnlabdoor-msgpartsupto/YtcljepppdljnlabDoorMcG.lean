/-
  The code's head.addPseudo: by its contract.
-/
import Derived.Test.YtcljepppdljnlabDoorMcF
namespace Go.Proofs.YtcljepppdljnlabDoor
open Go.RowKit

set_option maxHeartbeats 2000000 in
set_option maxRecDepth 20000 in
theorem caps_bg (b : Nat) (f : Fd) (w : World) (h : w.cell? ⟨b, 10, none⟩ = some (.bool true)) :
    Calls Tryd.prog 38 #[.pointer (some ⟨b, 0, none⟩), .agg #[.string f.n, .string f.v]] w fun e w' => e = .returned (.int .i64 140) ∧ Below w.heap.size w w' := by
  have hb := bl_alloc w (.cells #[.string f.n, .string f.v] 28)
  have HA := hid' (fd_new w f)
  have HB := hid' hb
  have g := (hb.cell (cell_lt h)).trans h
  obtain ⟨pv, hpv⟩ : ∃ pv, psV b f.n = pv := ⟨_, rfl⟩
  have HP : Hid (∀ W, Calls Tryd.prog 51 #[.pointer (some ⟨b, 0, none⟩), .string f.n] W fun e w' => e = .returned pv ∧ w' = W) := hid' (fun W => by have := cpseudo14 b f.n W; rwa [hpv] at this)
  clear h hb hpv
  go_enter Tryd.func38, Tryd.ntmps38
  go_wp2_with fail
  refine (HP.out _).mono ?_
  rintro e w1 ⟨rfl, hw⟩
  subst w1
  go_wp2
  go_ret
  exact ⟨rfl, HB.out⟩

set_option maxHeartbeats 2000000 in
set_option maxRecDepth 20000 in
theorem caps_none (b : Nat) (f : Fd) (w : World) (h : w.cell? ⟨b, 10, none⟩ = some (.bool false)) (hpv : psV b f.n = .pointer none) :
    Calls Tryd.prog 38 #[.pointer (some ⟨b, 0, none⟩), .agg #[.string f.n, .string f.v]] w fun e w' => e = .returned (.int .i64 140) ∧ Below w.heap.size w w' := by
  have hb := bl_alloc w (.cells #[.string f.n, .string f.v] 28)
  have HA := hid' (fd_new w f)
  have HB := hid' hb
  have g := (hb.cell (cell_lt h)).trans h
  have HP : Hid (∀ W, Calls Tryd.prog 51 #[.pointer (some ⟨b, 0, none⟩), .string f.n] W fun e w' => e = .returned (.pointer none) ∧ w' = W) := hid' (fun W => by have := cpseudo14 b f.n W; rwa [hpv] at this)
  clear h hb hpv
  go_enter Tryd.func38, Tryd.ntmps38
  go_wp2_with fail
  refine (HP.out _).mono ?_
  rintro e w1 ⟨rfl, hw⟩
  subst w1
  go_wp2
  go_ret
  exact ⟨rfl, HB.out⟩

set_option maxHeartbeats 2000000 in
set_option maxRecDepth 20000 in
theorem caps_said (b off : Nat) (f : Fd) (w : World) (h : w.cell? ⟨b, 10, none⟩ = some (.bool false)) (hpv : psV b f.n = .pointer (some ⟨b, off, none⟩)) (c1 : w.cell? ⟨b, off + 1, none⟩ = some (.bool true)) :
    Calls Tryd.prog 38 #[.pointer (some ⟨b, 0, none⟩), .agg #[.string f.n, .string f.v]] w fun e w' => e = .returned (.int .i64 140) ∧ Below w.heap.size w w' := by
  have hb := bl_alloc w (.cells #[.string f.n, .string f.v] 28)
  have HA := hid' (fd_new w f)
  have HB := hid' hb
  have g := (hb.cell (cell_lt h)).trans h
  have HS := hid' (csay14_no b off f.v (w.alloc (.cells #[.string f.n, .string f.v] 28)) ((hb.cell (cell_lt c1)).trans c1))
  have HP : Hid (∀ W, Calls Tryd.prog 51 #[.pointer (some ⟨b, 0, none⟩), .string f.n] W fun e w' => e = .returned (.pointer (some ⟨b, off, none⟩)) ∧ w' = W) := hid' (fun W => by have := cpseudo14 b f.n W; rwa [hpv] at this)
  clear h hb hpv c1
  go_enter Tryd.func38, Tryd.ntmps38
  go_wp2_with fail
  refine (HP.out _).mono ?_
  rintro e w1 ⟨rfl, hw⟩
  subst w1
  go_wp2_with fail
  refine HS.out.mono ?_
  rintro e w1 ⟨rfl, hw⟩
  subst w1
  go_wp2
  go_ret
  exact ⟨rfl, HB.out⟩

set_option maxHeartbeats 2000000 in
set_option maxRecDepth 20000 in
theorem caps_new (b off : Nat) (x : ByteArray) (f : Fd) (w : World) (h : w.cell? ⟨b, 10, none⟩ = some (.bool false)) (hpv : psV b f.n = .pointer (some ⟨b, off, none⟩)) (c0 : w.cell? ⟨b, off, none⟩ = some (.string x)) (c1 : w.cell? ⟨b, off + 1, none⟩ = some (.bool false)) (hfr : ∀ W, Below w.heap.size w W → ∀ i, W.frozen? ⟨b, i, none⟩ = false) :
    Calls Tryd.prog 38 #[.pointer (some ⟨b, 0, none⟩), .agg #[.string f.n, .string f.v]] w fun e w' => e = .returned (.int .i64 0) ∧ ∃ w1, Below w.heap.size w w1 ∧ w' = (w1.setCell ⟨b, off, none⟩ (.string f.v)).setCell ⟨b, off + 1, none⟩ (.bool true) := by
  have hb := bl_alloc w (.cells #[.string f.n, .string f.v] 28)
  have HA := hid' (fd_new w f)
  have HB := hid' hb
  have g := (hb.cell (cell_lt h)).trans h
  have HS := hid' (csay14_yes b off x f.v (w.alloc (.cells #[.string f.n, .string f.v] 28)) ((hb.cell (cell_lt c0)).trans c0) ((hb.cell (cell_lt c1)).trans c1) (hfr _ hb _) (hfr _ hb _))
  have HP : Hid (∀ W, Calls Tryd.prog 51 #[.pointer (some ⟨b, 0, none⟩), .string f.n] W fun e w' => e = .returned (.pointer (some ⟨b, off, none⟩)) ∧ w' = W) := hid' (fun W => by have := cpseudo14 b f.n W; rwa [hpv] at this)
  clear h hb hpv c1 c0 hfr
  go_enter Tryd.func38, Tryd.ntmps38
  go_wp2_with fail
  refine (HP.out _).mono ?_
  rintro e w1 ⟨rfl, hw⟩
  subst w1
  go_wp2_with fail
  refine HS.out.mono ?_
  rintro e w2 ⟨rfl, hw⟩
  have HW := hid' hw
  clear hw
  go_wp2
  go_ret
  exact ⟨rfl, _, HB.out, HW.out⟩

theorem caddps14 (B b : Nat) (P : List Fd) (f : Fd) (fv : Value) (w : World) (h : HM w B b (Ms.hof P) fv) :
    Calls Tryd.prog 38 #[.pointer (some ⟨b, 0, none⟩), .agg #[.string f.n, .string f.v]] w fun e w' => Below B w w' ∧ ((Ms.bad1 P (Ms.hof P).bg f = true ∧ e = .returned (.int .i64 140)) ∨ (Ms.bad1 P (Ms.hof P).bg f = false ∧ e = .returned (.int .i64 0) ∧ HM w' B b (Ms.hof (P ++ [f])) fv)) := by
  have hBw : B ≤ w.heap.size := Nat.le_trans h.lo (Nat.le_of_lt h.obj.lt)
  have bad : (Ms.bad1 P (Ms.hof P).bg f = true) → (Calls Tryd.prog 38 #[.pointer (some ⟨b, 0, none⟩), .agg #[.string f.n, .string f.v]] w fun e w' => e = .returned (.int .i64 140) ∧ Below w.heap.size w w') → Calls Tryd.prog 38 #[.pointer (some ⟨b, 0, none⟩), .agg #[.string f.n, .string f.v]] w fun e w' => Below B w w' ∧ ((Ms.bad1 P (Ms.hof P).bg f = true ∧ e = .returned (.int .i64 140)) ∨ (Ms.bad1 P (Ms.hof P).bg f = false ∧ e = .returned (.int .i64 0) ∧ HM w' B b (Ms.hof (P ++ [f])) fv)) :=
    fun h1 h2 => h2.mono fun e w' ⟨he, hb⟩ => ⟨hb.mono hBw, .inl ⟨h1, he⟩⟩
  have g10 : w.cell? ⟨b, 10, none⟩ = some (.bool (Ms.hof P).bg) := h.obj.cell 10 _ rfl
  cases hbg : (Ms.hof P).bg
  rotate_left
  · rw [hbg] at g10
    rw [hbg] at bad
    exact bad (by unfold Ms.bad1; rfl) (caps_bg b f w g10)
  rw [hbg] at g10
  have hfr : ∀ W, Below w.heap.size w W → ∀ i, W.frozen? ⟨b, i, none⟩ = false := fun W hb i => (h.obj.keep hb).free i
  have fin : ∀ (off : Nat) (H' : Ms.Hd), psV b f.n = .pointer (some ⟨b, off, none⟩) → ∀ x, w.cell? ⟨b, off, none⟩ = some (.string x) → w.cell? ⟨b, off + 1, none⟩ = some (.bool false) → Ms.bad1 P false f = false → Ms.hof (P ++ [f]) = H' → ((hdC (Ms.hof P) fv).setIfInBounds off (.string f.v)).setIfInBounds (off + 1) (.bool true) = hdC H' fv → H'.fs = (Ms.hof P).fs →
      Calls Tryd.prog 38 #[.pointer (some ⟨b, 0, none⟩), .agg #[.string f.n, .string f.v]] w fun e w' => Below B w w' ∧ ((Ms.bad1 P false f = true ∧ e = .returned (.int .i64 140)) ∨ (Ms.bad1 P false f = false ∧ e = .returned (.int .i64 0) ∧ HM w' B b (Ms.hof (P ++ [f])) fv)) := by
    intro off H' hp x c0 c1 hbad hof hset hfs
    refine (caps_new b off x f w g10 hp c0 c1 hfr).mono ?_
    rintro e w' ⟨he, w1, hb1, rfl⟩
    have h1 := h.keep hb1
    refine ⟨((hb1.mono hBw).setCell h.lo _).setCell h.lo _, .inr ⟨hbad, he, ?_⟩⟩
    rw [hof]
    refine ⟨h.lo, ?_, ?_⟩
    · rw [← hset]; exact (h1.obj.set off _).set (off + 1) _
    · rw [hfs]
      exact own_same h1.row (fun k hk => ((upd_setCell _ b (off + 1) _).block k (h1.apart k hk)).trans ((upd_setCell w1 b off _).block k (h1.apart k hk)))
  cases c1 : (f.n.toList == Ms.sMethod)
  · cases c2 : (f.n.toList == Ms.sScheme)
    · cases c3 : (f.n.toList == Ms.sPath)
      · cases c4 : (f.n.toList == Ms.sAuth)
        · rw [hbg] at bad
          refine bad ?_ (caps_none b f w g10 ?_)
          · have : Ms.pss.contains f.n.toList = false := by
              simp only [Ms.pss, List.contains_cons, List.contains_nil]
              rw [show (f.n.toList == [58, 109, 101, 116, 104, 111, 100]) = false from c1, show (f.n.toList == [58, 115, 99, 104, 101, 109, 101]) = false from c2, show (f.n.toList == [58, 112, 97, 116, 104]) = false from c3, show (f.n.toList == [58, 97, 117, 116, 104, 111, 114, 105, 116, 121]) = false from c4]
              rfl
            unfold Ms.bad1
            rw [this]; simp
          · unfold psV
            rw [show (f.n.toList == [58, 109, 101, 116, 104, 111, 100]) = false from c1, show (f.n.toList == [58, 115, 99, 104, 101, 109, 101]) = false from c2, show (f.n.toList == [58, 112, 97, 116, 104]) = false from c3, show (f.n.toList == [58, 97, 117, 116, 104, 111, 114, 105, 116, 121]) = false from c4]
            rfl
        · have hp : psV b f.n = .pointer (some ⟨b, 6, none⟩) := by
            unfold psV
            rw [show (f.n.toList == [58, 109, 101, 116, 104, 111, 100]) = false from c1, show (f.n.toList == [58, 115, 99, 104, 101, 109, 101]) = false from c2, show (f.n.toList == [58, 112, 97, 116, 104]) = false from c3, show (f.n.toList == [58, 97, 117, 116, 104, 111, 114, 105, 116, 121]) = true from c4]
            rfl
          have hin : Ms.pss.contains f.n.toList = true := by rw [beq_iff_eq.1 c4]; decide
          have hx : Ms.fnd f.n.toList P = Ms.fnd Ms.sAuth P := by rw [beq_iff_eq.1 c4]
          cases hq : Ms.fnd Ms.sAuth P with
          | none =>
            exact fin 6 _ hp ((Ms.fnd Ms.sAuth P).getD ⟨#[]⟩) (h.obj.cell 6 _ rfl) (by have hz : w.cell? ⟨b, 7, none⟩ = some (.bool (Ms.fnd Ms.sAuth P).isSome) := h.obj.cell 7 _ rfl; rw [hz, hq]; rfl) (by unfold Ms.bad1; rw [hx, hq, hin]; rfl) (Ms.hof_a c4 hq) (by simp [hdC]) rfl
          | some v =>
            rw [hbg] at bad
            exact bad (by unfold Ms.bad1; rw [hx, hq]; simp) (caps_said b 6 f w g10 hp (by have hz : w.cell? ⟨b, 7, none⟩ = some (.bool (Ms.fnd Ms.sAuth P).isSome) := h.obj.cell 7 _ rfl; rw [hz, hq]; rfl))
      · have hp : psV b f.n = .pointer (some ⟨b, 4, none⟩) := by
          unfold psV
          rw [show (f.n.toList == [58, 109, 101, 116, 104, 111, 100]) = false from c1, show (f.n.toList == [58, 115, 99, 104, 101, 109, 101]) = false from c2, show (f.n.toList == [58, 112, 97, 116, 104]) = true from c3]
          rfl
        have hin : Ms.pss.contains f.n.toList = true := by rw [beq_iff_eq.1 c3]; decide
        have hx : Ms.fnd f.n.toList P = Ms.fnd Ms.sPath P := by rw [beq_iff_eq.1 c3]
        cases hq : Ms.fnd Ms.sPath P with
        | none =>
          exact fin 4 _ hp ((Ms.fnd Ms.sPath P).getD ⟨#[]⟩) (h.obj.cell 4 _ rfl) (by have hz : w.cell? ⟨b, 5, none⟩ = some (.bool (Ms.fnd Ms.sPath P).isSome) := h.obj.cell 5 _ rfl; rw [hz, hq]; rfl) (by unfold Ms.bad1; rw [hx, hq, hin]; rfl) (Ms.hof_p c3 hq) (by simp [hdC]) rfl
        | some v =>
          rw [hbg] at bad
          exact bad (by unfold Ms.bad1; rw [hx, hq]; simp) (caps_said b 4 f w g10 hp (by have hz : w.cell? ⟨b, 5, none⟩ = some (.bool (Ms.fnd Ms.sPath P).isSome) := h.obj.cell 5 _ rfl; rw [hz, hq]; rfl))
    · have hp : psV b f.n = .pointer (some ⟨b, 2, none⟩) := by
        unfold psV
        rw [show (f.n.toList == [58, 109, 101, 116, 104, 111, 100]) = false from c1, show (f.n.toList == [58, 115, 99, 104, 101, 109, 101]) = true from c2]
        rfl
      have hin : Ms.pss.contains f.n.toList = true := by rw [beq_iff_eq.1 c2]; decide
      have hx : Ms.fnd f.n.toList P = Ms.fnd Ms.sScheme P := by rw [beq_iff_eq.1 c2]
      cases hq : Ms.fnd Ms.sScheme P with
      | none =>
        exact fin 2 _ hp ((Ms.fnd Ms.sScheme P).getD ⟨#[]⟩) (h.obj.cell 2 _ rfl) (by have hz : w.cell? ⟨b, 3, none⟩ = some (.bool (Ms.fnd Ms.sScheme P).isSome) := h.obj.cell 3 _ rfl; rw [hz, hq]; rfl) (by unfold Ms.bad1; rw [hx, hq, hin]; rfl) (Ms.hof_s c2 hq) (by simp [hdC]) rfl
      | some v =>
        rw [hbg] at bad
        exact bad (by unfold Ms.bad1; rw [hx, hq]; simp) (caps_said b 2 f w g10 hp (by have hz : w.cell? ⟨b, 3, none⟩ = some (.bool (Ms.fnd Ms.sScheme P).isSome) := h.obj.cell 3 _ rfl; rw [hz, hq]; rfl))
  · have hp : psV b f.n = .pointer (some ⟨b, 0, none⟩) := by
      unfold psV
      rw [show (f.n.toList == [58, 109, 101, 116, 104, 111, 100]) = true from c1]
      rfl
    have hin : Ms.pss.contains f.n.toList = true := by rw [beq_iff_eq.1 c1]; decide
    have hx : Ms.fnd f.n.toList P = Ms.fnd Ms.sMethod P := by rw [beq_iff_eq.1 c1]
    cases hq : Ms.fnd Ms.sMethod P with
    | none =>
      exact fin 0 _ hp ((Ms.fnd Ms.sMethod P).getD ⟨#[]⟩) (h.obj.cell 0 _ rfl) (by have hz : w.cell? ⟨b, 1, none⟩ = some (.bool (Ms.fnd Ms.sMethod P).isSome) := h.obj.cell 1 _ rfl; rw [hz, hq]; rfl) (by unfold Ms.bad1; rw [hx, hq, hin]; rfl) (Ms.hof_m c1 hq) (by simp [hdC]) rfl
    | some v =>
      rw [hbg] at bad
      exact bad (by unfold Ms.bad1; rw [hx, hq]; simp) (caps_said b 0 f w g10 hp (by have hz : w.cell? ⟨b, 1, none⟩ = some (.bool (Ms.fnd Ms.sMethod P).isSome) := h.obj.cell 1 _ rfl; rw [hz, hq]; rfl))

end Go.Proofs.YtcljepppdljnlabDoor
