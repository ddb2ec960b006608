/-
  The head of a header list in memory; the code's part.say, head.pseudo, head.addPseudo: by their contracts.
  The code's head.addPseudo: by its contract.
  The code's head.addField: by its contract, way by way.
  The code's head.addField where a field is laid behind the others: by its contract.
  The code's head.add, head.fault: by their contracts.
-/
import Derived.Test.YtkfekopenahmdaaDoorMcC
import Derived.Test.YtkfekopenahmdaaDoorMsDI
import Derived.RegionTactic
import Derived.ChangeAlike
namespace Go.Proofs.YtkfekopenahmdaaDoor
open Go.RowKit

namespace Ms
/-- What a header list says, as far as it was gone through. -/
structure Hd where
  m : Option ByteArray
  s : Option ByteArray
  p : Option ByteArray
  a : Option ByteArray
  h : Option ByteArray
  bg : Bool
  fs : List Fd
def hof (P : List Fd) : Hd := ⟨fnd sMethod P, fnd sScheme P, fnd sPath P, fnd sAuth P, fnd sHost P, P.any (fun f => !psd f.n), keep P⟩
theorem fnd_no {x : T8} {P : List Fd} {f : Fd} (h : (f.n.toList == x) = false) : fnd x (P ++ [f]) = fnd x P := by
  rw [fnd_app, h]; simp
theorem fnd_yes {x : T8} {P : List Fd} {f : Fd} (h : (f.n.toList == x) = true) (hn : fnd x P = none) : fnd x (P ++ [f]) = some f.v := by
  rw [fnd_app, h, hn]; rfl
theorem ne_of {x y z : T8} (h : (z == x) = true) (hxy : (x == y) = false) : (z == y) = false := by
  rw [beq_iff_eq.1 h]; exact hxy
theorem psd_of {b : ByteArray} {x : T8} (h : (b.toList == x) = true) : psd b = (x.head? == some 58) := by
  unfold psd
  rw [← tl_tx, beq_iff_eq.1 h]
theorem any_app (P : List Fd) (f : Fd) : (P ++ [f]).any (fun f => !psd f.n) = (P.any (fun f => !psd f.n) || !psd f.n) := by simp
theorem keep_app (P : List Fd) (f : Fd) : keep (P ++ [f]) = keep P ++ (if keepB f then [f] else []) := by
  unfold keep
  rw [List.filter_append, List.filter_cons]
  cases keepB f <;> rfl
theorem keep_psd {f : Fd} (h : psd f.n = true) : keepB f = false := by unfold keepB; rw [h]; rfl
theorem hof_m {P : List Fd} {f : Fd} (h : (f.n.toList == sMethod) = true) (hn : fnd sMethod P = none) : hof (P ++ [f]) = { hof P with m := some f.v } := by
  unfold hof
  rw [fnd_yes h hn, fnd_no (ne_of h (by decide)), fnd_no (ne_of h (by decide)), fnd_no (ne_of h (by decide)), fnd_no (ne_of h (by decide)), any_app, keep_app, psd_of h, keep_psd (by rw [psd_of h]; rfl)]
  simp [sMethod]
theorem hof_s {P : List Fd} {f : Fd} (h : (f.n.toList == sScheme) = true) (hn : fnd sScheme P = none) : hof (P ++ [f]) = { hof P with s := some f.v } := by
  unfold hof
  rw [fnd_yes h hn, fnd_no (ne_of h (by decide)), fnd_no (ne_of h (by decide)), fnd_no (ne_of h (by decide)), fnd_no (ne_of h (by decide)), any_app, keep_app, psd_of h, keep_psd (by rw [psd_of h]; rfl)]
  simp [sScheme]
theorem hof_p {P : List Fd} {f : Fd} (h : (f.n.toList == sPath) = true) (hn : fnd sPath P = none) : hof (P ++ [f]) = { hof P with p := some f.v } := by
  unfold hof
  rw [fnd_yes h hn, fnd_no (ne_of h (by decide)), fnd_no (ne_of h (by decide)), fnd_no (ne_of h (by decide)), fnd_no (ne_of h (by decide)), any_app, keep_app, psd_of h, keep_psd (by rw [psd_of h]; rfl)]
  simp [sPath]
theorem hof_a {P : List Fd} {f : Fd} (h : (f.n.toList == sAuth) = true) (hn : fnd sAuth P = none) : hof (P ++ [f]) = { hof P with a := some f.v } := by
  unfold hof
  rw [fnd_yes h hn, fnd_no (ne_of h (by decide)), fnd_no (ne_of h (by decide)), fnd_no (ne_of h (by decide)), fnd_no (ne_of h (by decide)), any_app, keep_app, psd_of h, keep_psd (by rw [psd_of h]; rfl)]
  simp [sAuth]
theorem hof_h {P : List Fd} {f : Fd} (h : (f.n.toList == sHost) = true) (hn : fnd sHost P = none) : hof (P ++ [f]) = { hof P with h := some f.v, bg := true } := by
  have hk : keepB f = false := by unfold keepB; rw [show (f.n.toList == [104, 111, 115, 116]) = true from h, psd_of h]; rfl
  unfold hof
  rw [fnd_yes h hn, fnd_no (ne_of h (by decide)), fnd_no (ne_of h (by decide)), fnd_no (ne_of h (by decide)), fnd_no (ne_of h (by decide)), any_app, keep_app, psd_of h, hk]
  simp [sHost]
theorem hof_te {P : List Fd} {f : Fd} (h : (f.n.toList == sTe) = true) : hof (P ++ [f]) = { hof P with bg := true } := by
  have hk : keepB f = false := by unfold keepB; rw [show (f.n.toList == [116, 101]) = true from h, psd_of h]; simp
  unfold hof
  rw [fnd_no (ne_of h (by decide)), fnd_no (ne_of h (by decide)), fnd_no (ne_of h (by decide)), fnd_no (ne_of h (by decide)), fnd_no (ne_of h (by decide)), any_app, keep_app, psd_of h, hk]
  simp [sTe]
theorem hof_o {P : List Fd} {f : Fd} (hp : psd f.n = false) (h1 : (f.n.toList == sTe) = false) (h2 : (f.n.toList == sHost) = false) : hof (P ++ [f]) = { hof P with bg := true, fs := keep P ++ [f] } := by
  have hk : keepB f = true := by unfold keepB; rw [hp, show (f.n.toList == [116, 101]) = false from h1, show (f.n.toList == [104, 111, 115, 116]) = false from h2]; rfl
  have key : ∀ x : T8, (x.head? == some 58) = true → (f.n.toList == x) = false := fun x hx => by
    cases hq : (f.n.toList == x) with
    | false => rfl
    | true => have := psd_of hq; rw [hp, hx] at this; cases this
  unfold hof
  rw [fnd_no (key sMethod rfl), fnd_no (key sScheme rfl), fnd_no (key sPath rfl), fnd_no (key sAuth rfl), fnd_no h2, any_app, keep_app, hp, hk]
  simp
end Ms

/-- The cells of a head. -/
def hdC (H : Ms.Hd) (fv : Value) : Array Value := #[.string (H.m.getD ⟨#[]⟩), .bool H.m.isSome, .string (H.s.getD ⟨#[]⟩), .bool H.s.isSome, .string (H.p.getD ⟨#[]⟩), .bool H.p.isSome, .string (H.a.getD ⟨#[]⟩), .bool H.a.isSome, .string (H.h.getD ⟨#[]⟩), .bool H.h.isSome, .bool H.bg, fv]
/-- A head in memory. -/
structure HM (w : World) (B b : Nat) (H : Ms.Hd) (fv : Value) : Prop where
  lo : B ≤ b
  obj : Ar w b 38 (hdC H fv)
  row : w.ownsRow B 30 2 fv H.fs.length (fC H.fs)
theorem HM.keep {w w' : World} {B b : Nat} {H : Ms.Hd} {fv : Value} (h : HM w B b H fv) (hb : Below w.heap.size w w') : HM w' B b H fv :=
  ⟨h.lo, h.obj.keep hb, own_same h.row (fun k hk => hb.block k (own_lt h.row k hk))⟩
theorem HM.apart {w : World} {B b : Nat} {H : Ms.Hd} {fv : Value} (h : HM w B b H fv) : ∀ k, fv.ownBlock = some k → k ≠ b := own_apart h.row h.obj (by decide)
/-- A cell of the head is written. -/
theorem HM.set {w : World} {B b : Nat} {H H' : Ms.Hd} {fv : Value} (h : HM w B b H fv) (i : Nat) (v : Value) (hc : (hdC H fv).setIfInBounds i v = hdC H' fv) (hf : H'.fs = H.fs) : HM (w.setCell ⟨b, i, none⟩ v) B b H' fv :=
  ⟨h.lo, hc ▸ h.obj.set i v, by rw [hf]; exact own_same h.row (fun k hk => (upd_setCell w b i v).block k (h.apart k hk))⟩

set_option maxHeartbeats 1000000 in
theorem csay14_no (b off : Nat) (v : ByteArray) (w : World) (c1 : w.cell? ⟨b, off + 1, none⟩ = some (.bool true)) :
    Calls Tryd.prog 30 #[.pointer (some ⟨b, off, none⟩), .string v] w fun e w' => e = .returned (.bool false) ∧ w' = w := by
  go_enter Tryd.func30, Tryd.ntmps30
  go_wp2
  go_ret
  exact ⟨rfl, rfl⟩

set_option maxHeartbeats 1000000 in
theorem csay14_yes (b off : Nat) (x v : ByteArray) (w : World) (c0 : w.cell? ⟨b, off, none⟩ = some (.string x)) (c1 : w.cell? ⟨b, off + 1, none⟩ = some (.bool false)) (f0 : w.frozen? ⟨b, off, none⟩ = false) (f1 : w.frozen? ⟨b, off + 1, none⟩ = false) :
    Calls Tryd.prog 30 #[.pointer (some ⟨b, off, none⟩), .string v] w fun e w' => e = .returned (.bool true) ∧ w' = (w.setCell ⟨b, off, none⟩ (.string v)).setCell ⟨b, off + 1, none⟩ (.bool true) := by
  go_enter Tryd.func30, Tryd.ntmps30
  go_wp2
  go_ret
  exact ⟨rfl, rfl⟩

def psV (b : Nat) (n : ByteArray) : Value :=
  if n.toList == [58, 109, 101, 116, 104, 111, 100] then .pointer (some ⟨b, 0, none⟩)
  else if n.toList == [58, 115, 99, 104, 101, 109, 101] then .pointer (some ⟨b, 2, none⟩)
  else if n.toList == [58, 112, 97, 116, 104] then .pointer (some ⟨b, 4, none⟩)
  else if n.toList == [58, 97, 117, 116, 104, 111, 114, 105, 116, 121] then .pointer (some ⟨b, 6, none⟩)
  else .pointer none

set_option maxHeartbeats 1000000 in
theorem cpseudo14 (b : Nat) (n : ByteArray) (w : World) : Calls Tryd.prog 29 #[.pointer (some ⟨b, 0, none⟩), .string n] w fun e w' => e = .returned (psV b n) ∧ w' = w := by
  unfold psV
  cases c1 : (n.toList == [58, 109, 101, 116, 104, 111, 100])
  · cases c2 : (n.toList == [58, 115, 99, 104, 101, 109, 101])
    · cases c3 : (n.toList == [58, 112, 97, 116, 104])
      · cases c4 : (n.toList == [58, 97, 117, 116, 104, 111, 114, 105, 116, 121])
        · go_enter Tryd.func29, Tryd.ntmps29
          go_wp2
          go_ret
          exact ⟨rfl, rfl⟩
        · go_enter Tryd.func29, Tryd.ntmps29
          go_wp2
          go_ret
          exact ⟨rfl, rfl⟩
      · go_enter Tryd.func29, Tryd.ntmps29
        go_wp2
        go_ret
        exact ⟨rfl, rfl⟩
    · go_enter Tryd.func29, Tryd.ntmps29
      go_wp2
      go_ret
      exact ⟨rfl, rfl⟩
  · go_enter Tryd.func29, Tryd.ntmps29
    go_wp2
    go_ret
    exact ⟨rfl, rfl⟩

end Go.Proofs.YtkfekopenahmdaaDoor

namespace Go.Proofs.YtkfekopenahmdaaDoor
open Go.RowKit

set_option maxHeartbeats 2000000 in
set_option maxRecDepth 20000 in
theorem caps_bg (b : Nat) (f : Fd) (w : World) (h : w.cell? ⟨b, 10, none⟩ = some (.bool true)) :
    Calls Tryd.prog 18 #[.pointer (some ⟨b, 0, none⟩), .agg #[.string f.n, .string f.v]] w fun e w' => e = .returned (.int .i64 140) ∧ Below w.heap.size w w' := by
  have hb := bl_alloc w (.cells #[.string f.n, .string f.v] 30)
  have HA := hid' (fd_new w f)
  have HB := hid' hb
  have g := (hb.cell (cell_lt h)).trans h
  obtain ⟨pv, hpv⟩ : ∃ pv, psV b f.n = pv := ⟨_, rfl⟩
  have HP : Hid (∀ W, Calls Tryd.prog 29 #[.pointer (some ⟨b, 0, none⟩), .string f.n] W fun e w' => e = .returned pv ∧ w' = W) := hid' (fun W => by have := cpseudo14 b f.n W; rwa [hpv] at this)
  clear h hb hpv
  go_enter Tryd.func18, Tryd.ntmps18
  go_wp2_with fail
  refine (HP.out _).mono ?_
  rintro e w1 ⟨rfl, hw⟩
  subst w1
  go_wp2
  go_ret
  exact ⟨rfl, HB.out⟩

set_option maxHeartbeats 2000000 in
set_option maxRecDepth 20000 in
theorem caps_none (b : Nat) (f : Fd) (w : World) (h : w.cell? ⟨b, 10, none⟩ = some (.bool false)) (hpv : psV b f.n = .pointer none) :
    Calls Tryd.prog 18 #[.pointer (some ⟨b, 0, none⟩), .agg #[.string f.n, .string f.v]] w fun e w' => e = .returned (.int .i64 140) ∧ Below w.heap.size w w' := by
  have hb := bl_alloc w (.cells #[.string f.n, .string f.v] 30)
  have HA := hid' (fd_new w f)
  have HB := hid' hb
  have g := (hb.cell (cell_lt h)).trans h
  have HP : Hid (∀ W, Calls Tryd.prog 29 #[.pointer (some ⟨b, 0, none⟩), .string f.n] W fun e w' => e = .returned (.pointer none) ∧ w' = W) := hid' (fun W => by have := cpseudo14 b f.n W; rwa [hpv] at this)
  clear h hb hpv
  go_enter Tryd.func18, Tryd.ntmps18
  go_wp2_with fail
  refine (HP.out _).mono ?_
  rintro e w1 ⟨rfl, hw⟩
  subst w1
  go_wp2
  go_ret
  exact ⟨rfl, HB.out⟩

set_option maxHeartbeats 2000000 in
set_option maxRecDepth 20000 in
theorem caps_said (b off : Nat) (f : Fd) (w : World) (h : w.cell? ⟨b, 10, none⟩ = some (.bool false)) (hpv : psV b f.n = .pointer (some ⟨b, off, none⟩)) (c1 : w.cell? ⟨b, off + 1, none⟩ = some (.bool true)) :
    Calls Tryd.prog 18 #[.pointer (some ⟨b, 0, none⟩), .agg #[.string f.n, .string f.v]] w fun e w' => e = .returned (.int .i64 140) ∧ Below w.heap.size w w' := by
  have hb := bl_alloc w (.cells #[.string f.n, .string f.v] 30)
  have HA := hid' (fd_new w f)
  have HB := hid' hb
  have g := (hb.cell (cell_lt h)).trans h
  have HS := hid' (csay14_no b off f.v (w.alloc (.cells #[.string f.n, .string f.v] 30)) ((hb.cell (cell_lt c1)).trans c1))
  have HP : Hid (∀ W, Calls Tryd.prog 29 #[.pointer (some ⟨b, 0, none⟩), .string f.n] W fun e w' => e = .returned (.pointer (some ⟨b, off, none⟩)) ∧ w' = W) := hid' (fun W => by have := cpseudo14 b f.n W; rwa [hpv] at this)
  clear h hb hpv c1
  go_enter Tryd.func18, Tryd.ntmps18
  go_wp2_with fail
  refine (HP.out _).mono ?_
  rintro e w1 ⟨rfl, hw⟩
  subst w1
  go_wp2_with fail
  refine HS.out.mono ?_
  rintro e w1 ⟨rfl, hw⟩
  subst w1
  go_wp2
  go_ret
  exact ⟨rfl, HB.out⟩

set_option maxHeartbeats 2000000 in
set_option maxRecDepth 20000 in
theorem caps_new (b off : Nat) (x : ByteArray) (f : Fd) (w : World) (h : w.cell? ⟨b, 10, none⟩ = some (.bool false)) (hpv : psV b f.n = .pointer (some ⟨b, off, none⟩)) (c0 : w.cell? ⟨b, off, none⟩ = some (.string x)) (c1 : w.cell? ⟨b, off + 1, none⟩ = some (.bool false)) (hfr : ∀ W, Below w.heap.size w W → ∀ i, W.frozen? ⟨b, i, none⟩ = false) :
    Calls Tryd.prog 18 #[.pointer (some ⟨b, 0, none⟩), .agg #[.string f.n, .string f.v]] w fun e w' => e = .returned (.int .i64 0) ∧ ∃ w1, Below w.heap.size w w1 ∧ w' = (w1.setCell ⟨b, off, none⟩ (.string f.v)).setCell ⟨b, off + 1, none⟩ (.bool true) := by
  have hb := bl_alloc w (.cells #[.string f.n, .string f.v] 30)
  have HA := hid' (fd_new w f)
  have HB := hid' hb
  have g := (hb.cell (cell_lt h)).trans h
  have HS := hid' (csay14_yes b off x f.v (w.alloc (.cells #[.string f.n, .string f.v] 30)) ((hb.cell (cell_lt c0)).trans c0) ((hb.cell (cell_lt c1)).trans c1) (hfr _ hb _) (hfr _ hb _))
  have HP : Hid (∀ W, Calls Tryd.prog 29 #[.pointer (some ⟨b, 0, none⟩), .string f.n] W fun e w' => e = .returned (.pointer (some ⟨b, off, none⟩)) ∧ w' = W) := hid' (fun W => by have := cpseudo14 b f.n W; rwa [hpv] at this)
  clear h hb hpv c1 c0 hfr
  go_enter Tryd.func18, Tryd.ntmps18
  go_wp2_with fail
  refine (HP.out _).mono ?_
  rintro e w1 ⟨rfl, hw⟩
  subst w1
  go_wp2_with fail
  refine HS.out.mono ?_
  rintro e w2 ⟨rfl, hw⟩
  have HW := hid' hw
  clear hw
  go_wp2
  go_ret
  exact ⟨rfl, _, HB.out, HW.out⟩

theorem caddps14 (B b : Nat) (P : List Fd) (f : Fd) (fv : Value) (w : World) (h : HM w B b (Ms.hof P) fv) :
    Calls Tryd.prog 18 #[.pointer (some ⟨b, 0, none⟩), .agg #[.string f.n, .string f.v]] w fun e w' => Below B w w' ∧ ((Ms.bad1 P (Ms.hof P).bg f = true ∧ e = .returned (.int .i64 140)) ∨ (Ms.bad1 P (Ms.hof P).bg f = false ∧ e = .returned (.int .i64 0) ∧ HM w' B b (Ms.hof (P ++ [f])) fv)) := by
  have hBw : B ≤ w.heap.size := Nat.le_trans h.lo (Nat.le_of_lt h.obj.lt)
  have bad : (Ms.bad1 P (Ms.hof P).bg f = true) → (Calls Tryd.prog 18 #[.pointer (some ⟨b, 0, none⟩), .agg #[.string f.n, .string f.v]] w fun e w' => e = .returned (.int .i64 140) ∧ Below w.heap.size w w') → Calls Tryd.prog 18 #[.pointer (some ⟨b, 0, none⟩), .agg #[.string f.n, .string f.v]] w fun e w' => Below B w w' ∧ ((Ms.bad1 P (Ms.hof P).bg f = true ∧ e = .returned (.int .i64 140)) ∨ (Ms.bad1 P (Ms.hof P).bg f = false ∧ e = .returned (.int .i64 0) ∧ HM w' B b (Ms.hof (P ++ [f])) fv)) :=
    fun h1 h2 => h2.mono fun e w' ⟨he, hb⟩ => ⟨hb.mono hBw, .inl ⟨h1, he⟩⟩
  have g10 : w.cell? ⟨b, 10, none⟩ = some (.bool (Ms.hof P).bg) := h.obj.cell 10 _ rfl
  cases hbg : (Ms.hof P).bg
  rotate_left
  · rw [hbg] at g10
    rw [hbg] at bad
    exact bad (by unfold Ms.bad1; rfl) (caps_bg b f w g10)
  rw [hbg] at g10
  have hfr : ∀ W, Below w.heap.size w W → ∀ i, W.frozen? ⟨b, i, none⟩ = false := fun W hb i => (h.obj.keep hb).free i
  have fin : ∀ (off : Nat) (H' : Ms.Hd), psV b f.n = .pointer (some ⟨b, off, none⟩) → ∀ x, w.cell? ⟨b, off, none⟩ = some (.string x) → w.cell? ⟨b, off + 1, none⟩ = some (.bool false) → Ms.bad1 P false f = false → Ms.hof (P ++ [f]) = H' → ((hdC (Ms.hof P) fv).setIfInBounds off (.string f.v)).setIfInBounds (off + 1) (.bool true) = hdC H' fv → H'.fs = (Ms.hof P).fs →
      Calls Tryd.prog 18 #[.pointer (some ⟨b, 0, none⟩), .agg #[.string f.n, .string f.v]] w fun e w' => Below B w w' ∧ ((Ms.bad1 P false f = true ∧ e = .returned (.int .i64 140)) ∨ (Ms.bad1 P false f = false ∧ e = .returned (.int .i64 0) ∧ HM w' B b (Ms.hof (P ++ [f])) fv)) := by
    intro off H' hp x c0 c1 hbad hof hset hfs
    refine (caps_new b off x f w g10 hp c0 c1 hfr).mono ?_
    rintro e w' ⟨he, w1, hb1, rfl⟩
    have h1 := h.keep hb1
    refine ⟨((hb1.mono hBw).setCell h.lo _).setCell h.lo _, .inr ⟨hbad, he, ?_⟩⟩
    rw [hof]
    refine ⟨h.lo, ?_, ?_⟩
    · rw [← hset]; exact (h1.obj.set off _).set (off + 1) _
    · rw [hfs]
      exact own_same h1.row (fun k hk => ((upd_setCell _ b (off + 1) _).block k (h1.apart k hk)).trans ((upd_setCell w1 b off _).block k (h1.apart k hk)))
  cases c1 : (f.n.toList == Ms.sMethod)
  · cases c2 : (f.n.toList == Ms.sScheme)
    · cases c3 : (f.n.toList == Ms.sPath)
      · cases c4 : (f.n.toList == Ms.sAuth)
        · rw [hbg] at bad
          refine bad ?_ (caps_none b f w g10 ?_)
          · have : Ms.pss.contains f.n.toList = false := by
              simp only [Ms.pss, List.contains_cons, List.contains_nil]
              rw [show (f.n.toList == [58, 109, 101, 116, 104, 111, 100]) = false from c1, show (f.n.toList == [58, 115, 99, 104, 101, 109, 101]) = false from c2, show (f.n.toList == [58, 112, 97, 116, 104]) = false from c3, show (f.n.toList == [58, 97, 117, 116, 104, 111, 114, 105, 116, 121]) = false from c4]
              rfl
            unfold Ms.bad1
            rw [this]; simp
          · unfold psV
            rw [show (f.n.toList == [58, 109, 101, 116, 104, 111, 100]) = false from c1, show (f.n.toList == [58, 115, 99, 104, 101, 109, 101]) = false from c2, show (f.n.toList == [58, 112, 97, 116, 104]) = false from c3, show (f.n.toList == [58, 97, 117, 116, 104, 111, 114, 105, 116, 121]) = false from c4]
            rfl
        · have hp : psV b f.n = .pointer (some ⟨b, 6, none⟩) := by
            unfold psV
            rw [show (f.n.toList == [58, 109, 101, 116, 104, 111, 100]) = false from c1, show (f.n.toList == [58, 115, 99, 104, 101, 109, 101]) = false from c2, show (f.n.toList == [58, 112, 97, 116, 104]) = false from c3, show (f.n.toList == [58, 97, 117, 116, 104, 111, 114, 105, 116, 121]) = true from c4]
            rfl
          have hin : Ms.pss.contains f.n.toList = true := by rw [beq_iff_eq.1 c4]; decide
          have hx : Ms.fnd f.n.toList P = Ms.fnd Ms.sAuth P := by rw [beq_iff_eq.1 c4]
          cases hq : Ms.fnd Ms.sAuth P with
          | none =>
            exact fin 6 _ hp ((Ms.fnd Ms.sAuth P).getD ⟨#[]⟩) (h.obj.cell 6 _ rfl) (by have hz : w.cell? ⟨b, 7, none⟩ = some (.bool (Ms.fnd Ms.sAuth P).isSome) := h.obj.cell 7 _ rfl; rw [hz, hq]; rfl) (by unfold Ms.bad1; rw [hx, hq, hin]; rfl) (Ms.hof_a c4 hq) (by simp [hdC]) rfl
          | some v =>
            rw [hbg] at bad
            exact bad (by unfold Ms.bad1; rw [hx, hq]; simp) (caps_said b 6 f w g10 hp (by have hz : w.cell? ⟨b, 7, none⟩ = some (.bool (Ms.fnd Ms.sAuth P).isSome) := h.obj.cell 7 _ rfl; rw [hz, hq]; rfl))
      · have hp : psV b f.n = .pointer (some ⟨b, 4, none⟩) := by
          unfold psV
          rw [show (f.n.toList == [58, 109, 101, 116, 104, 111, 100]) = false from c1, show (f.n.toList == [58, 115, 99, 104, 101, 109, 101]) = false from c2, show (f.n.toList == [58, 112, 97, 116, 104]) = true from c3]
          rfl
        have hin : Ms.pss.contains f.n.toList = true := by rw [beq_iff_eq.1 c3]; decide
        have hx : Ms.fnd f.n.toList P = Ms.fnd Ms.sPath P := by rw [beq_iff_eq.1 c3]
        cases hq : Ms.fnd Ms.sPath P with
        | none =>
          exact fin 4 _ hp ((Ms.fnd Ms.sPath P).getD ⟨#[]⟩) (h.obj.cell 4 _ rfl) (by have hz : w.cell? ⟨b, 5, none⟩ = some (.bool (Ms.fnd Ms.sPath P).isSome) := h.obj.cell 5 _ rfl; rw [hz, hq]; rfl) (by unfold Ms.bad1; rw [hx, hq, hin]; rfl) (Ms.hof_p c3 hq) (by simp [hdC]) rfl
        | some v =>
          rw [hbg] at bad
          exact bad (by unfold Ms.bad1; rw [hx, hq]; simp) (caps_said b 4 f w g10 hp (by have hz : w.cell? ⟨b, 5, none⟩ = some (.bool (Ms.fnd Ms.sPath P).isSome) := h.obj.cell 5 _ rfl; rw [hz, hq]; rfl))
    · have hp : psV b f.n = .pointer (some ⟨b, 2, none⟩) := by
        unfold psV
        rw [show (f.n.toList == [58, 109, 101, 116, 104, 111, 100]) = false from c1, show (f.n.toList == [58, 115, 99, 104, 101, 109, 101]) = true from c2]
        rfl
      have hin : Ms.pss.contains f.n.toList = true := by rw [beq_iff_eq.1 c2]; decide
      have hx : Ms.fnd f.n.toList P = Ms.fnd Ms.sScheme P := by rw [beq_iff_eq.1 c2]
      cases hq : Ms.fnd Ms.sScheme P with
      | none =>
        exact fin 2 _ hp ((Ms.fnd Ms.sScheme P).getD ⟨#[]⟩) (h.obj.cell 2 _ rfl) (by have hz : w.cell? ⟨b, 3, none⟩ = some (.bool (Ms.fnd Ms.sScheme P).isSome) := h.obj.cell 3 _ rfl; rw [hz, hq]; rfl) (by unfold Ms.bad1; rw [hx, hq, hin]; rfl) (Ms.hof_s c2 hq) (by simp [hdC]) rfl
      | some v =>
        rw [hbg] at bad
        exact bad (by unfold Ms.bad1; rw [hx, hq]; simp) (caps_said b 2 f w g10 hp (by have hz : w.cell? ⟨b, 3, none⟩ = some (.bool (Ms.fnd Ms.sScheme P).isSome) := h.obj.cell 3 _ rfl; rw [hz, hq]; rfl))
  · have hp : psV b f.n = .pointer (some ⟨b, 0, none⟩) := by
      unfold psV
      rw [show (f.n.toList == [58, 109, 101, 116, 104, 111, 100]) = true from c1]
      rfl
    have hin : Ms.pss.contains f.n.toList = true := by rw [beq_iff_eq.1 c1]; decide
    have hx : Ms.fnd f.n.toList P = Ms.fnd Ms.sMethod P := by rw [beq_iff_eq.1 c1]
    cases hq : Ms.fnd Ms.sMethod P with
    | none =>
      exact fin 0 _ hp ((Ms.fnd Ms.sMethod P).getD ⟨#[]⟩) (h.obj.cell 0 _ rfl) (by have hz : w.cell? ⟨b, 1, none⟩ = some (.bool (Ms.fnd Ms.sMethod P).isSome) := h.obj.cell 1 _ rfl; rw [hz, hq]; rfl) (by unfold Ms.bad1; rw [hx, hq, hin]; rfl) (Ms.hof_m c1 hq) (by simp [hdC]) rfl
    | some v =>
      rw [hbg] at bad
      exact bad (by unfold Ms.bad1; rw [hx, hq]; simp) (caps_said b 0 f w g10 hp (by have hz : w.cell? ⟨b, 1, none⟩ = some (.bool (Ms.fnd Ms.sMethod P).isSome) := h.obj.cell 1 _ rfl; rw [hz, hq]; rfl))

end Go.Proofs.YtkfekopenahmdaaDoor

namespace Go.Proofs.YtkfekopenahmdaaDoor
open Go.RowKit


set_option maxHeartbeats 4000000 in
set_option maxRecDepth 20000 in
theorem caf_no (B b : Nat) (H : Ms.Hd) (f : Fd) (fv : Value) (w : World) (h : HM w B b H fv) (hpl : Ms.plain f = false) (hn : f.n.size ≤ 140737488355328) (hv : f.v.size ≤ 140737488355328) :
    Calls Tryd.prog 19 #[.pointer (some ⟨b, 0, none⟩), .agg #[.string f.n, .string f.v]] w fun e w' => e = .returned (.int .i64 141) ∧ Below B w w' := by
  have hBw : B ≤ w.heap.size := Nat.le_trans h.lo (Nat.le_of_lt h.obj.lt)
  have hb := bl_alloc w (.cells #[.string f.n, .string f.v] 30)
  have hA := fd_new w f
  have HP := hid' (cplain14 f false hpl (w.alloc (.cells #[.string f.n, .string f.v] 30)) hn hv)
  have hbx : b ≠ w.heap.size := Nat.ne_of_lt h.obj.lt
  have HBX := hid' hbx
  have H0 := hid' h
  have HBW := hid' hBw
  go_enter Tryd.func19, Tryd.ntmps19
  go_wp2_with fail
  obtain ⟨xb, hxb⟩ : ∃ xb, w.heap.size = xb := ⟨_, rfl⟩
  refine HP.out.mono ?_
  rintro e w1 ⟨rfl, hb1⟩
  have HB1 := hid' (below_two hb hb1)
  have HA1 : Hid (Ar w1 xb 30 #[.string f.n, .string f.v]) := hid' (hxb ▸ hA.keep hb1)
  have HX1 : Hid (HM w1 B b H fv) := hid' (h.keep (below_two hb hb1))
  have x0 := HA1.out.cell 0 _ rfl
  have x1 := HA1.out.cell 1 _ rfl
  rw [hxb] at HBX ⊢
  clear hb hA hb1 hbx hBw h hpl hn hv HP
  clear hxb
  go_wp2
  go_ret
  exact ⟨rfl, HB1.out.mono HBW.out⟩

set_option maxHeartbeats 4000000 in
set_option maxRecDepth 20000 in
theorem caf_te_no (B b : Nat) (H : Ms.Hd) (f : Fd) (fv : Value) (w : World) (h : HM w B b H fv) (hpl : Ms.plain f = true) (c1 : (f.n.toList == [116, 101]) = true) (c2 : (f.v.toList == [116, 114, 97, 105, 108, 101, 114, 115]) = false) (hn : f.n.size ≤ 140737488355328) (hv : f.v.size ≤ 140737488355328) :
    Calls Tryd.prog 19 #[.pointer (some ⟨b, 0, none⟩), .agg #[.string f.n, .string f.v]] w fun e w' => e = .returned (.int .i64 141) ∧ Below B w w' := by
  have hBw : B ≤ w.heap.size := Nat.le_trans h.lo (Nat.le_of_lt h.obj.lt)
  have hb := bl_alloc w (.cells #[.string f.n, .string f.v] 30)
  have hA := fd_new w f
  have HP := hid' (cplain14 f true hpl (w.alloc (.cells #[.string f.n, .string f.v] 30)) hn hv)
  have hbx : b ≠ w.heap.size := Nat.ne_of_lt h.obj.lt
  have HBX := hid' hbx
  have H0 := hid' h
  have HBW := hid' hBw
  go_enter Tryd.func19, Tryd.ntmps19
  go_wp2_with fail
  obtain ⟨xb, hxb⟩ : ∃ xb, w.heap.size = xb := ⟨_, rfl⟩
  refine HP.out.mono ?_
  rintro e w1 ⟨rfl, hb1⟩
  have HB1 := hid' (below_two hb hb1)
  have HA1 : Hid (Ar w1 xb 30 #[.string f.n, .string f.v]) := hid' (hxb ▸ hA.keep hb1)
  have HX1 : Hid (HM w1 B b H fv) := hid' (h.keep (below_two hb hb1))
  have x0 := HA1.out.cell 0 _ rfl
  have x1 := HA1.out.cell 1 _ rfl
  rw [hxb] at HBX ⊢
  clear hb hA hb1 hbx hBw h hpl hn hv HP
  have c3 : (f.v.toList != [116, 114, 97, 105, 108, 101, 114, 115]) = true := by unfold bne; rw [c2]; rfl
  clear hxb
  go_wp2
  go_ret
  exact ⟨rfl, HB1.out.mono HBW.out⟩

set_option maxHeartbeats 4000000 in
set_option maxRecDepth 20000 in
theorem caf_te (B b : Nat) (H : Ms.Hd) (f : Fd) (fv : Value) (w : World) (h : HM w B b H fv) (hpl : Ms.plain f = true) (c1 : (f.n.toList == [116, 101]) = true) (c2 : (f.v.toList == [116, 114, 97, 105, 108, 101, 114, 115]) = true) (hn : f.n.size ≤ 140737488355328) (hv : f.v.size ≤ 140737488355328) :
    Calls Tryd.prog 19 #[.pointer (some ⟨b, 0, none⟩), .agg #[.string f.n, .string f.v]] w fun e w' => e = .returned (.int .i64 0) ∧ Below B w w' ∧ HM w' B b H fv := by
  have hBw : B ≤ w.heap.size := Nat.le_trans h.lo (Nat.le_of_lt h.obj.lt)
  have hb := bl_alloc w (.cells #[.string f.n, .string f.v] 30)
  have hA := fd_new w f
  have HP := hid' (cplain14 f true hpl (w.alloc (.cells #[.string f.n, .string f.v] 30)) hn hv)
  have hbx : b ≠ w.heap.size := Nat.ne_of_lt h.obj.lt
  have HBX := hid' hbx
  have H0 := hid' h
  have HBW := hid' hBw
  go_enter Tryd.func19, Tryd.ntmps19
  go_wp2_with fail
  obtain ⟨xb, hxb⟩ : ∃ xb, w.heap.size = xb := ⟨_, rfl⟩
  refine HP.out.mono ?_
  rintro e w1 ⟨rfl, hb1⟩
  have HB1 := hid' (below_two hb hb1)
  have HA1 : Hid (Ar w1 xb 30 #[.string f.n, .string f.v]) := hid' (hxb ▸ hA.keep hb1)
  have HX1 : Hid (HM w1 B b H fv) := hid' (h.keep (below_two hb hb1))
  have x0 := HA1.out.cell 0 _ rfl
  have x1 := HA1.out.cell 1 _ rfl
  rw [hxb] at HBX ⊢
  clear hb hA hb1 hbx hBw h hpl hn hv HP
  have c3 : (f.v.toList != [116, 114, 97, 105, 108, 101, 114, 115]) = false := by unfold bne; rw [c2]; rfl
  clear hxb
  go_wp2
  go_ret
  exact ⟨rfl, HB1.out.mono HBW.out, HX1.out⟩

set_option maxHeartbeats 4000000 in
set_option maxRecDepth 20000 in
theorem caf_host_no (B b : Nat) (H : Ms.Hd) (f : Fd) (fv : Value) (w : World) (h : HM w B b H fv) (hpl : Ms.plain f = true) (c0 : (f.n.toList == [116, 101]) = false) (c1 : (f.n.toList == [104, 111, 115, 116]) = true) (v : ByteArray) (c2 : H.h = some v) (hn : f.n.size ≤ 140737488355328) (hv : f.v.size ≤ 140737488355328) :
    Calls Tryd.prog 19 #[.pointer (some ⟨b, 0, none⟩), .agg #[.string f.n, .string f.v]] w fun e w' => e = .returned (.int .i64 141) ∧ Below B w w' := by
  have hBw : B ≤ w.heap.size := Nat.le_trans h.lo (Nat.le_of_lt h.obj.lt)
  have hb := bl_alloc w (.cells #[.string f.n, .string f.v] 30)
  have hA := fd_new w f
  have HP := hid' (cplain14 f true hpl (w.alloc (.cells #[.string f.n, .string f.v] 30)) hn hv)
  have hbx : b ≠ w.heap.size := Nat.ne_of_lt h.obj.lt
  have HBX := hid' hbx
  have H0 := hid' h
  have HBW := hid' hBw
  go_enter Tryd.func19, Tryd.ntmps19
  go_wp2_with fail
  obtain ⟨xb, hxb⟩ : ∃ xb, w.heap.size = xb := ⟨_, rfl⟩
  refine HP.out.mono ?_
  rintro e w1 ⟨rfl, hb1⟩
  have HB1 := hid' (below_two hb hb1)
  have HA1 : Hid (Ar w1 xb 30 #[.string f.n, .string f.v]) := hid' (hxb ▸ hA.keep hb1)
  have HX1 : Hid (HM w1 B b H fv) := hid' (h.keep (below_two hb hb1))
  have x0 := HA1.out.cell 0 _ rfl
  have x1 := HA1.out.cell 1 _ rfl
  rw [hxb] at HBX ⊢
  clear hb hA hb1 hbx hBw h hpl hn hv HP
  have g9 : w1.cell? ⟨b, 9, none⟩ = some (.bool true) := by have hz : w1.cell? ⟨b, 9, none⟩ = some (.bool H.h.isSome) := HX1.out.obj.cell 9 _ rfl; rw [hz, c2]; rfl
  have HSY : Hid (Calls Tryd.prog 30 #[.pointer (some ⟨b, 8, none⟩), .string f.v] w1.drew fun e w' => e = .returned (.bool false) ∧ w' = w1.drew) := hid' (csay14_no b 8 f.v w1.drew g9)
  clear hxb g9
  go_wp2
  have hS0 : w1.drew.cell? ⟨xb, 1, none⟩ = some (.string f.v) := x1
  go_region_held3 (fun W => W.cell? ⟨xb, 1, none⟩ = some (.string f.v)) (first | assumption) (first | (go_at_call 30; refine HSY.out.mono ?_; rintro e w2 ⟨rfl, hw2⟩; subst w2))
  have HB2 : Hid (Below B w w1.drew) := hid' ((HB1.out.mono HBW.out).drew)
  clear hS0
  go_wp2
  go_ret
  exact ⟨rfl, HB2.out⟩

set_option maxHeartbeats 4000000 in
set_option maxRecDepth 20000 in
theorem caf_host (B b : Nat) (H : Ms.Hd) (f : Fd) (fv : Value) (w : World) (h : HM w B b H fv) (hpl : Ms.plain f = true) (c0 : (f.n.toList == [116, 101]) = false) (c1 : (f.n.toList == [104, 111, 115, 116]) = true) (c2 : H.h = none) (hn : f.n.size ≤ 140737488355328) (hv : f.v.size ≤ 140737488355328) :
    Calls Tryd.prog 19 #[.pointer (some ⟨b, 0, none⟩), .agg #[.string f.n, .string f.v]] w fun e w' => e = .returned (.int .i64 0) ∧ Below B w w' ∧ HM w' B b { H with h := some f.v } fv := by
  have hBw : B ≤ w.heap.size := Nat.le_trans h.lo (Nat.le_of_lt h.obj.lt)
  have hb := bl_alloc w (.cells #[.string f.n, .string f.v] 30)
  have hA := fd_new w f
  have HP := hid' (cplain14 f true hpl (w.alloc (.cells #[.string f.n, .string f.v] 30)) hn hv)
  have hbx : b ≠ w.heap.size := Nat.ne_of_lt h.obj.lt
  have HBX := hid' hbx
  have H0 := hid' h
  have HBW := hid' hBw
  go_enter Tryd.func19, Tryd.ntmps19
  go_wp2_with fail
  obtain ⟨xb, hxb⟩ : ∃ xb, w.heap.size = xb := ⟨_, rfl⟩
  refine HP.out.mono ?_
  rintro e w1 ⟨rfl, hb1⟩
  have HB1 := hid' (below_two hb hb1)
  have HA1 : Hid (Ar w1 xb 30 #[.string f.n, .string f.v]) := hid' (hxb ▸ hA.keep hb1)
  have HX1 : Hid (HM w1 B b H fv) := hid' (h.keep (below_two hb hb1))
  have x0 := HA1.out.cell 0 _ rfl
  have x1 := HA1.out.cell 1 _ rfl
  rw [hxb] at HBX ⊢
  clear hb hA hb1 hbx hBw h hpl hn hv HP
  have g8 : w1.cell? ⟨b, 8, none⟩ = some (.string (H.h.getD ⟨#[]⟩)) := HX1.out.obj.cell 8 _ rfl
  have g9 : w1.cell? ⟨b, 9, none⟩ = some (.bool false) := by have hz : w1.cell? ⟨b, 9, none⟩ = some (.bool H.h.isSome) := HX1.out.obj.cell 9 _ rfl; rw [hz, c2]; rfl
  have HSY : Hid (Calls Tryd.prog 30 #[.pointer (some ⟨b, 8, none⟩), .string f.v] w1.drew fun e w' => e = .returned (.bool true) ∧ w' = (w1.drew.setCell ⟨b, 8, none⟩ (.string f.v)).setCell ⟨b, 9, none⟩ (.bool true)) := hid' (csay14_yes b 8 _ f.v w1.drew g8 g9 (HX1.out.obj.free 8) (HX1.out.obj.free 9))
  have HM2 : Hid (HM ((w1.drew.setCell ⟨b, 8, none⟩ (.string f.v)).setCell ⟨b, 9, none⟩ (.bool true)) B b { H with h := some f.v } fv) := hid' (by
    have h1 := HX1.out.keep ((Below.refl _ w1).drew)
    refine ⟨h1.lo, ?_, ?_⟩
    · have := (h1.obj.set 8 (.string f.v)).set 9 (.bool true)
      have e : ((hdC H fv).setIfInBounds 8 (.string f.v)).setIfInBounds 9 (.bool true) = hdC { H with h := some f.v } fv := by simp [hdC]
      rw [e] at this
      exact this
    · exact own_same h1.row (fun k hk => ((upd_setCell _ b 9 _).block k (h1.apart k hk)).trans ((upd_setCell w1.drew b 8 _).block k (h1.apart k hk))))
  have HB2 : Hid (Below B w ((w1.drew.setCell ⟨b, 8, none⟩ (.string f.v)).setCell ⟨b, 9, none⟩ (.bool true))) := hid' ((((HB1.out.mono HBW.out).drew).setCell HX1.out.lo _).setCell HX1.out.lo _)
  have hne : xb ≠ b := fun e => HBX.out e.symm
  have hS1 : ((w1.drew.setCell ⟨b, 8, none⟩ (.string f.v)).setCell ⟨b, 9, none⟩ (.bool true)).cell? ⟨xb, 1, none⟩ = some (.string f.v) := (World.cell?_of_block (((upd_setCell _ b 9 _).block xb hne).trans ((upd_setCell w1.drew b 8 _).block xb hne))).trans x1
  clear hxb g8 g9 hne
  go_wp2
  have hS0 : w1.drew.cell? ⟨xb, 1, none⟩ = some (.string f.v) := x1
  generalize (w1.drew.setCell ⟨b, 8, none⟩ (.string f.v)).setCell ⟨b, 9, none⟩ (.bool true) = w2 at *
  go_region_held3 (fun W => W.cell? ⟨xb, 1, none⟩ = some (.string f.v)) (first | assumption) (first | (go_at_call 30; refine HSY.out.mono ?_; rintro e w3 ⟨rfl, hw3⟩; subst w3))
  clear hS0 hS1
  go_wp2
  go_ret
  exact ⟨rfl, HB2.out, HM2.out⟩

end Go.Proofs.YtkfekopenahmdaaDoor

namespace Go.Proofs.YtkfekopenahmdaaDoor
open Go.RowKit

section
variable {P : Program} {w : World}
/-- An append to a row of one's own in a region that draws, with where the new row lies. -/
theorem step_app14 {ops : Array Oper} {o : Oper} {a : Act} {K : Act → World → Prop} {Q : Exit → Act → World → Prop} {E : Prop} (hgd : o.guard = none) (s x : Operand) (t : TypeId)
    (ho : o.op = .call { callee := .builtin .append, args := #[s, x], argTypes := #[t, t] })
    (base : Nat) (e : TypeId) (i : TypeInfo) (z : Value) (size bytes : Nat) (ht : P.underlying t = some (.slice e)) (hi : P.info? e = some i) (hz : i.zero = some z)
    (hsize : i.size = size) (hby : i.bytes = bytes) (hzs : z.cells.size = size) (hsz : 0 < size)
    (v : Value) (n : Nat) (xs : List Value) (hs : a.eval s = v) (hown : w.ownsRow base e size v n xs)
    (ad : Addr) (m c : Nat) (news : List Value) (hx : a.eval x = .slice (some ad) m c) (hl : news.length = m * size) (hnews : ∀ j u, news[j]? = some u → w.cell? (ad.add j) = some u) (h1 : ∀ u ∈ news, u.oneCell' = true)
    (h63 : n + m ≤ maxLen) (hbytes : (n + m) * bytes ≤ 140737488355328) (hbase : base ≤ w.heap.size)
    (h : ∀ v' w', w'.ownsRow base e size v' (n + m) (xs ++ news) → w.grownBy w' v.ownBlock → (v'.ownBlock = v.ownBlock ∨ v'.ownBlock = some w.heap.size) → K (a.put o.dst v') w') :
    if Region.wanted o (yielded ops a.tmps) = true then Oper.wp P o a w K Q else E := by
  have hw : Region.wanted o (yielded ops a.tmps) = true := by simp [Region.wanted, hgd]
  rw [if_pos hw]
  obtain ⟨v', w', hr, h2, h3, _, h5⟩ := run_append_own_at (P := P) w base t o.type e i z size bytes ht hi hz hsize hby hzs hsz v n xs hown ad m c news hl hnews h1 h63 hbytes hbase
  unfold Oper.wp execOp
  simp only [ho, resolve, invoke, builtin, Sem.run_bind, Sem.run_pure, Result.andThen_ok, List.map_toArray, List.map_cons, List.map_nil, hs, hx, hr]
  exact h v' w' h2 h3 h5

end
set_option maxHeartbeats 4000000 in
set_option maxRecDepth 20000 in
theorem caf_app (B b : Nat) (H : Ms.Hd) (f : Fd) (fv : Value) (w : World) (h : HM w B b H fv) (hpl : Ms.plain f = true) (c0 : (f.n.toList == [116, 101]) = false) (c1 : (f.n.toList == [104, 111, 115, 116]) = false) (hl : H.fs.length ≤ 4398046510976) (hn : f.n.size ≤ 140737488355328) (hv : f.v.size ≤ 140737488355328) :
    Calls Tryd.prog 19 #[.pointer (some ⟨b, 0, none⟩), .agg #[.string f.n, .string f.v]] w fun e w' => e = .returned (.int .i64 0) ∧ Below B w w' ∧ ∃ fv', HM w' B b { H with fs := H.fs ++ [f] } fv' := by
  have hBw : B ≤ w.heap.size := Nat.le_trans h.lo (Nat.le_of_lt h.obj.lt)
  have hb := bl_alloc w (.cells #[.string f.n, .string f.v] 30)
  have hA := fd_new w f
  have HP := hid' (cplain14 f true hpl (w.alloc (.cells #[.string f.n, .string f.v] 30)) hn hv)
  have hbx : b ≠ w.heap.size := Nat.ne_of_lt h.obj.lt
  have HBX := hid' hbx
  have H0 := hid' h
  have HBW := hid' hBw
  go_enter Tryd.func19, Tryd.ntmps19
  go_wp2_with fail
  obtain ⟨xb, hxb⟩ : ∃ xb, w.heap.size = xb := ⟨_, rfl⟩
  refine HP.out.mono ?_
  rintro e w1 ⟨rfl, hb1⟩
  have HB1 := hid' (below_two hb hb1)
  have HA1 : Hid (Ar w1 xb 30 #[.string f.n, .string f.v]) := hid' (hxb ▸ hA.keep hb1)
  have HX1 : Hid (HM w1 B b H fv) := hid' (h.keep (below_two hb hb1))
  have x0 := HA1.out.cell 0 _ rfl
  have x1 := HA1.out.cell 1 _ rfl
  rw [hxb] at HBX ⊢
  clear hb hA hb1 hbx hBw h hpl hn hv HP
  obtain ⟨i0, hi0, hz0, hz1, hz2⟩ := minfo_parts infoF14
  have HI := hid' hi0
  have HZ0 := hid' hz0
  have HZ1 := hid' hz1
  have HZ2 := hid' hz2
  clear hi0 hz0 hz1 hz2 hxb
  obtain ⟨ao, cap, hfv⟩ := own_shape HX1.out.row
  subst hfv
  obtain ⟨n, hn⟩ : ∃ n, H.fs.length = n := ⟨_, rfl⟩
  have HN := hid' hn
  rw [hn] at hl
  obtain ⟨xs, hxs⟩ : ∃ xs, fC H.fs = xs := ⟨_, rfl⟩
  have HR : Hid (w1.ownsRow B 30 2 (.slice ao n cap) n xs) := hid' (by have := HX1.out.row; rwa [hn, hxs] at this)
  have HO : Hid (Ar w1 b 38 (hdC H (.slice ao n cap))) := hid' (by have := HX1.out.obj; rwa [hn] at this)
  have HXS := hid' hxs
  have g11 : w1.cell? ⟨b, 11, none⟩ = some (.slice ao n cap) := HO.out.cell 11 _ rfl
  have f11 := HO.out.free 11
  have hob : ∀ k, (Value.slice ao n cap).ownBlock = some k → k ≠ b := own_apart HR.out HO.out (by decide)
  have hS : w1.cell? ⟨b, 11, none⟩ = some (.slice ao n cap) ∧ w1.cell? ⟨xb, 0, none⟩ = some (.string f.n) ∧ w1.cell? ⟨xb, 1, none⟩ = some (.string f.v) ∧ w1.frozen? ⟨b, 11, none⟩ = false := ⟨g11, x0, x1, f11⟩
  clear hn hxs HX1
  go_wp2
  obtain ⟨w00, hw00⟩ : ∃ w00, w00 = (w1.alloc (.cells #[.string f.n, .string f.v] 30)).drew := ⟨_, rfl⟩
  have hb00 : Below w1.heap.size w1 w00 := by rw [hw00]; exact ((Below.refl _ _).alloc (Nat.le_refl _) _).drew
  have hO00 := HO.out.keep hb00
  have hR00 : w00.ownsRow B 30 2 (.slice ao n cap) n xs := own_same HR.out (fun k hk => hb00.block k (own_lt HR.out k hk))
  have hnews : ∀ j u, [Value.string f.n, .string f.v][j]? = some u → w00.cell? ((⟨w1.heap.size, 0, none⟩ : Addr).add j) = some u := by
    intro j u hj
    have hA : Ar w00 w1.heap.size 30 #[.string f.n, .string f.v] := by rw [hw00]; exact heap_alloc_last w1 _
    rw [Addr.add_mid, Nat.zero_add]
    exact hA.cell j u (by simpa using hj)
  have hsz00 : B ≤ w00.heap.size := Nat.le_trans HBW.out (Nat.le_trans HB1.out.size hb00.size)
  have HB00 := hid' (below_two HB1.out hb00)
  have HW00 := hid' hw00
  have HO00 := hid' hO00
  rw [hw00] at hR00 hnews hsz00
  have HR00 := hid' hR00
  have HNW := hid' hnews
  have HSZ := hid' hsz00
  have HOB := hid' hob
  have g11' : (w1.alloc (.cells #[.string f.n, .string f.v] 30)).cell? ⟨b, 11, none⟩ = some (.slice ao n cap) := ((bl_alloc w1 _).cell (cell_lt g11)).trans g11
  clear hb00 hw00 hO00 hR00 hnews hsz00 hob hS
  go_region_law (refine step_app14 (by rfl) _ _ 22 (by rfl) B 30 i0 (.agg #[.string ⟨#[]⟩, .string ⟨#[]⟩]) 2 32 Tryd.underlying22 HI.out HZ0.out HZ1.out HZ2.out (by rfl) (by decide) (.slice ao n cap) n xs (by rfl) HR00.out ⟨w1.heap.size, 0, none⟩ 1 1 [.string f.n, .string f.v] (by rfl) (by rfl) HNW.out (by simp [Value.oneCell']) (by unfold maxLen; omega) (by omega) HSZ.out ?_; intro v2 w2 hrow hgrow _; obtain ⟨v2o, v2c, hv2⟩ := own_shape hrow; subst hv2; have hO2 := ar_grown (HW00.out ▸ HO00.out) hgrow HOB.out; have c11 := hO2.cell 11 _ rfl; have e11 := hO2.free 11)
  all_goals
    have HB2 : Hid (Below B w w2) := hid' (((HW00.out ▸ HB00.out.mono HBW.out)).grown hgrow HSZ.out (fun k hk => (own_ty HR00.out k hk).1))
    have HO2 := hid' hO2
    have HR2 := hid' hrow
    have HLO : Hid (B ≤ b) := hid' H0.out.lo
    clear hO2 hrow hgrow
    go_wp2
    go_ret
    refine ⟨rfl, HB2.out.setCell HLO.out _, .slice v2o (n + 1) v2c, HLO.out, ?_, ?_⟩
    · have h1 := HO2.out.set 11 (.slice v2o (n + 1) v2c)
      have e : (hdC H (.slice ao n cap)).setIfInBounds 11 (.slice v2o (n + 1) v2c) = hdC { H with fs := H.fs ++ [f] } (.slice v2o (n + 1) v2c) := by simp [hdC]
      rw [e] at h1
      exact h1
    · have h2 : w2.ownsRow B 30 2 (.slice v2o (n + 1) v2c) (H.fs ++ [f]).length (fC (H.fs ++ [f])) := by
        rw [List.length_append, HN.out, fC_append, HXS.out]
        exact HR2.out
      exact own_same h2 (fun k hk => (upd_setCell w2 b 11 _).block k (own_apart h2 HO2.out (by decide) k hk))

end Go.Proofs.YtkfekopenahmdaaDoor

namespace Go.Proofs.YtkfekopenahmdaaDoor
open Go.RowKit

namespace Ms
/-- What is wrong with the next field of a header list. -/
def step1 (P : List Fd) (f : Fd) : Int := if psd f.n then (if bad1 P (hof P).bg f then 140 else 0) else if bad2 P f then 141 else 0
theorem bg_app (P : List Fd) (f : Fd) : (hof (P ++ [f])).bg = ((hof P).bg || !psd f.n) := any_app P f
theorem take_snoc {l : List Fd} {k : Nat} {f : Fd} (h : l[k]? = some f) : l.take (k + 1) = l.take k ++ [f] := by rw [List.take_add_one, h]; rfl
theorem walk_step {l : List Fd} {k : Nat} {f : Fd} (h : l[k]? = some f) : walk (l.take k) (hof (l.take k)).bg (l.drop k) = if step1 (l.take k) f == 0 then walk (l.take (k + 1)) (hof (l.take (k + 1))).bg (l.drop (k + 1)) else step1 (l.take k) f := by
  rw [walk_drop h, take_snoc h, bg_app]
  unfold step1
  cases psd f.n
  · simp only [Bool.false_eq_true, if_false, Bool.not_false, Bool.or_true]
    cases bad2 (l.take k) f <;> rfl
  · simp only [if_true, Bool.not_true, Bool.or_false]
    cases bad1 (l.take k) (hof (l.take k)).bg f <;> rfl
/-- What is wrong with the whole of a header list. -/
def faultE (H : Hd) : Int :=
  if lines (H.m.getD ⟨#[]⟩) (H.s.getD ⟨#[]⟩) (H.p.getD ⟨#[]⟩) then
    (if H.a.isSome && H.h.isSome && !((H.a.getD ⟨#[]⟩).toList == (H.h.getD ⟨#[]⟩).toList) then 141 else if (lenGo none H.fs).isNone then 142 else 0)
  else 140
theorem twoE_fault (l : List Fd) : twoE l = if walk [] false l == 0 then faultE (hof l) else walk [] false l := by
  unfold twoE faultE clash gd hof
  simp only [lenGo_keep]
  rfl
end Ms

set_option maxHeartbeats 2000000 in
set_option maxRecDepth 20000 in
theorem cadd14 (B b : Nat) (P : List Fd) (f : Fd) (fv : Value) (c : Int) (hc : Ms.step1 P f = c) (w : World) (h : HM w B b (Ms.hof P) fv) (hl : P.length ≤ 4398046510976) (hn : f.n.size ≤ 140737488355328) (hv : f.v.size ≤ 140737488355328) :
    Calls Tryd.prog 9 #[.pointer (some ⟨b, 0, none⟩), .agg #[.string f.n, .string f.v]] w fun e w' => e = .returned (.int .i64 c) ∧ Below B w w' ∧ (c = 0 → ∃ fv', HM w' B b (Ms.hof (P ++ [f])) fv') := by
  have hBw : B ≤ w.heap.size := Nat.le_trans h.lo (Nat.le_of_lt h.obj.lt)
  have hb := bl_alloc w (.cells #[.string f.n, .string f.v] 30)
  have hA := fd_new w f
  obtain ⟨pd, hpd⟩ : ∃ pd, Ms.psd f.n = pd := ⟨_, rfl⟩
  have HP := hid' (cpsd14 f pd hpd (w.alloc (.cells #[.string f.n, .string f.v] 30)))
  have HBW := hid' hBw
  have HC := hid' hc
  have HPD := hid' hpd
  have HPL : Hid ((Ms.keep P).length ≤ 4398046510976) := hid' (Nat.le_trans (List.length_filter_le _ _) hl)
  have HNV := hid' (And.intro hn hv)
  clear hpd hc hl
  go_enter Tryd.func9, Tryd.ntmps9
  go_wp2_with fail
  refine HP.out.mono ?_
  rintro e w1 ⟨rfl, hb1⟩
  have HB1 := hid' (below_two hb hb1)
  have HA1 : Hid (Ar w1 w.heap.size 30 #[.string f.n, .string f.v]) := hid' (hA.keep hb1)
  have HX1 := hid' (h.keep (below_two hb hb1))
  have x0 := HA1.out.cell 0 _ rfl
  have x1 := HA1.out.cell 1 _ rfl
  clear hb hA hb1 hBw h hn hv HP
  cases pd
  · have HC2 : Hid ((if Ms.bad2 P f then 141 else 0) = c) := hid' (by rw [← HC.out]; unfold Ms.step1; rw [HPD.out]; rfl)
    have g10 := HX1.out.obj.cell 10 _ rfl
    have f10 := HX1.out.obj.free 10
    go_wp2_with fail
    have HX2 : Hid (HM (w1.setCell ⟨b, 10, none⟩ (.bool true)) B b { Ms.hof P with bg := true } fv) := hid' (HX1.out.set 10 _ (by simp [hdC]) rfl)
    have HB2 : Hid (Below B w (w1.setCell ⟨b, 10, none⟩ (.bool true))) := hid' ((HB1.out.mono HBW.out).setCell HX1.out.lo _)
    generalize w1.setCell ⟨b, 10, none⟩ (.bool true) = w2 at *
    clear x0 x1 g10 f10
    have fin : ∀ {Q : Ending → World → Prop} (c' : Int), c' = c → (∀ e w', e = .returned (.int .i64 c') → Below B w2 w' → (c' = 0 → ∃ fv', HM w' B b (Ms.hof (P ++ [f])) fv') → Q e w') → Calls Tryd.prog 19 #[.pointer (some ⟨b, 0, none⟩), .agg #[.string f.n, .string f.v]] w2 Q := by
      intro Q c' hc' hQ
      cases hpl : Ms.plain f
      · have : c' = 141 := by rw [hc', ← HC2.out]; unfold Ms.bad2; rw [hpl]; rfl
        refine (caf_no B b _ f fv w2 HX2.out hpl HNV.out.1 HNV.out.2).mono ?_
        rintro e w' ⟨he, hb⟩
        exact hQ e w' (this ▸ he) hb (fun h0 => by rw [this] at h0; cases h0)
      cases c1 : (f.n.toList == [116, 101])
      · cases c2 : (f.n.toList == [104, 111, 115, 116])
        · have : c' = 0 := by rw [hc', ← HC2.out]; unfold Ms.bad2; rw [hpl, c1, c2]; rfl
          refine (caf_app B b _ f fv w2 HX2.out hpl c1 c2 HPL.out HNV.out.1 HNV.out.2).mono ?_
          rintro e w' ⟨he, hb, fv', hm⟩
          refine hQ e w' (this ▸ he) hb (fun _ => ⟨fv', ?_⟩)
          rw [Ms.hof_o HPD.out c1 c2]
          exact hm
        · cases hq : Ms.fnd Ms.sHost P with
          | none =>
            have : c' = 0 := by rw [hc', ← HC2.out]; unfold Ms.bad2; rw [hpl, c1, c2, beq_iff_eq.1 c2, show Ms.fnd [104, 111, 115, 116] P = none from hq]; rfl
            refine (caf_host B b _ f fv w2 HX2.out hpl c1 c2 hq HNV.out.1 HNV.out.2).mono ?_
            rintro e w' ⟨he, hb, hm⟩
            refine hQ e w' (this ▸ he) hb (fun _ => ⟨fv, ?_⟩)
            rw [Ms.hof_h c2 hq]
            exact hm
          | some v =>
            have : c' = 141 := by rw [hc', ← HC2.out]; unfold Ms.bad2; rw [hpl, c1, c2, beq_iff_eq.1 c2, show Ms.fnd [104, 111, 115, 116] P = some v from hq]; rfl
            refine (caf_host_no B b _ f fv w2 HX2.out hpl c1 c2 v hq HNV.out.1 HNV.out.2).mono ?_
            rintro e w' ⟨he, hb⟩
            exact hQ e w' (this ▸ he) hb (fun h0 => by rw [this] at h0; cases h0)
      · cases c3 : (f.v.toList == [116, 114, 97, 105, 108, 101, 114, 115])
        · have : c' = 141 := by rw [hc', ← HC2.out]; unfold Ms.bad2; rw [hpl, c1, c3]; simp
          refine (caf_te_no B b _ f fv w2 HX2.out hpl c1 c3 HNV.out.1 HNV.out.2).mono ?_
          rintro e w' ⟨he, hb⟩
          exact hQ e w' (this ▸ he) hb (fun h0 => by rw [this] at h0; cases h0)
        · have : c' = 0 := by rw [hc', ← HC2.out]; unfold Ms.bad2; rw [hpl, c1, c3, beq_iff_eq.1 c1]; rfl
          refine (caf_te B b _ f fv w2 HX2.out hpl c1 c3 HNV.out.1 HNV.out.2).mono ?_
          rintro e w' ⟨he, hb, hm⟩
          refine hQ e w' (this ▸ he) hb (fun _ => ⟨fv, ?_⟩)
          rw [Ms.hof_te c1]
          exact hm
    refine fin c rfl ?_
    clear fin
    intro e w3 he hb3 hm3
    subst he
    have HB3 : Hid (Below B w w3) := hid' (HB2.out.trans hb3)
    have HM3 := hid' hm3
    clear hb3 hm3
    go_wp2
    go_ret
    exact ⟨rfl, HB3.out, HM3.out⟩
  · have HC2 : Hid ((if Ms.bad1 P (Ms.hof P).bg f then 140 else 0) = c) := hid' (by rw [← HC.out]; unfold Ms.step1; rw [HPD.out]; rfl)
    go_wp2_with fail
    refine (caddps14 B b P f fv w1 HX1.out).mono ?_
    rintro e w3 ⟨hb3, h3⟩
    have HB3 : Hid (Below B w w3) := hid' ((HB1.out.mono HBW.out).trans hb3)
    have HE : Hid (c = 0 → ∃ fv', HM w3 B b (Ms.hof (P ++ [f])) fv') := hid' (fun h0 => by
      rcases h3 with ⟨h4, _⟩ | ⟨_, _, h5⟩
      · have := HC2.out; rw [h4, h0] at this; cases this
      · exact ⟨fv, h5⟩)
    have he : e = .returned (.int .i64 c) := by
      rcases h3 with ⟨h4, h5⟩ | ⟨h4, h5, _⟩
      · rw [h5, ← HC2.out, h4]; rfl
      · rw [h5, ← HC2.out, h4]; rfl
    subst he
    clear hb3 h3
    go_wp2
    go_ret
    exact ⟨rfl, HB3.out, HE.out⟩

end Go.Proofs.YtkfekopenahmdaaDoor
