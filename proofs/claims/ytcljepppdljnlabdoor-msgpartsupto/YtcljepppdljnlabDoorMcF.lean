/-
  The head of a header list in memory; the code's part.say, head.pseudo, head.addPseudo: by their contracts.
-/
import Derived.Test.YtcljepppdljnlabDoorMcC
namespace Go.Proofs.YtcljepppdljnlabDoor
open Go.RowKit

namespace Ms
/-- What a header list says, as far as it was gone through. -/
structure Hd where
  m : Option ByteArray
  s : Option ByteArray
  p : Option ByteArray
  a : Option ByteArray
  h : Option ByteArray
  bg : Bool
  fs : List Fd
def hof (P : List Fd) : Hd := ⟨fnd sMethod P, fnd sScheme P, fnd sPath P, fnd sAuth P, fnd sHost P, P.any (fun f => !psd f.n), keep P⟩
theorem fnd_no {x : T8} {P : List Fd} {f : Fd} (h : (f.n.toList == x) = false) : fnd x (P ++ [f]) = fnd x P := by
  rw [fnd_app, h]; simp
theorem fnd_yes {x : T8} {P : List Fd} {f : Fd} (h : (f.n.toList == x) = true) (hn : fnd x P = none) : fnd x (P ++ [f]) = some f.v := by
  rw [fnd_app, h, hn]; rfl
theorem ne_of {x y z : T8} (h : (z == x) = true) (hxy : (x == y) = false) : (z == y) = false := by
  rw [beq_iff_eq.1 h]; exact hxy
theorem psd_of {b : ByteArray} {x : T8} (h : (b.toList == x) = true) : psd b = (x.head? == some 58) := by
  unfold psd
  rw [← tl_tx, beq_iff_eq.1 h]
theorem any_app (P : List Fd) (f : Fd) : (P ++ [f]).any (fun f => !psd f.n) = (P.any (fun f => !psd f.n) || !psd f.n) := by simp
theorem keep_app (P : List Fd) (f : Fd) : keep (P ++ [f]) = keep P ++ (if keepB f then [f] else []) := by
  unfold keep
  rw [List.filter_append, List.filter_cons]
  cases keepB f <;> rfl
theorem keep_psd {f : Fd} (h : psd f.n = true) : keepB f = false := by unfold keepB; rw [h]; rfl
theorem hof_m {P : List Fd} {f : Fd} (h : (f.n.toList == sMethod) = true) (hn : fnd sMethod P = none) : hof (P ++ [f]) = { hof P with m := some f.v } := by
  unfold hof
  rw [fnd_yes h hn, fnd_no (ne_of h (by decide)), fnd_no (ne_of h (by decide)), fnd_no (ne_of h (by decide)), fnd_no (ne_of h (by decide)), any_app, keep_app, psd_of h, keep_psd (by rw [psd_of h]; rfl)]
  simp [sMethod]
theorem hof_s {P : List Fd} {f : Fd} (h : (f.n.toList == sScheme) = true) (hn : fnd sScheme P = none) : hof (P ++ [f]) = { hof P with s := some f.v } := by
  unfold hof
  rw [fnd_yes h hn, fnd_no (ne_of h (by decide)), fnd_no (ne_of h (by decide)), fnd_no (ne_of h (by decide)), fnd_no (ne_of h (by decide)), any_app, keep_app, psd_of h, keep_psd (by rw [psd_of h]; rfl)]
  simp [sScheme]
theorem hof_p {P : List Fd} {f : Fd} (h : (f.n.toList == sPath) = true) (hn : fnd sPath P = none) : hof (P ++ [f]) = { hof P with p := some f.v } := by
  unfold hof
  rw [fnd_yes h hn, fnd_no (ne_of h (by decide)), fnd_no (ne_of h (by decide)), fnd_no (ne_of h (by decide)), fnd_no (ne_of h (by decide)), any_app, keep_app, psd_of h, keep_psd (by rw [psd_of h]; rfl)]
  simp [sPath]
theorem hof_a {P : List Fd} {f : Fd} (h : (f.n.toList == sAuth) = true) (hn : fnd sAuth P = none) : hof (P ++ [f]) = { hof P with a := some f.v } := by
  unfold hof
  rw [fnd_yes h hn, fnd_no (ne_of h (by decide)), fnd_no (ne_of h (by decide)), fnd_no (ne_of h (by decide)), fnd_no (ne_of h (by decide)), any_app, keep_app, psd_of h, keep_psd (by rw [psd_of h]; rfl)]
  simp [sAuth]
theorem hof_h {P : List Fd} {f : Fd} (h : (f.n.toList == sHost) = true) (hn : fnd sHost P = none) : hof (P ++ [f]) = { hof P with h := some f.v, bg := true } := by
  have hk : keepB f = false := by unfold keepB; rw [show (f.n.toList == [104, 111, 115, 116]) = true from h, psd_of h]; rfl
  unfold hof
  rw [fnd_yes h hn, fnd_no (ne_of h (by decide)), fnd_no (ne_of h (by decide)), fnd_no (ne_of h (by decide)), fnd_no (ne_of h (by decide)), any_app, keep_app, psd_of h, hk]
  simp [sHost]
theorem hof_te {P : List Fd} {f : Fd} (h : (f.n.toList == sTe) = true) : hof (P ++ [f]) = { hof P with bg := true } := by
  have hk : keepB f = false := by unfold keepB; rw [show (f.n.toList == [116, 101]) = true from h, psd_of h]; simp
  unfold hof
  rw [fnd_no (ne_of h (by decide)), fnd_no (ne_of h (by decide)), fnd_no (ne_of h (by decide)), fnd_no (ne_of h (by decide)), fnd_no (ne_of h (by decide)), any_app, keep_app, psd_of h, hk]
  simp [sTe]
theorem hof_o {P : List Fd} {f : Fd} (hp : psd f.n = false) (h1 : (f.n.toList == sTe) = false) (h2 : (f.n.toList == sHost) = false) : hof (P ++ [f]) = { hof P with bg := true, fs := keep P ++ [f] } := by
  have hk : keepB f = true := by unfold keepB; rw [hp, show (f.n.toList == [116, 101]) = false from h1, show (f.n.toList == [104, 111, 115, 116]) = false from h2]; rfl
  have key : ∀ x : T8, (x.head? == some 58) = true → (f.n.toList == x) = false := fun x hx => by
    cases hq : (f.n.toList == x) with
    | false => rfl
    | true => have := psd_of hq; rw [hp, hx] at this; cases this
  unfold hof
  rw [fnd_no (key sMethod rfl), fnd_no (key sScheme rfl), fnd_no (key sPath rfl), fnd_no (key sAuth rfl), fnd_no h2, any_app, keep_app, hp, hk]
  simp
end Ms

/-- The cells of a head. -/
def hdC (H : Ms.Hd) (fv : Value) : Array Value := #[.string (H.m.getD ⟨#[]⟩), .bool H.m.isSome, .string (H.s.getD ⟨#[]⟩), .bool H.s.isSome, .string (H.p.getD ⟨#[]⟩), .bool H.p.isSome, .string (H.a.getD ⟨#[]⟩), .bool H.a.isSome, .string (H.h.getD ⟨#[]⟩), .bool H.h.isSome, .bool H.bg, fv]
/-- A head in memory. -/
structure HM (w : World) (B b : Nat) (H : Ms.Hd) (fv : Value) : Prop where
  lo : B ≤ b
  obj : Ar w b 52 (hdC H fv)
  row : w.ownsRow B 28 2 fv H.fs.length (fC H.fs)
theorem HM.keep {w w' : World} {B b : Nat} {H : Ms.Hd} {fv : Value} (h : HM w B b H fv) (hb : Below w.heap.size w w') : HM w' B b H fv :=
  ⟨h.lo, h.obj.keep hb, own_same h.row (fun k hk => hb.block k (own_lt h.row k hk))⟩
theorem HM.apart {w : World} {B b : Nat} {H : Ms.Hd} {fv : Value} (h : HM w B b H fv) : ∀ k, fv.ownBlock = some k → k ≠ b := own_apart h.row h.obj (by decide)
/-- A cell of the head is written. -/
theorem HM.set {w : World} {B b : Nat} {H H' : Ms.Hd} {fv : Value} (h : HM w B b H fv) (i : Nat) (v : Value) (hc : (hdC H fv).setIfInBounds i v = hdC H' fv) (hf : H'.fs = H.fs) : HM (w.setCell ⟨b, i, none⟩ v) B b H' fv :=
  ⟨h.lo, hc ▸ h.obj.set i v, by rw [hf]; exact own_same h.row (fun k hk => (upd_setCell w b i v).block k (h.apart k hk))⟩

set_option maxHeartbeats 1000000 in
theorem csay14_no (b off : Nat) (v : ByteArray) (w : World) (c1 : w.cell? ⟨b, off + 1, none⟩ = some (.bool true)) :
    Calls Tryd.prog 52 #[.pointer (some ⟨b, off, none⟩), .string v] w fun e w' => e = .returned (.bool false) ∧ w' = w := by
  go_enter Tryd.func52, Tryd.ntmps52
  go_wp2
  go_ret
  exact ⟨rfl, rfl⟩

set_option maxHeartbeats 1000000 in
theorem csay14_yes (b off : Nat) (x v : ByteArray) (w : World) (c0 : w.cell? ⟨b, off, none⟩ = some (.string x)) (c1 : w.cell? ⟨b, off + 1, none⟩ = some (.bool false)) (f0 : w.frozen? ⟨b, off, none⟩ = false) (f1 : w.frozen? ⟨b, off + 1, none⟩ = false) :
    Calls Tryd.prog 52 #[.pointer (some ⟨b, off, none⟩), .string v] w fun e w' => e = .returned (.bool true) ∧ w' = (w.setCell ⟨b, off, none⟩ (.string v)).setCell ⟨b, off + 1, none⟩ (.bool true) := by
  go_enter Tryd.func52, Tryd.ntmps52
  go_wp2
  go_ret
  exact ⟨rfl, rfl⟩

def psV (b : Nat) (n : ByteArray) : Value :=
  if n.toList == [58, 109, 101, 116, 104, 111, 100] then .pointer (some ⟨b, 0, none⟩)
  else if n.toList == [58, 115, 99, 104, 101, 109, 101] then .pointer (some ⟨b, 2, none⟩)
  else if n.toList == [58, 112, 97, 116, 104] then .pointer (some ⟨b, 4, none⟩)
  else if n.toList == [58, 97, 117, 116, 104, 111, 114, 105, 116, 121] then .pointer (some ⟨b, 6, none⟩)
  else .pointer none

set_option maxHeartbeats 1000000 in
theorem cpseudo14 (b : Nat) (n : ByteArray) (w : World) : Calls Tryd.prog 51 #[.pointer (some ⟨b, 0, none⟩), .string n] w fun e w' => e = .returned (psV b n) ∧ w' = w := by
  unfold psV
  cases c1 : (n.toList == [58, 109, 101, 116, 104, 111, 100])
  · cases c2 : (n.toList == [58, 115, 99, 104, 101, 109, 101])
    · cases c3 : (n.toList == [58, 112, 97, 116, 104])
      · cases c4 : (n.toList == [58, 97, 117, 116, 104, 111, 114, 105, 116, 121])
        · go_enter Tryd.func51, Tryd.ntmps51
          go_wp2
          go_ret
          exact ⟨rfl, rfl⟩
        · go_enter Tryd.func51, Tryd.ntmps51
          go_wp2
          go_ret
          exact ⟨rfl, rfl⟩
      · go_enter Tryd.func51, Tryd.ntmps51
        go_wp2
        go_ret
        exact ⟨rfl, rfl⟩
    · go_enter Tryd.func51, Tryd.ntmps51
      go_wp2
      go_ret
      exact ⟨rfl, rfl⟩
  · go_enter Tryd.func51, Tryd.ntmps51
    go_wp2
    go_ret
    exact ⟨rfl, rfl⟩

end Go.Proofs.YtcljepppdljnlabDoor
