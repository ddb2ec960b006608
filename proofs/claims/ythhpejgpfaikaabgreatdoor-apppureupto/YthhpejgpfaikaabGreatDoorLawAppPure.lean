/-
  AppPure: an answer hangs on nothing that was asked ahead of it.
-/
import Derived.Test.YthhpejgpfaikaabGreatDoorPqBR
namespace Go.Proofs.YthhpejgpfaikaabGreatDoor
set_option maxHeartbeats 64000000
open Go.RowKit

theorem appPure_is (ro : Option Addr) (rn rc : Nat) (lr : List Fr18) (hrl : lr.length = rn) (hrb : rn ≤ 1048577) (hbr : ∀ x ∈ lr, x.1.p.length ≤ 1048576 ∧ x.1.m.length ≤ 1048576 ∧ x.2.size ≤ 1048576) (v : Value) (l : List Dk.En) (ko : Option Addr) (kn kc : Nat) (ks : List Ap.Rq) (hkl : ks.length = kn) (hks : ∀ r ∈ ks, BQ20 r) (w : World) (hr : RW18 w (.slice ro rn rc) lr) (hw : EW19 w v l) (hl : l.length ≤ 1048576) (hb : ∀ e ∈ l, e.path.size ≤ 1048576 ∧ e.body.size ≤ 1048576) (hq : QW20 w ko ks) (hT : TB19 w) :
  Calls Tryz.prog 4 #[.slice ro rn rc, v, .slice ko kn kc] w fun e w' => e = .returned (.bool true) ∧ Below w.heap.size w w' :=
 appPure_any ak20 cnew20 cansC20 ro rn rc lr hrl hrb ⟨fun x hx => ⟨Nat.le_trans (hbr x hx).1 (by decide), Nat.le_trans (hbr x hx).2.1 (by decide)⟩, fun x hx => (hbr x hx).2.2⟩ v l ko kn kc ks hkl hks w hr hw hl hb hq hT

end Go.Proofs.YthhpejgpfaikaabGreatDoor
