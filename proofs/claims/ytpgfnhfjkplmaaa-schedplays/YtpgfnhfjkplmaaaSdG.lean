/-
  The scheduler: Wake, Sleep: by their contracts.
-/
import Derived.Test.YtpgfnhfjkplmaaaSdF
import Derived.Deep.RegionWith
import Derived.Deep.RegionHeld3
import Derived.Deep.CutRange
namespace Go.Proofs.Ytpgfnhfjkplmaaa
open Go.RowKit

set_option maxHeartbeats 2000000 in
set_option maxRecDepth 20000 in
theorem swake {ts ts' : List (Int × Bool)} {x : Int} {t : Bool} (ho : SetOf true ts x t ts') (B b : Nat) (v u : Value) (w : World) (h : SM w B b v u ts) :
    Calls Try.prog 11 #[.pointer (some ⟨b, 0, none⟩), .int .i64 x] w fun e w' => e = .returned (.bool t) ∧ ∃ v' u', SM w' B b v' u' ts' ∧ LF (SS b v u) w w' ∧ NewB w b v u v' u' := by
  have HM : Hid (∀ W, W = w.drew → Calls Try.prog 25 #[.int .i64 x, .pointer (some ⟨b, 0, none⟩), .pointer (some ⟨b, 1, none⟩)] W fun e w' => e = .returned (.bool t) ∧ ∃ v' u', SM w' B b v' u' ts' ∧ LF (SS b v u) w w' ∧ NewB w b v u v' u') := hid' (fun W hW => by
    have hd : SM W B b v u ts := by rw [hW]; exact h.drewN 1
    have hl : ∀ {w'}, LF (SS b v u) W w' → LF (SS b v u) w w' := fun hf => by rw [hW] at hf; exact ⟨hf.os, hf.tape, hf.output, hf.size, hf.block⟩
    have hs : W.heap.size = w.heap.size := by rw [hW]; rfl
    rcases ho with ⟨rfl, h1, rfl⟩ | ⟨rfl, h1, rfl⟩
    · exact (mvW_yes B b v u ts x W hd h1).mono fun e w' ⟨a1, v', u', a2, a3, a4⟩ => ⟨a1, v', u', a2, hl a3, fun k hk => by have := a4 k hk; rwa [hs] at this⟩
    · exact (mvW_no B b v u ts' x W _ hd h1).mono fun e w' ⟨a1, a2⟩ => ⟨a1, v, u, by rw [a2]; exact hd, hl (by rw [a2]; exact LF.refl _ _), fun k hk => .inl hk⟩)
  have HD := hid' (HM.out w.drew rfl)
  clear ho h HM
  go_enter Try.func11, Try.ntmps11
  go_upto_region 1 with fail
  have hS : True := trivial
  go_region_held3 (fun _ => True) (trivial) ((go_at_call 25; refine HD.out.mono ?_; rintro e w1 ⟨rfl, v', u', h1, h2, h3⟩; have HE := hid' (And.intro h1 (And.intro h2 h3)); clear h1 h2 h3))
  all_goals
    go_wp2
    go_ret
    exact ⟨rfl, _, _, HE.out⟩

set_option maxHeartbeats 2000000 in
set_option maxRecDepth 20000 in
theorem ssleep {ts ts' : List (Int × Bool)} {x : Int} {t : Bool} (ho : SetOf false ts x t ts') (B b : Nat) (v u : Value) (w : World) (h : SM w B b v u ts) :
    Calls Try.prog 13 #[.pointer (some ⟨b, 0, none⟩), .int .i64 x] w fun e w' => e = .returned (.bool t) ∧ ∃ v' u', SM w' B b v' u' ts' ∧ LF (SS b v u) w w' ∧ NewB w b v u v' u' := by
  have HM : Hid (∀ W, W = w.drew → Calls Try.prog 25 #[.int .i64 x, .pointer (some ⟨b, 1, none⟩), .pointer (some ⟨b, 0, none⟩)] W fun e w' => e = .returned (.bool t) ∧ ∃ v' u', SM w' B b v' u' ts' ∧ LF (SS b v u) w w' ∧ NewB w b v u v' u') := hid' (fun W hW => by
    have hd : SM W B b v u ts := by rw [hW]; exact h.drewN 1
    have hl : ∀ {w'}, LF (SS b v u) W w' → LF (SS b v u) w w' := fun hf => by rw [hW] at hf; exact ⟨hf.os, hf.tape, hf.output, hf.size, hf.block⟩
    have hs : W.heap.size = w.heap.size := by rw [hW]; rfl
    rcases ho with ⟨rfl, h1, rfl⟩ | ⟨rfl, h1, rfl⟩
    · exact (mvS_yes B b v u ts x W hd h1).mono fun e w' ⟨a1, v', u', a2, a3, a4⟩ => ⟨a1, v', u', a2, hl a3, fun k hk => by have := a4 k hk; rwa [hs] at this⟩
    · exact (mvS_no B b v u ts' x W _ hd h1).mono fun e w' ⟨a1, a2⟩ => ⟨a1, v, u, by rw [a2]; exact hd, hl (by rw [a2]; exact LF.refl _ _), fun k hk => .inl hk⟩)
  have HD := hid' (HM.out w.drew rfl)
  clear ho h HM
  go_enter Try.func13, Try.ntmps13
  go_upto_region 1 with fail
  have hS : True := trivial
  go_region_held3 (fun _ => True) (trivial) ((go_at_call 25; refine HD.out.mono ?_; rintro e w1 ⟨rfl, v', u', h1, h2, h3⟩; have HE := hid' (And.intro h1 (And.intro h2 h3)); clear h1 h2 h3))
  all_goals
    go_wp2
    go_ret
    exact ⟨rfl, _, _, HE.out⟩

end Go.Proofs.Ytpgfnhfjkplmaaa
