/-
  A queue of texts beside two rows of texts.
-/
import Derived.Test.YtdhiaiafdhoeeaaQuDS
import Derived.Test.YtdhiaiafdhoeeaaQuSm
namespace Go.Proofs.Ytdhiaiafdhoeeaa
open Go.RowKit Go.Conc

theorem qput_S {size : Nat} {xs ys : List ByteArray} {x : ByteArray} {t : Bool} (hp : PutOf size xs x t ys) (X : Nat → Prop) (B b c : Nat) (w : World) (h : QM 64 9 X w B b c size (xs.map qS)) (hX : ∀ k, X k → k < w.heap.size) :
    Calls Try.prog 20 #[.pointer (some ⟨b, 0, none⟩), .string x] w fun e w' => e = .returned (.bool t) ∧ QM 64 9 X w' B b c size (ys.map qS) ∧ LF (· = c) w w' := by
  rcases hp with ⟨rfl, h1, rfl⟩ | ⟨rfl, h1, rfl⟩
  · have := qput_yes_S X B b c size _ x w h (by simpa using h1) hX
    rw [List.map_append]
    exact this
  · exact (qput_no_S X B b c size _ x w h (by simpa using h1)).mono fun e w' ⟨h2, h3⟩ => ⟨h2, h.keep h3, LF.of_below h3⟩
theorem own_chan {w : World} {B : Nat} {e : TypeId} {s : Nat} {v : Value} {n : Nat} {zs xs : List Value} {c cap : Nat} (h : w.ownsRow B e s v n zs) (hc : Ch w c cap xs) : ∀ k, v.ownBlock = some k → k ≠ c := by
  rintro k hk rfl
  obtain ⟨_, cs, h1⟩ := own_ty h k hk
  obtain ⟨s, r, h2⟩ := hc
  rw [h1] at h2
  cases h2
/-- Two rows' own blocks. -/
def OB2 (v u : Value) (k : Nat) : Prop := v.ownBlock = some k ∨ u.ownBlock = some k
/-- A queue and two rows. -/
structure QO (w : World) (B b c size : Nat) (xs : List ByteArray) (v9 : Value) (n9 : Nat) (ins : List ByteArray) (v10 : Value) (n10 : Nat) (outs : List ByteArray) : Prop where
  q : QM 64 9 (OB2 v9 v10) w B b c size (xs.map qS)
  r9 : w.ownsRow B 9 1 v9 n9 (ins.map qS)
  r10 : w.ownsRow B 9 1 v10 n10 (outs.map qS)
  ap : ∀ k, v9.ownBlock = some k → v10.ownBlock ≠ some k
theorem QO.keep {w w' : World} {B b c size : Nat} {xs ins outs : List ByteArray} {v9 v10 : Value} {n9 n10 : Nat} (h : QO w B b c size xs v9 n9 ins v10 n10 outs) (hb : Below w.heap.size w w') : QO w' B b c size xs v9 n9 ins v10 n10 outs :=
  ⟨h.q.keep hb, own_same h.r9 (fun k hk => hb.block k (own_lt h.r9 k hk)), own_same h.r10 (fun k hk => hb.block k (own_lt h.r10 k hk)), h.ap⟩
theorem QO.turn {w w' : World} {B b c size : Nat} {xs ys ins outs : List ByteArray} {v9 v10 : Value} {n9 n10 : Nat} (h : QO w B b c size xs v9 n9 ins v10 n10 outs) (hq : QM 64 9 (OB2 v9 v10) w' B b c size (ys.map qS)) (hf : LF (· = c) w w') : QO w' B b c size ys v9 n9 ins v10 n10 outs ∧ Below B w w' :=
  ⟨⟨hq, own_same h.r9 (fun k hk => hf.block k (own_lt h.r9 k hk) (own_chan h.r9 h.q.ch.choose_spec k hk)), own_same h.r10 (fun k hk => hf.block k (own_lt h.r10 k hk) (own_chan h.r10 h.q.ch.choose_spec k hk)), h.ap⟩, h.q.bl (Below.refl _ _) hf⟩
theorem QO.size {w : World} {B b c size : Nat} {xs ins outs : List ByteArray} {v9 v10 : Value} {n9 n10 : Nat} (h : QO w B b c size xs v9 n9 ins v10 n10 outs) : B ≤ w.heap.size := Nat.le_trans h.q.lb (Nat.le_of_lt h.q.hd.lt)
theorem QO.g9 {w w' : World} {B b c size : Nat} {xs ins outs : List ByteArray} {v9 v9' v10 : Value} {n9 n10 : Nat} {x : ByteArray} (h : QO w B b c size xs v9 n9 ins v10 n10 outs) (ho : w'.ownsRow B 9 1 v9' (n9 + 1) (ins.map qS ++ [.string x])) (hg : w.grownBy w' v9.ownBlock) (hl : v9'.ownBlock = v9.ownBlock ∨ v9'.ownBlock = some w.heap.size) : QO w' B b c size xs v9' (n9 + 1) (ins ++ [x]) v10 n10 outs ∧ Below B w w' := by
  have hf : LF (fun k => v9.ownBlock = some k) w w' := LF.of_grown hg (fun k hk => hk)
  refine ⟨⟨(h.q.re (X' := fun k => OB2 v9 v10 k ∨ v9'.ownBlock = some k) (fun k hk h => h.elim id (fun h => hl.elim (fun e => .inl (e ▸ h)) (fun e => by rw [e] at h; injection h with h; omega)))).other hf (fun e => ?_) (fun e => own_chan h.r9 h.q.ch.choose_spec c e rfl) (fun k _ hk _ => .inl (.inl hk)) |>.re (fun k _ h => h.elim .inr (fun h => .inl (.inr h))), by rw [List.map_append]; exact ho, own_grown h.r10 hg (fun k hk e => h.ap k e.symm hk), fun k hk => ?_⟩, hf.below h.size (fun k hk => (own_ty h.r9 k hk).1)⟩
  · exact (own_apart h.r9 h.q.hd (by decide)) b e rfl
  · rcases hl with hl | hl
    · rw [hl] at hk; exact h.ap k hk
    · rw [hl] at hk
      injection hk with hk
      intro e
      have := own_lt h.r10 k e
      omega
theorem QO.g10 {w w' : World} {B b c size m : Nat} {xs ins outs news : List ByteArray} {v9 v10 v10' : Value} {n9 n10 : Nat} (h : QO w B b c size xs v9 n9 ins v10 n10 outs) (ho : w'.ownsRow B 9 1 v10' (n10 + m) (outs.map qS ++ news.map qS)) (hg : w.grownBy w' v10.ownBlock) (hl : v10'.ownBlock = v10.ownBlock ∨ v10'.ownBlock = some w.heap.size) : QO w' B b c size xs v9 n9 ins v10' (n10 + m) (outs ++ news) ∧ Below B w w' := by
  have hf : LF (fun k => v10.ownBlock = some k) w w' := LF.of_grown hg (fun k hk => hk)
  refine ⟨⟨(h.q.re (X' := fun k => OB2 v9 v10 k ∨ v10'.ownBlock = some k) (fun k hk h => h.elim id (fun h => hl.elim (fun e => .inr (e ▸ h)) (fun e => by rw [e] at h; injection h with h; omega)))).other hf (fun e => ?_) (fun e => own_chan h.r10 h.q.ch.choose_spec c e rfl) (fun k _ hk _ => .inl (.inr hk)) |>.re (fun k _ h => h.elim (fun h => .inl (.inl h)) .inr), own_grown h.r9 hg (fun k hk e => h.ap k hk e.symm), by rw [List.map_append]; exact ho, fun k hk e => ?_⟩, hf.below h.size (fun k hk => (own_ty h.r10 k hk).1)⟩
  · exact (own_apart h.r10 h.q.hd (by decide)) b e rfl
  · rcases hl with hl | hl
    · rw [hl] at e; exact h.ap k hk e
    · rw [hl] at e
      injection e with e
      have := own_lt h.r9 k hk
      omega
theorem QO.hX {w : World} {B b c size : Nat} {xs ins outs : List ByteArray} {v9 v10 : Value} {n9 n10 : Nat} (h : QO w B b c size xs v9 n9 ins v10 n10 outs) : ∀ k, OB2 v9 v10 k → k < w.heap.size := fun k hk => hk.elim (own_lt h.r9 k) (own_lt h.r10 k)
theorem QO.drewN {w : World} {B b c size : Nat} {xs ins outs : List ByteArray} {v9 v10 : Value} {n9 n10 : Nat} (h : QO w B b c size xs v9 n9 ins v10 n10 outs) (q : Nat) : QO (w.drewN q) B b c size xs v9 n9 ins v10 n10 outs := h.keep (below_drewN _ _)

end Go.Proofs.Ytdhiaiafdhoeeaa
