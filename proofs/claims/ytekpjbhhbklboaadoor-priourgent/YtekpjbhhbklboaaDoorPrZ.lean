/-
  Both lines beside each other.
-/
import Derived.Test.YtekpjbhhbklboaaDoorPrF
import Derived.Test.YtekpjbhhbklboaaDoorPrJ
import Derived.Test.YtekpjbhhbklboaaDoorPrY
import Derived.Test.YtekpjbhhbklboaaDoorPrSc
namespace Go.Proofs.YtekpjbhhbklboaaDoor
open Go.RowKit

theorem ls_cs {w : World} {B b B' bx : Nat} {mv v u : Value} {l l' : Pr.Ln} (hc : CM w B b mv l) (hl : LM w B' bx l' v u) : ∀ k, LS bx v u k → ¬ CS b mv k := by
  have hb : ∀ k T cs, w.heap[k]? = some (.cells cs T (0, 0)) → T ≠ 65 → ¬ CS b mv k := by
    rintro k T cs h1 hne (rfl | hk)
    · have h2 := hc.hd
      unfold Ar at h2
      rw [h1] at h2
      injection h2 with h2
      injection h2 with _ h3 _
      exact hne h3
    · rcases hc.mp with ⟨e, _⟩ | ⟨m, es, clock, e, _, h3⟩
      · rw [e] at hk; cases hk
      · rw [e] at hk
        injection hk with hk
        injection hk with hk
        subst hk
        have := h3.hd
        rw [h1] at this
        cases this
  rintro k (rfl | hk | hk)
  · exact hb k _ _ hl.hd (by decide)
  · obtain ⟨_, cs, h1⟩ := own_ty hl.is k hk
    exact hb k _ _ h1 (by decide)
  · obtain ⟨_, cs, h1⟩ := own_ty hl.hw k hk
    exact hb k _ _ h1 (by decide)
theorem ar_cs {w : World} {B b kb : Nat} {mv : Value} {l : Pr.Ln} {T : TypeId} {c : Array Value} (hc : CM w B b mv l) (h : Ar w kb T c) (hne : T ≠ 65) : ¬ CS b mv kb := by
  rintro (rfl | hk)
  · exact (h.apart' hc.hd hne) rfl
  · rcases hc.mp with ⟨e, _⟩ | ⟨m, es, clock, e, _, h3⟩
    · rw [e] at hk; cases hk
    · rw [e] at hk
      injection hk with hk
      injection hk with hk
      subst hk
      exact ar_map h h3.hd rfl
theorem rset_any (B b : Nat) (l : Pr.Ln) (v u : Value) (id x : Int) (q : Bool) (w : World) (h : LM w B b l v u) (hn : l.ids.length ≤ 8796093022000) :
    Calls Tryd.prog 16 #[.pointer (some ⟨b, 0, none⟩), .int .i64 id, .agg #[.int .i64 x, .bool q]] w fun e w' => e = .returned (.tuple #[]) ∧ ∃ v' u', LP w w' B b v u (Pr.set l id (Pr.kept x, q)) v' u' := by
  cases hp : Pr.pl l.ids id with
  | none => exact rset_new B b l v u id x q hp w h hn
  | some i => exact rset_old B b l v u id x q i hp w h hn
theorem rrem_any (B b : Nat) (l : Pr.Ln) (v u : Value) (id : Int) (w : World) (h : LM w B b l v u) (hn : l.ids.length ≤ 8796093022000) :
    Calls Tryd.prog 18 #[.pointer (some ⟨b, 0, none⟩), .int .i64 id] w fun e w' => e = .returned (.tuple #[]) ∧ ∃ v' u', LP w w' B b v u (Pr.rem l id) v' u' := by
  cases hp : Pr.pl l.ids id with
  | none =>
    refine (rrem_none B b l v u id hp w h hn).mono fun e w' ⟨he, hw⟩ => ⟨he, v, u, ?_⟩
    have e : Pr.rem l id = l := by unfold Pr.rem; rw [hp]
    rw [hw, e]
    exact ⟨h, LF.refl _ _, fun k hk => .inl hk, fun k hk => .inl hk⟩
  | some i => exact rrem_some B b l v u id i hp w h hn
/-- Both lines. -/
structure P2 (w : World) (B b bx : Nat) (mv v u : Value) (l : Pr.Ln) : Prop where
  cm : CM w B b mv l
  lm : LM w B bx l v u
theorem P2.keep {w w' : World} {B b bx : Nat} {mv v u : Value} {l : Pr.Ln} (h : P2 w B b bx mv v u l) (hb : Below w.heap.size w w') : P2 w' B b bx mv v u l := ⟨h.cm.keep hb, h.lm.keep hb⟩
/-- The one is called, then the other. -/
theorem P2.two {w w1 w2 : World} {B b bx : Nat} {mv mv1 v u v1 u1 : Value} {l l1 : Pr.Ln} (h : P2 w B b bx mv v u l) (h1 : CP w w1 B b mv l1 mv1) (h2 : LP w1 w2 B bx v u l1 v1 u1) : P2 w2 B b bx mv1 v1 u1 l1 ∧ Below B w w2 := by
  have hl1 : LM w1 B bx l v u := h.lm.other h1.lf (ls_cs h.cm h.lm)
  refine ⟨⟨h1.cm.other h2.lf (fun k hk hk2 => ls_cs h1.cm hl1 k hk2 hk), h2.lm⟩, ?_⟩
  exact (h1.lf.below h.cm.size h.cm.cs).trans (h2.lf.below (Nat.le_trans h.cm.size h1.lf.size) hl1.ls)
theorem next_len (l : Pr.Ln) (can : List Int) : (Pr.next l can).2.ids.length = l.ids.length := by
  unfold Pr.next
  split
  · rfl
  · simp only
    split <;> rfl
theorem Scr10.shape {w : World} {v : Value} {cs : List C10} (h : Scr10 w v cs) : ∃ ao cap, v = .slice ao cs.length cap := by
  rcases h with ⟨h, rfl⟩ | ⟨a, cap, h, _⟩
  · exact ⟨none, 0, h⟩
  · exact ⟨some a, cap, h⟩
theorem Scr10.at {w w' : World} {ao : Option Addr} {n cap : Nat} {cs : List C10} (h : Scr10 w (.slice ao n cap) cs) (hb : Below w.heap.size w w') (i : Nat) (c : C10) (hc : cs[i]? = some c) : ∃ a, ao = some a ∧ w'.cell? (a.add (i * 5)) = some (.int .u8 (c.what : Int)) ∧ w'.cell? ⟨(a.add (i * 5)).block, (a.add (i * 5)).off + 1, none⟩ = some (.int .i64 c.id) ∧ w'.cell? ⟨(a.add (i * 5)).block, (a.add (i * 5)).off + 2, none⟩ = some (.int .i64 c.urg) ∧
    w'.cell? ⟨(a.add (i * 5)).block, (a.add (i * 5)).off + 3, none⟩ = some (.bool c.parts) ∧ w'.cell? ⟨(a.add (i * 5)).block, (a.add (i * 5)).off + 4, none⟩ = some c.cv ∧ RR w' c.cv c.can.length (nmC c.can) ∧ c.what < 256 := by
  rcases h with ⟨_, rfl⟩ | ⟨a, cap', hv, hcs⟩
  · simp at hc
  · injection hv with h1 _ _
    obtain ⟨hl, c0, c1, c2, c3, c4, hr, hw⟩ := hcs i c hc
    exact ⟨a, h1, (hb.cell hl).trans c0, (hb.cell (p := ⟨_, _, none⟩) hl).trans c1, (hb.cell (p := ⟨_, _, none⟩) hl).trans c2, (hb.cell (p := ⟨_, _, none⟩) hl).trans c3, (hb.cell (p := ⟨_, _, none⟩) hl).trans c4, hr.keep hb, hw⟩
theorem CM.drewN {w : World} {B b : Nat} {mv : Value} {l : Pr.Ln} (h : CM w B b mv l) (q : Nat) : CM (w.drewN q) B b mv l := ⟨h.lo, h.hd, h.mp.same (fun _ _ _ => rfl), h.ok⟩
theorem CM.drew {w : World} {B b : Nat} {mv : Value} {l : Pr.Ln} (h : CM w B b mv l) : CM w.drew B b mv l := ⟨h.lo, h.hd, h.mp.same (fun _ _ _ => rfl), h.ok⟩
theorem P2.drewN {w : World} {B b bx : Nat} {mv v u : Value} {l : Pr.Ln} (h : P2 w B b bx mv v u l) (q : Nat) : P2 (w.drewN q) B b bx mv v u l := ⟨h.cm.drewN q, h.lm.drewN q⟩
theorem zeroL : (Tryd.prog.info? 37).map (fun i => i.zero) = some (some (.agg (lnC (.slice none 0 0) (.slice none 0 0) Pr.ln0.was Pr.ln0.last))) := by kernel_rfl

end Go.Proofs.YtekpjbhhbklboaaDoor
