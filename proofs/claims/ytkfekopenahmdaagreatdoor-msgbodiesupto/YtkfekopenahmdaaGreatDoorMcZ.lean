/-
  The laws' spoil: by its contract.
-/
import Derived.Test.YtkfekopenahmdaaGreatDoorMcY
namespace Go.Proofs.YtkfekopenahmdaaGreatDoor
open Go.RowKit

theorem own_set14 {w : World} {B : Nat} {e : TypeId} {s g n cap : Nat} {xs : List Value} (h : w.ownsRow B e s (.slice (some ⟨g, 0, none⟩) n cap) n xs) (j : Nat) (u : Value) : (w.setCell ⟨g, j, none⟩ u).ownsRow B e s (.slice (some ⟨g, 0, none⟩) n cap) n (xs.set j u) := by
  rcases h.2 with ⟨hv, _⟩ | ⟨g', cap', cur, hv, hb, hg, hn, hm, hs, ht⟩
  · cases hv
  · cases hv
    refine ⟨by simpa using h.1, .inr ⟨g, cap, _, rfl, hb, Ar.set (show Ar w g e cur from hg) _ _, hn, hm, by simpa using hs, ?_⟩⟩
    rw [← ht]
    simp [List.take_set]
/-- What a row's spoiling leaves. -/
def SPd (w : World) (o : Option Nat) (w' : World) : Prop := LF (fun k => o = some k) w w'
theorem SPd.fw {w w' : World} {o : Option Nat} {v : Value} {l : List Fd} {B : Nat} {e : TypeId} (h : SPd w o w') (hv : w.ownsRow B e 2 v l.length (fC l)) (hn : ∀ k, v.ownBlock = some k → o ≠ some k) : w'.ownsRow B e 2 v l.length (fC l) :=
  own_same hv (fun k hk => h.block k (own_lt hv k hk) (hn k hk))
theorem SPd.ln {w w' : World} {o : Option Nat} {B g cap : Nat} {l : List Fd} (h : SPd w o w') (hl : LN w B g cap l) (hn : o ≠ some g) : LN w' B g cap l :=
  ⟨own_same hl.own (fun k hk => h.block k (own_lt hl.own k hk) (by simp [Value.ownBlock] at hk; subst hk; exact hn))⟩
theorem SPd.low {w0 w w' : World} {o : Option Nat} {B : Nat} (h : SPd w o w') (hb : Below B w0 w) (hB : B ≤ w.heap.size) (ho : ∀ k, o = some k → B ≤ k) : Below B w0 w' := hb.trans (h.below hB ho)

set_option maxHeartbeats 4000000 in
set_option maxRecDepth 20000 in
theorem spoil14 (B : Nat) (v : Value) (n : Nat) (xs : List Value) (w : World) (h : w.ownsRow B 42 2 v n xs) (hB : B ≤ w.heap.size) (hl : n ≤ 1048577) :
    Calls Tryz.prog 10 #[v] w fun e w' => e = .returned (.tuple #[]) ∧ SPd w v.ownBlock w' := by
  obtain ⟨vo, vc, hv⟩ := own_shape h
  subst hv
  have HO := hid' h
  have HBB := hid' hB
  obtain ⟨ob, hob⟩ : ∃ ob, (Value.slice vo n vc).ownBlock = ob := ⟨_, rfl⟩
  have HOB := hid' hob
  rw [hob]
  clear h hB hob
  go_enter Tryz.func10, Tryz.ntmps10
  go_wp2
  go_loopw [2] (fun s2 wr => ∃ (k : Nat) (ys : List Value), s2 = .int .i64 (k : Int) ∧ k ≤ n ∧ Hid (wr.ownsRow B 42 2 (.slice vo n vc) n ys) ∧ Hid (SPd w ob wr)) (fun s2 _ => n - (intOf s2).toNat)
  case atStart => exact ⟨0, xs, rfl, Nat.zero_le _, HO, hid' (LF.refl _ _)⟩
  case round =>
    obtain ⟨k, ys, rfl, hk, HOr, HLF⟩ := hrel
    by_cases hlt : k < n
    · have hlt2 : (k : Int) < (n : Int) := by omega
      have hg : ∃ g, vo = some ⟨g, 0, none⟩ := by
        rcases HOr.out.2 with ⟨_, h0⟩ | ⟨g, cap, cur, h1, _⟩
        · omega
        · injection h1 with e1
          exact ⟨g, e1⟩
      obtain ⟨g, rfl⟩ := hg
      have hogb : some g = ob := HOB.out
      have hlen := HOr.out.1
      obtain ⟨u0, hu0⟩ : ∃ u0, ys[k * 2]? = some u0 := ⟨_, List.getElem?_eq_getElem (by omega)⟩
      obtain ⟨u1, hu1⟩ : ∃ u1, ys[k * 2 + 1]? = some u1 := ⟨_, List.getElem?_eq_getElem (by omega)⟩
      have c0 : wr.cell? ⟨g, k * 2, none⟩ = some u0 := by have := HOr.out.cells (g := g) rfl _ _ hu0; rwa [Addr.add_mid, Nat.zero_add] at this
      have c1 : wr.cell? ⟨g, k * 2 + 1, none⟩ = some u1 := by have := HOr.out.cells (g := g) rfl _ _ hu1; rwa [Addr.add_mid, Nat.zero_add] at this
      have hfz : ∀ i, wr.frozen? ⟨g, i, none⟩ = false := by
        obtain ⟨_, cs, hcs⟩ := own_ty HOr.out g rfl
        intro i
        exact Ar.free (show Ar wr g 42 cs from hcs) i
      have f0 := hfz (k * 2)
      have f1 := hfz (k * 2 + 1)
      have HOs := hid' (own_set14 (own_set14 HOr.out (k * 2) (.string ⟨#[110, 111]⟩)) (k * 2 + 1) (.string ⟨#[]⟩))
      have HLs : Hid (SPd w ob ((wr.setCell ⟨g, k * 2, none⟩ (.string ⟨#[110, 111]⟩)).setCell ⟨g, k * 2 + 1, none⟩ (.string ⟨#[]⟩))) := hid' ((HLF.out.trans (LF.of_upd (S := fun k => ob = some k) (upd_setCell wr g (k * 2) _) hogb.symm) (fun _ _ h => h)).trans (LF.of_upd (S := fun k => ob = some k) (upd_setCell _ g (k * 2 + 1) _) hogb.symm) (fun _ _ h => h))
      clear hu0 hu1 hfz hlen hogb
      go_wp2
      go_roundw
      case rel => exact ⟨k + 1, _, by go_num, by omega, HOs, HLs⟩
      case measure => simp [intOf]; omega
    · obtain rfl : k = n := by omega
      have hlt2 : ¬ (k : Int) < (k : Int) := by omega
      clear hlt
      go_wp2
      go_loopw [0, 3] (fun s0 s3 wi => ∃ (j : Nat) (u : Value) (zs : List Value), s3 = .int .i64 (j : Int) ∧ s0 = u ∧ j ≤ 9 ∧ Hid (wi.ownsRow B 42 2 u (k + j) zs) ∧ Hid (∀ b, u.ownBlock = some b → ob = some b ∨ w.heap.size ≤ b) ∧ Hid (SPd w ob wi)) (fun _ s3 _ => 9 - (intOf s3).toNat)
      case atStart => exact ⟨0, _, ys, rfl, rfl, by omega, HOr, hid' (fun b hb => .inl (by rw [← HOB.out]; exact hb)), HLF⟩
      case round =>
        obtain ⟨j, u, zs, rfl, rfl, hj, HU, HUB, HLi⟩ := hrel
        by_cases hj9 : j < 9
        · have hj2 : (j : Int) < 9 := by omega
          obtain ⟨uo, uc, hu⟩ := own_shape HU.out
          subst hu
          have HUa := hid' (HU.out.alloc (.cells #[.string ⟨#[110, 111, 110, 101]⟩, .string ⟨#[]⟩] 42))
          have HLa : Hid (SPd w ob (wr.alloc (.cells #[.string ⟨#[110, 111, 110, 101]⟩, .string ⟨#[]⟩] 42))) := hid' (HLi.out.trans (LF.of_below (S := fun k => ob = some k) (bl_alloc wr _)) (fun _ _ h => h))
          have HLP : Hid (FW (wr.alloc (.cells #[.string ⟨#[110, 111, 110, 101]⟩, .string ⟨#[]⟩] 42)) (.slice (some ⟨wr.heap.size, 0, none⟩) 1 1) [⟨⟨#[110, 111, 110, 101]⟩, ⟨#[]⟩⟩]) := hid' (fw_lit wr [⟨⟨#[110, 111, 110, 101]⟩, ⟨#[]⟩⟩] 1 rfl (by decide))
          go_wp2_with (at_builtin; refine wpl_appL rfl _ _ rfl B (.slice uo (k + j) uc) (k + j) zs rfl HUa.out _ [⟨⟨#[110, 111, 110, 101]⟩, ⟨#[]⟩⟩] rfl HLP.out (by simp; omega) (Nat.le_trans HBB.out HLa.out.size) ?_; intro v3 w3 hown3 hgrow3 hat3; refine Hid.out ?_)
          refine hid' ?_
          have HO3 : Hid (w3.ownsRow B 42 2 v3 (k + (j + 1)) (zs ++ fC [⟨⟨#[110, 111, 110, 101]⟩, ⟨#[]⟩⟩])) := hid' hown3
          have HL3 : Hid (SPd w ob w3) := hid' (HLa.out.trans (LF.of_grown (S := fun b => (Value.slice uo (k + j) uc).ownBlock = some b) hgrow3 (fun _ h => h)) (fun b hb h => by rcases HUB.out b h with h1 | h1; exact h1; omega))
          have HU3 : Hid (∀ b, v3.ownBlock = some b → ob = some b ∨ w.heap.size ≤ b) := hid' (fun b hb => by
            rcases hat3 with h1 | h1
            · exact HUB.out b (h1 ▸ hb)
            · rw [h1] at hb
              injection hb with hb
              have := HLa.out.size
              omega)
          clear hown3 hgrow3 hat3 HLP
          go_wp2
          go_roundw
          case rel => exact ⟨j + 1, v3, _, by go_num, rfl, by omega, HO3, HU3, HL3⟩
          case measure => simp [intOf]; omega
        · obtain rfl : j = 9 := by omega
          have hj2 : ¬ ((9 : Nat) : Int) < 9 := by omega
          clear hj9
          go_wp2
          go_end0
          exact ⟨rfl, HLi.out⟩

end Go.Proofs.YtkfekopenahmdaaGreatDoor
