/-
  The code's table: shrink, by its contract.
-/
import Derived.Test.YtmkkhfkfjmfdcaaTabK
import Derived.WalkSmall
namespace Go.Proofs.Ytmkkhfkfjmfdcaa
open Go.RowKit

theorem cells_rev_snoc (a : List (List UInt8 × List UInt8)) (n v : List UInt8) : Tb.cells (a ++ [(n, v)]).reverse = .string ⟨n.toArray⟩ :: .string ⟨v.toArray⟩ :: Tb.cells a.reverse := by
  rw [List.reverse_append]; rfl

set_option maxHeartbeats 2000000 in
theorem cshrink_any (B b : Nat) (v : Value) (M : Nat) (fs : List (List UInt8 × List UInt8)) (m : Nat) (w : World) (h : CT w B b v M fs) (hs : Tb.size fs ≤ 1048576) :
    Calls Try.prog 48 #[.pointer (some ⟨b, 0, none⟩), .int .i64 (m : Int)] w fun e w' => e = .returned (.tuple #[]) ∧ ∃ v', CT w' B b v' M (Tb.shr m fs) ∧ (∀ k, v'.ownBlock = some k → v.ownBlock = some k) ∧ Two b v.ownBlock w w' := by
  have HS0 : Hid (∃ v' fs', CT w B b v' M fs' ∧ (∀ k, v'.ownBlock = some k → v.ownBlock = some k) ∧ Tb.shr m fs' = Tb.shr m fs ∧ Tb.size fs' ≤ 1048576 ∧ Two b v.ownBlock w w) := hid' ⟨v, fs, h, fun _ h => h, rfl, hs, Two.refl _ _ _⟩
  clear h
  go_enter Try.func48, Try.ntmps48
  go_wp2
  go_loopw [] (fun wr => Hid (∃ v' fs', CT wr B b v' M fs' ∧ (∀ k, v'.ownBlock = some k → v.ownBlock = some k) ∧ Tb.shr m fs' = Tb.shr m fs ∧ Tb.size fs' ≤ 1048576 ∧ Two b v.ownBlock w wr)) (fun wr => match wr.cell? ⟨b, 1, none⟩ with | some (.int _ n) => n.toNat | _ => 0)
  case atStart => exact HS0
  case round =>
    clear HS0
    obtain ⟨v', fs', hC, hv, hsh, hsz, hT⟩ := Hid.out hrel
    have HSH := hid' hsh
    have HV := hid' hv
    have HT := hid' hT
    have HC := hid' hC
    have c1 := hC.c1
    clear hsh hv hT hrel hC
    by_cases hlt : m < Tb.size fs'
    · have hlt2 : decide ((m : Int) < (Tb.size fs' : Int)) = true := decide_eq_true (by omega)
      have hlt3 : decide (m < Tb.size fs') = true := decide_eq_true hlt
      obtain ⟨a, f, rfl⟩ : ∃ a f, fs' = a ++ [f] := by
        rcases List.eq_nil_or_concat fs' with h0 | ⟨a, f, h0⟩
        · subst h0; simp [Tb.size] at hlt
        · exact ⟨a, f, by simpa using h0⟩
      obtain ⟨n, val⟩ := f
      have HP := hid' (HC.out.ring)
      rw [cells_rev_snoc, List.length_append] at HP
      obtain ⟨k, hk⟩ : ∃ k, Tb.wt (n, val) = k := ⟨_, rfl⟩
      obtain ⟨S, hS⟩ : ∃ S, Tb.size (a ++ [(n, val)]) = S := ⟨_, rfl⟩
      obtain ⟨S', hS'⟩ : ∃ S', Tb.size a = S' := ⟨_, rfl⟩
      have hsum : S = S' + k := by rw [← hS, ← hS', ← hk, Tb.size_append]; simp [Tb.size]
      have HK := hid' hk
      have HS := hid' hS
      have HS' := hid' hS'
      have HLT := hid' hlt
      rw [hS] at c1 hlt2 hlt3 HP hsz
      have HSUM := hid' hsum
      have hkb : k ≤ 1048576 := by omega
      have HMS : Hid (wr.cell? ⟨b, 1, none⟩ = some (.int .i64 (S : Int))) := hid' c1
      clear hk hS hS' hlt hsum
      go_wp2_with fail
      refine (popF_some B b _ v' _ a.length ⟨n.toArray⟩ ⟨val.toArray⟩ _ _ HP.out).mono ?_
      rintro e w1 ⟨rfl, v1, hR1, hv1, hT1⟩
      clear c1 HP
      go_wp2
      have hb2 : Below w1.heap.size w1 (w1.alloc (.cells #[.string ⟨n.toArray⟩, .string ⟨val.toArray⟩] 55)) := (Below.refl _ _).alloc (Nat.le_refl _) _
      have hY : Ar (w1.alloc (.cells #[.string ⟨n.toArray⟩, .string ⟨val.toArray⟩] 55)) w1.heap.size 55 #[.string ⟨n.toArray⟩, .string ⟨val.toArray⟩] := heap_alloc_last w1 _
      have hR2 := hR1.keep hb2
      obtain ⟨yb, hyb⟩ : ∃ yb, w1.heap.size = yb := ⟨_, rfl⟩
      have hyne : yb ≠ b := by have := hR1.obj.lt; omega
      rw [hyb] at hY ⊢
      generalize (w1.alloc (.cells #[.string ⟨n.toArray⟩, .string ⟨val.toArray⟩] 55)) = w2 at *
      have HR1 := hid' hR1
      have HT2 : Hid (Two b v.ownBlock w w2) := hid' ((HT.out.trans hT1 (fun k hk => .inl (HV.out k hk))).and (Two.of_below hb2))
      have HR2 := hid' hR2
      have HV1 : Hid (∀ k, v1.ownBlock = some k → v.ownBlock = some k) := hid' fun k hk => HV.out k (hv1 k hk)
      have HY := hid' hY
      have sOf : ∀ W W1 : World, (W.cell? ⟨b, 1, none⟩ = some (.int .i64 (S : Int)) ∧ W.frozen? ⟨b, 1, none⟩ = false ∧ W.cell? ⟨yb, 0, none⟩ = some (.string ⟨n.toArray⟩) ∧ W.cell? ⟨yb, 1, none⟩ = some (.string ⟨val.toArray⟩)) → Below W.heap.size W W1 → W1.cell? ⟨b, 1, none⟩ = some (.int .i64 (S : Int)) ∧ W1.frozen? ⟨b, 1, none⟩ = false ∧ W1.cell? ⟨yb, 0, none⟩ = some (.string ⟨n.toArray⟩) ∧ W1.cell? ⟨yb, 1, none⟩ = some (.string ⟨val.toArray⟩) := fun W W1 ⟨a, d, b', c⟩ hb => ⟨(hb.cell (World.block_lt_of_cell? W _ a)).trans a, by rw [World.frozen?_of_block (hb.block b (World.block_lt_of_cell? W _ a))]; exact d, (hb.cell (World.block_lt_of_cell? W _ b')).trans b', (hb.cell (World.block_lt_of_cell? W _ c)).trans c⟩
      have c1 : w2.cell? ⟨b, 1, none⟩ = some (.int .i64 (S : Int)) := hR2.obj.cell 1 _ rfl
      have f1 : w2.frozen? ⟨b, 1, none⟩ = false := hR2.obj.free 1
      have y0 := hY.cell 0 _ rfl
      have y1 := hY.cell 1 _ rfl
      have hS2 : w2.drew.cell? ⟨b, 1, none⟩ = some (.int .i64 (S : Int)) ∧ w2.drew.frozen? ⟨b, 1, none⟩ = false ∧ w2.drew.cell? ⟨yb, 0, none⟩ = some (.string ⟨n.toArray⟩) ∧ w2.drew.cell? ⟨yb, 1, none⟩ = some (.string ⟨val.toArray⟩) := ⟨c1, f1, y0, y1⟩
      clear hR1 hv1 hT1 hb2 hY hR2
      go_region_with (go_at_call 54; refine (cweight_at n val k HK.out (by omega) _).mono ?_; rintro e w3 ⟨rfl, hb3⟩; obtain ⟨d1, d2, d3, d4⟩ := sOf _ _ hS2 hb3)
      all_goals
        have hw : IntKind.i64.wrap ((S : Int) - (k : Int)) = (S' : Int) := by have := HSUM.out; rw [IntKind.wrap_i64]; omega
        rw [hw]
        clear hw
        have hR3 := HR2.out.keep (below_two ((Below.refl _ _).drew) hb3)
        have HC3 : Hid (CT (w3.setCell ⟨b, 1, none⟩ (.int .i64 (S' : Int))) B b v1 M a) := hid' ⟨by have := hR3.tail 0 (.int .i64 (S' : Int)); rw [HS'.out]; exact this⟩
        have HT3 : Hid (Two b v.ownBlock w (w3.setCell ⟨b, 1, none⟩ (.int .i64 (S' : Int)))) := hid' ((HT2.out.and (Two.of_below (below_two ((Below.refl _ _).drew) hb3))).and (Two.of_set _ _ _ _ _))
        have HE : Hid ((w3.setCell ⟨b, 1, none⟩ (.int .i64 (S' : Int))).cell? ⟨b, 1, none⟩ = some (.int .i64 (S' : Int))) := hid' (by have := HC3.out.c1; rw [HS'.out] at this; exact this)
        generalize w3.setCell ⟨b, 1, none⟩ (.int .i64 (S' : Int)) = w4 at *
        clear c1 f1 y0 y1 hS2 d1 d2 d3 d4 hR3 hb3 sOf
        go_wp2
        go_roundw
        case rel => exact hid' ⟨v1, a, HC3.out, HV1.out, by rw [← HSH.out, Tb.shr_snoc a (n, val) m HLT.out], by have := HSUM.out; have := HS'.out; omega, HT3.out⟩
        case measure =>
          rw [HMS.out, HE.out]
          have := HSUM.out
          have := HK.out
          have := Tb.wt_pos (n, val)
          simp
          omega
    · have hlt2 : decide ((m : Int) < (Tb.size fs' : Int)) = false := decide_eq_false (by omega)
      have hlt3 : decide (m < Tb.size fs') = false := decide_eq_false hlt
      have HE : Hid (Tb.shr m fs = fs') := hid' (by rw [← HSH.out, Tb.shr_all fs' m (by omega)])
      clear hlt
      go_wp2
      go_end0
      exact ⟨rfl, v', by rw [HE.out]; exact HC.out, HV.out, HT.out⟩

end Go.Proofs.Ytmkkhfkfjmfdcaa
