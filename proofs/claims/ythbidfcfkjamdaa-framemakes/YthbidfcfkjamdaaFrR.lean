/-
  frame.Next, by its contract.
-/
import Derived.Test.YthbidfcfkjamdaaFrZ
namespace Go.Proofs.Ythbidfcfkjamdaa
open Go.RowKit

/-- The frame that bytes begin with. -/
def nxC (l : List UInt8) : Array Value := frC ((l.getD 3 0).toNat : Nat) ((l.getD 4 0).toNat : Nat) (Fm.idn (l.drop 5) : Nat) ((l.drop 9).take (Fm.num (l.take 3)))
def frZ : Array Value := #[.int .i64 0, .int .i64 0, .int .i64 0, .string ⟨#[]⟩]

section
variable {ops : Array Oper} {rest : List Oper} {o : Oper} {a : Act} {w : World} {Q : Exit → Act → World → Prop}
theorem wpl_stf (x y : Operand) (ho : o.op = .store 31 x y) (hgd : o.guard = none) (b : Nat) (k fl st : Int) (l : List UInt8) (hx : a.eval x = .pointer (some ⟨b, 0, none⟩)) (hy : a.eval y = .agg (frC k fl st l))
    (old : Array Value) (hg : Ar w b 31 old) (hold : old.size = 4)
    (h : ∀ w', Ar w' b 31 (frC k fl st l) → Upd b w w' → wpList Try.prog ops Q rest (a.put o.dst undef) w') : wpList Try.prog ops Q (o :: rest) a w :=
  wpl_store 31 x y ho hgd b _ hx hy _ _ hg sizeFrame hold (by simp [frC, Value.oneCell']) h
end
theorem ldf {w : World} {b : Nat} {k fl st : Int} {l : List UInt8} (h : Ar w b 31 (frC k fl st l)) : (loadVar 31 ⟨b, 0, none⟩).run Try.prog w = .ok (.agg (frC k fl st l)) w := ld_frame h

set_option maxHeartbeats 4000000 in
set_option maxRecDepth 20000 in
theorem cnext_bad (l : List UInt8) (most r : Int) (hr : Fm.nextE l most = r) (h0 : r ≠ 0) (w : World) : Calls Try.prog 39 #[.string ⟨l.toArray⟩, .int .i64 most] w fun e w' => e = .returned (.tuple #[.agg frZ, .int .i64 0, .int .i64 r]) ∧ Below w.heap.size w w' := by
  unfold Fm.nextE at hr
  by_cases h3 : l.length < 3
  · rw [if_pos h3] at hr
    subst hr
    have d0 : decide ((l.length : Int) < 3) = true := decide_eq_true (by omega)
    clear h0 h3
    go_enter Try.func39, Try.ntmps39
    go_wp2_with (refine wpl_alloc 31 rfl rfl _ zeroFrame ?_)
    intro b0 w0 hg0 ha0 hb0
    go_wp2_with (refine wpl_stf _ _ rfl rfl b0 0 0 0 [] (by kernel_rfl) (by kernel_rfl) _ ha0 rfl ?_)
    intro w1 ha1 hu1
    go_wp2
    exact bodyPost_ret (v := .tuple #[.agg frZ, .int .i64 0, .int .i64 40]) (by simp [results, Try.results39, asAddr, ldf ha1]; rfl) rfl ⟨rfl, hb0.trans (hu1.below hg0)⟩
  · rw [if_neg h3] at hr
    have hcut := cut_ends l 3
    obtain ⟨y, hy⟩ : ∃ y, l.take 3 = y := ⟨_, rfl⟩
    have hyl : y.length ≤ 4 := by rw [← hy, List.length_take]; omega
    have hyl3 : y.length = 3 := by rw [← hy, List.length_take]; omega
    rw [hy] at hcut hr
    obtain ⟨n, hn⟩ : ∃ n, Fm.num y = n := ⟨_, rfl⟩
    have hn24 := Fm.num_lt3 hyl3
    rw [hn] at hr hn24
    have HN := hid' hn
    have d0 : decide ((l.length : Int) < 3) = false := decide_eq_false (by omega)
    have hl3 : (3 : Int) ≤ (l.length : Int) := by omega
    clear hy hyl3 hn
    by_cases hm : most < (n : Int)
    · rw [if_pos hm] at hr
      subst hr
      have d1 : decide (most < (n : Int)) = true := decide_eq_true hm
      clear h0 h3 hm
      go_enter Try.func39, Try.ntmps39
      go_wp2_with (refine wpl_alloc 31 rfl rfl _ zeroFrame ?_)
      intro b0 w0 hg0 ha0 hb0
      go_wp2_with fail
      refine (cnumber_any y hyl _).mono ?_
      rintro e w1 ⟨rfl, hw⟩
      subst w1
      rw [HN.out]
      go_wp2_with (refine wpl_stf _ _ rfl rfl b0 0 0 0 [] (by kernel_rfl) (by kernel_rfl) _ ha0 rfl ?_)
      intro w1 ha1 hu1
      go_wp2
      exact bodyPost_ret (v := .tuple #[.agg frZ, .int .i64 0, .int .i64 3]) (by simp [results, Try.results39, asAddr, ldf ha1]; rfl) rfl ⟨rfl, hb0.trans (hu1.below hg0)⟩
    · rw [if_neg hm] at hr
      by_cases hs : l.length < 9 + n
      · rw [if_pos hs] at hr
        subst hr
        have d1 : decide (most < (n : Int)) = false := decide_eq_false hm
        have d2 : decide ((l.length : Int) < 9 + (n : Int)) = true := decide_eq_true (by omega)
        clear h0 h3 hm hs
        go_enter Try.func39, Try.ntmps39
        go_wp2_with (refine wpl_alloc 31 rfl rfl _ zeroFrame ?_)
        intro b0 w0 hg0 ha0 hb0
        go_wp2_with fail
        refine (cnumber_any y hyl _).mono ?_
        rintro e w1 ⟨rfl, hw⟩
        subst w1
        rw [HN.out]
        go_wp2_with (refine wpl_stf _ _ rfl rfl b0 0 0 0 [] (by kernel_rfl) (by kernel_rfl) _ ha0 rfl ?_)
        intro w1 ha1 hu1
        go_wp2
        exact bodyPost_ret (v := .tuple #[.agg frZ, .int .i64 0, .int .i64 40]) (by simp [results, Try.results39, asAddr, ldf ha1]; rfl) rfl ⟨rfl, hb0.trans (hu1.below hg0)⟩
      · rw [if_neg hs] at hr
        exact absurd hr.symm h0

set_option maxHeartbeats 4000000 in
set_option maxRecDepth 20000 in
theorem cnext_ok (l : List UInt8) (most : Int) (n : Nat) (hn : Fm.num (l.take 3) = n) (hr : Fm.nextE l most = 0) (hsz : l.length ≤ 281474976710656) (w : World) : Calls Try.prog 39 #[.string ⟨l.toArray⟩, .int .i64 most] w fun e w' => e = .returned (.tuple #[.agg (nxC l), .int .i64 (9 + (n : Int)), .int .i64 0]) ∧ Below w.heap.size w w' := by
  have h3 : ¬ l.length < 3 := by intro h; unfold Fm.nextE at hr; rw [if_pos h] at hr; cases hr
  have hm : ¬ most < (n : Int) := by intro h; unfold Fm.nextE at hr; rw [if_neg h3, hn, if_pos h] at hr; cases hr
  have hs : ¬ l.length < 9 + n := by intro h; unfold Fm.nextE at hr; rw [if_neg h3, hn, if_neg hm, if_pos h] at hr; cases hr
  clear hr
  have HX : Hid (nxC l = frC ((l.getD 3 0).toNat : Nat) ((l.getD 4 0).toNat : Nat) (Fm.idn (l.drop 5) : Nat) ((l.drop 9).take n)) := hid' (by unfold nxC; rw [hn])
  have hcut := cut_ends l 3
  obtain ⟨y, hy⟩ : ∃ y, l.take 3 = y := ⟨_, rfl⟩
  have hyl : y.length ≤ 4 := by rw [← hy, List.length_take]; omega
  have hyl3 : y.length = 3 := by rw [← hy, List.length_take]; omega
  rw [hy] at hcut hn
  have hn24 := Fm.num_lt3 hyl3
  rw [hn] at hn24
  have HN := hid' hn
  have d0 : decide ((l.length : Int) < 3) = false := decide_eq_false (by omega)
  have d1 : decide (most < (n : Int)) = false := decide_eq_false hm
  have d2 : decide ((l.length : Int) < 9 + (n : Int)) = false := decide_eq_false (by omega)
  have hl3 : (3 : Int) ≤ (l.length : Int) := by omega
  have hl5 : (5 : Int) ≤ (l.length : Int) := by omega
  have hi3 : (3 : Int) < (l.length : Int) := by omega
  have hi4 : (4 : Int) < (l.length : Int) := by omega
  have hb3 : 3 < (⟨l.toArray⟩ : ByteArray).size := by show 3 < l.length; omega
  have hb4 : 4 < (⟨l.toArray⟩ : ByteArray).size := by show 4 < l.length; omega
  obtain ⟨c, hc⟩ : ∃ c, (⟨l.toArray⟩ : ByteArray)[3] = c := ⟨_, rfl⟩
  obtain ⟨d, hd⟩ : ∃ c, (⟨l.toArray⟩ : ByteArray)[4] = c := ⟨_, rfl⟩
  have hcut5 := cut_rest l 5
  obtain ⟨x, hx⟩ : ∃ x, l.drop 5 = x := ⟨_, rfl⟩
  have hxl : 4 ≤ x.length := by rw [← hx, List.length_drop]; omega
  rw [hx] at hcut5
  obtain ⟨s, hst⟩ : ∃ s, Fm.idn x = s := ⟨_, rfl⟩
  have HST := hid' hst
  obtain ⟨e9, he9⟩ : ∃ e9 : Nat, 9 + n = e9 := ⟨_, rfl⟩
  have he9i : 9 + (n : Int) = (e9 : Int) := by omega
  have hle9 : (e9 : Int) ≤ (l.length : Int) := by omega
  have h99 : (9 : Int) ≤ (e9 : Int) := by omega
  have hcut9 := cut_mid l 9 e9
  obtain ⟨p, hp⟩ : ∃ p, (l.drop 9).take n = p := ⟨_, rfl⟩
  rw [show e9 - 9 = n by omega, hp] at hcut9
  have hpl : p.length ≤ 281474976710656 := by rw [← hp, List.length_take]; omega
  have HX2 : Hid (nxC l = frC (c.toNat : Int) (d.toNat : Int) (s : Int) p) := hid' (by
    rw [HX.out, hx, hst, hp]
    have e3 : l.getD 3 0 = c := by rw [← hc, List.getD_eq_getElem?_getD, List.getElem?_eq_getElem (by omega)]; rfl
    have e4 : l.getD 4 0 = d := by rw [← hd, List.getD_eq_getElem?_getD, List.getElem?_eq_getElem (by omega)]; rfl
    rw [e3, e4])
  rw [HX2.out]
  have HHS := hid' hs
  clear HX HX2 hy hyl3 hn h3 hm hs hx hst hp he9
  go_enter Try.func39, Try.ntmps39
  go_wp2_with (refine wpl_alloc 31 rfl rfl _ zeroFrame ?_)
  intro b0 w0 hg0 ha0 hb0
  have x0 := ha0.cell 0 _ rfl
  have x1 := ha0.cell 1 _ rfl
  have x2 := ha0.cell 2 _ rfl
  have x3 := ha0.cell 3 _ rfl
  have f0 := ha0.free 0
  have f1 := ha0.free 1
  have f2 := ha0.free 2
  have f3 := ha0.free 3
  have HA := hid' ha0
  have HB := hid' hb0
  clear ha0 hb0
  go_wp2_with fail
  refine (cnumber_any y hyl _).mono ?_
  rintro e w1 ⟨rfl, hw⟩
  subst w1
  rw [HN.out]
  go_upto_region 9 with fail
  go_region_with (first
    | (go_at_call 62; refine (cstream_any x s hxl HST.out _).mono ?_; rintro e w1 ⟨rfl, hw⟩; subst w1)
    | (go_at_call 63; refine (fclone_l p hpl _).mono ?_; rintro e w1 ⟨rfl, hb1⟩; have hA1 := (Ar.drew HA.out).keep hb1; have HA1 := hid' hA1; have HB1 := hid' (below_two HB.out.drew hb1); have x0' := hA1.cell 0 _ rfl; have x1' := hA1.cell 1 _ rfl; have x2' := hA1.cell 2 _ rfl; have x3' := hA1.cell 3 _ rfl; have f0' := hA1.free 0; have f1' := hA1.free 1; have f2' := hA1.free 2; have f3' := hA1.free 3; clear hA1 hb1))
  all_goals go_wp2
  all_goals
    rw [wrap_byte, wrap_byte]
    obtain ⟨hA2, hU2⟩ := st4 HA1.out (.int .i64 (c.toNat : Int)) (.int .i64 (d.toNat : Int)) (.int .i64 (s : Int)) (.string ⟨p.toArray⟩)
    have hA3 : Ar _ b0 31 (frC (c.toNat : Int) (d.toNat : Int) (s : Int) p) := hA2
    have l1 := ldf hA3
    exact bodyPost_ret (v := .tuple #[.agg (frC (c.toNat : Int) (d.toNat : Int) (s : Int) p), .int .i64 (e9 : Int), .int .i64 0]) (by simp [results, Try.results39, asAddr, Act.put, l1]) rfl ⟨by rw [he9i], HB1.out.trans (hU2.below hg0)⟩

end Go.Proofs.Ythbidfcfkjamdaa
