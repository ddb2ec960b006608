/-
  Both ends beside each other; the laws' awake: by its contract.
-/
import Derived.Test.YtmkkhfkfjmfdcaaGreatHpV
namespace Go.Proofs.YtmkkhfkfjmfdcaaGreat
open Go.RowKit

/-- An encoder and a decoder beside each other. -/
structure ED (w : World) (B d1 b1 : Nat) (v1 : Value) (least told M : Nat) (fs : List (List UInt8 × List UInt8)) (d2 b2 : Nat) (v2 : Value) (list : Int) (lim M2 : Nat) (fs2 : List (List UInt8 × List UInt8)) : Prop where
  enc : CE w B d1 b1 v1 least told M fs
  dec : CD w B d2 b2 v2 list lim M2 fs2
  bb : b1 ≠ b2
  vv : ∀ k, v1.ownBlock = some k → v2.ownBlock ≠ some k
section
variable {w w' : World} {B d1 b1 : Nat} {v1 v1' : Value} {least told M least' told' M' : Nat} {fs fs' : List (List UInt8 × List UInt8)} {d2 b2 : Nat} {v2 v2' : Value} {list : Int} {lim M2 lim' M2' : Nat} {fs2 fs2' : List (List UInt8 × List UInt8)}
theorem ED.keep (h : ED w B d1 b1 v1 least told M fs d2 b2 v2 list lim M2 fs2) (hb : Below w.heap.size w w') : ED w' B d1 b1 v1 least told M fs d2 b2 v2 list lim M2 fs2 := ⟨h.enc.keep hb, h.dec.keep hb, h.bb, h.vv⟩
theorem ED.decFr (h : ED w B d1 b1 v1 least told M fs d2 b2 v2 list lim M2 fs2) (hf : Fr (RSet d1 b1 v1) w w') : CD w' B d2 b2 v2 list lim M2 fs2 :=
  h.dec.fr hf (by
    rintro (e | e | e)
    · exact h.dec.obj.ne h.enc.obj (by decide) e
    · exact h.dec.obj.ne h.enc.tab.ring.obj (by decide) e
    · exact h.enc.tab.ring.row.ne h.dec.obj (by decide) e) (by
    rintro (e | e | e)
    · exact h.dec.tab.ring.obj.ne h.enc.obj (by decide) e
    · exact h.bb e.symm
    · exact h.enc.tab.ring.row.ne h.dec.tab.ring.obj (by decide) e) (by
    intro k hk
    rintro (e | e | e)
    · exact h.dec.tab.ring.row.nak h.enc.obj (by decide) k hk e
    · exact h.dec.tab.ring.row.nak h.enc.tab.ring.obj (by decide) k hk e
    · exact h.vv k e hk)
theorem ED.encFr (h : ED w B d1 b1 v1 least told M fs d2 b2 v2 list lim M2 fs2) (hf : Fr (RSet d2 b2 v2) w w') : CE w' B d1 b1 v1 least told M fs :=
  h.enc.fr hf (by
    rintro (e | e | e)
    · exact h.enc.obj.ne h.dec.obj (by decide) e
    · exact h.enc.obj.ne h.dec.tab.ring.obj (by decide) e
    · exact h.dec.tab.ring.row.ne h.enc.obj (by decide) e) (by
    rintro (e | e | e)
    · exact h.enc.tab.ring.obj.ne h.dec.obj (by decide) e
    · exact h.bb e
    · exact h.dec.tab.ring.row.ne h.enc.tab.ring.obj (by decide) e) (by
    intro k hk
    rintro (e | e | e)
    · exact h.enc.tab.ring.row.nak h.dec.obj (by decide) k hk e
    · exact h.enc.tab.ring.row.nak h.dec.tab.ring.obj (by decide) k hk e
    · exact h.vv k hk e)
theorem ED.ofEnc (h : ED w B d1 b1 v1 least told M fs d2 b2 v2 list lim M2 fs2) (hc : CE w' B d1 b1 v1' least' told' M' fs') (hf : Fr (RSet d1 b1 v1) w w') (hv : ∀ k, v1'.ownBlock = some k → v1.ownBlock = some k ∨ w.heap.size ≤ k) : ED w' B d1 b1 v1' least' told' M' fs' d2 b2 v2 list lim M2 fs2 :=
  ⟨hc, h.decFr hf, h.bb, fun k hk e => by
    rcases hv k hk with h1 | h1
    · exact h.vv k h1 e
    · have := (h.dec.tab.ring.row.lt k e).2; omega⟩
theorem ED.ofDec (h : ED w B d1 b1 v1 least told M fs d2 b2 v2 list lim M2 fs2) (hc : CD w' B d2 b2 v2' list lim' M2' fs2') (hf : Fr (RSet d2 b2 v2) w w') (hv : ∀ k, v2'.ownBlock = some k → v2.ownBlock = some k ∨ w.heap.size ≤ k) : ED w' B d1 b1 v1 least told M fs d2 b2 v2' list lim' M2' fs2' :=
  ⟨h.encFr hf, hc, h.bb, fun k hk e => by
    rcases hv k e with h1 | h1
    · exact h.vv k hk h1
    · have := (h.enc.tab.ring.row.lt k hk).2; omega⟩
end

namespace Hp
def awL : List (List UInt8 × List UInt8) := [([58, 109, 101, 116, 104, 111, 100], [71, 69, 84]), ([58, 115, 99, 104, 101, 109, 101], [104, 116, 116, 112]), ([58, 112, 97, 116, 104], [47]), ([58, 97, 117, 116, 104, 111, 114, 105, 116, 121], [119, 119, 119, 46, 101, 120, 97, 109, 112, 108, 101, 46, 99, 111, 109])]
def awF : List (List UInt8 × List UInt8) := [([58, 97, 117, 116, 104, 111, 114, 105, 116, 121], [119, 119, 119, 46, 101, 120, 97, 109, 112, 108, 101, 46, 99, 111, 109])]
set_option maxRecDepth 100000 in
theorem aw_tot : head 4096 4096 4096 ++ (many Pm.str 4096 [] awL).1 = [130, 134, 132, 65, 140, 241, 227, 194, 229, 242, 58, 107, 160, 171, 144, 244, 255] := by kernel_rfl
set_option maxRecDepth 100000 in
theorem aw_fsf : (many Pm.str 4096 [] awL).2 = awF := by kernel_rfl
set_option maxRecDepth 100000 in
theorem aw_read : read rs 4096 ⟨4096, [], []⟩ [130, 134, 132, 65, 140, 241, 227, 194, 229, 242, 58, 107, 160, 171, 144, 244, 255] = (0, ⟨4096, awF, awL⟩) := by kernel_rfl
theorem aw_r80 : read rs 4096 ⟨4096, awF, []⟩ [128] = (50, ⟨4096, awF, []⟩) := by kernel_rfl
theorem aw_size : Tb.size awF = 57 := by decide +kernel
theorem aw_sizeL : Tb.size awL = 180 := by decide +kernel
end Hp

theorem sl_of_ar {w : World} {sb : Nat} {e : TypeId} {cs : List Value} {n s B : Nat} (h : Ar w sb e cs.toArray) (hl : cs.length = n * s) (hB : B ≤ sb) (hm : n ≤ maxLen) : Sl w B e s (.slice (some ⟨sb, 0, none⟩) n n) n cs :=
  ⟨hl, .inr ⟨sb, 0, n, cs.toArray, rfl, hB, h, Nat.le_refl _, hm, by simp [hl], by simp [← hl]⟩⟩

set_option maxHeartbeats 2000000 in
set_option maxRecDepth 20000 in
theorem awake6 (w : World) : Calls Tryz.prog 14 #[] w fun e w' => e = .returned (.bool true) ∧ Below w.heap.size w w' := by
  obtain ⟨B, hB⟩ : ∃ B, w.heap.size = B := ⟨_, rfl⟩
  have HB := hid' hB
  clear hB
  go_enter Tryz.func14, Tryz.ntmps14
  go_wp2_with fail
  refine (newEnc_any B w (Nat.le_of_eq HB.out.symm)).mono ?_
  rintro e w1 ⟨d1, rfl, b1, hE, hb1⟩
  have HE1 := hid' hE
  have HB1 := hid' hb1
  clear hE hb1
  go_wp2_with fail
  refine (newDec_yes 1000 (by omega) w1.heap.size w1 (Nat.le_refl _)).mono ?_
  rintro e w2 ⟨d2, rfl, b2, hD, hb2⟩
  have hBw1 : B ≤ w1.heap.size := by rw [← HB.out]; exact HB1.out.size
  have HED : Hid (ED w2 B d1 b1 (.slice none 0 0) 4096 4096 4096 [] d2 b2 (.slice none 0 0) 1000 4096 4096 []) := hid' ⟨HE1.out.keep hb2, ⟨Nat.le_trans hBw1 hD.ge, hD.obj, ⟨⟨Nat.le_trans hBw1 hD.tab.ring.ge, hD.tab.ring.obj, hD.tab.ring.row.le hBw1, hD.tab.ring.ne⟩⟩⟩, fun e => by have h1 := HE1.out.tab.ring.obj.lt; have h2 := hD.tab.ring.ge; omega, fun k hk => by simp [Value.ownBlock] at hk⟩
  have HBW2 := hid' (below_two HB1.out hb2)
  clear hD hb2 HE1 HB1 hBw1
  go_wp2_with fail
  refine (fld_any _ _ _).mono ?_
  rintro e w3 ⟨rfl, hb3⟩
  have HX3 := hid' hb3
  clear hb3
  go_wp2_with fail
  refine (fld_any _ _ _).mono ?_
  rintro e w4 ⟨rfl, hb4⟩
  have HX4 := hid' (below_two HX3.out hb4)
  clear hb4 HX3
  go_wp2_with fail
  refine (fld_any _ _ _).mono ?_
  rintro e w5 ⟨rfl, hb5⟩
  have HX5 := hid' (below_two HX4.out hb5)
  clear hb5 HX4
  go_wp2_with fail
  refine (fld_any _ _ _).mono ?_
  rintro e w6 ⟨rfl, hb6⟩
  have HX6 := hid' (below_two HX5.out hb6)
  clear hb6 HX5
  go_wp2_with fail
  have hb7 : Below w6.heap.size w6 (w6.alloc (.cells (Tb.cells Hp.awL).toArray 54)) := (Below.refl _ _).alloc (Nat.le_refl _) _
  have hA7 : Ar (w6.alloc (.cells (Tb.cells Hp.awL).toArray 54)) w6.heap.size 54 (Tb.cells Hp.awL).toArray := heap_alloc_last w6 _
  have HED7 := hid' ((HED.out.keep HX6.out).keep hb7)
  have HSL7 : Hid (Sl (w6.alloc (.cells (Tb.cells Hp.awL).toArray 54)) w6.heap.size 54 2 (.slice (some ⟨w6.heap.size, 0, none⟩) Hp.awL.length 4) Hp.awL.length (Tb.cells Hp.awL)) := hid' (sl_of_ar hA7 rfl (Nat.le_refl _) (by decide))
  have HBW7 := hid' (below_two (below_two HBW2.out HX6.out) hb7)
  have HBS : Hid (B ≤ (w6.alloc (.cells (Tb.cells Hp.awL).toArray 54)).heap.size) := hid' (by rw [← HB.out]; exact HBW7.out.size)
  clear hb7 hA7 HED HX6 HBW2
  refine (write_any B d1 b1 (.slice none 0 0) 4096 4096 4096 [] (w6.alloc (.cells (Tb.cells Hp.awL).toArray 54)) HED7.out.enc (by decide) (by decide) (by decide) HBS.out w6.heap.size (some ⟨w6.heap.size, 0, none⟩) 4 Hp.awL HSL7.out (fun k _ => by simp [Value.ownBlock]) (by decide +kernel) (by rw [Hp.aw_sizeL]; decide) _ Hp.awF Hp.aw_tot Hp.aw_fsf).mono ?_
  obtain ⟨w7, hw7⟩ : ∃ w7, w7 = w6.alloc (.cells (Tb.cells Hp.awL).toArray 54) := ⟨_, rfl⟩
  rw [← hw7] at HED7 HSL7 HBW7 HBS
  rintro e w8 ⟨rfl, v1, hE8, hv8, hF8⟩
  rw [← hw7] at hv8 hF8
  have HED8 := hid' (HED7.out.ofEnc hE8 hF8 hv8)
  have HSL8 := hid' (hF8.sl HSL7.out (by
    intro k hk
    rintro (e | e | e)
    · exact HSL7.out.nak HED7.out.enc.obj (by decide) k hk e
    · exact HSL7.out.nak HED7.out.enc.tab.ring.obj (by decide) k hk e
    · simp [Value.ownBlock] at e))
  have HVS8 : Hid (∀ k, v1.ownBlock = some k → k ≠ w6.heap.size) := hid' fun k hk e => by
    rcases hv8 k hk with h | h
    · simp [Value.ownBlock] at h
    · rw [hw7] at h; simp at h; omega
  have HBW8 : Hid (Below B w w8) := hid' (by
    have h7 : Below B w w7 := by rw [← HB.out]; exact HBW7.out
    exact h7.trans (hF8.below (by
      rintro k (e | e | e)
      · rw [e]; exact HED7.out.enc.ge
      · rw [e]; exact HED7.out.enc.tab.ring.ge
      · simp [Value.ownBlock] at e) HBS.out))
  have HBS8 : Hid (B ≤ w8.heap.size) := hid' (Nat.le_trans HBS.out hF8.size)
  clear hE8 hv8 hF8 hw7 HED7 HSL7 HBW7 HBS
  go_wp2_with fail
  refine (read_any B d2 b2 (.slice none 0 0) 1000 4096 4096 [] _ _ HED8.out.dec (by decide) (by decide) (by decide) (by decide) HBS8.out 0 ⟨4096, Hp.awF, Hp.awL⟩ Hp.aw_read).mono ?_
  rintro e w9 ⟨hP9, hF9⟩
  rcases hP9.out with ⟨h, _⟩ | ⟨_, v2, hD9, hv9, ⟨h, _⟩ | ⟨_, gv, rfl, hsl9, hgv⟩⟩
  · exact absurd rfl h
  · exact absurd h (by rw [Hp.aw_sizeL]; decide)
  clear hP9
  obtain ⟨ao9, cap9, rfl, _⟩ := hsl9.shape
  have hlt8 : w6.heap.size < w8.heap.size := (HSL8.out.lt w6.heap.size rfl).2
  have HED9 := hid' (HED8.out.ofDec hD9 hF9 hv9)
  have HSL9 := hid' (hF9.sl HSL8.out (by
    intro k hk
    rintro (e | e | e)
    · exact HSL8.out.nak HED8.out.dec.obj (by decide) k hk e
    · exact HSL8.out.nak HED8.out.dec.tab.ring.obj (by decide) k hk e
    · simp [Value.ownBlock] at e))
  have HGV9 := hid' hsl9
  have HGA := hid' hgv
  have HV29 : Hid (∀ k, v2.ownBlock = some k → w8.heap.size ≤ k) := hid' fun k hk => by
    rcases hv9 k hk with h | h
    · simp [Value.ownBlock] at h
    · exact h
  have HBW9 : Hid (Below B w w9) := hid' (HBW8.out.trans (hF9.below (by
      rintro k (e | e | e)
      · rw [e]; exact HED8.out.dec.ge
      · rw [e]; exact HED8.out.dec.tab.ring.ge
      · simp [Value.ownBlock] at e) HBS8.out))
  have HBS9 : Hid (B ≤ w9.heap.size) := hid' (Nat.le_trans HBS8.out hF9.size)
  have HLT8 := hid' hlt8
  clear hD9 hv9 hsl9 hgv hF9 hlt8 HED8 HSL8 HBW8 HBS8
  go_wp2_with fail
  refine (read_any B d2 b2 v2 1000 4096 4096 Hp.awF [128] _ HED9.out.dec (by decide) (by decide) (by decide) (by rw [Hp.aw_size]; decide) HBS9.out 50 ⟨4096, Hp.awF, []⟩ Hp.aw_r80).mono ?_
  rintro e w10 ⟨hP10, hF10⟩
  rcases hP10.out with ⟨_, rfl, hX10⟩ | ⟨h, _⟩
  case inr => exact absurd h (by decide)
  clear hP10
  rw [Hp.aw_size] at hX10
  have HX10 := hid' hX10
  have HE10 := hid' (HED9.out.encFr hF10)
  have HSL10 := hid' (hF10.sl HSL9.out (by
    intro k hk
    rintro (e | e | e)
    · exact HSL9.out.nak HED9.out.dec.obj (by decide) k hk e
    · exact HSL9.out.nak HED9.out.dec.tab.ring.obj (by decide) k hk e
    · have h1 := HV29.out k e
      have h2 := HLT8.out
      simp [Value.ownBlock] at hk
      omega))
  have HGV10 := hid' (hF10.sl HGV9.out (by
    intro k hk
    rintro (e | e | e)
    · exact HGV9.out.nak HED9.out.dec.obj (by decide) k hk e
    · exact HGV9.out.nak HED9.out.dec.tab.ring.obj (by decide) k hk e
    · exact HGA.out k e hk))
  have HBW10 : Hid (Below B w w10) := hid' (HBW9.out.trans (hF10.below (by
      rintro k (e | e | e)
      · rw [e]; exact HED9.out.dec.ge
      · rw [e]; exact HED9.out.dec.tab.ring.ge
      · exact (HED9.out.dec.tab.ring.row.lt k e).1) HBS9.out))
  clear hX10 hF10 HED9 HSL9 HGV9 HBW9 HBS9 HLT8 HV29 HGA
  go_wp2_with fail
  refine (readX_any d2 1000 4096 50 57 (by decide) _ _ HX10.out).mono ?_
  rintro e w11 ⟨rfl, m, hw⟩
  subst w11
  go_wp2_with fail
  refine (esizeE_at B d1 b1 v1 4096 4096 4096 Hp.awF 57 Hp.aw_size _ (HE10.out.drewN m)).mono ?_
  rintro e w12 ⟨rfl, hw⟩
  subst w12
  go_wp2_with fail
  refine (xsize_at d2 1000 4096 50 57 (by decide) _ (show CX (w10.drewN m) d2 1000 4096 50 57 from HX10.out)).mono ?_
  rintro e w12 ⟨rfl, hw⟩
  subst w12
  go_wp2_with fail
  refine (same_any w6.heap.size w8.heap.size (some ⟨w6.heap.size, 0, none⟩) ao9 4 cap9 Hp.awL Hp.awL _ (show Sl (w10.drewN m) w6.heap.size 54 2 (.slice (some ⟨w6.heap.size, 0, none⟩) Hp.awL.length 4) Hp.awL.length (Tb.cells Hp.awL) from HSL10.out) (show Sl (w10.drewN m) w8.heap.size 54 2 (.slice ao9 Hp.awL.length cap9) Hp.awL.length (Tb.cells Hp.awL) from HGV10.out) (by decide) true (decide_eq_true rfl)).mono ?_
  rintro e w13 ⟨rfl, m2, hw⟩
  subst w13
  go_wp2
  go_ret
  refine ⟨rfl, ?_⟩
  have := HBW10.out
  rw [← HB.out] at this
  exact ⟨this.os, this.tape, this.output, this.size, this.block⟩

end Go.Proofs.YtmkkhfkfjmfdcaaGreat
