/-
  Encoder.represent: by its contracts. Written by mkhpe.py.
-/
import Derived.Test.YtmkkhfkfjmfdcaaGreatHpX
namespace Go.Proofs.YtmkkhfkfjmfdcaaGreat
open Go.RowKit

theorem add_ce {w : World} {B d b : Nat} {v : Value} {least told M : Nat} {fs : List (List UInt8 × List UInt8)} (h : CE w B d b v least told M fs) (f1 f2 : List UInt8) (fb : Nat) (hA : Ar w fb 54 #[.string ⟨f1.toArray⟩, .string ⟨f2.toArray⟩]) (hfb : fb ≠ b) (hfv : ∀ k, v.ownBlock = some k → k ≠ fb) (hM : M ≤ 65536) (hs : Tb.size fs ≤ 1048576) (hB : B ≤ w.heap.size) (h1 : f1.length ≤ 140737488355328) (h2 : f2.length ≤ 140737488355328) :
    Calls Tryz.prog 40 #[.pointer (some ⟨d, 0, none⟩), .agg #[.string ⟨f1.toArray⟩, .string ⟨f2.toArray⟩]] w.drew fun e w' => e = .returned (.tuple #[]) ∧ ∃ v', w'.cell? ⟨fb, 0, none⟩ = some (.string ⟨f1.toArray⟩) ∧ w'.cell? ⟨fb, 1, none⟩ = some (.string ⟨f2.toArray⟩) ∧ Hid (CE w' B d b v' least told M (Tb.add M fs (f1, f2)) ∧ Ar w' fb 54 #[.string ⟨f1.toArray⟩, .string ⟨f2.toArray⟩] ∧ (∀ k, v'.ownBlock = some k → v.ownBlock = some k ∨ w.heap.size ≤ k) ∧ Two b v.ownBlock w w') := by
  refine (eadd_at B b v M fs f1 f2 d w.drew (h.obj.cell 0 _ rfl) h.tab.drew hM hs hB h1 h2).mono ?_
  rintro e w' ⟨rfl, v', hC, hv, hT⟩
  have hT' : Two b v.ownBlock w w' := ⟨hT.os, hT.tape, hT.output, hT.size, hT.block⟩
  have hA' := hT'.ar hA hfb (fun e => hfv fb e rfl)
  exact ⟨rfl, v', hA'.cell 0 _ rfl, hA'.cell 1 _ rfl, hid' ⟨h.put hT' hC, hA', hv, hT'⟩⟩

set_option maxHeartbeats 2000000 in
set_option maxRecDepth 20000 in
theorem rep_ind (B d b : Nat) (v : Value) (least told M : Nat) (fs : List (List UInt8 × List UInt8)) (n val : List UInt8) (k : Nat) (wh : Bool) (w : World) (h : CE w B d b v least told M fs) (hs : Tb.size fs ≤ 65536) (hk : Tb.find fs (n, val) = (k, wh)) (hn : n.length ≤ 134217728) (hv : val.length ≤ 134217728) (hK : kindOf M n val wh = 128) :
    Calls Tryz.prog 22 #[.pointer (some ⟨d, 0, none⟩), .agg #[.string ⟨n.toArray⟩, .string ⟨val.toArray⟩]] w fun e w' => e = .returned (.string ⟨(Pm.num 128 7 k).toArray⟩) ∧ Below w.heap.size w w' := by
  have hkb : k ≤ 2147483647 := by have := Hp.find_le fs (n, val); rw [hk] at this; have := Tb.size_len fs; simp only at *; omega
  obtain ⟨a, ha⟩ : ∃ a, Pm.num 128 7 k = a := ⟨_, rfl⟩
  rw [ha]
  have hal : a.length ≤ 10 := by rw [← ha]; have := (Pm.num_length 128 7 k hkb).2; omega
  have hb0 : Below w.heap.size w (w.alloc (.cells #[.string ⟨n.toArray⟩, .string ⟨val.toArray⟩] 54)) := (Below.refl _ _).alloc (Nat.le_refl _) _
  have hA : Ar (w.alloc (.cells #[.string ⟨n.toArray⟩, .string ⟨val.toArray⟩] 54)) w.heap.size 54 #[.string ⟨n.toArray⟩, .string ⟨val.toArray⟩] := heap_alloc_last w _
  have H0 := hid' (h.keep hb0)
  have HH := hid' h
  have HA := hid' hA
  have HB0 := hid' hb0
  have HS : Hid (Tb.size fs ≤ 1048576) := hid' (by omega)
  have HF := hid' hk
  have HKB := hid' hkb
  have HNUM := hid' ha
  have HN := hid' hn
  have HV := hid' hv
  have HK := hid' hK
  clear h hA hb0 hs hk hkb ha hn hv hK
  go_enter Tryz.func22, Tryz.ntmps22
  go_wp2
  obtain ⟨fb, hfb⟩ : ∃ fb, w.heap.size = fb := ⟨_, rfl⟩
  have HFB := hid' hfb
  rw [hfb] at HA ⊢
  clear hfb
  generalize (w.alloc (.cells #[.string ⟨n.toArray⟩, .string ⟨val.toArray⟩] 54)) = w0 at *
  have x0 : w0.cell? ⟨fb, 0, none⟩ = some (.string ⟨n.toArray⟩) := HA.out.cell 0 _ rfl
  have x1 : w0.cell? ⟨fb, 1, none⟩ = some (.string ⟨val.toArray⟩) := HA.out.cell 1 _ rfl
  have hS : Below w0.heap.size w0 w0 ∧ w0.cell? ⟨fb, 0, none⟩ = some (.string ⟨n.toArray⟩) ∧ w0.cell? ⟨fb, 1, none⟩ = some (.string ⟨val.toArray⟩) := ⟨Below.refl _ _, x0, x1⟩
  have sOf : ∀ W W1 : World, (Below w0.heap.size w0 W ∧ W.cell? ⟨fb, 0, none⟩ = some (.string ⟨n.toArray⟩) ∧ W.cell? ⟨fb, 1, none⟩ = some (.string ⟨val.toArray⟩)) → Below W.heap.size W W1 → Below w0.heap.size w0 W1 ∧ W1.cell? ⟨fb, 0, none⟩ = some (.string ⟨n.toArray⟩) ∧ W1.cell? ⟨fb, 1, none⟩ = some (.string ⟨val.toArray⟩) := fun W W1 ⟨h, h0, h1⟩ hb => ⟨below_two h hb, Below.kc hb h0, Below.kc hb h1⟩
  have tOf : ∀ W : World, (Below w0.heap.size w0 W ∧ W.cell? ⟨fb, 0, none⟩ = some (.string ⟨n.toArray⟩) ∧ W.cell? ⟨fb, 1, none⟩ = some (.string ⟨val.toArray⟩)) → CE W B d b v least told M fs := fun W h => H0.out.keep h.1
  go_region_held3 (fun W => Below w0.heap.size w0 W ∧ W.cell? ⟨fb, 0, none⟩ = some (.string ⟨n.toArray⟩) ∧ W.cell? ⟨fb, 1, none⟩ = some (.string ⟨val.toArray⟩))
    (first | assumption | exact sOf _ _ (by assumption) (by assumption) | exact sOf _ _ (by assumption) ((Below.refl _ _).drew))
    (first | (go_at_call 38; refine (efind_at B b v M fs n val d _ ((tOf _ (by assumption)).obj.cell 0 _ rfl) (tOf _ (by assumption)).tab HS.out k wh HF.out).mono ?_; rintro e w1 ⟨rfl, hb1⟩))
  have HB1 := hid' (below_two (below_two (Below.refl w0.heap.size w0) ((Below.refl _ _).drew)) hb1)
  clear x0 x1 hS sOf tOf hb1
  have x0 := Below.kc HB1.out (HA.out.cell 0 _ rfl)
  have x1 := Below.kc HB1.out (HA.out.cell 1 _ rfl)
  go_wp2_with fail
  refine (kind_at B d b v least told M fs n val wh 128 HK.out (by have := HN.out; omega) (by have := HV.out; omega) _ (H0.out.keep HB1.out)).mono ?_
  rintro e w2 ⟨rfl, hb2⟩
  have HB2 := hid' (below_two HB1.out hb2)
  clear hb2 HB1 x0 x1
  have x0 := Below.kc HB2.out (HA.out.cell 0 _ rfl)
  have x1 := Below.kc HB2.out (HA.out.cell 1 _ rfl)
  go_wp2_with fail
  refine (head_at 128 128 7 k a rfl rfl HNUM.out (by decide) HKB.out _).mono ?_
  rintro e w3 ⟨rfl, hb3⟩
  have HB3 := hid' (below_two HB2.out hb3)
  clear hb3 HB2 x0 x1
  have x0 : w3.cell? ⟨fb, 0, none⟩ = some (.string ⟨n.toArray⟩) := Below.kc HB3.out (HA.out.cell 0 _ rfl)
  have x1 : w3.cell? ⟨fb, 1, none⟩ = some (.string ⟨val.toArray⟩) := Below.kc HB3.out (HA.out.cell 1 _ rfl)
  go_wp2
  go_ret
  exact ⟨rfl, below_two HB0.out HB3.out⟩

set_option maxHeartbeats 2000000 in
set_option maxRecDepth 20000 in
theorem rep_plain0 (B d b : Nat) (v : Value) (least told M : Nat) (fs : List (List UInt8 × List UInt8)) (n val : List UInt8) (k : Nat) (wh : Bool) (w : World) (h : CE w B d b v least told M fs) (hs : Tb.size fs ≤ 65536) (hk : Tb.find fs (n, val) = (k, wh)) (hn : n.length ≤ 134217728) (hv : val.length ≤ 134217728) (K : Nat) (x : UInt8) (hx : x.toNat = K) (hx4 : (Hp.kind x).2 = 4) (hK16 : K % 16 = 0) (hK1 : ((K : Int) == 128) = false) (hK2 : ((K : Int) == 64) = false) (hK : kindOf M n val wh = K) (hz : k = 0) :
    Calls Tryz.prog 22 #[.pointer (some ⟨d, 0, none⟩), .agg #[.string ⟨n.toArray⟩, .string ⟨val.toArray⟩]] w fun e w' => e = .returned (.string ⟨((Pm.num K 4 k ++ Pm.str n) ++ Pm.str val).toArray⟩) ∧ Below w.heap.size w w' := by
  have hkb : k ≤ 2147483647 := by have := Hp.find_le fs (n, val); rw [hk] at this; have := Tb.size_len fs; simp only at *; omega
  obtain ⟨a, ha⟩ : ∃ a, Pm.num K 4 k = a := ⟨_, rfl⟩
  rw [ha]
  have hal : a.length ≤ 10 := by rw [← ha]; have := (Pm.num_length K 4 k hkb).2; omega
  obtain ⟨sv, hsv⟩ : ∃ s, Pm.str val = s := ⟨_, rfl⟩
  rw [hsv]
  have hsvl : sv.length ≤ 134217738 := by rw [← hsv]; have := (Pm.str_length val (by omega)).2; omega
  have HSV := hid' hsv
  clear hsv
  obtain ⟨sn, hsn⟩ : ∃ s, Pm.str n = s := ⟨_, rfl⟩
  rw [hsn]
  have hsnl : sn.length ≤ 134217738 := by rw [← hsn]; have := (Pm.str_length n (by omega)).2; omega
  have HSN := hid' hsn
  clear hsn
  subst hz
  have hb0 : Below w.heap.size w (w.alloc (.cells #[.string ⟨n.toArray⟩, .string ⟨val.toArray⟩] 54)) := (Below.refl _ _).alloc (Nat.le_refl _) _
  have hA : Ar (w.alloc (.cells #[.string ⟨n.toArray⟩, .string ⟨val.toArray⟩] 54)) w.heap.size 54 #[.string ⟨n.toArray⟩, .string ⟨val.toArray⟩] := heap_alloc_last w _
  have H0 := hid' (h.keep hb0)
  have HH := hid' h
  have HA := hid' hA
  have HB0 := hid' hb0
  have HS : Hid (Tb.size fs ≤ 1048576) := hid' (by omega)
  have HF := hid' hk
  have HKB := hid' hkb
  have HNUM := hid' ha
  have HN := hid' hn
  have HV := hid' hv
  have HK := hid' hK
  have HX := hid' hx
  have HX4 := hid' hx4
  have HK16 := hid' hK16
  clear h hA hb0 hs hk hkb ha hn hv hK hx hx4 hK16
  go_enter Tryz.func22, Tryz.ntmps22
  go_wp2
  obtain ⟨fb, hfb⟩ : ∃ fb, w.heap.size = fb := ⟨_, rfl⟩
  have HFB := hid' hfb
  rw [hfb] at HA ⊢
  clear hfb
  generalize (w.alloc (.cells #[.string ⟨n.toArray⟩, .string ⟨val.toArray⟩] 54)) = w0 at *
  have x0 : w0.cell? ⟨fb, 0, none⟩ = some (.string ⟨n.toArray⟩) := HA.out.cell 0 _ rfl
  have x1 : w0.cell? ⟨fb, 1, none⟩ = some (.string ⟨val.toArray⟩) := HA.out.cell 1 _ rfl
  have hS : Below w0.heap.size w0 w0 ∧ w0.cell? ⟨fb, 0, none⟩ = some (.string ⟨n.toArray⟩) ∧ w0.cell? ⟨fb, 1, none⟩ = some (.string ⟨val.toArray⟩) := ⟨Below.refl _ _, x0, x1⟩
  have sOf : ∀ W W1 : World, (Below w0.heap.size w0 W ∧ W.cell? ⟨fb, 0, none⟩ = some (.string ⟨n.toArray⟩) ∧ W.cell? ⟨fb, 1, none⟩ = some (.string ⟨val.toArray⟩)) → Below W.heap.size W W1 → Below w0.heap.size w0 W1 ∧ W1.cell? ⟨fb, 0, none⟩ = some (.string ⟨n.toArray⟩) ∧ W1.cell? ⟨fb, 1, none⟩ = some (.string ⟨val.toArray⟩) := fun W W1 ⟨h, h0, h1⟩ hb => ⟨below_two h hb, Below.kc hb h0, Below.kc hb h1⟩
  have tOf : ∀ W : World, (Below w0.heap.size w0 W ∧ W.cell? ⟨fb, 0, none⟩ = some (.string ⟨n.toArray⟩) ∧ W.cell? ⟨fb, 1, none⟩ = some (.string ⟨val.toArray⟩)) → CE W B d b v least told M fs := fun W h => H0.out.keep h.1
  go_region_held3 (fun W => Below w0.heap.size w0 W ∧ W.cell? ⟨fb, 0, none⟩ = some (.string ⟨n.toArray⟩) ∧ W.cell? ⟨fb, 1, none⟩ = some (.string ⟨val.toArray⟩))
    (first | assumption | exact sOf _ _ (by assumption) (by assumption) | exact sOf _ _ (by assumption) ((Below.refl _ _).drew))
    (first | (go_at_call 38; refine (efind_at B b v M fs n val d _ ((tOf _ (by assumption)).obj.cell 0 _ rfl) (tOf _ (by assumption)).tab HS.out 0 wh HF.out).mono ?_; rintro e w1 ⟨rfl, hb1⟩))
  have HB1 := hid' (below_two (below_two (Below.refl w0.heap.size w0) ((Below.refl _ _).drew)) hb1)
  clear x0 x1 hS sOf tOf hb1
  have x0 := Below.kc HB1.out (HA.out.cell 0 _ rfl)
  have x1 := Below.kc HB1.out (HA.out.cell 1 _ rfl)
  go_wp2_with fail
  refine (kind_at B d b v least told M fs n val wh K HK.out (by have := HN.out; omega) (by have := HV.out; omega) _ (H0.out.keep HB1.out)).mono ?_
  rintro e w2 ⟨rfl, hb2⟩
  have HB2 := hid' (below_two HB1.out hb2)
  clear hb2 HB1 x0 x1
  have x0 := Below.kc HB2.out (HA.out.cell 0 _ rfl)
  have x1 := Below.kc HB2.out (HA.out.cell 1 _ rfl)
  go_wp2_with fail
  refine (head_at x K 4 0 a HX.out HX4.out HNUM.out HK16.out HKB.out _).mono ?_
  rintro e w3 ⟨rfl, hb3⟩
  have HB3 := hid' (below_two HB2.out hb3)
  clear hb3 HB2 x0 x1
  have x0 : w3.cell? ⟨fb, 0, none⟩ = some (.string ⟨n.toArray⟩) := Below.kc HB3.out (HA.out.cell 0 _ rfl)
  have x1 : w3.cell? ⟨fb, 1, none⟩ = some (.string ⟨val.toArray⟩) := Below.kc HB3.out (HA.out.cell 1 _ rfl)
  have HA3 := hid' (HA.out.keep HB3.out)
  go_wp2_with fail
  refine (str_at n sn HSN.out (by have := HN.out; omega) _).mono ?_
  rintro e w7 ⟨rfl, hb7⟩
  have HB7 := hid' hb7
  have z0 := Below.kc hb7 (HA3.out.cell 0 _ rfl)
  have z1 := Below.kc hb7 (HA3.out.cell 1 _ rfl)
  clear hb7 x0 x1
  go_wp2_with fail
  refine (str_at val sv HSV.out (by have := HV.out; omega) _).mono ?_
  rintro e w8 ⟨rfl, hb8⟩
  have HB8 := hid' (below_two HB7.out hb8)
  clear hb8
  go_wp2
  go_ret
  refine ⟨?_, below_two (below_two HB0.out HB3.out) HB8.out⟩
  rw [← Pm.str_cat, ← Pm.str_cat]
  rfl

set_option maxHeartbeats 2000000 in
set_option maxRecDepth 20000 in
theorem rep_plain (B d b : Nat) (v : Value) (least told M : Nat) (fs : List (List UInt8 × List UInt8)) (n val : List UInt8) (k : Nat) (wh : Bool) (w : World) (h : CE w B d b v least told M fs) (hs : Tb.size fs ≤ 65536) (hk : Tb.find fs (n, val) = (k, wh)) (hn : n.length ≤ 134217728) (hv : val.length ≤ 134217728) (K : Nat) (x : UInt8) (hx : x.toNat = K) (hx4 : (Hp.kind x).2 = 4) (hK16 : K % 16 = 0) (hK1 : ((K : Int) == 128) = false) (hK2 : ((K : Int) == 64) = false) (hK : kindOf M n val wh = K) (hz : k ≠ 0) :
    Calls Tryz.prog 22 #[.pointer (some ⟨d, 0, none⟩), .agg #[.string ⟨n.toArray⟩, .string ⟨val.toArray⟩]] w fun e w' => e = .returned (.string ⟨(Pm.num K 4 k ++ Pm.str val).toArray⟩) ∧ Below w.heap.size w w' := by
  have hkb : k ≤ 2147483647 := by have := Hp.find_le fs (n, val); rw [hk] at this; have := Tb.size_len fs; simp only at *; omega
  obtain ⟨a, ha⟩ : ∃ a, Pm.num K 4 k = a := ⟨_, rfl⟩
  rw [ha]
  have hal : a.length ≤ 10 := by rw [← ha]; have := (Pm.num_length K 4 k hkb).2; omega
  obtain ⟨sv, hsv⟩ : ∃ s, Pm.str val = s := ⟨_, rfl⟩
  rw [hsv]
  have hsvl : sv.length ≤ 134217738 := by rw [← hsv]; have := (Pm.str_length val (by omega)).2; omega
  have HSV := hid' hsv
  clear hsv
  have hz1 : ((k : Int) == 0) = false := beq_false_of_ne (by omega)
  have hz2 : (k == 0) = false := beq_false_of_ne hz
  clear hz
  have hb0 : Below w.heap.size w (w.alloc (.cells #[.string ⟨n.toArray⟩, .string ⟨val.toArray⟩] 54)) := (Below.refl _ _).alloc (Nat.le_refl _) _
  have hA : Ar (w.alloc (.cells #[.string ⟨n.toArray⟩, .string ⟨val.toArray⟩] 54)) w.heap.size 54 #[.string ⟨n.toArray⟩, .string ⟨val.toArray⟩] := heap_alloc_last w _
  have H0 := hid' (h.keep hb0)
  have HH := hid' h
  have HA := hid' hA
  have HB0 := hid' hb0
  have HS : Hid (Tb.size fs ≤ 1048576) := hid' (by omega)
  have HF := hid' hk
  have HKB := hid' hkb
  have HNUM := hid' ha
  have HN := hid' hn
  have HV := hid' hv
  have HK := hid' hK
  have HX := hid' hx
  have HX4 := hid' hx4
  have HK16 := hid' hK16
  clear h hA hb0 hs hk hkb ha hn hv hK hx hx4 hK16
  go_enter Tryz.func22, Tryz.ntmps22
  go_wp2
  obtain ⟨fb, hfb⟩ : ∃ fb, w.heap.size = fb := ⟨_, rfl⟩
  have HFB := hid' hfb
  rw [hfb] at HA ⊢
  clear hfb
  generalize (w.alloc (.cells #[.string ⟨n.toArray⟩, .string ⟨val.toArray⟩] 54)) = w0 at *
  have x0 : w0.cell? ⟨fb, 0, none⟩ = some (.string ⟨n.toArray⟩) := HA.out.cell 0 _ rfl
  have x1 : w0.cell? ⟨fb, 1, none⟩ = some (.string ⟨val.toArray⟩) := HA.out.cell 1 _ rfl
  have hS : Below w0.heap.size w0 w0 ∧ w0.cell? ⟨fb, 0, none⟩ = some (.string ⟨n.toArray⟩) ∧ w0.cell? ⟨fb, 1, none⟩ = some (.string ⟨val.toArray⟩) := ⟨Below.refl _ _, x0, x1⟩
  have sOf : ∀ W W1 : World, (Below w0.heap.size w0 W ∧ W.cell? ⟨fb, 0, none⟩ = some (.string ⟨n.toArray⟩) ∧ W.cell? ⟨fb, 1, none⟩ = some (.string ⟨val.toArray⟩)) → Below W.heap.size W W1 → Below w0.heap.size w0 W1 ∧ W1.cell? ⟨fb, 0, none⟩ = some (.string ⟨n.toArray⟩) ∧ W1.cell? ⟨fb, 1, none⟩ = some (.string ⟨val.toArray⟩) := fun W W1 ⟨h, h0, h1⟩ hb => ⟨below_two h hb, Below.kc hb h0, Below.kc hb h1⟩
  have tOf : ∀ W : World, (Below w0.heap.size w0 W ∧ W.cell? ⟨fb, 0, none⟩ = some (.string ⟨n.toArray⟩) ∧ W.cell? ⟨fb, 1, none⟩ = some (.string ⟨val.toArray⟩)) → CE W B d b v least told M fs := fun W h => H0.out.keep h.1
  go_region_held3 (fun W => Below w0.heap.size w0 W ∧ W.cell? ⟨fb, 0, none⟩ = some (.string ⟨n.toArray⟩) ∧ W.cell? ⟨fb, 1, none⟩ = some (.string ⟨val.toArray⟩))
    (first | assumption | exact sOf _ _ (by assumption) (by assumption) | exact sOf _ _ (by assumption) ((Below.refl _ _).drew))
    (first | (go_at_call 38; refine (efind_at B b v M fs n val d _ ((tOf _ (by assumption)).obj.cell 0 _ rfl) (tOf _ (by assumption)).tab HS.out k wh HF.out).mono ?_; rintro e w1 ⟨rfl, hb1⟩))
  have HB1 := hid' (below_two (below_two (Below.refl w0.heap.size w0) ((Below.refl _ _).drew)) hb1)
  clear x0 x1 hS sOf tOf hb1
  have x0 := Below.kc HB1.out (HA.out.cell 0 _ rfl)
  have x1 := Below.kc HB1.out (HA.out.cell 1 _ rfl)
  go_wp2_with fail
  refine (kind_at B d b v least told M fs n val wh K HK.out (by have := HN.out; omega) (by have := HV.out; omega) _ (H0.out.keep HB1.out)).mono ?_
  rintro e w2 ⟨rfl, hb2⟩
  have HB2 := hid' (below_two HB1.out hb2)
  clear hb2 HB1 x0 x1
  have x0 := Below.kc HB2.out (HA.out.cell 0 _ rfl)
  have x1 := Below.kc HB2.out (HA.out.cell 1 _ rfl)
  go_wp2_with fail
  refine (head_at x K 4 k a HX.out HX4.out HNUM.out HK16.out HKB.out _).mono ?_
  rintro e w3 ⟨rfl, hb3⟩
  have HB3 := hid' (below_two HB2.out hb3)
  clear hb3 HB2 x0 x1
  have x0 : w3.cell? ⟨fb, 0, none⟩ = some (.string ⟨n.toArray⟩) := Below.kc HB3.out (HA.out.cell 0 _ rfl)
  have x1 : w3.cell? ⟨fb, 1, none⟩ = some (.string ⟨val.toArray⟩) := Below.kc HB3.out (HA.out.cell 1 _ rfl)
  have HA3 := hid' (HA.out.keep HB3.out)
  go_wp2_with fail
  refine (str_at val sv HSV.out (by have := HV.out; omega) _).mono ?_
  rintro e w8 ⟨rfl, hb8⟩
  have HB8 := hid' hb8
  clear hb8
  go_wp2
  go_ret
  refine ⟨?_, below_two (below_two HB0.out HB3.out) HB8.out⟩
  rw [← Pm.str_cat]
  rfl

set_option maxHeartbeats 2000000 in
set_option maxRecDepth 20000 in
theorem rep_add0 (B d b : Nat) (v : Value) (least told M : Nat) (fs : List (List UInt8 × List UInt8)) (n val : List UInt8) (k : Nat) (wh : Bool) (w : World) (h : CE w B d b v least told M fs) (hs : Tb.size fs ≤ 65536) (hk : Tb.find fs (n, val) = (k, wh)) (hn : n.length ≤ 134217728) (hv : val.length ≤ 134217728) (hK : kindOf M n val wh = 64) (hz : k = 0) (hM : M ≤ 65536) (hB : B ≤ w.heap.size) :
    Calls Tryz.prog 22 #[.pointer (some ⟨d, 0, none⟩), .agg #[.string ⟨n.toArray⟩, .string ⟨val.toArray⟩]] w fun e w' => e = .returned (.string ⟨((Pm.num 64 6 k ++ Pm.str n) ++ Pm.str val).toArray⟩) ∧ ∃ v', CE w' B d b v' least told M (Tb.add M fs (n, val)) ∧ (∀ k, v'.ownBlock = some k → v.ownBlock = some k ∨ w.heap.size ≤ k) ∧ Two b v.ownBlock w w' := by
  have hkb : k ≤ 2147483647 := by have := Hp.find_le fs (n, val); rw [hk] at this; have := Tb.size_len fs; simp only at *; omega
  obtain ⟨a, ha⟩ : ∃ a, Pm.num 64 6 k = a := ⟨_, rfl⟩
  rw [ha]
  have hal : a.length ≤ 10 := by rw [← ha]; have := (Pm.num_length 64 6 k hkb).2; omega
  obtain ⟨sv, hsv⟩ : ∃ s, Pm.str val = s := ⟨_, rfl⟩
  rw [hsv]
  have hsvl : sv.length ≤ 134217738 := by rw [← hsv]; have := (Pm.str_length val (by omega)).2; omega
  have HSV := hid' hsv
  clear hsv
  obtain ⟨sn, hsn⟩ : ∃ s, Pm.str n = s := ⟨_, rfl⟩
  rw [hsn]
  have hsnl : sn.length ≤ 134217738 := by rw [← hsn]; have := (Pm.str_length n (by omega)).2; omega
  have HSN := hid' hsn
  clear hsn
  subst hz
  have hb0 : Below w.heap.size w (w.alloc (.cells #[.string ⟨n.toArray⟩, .string ⟨val.toArray⟩] 54)) := (Below.refl _ _).alloc (Nat.le_refl _) _
  have hA : Ar (w.alloc (.cells #[.string ⟨n.toArray⟩, .string ⟨val.toArray⟩] 54)) w.heap.size 54 #[.string ⟨n.toArray⟩, .string ⟨val.toArray⟩] := heap_alloc_last w _
  have H0 := hid' (h.keep hb0)
  have HH := hid' h
  have HA := hid' hA
  have HB0 := hid' hb0
  have HS : Hid (Tb.size fs ≤ 1048576) := hid' (by omega)
  have HF := hid' hk
  have HKB := hid' hkb
  have HNUM := hid' ha
  have HN := hid' hn
  have HV := hid' hv
  have HK := hid' hK
  have HM := hid' hM
  have HBB := hid' hB
  clear h hA hb0 hs hk hkb ha hn hv hK hM hB
  go_enter Tryz.func22, Tryz.ntmps22
  go_wp2
  obtain ⟨fb, hfb⟩ : ∃ fb, w.heap.size = fb := ⟨_, rfl⟩
  have HFB := hid' hfb
  rw [hfb] at HA ⊢
  clear hfb
  generalize (w.alloc (.cells #[.string ⟨n.toArray⟩, .string ⟨val.toArray⟩] 54)) = w0 at *
  have x0 : w0.cell? ⟨fb, 0, none⟩ = some (.string ⟨n.toArray⟩) := HA.out.cell 0 _ rfl
  have x1 : w0.cell? ⟨fb, 1, none⟩ = some (.string ⟨val.toArray⟩) := HA.out.cell 1 _ rfl
  have hS : Below w0.heap.size w0 w0 ∧ w0.cell? ⟨fb, 0, none⟩ = some (.string ⟨n.toArray⟩) ∧ w0.cell? ⟨fb, 1, none⟩ = some (.string ⟨val.toArray⟩) := ⟨Below.refl _ _, x0, x1⟩
  have sOf : ∀ W W1 : World, (Below w0.heap.size w0 W ∧ W.cell? ⟨fb, 0, none⟩ = some (.string ⟨n.toArray⟩) ∧ W.cell? ⟨fb, 1, none⟩ = some (.string ⟨val.toArray⟩)) → Below W.heap.size W W1 → Below w0.heap.size w0 W1 ∧ W1.cell? ⟨fb, 0, none⟩ = some (.string ⟨n.toArray⟩) ∧ W1.cell? ⟨fb, 1, none⟩ = some (.string ⟨val.toArray⟩) := fun W W1 ⟨h, h0, h1⟩ hb => ⟨below_two h hb, Below.kc hb h0, Below.kc hb h1⟩
  have tOf : ∀ W : World, (Below w0.heap.size w0 W ∧ W.cell? ⟨fb, 0, none⟩ = some (.string ⟨n.toArray⟩) ∧ W.cell? ⟨fb, 1, none⟩ = some (.string ⟨val.toArray⟩)) → CE W B d b v least told M fs := fun W h => H0.out.keep h.1
  go_region_held3 (fun W => Below w0.heap.size w0 W ∧ W.cell? ⟨fb, 0, none⟩ = some (.string ⟨n.toArray⟩) ∧ W.cell? ⟨fb, 1, none⟩ = some (.string ⟨val.toArray⟩))
    (first | assumption | exact sOf _ _ (by assumption) (by assumption) | exact sOf _ _ (by assumption) ((Below.refl _ _).drew))
    (first | (go_at_call 38; refine (efind_at B b v M fs n val d _ ((tOf _ (by assumption)).obj.cell 0 _ rfl) (tOf _ (by assumption)).tab HS.out 0 wh HF.out).mono ?_; rintro e w1 ⟨rfl, hb1⟩))
  have HB1 := hid' (below_two (below_two (Below.refl w0.heap.size w0) ((Below.refl _ _).drew)) hb1)
  clear x0 x1 hS sOf tOf hb1
  have x0 := Below.kc HB1.out (HA.out.cell 0 _ rfl)
  have x1 := Below.kc HB1.out (HA.out.cell 1 _ rfl)
  go_wp2_with fail
  refine (kind_at B d b v least told M fs n val wh 64 HK.out (by have := HN.out; omega) (by have := HV.out; omega) _ (H0.out.keep HB1.out)).mono ?_
  rintro e w2 ⟨rfl, hb2⟩
  have HB2 := hid' (below_two HB1.out hb2)
  clear hb2 HB1 x0 x1
  have x0 := Below.kc HB2.out (HA.out.cell 0 _ rfl)
  have x1 := Below.kc HB2.out (HA.out.cell 1 _ rfl)
  go_wp2_with fail
  refine (head_at 64 64 6 0 a rfl rfl HNUM.out (by decide) HKB.out _).mono ?_
  rintro e w3 ⟨rfl, hb3⟩
  have HB3 := hid' (below_two HB2.out hb3)
  clear hb3 HB2 x0 x1
  have x0 : w3.cell? ⟨fb, 0, none⟩ = some (.string ⟨n.toArray⟩) := Below.kc HB3.out (HA.out.cell 0 _ rfl)
  have x1 : w3.cell? ⟨fb, 1, none⟩ = some (.string ⟨val.toArray⟩) := Below.kc HB3.out (HA.out.cell 1 _ rfl)
  have H3 := hid' (H0.out.keep HB3.out)
  have HA3 := hid' (HA.out.keep HB3.out)
  have hbf : fb ≠ b := fun e => by have := HH.out.tab.ring.obj.lt; have := HFB.out; omega
  have HBF := hid' hbf
  have HVF : Hid (∀ k, v.ownBlock = some k → k ≠ fb) := hid' fun k hk => by have := (HH.out.tab.ring.row.lt k hk).2; have := HFB.out; omega
  have hsz3 : w.heap.size ≤ w3.heap.size := Nat.le_trans HB0.out.size HB3.out.size
  have HSZ3 := hid' hsz3
  clear hbf hsz3
  go_wp2
  have c0 := H3.out.obj.cell 0 _ rfl
  go_region_with (go_at_call 40; refine (add_ce H3.out n val fb HA3.out HBF.out HVF.out HM.out HS.out (Nat.le_trans HBB.out HSZ3.out) (by have := HN.out; omega) (by have := HV.out; omega)).mono ?_; rintro e w5 ⟨rfl, v', y0, y1, HX5⟩)
  all_goals
    clear c0 x0 x1
    have HA5 := hid' HX5.out.2.1
    go_wp2_with fail
    refine (str_at n sn HSN.out (by have := HN.out; omega) _).mono ?_
    rintro e w7 ⟨rfl, hb7⟩
    have HB7 := hid' hb7
    have z0 := Below.kc hb7 (HA5.out.cell 0 _ rfl)
    have z1 := Below.kc hb7 (HA5.out.cell 1 _ rfl)
    clear hb7 y0 y1
    go_wp2_with fail
    refine (str_at val sv HSV.out (by have := HV.out; omega) _).mono ?_
    rintro e w8 ⟨rfl, hb8⟩
    have HB8 := hid' (below_two HB7.out hb8)
    clear hb8
    go_wp2
    go_ret
    refine ⟨?_, v', HX5.out.1.keep HB8.out, fun k hk => (HX5.out.2.2.1 k hk).imp id (fun h => Nat.le_trans HSZ3.out h), ((Two.of_below (below_two HB0.out HB3.out)).and HX5.out.2.2.2).and (Two.of_below HB8.out)⟩
    rw [← Pm.str_cat, ← Pm.str_cat]
    rfl

set_option maxHeartbeats 2000000 in
set_option maxRecDepth 20000 in
theorem rep_add (B d b : Nat) (v : Value) (least told M : Nat) (fs : List (List UInt8 × List UInt8)) (n val : List UInt8) (k : Nat) (wh : Bool) (w : World) (h : CE w B d b v least told M fs) (hs : Tb.size fs ≤ 65536) (hk : Tb.find fs (n, val) = (k, wh)) (hn : n.length ≤ 134217728) (hv : val.length ≤ 134217728) (hK : kindOf M n val wh = 64) (hz : k ≠ 0) (hM : M ≤ 65536) (hB : B ≤ w.heap.size) :
    Calls Tryz.prog 22 #[.pointer (some ⟨d, 0, none⟩), .agg #[.string ⟨n.toArray⟩, .string ⟨val.toArray⟩]] w fun e w' => e = .returned (.string ⟨(Pm.num 64 6 k ++ Pm.str val).toArray⟩) ∧ ∃ v', CE w' B d b v' least told M (Tb.add M fs (n, val)) ∧ (∀ k, v'.ownBlock = some k → v.ownBlock = some k ∨ w.heap.size ≤ k) ∧ Two b v.ownBlock w w' := by
  have hkb : k ≤ 2147483647 := by have := Hp.find_le fs (n, val); rw [hk] at this; have := Tb.size_len fs; simp only at *; omega
  obtain ⟨a, ha⟩ : ∃ a, Pm.num 64 6 k = a := ⟨_, rfl⟩
  rw [ha]
  have hal : a.length ≤ 10 := by rw [← ha]; have := (Pm.num_length 64 6 k hkb).2; omega
  obtain ⟨sv, hsv⟩ : ∃ s, Pm.str val = s := ⟨_, rfl⟩
  rw [hsv]
  have hsvl : sv.length ≤ 134217738 := by rw [← hsv]; have := (Pm.str_length val (by omega)).2; omega
  have HSV := hid' hsv
  clear hsv
  have hz1 : ((k : Int) == 0) = false := beq_false_of_ne (by omega)
  have hz2 : (k == 0) = false := beq_false_of_ne hz
  clear hz
  have hb0 : Below w.heap.size w (w.alloc (.cells #[.string ⟨n.toArray⟩, .string ⟨val.toArray⟩] 54)) := (Below.refl _ _).alloc (Nat.le_refl _) _
  have hA : Ar (w.alloc (.cells #[.string ⟨n.toArray⟩, .string ⟨val.toArray⟩] 54)) w.heap.size 54 #[.string ⟨n.toArray⟩, .string ⟨val.toArray⟩] := heap_alloc_last w _
  have H0 := hid' (h.keep hb0)
  have HH := hid' h
  have HA := hid' hA
  have HB0 := hid' hb0
  have HS : Hid (Tb.size fs ≤ 1048576) := hid' (by omega)
  have HF := hid' hk
  have HKB := hid' hkb
  have HNUM := hid' ha
  have HN := hid' hn
  have HV := hid' hv
  have HK := hid' hK
  have HM := hid' hM
  have HBB := hid' hB
  clear h hA hb0 hs hk hkb ha hn hv hK hM hB
  go_enter Tryz.func22, Tryz.ntmps22
  go_wp2
  obtain ⟨fb, hfb⟩ : ∃ fb, w.heap.size = fb := ⟨_, rfl⟩
  have HFB := hid' hfb
  rw [hfb] at HA ⊢
  clear hfb
  generalize (w.alloc (.cells #[.string ⟨n.toArray⟩, .string ⟨val.toArray⟩] 54)) = w0 at *
  have x0 : w0.cell? ⟨fb, 0, none⟩ = some (.string ⟨n.toArray⟩) := HA.out.cell 0 _ rfl
  have x1 : w0.cell? ⟨fb, 1, none⟩ = some (.string ⟨val.toArray⟩) := HA.out.cell 1 _ rfl
  have hS : Below w0.heap.size w0 w0 ∧ w0.cell? ⟨fb, 0, none⟩ = some (.string ⟨n.toArray⟩) ∧ w0.cell? ⟨fb, 1, none⟩ = some (.string ⟨val.toArray⟩) := ⟨Below.refl _ _, x0, x1⟩
  have sOf : ∀ W W1 : World, (Below w0.heap.size w0 W ∧ W.cell? ⟨fb, 0, none⟩ = some (.string ⟨n.toArray⟩) ∧ W.cell? ⟨fb, 1, none⟩ = some (.string ⟨val.toArray⟩)) → Below W.heap.size W W1 → Below w0.heap.size w0 W1 ∧ W1.cell? ⟨fb, 0, none⟩ = some (.string ⟨n.toArray⟩) ∧ W1.cell? ⟨fb, 1, none⟩ = some (.string ⟨val.toArray⟩) := fun W W1 ⟨h, h0, h1⟩ hb => ⟨below_two h hb, Below.kc hb h0, Below.kc hb h1⟩
  have tOf : ∀ W : World, (Below w0.heap.size w0 W ∧ W.cell? ⟨fb, 0, none⟩ = some (.string ⟨n.toArray⟩) ∧ W.cell? ⟨fb, 1, none⟩ = some (.string ⟨val.toArray⟩)) → CE W B d b v least told M fs := fun W h => H0.out.keep h.1
  go_region_held3 (fun W => Below w0.heap.size w0 W ∧ W.cell? ⟨fb, 0, none⟩ = some (.string ⟨n.toArray⟩) ∧ W.cell? ⟨fb, 1, none⟩ = some (.string ⟨val.toArray⟩))
    (first | assumption | exact sOf _ _ (by assumption) (by assumption) | exact sOf _ _ (by assumption) ((Below.refl _ _).drew))
    (first | (go_at_call 38; refine (efind_at B b v M fs n val d _ ((tOf _ (by assumption)).obj.cell 0 _ rfl) (tOf _ (by assumption)).tab HS.out k wh HF.out).mono ?_; rintro e w1 ⟨rfl, hb1⟩))
  have HB1 := hid' (below_two (below_two (Below.refl w0.heap.size w0) ((Below.refl _ _).drew)) hb1)
  clear x0 x1 hS sOf tOf hb1
  have x0 := Below.kc HB1.out (HA.out.cell 0 _ rfl)
  have x1 := Below.kc HB1.out (HA.out.cell 1 _ rfl)
  go_wp2_with fail
  refine (kind_at B d b v least told M fs n val wh 64 HK.out (by have := HN.out; omega) (by have := HV.out; omega) _ (H0.out.keep HB1.out)).mono ?_
  rintro e w2 ⟨rfl, hb2⟩
  have HB2 := hid' (below_two HB1.out hb2)
  clear hb2 HB1 x0 x1
  have x0 := Below.kc HB2.out (HA.out.cell 0 _ rfl)
  have x1 := Below.kc HB2.out (HA.out.cell 1 _ rfl)
  go_wp2_with fail
  refine (head_at 64 64 6 k a rfl rfl HNUM.out (by decide) HKB.out _).mono ?_
  rintro e w3 ⟨rfl, hb3⟩
  have HB3 := hid' (below_two HB2.out hb3)
  clear hb3 HB2 x0 x1
  have x0 : w3.cell? ⟨fb, 0, none⟩ = some (.string ⟨n.toArray⟩) := Below.kc HB3.out (HA.out.cell 0 _ rfl)
  have x1 : w3.cell? ⟨fb, 1, none⟩ = some (.string ⟨val.toArray⟩) := Below.kc HB3.out (HA.out.cell 1 _ rfl)
  have H3 := hid' (H0.out.keep HB3.out)
  have HA3 := hid' (HA.out.keep HB3.out)
  have hbf : fb ≠ b := fun e => by have := HH.out.tab.ring.obj.lt; have := HFB.out; omega
  have HBF := hid' hbf
  have HVF : Hid (∀ k, v.ownBlock = some k → k ≠ fb) := hid' fun k hk => by have := (HH.out.tab.ring.row.lt k hk).2; have := HFB.out; omega
  have hsz3 : w.heap.size ≤ w3.heap.size := Nat.le_trans HB0.out.size HB3.out.size
  have HSZ3 := hid' hsz3
  clear hbf hsz3
  go_wp2
  have c0 := H3.out.obj.cell 0 _ rfl
  go_region_with (go_at_call 40; refine (add_ce H3.out n val fb HA3.out HBF.out HVF.out HM.out HS.out (Nat.le_trans HBB.out HSZ3.out) (by have := HN.out; omega) (by have := HV.out; omega)).mono ?_; rintro e w5 ⟨rfl, v', y0, y1, HX5⟩)
  all_goals
    clear c0 x0 x1
    have HA5 := hid' HX5.out.2.1
    go_wp2_with fail
    refine (str_at val sv HSV.out (by have := HV.out; omega) _).mono ?_
    rintro e w8 ⟨rfl, hb8⟩
    have HB8 := hid' hb8
    clear hb8
    go_wp2
    go_ret
    refine ⟨?_, v', HX5.out.1.keep HB8.out, fun k hk => (HX5.out.2.2.1 k hk).imp id (fun h => Nat.le_trans HSZ3.out h), ((Two.of_below (below_two HB0.out HB3.out)).and HX5.out.2.2.2).and (Two.of_below HB8.out)⟩
    rw [← Pm.str_cat]
    rfl

end Go.Proofs.YtmkkhfkfjmfdcaaGreat
