/-
  The document's encoder in memory; ostlerref06.number, NewEncoder, Encoder.Size, Limit, one: by their contracts. Written by mkhpre.py.
-/
import Derived.Test.YtmkkhfkfjmfdcaaGreatHpZ
import Derived.Test.YtmkkhfkfjmfdcaaGreatTabRf
import Derived.Test.YtmkkhfkfjmfdcaaGreatPrimT
namespace Go.Proofs.YtmkkhfkfjmfdcaaGreat
open Go.RowKit

theorem rnumber_at (h b n : Nat) (a : List UInt8) (ha : Pm.num h b n = a) (hh : h < 256) (h0 : 1 ≤ b) (h1 : b ≤ 8) (hm : h % 2 ^ b = 0) (hn : n ≤ 2147483647) (w : World) :
    Calls Tryz.prog 24 #[.int .u8 (h : Int), .int .i64 (b : Int), .int .i64 (n : Int)] w fun e w' => e = .returned (.string ⟨a.toArray⟩) ∧ Below w.heap.size w w' := by
  have HC := hid' (rint_at h b n a ha hh h0 h1 hm hn)
  clear ha hm
  go_enter Tryz.func24, Tryz.ntmps24
  go_wp2_with fail
  refine (HC.out _).mono ?_
  rintro e w1 ⟨rfl, hb1⟩
  go_wp2
  go_ret
  exact ⟨rfl, hb1⟩

/-- The document's encoder: its table, the room at the last block's end, the least one since then. -/
structure RE (w : World) (B d b : Nat) (v : Value) (was least M : Nat) (fs : List (List UInt8 × List UInt8)) : Prop where
  ge : B ≤ d
  obj : Ar w d 49 #[.pointer (some ⟨b, 0, none⟩), .int .i64 (was : Int), .int .i64 (least : Int)]
  tab : RT w B b v (M : Int) fs
theorem RE.keep {w w' : World} {B d b : Nat} {v : Value} {was least M : Nat} {fs : List (List UInt8 × List UInt8)} (h : RE w B d b v was least M fs) (hb : Below w.heap.size w w') : RE w' B d b v was least M fs := ⟨h.ge, h.obj.keep hb, h.tab.keep hb⟩
theorem RE.drewN {w : World} {B d b : Nat} {v : Value} {was least M : Nat} {fs : List (List UInt8 × List UInt8)} (h : RE w B d b v was least M fs) (n : Nat) : RE (w.drewN n) B d b v was least M fs := h.keep ⟨rfl, rfl, rfl, Nat.le_refl _, fun _ _ => rfl⟩
theorem RE.db {w : World} {B d b : Nat} {v : Value} {was least M : Nat} {fs : List (List UInt8 × List UInt8)} (h : RE w B d b v was least M fs) : d ≠ b := h.obj.ne h.tab.obj (by decide)
theorem Fr.of_grown {S : Nat → Prop} {b : Nat} {w w' : World} (h : w.grownBy w' (some b)) (hb : S b) : Fr S w w' := ⟨h.os, h.tape, h.output, h.size, fun k hk hn => h.block k hk (fun e => hn (by injection e with e; rw [e]; exact hb))⟩
theorem own_lt' {w : World} {B s : Nat} {e : TypeId} {v : Value} {n : Nat} {xs : List Value} (h : w.ownsRow B e s v n xs) (k : Nat) (hk : v.ownBlock = some k) : k < w.heap.size := by
  rcases h.2 with ⟨rfl, _⟩ | ⟨g, cap, cur, rfl, _, hg, _⟩
  · simp [Value.ownBlock] at hk
  · simp [Value.ownBlock] at hk
    subst hk
    exact (Array.getElem?_eq_some_iff.1 hg).1
theorem Fr.own {S : Nat → Prop} {w w' : World} {B : Nat} {e : TypeId} {s : Nat} {v : Value} {n : Nat} {xs : List Value} (h : Fr S w w') (hs : w.ownsRow B e s v n xs) (hn : ∀ k, v.ownBlock = some k → ¬ S k) : w'.ownsRow B e s v n xs := by
  refine ⟨hs.1, ?_⟩
  rcases hs.2 with h0 | ⟨g, cap, cur, rfl, hb, hg, r⟩
  · exact .inl h0
  · exact .inr ⟨g, cap, cur, rfl, hb, h.ar (show Ar w g e cur from hg) (hn g rfl), r⟩
theorem Fr.rt {S : Nat → Prop} {w w' : World} {B b : Nat} {v : Value} {M : Int} {fs : List (List UInt8 × List UInt8)} (h : Fr S w w') (hr : RT w B b v M fs) (h1 : ¬ S b) (h2 : ∀ k, v.ownBlock = some k → ¬ S k) : RT w' B b v M fs := ⟨hr.ge, h.ar hr.obj h1, h.own hr.row h2⟩
theorem RE.fr {S : Nat → Prop} {w w' : World} {B d b : Nat} {v : Value} {was least M : Nat} {fs : List (List UInt8 × List UInt8)} (h : RE w B d b v was least M fs) (hf : Fr S w w') (h0 : ¬ S d) (h1 : ¬ S b) (h2 : ∀ k, v.ownBlock = some k → ¬ S k) : RE w' B d b v was least M fs := ⟨h.ge, hf.ar h.obj h0, hf.rt h.tab h1 h2⟩
theorem RE.put {w w' : World} {B d b : Nat} {v v' : Value} {was least M M' : Nat} {fs fs' : List (List UInt8 × List UInt8)} (h : RE w B d b v was least M fs) (hg : w.grownBy w' (some b)) (hc : RT w' B b v' (M' : Int) fs') : RE w' B d b v' was least M' fs' :=
  ⟨h.ge, (Fr.of_grown (S := (· = b)) hg rfl).ar h.obj h.db, hc⟩

theorem rnewEnc_any (B : Nat) (w : World) (hB : B ≤ w.heap.size) : Calls Tryz.prog 5 #[] w fun e w' => ∃ d, e = .returned (.pointer (some ⟨d, 0, none⟩)) ∧ ∃ b, RE w' B d b (.slice none 0 0) 4096 4096 4096 [] ∧ Below w.heap.size w w' := by
  have HB := hid' hB
  clear hB
  go_enter Tryz.func5, Tryz.ntmps5
  go_wp2_with fail
  refine (rnew_yes 4096 (by omega) (by omega) B w HB.out).mono ?_
  rintro e w1 ⟨rfl, hC, hb1⟩
  have HC := hid' hC
  have HB1 := hid' hb1
  clear hC hb1
  go_wp2
  go_ret
  have hb2 : Below w1.heap.size w1 (w1.alloc (.cells #[.pointer (some ⟨w.heap.size, 0, none⟩), .int .i64 4096, .int .i64 4096] 49)) := (Below.refl _ _).alloc (Nat.le_refl _) _
  exact ⟨_, rfl, _, ⟨Nat.le_trans HB.out HB1.out.size, heap_alloc_last w1 _, HC.out.keep hb2⟩, below_two HB1.out hb2⟩

theorem rsizeE_at (B d b : Nat) (v : Value) (was least M : Nat) (fs : List (List UInt8 × List UInt8)) (S : Nat) (hS : Tb.size fs = S) (hSb : S ≤ 65536) (w : World) (h : RE w B d b v was least M fs) :
    Calls Tryz.prog 12 #[.pointer (some ⟨d, 0, none⟩)] w fun e w' => e = .returned (.int .i64 (S : Int)) ∧ Below w.heap.size w w' := by
  have c0 := h.obj.cell 0 _ rfl
  have H := hid' h
  have HS := hid' hS
  have HSB := hid' hSb
  clear h hS hSb
  go_enter Tryz.func12, Tryz.ntmps12
  go_wp2_with fail
  refine (rsize_any B b v (M : Int) fs _ H.out.tab (by have := HS.out; have := HSB.out; omega)).mono ?_
  rintro e w1 ⟨rfl, hb1⟩
  rw [HS.out]
  have HB1 := hid' hb1
  clear hb1
  go_wp2
  go_ret
  exact ⟨rfl, HB1.out⟩

set_option maxRecDepth 20000 in
theorem rlimE_no (d : Nat) (n : Int) (hn : n < 0 ∨ 4294967295 < n) (w : World) :
    Calls Tryz.prog 7 #[.pointer (some ⟨d, 0, none⟩), .int .i64 n] w fun e w' => e = .returned (.int .i64 5) ∧ w' = w := by
  by_cases h0 : n < 0
  · have hd : decide (n < 0) = true := decide_eq_true h0
    clear hn h0
    go_enter Tryz.func7, Tryz.ntmps7
    go_wp2
    go_ret
    exact ⟨rfl, rfl⟩
  · have hd : decide (n < 0) = false := decide_eq_false h0
    have hd2 : decide (4294967295 < n) = true := decide_eq_true (by omega)
    clear hn h0
    go_enter Tryz.func7, Tryz.ntmps7
    go_wp2
    go_ret
    exact ⟨rfl, rfl⟩

set_option maxRecDepth 20000 in
theorem rlimE_yes (B d b : Nat) (v : Value) (was least M : Nat) (fs : List (List UInt8 × List UInt8)) (N : Nat) (hN : N ≤ 4294967295) (w : World) (h : RE w B d b v was least M fs) (hs : Tb.size fs ≤ 65536) (R L : Nat) (hR : min N 4096 = R) (hL : min least R = L) :
    Calls Tryz.prog 7 #[.pointer (some ⟨d, 0, none⟩), .int .i64 (N : Int)] w fun e w' => e = .returned (.int .i64 0) ∧ ∃ v', RE w' B d b v' was L R (Tb.shr R fs) ∧ v'.ownBlock = v.ownBlock ∧ Fr (fun k => k = d ∨ k = b) w w' := by
  have hd : decide ((N : Int) < 0) = false := decide_eq_false (by omega)
  have hd2 : decide (4294967295 < (N : Int)) = false := decide_eq_false (by omega)
  have hd3 : decide (4294967295 < N) = false := decide_eq_false (by omega)
  have hm1 : min (N : Int) 4096 = (R : Int) := by omega
  have hm2 : min (least : Int) (R : Int) = (L : Int) := by omega
  have hR2 : R ≤ 65536 := by omega
  have c0 := h.obj.cell 0 _ rfl
  have H := hid' h
  have HS := hid' hs
  have HR := hid' hR2
  clear h hN hs hR hL hR2
  go_enter Tryz.func7, Tryz.ntmps7
  go_wp2_with fail
  refine (rresize_yes B b v (M : Int) fs R _ H.out.tab HR.out (by have := HS.out; omega)).mono ?_
  rintro e w1 ⟨rfl, v', hC, hv, hT⟩
  have hE := H.out.put hT hC
  have c0' := hE.obj.cell 0 _ rfl
  have c2 := hE.obj.cell 2 _ rfl
  have f2 := hE.obj.free 2
  have t0 := hC.obj.cell 0 _ rfl
  have HE := hid' hE
  have HV := hid' hv
  have HF := hid' (Fr.of_grown (S := fun k => k = d ∨ k = b) hT (.inr rfl))
  clear hE hC hv hT c0
  go_wp2
  go_region
  go_wp2
  go_ret
  have hf : Fr (fun k => k = d ∨ k = b) w1 (w1.setCell ⟨d, 2, none⟩ (.int .i64 (L : Int))) := Fr.of_set d 2 _ _ (.inl rfl)
  have hf2 : Fr (· = d) w1 (w1.setCell ⟨d, 2, none⟩ (.int .i64 (L : Int))) := Fr.of_set d 2 _ _ rfl
  have hre : RE (w1.setCell ⟨d, 2, none⟩ (.int .i64 (L : Int))) B d b v' was L R (Tb.shr R fs) := ⟨HE.out.ge, by have := HE.out.obj.set 2 (.int .i64 (L : Int)); simpa using this, hf2.rt HE.out.tab (fun e => HE.out.db e.symm) (fun k hk e => own_ne HE.out.tab.row HE.out.obj (by decide) (by rw [hk, e]))⟩
  exact ⟨rfl, v', hre.keep ((Below.refl _ _).drew), HV.out, (HF.out.and hf).drew⟩

set_option maxHeartbeats 8000000 in
set_option maxRecDepth 20000 in
theorem rone_any (B d b : Nat) (v : Value) (was least M : Nat) (fs : List (List UInt8 × List UInt8)) (n val : List UInt8) (w : World) (h : RE w B d b v was least M fs) (hs : Tb.size fs ≤ M) (hM : M ≤ 65536) (hB : B ≤ w.heap.size) (hn : n.length ≤ 134217728) (hv : val.length ≤ 134217728) (s : List UInt8) (gs : List (List UInt8 × List UInt8)) (ho : Hp.one Pm.str M fs (n, val) = (s, gs)) :
    Calls Tryz.prog 25 #[.pointer (some ⟨d, 0, none⟩), .agg #[.string ⟨n.toArray⟩, .string ⟨val.toArray⟩]] w fun e w' => e = .returned (.string ⟨s.toArray⟩) ∧ ∃ v', RE w' B d b v' was least M gs ∧ (∀ k, v'.ownBlock = some k → v.ownBlock = some k ∨ w.heap.size ≤ k) ∧ Fr (· = b) w w' := by
  have hs2 : Tb.size fs ≤ 1048576 := by omega
  obtain ⟨k, wh, hk⟩ : ∃ k wh, Tb.find fs (n, val) = (k, wh) := ⟨_, _, rfl⟩
  have hkb : k ≤ 2147483647 := by have := Hp.find_le fs (n, val); rw [hk] at this; have := Tb.size_len fs; simp only at *; omega
  unfold Hp.one at ho
  rw [hk] at ho
  simp only at ho
  obtain ⟨R, hR⟩ : ∃ R, Hp.texts Pm.str k (n, val) = R := ⟨_, rfl⟩
  rw [hR] at ho
  have hRl : R.length ≤ 268435500 := by
    rw [← hR]
    have s1 := (Pm.str_length n (by omega)).2
    have s2 := (Pm.str_length val (by omega)).2
    unfold Hp.texts
    rw [List.length_append]
    split
    · simp only; omega
    · simp only [List.length_nil]; omega
  obtain ⟨kw, hkw⟩ : ∃ kw, Tb.wt (n, val) = kw := ⟨_, rfl⟩
  have hkwb : kw ≤ 1152921504606846976 := by rw [← hkw]; unfold Tb.wt; simp only; omega
  rw [hkw] at ho
  have HB0 := hid' ((Below.refl w.heap.size w).alloc (Nat.le_refl _) (.cells #[.string ⟨n.toArray⟩, .string ⟨val.toArray⟩] 54))
  have HA : Hid (Ar (w.alloc (.cells #[.string ⟨n.toArray⟩, .string ⟨val.toArray⟩] 54)) w.heap.size 54 #[.string ⟨n.toArray⟩, .string ⟨val.toArray⟩]) := hid' (heap_alloc_last w _)
  have H0 := hid' (h.keep HB0.out)
  have HH := hid' h
  have HS2 := hid' hs2
  have HK := hid' hk
  have HKB := hid' hkb
  have HR := hid' hR
  have HKW := hid' hkw
  have HKWB := hid' hkwb
  have HM := hid' hM
  have HBB := hid' hB
  have HN := hid' hn
  have HV := hid' hv
  have HO := hid' ho
  clear h hs hs2 hk hkb hR hkw hkwb hM hB hn hv ho
  by_cases hz : k = 0
  · subst hz
    obtain ⟨sn, hsn⟩ : ∃ s, Pm.str n = s := ⟨_, rfl⟩
    have hsnl : sn.length ≤ 134217738 := by rw [← hsn]; have := (Pm.str_length n (by have := HN.out; omega)).2; have := HN.out; omega
    have HSN := hid' hsn
    obtain ⟨sv, hsv⟩ : ∃ s, Pm.str val = s := ⟨_, rfl⟩
    have hsvl : sv.length ≤ 134217738 := by rw [← hsv]; have := (Pm.str_length val (by have := HV.out; omega)).2; have := HV.out; omega
    have HSV := hid' hsv
    have HRE : Hid ((⟨R.toArray⟩ : ByteArray) = ⟨sn.toArray⟩ ++ ⟨sv.toArray⟩) := hid' (by rw [← HR.out, Pm.str_cat]; unfold Hp.texts; rw [if_pos rfl, hsn, hsv])
    clear hsn hsv
    go_enter Tryz.func25, Tryz.ntmps25
    go_wp2
    obtain ⟨fb, hfb⟩ : ∃ fb, w.heap.size = fb := ⟨_, rfl⟩
    have HFB := hid' hfb
    rw [hfb] at HA ⊢
    clear hfb
    generalize (w.alloc (.cells #[.string ⟨n.toArray⟩, .string ⟨val.toArray⟩] 54)) = w0 at *
    have x0 : w0.cell? ⟨fb, 0, none⟩ = some (.string ⟨n.toArray⟩) := HA.out.cell 0 _ rfl
    have x1 : w0.cell? ⟨fb, 1, none⟩ = some (.string ⟨val.toArray⟩) := HA.out.cell 1 _ rfl
    have y0 : w0.cell? ⟨d, 0, none⟩ = some (.pointer (some ⟨b, 0, none⟩)) := H0.out.obj.cell 0 _ rfl
    have hS : Below w0.heap.size w0 w0 ∧ w0.cell? ⟨fb, 0, none⟩ = some (.string ⟨n.toArray⟩) ∧ w0.cell? ⟨fb, 1, none⟩ = some (.string ⟨val.toArray⟩) ∧ w0.cell? ⟨d, 0, none⟩ = some (.pointer (some ⟨b, 0, none⟩)) := ⟨Below.refl _ _, x0, x1, y0⟩
    have sOf : ∀ W W1 : World, (Below w0.heap.size w0 W ∧ W.cell? ⟨fb, 0, none⟩ = some (.string ⟨n.toArray⟩) ∧ W.cell? ⟨fb, 1, none⟩ = some (.string ⟨val.toArray⟩) ∧ W.cell? ⟨d, 0, none⟩ = some (.pointer (some ⟨b, 0, none⟩))) → Below W.heap.size W W1 → Below w0.heap.size w0 W1 ∧ W1.cell? ⟨fb, 0, none⟩ = some (.string ⟨n.toArray⟩) ∧ W1.cell? ⟨fb, 1, none⟩ = some (.string ⟨val.toArray⟩) ∧ W1.cell? ⟨d, 0, none⟩ = some (.pointer (some ⟨b, 0, none⟩)) := fun W W1 ⟨h, h0, h1, h2⟩ hb => ⟨below_two h hb, Below.kc hb h0, Below.kc hb h1, Below.kc hb h2⟩
    have tOf : ∀ W : World, (Below w0.heap.size w0 W ∧ W.cell? ⟨fb, 0, none⟩ = some (.string ⟨n.toArray⟩) ∧ W.cell? ⟨fb, 1, none⟩ = some (.string ⟨val.toArray⟩) ∧ W.cell? ⟨d, 0, none⟩ = some (.pointer (some ⟨b, 0, none⟩))) → RE W B d b v was least M fs := fun W h => H0.out.keep h.1
    go_region_held3 (fun W => Below w0.heap.size w0 W ∧ W.cell? ⟨fb, 0, none⟩ = some (.string ⟨n.toArray⟩) ∧ W.cell? ⟨fb, 1, none⟩ = some (.string ⟨val.toArray⟩) ∧ W.cell? ⟨d, 0, none⟩ = some (.pointer (some ⟨b, 0, none⟩)))
      (first | assumption | exact sOf _ _ (by assumption) (by assumption) | exact sOf _ _ (by assumption) ((Below.refl _ _).drew))
      (first | (go_at_call 43; refine (rfind_any B b v (M : Int) fs n val _ (tOf _ (by assumption)).tab HS2.out 0 wh HK.out).mono ?_; rintro e w1 ⟨rfl, hb1⟩))
    have HB1 := hid' (below_two (below_two (Below.refl w0.heap.size w0) ((Below.refl _ _).drew)) hb1)
    clear x0 x1 y0 hS sOf tOf hb1
    have x0 : w1.cell? ⟨fb, 0, none⟩ = some (.string ⟨n.toArray⟩) := Below.kc HB1.out (HA.out.cell 0 _ rfl)
    have x1 : w1.cell? ⟨fb, 1, none⟩ = some (.string ⟨val.toArray⟩) := Below.kc HB1.out (HA.out.cell 1 _ rfl)
    go_wp2_with fail
    refine (rstr_at n sn HSN.out (by have := HN.out; omega) _).mono ?_
    rintro e w2 ⟨rfl, hb2⟩
    have HB2 := hid' (below_two HB1.out hb2)
    clear hb2 x0 x1 HB1
    have x0 : w2.cell? ⟨fb, 0, none⟩ = some (.string ⟨n.toArray⟩) := Below.kc HB2.out (HA.out.cell 0 _ rfl)
    have x1 : w2.cell? ⟨fb, 1, none⟩ = some (.string ⟨val.toArray⟩) := Below.kc HB2.out (HA.out.cell 1 _ rfl)
    go_wp2_with fail
    refine (rstr_at val sv HSV.out (by have := HV.out; omega) _).mono ?_
    rintro e w3 ⟨rfl, hb3⟩
    have HB3 := hid' (below_two HB2.out hb3)
    clear hb3 x0 x1 HB2
    have x0 : w3.cell? ⟨fb, 0, none⟩ = some (.string ⟨n.toArray⟩) := Below.kc HB3.out (HA.out.cell 0 _ rfl)
    have x1 : w3.cell? ⟨fb, 1, none⟩ = some (.string ⟨val.toArray⟩) := Below.kc HB3.out (HA.out.cell 1 _ rfl)
    cases h0 : (n == [97, 117, 116, 104, 111, 114, 105, 122, 97, 116, 105, 111, 110]) with
    | true =>
      have HO2 : Hid (s = Pm.num 16 4 0 ++ R ∧ gs = fs) := hid' (by
        have ho := HO.out
        rw [if_pos (by unfold Hp.never; rw [h0]; rfl)] at ho
        injection ho with h1 h2
        exact ⟨h1.symm, h2.symm⟩)
      obtain ⟨a, ha⟩ : ∃ a, Pm.num 16 4 0 = a := ⟨_, rfl⟩
      have hal : a.length ≤ 10 := by rw [← ha]; have := (Pm.num_length 16 4 0 HKB.out).2; omega
      rw [ha] at HO2
      have HAE := hid' ha
      clear ha
      go_wp2_with fail
      refine (rnumber_at 16 4 0 a HAE.out (by decide) (by decide) (by decide) (by decide) HKB.out _).mono ?_
      rintro e w4 ⟨rfl, hb4⟩
      have hb4' := hid' hb4
      clear hb4
      go_wp2
      go_ret
      refine ⟨?_, v, by rw [HO2.out.2]; exact (H0.out.keep HB3.out).keep hb4'.out, fun k hk => .inl hk, Fr.of_below (below_two (below_two HB0.out HB3.out) hb4'.out)⟩
      rw [HO2.out.1, ← Pm.str_cat, HRE.out]
      rfl
    | false =>
      cases h1 : (n == [99, 111, 111, 107, 105, 101]) with
      | true =>
        have HO2 : Hid (s = Pm.num 16 4 0 ++ R ∧ gs = fs) := hid' (by
          have ho := HO.out
          rw [if_pos (by unfold Hp.never; rw [h0, h1]; rfl)] at ho
          injection ho with h1 h2
          exact ⟨h1.symm, h2.symm⟩)
        obtain ⟨a, ha⟩ : ∃ a, Pm.num 16 4 0 = a := ⟨_, rfl⟩
        have hal : a.length ≤ 10 := by rw [← ha]; have := (Pm.num_length 16 4 0 HKB.out).2; omega
        rw [ha] at HO2
        have HAE := hid' ha
        clear ha
        go_wp2_with fail
        refine (rnumber_at 16 4 0 a HAE.out (by decide) (by decide) (by decide) (by decide) HKB.out _).mono ?_
        rintro e w4 ⟨rfl, hb4⟩
        have hb4' := hid' hb4
        clear hb4
        go_wp2
        go_ret
        refine ⟨?_, v, by rw [HO2.out.2]; exact (H0.out.keep HB3.out).keep hb4'.out, fun k hk => .inl hk, Fr.of_below (below_two (below_two HB0.out HB3.out) hb4'.out)⟩
        rw [HO2.out.1, ← Pm.str_cat, HRE.out]
        rfl
      | false =>
        cases h2 : (n == [112, 114, 111, 120, 121, 45, 97, 117, 116, 104, 111, 114, 105, 122, 97, 116, 105, 111, 110]) with
        | true =>
          have HO2 : Hid (s = Pm.num 16 4 0 ++ R ∧ gs = fs) := hid' (by
            have ho := HO.out
            rw [if_pos (by unfold Hp.never; rw [h0, h1, h2]; rfl)] at ho
            injection ho with h1 h2
            exact ⟨h1.symm, h2.symm⟩)
          obtain ⟨a, ha⟩ : ∃ a, Pm.num 16 4 0 = a := ⟨_, rfl⟩
          have hal : a.length ≤ 10 := by rw [← ha]; have := (Pm.num_length 16 4 0 HKB.out).2; omega
          rw [ha] at HO2
          have HAE := hid' ha
          clear ha
          go_wp2_with fail
          refine (rnumber_at 16 4 0 a HAE.out (by decide) (by decide) (by decide) (by decide) HKB.out _).mono ?_
          rintro e w4 ⟨rfl, hb4⟩
          have hb4' := hid' hb4
          clear hb4
          go_wp2
          go_ret
          refine ⟨?_, v, by rw [HO2.out.2]; exact (H0.out.keep HB3.out).keep hb4'.out, fun k hk => .inl hk, Fr.of_below (below_two (below_two HB0.out HB3.out) hb4'.out)⟩
          rw [HO2.out.1, ← Pm.str_cat, HRE.out]
          rfl
        | false =>
          cases h3 : (n == [115, 101, 116, 45, 99, 111, 111, 107, 105, 101]) with
          | true =>
            have HO2 : Hid (s = Pm.num 16 4 0 ++ R ∧ gs = fs) := hid' (by
              have ho := HO.out
              rw [if_pos (by unfold Hp.never; rw [h0, h1, h2, h3]; rfl)] at ho
              injection ho with h1 h2
              exact ⟨h1.symm, h2.symm⟩)
            obtain ⟨a, ha⟩ : ∃ a, Pm.num 16 4 0 = a := ⟨_, rfl⟩
            have hal : a.length ≤ 10 := by rw [← ha]; have := (Pm.num_length 16 4 0 HKB.out).2; omega
            rw [ha] at HO2
            have HAE := hid' ha
            clear ha
            go_wp2_with fail
            refine (rnumber_at 16 4 0 a HAE.out (by decide) (by decide) (by decide) (by decide) HKB.out _).mono ?_
            rintro e w4 ⟨rfl, hb4⟩
            have hb4' := hid' hb4
            clear hb4
            go_wp2
            go_ret
            refine ⟨?_, v, by rw [HO2.out.2]; exact (H0.out.keep HB3.out).keep hb4'.out, fun k hk => .inl hk, Fr.of_below (below_two (below_two HB0.out HB3.out) hb4'.out)⟩
            rw [HO2.out.1, ← Pm.str_cat, HRE.out]
            rfl
          | false =>
            have c1 : ¬ Hp.never n = true := by unfold Hp.never; rw [h0, h1, h2, h3]; decide
            cases hwh : wh with
            | true =>
              subst hwh
              exact absurd (Tb.find_whole fs (n, val) 0 HK.out).1 (by decide)
            | false =>
              subst hwh
              have c2 : ¬ (false = true) := by decide
              cases g0 : (n == [58, 112, 97, 116, 104]) with
              | true =>
                have HO2 : Hid (s = Pm.num 0 4 0 ++ R ∧ gs = fs) := hid' (by
                  have ho := HO.out
                  rw [if_neg c1, if_neg c2, if_pos (.inl (by unfold Hp.nots; rw [g0]; rfl))] at ho
                  injection ho with h1 h2
                  exact ⟨h1.symm, h2.symm⟩)
                obtain ⟨a, ha⟩ : ∃ a, Pm.num 0 4 0 = a := ⟨_, rfl⟩
                have hal : a.length ≤ 10 := by rw [← ha]; have := (Pm.num_length 0 4 0 HKB.out).2; omega
                rw [ha] at HO2
                have HAE := hid' ha
                clear ha
                go_wp2_with fail
                refine (rnumber_at 0 4 0 a HAE.out (by decide) (by decide) (by decide) (by decide) HKB.out _).mono ?_
                rintro e w4 ⟨rfl, hb4⟩
                have hb4' := hid' hb4
                clear hb4
                go_wp2
                go_ret
                refine ⟨?_, v, by rw [HO2.out.2]; exact (H0.out.keep HB3.out).keep hb4'.out, fun k hk => .inl hk, Fr.of_below (below_two (below_two HB0.out HB3.out) hb4'.out)⟩
                rw [HO2.out.1, ← Pm.str_cat, HRE.out]
                rfl
              | false =>
                cases g1 : (n == [99, 111, 110, 116, 101, 110, 116, 45, 108, 101, 110, 103, 116, 104]) with
                | true =>
                  have HO2 : Hid (s = Pm.num 0 4 0 ++ R ∧ gs = fs) := hid' (by
                    have ho := HO.out
                    rw [if_neg c1, if_neg c2, if_pos (.inl (by unfold Hp.nots; rw [g0, g1]; rfl))] at ho
                    injection ho with h1 h2
                    exact ⟨h1.symm, h2.symm⟩)
                  obtain ⟨a, ha⟩ : ∃ a, Pm.num 0 4 0 = a := ⟨_, rfl⟩
                  have hal : a.length ≤ 10 := by rw [← ha]; have := (Pm.num_length 0 4 0 HKB.out).2; omega
                  rw [ha] at HO2
                  have HAE := hid' ha
                  clear ha
                  go_wp2_with fail
                  refine (rnumber_at 0 4 0 a HAE.out (by decide) (by decide) (by decide) (by decide) HKB.out _).mono ?_
                  rintro e w4 ⟨rfl, hb4⟩
                  have hb4' := hid' hb4
                  clear hb4
                  go_wp2
                  go_ret
                  refine ⟨?_, v, by rw [HO2.out.2]; exact (H0.out.keep HB3.out).keep hb4'.out, fun k hk => .inl hk, Fr.of_below (below_two (below_two HB0.out HB3.out) hb4'.out)⟩
                  rw [HO2.out.1, ← Pm.str_cat, HRE.out]
                  rfl
                | false =>
                  cases g2 : (n == [99, 111, 110, 116, 101, 110, 116, 45, 114, 97, 110, 103, 101]) with
                  | true =>
                    have HO2 : Hid (s = Pm.num 0 4 0 ++ R ∧ gs = fs) := hid' (by
                      have ho := HO.out
                      rw [if_neg c1, if_neg c2, if_pos (.inl (by unfold Hp.nots; rw [g0, g1, g2]; rfl))] at ho
                      injection ho with h1 h2
                      exact ⟨h1.symm, h2.symm⟩)
                    obtain ⟨a, ha⟩ : ∃ a, Pm.num 0 4 0 = a := ⟨_, rfl⟩
                    have hal : a.length ≤ 10 := by rw [← ha]; have := (Pm.num_length 0 4 0 HKB.out).2; omega
                    rw [ha] at HO2
                    have HAE := hid' ha
                    clear ha
                    go_wp2_with fail
                    refine (rnumber_at 0 4 0 a HAE.out (by decide) (by decide) (by decide) (by decide) HKB.out _).mono ?_
                    rintro e w4 ⟨rfl, hb4⟩
                    have hb4' := hid' hb4
                    clear hb4
                    go_wp2
                    go_ret
                    refine ⟨?_, v, by rw [HO2.out.2]; exact (H0.out.keep HB3.out).keep hb4'.out, fun k hk => .inl hk, Fr.of_below (below_two (below_two HB0.out HB3.out) hb4'.out)⟩
                    rw [HO2.out.1, ← Pm.str_cat, HRE.out]
                    rfl
                  | false =>
                    cases g3 : (n == [100, 97, 116, 101]) with
                    | true =>
                      have HO2 : Hid (s = Pm.num 0 4 0 ++ R ∧ gs = fs) := hid' (by
                        have ho := HO.out
                        rw [if_neg c1, if_neg c2, if_pos (.inl (by unfold Hp.nots; rw [g0, g1, g2, g3]; rfl))] at ho
                        injection ho with h1 h2
                        exact ⟨h1.symm, h2.symm⟩)
                      obtain ⟨a, ha⟩ : ∃ a, Pm.num 0 4 0 = a := ⟨_, rfl⟩
                      have hal : a.length ≤ 10 := by rw [← ha]; have := (Pm.num_length 0 4 0 HKB.out).2; omega
                      rw [ha] at HO2
                      have HAE := hid' ha
                      clear ha
                      go_wp2_with fail
                      refine (rnumber_at 0 4 0 a HAE.out (by decide) (by decide) (by decide) (by decide) HKB.out _).mono ?_
                      rintro e w4 ⟨rfl, hb4⟩
                      have hb4' := hid' hb4
                      clear hb4
                      go_wp2
                      go_ret
                      refine ⟨?_, v, by rw [HO2.out.2]; exact (H0.out.keep HB3.out).keep hb4'.out, fun k hk => .inl hk, Fr.of_below (below_two (below_two HB0.out HB3.out) hb4'.out)⟩
                      rw [HO2.out.1, ← Pm.str_cat, HRE.out]
                      rfl
                    | false =>
                      cases g4 : (n == [101, 116, 97, 103]) with
                      | true =>
                        have HO2 : Hid (s = Pm.num 0 4 0 ++ R ∧ gs = fs) := hid' (by
                          have ho := HO.out
                          rw [if_neg c1, if_neg c2, if_pos (.inl (by unfold Hp.nots; rw [g0, g1, g2, g3, g4]; rfl))] at ho
                          injection ho with h1 h2
                          exact ⟨h1.symm, h2.symm⟩)
                        obtain ⟨a, ha⟩ : ∃ a, Pm.num 0 4 0 = a := ⟨_, rfl⟩
                        have hal : a.length ≤ 10 := by rw [← ha]; have := (Pm.num_length 0 4 0 HKB.out).2; omega
                        rw [ha] at HO2
                        have HAE := hid' ha
                        clear ha
                        go_wp2_with fail
                        refine (rnumber_at 0 4 0 a HAE.out (by decide) (by decide) (by decide) (by decide) HKB.out _).mono ?_
                        rintro e w4 ⟨rfl, hb4⟩
                        have hb4' := hid' hb4
                        clear hb4
                        go_wp2
                        go_ret
                        refine ⟨?_, v, by rw [HO2.out.2]; exact (H0.out.keep HB3.out).keep hb4'.out, fun k hk => .inl hk, Fr.of_below (below_two (below_two HB0.out HB3.out) hb4'.out)⟩
                        rw [HO2.out.1, ← Pm.str_cat, HRE.out]
                        rfl
                      | false =>
                        cases g5 : (n == [108, 97, 115, 116, 45, 109, 111, 100, 105, 102, 105, 101, 100]) with
                        | true =>
                          have HO2 : Hid (s = Pm.num 0 4 0 ++ R ∧ gs = fs) := hid' (by
                            have ho := HO.out
                            rw [if_neg c1, if_neg c2, if_pos (.inl (by unfold Hp.nots; rw [g0, g1, g2, g3, g4, g5]; rfl))] at ho
                            injection ho with h1 h2
                            exact ⟨h1.symm, h2.symm⟩)
                          obtain ⟨a, ha⟩ : ∃ a, Pm.num 0 4 0 = a := ⟨_, rfl⟩
                          have hal : a.length ≤ 10 := by rw [← ha]; have := (Pm.num_length 0 4 0 HKB.out).2; omega
                          rw [ha] at HO2
                          have HAE := hid' ha
                          clear ha
                          go_wp2_with fail
                          refine (rnumber_at 0 4 0 a HAE.out (by decide) (by decide) (by decide) (by decide) HKB.out _).mono ?_
                          rintro e w4 ⟨rfl, hb4⟩
                          have hb4' := hid' hb4
                          clear hb4
                          go_wp2
                          go_ret
                          refine ⟨?_, v, by rw [HO2.out.2]; exact (H0.out.keep HB3.out).keep hb4'.out, fun k hk => .inl hk, Fr.of_below (below_two (below_two HB0.out HB3.out) hb4'.out)⟩
                          rw [HO2.out.1, ← Pm.str_cat, HRE.out]
                          rfl
                        | false =>
                          cases g6 : (n == [108, 111, 99, 97, 116, 105, 111, 110]) with
                          | true =>
                            have HO2 : Hid (s = Pm.num 0 4 0 ++ R ∧ gs = fs) := hid' (by
                              have ho := HO.out
                              rw [if_neg c1, if_neg c2, if_pos (.inl (by unfold Hp.nots; rw [g0, g1, g2, g3, g4, g5, g6]; rfl))] at ho
                              injection ho with h1 h2
                              exact ⟨h1.symm, h2.symm⟩)
                            obtain ⟨a, ha⟩ : ∃ a, Pm.num 0 4 0 = a := ⟨_, rfl⟩
                            have hal : a.length ≤ 10 := by rw [← ha]; have := (Pm.num_length 0 4 0 HKB.out).2; omega
                            rw [ha] at HO2
                            have HAE := hid' ha
                            clear ha
                            go_wp2_with fail
                            refine (rnumber_at 0 4 0 a HAE.out (by decide) (by decide) (by decide) (by decide) HKB.out _).mono ?_
                            rintro e w4 ⟨rfl, hb4⟩
                            have hb4' := hid' hb4
                            clear hb4
                            go_wp2
                            go_ret
                            refine ⟨?_, v, by rw [HO2.out.2]; exact (H0.out.keep HB3.out).keep hb4'.out, fun k hk => .inl hk, Fr.of_below (below_two (below_two HB0.out HB3.out) hb4'.out)⟩
                            rw [HO2.out.1, ← Pm.str_cat, HRE.out]
                            rfl
                          | false =>
                            have c3 : ¬ Hp.nots n = true := by unfold Hp.nots; rw [g0, g1, g2, g3, g4, g5, g6]; decide
                            by_cases hlt : M < kw
                            · skip
                              have hd1 : decide ((M : Int) < (kw : Int)) = true := decide_eq_true (by omega)
                              have hd2 : decide (M < kw) = true := decide_eq_true hlt
                              have HLT := hid' hlt
                              clear hlt
                              go_wp2
                              have H3 := hid' (H0.out.keep HB3.out)
                              have HA3 := hid' (HA.out.keep HB3.out)
                              have y0 : w3.cell? ⟨d, 0, none⟩ = some (.pointer (some ⟨b, 0, none⟩)) := H3.out.obj.cell 0 _ rfl
                              have y1 : w3.cell? ⟨b, 0, none⟩ = some (.int .i64 (M : Int)) := H3.out.tab.obj.cell 0 _ rfl
                              have hS : Below w3.heap.size w3 w3 ∧ w3.cell? ⟨fb, 0, none⟩ = some (.string ⟨n.toArray⟩) ∧ w3.cell? ⟨fb, 1, none⟩ = some (.string ⟨val.toArray⟩) ∧ w3.cell? ⟨d, 0, none⟩ = some (.pointer (some ⟨b, 0, none⟩)) ∧ w3.cell? ⟨b, 0, none⟩ = some (.int .i64 (M : Int)) := ⟨Below.refl _ _, x0, x1, y0, y1⟩
                              have sOf : ∀ W W1 : World, (Below w3.heap.size w3 W ∧ W.cell? ⟨fb, 0, none⟩ = some (.string ⟨n.toArray⟩) ∧ W.cell? ⟨fb, 1, none⟩ = some (.string ⟨val.toArray⟩) ∧ W.cell? ⟨d, 0, none⟩ = some (.pointer (some ⟨b, 0, none⟩)) ∧ W.cell? ⟨b, 0, none⟩ = some (.int .i64 (M : Int))) → Below W.heap.size W W1 → Below w3.heap.size w3 W1 ∧ W1.cell? ⟨fb, 0, none⟩ = some (.string ⟨n.toArray⟩) ∧ W1.cell? ⟨fb, 1, none⟩ = some (.string ⟨val.toArray⟩) ∧ W1.cell? ⟨d, 0, none⟩ = some (.pointer (some ⟨b, 0, none⟩)) ∧ W1.cell? ⟨b, 0, none⟩ = some (.int .i64 (M : Int)) := fun W W1 ⟨h, h0, h1, h2, h3⟩ hb => ⟨below_two h hb, Below.kc hb h0, Below.kc hb h1, Below.kc hb h2, Below.kc hb h3⟩
                              have wOf : ∀ W, Calls Tryz.prog 45 #[.agg #[.string ⟨n.toArray⟩, .string ⟨val.toArray⟩]] W fun e w' => e = .returned (.int .i64 (kw : Int)) ∧ Below W.heap.size W w' := fun W => (weight_at n val kw HKW.out HKWB.out W).mono fun e w' ⟨he, hw⟩ => ⟨he, by rw [hw]; exact (Below.refl _ _).alloc (Nat.le_refl _) _⟩
                              go_region_held3 (fun W => Below w3.heap.size w3 W ∧ W.cell? ⟨fb, 0, none⟩ = some (.string ⟨n.toArray⟩) ∧ W.cell? ⟨fb, 1, none⟩ = some (.string ⟨val.toArray⟩) ∧ W.cell? ⟨d, 0, none⟩ = some (.pointer (some ⟨b, 0, none⟩)) ∧ W.cell? ⟨b, 0, none⟩ = some (.int .i64 (M : Int)))
                                (first | assumption | exact sOf _ _ (by assumption) (by assumption) | exact sOf _ _ (by assumption) ((Below.refl _ _).drew))
                                (first | (go_at_call 45; refine (wOf _).mono ?_; rintro e w5 ⟨rfl, hb5⟩))
                              have HB5 := hid' (below_two HB3.out (below_two (below_two (Below.refl w3.heap.size w3) ((Below.refl _ _).drew)) hb5))
                              clear x0 x1 y0 y1 hS sOf wOf hb5 H3 HA3
                              have HO2 : Hid (s = Pm.num 0 4 0 ++ R ∧ gs = fs) := hid' (by
                                have ho := HO.out
                                rw [if_neg c1, if_neg c2] at ho
                                rw [if_pos (.inr HLT.out)] at ho
                                injection ho with h1 h2
                                exact ⟨h1.symm, h2.symm⟩)
                              obtain ⟨a, ha⟩ : ∃ a, Pm.num 0 4 0 = a := ⟨_, rfl⟩
                              have hal : a.length ≤ 10 := by rw [← ha]; have := (Pm.num_length 0 4 0 HKB.out).2; omega
                              rw [ha] at HO2
                              have HAE := hid' ha
                              clear ha
                              go_wp2_with fail
                              refine (rnumber_at 0 4 0 a HAE.out (by decide) (by decide) (by decide) (by decide) HKB.out _).mono ?_
                              rintro e w4 ⟨rfl, hb4⟩
                              have hb4' := hid' hb4
                              clear hb4
                              go_wp2
                              go_ret
                              refine ⟨?_, v, by rw [HO2.out.2]; exact (H0.out.keep HB5.out).keep hb4'.out, fun k hk => .inl hk, Fr.of_below (below_two (below_two HB0.out HB5.out) hb4'.out)⟩
                              rw [HO2.out.1, ← Pm.str_cat, HRE.out]
                              rfl
                            · skip
                              have hd1 : decide ((M : Int) < (kw : Int)) = false := decide_eq_false (by omega)
                              have hd2 : decide (M < kw) = false := decide_eq_false hlt
                              have HLT := hid' hlt
                              clear hlt
                              go_wp2
                              have H3 := hid' (H0.out.keep HB3.out)
                              have HA3 := hid' (HA.out.keep HB3.out)
                              have y0 : w3.cell? ⟨d, 0, none⟩ = some (.pointer (some ⟨b, 0, none⟩)) := H3.out.obj.cell 0 _ rfl
                              have y1 : w3.cell? ⟨b, 0, none⟩ = some (.int .i64 (M : Int)) := H3.out.tab.obj.cell 0 _ rfl
                              have hS : Below w3.heap.size w3 w3 ∧ w3.cell? ⟨fb, 0, none⟩ = some (.string ⟨n.toArray⟩) ∧ w3.cell? ⟨fb, 1, none⟩ = some (.string ⟨val.toArray⟩) ∧ w3.cell? ⟨d, 0, none⟩ = some (.pointer (some ⟨b, 0, none⟩)) ∧ w3.cell? ⟨b, 0, none⟩ = some (.int .i64 (M : Int)) := ⟨Below.refl _ _, x0, x1, y0, y1⟩
                              have sOf : ∀ W W1 : World, (Below w3.heap.size w3 W ∧ W.cell? ⟨fb, 0, none⟩ = some (.string ⟨n.toArray⟩) ∧ W.cell? ⟨fb, 1, none⟩ = some (.string ⟨val.toArray⟩) ∧ W.cell? ⟨d, 0, none⟩ = some (.pointer (some ⟨b, 0, none⟩)) ∧ W.cell? ⟨b, 0, none⟩ = some (.int .i64 (M : Int))) → Below W.heap.size W W1 → Below w3.heap.size w3 W1 ∧ W1.cell? ⟨fb, 0, none⟩ = some (.string ⟨n.toArray⟩) ∧ W1.cell? ⟨fb, 1, none⟩ = some (.string ⟨val.toArray⟩) ∧ W1.cell? ⟨d, 0, none⟩ = some (.pointer (some ⟨b, 0, none⟩)) ∧ W1.cell? ⟨b, 0, none⟩ = some (.int .i64 (M : Int)) := fun W W1 ⟨h, h0, h1, h2, h3⟩ hb => ⟨below_two h hb, Below.kc hb h0, Below.kc hb h1, Below.kc hb h2, Below.kc hb h3⟩
                              have wOf : ∀ W, Calls Tryz.prog 45 #[.agg #[.string ⟨n.toArray⟩, .string ⟨val.toArray⟩]] W fun e w' => e = .returned (.int .i64 (kw : Int)) ∧ Below W.heap.size W w' := fun W => (weight_at n val kw HKW.out HKWB.out W).mono fun e w' ⟨he, hw⟩ => ⟨he, by rw [hw]; exact (Below.refl _ _).alloc (Nat.le_refl _) _⟩
                              go_region_held3 (fun W => Below w3.heap.size w3 W ∧ W.cell? ⟨fb, 0, none⟩ = some (.string ⟨n.toArray⟩) ∧ W.cell? ⟨fb, 1, none⟩ = some (.string ⟨val.toArray⟩) ∧ W.cell? ⟨d, 0, none⟩ = some (.pointer (some ⟨b, 0, none⟩)) ∧ W.cell? ⟨b, 0, none⟩ = some (.int .i64 (M : Int)))
                                (first | assumption | exact sOf _ _ (by assumption) (by assumption) | exact sOf _ _ (by assumption) ((Below.refl _ _).drew))
                                (first | (go_at_call 45; refine (wOf _).mono ?_; rintro e w5 ⟨rfl, hb5⟩))
                              have HB5 := hid' (below_two HB3.out (below_two (below_two (Below.refl w3.heap.size w3) ((Below.refl _ _).drew)) hb5))
                              clear x0 x1 y0 y1 hS sOf wOf hb5 H3 HA3
                              have HO2 : Hid (s = Pm.num 64 6 0 ++ R ∧ gs = Tb.add M fs (n, val)) := hid' (by
                                have ho := HO.out
                                rw [if_neg c1, if_neg c2] at ho
                                rw [if_neg (by rintro (h | h); exact c3 h; exact HLT.out h)] at ho
                                injection ho with h1 h2
                                exact ⟨h1.symm, h2.symm⟩)
                              obtain ⟨a, ha⟩ : ∃ a, Pm.num 64 6 0 = a := ⟨_, rfl⟩
                              have hal : a.length ≤ 10 := by rw [← ha]; have := (Pm.num_length 64 6 0 HKB.out).2; omega
                              rw [ha] at HO2
                              have HAE := hid' ha
                              clear ha
                              go_wp2
                              have H5 := hid' (H0.out.keep HB5.out)
                              have HA5 := hid' (HA.out.keep HB5.out)
                              have x0 : w5.cell? ⟨fb, 0, none⟩ = some (.string ⟨n.toArray⟩) := HA5.out.cell 0 _ rfl
                              have x1 : w5.cell? ⟨fb, 1, none⟩ = some (.string ⟨val.toArray⟩) := HA5.out.cell 1 _ rfl
                              have y0 : w5.cell? ⟨d, 0, none⟩ = some (.pointer (some ⟨b, 0, none⟩)) := H5.out.obj.cell 0 _ rfl
                              have HSZ5 : Hid (w.heap.size ≤ w5.heap.size) := hid' (Nat.le_trans HB0.out.size HB5.out.size)
                              go_region_with (go_at_call 46; refine (radd_any B b v M fs n val _ H5.out.tab.drew HM.out HS2.out (Nat.le_trans HBB.out HSZ5.out) (by rw [HKW.out]; exact HKWB.out)).mono ?_; rintro e w6 ⟨rfl, v6, hC6, hv6, hg6⟩; have HX6 : Hid (RT w6 B b v6 (M : Int) (Tb.add M fs (n, val)) ∧ (∀ k, v6.ownBlock = some k → v.ownBlock = some k ∨ w5.heap.size ≤ k) ∧ w5.grownBy w6 (some b)) := hid' ⟨hC6, hv6, ⟨hg6.os, hg6.tape, hg6.output, hg6.size, hg6.block⟩⟩; clear hC6 hv6 hg6)
                              all_goals
                                clear x0 x1 y0
                                go_wp2_with fail
                                refine (rnumber_at 64 6 0 a HAE.out (by decide) (by decide) (by decide) (by decide) HKB.out _).mono ?_
                                rintro e w7 ⟨rfl, hb7⟩
                                have hb7' := hid' hb7
                                clear hb7
                                go_wp2
                                go_ret
                                refine ⟨?_, v6, by rw [HO2.out.2]; exact (H5.out.put HX6.out.2.2 HX6.out.1).keep hb7'.out, fun k hk => (HX6.out.2.1 k hk).imp id (fun h => Nat.le_trans HSZ5.out h), ((Fr.of_below (below_two HB0.out HB5.out)).and (Fr.of_grown (S := (· = b)) HX6.out.2.2 rfl)).and (Fr.of_below hb7'.out)⟩
                                rw [HO2.out.1, ← Pm.str_cat, HRE.out]
                                rfl
  · skip
    obtain ⟨sv, hsv⟩ : ∃ s, Pm.str val = s := ⟨_, rfl⟩
    have hsvl : sv.length ≤ 134217738 := by rw [← hsv]; have := (Pm.str_length val (by have := HV.out; omega)).2; have := HV.out; omega
    have HSV := hid' hsv
    have HRE : Hid (sv = R) := hid' (by rw [← HR.out]; unfold Hp.texts; rw [if_neg hz, hsv]; rfl)
    have hz1 : ((k : Int) == 0) = false := beq_false_of_ne (by omega)
    have hz2 : (k == 0) = false := beq_false_of_ne hz
    clear hsv hz
    go_enter Tryz.func25, Tryz.ntmps25
    go_wp2
    obtain ⟨fb, hfb⟩ : ∃ fb, w.heap.size = fb := ⟨_, rfl⟩
    have HFB := hid' hfb
    rw [hfb] at HA ⊢
    clear hfb
    generalize (w.alloc (.cells #[.string ⟨n.toArray⟩, .string ⟨val.toArray⟩] 54)) = w0 at *
    have x0 : w0.cell? ⟨fb, 0, none⟩ = some (.string ⟨n.toArray⟩) := HA.out.cell 0 _ rfl
    have x1 : w0.cell? ⟨fb, 1, none⟩ = some (.string ⟨val.toArray⟩) := HA.out.cell 1 _ rfl
    have y0 : w0.cell? ⟨d, 0, none⟩ = some (.pointer (some ⟨b, 0, none⟩)) := H0.out.obj.cell 0 _ rfl
    have hS : Below w0.heap.size w0 w0 ∧ w0.cell? ⟨fb, 0, none⟩ = some (.string ⟨n.toArray⟩) ∧ w0.cell? ⟨fb, 1, none⟩ = some (.string ⟨val.toArray⟩) ∧ w0.cell? ⟨d, 0, none⟩ = some (.pointer (some ⟨b, 0, none⟩)) := ⟨Below.refl _ _, x0, x1, y0⟩
    have sOf : ∀ W W1 : World, (Below w0.heap.size w0 W ∧ W.cell? ⟨fb, 0, none⟩ = some (.string ⟨n.toArray⟩) ∧ W.cell? ⟨fb, 1, none⟩ = some (.string ⟨val.toArray⟩) ∧ W.cell? ⟨d, 0, none⟩ = some (.pointer (some ⟨b, 0, none⟩))) → Below W.heap.size W W1 → Below w0.heap.size w0 W1 ∧ W1.cell? ⟨fb, 0, none⟩ = some (.string ⟨n.toArray⟩) ∧ W1.cell? ⟨fb, 1, none⟩ = some (.string ⟨val.toArray⟩) ∧ W1.cell? ⟨d, 0, none⟩ = some (.pointer (some ⟨b, 0, none⟩)) := fun W W1 ⟨h, h0, h1, h2⟩ hb => ⟨below_two h hb, Below.kc hb h0, Below.kc hb h1, Below.kc hb h2⟩
    have tOf : ∀ W : World, (Below w0.heap.size w0 W ∧ W.cell? ⟨fb, 0, none⟩ = some (.string ⟨n.toArray⟩) ∧ W.cell? ⟨fb, 1, none⟩ = some (.string ⟨val.toArray⟩) ∧ W.cell? ⟨d, 0, none⟩ = some (.pointer (some ⟨b, 0, none⟩))) → RE W B d b v was least M fs := fun W h => H0.out.keep h.1
    go_region_held3 (fun W => Below w0.heap.size w0 W ∧ W.cell? ⟨fb, 0, none⟩ = some (.string ⟨n.toArray⟩) ∧ W.cell? ⟨fb, 1, none⟩ = some (.string ⟨val.toArray⟩) ∧ W.cell? ⟨d, 0, none⟩ = some (.pointer (some ⟨b, 0, none⟩)))
      (first | assumption | exact sOf _ _ (by assumption) (by assumption) | exact sOf _ _ (by assumption) ((Below.refl _ _).drew))
      (first | (go_at_call 43; refine (rfind_any B b v (M : Int) fs n val _ (tOf _ (by assumption)).tab HS2.out k wh HK.out).mono ?_; rintro e w1 ⟨rfl, hb1⟩))
    have HB1 := hid' (below_two (below_two (Below.refl w0.heap.size w0) ((Below.refl _ _).drew)) hb1)
    clear x0 x1 y0 hS sOf tOf hb1
    have x0 : w1.cell? ⟨fb, 0, none⟩ = some (.string ⟨n.toArray⟩) := Below.kc HB1.out (HA.out.cell 0 _ rfl)
    have x1 : w1.cell? ⟨fb, 1, none⟩ = some (.string ⟨val.toArray⟩) := Below.kc HB1.out (HA.out.cell 1 _ rfl)
    have HB2 := HB1
    go_wp2_with fail
    refine (rstr_at val sv HSV.out (by have := HV.out; omega) _).mono ?_
    rintro e w3 ⟨rfl, hb3⟩
    have HB3 := hid' (below_two HB2.out hb3)
    clear hb3 x0 x1 HB2
    have x0 : w3.cell? ⟨fb, 0, none⟩ = some (.string ⟨n.toArray⟩) := Below.kc HB3.out (HA.out.cell 0 _ rfl)
    have x1 : w3.cell? ⟨fb, 1, none⟩ = some (.string ⟨val.toArray⟩) := Below.kc HB3.out (HA.out.cell 1 _ rfl)
    cases h0 : (n == [97, 117, 116, 104, 111, 114, 105, 122, 97, 116, 105, 111, 110]) with
    | true =>
      have HO2 : Hid (s = Pm.num 16 4 k ++ R ∧ gs = fs) := hid' (by
        have ho := HO.out
        rw [if_pos (by unfold Hp.never; rw [h0]; rfl)] at ho
        injection ho with h1 h2
        exact ⟨h1.symm, h2.symm⟩)
      obtain ⟨a, ha⟩ : ∃ a, Pm.num 16 4 k = a := ⟨_, rfl⟩
      have hal : a.length ≤ 10 := by rw [← ha]; have := (Pm.num_length 16 4 k HKB.out).2; omega
      rw [ha] at HO2
      have HAE := hid' ha
      clear ha
      go_wp2_with fail
      refine (rnumber_at 16 4 k a HAE.out (by decide) (by decide) (by decide) (by decide) HKB.out _).mono ?_
      rintro e w4 ⟨rfl, hb4⟩
      have hb4' := hid' hb4
      clear hb4
      go_wp2
      go_ret
      refine ⟨?_, v, by rw [HO2.out.2]; exact (H0.out.keep HB3.out).keep hb4'.out, fun k hk => .inl hk, Fr.of_below (below_two (below_two HB0.out HB3.out) hb4'.out)⟩
      rw [HO2.out.1, ← HRE.out, ← Pm.str_cat]
      rfl
    | false =>
      cases h1 : (n == [99, 111, 111, 107, 105, 101]) with
      | true =>
        have HO2 : Hid (s = Pm.num 16 4 k ++ R ∧ gs = fs) := hid' (by
          have ho := HO.out
          rw [if_pos (by unfold Hp.never; rw [h0, h1]; rfl)] at ho
          injection ho with h1 h2
          exact ⟨h1.symm, h2.symm⟩)
        obtain ⟨a, ha⟩ : ∃ a, Pm.num 16 4 k = a := ⟨_, rfl⟩
        have hal : a.length ≤ 10 := by rw [← ha]; have := (Pm.num_length 16 4 k HKB.out).2; omega
        rw [ha] at HO2
        have HAE := hid' ha
        clear ha
        go_wp2_with fail
        refine (rnumber_at 16 4 k a HAE.out (by decide) (by decide) (by decide) (by decide) HKB.out _).mono ?_
        rintro e w4 ⟨rfl, hb4⟩
        have hb4' := hid' hb4
        clear hb4
        go_wp2
        go_ret
        refine ⟨?_, v, by rw [HO2.out.2]; exact (H0.out.keep HB3.out).keep hb4'.out, fun k hk => .inl hk, Fr.of_below (below_two (below_two HB0.out HB3.out) hb4'.out)⟩
        rw [HO2.out.1, ← HRE.out, ← Pm.str_cat]
        rfl
      | false =>
        cases h2 : (n == [112, 114, 111, 120, 121, 45, 97, 117, 116, 104, 111, 114, 105, 122, 97, 116, 105, 111, 110]) with
        | true =>
          have HO2 : Hid (s = Pm.num 16 4 k ++ R ∧ gs = fs) := hid' (by
            have ho := HO.out
            rw [if_pos (by unfold Hp.never; rw [h0, h1, h2]; rfl)] at ho
            injection ho with h1 h2
            exact ⟨h1.symm, h2.symm⟩)
          obtain ⟨a, ha⟩ : ∃ a, Pm.num 16 4 k = a := ⟨_, rfl⟩
          have hal : a.length ≤ 10 := by rw [← ha]; have := (Pm.num_length 16 4 k HKB.out).2; omega
          rw [ha] at HO2
          have HAE := hid' ha
          clear ha
          go_wp2_with fail
          refine (rnumber_at 16 4 k a HAE.out (by decide) (by decide) (by decide) (by decide) HKB.out _).mono ?_
          rintro e w4 ⟨rfl, hb4⟩
          have hb4' := hid' hb4
          clear hb4
          go_wp2
          go_ret
          refine ⟨?_, v, by rw [HO2.out.2]; exact (H0.out.keep HB3.out).keep hb4'.out, fun k hk => .inl hk, Fr.of_below (below_two (below_two HB0.out HB3.out) hb4'.out)⟩
          rw [HO2.out.1, ← HRE.out, ← Pm.str_cat]
          rfl
        | false =>
          cases h3 : (n == [115, 101, 116, 45, 99, 111, 111, 107, 105, 101]) with
          | true =>
            have HO2 : Hid (s = Pm.num 16 4 k ++ R ∧ gs = fs) := hid' (by
              have ho := HO.out
              rw [if_pos (by unfold Hp.never; rw [h0, h1, h2, h3]; rfl)] at ho
              injection ho with h1 h2
              exact ⟨h1.symm, h2.symm⟩)
            obtain ⟨a, ha⟩ : ∃ a, Pm.num 16 4 k = a := ⟨_, rfl⟩
            have hal : a.length ≤ 10 := by rw [← ha]; have := (Pm.num_length 16 4 k HKB.out).2; omega
            rw [ha] at HO2
            have HAE := hid' ha
            clear ha
            go_wp2_with fail
            refine (rnumber_at 16 4 k a HAE.out (by decide) (by decide) (by decide) (by decide) HKB.out _).mono ?_
            rintro e w4 ⟨rfl, hb4⟩
            have hb4' := hid' hb4
            clear hb4
            go_wp2
            go_ret
            refine ⟨?_, v, by rw [HO2.out.2]; exact (H0.out.keep HB3.out).keep hb4'.out, fun k hk => .inl hk, Fr.of_below (below_two (below_two HB0.out HB3.out) hb4'.out)⟩
            rw [HO2.out.1, ← HRE.out, ← Pm.str_cat]
            rfl
          | false =>
            have c1 : ¬ Hp.never n = true := by unfold Hp.never; rw [h0, h1, h2, h3]; decide
            cases hwh : wh with
            | true =>
              subst hwh
              have HO2 : Hid (s = Pm.num 128 7 k ∧ gs = fs) := hid' (by
                have ho := HO.out
                rw [if_neg c1, if_pos rfl] at ho
                injection ho with h1 h2
                exact ⟨h1.symm, h2.symm⟩)
              obtain ⟨a, ha⟩ : ∃ a, Pm.num 128 7 k = a := ⟨_, rfl⟩
              have hal : a.length ≤ 10 := by rw [← ha]; have := (Pm.num_length 128 7 k HKB.out).2; omega
              rw [ha] at HO2
              have HAE := hid' ha
              clear ha
              go_wp2_with fail
              refine (rnumber_at 128 7 k a HAE.out (by decide) (by decide) (by decide) (by decide) HKB.out _).mono ?_
              rintro e w4 ⟨rfl, hb4⟩
              have hb4' := hid' hb4
              clear hb4
              go_wp2
              go_ret
              refine ⟨?_, v, by rw [HO2.out.2]; exact (H0.out.keep HB3.out).keep hb4'.out, fun k hk => .inl hk, Fr.of_below (below_two (below_two HB0.out HB3.out) hb4'.out)⟩
              rw [HO2.out.1]
              rfl
            | false =>
              subst hwh
              have c2 : ¬ (false = true) := by decide
              cases g0 : (n == [58, 112, 97, 116, 104]) with
              | true =>
                have HO2 : Hid (s = Pm.num 0 4 k ++ R ∧ gs = fs) := hid' (by
                  have ho := HO.out
                  rw [if_neg c1, if_neg c2, if_pos (.inl (by unfold Hp.nots; rw [g0]; rfl))] at ho
                  injection ho with h1 h2
                  exact ⟨h1.symm, h2.symm⟩)
                obtain ⟨a, ha⟩ : ∃ a, Pm.num 0 4 k = a := ⟨_, rfl⟩
                have hal : a.length ≤ 10 := by rw [← ha]; have := (Pm.num_length 0 4 k HKB.out).2; omega
                rw [ha] at HO2
                have HAE := hid' ha
                clear ha
                go_wp2_with fail
                refine (rnumber_at 0 4 k a HAE.out (by decide) (by decide) (by decide) (by decide) HKB.out _).mono ?_
                rintro e w4 ⟨rfl, hb4⟩
                have hb4' := hid' hb4
                clear hb4
                go_wp2
                go_ret
                refine ⟨?_, v, by rw [HO2.out.2]; exact (H0.out.keep HB3.out).keep hb4'.out, fun k hk => .inl hk, Fr.of_below (below_two (below_two HB0.out HB3.out) hb4'.out)⟩
                rw [HO2.out.1, ← HRE.out, ← Pm.str_cat]
                rfl
              | false =>
                cases g1 : (n == [99, 111, 110, 116, 101, 110, 116, 45, 108, 101, 110, 103, 116, 104]) with
                | true =>
                  have HO2 : Hid (s = Pm.num 0 4 k ++ R ∧ gs = fs) := hid' (by
                    have ho := HO.out
                    rw [if_neg c1, if_neg c2, if_pos (.inl (by unfold Hp.nots; rw [g0, g1]; rfl))] at ho
                    injection ho with h1 h2
                    exact ⟨h1.symm, h2.symm⟩)
                  obtain ⟨a, ha⟩ : ∃ a, Pm.num 0 4 k = a := ⟨_, rfl⟩
                  have hal : a.length ≤ 10 := by rw [← ha]; have := (Pm.num_length 0 4 k HKB.out).2; omega
                  rw [ha] at HO2
                  have HAE := hid' ha
                  clear ha
                  go_wp2_with fail
                  refine (rnumber_at 0 4 k a HAE.out (by decide) (by decide) (by decide) (by decide) HKB.out _).mono ?_
                  rintro e w4 ⟨rfl, hb4⟩
                  have hb4' := hid' hb4
                  clear hb4
                  go_wp2
                  go_ret
                  refine ⟨?_, v, by rw [HO2.out.2]; exact (H0.out.keep HB3.out).keep hb4'.out, fun k hk => .inl hk, Fr.of_below (below_two (below_two HB0.out HB3.out) hb4'.out)⟩
                  rw [HO2.out.1, ← HRE.out, ← Pm.str_cat]
                  rfl
                | false =>
                  cases g2 : (n == [99, 111, 110, 116, 101, 110, 116, 45, 114, 97, 110, 103, 101]) with
                  | true =>
                    have HO2 : Hid (s = Pm.num 0 4 k ++ R ∧ gs = fs) := hid' (by
                      have ho := HO.out
                      rw [if_neg c1, if_neg c2, if_pos (.inl (by unfold Hp.nots; rw [g0, g1, g2]; rfl))] at ho
                      injection ho with h1 h2
                      exact ⟨h1.symm, h2.symm⟩)
                    obtain ⟨a, ha⟩ : ∃ a, Pm.num 0 4 k = a := ⟨_, rfl⟩
                    have hal : a.length ≤ 10 := by rw [← ha]; have := (Pm.num_length 0 4 k HKB.out).2; omega
                    rw [ha] at HO2
                    have HAE := hid' ha
                    clear ha
                    go_wp2_with fail
                    refine (rnumber_at 0 4 k a HAE.out (by decide) (by decide) (by decide) (by decide) HKB.out _).mono ?_
                    rintro e w4 ⟨rfl, hb4⟩
                    have hb4' := hid' hb4
                    clear hb4
                    go_wp2
                    go_ret
                    refine ⟨?_, v, by rw [HO2.out.2]; exact (H0.out.keep HB3.out).keep hb4'.out, fun k hk => .inl hk, Fr.of_below (below_two (below_two HB0.out HB3.out) hb4'.out)⟩
                    rw [HO2.out.1, ← HRE.out, ← Pm.str_cat]
                    rfl
                  | false =>
                    cases g3 : (n == [100, 97, 116, 101]) with
                    | true =>
                      have HO2 : Hid (s = Pm.num 0 4 k ++ R ∧ gs = fs) := hid' (by
                        have ho := HO.out
                        rw [if_neg c1, if_neg c2, if_pos (.inl (by unfold Hp.nots; rw [g0, g1, g2, g3]; rfl))] at ho
                        injection ho with h1 h2
                        exact ⟨h1.symm, h2.symm⟩)
                      obtain ⟨a, ha⟩ : ∃ a, Pm.num 0 4 k = a := ⟨_, rfl⟩
                      have hal : a.length ≤ 10 := by rw [← ha]; have := (Pm.num_length 0 4 k HKB.out).2; omega
                      rw [ha] at HO2
                      have HAE := hid' ha
                      clear ha
                      go_wp2_with fail
                      refine (rnumber_at 0 4 k a HAE.out (by decide) (by decide) (by decide) (by decide) HKB.out _).mono ?_
                      rintro e w4 ⟨rfl, hb4⟩
                      have hb4' := hid' hb4
                      clear hb4
                      go_wp2
                      go_ret
                      refine ⟨?_, v, by rw [HO2.out.2]; exact (H0.out.keep HB3.out).keep hb4'.out, fun k hk => .inl hk, Fr.of_below (below_two (below_two HB0.out HB3.out) hb4'.out)⟩
                      rw [HO2.out.1, ← HRE.out, ← Pm.str_cat]
                      rfl
                    | false =>
                      cases g4 : (n == [101, 116, 97, 103]) with
                      | true =>
                        have HO2 : Hid (s = Pm.num 0 4 k ++ R ∧ gs = fs) := hid' (by
                          have ho := HO.out
                          rw [if_neg c1, if_neg c2, if_pos (.inl (by unfold Hp.nots; rw [g0, g1, g2, g3, g4]; rfl))] at ho
                          injection ho with h1 h2
                          exact ⟨h1.symm, h2.symm⟩)
                        obtain ⟨a, ha⟩ : ∃ a, Pm.num 0 4 k = a := ⟨_, rfl⟩
                        have hal : a.length ≤ 10 := by rw [← ha]; have := (Pm.num_length 0 4 k HKB.out).2; omega
                        rw [ha] at HO2
                        have HAE := hid' ha
                        clear ha
                        go_wp2_with fail
                        refine (rnumber_at 0 4 k a HAE.out (by decide) (by decide) (by decide) (by decide) HKB.out _).mono ?_
                        rintro e w4 ⟨rfl, hb4⟩
                        have hb4' := hid' hb4
                        clear hb4
                        go_wp2
                        go_ret
                        refine ⟨?_, v, by rw [HO2.out.2]; exact (H0.out.keep HB3.out).keep hb4'.out, fun k hk => .inl hk, Fr.of_below (below_two (below_two HB0.out HB3.out) hb4'.out)⟩
                        rw [HO2.out.1, ← HRE.out, ← Pm.str_cat]
                        rfl
                      | false =>
                        cases g5 : (n == [108, 97, 115, 116, 45, 109, 111, 100, 105, 102, 105, 101, 100]) with
                        | true =>
                          have HO2 : Hid (s = Pm.num 0 4 k ++ R ∧ gs = fs) := hid' (by
                            have ho := HO.out
                            rw [if_neg c1, if_neg c2, if_pos (.inl (by unfold Hp.nots; rw [g0, g1, g2, g3, g4, g5]; rfl))] at ho
                            injection ho with h1 h2
                            exact ⟨h1.symm, h2.symm⟩)
                          obtain ⟨a, ha⟩ : ∃ a, Pm.num 0 4 k = a := ⟨_, rfl⟩
                          have hal : a.length ≤ 10 := by rw [← ha]; have := (Pm.num_length 0 4 k HKB.out).2; omega
                          rw [ha] at HO2
                          have HAE := hid' ha
                          clear ha
                          go_wp2_with fail
                          refine (rnumber_at 0 4 k a HAE.out (by decide) (by decide) (by decide) (by decide) HKB.out _).mono ?_
                          rintro e w4 ⟨rfl, hb4⟩
                          have hb4' := hid' hb4
                          clear hb4
                          go_wp2
                          go_ret
                          refine ⟨?_, v, by rw [HO2.out.2]; exact (H0.out.keep HB3.out).keep hb4'.out, fun k hk => .inl hk, Fr.of_below (below_two (below_two HB0.out HB3.out) hb4'.out)⟩
                          rw [HO2.out.1, ← HRE.out, ← Pm.str_cat]
                          rfl
                        | false =>
                          cases g6 : (n == [108, 111, 99, 97, 116, 105, 111, 110]) with
                          | true =>
                            have HO2 : Hid (s = Pm.num 0 4 k ++ R ∧ gs = fs) := hid' (by
                              have ho := HO.out
                              rw [if_neg c1, if_neg c2, if_pos (.inl (by unfold Hp.nots; rw [g0, g1, g2, g3, g4, g5, g6]; rfl))] at ho
                              injection ho with h1 h2
                              exact ⟨h1.symm, h2.symm⟩)
                            obtain ⟨a, ha⟩ : ∃ a, Pm.num 0 4 k = a := ⟨_, rfl⟩
                            have hal : a.length ≤ 10 := by rw [← ha]; have := (Pm.num_length 0 4 k HKB.out).2; omega
                            rw [ha] at HO2
                            have HAE := hid' ha
                            clear ha
                            go_wp2_with fail
                            refine (rnumber_at 0 4 k a HAE.out (by decide) (by decide) (by decide) (by decide) HKB.out _).mono ?_
                            rintro e w4 ⟨rfl, hb4⟩
                            have hb4' := hid' hb4
                            clear hb4
                            go_wp2
                            go_ret
                            refine ⟨?_, v, by rw [HO2.out.2]; exact (H0.out.keep HB3.out).keep hb4'.out, fun k hk => .inl hk, Fr.of_below (below_two (below_two HB0.out HB3.out) hb4'.out)⟩
                            rw [HO2.out.1, ← HRE.out, ← Pm.str_cat]
                            rfl
                          | false =>
                            have c3 : ¬ Hp.nots n = true := by unfold Hp.nots; rw [g0, g1, g2, g3, g4, g5, g6]; decide
                            by_cases hlt : M < kw
                            · skip
                              have hd1 : decide ((M : Int) < (kw : Int)) = true := decide_eq_true (by omega)
                              have hd2 : decide (M < kw) = true := decide_eq_true hlt
                              have HLT := hid' hlt
                              clear hlt
                              go_wp2
                              have H3 := hid' (H0.out.keep HB3.out)
                              have HA3 := hid' (HA.out.keep HB3.out)
                              have y0 : w3.cell? ⟨d, 0, none⟩ = some (.pointer (some ⟨b, 0, none⟩)) := H3.out.obj.cell 0 _ rfl
                              have y1 : w3.cell? ⟨b, 0, none⟩ = some (.int .i64 (M : Int)) := H3.out.tab.obj.cell 0 _ rfl
                              have hS : Below w3.heap.size w3 w3 ∧ w3.cell? ⟨fb, 0, none⟩ = some (.string ⟨n.toArray⟩) ∧ w3.cell? ⟨fb, 1, none⟩ = some (.string ⟨val.toArray⟩) ∧ w3.cell? ⟨d, 0, none⟩ = some (.pointer (some ⟨b, 0, none⟩)) ∧ w3.cell? ⟨b, 0, none⟩ = some (.int .i64 (M : Int)) := ⟨Below.refl _ _, x0, x1, y0, y1⟩
                              have sOf : ∀ W W1 : World, (Below w3.heap.size w3 W ∧ W.cell? ⟨fb, 0, none⟩ = some (.string ⟨n.toArray⟩) ∧ W.cell? ⟨fb, 1, none⟩ = some (.string ⟨val.toArray⟩) ∧ W.cell? ⟨d, 0, none⟩ = some (.pointer (some ⟨b, 0, none⟩)) ∧ W.cell? ⟨b, 0, none⟩ = some (.int .i64 (M : Int))) → Below W.heap.size W W1 → Below w3.heap.size w3 W1 ∧ W1.cell? ⟨fb, 0, none⟩ = some (.string ⟨n.toArray⟩) ∧ W1.cell? ⟨fb, 1, none⟩ = some (.string ⟨val.toArray⟩) ∧ W1.cell? ⟨d, 0, none⟩ = some (.pointer (some ⟨b, 0, none⟩)) ∧ W1.cell? ⟨b, 0, none⟩ = some (.int .i64 (M : Int)) := fun W W1 ⟨h, h0, h1, h2, h3⟩ hb => ⟨below_two h hb, Below.kc hb h0, Below.kc hb h1, Below.kc hb h2, Below.kc hb h3⟩
                              have wOf : ∀ W, Calls Tryz.prog 45 #[.agg #[.string ⟨n.toArray⟩, .string ⟨val.toArray⟩]] W fun e w' => e = .returned (.int .i64 (kw : Int)) ∧ Below W.heap.size W w' := fun W => (weight_at n val kw HKW.out HKWB.out W).mono fun e w' ⟨he, hw⟩ => ⟨he, by rw [hw]; exact (Below.refl _ _).alloc (Nat.le_refl _) _⟩
                              go_region_held3 (fun W => Below w3.heap.size w3 W ∧ W.cell? ⟨fb, 0, none⟩ = some (.string ⟨n.toArray⟩) ∧ W.cell? ⟨fb, 1, none⟩ = some (.string ⟨val.toArray⟩) ∧ W.cell? ⟨d, 0, none⟩ = some (.pointer (some ⟨b, 0, none⟩)) ∧ W.cell? ⟨b, 0, none⟩ = some (.int .i64 (M : Int)))
                                (first | assumption | exact sOf _ _ (by assumption) (by assumption) | exact sOf _ _ (by assumption) ((Below.refl _ _).drew))
                                (first | (go_at_call 45; refine (wOf _).mono ?_; rintro e w5 ⟨rfl, hb5⟩))
                              have HB5 := hid' (below_two HB3.out (below_two (below_two (Below.refl w3.heap.size w3) ((Below.refl _ _).drew)) hb5))
                              clear x0 x1 y0 y1 hS sOf wOf hb5 H3 HA3
                              have HO2 : Hid (s = Pm.num 0 4 k ++ R ∧ gs = fs) := hid' (by
                                have ho := HO.out
                                rw [if_neg c1, if_neg c2] at ho
                                rw [if_pos (.inr HLT.out)] at ho
                                injection ho with h1 h2
                                exact ⟨h1.symm, h2.symm⟩)
                              obtain ⟨a, ha⟩ : ∃ a, Pm.num 0 4 k = a := ⟨_, rfl⟩
                              have hal : a.length ≤ 10 := by rw [← ha]; have := (Pm.num_length 0 4 k HKB.out).2; omega
                              rw [ha] at HO2
                              have HAE := hid' ha
                              clear ha
                              go_wp2_with fail
                              refine (rnumber_at 0 4 k a HAE.out (by decide) (by decide) (by decide) (by decide) HKB.out _).mono ?_
                              rintro e w4 ⟨rfl, hb4⟩
                              have hb4' := hid' hb4
                              clear hb4
                              go_wp2
                              go_ret
                              refine ⟨?_, v, by rw [HO2.out.2]; exact (H0.out.keep HB5.out).keep hb4'.out, fun k hk => .inl hk, Fr.of_below (below_two (below_two HB0.out HB5.out) hb4'.out)⟩
                              rw [HO2.out.1, ← HRE.out, ← Pm.str_cat]
                              rfl
                            · skip
                              have hd1 : decide ((M : Int) < (kw : Int)) = false := decide_eq_false (by omega)
                              have hd2 : decide (M < kw) = false := decide_eq_false hlt
                              have HLT := hid' hlt
                              clear hlt
                              go_wp2
                              have H3 := hid' (H0.out.keep HB3.out)
                              have HA3 := hid' (HA.out.keep HB3.out)
                              have y0 : w3.cell? ⟨d, 0, none⟩ = some (.pointer (some ⟨b, 0, none⟩)) := H3.out.obj.cell 0 _ rfl
                              have y1 : w3.cell? ⟨b, 0, none⟩ = some (.int .i64 (M : Int)) := H3.out.tab.obj.cell 0 _ rfl
                              have hS : Below w3.heap.size w3 w3 ∧ w3.cell? ⟨fb, 0, none⟩ = some (.string ⟨n.toArray⟩) ∧ w3.cell? ⟨fb, 1, none⟩ = some (.string ⟨val.toArray⟩) ∧ w3.cell? ⟨d, 0, none⟩ = some (.pointer (some ⟨b, 0, none⟩)) ∧ w3.cell? ⟨b, 0, none⟩ = some (.int .i64 (M : Int)) := ⟨Below.refl _ _, x0, x1, y0, y1⟩
                              have sOf : ∀ W W1 : World, (Below w3.heap.size w3 W ∧ W.cell? ⟨fb, 0, none⟩ = some (.string ⟨n.toArray⟩) ∧ W.cell? ⟨fb, 1, none⟩ = some (.string ⟨val.toArray⟩) ∧ W.cell? ⟨d, 0, none⟩ = some (.pointer (some ⟨b, 0, none⟩)) ∧ W.cell? ⟨b, 0, none⟩ = some (.int .i64 (M : Int))) → Below W.heap.size W W1 → Below w3.heap.size w3 W1 ∧ W1.cell? ⟨fb, 0, none⟩ = some (.string ⟨n.toArray⟩) ∧ W1.cell? ⟨fb, 1, none⟩ = some (.string ⟨val.toArray⟩) ∧ W1.cell? ⟨d, 0, none⟩ = some (.pointer (some ⟨b, 0, none⟩)) ∧ W1.cell? ⟨b, 0, none⟩ = some (.int .i64 (M : Int)) := fun W W1 ⟨h, h0, h1, h2, h3⟩ hb => ⟨below_two h hb, Below.kc hb h0, Below.kc hb h1, Below.kc hb h2, Below.kc hb h3⟩
                              have wOf : ∀ W, Calls Tryz.prog 45 #[.agg #[.string ⟨n.toArray⟩, .string ⟨val.toArray⟩]] W fun e w' => e = .returned (.int .i64 (kw : Int)) ∧ Below W.heap.size W w' := fun W => (weight_at n val kw HKW.out HKWB.out W).mono fun e w' ⟨he, hw⟩ => ⟨he, by rw [hw]; exact (Below.refl _ _).alloc (Nat.le_refl _) _⟩
                              go_region_held3 (fun W => Below w3.heap.size w3 W ∧ W.cell? ⟨fb, 0, none⟩ = some (.string ⟨n.toArray⟩) ∧ W.cell? ⟨fb, 1, none⟩ = some (.string ⟨val.toArray⟩) ∧ W.cell? ⟨d, 0, none⟩ = some (.pointer (some ⟨b, 0, none⟩)) ∧ W.cell? ⟨b, 0, none⟩ = some (.int .i64 (M : Int)))
                                (first | assumption | exact sOf _ _ (by assumption) (by assumption) | exact sOf _ _ (by assumption) ((Below.refl _ _).drew))
                                (first | (go_at_call 45; refine (wOf _).mono ?_; rintro e w5 ⟨rfl, hb5⟩))
                              have HB5 := hid' (below_two HB3.out (below_two (below_two (Below.refl w3.heap.size w3) ((Below.refl _ _).drew)) hb5))
                              clear x0 x1 y0 y1 hS sOf wOf hb5 H3 HA3
                              have HO2 : Hid (s = Pm.num 64 6 k ++ R ∧ gs = Tb.add M fs (n, val)) := hid' (by
                                have ho := HO.out
                                rw [if_neg c1, if_neg c2] at ho
                                rw [if_neg (by rintro (h | h); exact c3 h; exact HLT.out h)] at ho
                                injection ho with h1 h2
                                exact ⟨h1.symm, h2.symm⟩)
                              obtain ⟨a, ha⟩ : ∃ a, Pm.num 64 6 k = a := ⟨_, rfl⟩
                              have hal : a.length ≤ 10 := by rw [← ha]; have := (Pm.num_length 64 6 k HKB.out).2; omega
                              rw [ha] at HO2
                              have HAE := hid' ha
                              clear ha
                              go_wp2
                              have H5 := hid' (H0.out.keep HB5.out)
                              have HA5 := hid' (HA.out.keep HB5.out)
                              have x0 : w5.cell? ⟨fb, 0, none⟩ = some (.string ⟨n.toArray⟩) := HA5.out.cell 0 _ rfl
                              have x1 : w5.cell? ⟨fb, 1, none⟩ = some (.string ⟨val.toArray⟩) := HA5.out.cell 1 _ rfl
                              have y0 : w5.cell? ⟨d, 0, none⟩ = some (.pointer (some ⟨b, 0, none⟩)) := H5.out.obj.cell 0 _ rfl
                              have HSZ5 : Hid (w.heap.size ≤ w5.heap.size) := hid' (Nat.le_trans HB0.out.size HB5.out.size)
                              go_region_with (go_at_call 46; refine (radd_any B b v M fs n val _ H5.out.tab.drew HM.out HS2.out (Nat.le_trans HBB.out HSZ5.out) (by rw [HKW.out]; exact HKWB.out)).mono ?_; rintro e w6 ⟨rfl, v6, hC6, hv6, hg6⟩; have HX6 : Hid (RT w6 B b v6 (M : Int) (Tb.add M fs (n, val)) ∧ (∀ k, v6.ownBlock = some k → v.ownBlock = some k ∨ w5.heap.size ≤ k) ∧ w5.grownBy w6 (some b)) := hid' ⟨hC6, hv6, ⟨hg6.os, hg6.tape, hg6.output, hg6.size, hg6.block⟩⟩; clear hC6 hv6 hg6)
                              all_goals
                                clear x0 x1 y0
                                go_wp2_with fail
                                refine (rnumber_at 64 6 k a HAE.out (by decide) (by decide) (by decide) (by decide) HKB.out _).mono ?_
                                rintro e w7 ⟨rfl, hb7⟩
                                have hb7' := hid' hb7
                                clear hb7
                                go_wp2
                                go_ret
                                refine ⟨?_, v6, by rw [HO2.out.2]; exact (H5.out.put HX6.out.2.2 HX6.out.1).keep hb7'.out, fun k hk => (HX6.out.2.1 k hk).imp id (fun h => Nat.le_trans HSZ5.out h), ((Fr.of_below (below_two HB0.out HB5.out)).and (Fr.of_grown (S := (· = b)) HX6.out.2.2 rfl)).and (Fr.of_below hb7'.out)⟩
                                rw [HO2.out.1, ← HRE.out, ← Pm.str_cat]
                                rfl

end Go.Proofs.YtmkkhfkfjmfdcaaGreat
