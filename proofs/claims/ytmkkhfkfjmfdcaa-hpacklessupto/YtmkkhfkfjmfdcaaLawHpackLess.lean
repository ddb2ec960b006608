/-
  The law HpackLess: a block that is written again is never longer, as long as nothing of it is taken out of the table.
-/
import Derived.Test.YtmkkhfkfjmfdcaaHpLe
namespace Go.Proofs.Ytmkkhfkfjmfdcaa
open Go.RowKit

theorem size_bound (l : List (List UInt8 × List UInt8)) (h : ∀ f ∈ l, f.1.length ≤ 1048576 ∧ f.2.length ≤ 1048576) : Tb.size l ≤ l.length * 2097184 := by
  induction l with
  | nil => simp [Tb.size]
  | cons f r ih =>
    have h1 := h f (by simp)
    have h2 := ih (fun g hg => h g (by simp [hg]))
    rw [Tb.size_cons, List.length_cons, Nat.succ_mul]
    unfold Tb.wt
    omega

theorem fr_below' {S : Nat → Prop} {w w' : World} (h : Fr S w w') {W : World} (hW : Below W.heap.size W w) (hs : ∀ k, S k → W.heap.size ≤ k) : Below W.heap.size W w' := hW.trans (h.below hs hW.size)

set_option maxHeartbeats 2000000 in
set_option maxRecDepth 20000 in
theorem hpackLess_true (v : Value) (l : List (List UInt8 × List UInt8)) (w : World) (hf : FS w v l) (hlen : l.length ≤ 1048576) (hb : ∀ f ∈ l, f.1.length ≤ 1048576 ∧ f.2.length ≤ 1048576) :
    Calls Try.prog 5 #[v] w fun e w' => e = .returned (.bool true) ∧ Below w.heap.size w w' := by
  obtain ⟨ao, cap, rfl⟩ := hf.shape
  obtain ⟨S, hS⟩ : ∃ S, Tb.size l = S := ⟨_, rfl⟩
  have hSb : S ≤ 35184372088832 := by rw [← hS]; have := size_bound l hb; omega
  have HF := hid' hf
  have HS := hid' hS
  have HSB := hid' hSb
  have HLEN := hid' hlen
  have HB : Hid (∀ f ∈ l, f.1.length ≤ 134217728 ∧ f.2.length ≤ 134217728) := hid' fun f hf => by have := hb f hf; omega
  clear hf hlen hb hSb
  by_cases hlt : 2000 < S
  · have hd1 : decide (2000 < (S : Int)) = true := decide_eq_true (by omega)
    have hd2 : decide (2000 < S) = true := decide_eq_true hlt
    clear hlt hS
    go_enter Try.func5, Try.ntmps5
    go_wp2_with fail
    refine (wsumF_any ao cap l w HF.out S HS.out HSB.out).mono ?_
    rintro e w1 ⟨rfl, hb1⟩
    have HB1 := hid' hb1
    clear hb1
    go_wp2_with fail
    refine (awake6 _).mono ?_
    rintro e w2 ⟨rfl, hb2⟩
    have HB2 := hid' (below_two HB1.out hb2)
    clear hb2
    go_wp2
    go_ret
    exact ⟨rfl, HB2.out⟩
  · have hd1 : decide (2000 < (S : Int)) = false := decide_eq_false (by omega)
    have hd2 : decide (2000 < S) = false := decide_eq_false hlt
    obtain ⟨hl1, hl2, _⟩ := Hp.less Pm.str l (by rw [hS]; omega)
    obtain ⟨A1, F1, e1⟩ : ∃ A1 F1, Hp.many Pm.str 4096 [] l = (A1, F1) := ⟨_, _, rfl⟩
    obtain ⟨A2, F2, e2⟩ : ∃ A2 F2, Hp.many Pm.str 4096 F1 l = (A2, F2) := ⟨_, _, rfl⟩
    obtain ⟨A3, F3, e3⟩ : ∃ A3 F3, Hp.many Pm.str 4096 F2 l = (A3, F3) := ⟨_, _, rfl⟩
    simp only [e1, e2, e3] at hl1 hl2
    rw [hl2] at e3
    have hs1 : Tb.size F1 ≤ 4096 := by have := Hp.many_size Pm.str 4096 l [] (by decide); rw [e1] at this; exact this
    have hs2 : Tb.size F2 ≤ 4096 := by have := Hp.many_size Pm.str 4096 l F1 hs1; rw [e2] at this; exact this
    have hA1 : A1.length ≤ 35184372088832 := by have := Hp.many_len2 4096 (by decide) l [] (by decide) HB.out; rw [e1] at this; simp only at this; have := HSB.out; have := HS.out; omega
    have hA2 : A2.length ≤ 35184372088832 := by have := Hp.many_len2 4096 (by decide) l F1 hs1 HB.out; rw [e2] at this; simp only at this; have := HSB.out; have := HS.out; omega
    obtain ⟨n, hn⟩ : ∃ n, l.length = n := ⟨_, rfl⟩
    have hnb : n ≤ 1048576 := by rw [← hn]; exact HLEN.out
    have hcmp : decide ((A2.length : Int) ≤ (A1.length : Int) + (n : Int)) = true := decide_eq_true (by omega)
    have hcmp2 : decide (A2.length ≤ A1.length + n) = true := decide_eq_true (by omega)
    have hz1 : (⟨A1.toArray⟩ : ByteArray).size = A1.length := size_l A1
    have hz2 : (⟨A2.toArray⟩ : ByteArray).size = A2.length := size_l A2
    have HE1 := hid' e1
    have HE2 := hid' e2
    have HE3 := hid' e3
    have HS1 := hid' hs1
    have HS2 := hid' hs2
    have HN := hid' hn
    have HH : Hid (Hp.head 4096 4096 4096 = []) := hid' (by decide)
    have hsame : (A2 == A2) = true := beq_self_eq_true _
    clear hlt hS e1 e2 e3 hs1 hs2 hl1 hl2 hn
    go_enter Try.func5, Try.ntmps5
    rw [HN.out]
    go_wp2_with fail
    rw [← HN.out]
    refine (wsumF_any ao cap l w HF.out S HS.out HSB.out).mono ?_
    rw [HN.out]
    rintro e w1 ⟨rfl, hb1⟩
    have HB1 := hid' hb1
    clear hb1
    go_wp2_with fail
    refine (newEnc_any w1.heap.size w1 (Nat.le_refl _)).mono ?_
    rintro e w2 ⟨d, rfl, b, hE, hb2⟩
    have HC0 := hid' hE
    have HB2 := hid' (below_two HB1.out hb2)
    have HW1 : Hid (w.heap.size ≤ w1.heap.size) := hid' HB1.out.size
    have HW2 : Hid (w1.heap.size ≤ w2.heap.size) := hid' hb2.size
    clear hE hb2
    go_wp2_with fail
    rw [← HN.out]
    refine (lent_any ao cap l _ (HF.out.below HB2.out (Nat.le_refl _)) (by have := HLEN.out; omega)).mono ?_
    rintro e w3 ⟨g1, cp1, rfl, hsl, hbl⟩
    rw [HN.out]
    have HC1 := hid' (HC0.out.keep hbl)
    have HL1 := hid' hsl
    have HX1 := hid' (below_two HB2.out hbl)
    have HM1 : Hid (w1.heap.size ≤ w3.heap.size) := hid' (Nat.le_trans HW2.out  hbl.size)
    have HV1 : Hid (∀ q, (Value.slice (some ⟨g1, 0, none⟩) l.length cp1).ownBlock = some q → (Value.slice none 0 0).ownBlock ≠ some q) := hid' fun q hq e => by
      have h1 := (hsl.lt q hq).1
      have h2 := (HC0.out.tab.ring.row.lt q e).2
      omega
    clear hsl hbl
    go_wp2_with fail
    rw [← HN.out]
    refine (write_any w1.heap.size d b (Value.slice none 0 0) 4096 4096 4096 [] w3 HC1.out (by decide) (by decide) (by decide) HM1.out w2.heap.size (some ⟨g1, 0, none⟩) cp1 l HL1.out HV1.out HB.out (by rw [HS.out]; exact HSB.out) A1 F1 (by rw [HH.out, HE1.out]; rfl) (by rw [HE1.out])).mono ?_
    rw [HN.out]
    rintro e w4 ⟨rfl, u1, hE, hv, hF⟩
    have HD1 := hid' hE
    have HZ1 := hid' hF.size
    have HY1 := hid' (fr_below' hF HX1.out (fun q hq => by
      have h3 := HW1.out
      rcases hq with e | e | e
      · rw [e]; have := HC1.out.ge; omega
      · rw [e]; have := HC1.out.tab.ring.ge; omega
      · have := (HC1.out.tab.ring.row.lt q e).1; omega))
    clear hE hv hF
    go_wp2_with fail
    rw [← HN.out]
    refine (lent_any ao cap l _ (HF.out.below HY1.out (Nat.le_refl _)) (by have := HLEN.out; omega)).mono ?_
    rintro e w5 ⟨g2, cp2, rfl, hsl, hbl⟩
    rw [HN.out]
    have HC2 := hid' (HD1.out.keep hbl)
    have HL2 := hid' hsl
    have HX2 := hid' (below_two HY1.out hbl)
    have HM2 : Hid (w1.heap.size ≤ w5.heap.size) := hid' (Nat.le_trans (Nat.le_trans HM1.out HZ1.out) hbl.size)
    have HV2 : Hid (∀ q, (Value.slice (some ⟨g2, 0, none⟩) l.length cp2).ownBlock = some q → u1.ownBlock ≠ some q) := hid' fun q hq e => by
      have h1 := (hsl.lt q hq).1
      have h2 := (HD1.out.tab.ring.row.lt q e).2
      omega
    clear hsl hbl
    go_wp2_with fail
    rw [← HN.out]
    refine (write_any w1.heap.size d b u1 4096 4096 4096 F1 w5 HC2.out (by decide) (by decide) HS1.out HM2.out w4.heap.size (some ⟨g2, 0, none⟩) cp2 l HL2.out HV2.out HB.out (by rw [HS.out]; exact HSB.out) A2 F2 (by rw [HH.out, HE2.out]; rfl) (by rw [HE2.out])).mono ?_
    rw [HN.out]
    rintro e w6 ⟨rfl, u2, hE, hv, hF⟩
    have HD2 := hid' hE
    have HZ2 := hid' hF.size
    have HY2 := hid' (fr_below' hF HX2.out (fun q hq => by
      have h3 := HW1.out
      rcases hq with e | e | e
      · rw [e]; have := HC2.out.ge; omega
      · rw [e]; have := HC2.out.tab.ring.ge; omega
      · have := (HC2.out.tab.ring.row.lt q e).1; omega))
    clear hE hv hF
    go_wp2_with fail
    rw [← HN.out]
    refine (lent_any ao cap l _ (HF.out.below HY2.out (Nat.le_refl _)) (by have := HLEN.out; omega)).mono ?_
    rintro e w7 ⟨g3, cp3, rfl, hsl, hbl⟩
    rw [HN.out]
    have HC3 := hid' (HD2.out.keep hbl)
    have HL3 := hid' hsl
    have HX3 := hid' (below_two HY2.out hbl)
    have HM3 : Hid (w1.heap.size ≤ w7.heap.size) := hid' (Nat.le_trans (Nat.le_trans HM2.out HZ2.out) hbl.size)
    have HV3 : Hid (∀ q, (Value.slice (some ⟨g3, 0, none⟩) l.length cp3).ownBlock = some q → u2.ownBlock ≠ some q) := hid' fun q hq e => by
      have h1 := (hsl.lt q hq).1
      have h2 := (HD2.out.tab.ring.row.lt q e).2
      omega
    clear hsl hbl
    go_wp2_with fail
    rw [← HN.out]
    refine (write_any w1.heap.size d b u2 4096 4096 4096 F2 w7 HC3.out (by decide) (by decide) HS2.out HM3.out w6.heap.size (some ⟨g3, 0, none⟩) cp3 l HL3.out HV3.out HB.out (by rw [HS.out]; exact HSB.out) A2 F3 (by rw [HH.out, HE3.out]; rfl) (by rw [HE3.out])).mono ?_
    rw [HN.out]
    rintro e w8 ⟨rfl, u3, hE, hv, hF⟩
    have HD3 := hid' hE
    have HY3 := hid' (fr_below' hF HX3.out (fun q hq => by
      have h3 := HW1.out
      rcases hq with e | e | e
      · rw [e]; have := HC3.out.ge; omega
      · rw [e]; have := HC3.out.tab.ring.ge; omega
      · have := (HC3.out.tab.ring.row.lt q e).1; omega))
    clear hE hv hF
    go_wp2_with fail
    refine (awake6 _).mono ?_
    rintro e w9 ⟨rfl, hb9⟩
    have HB9 := hid' (below_two HY3.out hb9)
    clear hb9
    go_wp2
    go_ret
    exact ⟨rfl, HB9.out⟩

end Go.Proofs.Ytmkkhfkfjmfdcaa
