/-
  Encoder.Limit; Write of no encoder; the laws' own field and same: by their contracts.
-/
import Derived.Test.YtmkkhfkfjmfdcaaGreatHpZ
namespace Go.Proofs.YtmkkhfkfjmfdcaaGreat
open Go.RowKit

set_option maxRecDepth 20000 in
theorem limE_yes (B d b : Nat) (v : Value) (least told M : Nat) (fs : List (List UInt8 × List UInt8)) (N : Nat) (hN : N ≤ 4294967295) (w : World) (h : CE w B d b v least told M fs) (hs : Tb.size fs ≤ 65536) (R L : Nat) (hR : min N 4096 = R) (hL : min least R = L) :
    Calls Tryz.prog 6 #[.pointer (some ⟨d, 0, none⟩), .int .i64 (N : Int)] w fun e w' => e = .returned (.int .i64 0) ∧ ∃ v', CE w' B d b v' L told R (Tb.shr R fs) ∧ (∀ k, v'.ownBlock = some k → v.ownBlock = some k) ∧ Fr (RSet d b v) w w' := by
  have hd : decide ((N : Int) < 0) = false := decide_eq_false (by omega)
  have hd2 : decide (4294967295 < (N : Int)) = false := decide_eq_false (by omega)
  have hd3 : decide (4294967295 < N) = false := decide_eq_false (by omega)
  have hm1 : min (N : Int) 4096 = (R : Int) := by omega
  have hm2 : min (least : Int) (R : Int) = (L : Int) := by omega
  have hR2 : R ≤ 65536 := by omega
  have c0 := h.obj.cell 0 _ rfl
  have H := hid' h
  have HS := hid' hs
  have HR := hid' hR2
  clear h hN hs hR hL hR2
  go_enter Tryz.func6, Tryz.ntmps6
  go_wp2_with fail
  refine (eresize_at B b v M fs R d _ c0 H.out.tab HR.out (by have := HS.out; omega)).mono ?_
  rintro e w1 ⟨rfl, v', hC, hv, hT⟩
  have hE := H.out.put hT hC
  have c1 := hE.obj.cell 1 _ rfl
  have f1 := hE.obj.free 1
  have HE := hid' hE
  have HV := hid' hv
  have HF := hid' (Fr.of_two (S := RSet d b v) hT (.inr (.inl rfl)) (fun k hk => .inr (.inr hk)))
  clear hE hC hv hT c0
  go_wp2
  go_ret
  exact ⟨rfl, v', HE.out.set L, HV.out, HF.out.and (Fr.of_set d 1 _ _ (.inl rfl))⟩

theorem writeN_any (v : Value) (w : World) :
    Calls Tryz.prog 9 #[.pointer none, v] w fun e w' => e = .returned (.string ⟨#[]⟩) ∧ w' = w := by
  go_enter Tryz.func9, Tryz.ntmps9
  go_wp2
  go_ret
  exact ⟨rfl, rfl⟩

theorem fld_any (s t : ByteArray) (w : World) : Calls Tryz.prog 19 #[.string s, .string t] w fun e w' => e = .returned (.agg #[.string s, .string t]) ∧ Below w.heap.size w w' := by
  go_enter Tryz.func19, Tryz.ntmps19
  go_wp2
  exact bodyPost_ret (v := .agg #[.string s, .string t]) (by simp [results, Tryz.results19, go_sem]) rfl ⟨rfl, (Below.refl _ _).alloc (Nat.le_refl _) _⟩

set_option maxRecDepth 20000 in
theorem nef (n2 v2 n v : List UInt8) (w : World) : (binOp .neq 54 (.agg #[.string ⟨n2.toArray⟩, .string ⟨v2.toArray⟩]) (.agg #[.string ⟨n.toArray⟩, .string ⟨v.toArray⟩])).run Tryz.prog w = .ok (.bool (!(n2 == n && v2 == v))) w := by
  rw [run_neq_struct, show (10000 : Nat) = 9999 + 1 by rfl, run_equalIn_agg w 9999 54 _ _ fieldsOf_field noStand]
  simp only [Program.fieldsOf, Tryz.underlying54]
  go_simp
  by_cases h1 : n2 = n <;> by_cases h2 : v2 = v <;> simp [h1, h2]
theorem nef_no (n v : List UInt8) (w : World) : (binOp .neq 54 (.agg #[.string ⟨n.toArray⟩, .string ⟨v.toArray⟩]) (.agg #[.string ⟨n.toArray⟩, .string ⟨v.toArray⟩])).run Tryz.prog w = .ok (.bool false) w := by
  rw [nef]; simp
theorem nef_yes (n2 v2 n v : List UInt8) (h : (n2, v2) ≠ (n, v)) (w : World) : (binOp .neq 54 (.agg #[.string ⟨n2.toArray⟩, .string ⟨v2.toArray⟩]) (.agg #[.string ⟨n.toArray⟩, .string ⟨v.toArray⟩])).run Tryz.prog w = .ok (.bool true) w := by
  rw [nef]
  have : (n2 == n && v2 == v) = false := by
    rw [Bool.eq_false_iff]; intro h2; simp at h2; exact h (by rw [h2.1, h2.2])
  rw [this]; rfl

set_option maxHeartbeats 1000000 in
set_option maxRecDepth 20000 in
theorem same_any (B1 B2 : Nat) (ao1 ao2 : Option Addr) (cap1 cap2 : Nat) (a b : List (List UInt8 × List UInt8)) (w : World) (h1 : Sl w B1 54 2 (.slice ao1 a.length cap1) a.length (Tb.cells a)) (h2 : Sl w B2 54 2 (.slice ao2 b.length cap2) b.length (Tb.cells b)) (hla : a.length ≤ 35184372088832) (r : Bool) (hr : decide (a = b) = r) :
    Calls Tryz.prog 28 #[.slice ao1 a.length cap1, .slice ao2 b.length cap2] w fun e w' => e = .returned (.bool r) ∧ ∃ m, w' = w.drewN m := by
  obtain ⟨n, hn⟩ : ∃ n, a.length = n := ⟨_, rfl⟩
  obtain ⟨n2, hn2⟩ : ∃ n2, b.length = n2 := ⟨_, rfl⟩
  by_cases hne : n = n2
  · subst hne
    rw [hn] at h1 hla ⊢
    rw [hn2] at h2 ⊢
    have H1 := hid' h1
    have H2 := hid' h2
    have HN := hid' hn
    have HN2 := hid' hn2
    have HR := hid' hr
    have hee : ((n : Int) == (n : Int)) = true := beq_self_eq_true _
    clear h1 h2 hn hn2 hr
    go_enter Tryz.func28, Tryz.ntmps28
    go_wp2
    go_loopw [5] (fun s5 wr => ∃ i q : Nat, s5 = .int .i64 (i : Int) ∧ i ≤ n ∧ wr = w.drewN q ∧ Hid (a.take i = b.take i)) (fun s5 _ => n - (intOf s5).toNat)
    case atStart => exact ⟨0, 0, rfl, Nat.zero_le _, rfl, hid' rfl⟩
    case round =>
      obtain ⟨i, q, rfl, hin, rfl, HT⟩ := hrel
      by_cases hlt : i < n
      · have hlt2 : decide ((i : Int) < (n : Int)) = true := decide_eq_true (by omega)
        have hlt3 : decide (i < n) = true := decide_eq_true hlt
        have hltI : (i : Int) < (n : Int) := by omega
        obtain ⟨g1, q1, c1, hao1, _, _, _, _⟩ := H1.out.form (by omega)
        obtain ⟨g2, q2, c2, hao2, _, _, _, _⟩ := H2.out.form (by omega)
        injection hao1 with e1 _ e2
        injection hao2 with e3 _ e4
        subst e1 e2 e3 e4
        have hi1 : i < a.length := by have := HN.out; omega
        have hi2 : i < b.length := by have := HN2.out; omega
        obtain ⟨x, hx⟩ : ∃ x, a[i]? = some x := ⟨_, List.getElem?_eq_getElem hi1⟩
        obtain ⟨y, hy⟩ : ∃ y, b[i]? = some y := ⟨_, List.getElem?_eq_getElem hi2⟩
        obtain ⟨xn, xv⟩ := x
        obtain ⟨yn, yv⟩ := y
        obtain ⟨ex0, ex1⟩ := Tb.cells_at _ _ _ hx
        obtain ⟨ey0, ey1⟩ := Tb.cells_at _ _ _ hy
        simp only at ex0 ex1 ey0 ey1
        have a0 : w.cell? ⟨g1, q1 + i * 2, none⟩ = some (.string ⟨xn.toArray⟩) := (H1.out.cellAt (i * 2) (by omega)).trans ex0
        have a1 : w.cell? ⟨g1, q1 + i * 2 + 1, none⟩ = some (.string ⟨xv.toArray⟩) := (H1.out.cellAt (i * 2 + 1) (by omega)).trans ex1
        have b0 : w.cell? ⟨g2, q2 + i * 2, none⟩ = some (.string ⟨yn.toArray⟩) := (H2.out.cellAt (i * 2) (by omega)).trans ey0
        have b1 : w.cell? ⟨g2, q2 + i * 2 + 1, none⟩ = some (.string ⟨yv.toArray⟩) := (H2.out.cellAt (i * 2 + 1) (by omega)).trans ey1
        have hng := noGuard
        have HX := hid' hx
        have HY := hid' hy
        have HLT := hid' hlt
        clear ex0 ex1 ey0 ey1 hx hy hlt hi1 hi2
        by_cases hw : (xn, xv) = (yn, yv)
        · injection hw with w1 w2
          subst w1 w2
          have heq := nef_no xn xv
          go_wp2
          go_quiet ((fail))
          go_wp2
          go_roundw
          case rel => exact ⟨i + 1, _, by simp, by have := HLT.out; omega, by first | rfl | simp, hid' (by rw [List.take_add_one, List.take_add_one, HX.out, HY.out, HT.out])⟩
          case measure => have := HLT.out; simp [intOf]; omega
        · have heq := nef_yes xn xv yn yv hw
          have HRF : Hid (r = false) := hid' (by
            rw [← HR.out]
            refine decide_eq_false (fun e => hw ?_)
            have h1 := HX.out
            have h2 := HY.out
            rw [e, h2] at h1
            exact (Option.some.inj h1).symm)
          clear hw
          go_wp2
          go_quiet ((fail))
          go_wp2
          go_ret
          first
            | exact ⟨by rw [HRF.out]; rfl, _, rfl⟩
            | exact ⟨by rw [HRF.out]; rfl, _, World.drewN_drewN _ _ _⟩
            | exact ⟨by rw [HRF.out]; rfl, _, World.drewN_drewN⟩
      · have hlt2 : decide ((i : Int) < (n : Int)) = false := decide_eq_false (by omega)
        have hlt3 : decide (i < n) = false := decide_eq_false hlt
        have HRT : Hid (r = true) := hid' (by
          rw [← HR.out]
          refine decide_eq_true ?_
          have h1 := HT.out
          rw [List.take_of_length_le (by have := HN.out; omega), List.take_of_length_le (by have := HN2.out; omega)] at h1
          exact h1)
        clear hlt
        go_wp2
        go_ret
        exact ⟨by rw [HRT.out]; rfl, _, rfl⟩
  · obtain rfl : r = false := by
      rw [← hr]
      exact decide_eq_false (fun e => hne (by rw [← hn, ← hn2, e]))
    rw [hn, hn2]
    have he1 : ((n : Int) == (n2 : Int)) = false := beq_false_of_ne (by omega)
    have he2 : (n == n2) = false := beq_false_of_ne hne
    clear hr hne h1 h2
    go_enter Tryz.func28, Tryz.ntmps28
    go_wp2
    go_ret
    exact ⟨rfl, 0, rfl⟩

end Go.Proofs.YtmkkhfkfjmfdcaaGreat
