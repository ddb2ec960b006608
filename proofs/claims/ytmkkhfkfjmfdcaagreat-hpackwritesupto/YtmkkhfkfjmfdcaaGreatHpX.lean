/-
  Package hpack: head, Encoder.updates, Encoder.kind, Encoder.Limit: by their contracts.
-/
import Derived.Test.YtmkkhfkfjmfdcaaGreatHpRW
namespace Go.Proofs.YtmkkhfkfjmfdcaaGreat
open Go.RowKit

theorem head_at (x : UInt8) (h bits n : Nat) (a : List UInt8) (hx : x.toNat = h) (hb : (Hp.kind x).2 = bits) (ha : Pm.num h bits n = a) (hm : h % 2 ^ bits = 0) (hn : n ≤ 2147483647) (w : World) :
    Calls Tryz.prog 37 #[.int .u8 (h : Int), .int .i64 (n : Int)] w fun e w' => e = .returned (.string ⟨a.toArray⟩) ∧ Below w.heap.size w w' := by
  have hh : h < 256 := by rw [← hx]; exact x.toNat_lt
  have h12 := (kind_hi x).2.2.2
  rw [hb] at h12
  have HX := hid' hx
  have HBI := hid' hb
  have HA := hid' ha
  have HM := hid' hm
  have HN := hid' hn
  have HH := hid' hh
  have H12 := hid' h12
  clear hx hb ha hm hn hh h12
  go_enter Tryz.func37, Tryz.ntmps37
  go_wp2_with fail
  refine (split_at x h HX.out _ bits rfl HBI.out _).mono ?_
  rintro e w1 ⟨rfl, rfl⟩
  go_wp2_with fail
  refine (int_at h bits n a HA.out HH.out H12.out.1 H12.out.2 HM.out HN.out _).mono ?_
  rintro e w2 ⟨rfl, hb2⟩
  have HB2 := hid' hb2
  clear hb2
  go_wp2
  go_ret
  exact ⟨rfl, HB2.out⟩

theorem CE.drewN {w : World} {B d b : Nat} {v : Value} {least told M : Nat} {fs : List (List UInt8 × List UInt8)} (h : CE w B d b v least told M fs) (n : Nat) : CE (w.drewN n) B d b v least told M fs := h.keep ⟨rfl, rfl, rfl, Nat.le_refl _, fun _ _ => rfl⟩

set_option maxHeartbeats 1000000 in
set_option maxRecDepth 20000 in
theorem updates_any (B d b : Nat) (v : Value) (least told M : Nat) (fs : List (List UInt8 × List UInt8)) (w : World) (h : CE w B d b v least told M fs) (hl : least ≤ 65536) (hM : M ≤ 65536) (s : List UInt8) (hs : Hp.head told least M = s) :
    Calls Tryz.prog 21 #[.pointer (some ⟨d, 0, none⟩)] w fun e w' => e = .returned (.string ⟨s.toArray⟩) ∧ CE w' B d b v M M M fs ∧ Fr (· = d) w w' := by
  have c0 := h.obj.cell 0 _ rfl
  have c1 := h.obj.cell 1 _ rfl
  have c2 := h.obj.cell 2 _ rfl
  have f1 := h.obj.free 1
  have f2 := h.obj.free 2
  have H := hid' h
  have HL := hid' hl
  have HM := hid' hM
  clear h hl hM
  have hend : ∀ m, Hid (CE (((w.drewN m).setCell ⟨d, 1, none⟩ (.int .i64 (M : Int))).setCell ⟨d, 2, none⟩ (.int .i64 (M : Int))) B d b v M M M fs ∧ Fr (· = d) w (((w.drewN m).setCell ⟨d, 1, none⟩ (.int .i64 (M : Int))).setCell ⟨d, 2, none⟩ (.int .i64 (M : Int)))) := fun m => hid' ⟨((H.out.drewN m).set M).set2 M, ((Fr.refl (· = d) w).drewN m).and ((Fr.of_set (S := (· = d)) d 1 _ _ rfl).and (Fr.of_set d 2 _ _ rfl))⟩
  unfold Hp.head at hs
  by_cases c : least < M
  · rw [if_pos c] at hs
    obtain ⟨a1, ha1⟩ : ∃ a, Pm.num 32 5 least = a := ⟨_, rfl⟩
    obtain ⟨a2, ha2⟩ : ∃ a, Pm.num 32 5 M = a := ⟨_, rfl⟩
    have hl1 : a1.length ≤ 10 := by rw [← ha1]; have := (Pm.num_length 32 5 least (by have := HL.out; omega)).2; omega
    have hl2 : a2.length ≤ 10 := by rw [← ha2]; have := (Pm.num_length 32 5 M (by have := HM.out; omega)).2; omega
    rw [ha1, ha2] at hs
    have HA1 := hid' ha1
    have HA2 := hid' ha2
    have HS := hid' hs
    have hd1 : decide ((least : Int) < (M : Int)) = true := decide_eq_true (by omega)
    have hd2 : decide (least < M) = true := decide_eq_true c
    clear hs c ha1 ha2
    go_enter Tryz.func21, Tryz.ntmps21
    go_wp2
    go_quiet ((go_at_call 36; exact Calls.quiet_of_same (eroom_at B b v M fs d _ c0 (CT.drewN H.out.tab _))))
    go_wp2_with fail
    refine (head_at 32 32 5 least a1 rfl rfl HA1.out (by decide) (by have := HL.out; omega) _).mono ?_
    rintro e w1 ⟨rfl, hb1⟩
    have hb1' := hid' hb1
    clear hb1
    go_wp2_with fail
    refine (head_at 32 32 5 M a2 rfl rfl HA2.out (by decide) (by have := HM.out; omega) _).mono ?_
    rintro e w2 ⟨rfl, hb2⟩
    have hb2' := hid' (below_two hb1'.out hb2)
    clear hb2 hb1'
    go_wp2
    go_ret
    refine ⟨?_, (hend _).out.1.keep hb2'.out, (hend _).out.2.and (Fr.of_below hb2'.out)⟩
    rw [← HS.out, ← Pm.str_cat]
    rfl
  · rw [if_neg c] at hs
    have hd1 : decide ((least : Int) < (M : Int)) = false := decide_eq_false (by omega)
    have hd2 : decide (least < M) = false := decide_eq_false c
    by_cases c' : M ≠ told
    · rw [if_pos c'] at hs
      have HS := hid' hs
      have he1 : ((M : Int) == (told : Int)) = false := beq_false_of_ne (by omega)
      have he2 : (M == told) = false := beq_false_of_ne (by omega)
      clear hs c c'
      go_enter Tryz.func21, Tryz.ntmps21
      go_wp2
      go_quiet ((go_at_call 36; exact Calls.quiet_of_same (eroom_at B b v M fs d _ c0 (CT.drewN H.out.tab _))))
      go_wp2_with fail
      refine (head_at 32 32 5 M s rfl rfl HS.out (by decide) (by have := HM.out; omega) _).mono ?_
      rintro e w1 ⟨rfl, hb1⟩
      have hb1' := hid' hb1
      clear hb1
      go_wp2
      go_ret
      exact ⟨rfl, (hend _).out.1.keep hb1'.out, (hend _).out.2.and (Fr.of_below hb1'.out)⟩
    · rw [if_neg c'] at hs
      have he : M = told := by omega
      subst he hs
      have he1 : ((M : Int) == (M : Int)) = true := beq_self_eq_true _
      clear c c'
      go_enter Tryz.func21, Tryz.ntmps21
      go_wp2
      go_quiet ((go_at_call 36; exact Calls.quiet_of_same (eroom_at B b v M fs d _ c0 (CT.drewN H.out.tab _))))
      go_wp2
      go_ret
      exact ⟨rfl, (hend _).out.1, (hend _).out.2⟩

/-- What a field is written as. -/
def kindOf (M : Nat) (n val : List UInt8) (whole : Bool) : Nat := if Hp.never n = true then 16 else if whole = true then 128 else if Hp.nots n = true ∨ M < Tb.wt (n, val) then 0 else 64

set_option maxHeartbeats 1000000 in
set_option maxRecDepth 20000 in
theorem kind_at (B d b : Nat) (v : Value) (least told M : Nat) (fs : List (List UInt8 × List UInt8)) (n val : List UInt8) (whole : Bool) (K : Nat) (hK : kindOf M n val whole = K) (hn : n.length ≤ 140737488355328) (hv : val.length ≤ 140737488355328) (w : World) (h : CE w B d b v least told M fs) :
    Calls Tryz.prog 39 #[.pointer (some ⟨d, 0, none⟩), .agg #[.string ⟨n.toArray⟩, .string ⟨val.toArray⟩], .bool whole] w fun e w' => e = .returned (.int .u8 (K : Int)) ∧ Below w.heap.size w w' := by
  have hb0 : Below w.heap.size w (w.alloc (.cells #[.string ⟨n.toArray⟩, .string ⟨val.toArray⟩] 54)) := (Below.refl _ _).alloc (Nat.le_refl _) _
  have hA : Ar (w.alloc (.cells #[.string ⟨n.toArray⟩, .string ⟨val.toArray⟩] 54)) w.heap.size 54 #[.string ⟨n.toArray⟩, .string ⟨val.toArray⟩] := heap_alloc_last w _
  have H0 := hid' (h.keep hb0)
  have HA := hid' hA
  have HB0 := hid' hb0
  clear h hA hb0
  unfold kindOf at hK
  cases hnv : Hp.never n with
  | true =>
    rw [if_pos hnv] at hK
    subst hK
    have HNV := hid' hnv
    clear hnv hn hv
    go_enter Tryz.func39, Tryz.ntmps39
    go_wp2_with fail
    refine (isSecret_any n true HNV.out _).mono ?_
    rintro e w1 ⟨rfl, hw⟩
    subst w1
    go_wp2
    go_ret
    exact ⟨rfl, HB0.out⟩
  | false =>
    rw [if_neg (by rw [hnv]; decide)] at hK
    have HNV := hid' hnv
    clear hnv
    cases whole with
    | true =>
      rw [if_pos rfl] at hK
      subst hK
      clear hn hv
      go_enter Tryz.func39, Tryz.ntmps39
      go_wp2_with fail
      refine (isSecret_any n false HNV.out _).mono ?_
      rintro e w1 ⟨rfl, hw⟩
      subst w1
      go_wp2
      go_ret
      exact ⟨rfl, HB0.out⟩
    | false =>
      rw [if_neg (by decide)] at hK
      obtain ⟨k, hk⟩ : ∃ k, Tb.wt (n, val) = k := ⟨_, rfl⟩
      have hkb : k ≤ 1152921504606846976 := by rw [← hk]; unfold Tb.wt; simp only; omega
      rw [hk] at hK
      have HK := hid' hk
      have HKB := hid' hkb
      clear hn hv hk hkb
      cases hnt : Hp.nots n with
      | true =>
        rw [if_pos (.inl hnt)] at hK
        subst hK
        have HNT := hid' hnt
        clear hnt
        go_enter Tryz.func39, Tryz.ntmps39
        go_wp2_with fail
        refine (isSecret_any n false HNV.out _).mono ?_
        rintro e w1 ⟨rfl, hw⟩
        subst w1
        go_wp2
        have x0 := HA.out.cell 0 _ rfl
        go_quiet ((go_at_call 59; exact Calls.quiet_of_same (isPassing_any n true HNT.out _)))
        go_wp2
        go_ret
        exact ⟨rfl, below_two HB0.out (below_drewN _ _)⟩
      | false =>
        have HNT := hid' hnt
        have HKK : Hid (K = if M < k then 0 else 64) := hid' (by rw [← hK, hnt]; simp)
        clear hnt hK
        go_enter Tryz.func39, Tryz.ntmps39
        go_wp2_with fail
        refine (isSecret_any n false HNV.out _).mono ?_
        rintro e w1 ⟨rfl, hw⟩
        subst w1
        go_wp2
        obtain ⟨fb, hfb⟩ : ∃ fb, w.heap.size = fb := ⟨_, rfl⟩
        have HFB := hid' hfb
        rw [hfb] at HA ⊢
        clear hfb
        generalize (w.alloc (.cells #[.string ⟨n.toArray⟩, .string ⟨val.toArray⟩] 54)) = w0 at *
        have x0 : w0.cell? ⟨fb, 0, none⟩ = some (.string ⟨n.toArray⟩) := HA.out.cell 0 _ rfl
        have x1 : w0.cell? ⟨fb, 1, none⟩ = some (.string ⟨val.toArray⟩) := HA.out.cell 1 _ rfl
        have hS : Below w0.heap.size w0 w0 ∧ w0.cell? ⟨fb, 0, none⟩ = some (.string ⟨n.toArray⟩) ∧ w0.cell? ⟨fb, 1, none⟩ = some (.string ⟨val.toArray⟩) := ⟨Below.refl _ _, x0, x1⟩
        have sOf : ∀ W W1 : World, (Below w0.heap.size w0 W ∧ W.cell? ⟨fb, 0, none⟩ = some (.string ⟨n.toArray⟩) ∧ W.cell? ⟨fb, 1, none⟩ = some (.string ⟨val.toArray⟩)) → Below W.heap.size W W1 → Below w0.heap.size w0 W1 ∧ W1.cell? ⟨fb, 0, none⟩ = some (.string ⟨n.toArray⟩) ∧ W1.cell? ⟨fb, 1, none⟩ = some (.string ⟨val.toArray⟩) := fun W W1 ⟨h, h0, h1⟩ hb => ⟨below_two h hb, Below.kc hb h0, Below.kc hb h1⟩
        have tOf : ∀ W : World, (Below w0.heap.size w0 W ∧ W.cell? ⟨fb, 0, none⟩ = some (.string ⟨n.toArray⟩) ∧ W.cell? ⟨fb, 1, none⟩ = some (.string ⟨val.toArray⟩)) → CE W B d b v least told M fs := fun W h => H0.out.keep h.1
        by_cases hlt : M < k
        · have hd1 : decide ((M : Int) < (k : Int)) = true := decide_eq_true (by omega)
          have hd2 : decide (M < k) = true := decide_eq_true hlt
          have HKE : Hid (K = 0) := hid' (by rw [HKK.out, if_pos hlt])
          clear hlt HKK
          go_region_held3 (fun W => Below w0.heap.size w0 W ∧ W.cell? ⟨fb, 0, none⟩ = some (.string ⟨n.toArray⟩) ∧ W.cell? ⟨fb, 1, none⟩ = some (.string ⟨val.toArray⟩))
            (first | assumption | exact sOf _ _ (by assumption) (by assumption) | exact sOf _ _ (by assumption) ((Below.refl _ _).drew))
            (first
            | (go_at_call 59; refine (isPassing_any n false HNT.out _).mono ?_; rintro e w15 ⟨rfl, hw⟩; subst w15)
            | (go_at_call 36; refine (eroom_at B b v M fs d _ ((tOf _ (by assumption)).obj.cell 0 _ rfl) (tOf _ (by assumption)).tab).mono ?_; rintro e w15 ⟨rfl, hw⟩; subst w15)
            | (go_at_call 60; refine (cweight_at n val k HK.out HKB.out _).mono ?_; rintro e w16 ⟨rfl, hb16⟩))
          have HE : Hid (Below w.heap.size w w16) := hid' (below_two (below_two HB0.out ((Below.refl _ _).drew)) hb16)
          clear x0 x1 hS sOf tOf hb16
          go_wp2
          go_ret
          exact ⟨by rw [HKE.out]; rfl, HE.out⟩
        · have hd1 : decide ((M : Int) < (k : Int)) = false := decide_eq_false (by omega)
          have hd2 : decide (M < k) = false := decide_eq_false hlt
          have HKE : Hid (K = 64) := hid' (by rw [HKK.out, if_neg hlt])
          clear hlt HKK
          go_region_held3 (fun W => Below w0.heap.size w0 W ∧ W.cell? ⟨fb, 0, none⟩ = some (.string ⟨n.toArray⟩) ∧ W.cell? ⟨fb, 1, none⟩ = some (.string ⟨val.toArray⟩))
            (first | assumption | exact sOf _ _ (by assumption) (by assumption) | exact sOf _ _ (by assumption) ((Below.refl _ _).drew))
            (first
            | (go_at_call 59; refine (isPassing_any n false HNT.out _).mono ?_; rintro e w15 ⟨rfl, hw⟩; subst w15)
            | (go_at_call 36; refine (eroom_at B b v M fs d _ ((tOf _ (by assumption)).obj.cell 0 _ rfl) (tOf _ (by assumption)).tab).mono ?_; rintro e w15 ⟨rfl, hw⟩; subst w15)
            | (go_at_call 60; refine (cweight_at n val k HK.out HKB.out _).mono ?_; rintro e w16 ⟨rfl, hb16⟩))
          have HE : Hid (Below w.heap.size w w16) := hid' (below_two (below_two HB0.out ((Below.refl _ _).drew)) hb16)
          clear x0 x1 hS sOf tOf hb16
          go_wp2
          go_ret
          exact ⟨by rw [HKE.out]; rfl, HE.out⟩

end Go.Proofs.YtmkkhfkfjmfdcaaGreat
