/-
  The code's table: Add, Resize: by their contracts.
-/
import Derived.Test.YtmkkhfkfjmfdcaaGreatTabKx
import Derived.Test.YtmkkhfkfjmfdcaaGreatShelf
namespace Go.Proofs.YtmkkhfkfjmfdcaaGreat
open Go.RowKit

theorem shr_zero (fs : List (List UInt8 × List UInt8)) : Tb.shr 0 fs = [] := by
  cases fs with
  | nil => rfl
  | cons f r => have := Tb.wt_pos f; unfold Tb.shr; rw [if_neg (by omega)]

theorem clone_l (s : List UInt8) (hs : s.length ≤ 281474976710656) (w : World) : Calls Tryz.prog 78 #[.string ⟨s.toArray⟩] w fun e w' => e = .returned (.string ⟨s.toArray⟩) ∧ Below w.heap.size w w' := by
  go_enter Tryz.func78, Tryz.ntmps78
  go_wp2_with fail
  refine (Tryz.stringslite_Clone ⟨s.toArray⟩ _ (by simpa [ByteArray.size] using hs)).mono ?_
  rintro e w1 ⟨rfl, hb1⟩
  go_wp2
  go_ret
  exact ⟨rfl, hb1⟩

set_option maxHeartbeats 2000000 in
set_option maxRecDepth 20000 in
theorem cadd_any (B b : Nat) (v : Value) (M : Nat) (fs : List (List UInt8 × List UInt8)) (n val : List UInt8) (w : World) (h : CT w B b v M fs) (hM : M ≤ 65536) (hs : Tb.size fs ≤ 1048576) (hB : B ≤ w.heap.size) (hn : n.length ≤ 140737488355328) (hv : val.length ≤ 140737488355328) :
    Calls Tryz.prog 61 #[.pointer (some ⟨b, 0, none⟩), .agg #[.string ⟨n.toArray⟩, .string ⟨val.toArray⟩]] w fun e w' => e = .returned (.tuple #[]) ∧ ∃ v', CT w' B b v' M (Tb.add M fs (n, val)) ∧ (∀ k, v'.ownBlock = some k → v.ownBlock = some k ∨ w.heap.size ≤ k) ∧ Two b v.ownBlock w w' := by
  obtain ⟨k, hk⟩ : ∃ k, Tb.wt (n, val) = k := ⟨_, rfl⟩
  have hkb : k ≤ 562949953421312 := by rw [← hk]; unfold Tb.wt; simp only; omega
  have HK := hid' hk
  have hbw : b < w.heap.size := h.ring.obj.lt
  have HADD : Hid (Tb.add M fs (n, val) = if M < k then [] else (n, val) :: Tb.shr (M - k) fs) := hid' (by unfold Tb.add; rw [hk])
  clear hk
  have hb0 : Below w.heap.size w (w.alloc (.cells #[.string ⟨n.toArray⟩, .string ⟨val.toArray⟩] 54)) := (Below.refl _ _).alloc (Nat.le_refl _) _
  have hA : Ar (w.alloc (.cells #[.string ⟨n.toArray⟩, .string ⟨val.toArray⟩] 54)) w.heap.size 54 #[.string ⟨n.toArray⟩, .string ⟨val.toArray⟩] := heap_alloc_last w _
  have hR0 := h.keep hb0
  have HR := hid' h
  have x0 := hA.cell 0 _ rfl
  have x1 := hA.cell 1 _ rfl
  clear h
  go_enter Tryz.func61, Tryz.ntmps61
  go_wp2_with fail
  refine (cweight_at n val k HK.out (by omega) _).mono ?_
  rintro e w1 ⟨rfl, hb1⟩
  have hR1 := hR0.keep hb1
  have hA1 := hA.keep hb1
  have hbb := below_two hb0 hb1
  obtain ⟨bx, hbx⟩ : ∃ bx, w.heap.size = bx := ⟨_, rfl⟩
  have HB1 := hid' hbb
  rw [hbx] at hA1 ⊢
  have hbxb : bx ≠ b := by omega
  have hbxv : v.ownBlock ≠ some bx := fun e => by have := (HR.out.ring.row.lt bx e).2; omega
  have HR1 := hid' hR1
  have HA1 := hid' hA1
  have hsz1 : w.heap.size ≤ w1.heap.size := hbb.size
  have c2 := hR1.c2
  clear x0 x1 hA hR0 hb0 hb1 hR1 hA1 hbb
  by_cases hlt : M < k
  · have hd : decide (M < k) = true := decide_eq_true hlt
    have hd2 : decide ((M : Int) < (k : Int)) = true := decide_eq_true (by omega)
    go_wp2_with fail
    refine (cshrink_any B b v M fs 0 _ HR1.out hs).mono ?_
    rintro e w2 ⟨rfl, v2, hC2, hv2, hT2⟩
    have HC2 := hid' hC2
    have HV2 := hid' hv2
    have HT2 := hid' hT2
    clear hC2 hv2 hT2
    go_wp2
    refine bodyPost_ret (results_none rfl _ _ _) rfl ?_
    refine ⟨rfl, v2, ?_, fun k hk => .inl (HV2.out k hk), Two.and (Two.of_below HB1.out) HT2.out⟩
    rw [HADD.out, if_pos hlt, ← shr_zero fs]
    exact HC2.out
  · have hd : decide (M < k) = false := decide_eq_false hlt
    have hd2 : decide ((M : Int) < (k : Int)) = false := decide_eq_false (by omega)
    obtain ⟨m, hm⟩ : ∃ m : Nat, (M : Int) - (k : Int) = (m : Int) := ⟨M - k, by omega⟩
    have HMK : Hid (M - k = m) := hid' (by omega)
    go_wp2_with fail
    refine (cshrink_any B b v M fs m _ HR1.out hs).mono ?_
    rintro e w2 ⟨rfl, v2, hC2, hv2, hT2⟩
    have HC2 := hid' hC2
    have HV2 := hid' hv2
    have HT2 := hid' (Two.and (Two.of_below HB1.out) hT2)
    have hA2 := hT2.ar HA1.out hbxb hbxv
    have x0 := hA2.cell 0 _ rfl
    have x1 := hA2.cell 1 _ rfl
    have hvx : v2.ownBlock ≠ some bx := fun e => hbxv (hv2 _ e)
    have hB2 : B ≤ w2.heap.size := Nat.le_trans hB HT2.out.size
    have hln : (Tb.shr m fs).length < 140737488355328 / 32 := by
      obtain ⟨q, hq, e⟩ := Tb.shr_prefix fs m
      have := Tb.size_len fs
      rw [e, List.length_take]; omega
    have hszm : Tb.size (Tb.shr m fs) + k ≤ 65536 := by have := Tb.shr_size fs m; omega
    have HADD2 : Hid (Tb.add M fs (n, val) = (n, val) :: Tb.shr m fs) := hid' (by rw [HADD.out, if_neg hlt, HMK.out])
    clear hC2 hv2 hT2 hA2 hm HADD HMK hd hd2 c2
    generalize Tb.shr m fs = gs at *
    go_wp2
    have hS0 : Below w2.heap.size w2 w2.drew := (Below.refl _ _).drew
    have bt : ∀ W W1, Below w2.heap.size w2 W → Below W.heap.size W W1 → Below w2.heap.size w2 W1 := fun W W1 h1 h2 => below_two h1 h2
    have rk : ∀ W, Below w2.heap.size w2 W → RG W B b 99 54 2 v2 [.int .i64 (Tb.size gs : Int), .int .i64 (M : Int)] gs.length (Tb.cells gs.reverse) := fun W h => HC2.out.ring.keep h
    have sk : ∀ W, Below w2.heap.size w2 W → B ≤ W.heap.size := fun W h => Nat.le_trans hB2 h.size
    have cOf : ∀ W W1 : World, (W.cell? ⟨bx, 0, none⟩ = some (.string ⟨n.toArray⟩) ∧ W.cell? ⟨bx, 1, none⟩ = some (.string ⟨val.toArray⟩)) → Below W.heap.size W W1 → W1.cell? ⟨bx, 0, none⟩ = some (.string ⟨n.toArray⟩) ∧ W1.cell? ⟨bx, 1, none⟩ = some (.string ⟨val.toArray⟩) := fun W W1 ⟨b', c⟩ hb => ⟨(hb.cell (World.block_lt_of_cell? W _ b')).trans b', (hb.cell (World.block_lt_of_cell? W _ c)).trans c⟩
    have tOf : ∀ W W1 : World, (W.cell? ⟨bx, 0, none⟩ = some (.string ⟨n.toArray⟩) ∧ W.cell? ⟨bx, 1, none⟩ = some (.string ⟨val.toArray⟩)) → Two b v2.ownBlock W W1 → W1.cell? ⟨bx, 0, none⟩ = some (.string ⟨n.toArray⟩) ∧ W1.cell? ⟨bx, 1, none⟩ = some (.string ⟨val.toArray⟩) := fun W W1 ⟨b', c⟩ hb => ⟨(World.cell?_of_block (hb.block bx (World.block_lt_of_cell? W _ b') hbxb (fun e => hvx e.symm))).trans b', (World.cell?_of_block (hb.block bx (World.block_lt_of_cell? W _ c) hbxb (fun e => hvx e.symm))).trans c⟩
    have hS : w2.cell? ⟨bx, 0, none⟩ = some (.string ⟨n.toArray⟩) ∧ w2.cell? ⟨bx, 1, none⟩ = some (.string ⟨val.toArray⟩) := ⟨x0, x1⟩
    go_region_held3 (fun W => W.cell? ⟨bx, 0, none⟩ = some (.string ⟨n.toArray⟩) ∧ W.cell? ⟨bx, 1, none⟩ = some (.string ⟨val.toArray⟩))
      (first | assumption | exact cOf _ _ (by assumption) (by assumption) | exact tOf _ _ (by assumption) (by assumption))
      (first
      | (go_at_call 78; refine (clone_l n (by omega) _).mono ?_; rintro e w3 ⟨rfl, hb3⟩; have hb4 := bt _ _ (by assumption) hb3)
      | (go_at_call 78; refine (clone_l val (by omega) _).mono ?_; rintro e w3 ⟨rfl, hb3⟩; have hb4 := bt _ _ (by assumption) hb3)
      | (go_at_call 77; refine (pushF B b _ v2 _ gs.length (Tb.cells gs.reverse) ⟨n.toArray⟩ ⟨val.toArray⟩ _ (rk _ (by assumption)) (by decide) hln (sk _ (by assumption))).mono ?_; rintro e w4 ⟨rfl, v4, hR4, hv4, hT4⟩))
    have HR4 := hid' hR4
    have HV4 : Hid (∀ k, v4.ownBlock = some k → v.ownBlock = some k ∨ w.heap.size ≤ k) := hid' fun k hk => (hv4 k hk).imp (HV2.out k) (fun h => Nat.le_trans (Nat.le_trans HT2.out.size hb4.size) h)
    have HT4 : Hid (Two b v.ownBlock w w4) := hid' ((HT2.out.and (Two.of_below hb4)).trans hT4 (fun k hk => .inl (HV2.out k hk)))
    obtain ⟨S, hS⟩ : ∃ S, Tb.size gs = S := ⟨_, rfl⟩
    have c1 : w4.cell? ⟨b, 1, none⟩ = some (.int .i64 (S : Int)) := by rw [← hS]; exact hR4.obj.cell 1 _ rfl
    have f1 : w4.frozen? ⟨b, 1, none⟩ = false := hR4.obj.free 1
    have HS := hid' hS
    rw [hS] at hszm
    clear hR4 hv4 hT4 hb4 hb3 x0 x1 rk sk bt cOf tOf hS0 hS
    go_wp2
    go_end0
    refine ⟨rfl, v4, ?_, HV4.out, HT4.out.and (Two.of_set _ _ _ _ _)⟩
    rw [HADD2.out]
    have := HR4.out.tail 0 (.int .i64 ((S : Int) + (k : Int)))
    refine ⟨?_⟩
    rw [Tb.size_cons, HK.out, HS.out, List.length_cons, List.reverse_cons, Tb.cells_append, show (((k + S : Nat)) : Int) = (S : Int) + (k : Int) by omega]
    exact this

set_option maxHeartbeats 1000000 in
set_option maxRecDepth 20000 in
theorem cresize_no (B b : Nat) (v : Value) (M : Nat) (fs : List (List UInt8 × List UInt8)) (most : Int) (w : World) (_h : CT w B b v M fs) (hm : most < 0 ∨ 65536 < most) :
    Calls Tryz.prog 33 #[.pointer (some ⟨b, 0, none⟩), .int .i64 most] w fun e w' => e = .returned (.int .i64 5) ∧ w' = w := by
  have H : Hid (false = (decide (0 ≤ most) && decide (most ≤ 65536))) := hid' (by symm; rw [Bool.and_eq_false_iff]; rcases hm with h | h; exact .inl (decide_eq_false (by omega)); exact .inr (decide_eq_false (by omega)))
  clear hm
  go_enter Tryz.func33, Tryz.ntmps33
  go_wp2_with fail
  refine (isRoom_any most false H.out _).mono ?_
  rintro e w1 ⟨rfl, rfl⟩
  go_wp2
  go_ret
  exact ⟨rfl, rfl⟩

set_option maxHeartbeats 1000000 in
set_option maxRecDepth 20000 in
theorem cresize_yes (B b : Nat) (v : Value) (M : Nat) (fs : List (List UInt8 × List UInt8)) (N : Nat) (w : World) (h : CT w B b v M fs) (hN : N ≤ 65536) (hs : Tb.size fs ≤ 1048576) :
    Calls Tryz.prog 33 #[.pointer (some ⟨b, 0, none⟩), .int .i64 (N : Int)] w fun e w' => e = .returned (.int .i64 0) ∧ ∃ v', CT w' B b v' N (Tb.shr N fs) ∧ (∀ k, v'.ownBlock = some k → v.ownBlock = some k) ∧ Two b v.ownBlock w w' := by
  have H : Hid (true = (decide ((0 : Int) ≤ (N : Int)) && decide ((N : Int) ≤ 65536))) := hid' (by symm; rw [Bool.and_eq_true]; exact ⟨decide_eq_true (by omega), decide_eq_true (by omega)⟩)
  have c2 := h.c2
  have f2 := h.ring.obj.free 2
  have HC : Hid (CT (w.setCell ⟨b, 2, none⟩ (.int .i64 (N : Int))) B b v N fs) := hid' ⟨h.ring.tail 1 (.int .i64 (N : Int))⟩
  clear h hN
  go_enter Tryz.func33, Tryz.ntmps33
  go_wp2_with fail
  refine (isRoom_any (N : Int) true H.out _).mono ?_
  rintro e w1 ⟨rfl, rfl⟩
  go_wp2_with fail
  refine (cshrink_any B b v N fs N _ HC.out hs).mono ?_
  rintro e w2 ⟨rfl, v2, hC2, hv2, hT2⟩
  have HC2 := hid' hC2
  have HV2 := hid' hv2
  have HT2 := hid' hT2
  clear hC2 hv2 hT2
  go_wp2
  go_ret
  exact ⟨rfl, v2, HC2.out, HV2.out, Two.and (Two.of_set _ _ _ _ _) HT2.out⟩

end Go.Proofs.YtmkkhfkfjmfdcaaGreat
