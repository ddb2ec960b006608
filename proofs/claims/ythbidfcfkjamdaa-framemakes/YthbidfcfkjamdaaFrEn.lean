/-
  ostlerref07.payload of padded DATA: by its contract.
  ostlerref07.payload of AWAY: by its contract.
  ostlerref07.payload of SETTINGS: by its contract.
-/
import Derived.Test.YthbidfcfkjamdaaFrEm
import Derived.Test.YthbidfcfkjamdaaFrPs
namespace Go.Proofs.Ythbidfcfkjamdaa
open Go.RowKit

theorem make_bytes (m : Nat) (hm : m ≤ 1048576) (W : World) : (Instr.makeSlice 66 (.int .i64 (m : Int)) (.int .i64 (m : Int))).run Try.prog W = .ok (.slice (some ⟨W.heap.size, 0, none⟩) m m) (W.alloc (.cells (byA (List.replicate m 0)) 5)) := by
  obtain ⟨i, hi, hz0, hz1, hz2⟩ := info_parts' infoByte'
  have hr := run_make (P := Try.prog) W 66 5 i (.int .u8 0) Try.underlying66 hi hz0 .i64 .i64 (m : Int) (m : Int) (by omega) (by omega) (by rw [hz2]; omega) (by omega)
  rw [hz1, Int.toNat_natCast, Nat.mul_one] at hr
  rw [hr, byA_zero]
  rfl

set_option maxHeartbeats 4000000 in
set_option maxRecDepth 20000 in
theorem rpay_datapad (fl : Int) (p : Fm.Pt) (hf : 0 ≤ fl ∧ fl ≤ 255) (hd : p.data.length ≤ 140737488355328) (h8 : Fm.has fl 8 = true) (hp1 : 1 ≤ p.pad) (hp2 : p.pad ≤ 256) : RPok 0 fl p ((Fm.enc 1 (p.pad - 1) ++ p.data) ++ List.replicate (p.pad - 1).toNat 0) := by
  intro w v hv
  obtain ⟨ao, cap, rfl⟩ := hv.shape
  obtain ⟨pd, pp, pc, pl, pw, po, pm, ps⟩ := p
  simp only at *
  obtain ⟨n, hn⟩ : ∃ n, ps.length = n := ⟨_, rfl⟩
  rw [hn]
  clear hn hv
  have q8 : (fl.tdiv 8).tmod 2 = 1 := flag8 hf.1 h8
  have e8 : wrap64 (fl.tdiv 8) = fl.tdiv 8 := wrap_div hf.1 hf.2 (by decide)
  clear h8 hf
  obtain ⟨m, hm⟩ : ∃ m : Nat, pp - 1 = (m : Int) := ⟨(pp - 1).toNat, by omega⟩
  have hm5 : m ≤ 255 := by omega
  have hwr : IntKind.i64.wrap (pp - 1) = (m : Int) := by rw [hm, IntKind.wrap_i64]; omega
  have hwm : IntKind.i64.wrap (m : Int) = (m : Int) := by rw [IntKind.wrap_i64]; omega
  obtain ⟨Z, hZ⟩ : ∃ Z, List.replicate m (0 : UInt8) = Z := ⟨_, rfl⟩
  have hzl : Z.length = m := by rw [← hZ]; simp
  obtain ⟨a, ha⟩ : ∃ a, Fm.enc 1 (m : Int) = a := ⟨_, rfl⟩
  have hal : a.length = 1 := by rw [← ha]; exact Fm.enc_length _ _
  obtain ⟨s1, hs1⟩ : ∃ s, a ++ pd = s := ⟨_, rfl⟩
  obtain ⟨s2, hs2⟩ : ∃ s, s1 ++ Z = s := ⟨_, rfl⟩
  have hl1 : s1.length = 1 + pd.length := by rw [← hs1, List.length_append, hal]
  rw [hm, Int.toNat_natCast, hZ, ha, hs1, hs2]
  have E1 : Hid (Fm.enc (Int.toNat 1) (m : Int) = a) := hid' ha
  have j1 := str_cat a pd
  have j2 := str_cat s1 Z
  rw [hs1] at j1
  rw [hs2] at j2
  have hmk : ∀ W : World, (Instr.makeSlice 66 (.int .i64 (m : Int)) (.int .i64 (m : Int))).run Try.prog W = .ok (.slice (some ⟨W.heap.size, 0, none⟩) m m) (W.alloc (.cells (byA Z) 5)) := fun W => by rw [make_bytes m (by omega) W, hZ]
  have hcv : ∀ W : World, (convert 66 9 (.slice (some ⟨W.heap.size, 0, none⟩) m m)).run Try.prog (W.alloc (.cells (byA Z) 5)) = .ok (.string ⟨Z.toArray⟩) (W.alloc (.cells (byA Z) 5)) := fun W => by
    have := ar_str (cap := m) (heap_alloc_last W (.cells (byA Z) 5))
    rw [hzl] at this
    exact this
  have hcv2 : ∀ W : World, (convert 66 9 (.slice (some ⟨W.heap.size, 0, none⟩) m m)).run Try.prog (W.alloc (.cells (byA Z) 5)).drew = .ok (.string ⟨Z.toArray⟩) (W.alloc (.cells (byA Z) 5)).drew := fun W => by
    have := ar_str (cap := m) (Ar.drew (heap_alloc_last W (.cells (byA Z) 5)))
    rw [hzl] at this
    exact this
  have cvOf : ∀ (W W1 : World), Below (W.alloc (.cells (byA Z) 5)).drew.heap.size (W.alloc (.cells (byA Z) 5)).drew W1 → (convert 66 9 (.slice (some ⟨W.heap.size, 0, none⟩) m m)).run Try.prog W1 = .ok (.string ⟨Z.toArray⟩) W1 := fun W W1 hb => by
    have := ar_str (cap := m) (Ar.keep (Ar.drew (heap_alloc_last W (.cells (byA Z) 5))) hb)
    rw [hzl] at this
    exact this
  have hsum1 : (9223372036854775807 < 1 + pd.length) = False := eq_false (by omega)
  have hsum2 : (9223372036854775807 < 1 + pd.length + m) = False := eq_false (by omega)
  have CV := hid' cvOf
  clear hm ha hs1 hs2 hZ cvOf
  go_enter Try.func37, Try.ntmps37
  go_wp2_with (refine wpl_box 27 _ rfl rfl (ptC ⟨pd, pp, pc, pl, pw, po, pm, ps⟩ (.slice ao n cap)) (by kernel_rfl) ?_)
  intro b w0 hg0 ha0 hb0
  obtain ⟨x0, x1, x2, x3, x4, x5, x6, x7⟩ := pt_cells ha0
  simp only at x0 x1 x2 x3 x4 x5 x6
  have HB := hid' hb0
  have HA := hid' ha0
  clear ha0 hb0
  have hS : Below w0.heap.size w0 w0 ∧ w0.cell? ⟨b, 0, none⟩ = some (.string ⟨pd.toArray⟩) ∧ w0.cell? ⟨b, 1, none⟩ = some (.int .i64 pp) := ⟨Below.refl _ _, x0, x1⟩
  have sOf : ∀ W W1 : World, (Below w0.heap.size w0 W ∧ W.cell? ⟨b, 0, none⟩ = some (.string ⟨pd.toArray⟩) ∧ W.cell? ⟨b, 1, none⟩ = some (.int .i64 pp)) → Below W.heap.size W W1 → (Below w0.heap.size w0 W1 ∧ W1.cell? ⟨b, 0, none⟩ = some (.string ⟨pd.toArray⟩) ∧ W1.cell? ⟨b, 1, none⟩ = some (.int .i64 pp)) := fun W W1 h hb => ⟨below_two h.1 hb, (pt_cells (HA.out.keep (below_two h.1 hb))).1, (pt_cells (HA.out.keep (below_two h.1 hb))).2.1⟩
  have aOf : ∀ W : World, Below W.heap.size W (W.alloc (.cells (byA Z) 5)) := fun W => (Below.refl _ _).alloc (Nat.le_refl _) _
  clear x2 x3 x4 x5 x6 x7
  go_upto_region 7 with fail
  refine wp_region_held_drew (S := fun W => Below w0.heap.size w0 W ∧ W.cell? ⟨b, 0, none⟩ = some (.string ⟨pd.toArray⟩) ∧ W.cell? ⟨b, 1, none⟩ = some (.int .i64 pp)) (by kernel_rfl) (sOf _ _ (by assumption) ((Below.refl _ _).drew)) (fun hHeld => ?_)
  refine take_d (i := 0) (d := some 30) (v := ?_) rfl rfl (by kernel_rfl) (by kernel_rfl) (by kernel_rfl) (fun _ _ _ h => h) (Or.inl ⟨by rfl, ?_⟩) (by assumption) ?_
  rotate_left
  · intro w hSw
    (try dsimp only at hSw)
    go_simp
    try with_reducible rfl
  simp only [Act.put, List.setIfInBounds_toArray, List.set_cons_zero, List.set_cons_succ]
  refine take_d (i := 1) (d := some 31) (v := ?_) rfl rfl (by kernel_rfl) (by kernel_rfl) (by kernel_rfl) (fun _ _ _ h => h) (Or.inl ⟨by rfl, ?_⟩) (by assumption) ?_
  rotate_left
  · intro w hSw
    (try dsimp only at hSw)
    go_simp
    try with_reducible rfl
  simp only [Act.put, List.setIfInBounds_toArray, List.set_cons_zero, List.set_cons_succ]
  refine take_d (i := 2) (d := some 32) (v := ?_) rfl rfl (by kernel_rfl) (by kernel_rfl) (by kernel_rfl) (fun _ _ _ h => h) (Or.inl ⟨by rfl, ?_⟩) (by assumption) ?_
  rotate_left
  · intro w hSw
    (try dsimp only at hSw)
    go_simp
    try with_reducible rfl
  simp only [Act.put, List.setIfInBounds_toArray, List.set_cons_zero, List.set_cons_succ]
  refine take_d (i := 4) (d := some 34) (v := ?_) rfl rfl (by kernel_rfl) (by kernel_rfl) (by kernel_rfl) (fun _ _ _ h => h) (Or.inl ⟨by rfl, ?_⟩) (by assumption) ?_
  rotate_left
  · intro w hSw
    (try dsimp only at hSw)
    go_simp
    try with_reducible rfl
  simp only [Act.put, List.setIfInBounds_toArray, List.set_cons_zero, List.set_cons_succ]
  refine take_d (i := 5) (d := some 35) (v := ?_) rfl rfl (by kernel_rfl) (by kernel_rfl) (by kernel_rfl) (fun _ _ _ h => h) (Or.inl ⟨by rfl, ?_⟩) (by assumption) ?_
  rotate_left
  · intro w hSw
    (try dsimp only at hSw)
    go_simp
    try with_reducible rfl
  simp only [Act.put, List.setIfInBounds_toArray, List.set_cons_zero, List.set_cons_succ]
  refine take_d (i := 7) (d := some 37) (v := ?_) rfl rfl (by kernel_rfl) (by kernel_rfl) (by kernel_rfl) (fun _ _ _ h => h) (Or.inl ⟨by rfl, ?_⟩) (by assumption) ?_
  rotate_left
  · intro w hSw
    (try dsimp only at hSw)
    go_simp
    try with_reducible rfl
  simp only [Act.put, List.setIfInBounds_toArray, List.set_cons_zero, List.set_cons_succ]
  refine take_d (i := 8) (d := some 38) (v := ?_) rfl rfl (by kernel_rfl) (by kernel_rfl) (by kernel_rfl) (fun _ _ _ h => h) (Or.inl ⟨by rfl, ?_⟩) (by assumption) ?_
  rotate_left
  · intro w hSw
    (try dsimp only at hSw)
    go_simp
    try with_reducible rfl
  simp only [Act.put, List.setIfInBounds_toArray, List.set_cons_zero, List.set_cons_succ]
  refine take_d (i := 9) (d := some 39) (v := ?_) rfl rfl (by kernel_rfl) (by kernel_rfl) (by kernel_rfl) (fun _ _ _ h => h) (Or.inl ⟨by rfl, ?_⟩) (by assumption) ?_
  rotate_left
  · intro w hSw
    (try dsimp only at hSw)
    go_simp
    try with_reducible rfl
  simp only [Act.put, List.setIfInBounds_toArray, List.set_cons_zero, List.set_cons_succ]
  refine wpAnyH_ready (rs := [3, 10]) (by kernel_rfl) (by simp) ?_
  refine AllReadyH.cons (o := { dst := some 33, op := Op.call { callee := Callee.value (Operand.func 50), args := #[Operand.tmp 32, Operand.const (Value.int IntKind.i64 1)], argTypes := #[3, 3] }, type := 9, pos := "ref.go:248", after := #[{ on := 2, ground := Ground.data }], guard := none }) rfl (fun K hK => ?_) (AllReadyH.cons (o := { dst := some 40, op := Op.makeSlice 66 (Operand.tmp 39) (Operand.tmp 39), type := 66, pos := "ref.go:248", after := #[{ on := 9, ground := Ground.data }, { on := 9, ground := Ground.data }], guard := none }) rfl (fun K hK => ?_) AllReadyH.nil)
  · go_simp
    refine (rwritten_any _ _ ?_ ?_ ?_ _).mono ?_
    · omega
    · omega
    · omega
    rintro e w5 ⟨rfl, hb5⟩
    rw [E1.out]
    skip
    go_wp2_with fail
    refine hK.out _ _ (sOf _ _ (by assumption) hb5) (fun hHeld => ?_)
    clear hK K
    try simp only [Act.put, List.setIfInBounds_toArray, List.set_cons_zero, List.set_cons_succ]
    refine take_d (i := 6) (d := some 36) (v := ?_) rfl rfl (by kernel_rfl) (by kernel_rfl) (by kernel_rfl) (fun _ _ _ h => h) (Or.inl ⟨by rfl, ?_⟩) (by assumption) ?_
    rotate_left
    · intro w hSw
      (try dsimp only at hSw)
      go_simp
      try with_reducible rfl
    simp only [Act.put, List.setIfInBounds_toArray, List.set_cons_zero, List.set_cons_succ]
    refine wpAnyH_ready (rs := [10]) (by kernel_rfl) (by simp) ?_
    refine AllReadyH.cons (o := { dst := some 40, op := Op.makeSlice 66 (Operand.tmp 39) (Operand.tmp 39), type := 66, pos := "ref.go:248", after := #[{ on := 9, ground := Ground.data }, { on := 9, ground := Ground.data }], guard := none }) rfl (fun K hK => ?_) AllReadyH.nil
    go_simp
    refine hK.out _ _ (sOf _ _ (by assumption) (aOf _)) (fun hHeld => ?_)
    clear hK K
    try simp only [Act.put, List.setIfInBounds_toArray, List.set_cons_zero, List.set_cons_succ]
    refine wpAnyH_ready (rs := [11]) (by kernel_rfl) (by simp) ?_
    refine AllReadyH.cons (o := { dst := some 41, op := Op.convert 66 9 (Operand.tmp 40), type := 9, pos := "ref.go:248", after := #[{ on := 10, ground := Ground.data }], guard := none }) rfl (fun K hK => ?_) AllReadyH.nil
    go_simp
    refine hK.out _ _ (by assumption) (fun hHeld => ?_)
    clear hK K
    try simp only [Act.put, List.setIfInBounds_toArray, List.set_cons_zero, List.set_cons_succ]
    refine take_d (i := 12) (d := some 42) (v := ?_) rfl rfl (by kernel_rfl) (by kernel_rfl) (by kernel_rfl) (fun _ _ _ h => h) (Or.inl ⟨by rfl, ?_⟩) (by assumption) ?_
    rotate_left
    · intro w hSw
      (try dsimp only at hSw)
      go_simp
      try with_reducible rfl
    simp only [Act.put, List.setIfInBounds_toArray, List.set_cons_zero, List.set_cons_succ]
    refine take_d (i := 13) (d := some 6) (v := ?_) rfl rfl (by kernel_rfl) (by kernel_rfl) (by kernel_rfl) (fun _ _ _ h => h) (Or.inl ⟨by rfl, ?_⟩) (by assumption) ?_
    rotate_left
    · intro w hSw
      (try dsimp only at hSw)
      go_simp
      try with_reducible rfl
    simp only [Act.put, List.setIfInBounds_toArray, List.set_cons_zero, List.set_cons_succ]
    refine take_d (i := 14) (d := some 7) (v := ?_) rfl rfl (by kernel_rfl) (by kernel_rfl) (by kernel_rfl) (fun _ _ _ h => h) (Or.inl ⟨by rfl, ?_⟩) (by assumption) ?_
    rotate_left
    · intro w hSw
      (try dsimp only at hSw)
      go_simp
      try with_reducible rfl
    simp only [Act.put, List.setIfInBounds_toArray, List.set_cons_zero, List.set_cons_succ]
    refine wpAnyH_done (by kernel_rfl) ?_ _
    have HBB := hid' (below_two HB.out (And.left hHeld))
    clear sOf hS hHeld
    go_wp2
    go_ret2
    exact ⟨rfl, HBB.out⟩
  · go_simp
    refine hK.out _ _ (sOf _ _ (by assumption) (aOf _)) (fun hHeld => ?_)
    clear hK K
    try simp only [Act.put, List.setIfInBounds_toArray, List.set_cons_zero, List.set_cons_succ]
    refine wpAnyH_ready (rs := [3, 11]) (by kernel_rfl) (by simp) ?_
    refine AllReadyH.cons (o := { dst := some 33, op := Op.call { callee := Callee.value (Operand.func 50), args := #[Operand.tmp 32, Operand.const (Value.int IntKind.i64 1)], argTypes := #[3, 3] }, type := 9, pos := "ref.go:248", after := #[{ on := 2, ground := Ground.data }], guard := none }) rfl (fun K hK => ?_) (AllReadyH.cons (o := { dst := some 41, op := Op.convert 66 9 (Operand.tmp 40), type := 9, pos := "ref.go:248", after := #[{ on := 10, ground := Ground.data }], guard := none }) rfl (fun K hK => ?_) AllReadyH.nil)
    · go_simp
      refine (rwritten_any _ _ ?_ ?_ ?_ _).mono ?_
      · omega
      · omega
      · omega
      rintro e w5 ⟨rfl, hb5⟩
      rw [E1.out]
      have hcv5 := CV.out _ _ hb5
      go_wp2_with fail
      refine hK.out _ _ (sOf _ _ (by assumption) hb5) (fun hHeld => ?_)
      clear hK K
      try simp only [Act.put, List.setIfInBounds_toArray, List.set_cons_zero, List.set_cons_succ]
      refine take_d (i := 6) (d := some 36) (v := ?_) rfl rfl (by kernel_rfl) (by kernel_rfl) (by kernel_rfl) (fun _ _ _ h => h) (Or.inl ⟨by rfl, ?_⟩) (by assumption) ?_
      rotate_left
      · intro w hSw
        (try dsimp only at hSw)
        go_simp
        try with_reducible rfl
      simp only [Act.put, List.setIfInBounds_toArray, List.set_cons_zero, List.set_cons_succ]
      refine wpAnyH_ready (rs := [11]) (by kernel_rfl) (by simp) ?_
      refine AllReadyH.cons (o := { dst := some 41, op := Op.convert 66 9 (Operand.tmp 40), type := 9, pos := "ref.go:248", after := #[{ on := 10, ground := Ground.data }], guard := none }) rfl (fun K hK => ?_) AllReadyH.nil
      go_simp
      refine hK.out _ _ (by assumption) (fun hHeld => ?_)
      clear hK K
      try simp only [Act.put, List.setIfInBounds_toArray, List.set_cons_zero, List.set_cons_succ]
      refine take_d (i := 12) (d := some 42) (v := ?_) rfl rfl (by kernel_rfl) (by kernel_rfl) (by kernel_rfl) (fun _ _ _ h => h) (Or.inl ⟨by rfl, ?_⟩) (by assumption) ?_
      rotate_left
      · intro w hSw
        (try dsimp only at hSw)
        go_simp
        try with_reducible rfl
      simp only [Act.put, List.setIfInBounds_toArray, List.set_cons_zero, List.set_cons_succ]
      refine take_d (i := 13) (d := some 6) (v := ?_) rfl rfl (by kernel_rfl) (by kernel_rfl) (by kernel_rfl) (fun _ _ _ h => h) (Or.inl ⟨by rfl, ?_⟩) (by assumption) ?_
      rotate_left
      · intro w hSw
        (try dsimp only at hSw)
        go_simp
        try with_reducible rfl
      simp only [Act.put, List.setIfInBounds_toArray, List.set_cons_zero, List.set_cons_succ]
      refine take_d (i := 14) (d := some 7) (v := ?_) rfl rfl (by kernel_rfl) (by kernel_rfl) (by kernel_rfl) (fun _ _ _ h => h) (Or.inl ⟨by rfl, ?_⟩) (by assumption) ?_
      rotate_left
      · intro w hSw
        (try dsimp only at hSw)
        go_simp
        try with_reducible rfl
      simp only [Act.put, List.setIfInBounds_toArray, List.set_cons_zero, List.set_cons_succ]
      refine wpAnyH_done (by kernel_rfl) ?_ _
      have HBB := hid' (below_two HB.out (And.left hHeld))
      clear sOf hS hHeld
      go_wp2
      go_ret2
      exact ⟨rfl, HBB.out⟩
    · go_simp
      refine hK.out _ _ (by assumption) (fun hHeld => ?_)
      clear hK K
      try simp only [Act.put, List.setIfInBounds_toArray, List.set_cons_zero, List.set_cons_succ]
      refine wpAnyH_ready (rs := [3]) (by kernel_rfl) (by simp) ?_
      refine AllReadyH.cons (o := { dst := some 33, op := Op.call { callee := Callee.value (Operand.func 50), args := #[Operand.tmp 32, Operand.const (Value.int IntKind.i64 1)], argTypes := #[3, 3] }, type := 9, pos := "ref.go:248", after := #[{ on := 2, ground := Ground.data }], guard := none }) rfl (fun K hK => ?_) AllReadyH.nil
      go_simp
      refine (rwritten_any _ _ ?_ ?_ ?_ _).mono ?_
      · omega
      · omega
      · omega
      rintro e w5 ⟨rfl, hb5⟩
      rw [E1.out]
      skip
      go_wp2_with fail
      refine hK.out _ _ (sOf _ _ (by assumption) hb5) (fun hHeld => ?_)
      clear hK K
      try simp only [Act.put, List.setIfInBounds_toArray, List.set_cons_zero, List.set_cons_succ]
      refine take_d (i := 6) (d := some 36) (v := ?_) rfl rfl (by kernel_rfl) (by kernel_rfl) (by kernel_rfl) (fun _ _ _ h => h) (Or.inl ⟨by rfl, ?_⟩) (by assumption) ?_
      rotate_left
      · intro w hSw
        (try dsimp only at hSw)
        go_simp
        try with_reducible rfl
      simp only [Act.put, List.setIfInBounds_toArray, List.set_cons_zero, List.set_cons_succ]
      refine take_d (i := 12) (d := some 42) (v := ?_) rfl rfl (by kernel_rfl) (by kernel_rfl) (by kernel_rfl) (fun _ _ _ h => h) (Or.inl ⟨by rfl, ?_⟩) (by assumption) ?_
      rotate_left
      · intro w hSw
        (try dsimp only at hSw)
        go_simp
        try with_reducible rfl
      simp only [Act.put, List.setIfInBounds_toArray, List.set_cons_zero, List.set_cons_succ]
      refine take_d (i := 13) (d := some 6) (v := ?_) rfl rfl (by kernel_rfl) (by kernel_rfl) (by kernel_rfl) (fun _ _ _ h => h) (Or.inl ⟨by rfl, ?_⟩) (by assumption) ?_
      rotate_left
      · intro w hSw
        (try dsimp only at hSw)
        go_simp
        try with_reducible rfl
      simp only [Act.put, List.setIfInBounds_toArray, List.set_cons_zero, List.set_cons_succ]
      refine take_d (i := 14) (d := some 7) (v := ?_) rfl rfl (by kernel_rfl) (by kernel_rfl) (by kernel_rfl) (fun _ _ _ h => h) (Or.inl ⟨by rfl, ?_⟩) (by assumption) ?_
      rotate_left
      · intro w hSw
        (try dsimp only at hSw)
        go_simp
        try with_reducible rfl
      simp only [Act.put, List.setIfInBounds_toArray, List.set_cons_zero, List.set_cons_succ]
      refine wpAnyH_done (by kernel_rfl) ?_ _
      have HBB := hid' (below_two HB.out (And.left hHeld))
      clear sOf hS hHeld
      go_wp2
      go_ret2
      exact ⟨rfl, HBB.out⟩

end Go.Proofs.Ythbidfcfkjamdaa

namespace Go.Proofs.Ythbidfcfkjamdaa
open Go.RowKit

set_option maxHeartbeats 4000000 in
set_option maxRecDepth 20000 in
theorem rpay_away (fl : Int) (p : Fm.Pt) (hc : p.code ≤ 9223372036854775807) (hl : p.last ≤ 9223372036854775807) (hd : p.data.length ≤ 140737488355328) (hfl : Fm.fit4 p.last = true) (w : World) (v : Value) (hv : SR w v p.sets) :
    Calls Try.prog 37 #[.int .i64 7, .int .i64 fl, .agg (ptC p v)] w fun e w' => e = .returned (.tuple #[.string ⟨((Fm.enc 4 (Fm.pos p.last) ++ Fm.enc 4 (Fm.pos p.code)) ++ p.data).toArray⟩, .bool (Fm.fit4 p.code)]) ∧ Below w.heap.size w w' := by
  obtain ⟨ao, cap, rfl⟩ := hv.shape
  obtain ⟨pd, pp, pc, pl, pw, po, pm, ps⟩ := p
  simp only at *
  obtain ⟨n, hn⟩ : ∃ n, ps.length = n := ⟨_, rfl⟩
  rw [hn]
  clear hn hv
  obtain ⟨r, hr⟩ : ∃ r, Fm.fit4 pc = r := ⟨_, rfl⟩
  rw [hr]
  have HR := hid' hr
  have HR2 := hid' hfl
  obtain ⟨a, ha⟩ : ∃ a, Fm.enc 4 (max pl 0) = a := ⟨_, rfl⟩
  obtain ⟨c, hcc⟩ : ∃ a, Fm.enc 4 (max pc 0) = a := ⟨_, rfl⟩
  have hal : a.length = 4 := by rw [← ha]; exact Fm.enc_length _ _
  have hcl : c.length = 4 := by rw [← hcc]; exact Fm.enc_length _ _
  simp only [Fm.pos]
  rw [ha, hcc]
  have E1 : Hid (Fm.enc (Int.toNat 4) (max pl 0) = a) := hid' ha
  have E2 : Hid (Fm.enc (Int.toNat 4) (max pc 0) = c) := hid' hcc
  obtain ⟨s1, hs1⟩ : ∃ s, a ++ c = s := ⟨_, rfl⟩
  obtain ⟨s2, hs2⟩ : ∃ s, s1 ++ pd = s := ⟨_, rfl⟩
  have j1 := str_cat a c
  have j2 := str_cat s1 pd
  rw [hs1] at j1
  rw [hs2] at j2
  rw [hs1, hs2]
  have hl1 : s1.length = 8 := by rw [← hs1, List.length_append]; omega
  have hsum1 : (9223372036854775807 < 8 + pd.length) = False := eq_false (by omega)
  clear hr ha hcc hs1 hs2 hfl
  go_enter Try.func37, Try.ntmps37
  go_wp2_with (refine wpl_box 27 _ rfl rfl (ptC ⟨pd, pp, pc, pl, pw, po, pm, ps⟩ (.slice ao n cap)) (by kernel_rfl) ?_)
  intro b w0 hg0 ha0 hb0
  obtain ⟨x0, x1, x2, x3, x4, x5, x6, x7⟩ := pt_cells ha0
  simp only at x0 x1 x2 x3 x4 x5 x6
  have HB := hid' hb0
  have HA := hid' ha0
  clear ha0 hb0
  have hS : Below w0.heap.size w0 w0 ∧ w0.cell? ⟨b, 2, none⟩ = some (.int .i64 pc) ∧ w0.cell? ⟨b, 3, none⟩ = some (.int .i64 pl) ∧ w0.cell? ⟨b, 0, none⟩ = some (.string ⟨pd.toArray⟩) := ⟨Below.refl _ _, x2, x3, x0⟩
  have sOf : ∀ W W1 : World, (Below w0.heap.size w0 W ∧ W.cell? ⟨b, 2, none⟩ = some (.int .i64 pc) ∧ W.cell? ⟨b, 3, none⟩ = some (.int .i64 pl) ∧ W.cell? ⟨b, 0, none⟩ = some (.string ⟨pd.toArray⟩)) → Below W.heap.size W W1 → (Below w0.heap.size w0 W1 ∧ W1.cell? ⟨b, 2, none⟩ = some (.int .i64 pc) ∧ W1.cell? ⟨b, 3, none⟩ = some (.int .i64 pl) ∧ W1.cell? ⟨b, 0, none⟩ = some (.string ⟨pd.toArray⟩)) := fun W W1 h hb => ⟨below_two h.1 hb, (pt_cells (HA.out.keep (below_two h.1 hb))).2.2.1, (pt_cells (HA.out.keep (below_two h.1 hb))).2.2.2.1, (pt_cells (HA.out.keep (below_two h.1 hb))).1⟩
  clear x0 x1 x2 x3 x4 x5 x6 x7
  go_upto_region 31 with fail
  go_region_held3 (fun W => Below w0.heap.size w0 W ∧ W.cell? ⟨b, 2, none⟩ = some (.int .i64 pc) ∧ W.cell? ⟨b, 3, none⟩ = some (.int .i64 pl) ∧ W.cell? ⟨b, 0, none⟩ = some (.string ⟨pd.toArray⟩))
    (first | assumption | exact sOf _ _ (by assumption) (by assumption) | exact sOf _ _ (by assumption) ((Below.refl _ _).drew))
    (first | (go_at_call 50; refine (rwritten_any _ _ ?_ ?_ ?_ _).mono ?_; omega; omega; omega; rintro e w5 ⟨rfl, hb5⟩; (first | rw [E1.out] | rw [E2.out])) | (go_at_call 52; refine (rfits_b _ _ rfl _).mono ?_; rintro e w5 ⟨rfl, hb5⟩; (first | rw [HR2.out] | rw [HR.out])))
  all_goals
    have HBB : Hid (Below w.heap.size w w5) := hid' (below_two HB.out (And.left (by assumption : Below w0.heap.size w0 w5 ∧ w5.cell? ⟨b, 2, none⟩ = some (.int .i64 pc) ∧ w5.cell? ⟨b, 3, none⟩ = some (.int .i64 pl) ∧ w5.cell? ⟨b, 0, none⟩ = some (.string ⟨pd.toArray⟩))))
    clear hb5 sOf hS
    go_wp2
    go_ret2
    exact ⟨rfl, HBB.out⟩

end Go.Proofs.Ythbidfcfkjamdaa

namespace Go.Proofs.Ythbidfcfkjamdaa
open Go.RowKit

/-- A text is appended to a row of bytes of one's own, in a region that draws. -/
theorem step_apps {w : World} {ops : Array Oper} {o : Oper} {a : Act} {K : Act → World → Prop} {Q : Exit → Act → World → Prop} {E : Prop} (hgd : o.guard = none) (sl x : Operand) (ho : o.op = .call { callee := .builtin .append, args := #[sl, x], argTypes := #[66, 9] })
    (B : Nat) (v : Value) (l s : List UInt8) (hs : a.eval sl = v) (hown : BR w B v l) (hx : a.eval x = .string ⟨s.toArray⟩) (hlen : l.length + s.length ≤ 140737488355328) (hB : B ≤ w.heap.size)
    (h : ∀ v' w', BR w' B v' (l ++ s) → NB B w w' → K (a.put o.dst v') w') :
    if Region.wanted o (yielded ops a.tmps) = true then Oper.wp Try.prog o a w K Q else E := by
  have hw : Region.wanted o (yielded ops a.tmps) = true := by simp [Region.wanted, hgd]
  rw [if_pos hw]
  obtain ⟨i, hi, hz0, hz1, hz2⟩ := info_parts' infoByte'
  have hsz : (⟨s.toArray⟩ : ByteArray).size = s.length := by simp [ByteArray.size]
  obtain ⟨v', w', hr, h2, h3, _⟩ := Lib.run_append_own_string (P := Try.prog) w B 66 9 o.type 5 i Try.underlying66 Try.underlying9 hi hz0 hz1 hz2 v l.length (Lib.byteCells l) hown ⟨s.toArray⟩ (by rw [hsz]; unfold maxLen; omega) (by rw [hsz]; omega) hB
  unfold Oper.wp execOp
  simp only [ho, resolve, invoke, builtin, Sem.run_bind, Sem.run_pure, Result.andThen_ok, List.map_toArray, List.map_cons, List.map_nil, hs, hx, hr]
  refine h v' w' ?_ (NB.of_grown hown h3 hB)
  unfold BR
  rw [List.length_append, bytes_app]
  have e : Lib.strCells ⟨s.toArray⟩ = Lib.byteCells s := by simp [Lib.byteCells, Lib.strCells]
  rw [hsz, e] at h2
  exact h2

set_option maxHeartbeats 8000000 in
set_option maxRecDepth 20000 in
theorem rpay_sets (fl : Int) (p : Fm.Pt) (hlen : p.sets.length ≤ 8796093022208) (al : Bool) (hal : p.sets.all (fun x => Fm.fit2 x.1 && Fm.fit4 x.2) = al) (w : World) (v : Value) (hv : SR w v p.sets) :
    Calls Try.prog 37 #[.int .i64 4, .int .i64 fl, .agg (ptC p v)] w fun e w' => e = .returned (.tuple #[.string ⟨(if al then Fm.stB p.sets else []).toArray⟩, .bool al]) ∧ Below w.heap.size w w' := by
  obtain ⟨ao, cap, hsh⟩ := hv.shape
  obtain ⟨pd, pp, pc, pl, pw, po, pm, ps⟩ := p
  simp only at *
  subst hsh
  obtain ⟨n, hn⟩ : ∃ n, ps.length = n := ⟨_, rfl⟩
  rw [hn] at hv hlen ⊢
  have HN := hid' hn
  have HV := hid' hv
  have HALL := hid' hal
  clear hn hv hal
  go_enter Try.func37, Try.ntmps37
  go_wp2_with (refine wpl_box 27 _ rfl rfl (ptC ⟨pd, pp, pc, pl, pw, po, pm, ps⟩ (.slice ao n cap)) (by kernel_rfl) ?_)
  intro b w0 hg0 ha0 hb0
  have HA := hid' ha0
  have HB := hid' hb0
  have HS0 : Hid (BR w0 w.heap.size (.slice none 0 0) (Fm.stB (ps.take 0)) ∧ NB w.heap.size w w0 ∧ (ps.take 0).all (fun x => Fm.fit2 x.1 && Fm.fit4 x.2) = true ∧ NB w.heap.size w0 w0) := hid' ⟨by rw [List.take_zero]; exact World.ownsRow_nil _ _ _ _, NB.of_below hb0 (Nat.le_refl _), by simp, NB.refl _ _⟩
  clear ha0 hb0 hg0
  go_wp2
  go_loopw [10, 11, 12] (fun s10 s11 _ wr => ∃ i : Nat, s11 = .int .i64 (i : Int) ∧ i ≤ n ∧ Hid (BR wr w.heap.size s10 (Fm.stB (ps.take i)) ∧ NB w.heap.size w wr ∧ (ps.take i).all (fun x => Fm.fit2 x.1 && Fm.fit4 x.2) = true ∧ NB w.heap.size w0 wr)) (fun _ s11 _ _ => n - (intOf s11).toNat)
  case atStart => exact ⟨0, rfl, Nat.zero_le _, HS0⟩
  case round =>
    clear HS0
    obtain ⟨i, rfl, hi, HX⟩ := hrel
    have HO0 := hid' HX.out.1
    have HN0 := hid' HX.out.2.1
    have HQ0 := hid' HX.out.2.2.1
    have HZ0 := hid' HX.out.2.2.2
    obtain ⟨_, _, _, _, _, _, _, x7⟩ := pt_cells (HZ0.out.ar _ _ _ (by decide) HA.out)
    clear HX
    by_cases hlt : i < n
    · have hlt2 : (i : Int) < (n : Int) := by omega
      obtain ⟨f, hf⟩ : ∃ f, ps[i]? = some f := ⟨_, List.getElem?_eq_getElem (by rw [HN.out]; exact hlt)⟩
      obtain ⟨a, hao, y0, y1⟩ := (HV.out.keep HN0.out.bel).two i f hf
      subst hao
      have HT : Hid (Fm.stB (ps.take (i + 1)) = Fm.stB (ps.take i) ++ (Fm.enc 2 f.1 ++ Fm.enc 4 f.2)) := hid' (by rw [Fm.stB_take ps i f hf, List.append_assoc])
      have HPL : Hid ((Fm.stB (ps.take i)).length + 6 ≤ 140737488355328) := hid' (by rw [Fm.stB_length, List.length_take]; omega)
      have HF := hid' hf
      obtain ⟨fi, fv⟩ := f
      simp only at y0 y1 HT
      clear hf
      go_wp2_with (refine wpl_alloc 29 rfl rfl _ zeroSetting ?_)
      intro b5 w5 hg ha hb
      refine wpl_store 29 _ _ rfl rfl b5 #[.int .i64 fi, .int .i64 fv] (by kernel_rfl) (by kernel_rfl) _ _ ha sizeSetting rfl (by simp [Value.oneCell']) ?_
      intro w6 ha6 hu
      have hb6 := hb.trans (hu.below hg)
      have HN6 := hid' (HN0.out.trans (NB.of_below hb6 HN0.out.bel.size))
      have HZ6 := hid' (HZ0.out.trans (NB.of_below hb6 HN0.out.bel.size))
      have HO6 : Hid (BR w6 w.heap.size u10 (Fm.stB (ps.take i))) := hid' (own_keep HO0.out hb6)
      obtain ⟨s0, s1⟩ := stC_cells ha6
      have HA6 := hid' ha6
      clear hg ha hb hu ha6 hb6 y0 y1 x7 HO0 HN0 HZ0
      obtain ⟨r2, hr2⟩ : ∃ r, Fm.fit2 fi = r := ⟨_, rfl⟩
      obtain ⟨r4, hr4⟩ : ∃ r, Fm.fit4 fv = r := ⟨_, rfl⟩
      have HR2 := hid' hr2
      have HR4 := hid' hr4
      go_wp2_with fail
      refine (rfits_two fi r2 HR2.out _).mono ?_
      rintro e w7 ⟨rfl, hw7⟩
      subst w7
      cases r2 with
      | false =>
        have HFA : Hid (false = al) := hid' (by
          rw [← HALL.out]
          symm
          rw [List.all_eq_false]
          exact ⟨(fi, fv), List.mem_of_getElem? HF.out, by simp [hr2]⟩)
        obtain rfl := HFA.out
        clear hr2 hr4 HR2 HR4 HFA
        go_wp2
        go_ret2
        exact ⟨rfl, HN6.out.bel⟩
      | true =>
        go_wp2_with fail
        refine (rfits_four fv r4 HR4.out _).mono ?_
        rintro e w7 ⟨rfl, hw7⟩
        subst w7
        cases r4 with
        | false =>
          have HFA : Hid (false = al) := hid' (by
            rw [← HALL.out]
            symm
            rw [List.all_eq_false]
            exact ⟨(fi, fv), List.mem_of_getElem? HF.out, by simp [hr4]⟩)
          obtain rfl := HFA.out
          clear hr2 hr4 HR2 HR4 HFA
          go_wp2
          go_ret2
          exact ⟨rfl, HN6.out.bel⟩
        | true =>
          have HAL : Hid ((ps.take (i + 1)).all (fun x => Fm.fit2 x.1 && Fm.fit4 x.2) = true) := hid' (by
            rw [List.take_add_one, HF.out, List.all_append, HQ0.out]
            simp [hr2, hr4])
          have g01 := Fm.fit2_yes hr2
          have g23 := Fm.fit4_yes hr4
          obtain ⟨g0, g1⟩ := g01
          obtain ⟨g2, g3⟩ := g23
          obtain ⟨e1, he1⟩ : ∃ e, Fm.enc 2 fi = e := ⟨_, rfl⟩
          obtain ⟨e2, he2⟩ : ∃ e, Fm.enc 4 fv = e := ⟨_, rfl⟩
          have hl1 : e1.length = 2 := by rw [← he1]; exact Fm.enc_length _ _
          have hl2 : e2.length = 4 := by rw [← he2]; exact Fm.enc_length _ _
          obtain ⟨s6, hs6⟩ : ∃ s, e1 ++ e2 = s := ⟨_, rfl⟩
          have hl6 : s6.length = 6 := by rw [← hs6, List.length_append]; omega
          have j1 := str_cat e1 e2
          rw [hs6] at j1
          rw [he1, he2, hs6] at HT
          have E1 : Hid (Fm.enc (Int.toNat 2) fi = e1) := hid' he1
          have E2 : Hid (Fm.enc (Int.toNat 4) fv = e2) := hid' he2
          clear hr2 hr4 HR2 HR4 he1 he2 hs6
          go_wp2_with fail
          refine wp_region_held_drew (S := fun W => W.cell? ⟨b5, 0, none⟩ = some (.int .i64 fi) ∧ W.cell? ⟨b5, 1, none⟩ = some (.int .i64 fv)) (by kernel_rfl) ⟨s0, s1⟩ (fun hHeld => ?_)
          refine take_d (i := 0) (d := some 110) (v := ?_) rfl rfl (by kernel_rfl) (by kernel_rfl) (by kernel_rfl) (fun _ _ _ h => h) (Or.inl ⟨by rfl, ?_⟩) (by assumption) ?_
          rotate_left
          · intro w hSw
            (try dsimp only at hSw)
            go_simp
            try with_reducible rfl
          simp only [Act.put, List.setIfInBounds_toArray, List.set_cons_zero, List.set_cons_succ]
          refine take_d (i := 1) (d := some 111) (v := ?_) rfl rfl (by kernel_rfl) (by kernel_rfl) (by kernel_rfl) (fun _ _ _ h => h) (Or.inl ⟨by rfl, ?_⟩) (by assumption) ?_
          rotate_left
          · intro w hSw
            (try dsimp only at hSw)
            go_simp
            try with_reducible rfl
          simp only [Act.put, List.setIfInBounds_toArray, List.set_cons_zero, List.set_cons_succ]
          refine take_d (i := 2) (d := some 112) (v := ?_) rfl rfl (by kernel_rfl) (by kernel_rfl) (by kernel_rfl) (fun _ _ _ h => h) (Or.inl ⟨by rfl, ?_⟩) (by assumption) ?_
          rotate_left
          · intro w hSw
            (try dsimp only at hSw)
            go_simp
            try with_reducible rfl
          simp only [Act.put, List.setIfInBounds_toArray, List.set_cons_zero, List.set_cons_succ]
          refine take_d (i := 4) (d := some 114) (v := ?_) rfl rfl (by kernel_rfl) (by kernel_rfl) (by kernel_rfl) (fun _ _ _ h => h) (Or.inl ⟨by rfl, ?_⟩) (by assumption) ?_
          rotate_left
          · intro w hSw
            (try dsimp only at hSw)
            go_simp
            try with_reducible rfl
          simp only [Act.put, List.setIfInBounds_toArray, List.set_cons_zero, List.set_cons_succ]
          refine take_d (i := 5) (d := some 115) (v := ?_) rfl rfl (by kernel_rfl) (by kernel_rfl) (by kernel_rfl) (fun _ _ _ h => h) (Or.inl ⟨by rfl, ?_⟩) (by assumption) ?_
          rotate_left
          · intro w hSw
            (try dsimp only at hSw)
            go_simp
            try with_reducible rfl
          simp only [Act.put, List.setIfInBounds_toArray, List.set_cons_zero, List.set_cons_succ]
          refine wpAnyH_ready (rs := [3]) (by kernel_rfl) (by simp) ?_
          refine AllReadyH.cons (o := { dst := some 113, op := Op.call { callee := Callee.value (Operand.func 50), args := #[Operand.tmp 112, Operand.const (Value.int IntKind.i64 2)], argTypes := #[3, 3] }, type := 9, pos := "ref.go:266", after := #[{ on := 2, ground := Ground.data }], guard := none }) rfl (fun K hK => ?_) AllReadyH.nil
          go_simp
          refine (rwritten_any fi 2 g0 (by omega) (by decide) _).mono ?_
          rintro e w7 ⟨rfl, hb7⟩
          rw [E1.out]
          go_wp2_with fail
          have hb7' : Below w6.heap.size w6 w7 := below_two ((Below.refl _ w6).drew) hb7
          refine hK.out _ _ (stC_cells (HA6.out.keep hb7')) (fun hHeld => ?_)
          clear hK K
          try simp only [Act.put, List.setIfInBounds_toArray, List.set_cons_zero, List.set_cons_succ]
          refine wpAnyH_ready (rs := [6]) (by kernel_rfl) (by simp) ?_
          refine AllReadyH.cons (o := { dst := some 116, op := Op.call { callee := Callee.value (Operand.func 50), args := #[Operand.tmp 115, Operand.const (Value.int IntKind.i64 4)], argTypes := #[3, 3] }, type := 9, pos := "ref.go:266", after := #[{ on := 5, ground := Ground.data }, { on := 3, ground := Ground.chain }], guard := none }) rfl (fun K hK => ?_) AllReadyH.nil
          go_simp
          refine (rwritten_any fv 4 g2 (by omega) (by decide) _).mono ?_
          rintro e w8 ⟨rfl, hb8⟩
          rw [E2.out]
          go_wp2_with fail
          have HB8 : Hid (Below w6.heap.size w6 w8) := hid' (below_two hb7' hb8)
          refine hK.out _ _ (stC_cells (HA6.out.keep HB8.out)) (fun hHeld => ?_)
          clear hK K
          try simp only [Act.put, List.setIfInBounds_toArray, List.set_cons_zero, List.set_cons_succ]
          refine take_d (i := 7) (d := some 117) (v := ?_) rfl rfl (by kernel_rfl) (by kernel_rfl) (by kernel_rfl) (fun _ _ _ h => h) (Or.inl ⟨by rfl, ?_⟩) (by assumption) ?_
          rotate_left
          · intro w hSw
            (try dsimp only at hSw)
            go_simp
            try with_reducible rfl
          simp only [Act.put, List.setIfInBounds_toArray, List.set_cons_zero, List.set_cons_succ]
          refine wpAnyH_ready (rs := [8]) (by kernel_rfl) (by simp) ?_
          refine AllReadyH.cons (o := { dst := some 118, op := Op.call { callee := Callee.builtin Builtin.append, args := #[Operand.tmp 110, Operand.tmp 117], argTypes := #[66, 9] }, type := 66, pos := "ref.go:266", after := #[{ on := 0, ground := Ground.data }, { on := 7, ground := Ground.data }, { on := 6, ground := Ground.chain }], guard := none }) rfl (fun K hK => ?_) AllReadyH.nil
          refine step_apps rfl _ _ rfl w.heap.size u10 (Fm.stB (ps.take i)) s6 rfl (own_keep HO6.out HB8.out) rfl (by have := HPL.out; omega) (Nat.le_trans HN6.out.bel.size HB8.out.size) ?_
          intro v9 w9 ho9 hn9
          refine hK.out _ _ (stC_cells (hn9.ar _ _ _ (by decide) (HA6.out.keep HB8.out))) (fun hHeld => ?_)
          clear hK K
          try simp only [Act.put, List.setIfInBounds_toArray, List.set_cons_zero, List.set_cons_succ]
          refine take_d (i := 9) (d := some 10) (v := ?_) rfl rfl (by kernel_rfl) (by kernel_rfl) (by kernel_rfl) (fun _ _ _ h => h) (Or.inl ⟨by rfl, ?_⟩) (by assumption) ?_
          rotate_left
          · intro w hSw
            (try dsimp only at hSw)
            go_simp
            try with_reducible rfl
          simp only [Act.put, List.setIfInBounds_toArray, List.set_cons_zero, List.set_cons_succ]
          refine wpAnyH_done (by kernel_rfl) ?_ _
          have HS9 : Hid (BR w9 w.heap.size v9 (Fm.stB (ps.take (i + 1))) ∧ NB w.heap.size w w9 ∧ (ps.take (i + 1)).all (fun x => Fm.fit2 x.1 && Fm.fit4 x.2) = true ∧ NB w.heap.size w0 w9) := hid' ⟨by rw [HT.out]; exact ho9, (HN6.out.trans (NB.of_below HB8.out HN6.out.bel.size)).trans hn9, HAL.out, (HZ6.out.trans (NB.of_below HB8.out HN6.out.bel.size)).trans hn9⟩
          clear hHeld ho9 hn9 hb7 hb8 hb7'
          go_wp2
          go_roundw
          case rel => exact ⟨i + 1, by go_num, by omega, HS9⟩
          case measure => simp [intOf]; omega
    · have hib : i = n := by omega
      have hlt2 : decide ((i : Int) < (n : Int)) = false := decide_eq_false (by omega)
      have hlt3 : decide (i < n) = false := decide_eq_false (by omega)
      have HE : Hid (BR wr w.heap.size u10 (Fm.stB ps)) := hid' (by
        have := HO0.out
        rw [hib, ← HN.out, List.take_length] at this
        exact this)
      have HFA : Hid (true = al) := hid' (by
        rw [← HALL.out, ← HQ0.out, hib, ← HN.out, List.take_length])
      obtain rfl := HFA.out
      have hcv := br_str HE.out
      obtain ⟨Y, hY⟩ : ∃ Y, Fm.stB ps = Y := ⟨_, rfl⟩
      rw [hY] at hcv
      have HY := hid' hY
      clear hlt hib HFA hY
      go_wp2
      go_ret2
      exact ⟨by rw [HY.out]; rfl, HN0.out.bel⟩

end Go.Proofs.Ythbidfcfkjamdaa
