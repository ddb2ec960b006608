/-
  The document's queue: New, Put, Take, Drain: by their contracts.
-/
import Derived.Test.YtdhiaiafdhoeeaaRingM
import Derived.Test.YtdhiaiafdhoeeaaQuB
import Derived.Great.BuildSlice
import Derived.Deep.QuietTactic
namespace Go.Proofs.Ytdhiaiafdhoeeaa
open Go.RowKit

/-- The document's queue in memory. -/
structure DM (w : World) (B b size : Nat) (v : Value) (n : Nat) (xs : List Value) : Prop where
  ge : B ≤ b
  obj : Ar w b 41 #[.int .i64 (size : Int), v]
  row : Sl w B 3 1 v n xs
/-- Its blocks. -/
def DS (b : Nat) (v : Value) (k : Nat) : Prop := k = b ∨ v.ownBlock = some k
theorem DM.ne {w : World} {B b size n : Nat} {v : Value} {xs : List Value} (h : DM w B b size v n xs) : v.ownBlock ≠ some b := h.row.ne h.obj (by decide)
theorem DM.ds {w : World} {B b size n : Nat} {v : Value} {xs : List Value} (h : DM w B b size v n xs) : ∀ k, DS b v k → B ≤ k := by
  rintro k (rfl | hk)
  · exact h.ge
  · exact (h.row.lt k hk).1
theorem DM.other {S : Nat → Prop} {w w' : World} {B b size n : Nat} {v : Value} {xs : List Value} (h : DM w B b size v n xs) (hf : LF S w w') (hs : ∀ k, DS b v k → ¬ S k) : DM w' B b size v n xs :=
  ⟨h.ge, hf.ar h.obj (hs b (.inl rfl)), h.row.same (fun k hk => hf.block k (h.row.lt k hk).2 (hs k (.inr hk)))⟩
theorem DM.keep {w w' : World} {B b size n : Nat} {v : Value} {xs : List Value} (h : DM w B b size v n xs) (hb : Below w.heap.size w w') : DM w' B b size v n xs :=
  h.other (LF.of_below (S := fun _ => False) hb) (fun _ _ => id)
theorem DM.drewN {w : World} {B b size n : Nat} {v : Value} {xs : List Value} (h : DM w B b size v n xs) (q : Nat) : DM (w.drewN q) B b size v n xs := h.keep ⟨rfl, rfl, rfl, Nat.le_refl _, fun _ _ => rfl⟩
/-- Another row is laid into it. -/
theorem DM.put {w : World} {B b size n' : Nat} {v v' : Value} {xs' : List Value} (hb : B ≤ b) (ho : Ar w b 41 #[.int .i64 (size : Int), v]) (hr : Sl w B 3 1 v' n' xs') : DM (w.setCell ⟨b, 1, none⟩ v') B b size v' n' xs' :=
  ⟨hb, by have := ho.set 1 v'; simpa using this, hr.same fun k hk => (upd_setCell w b 1 v').block k (fun e => hr.ne ho (by decide) (by rw [hk, e]))⟩
theorem lf_set (w : World) (b i : Nat) (u : Value) (S : Nat → Prop) (hb : S b) : LF S w (w.setCell ⟨b, i, none⟩ u) := LF.of_upd (upd_setCell w b i u) hb
theorem lf_drewN (w : World) (S : Nat → Prop) (q : Nat) : LF S w (w.drewN q) := ⟨rfl, rfl, rfl, Nat.le_refl _, fun _ _ _ => rfl⟩

theorem dnew_no (n : Int) (h : n < 1 ∨ 65536 < n) (w : World) : Calls Try.prog 8 #[.int .i64 n] w fun e w' => e = .returned (.tuple #[.pointer none, .int .i64 1]) ∧ w' = w := by
  by_cases h1 : n < 1
  · clear h
    go_enter Try.func8, Try.ntmps8
    go_wp2
    go_ret2
    exact ⟨rfl, rfl⟩
  · have h2 : 65536 < n := by omega
    clear h
    go_enter Try.func8, Try.ntmps8
    go_wp2
    go_ret2
    exact ⟨rfl, rfl⟩
theorem dnew_yes (n : Nat) (h1 : 1 ≤ n) (h2 : n ≤ 65536) (w : World) : Calls Try.prog 8 #[.int .i64 (n : Int)] w fun e w' => (∃ b, e = .returned (.tuple #[.pointer (some ⟨b, 0, none⟩), .int .i64 0]) ∧ DM w' w.heap.size b n (.slice none 0 0) 0 []) ∧ Below w.heap.size w w' := by
  have h3 : ¬ (n : Int) < 1 := by omega
  have h4 : ¬ (65536 : Int) < n := by omega
  go_enter Try.func8, Try.ntmps8
  go_wp2
  go_ret2
  exact ⟨⟨_, rfl, Nat.le_refl _, heap_alloc_last w _, sl_nil _ _ _ _⟩, (Below.refl _ _).alloc (Nat.le_refl _) _⟩

set_option maxHeartbeats 1000000 in
theorem dput_no (B b size n : Nat) (v : Value) (xs : List Value) (x : Int) (w : World) (h : DM w B b size v n xs) (hn : size ≤ n) :
    Calls Try.prog 11 #[.pointer (some ⟨b, 0, none⟩), .int .i64 x] w fun e w' => e = .returned (.bool false) ∧ ∃ q, w' = w.drewN q := by
  obtain ⟨ao, cap, rfl, hc⟩ := h.row.shape
  have c0 := h.obj.cell 0 _ rfl
  have c1 := h.obj.cell 1 _ rfl
  have hd : decide ((size : Int) ≤ n) = true := decide_eq_true (by omega)
  have hd2 : (size : Int) ≤ n := by omega
  clear h
  go_enter Try.func11, Try.ntmps11
  go_wp2
  go_quiet (fail)
  go_wp2
  go_ret
  exact ⟨rfl, _, rfl⟩

set_option maxHeartbeats 1000000 in
theorem dput_yes (B b size n : Nat) (v : Value) (xs : List Value) (x : Int) (w : World) (h : DM w B b size v n xs) (hn : n < size) (hm : size ≤ 65536) :
    Calls Try.prog 11 #[.pointer (some ⟨b, 0, none⟩), .int .i64 x] w fun e w' => e = .returned (.bool true) ∧ ∃ v', DM w' B b size v' (n + 1) (xs ++ [.int .i64 x]) ∧ (∀ k, v'.ownBlock = some k → v.ownBlock = some k ∨ w.heap.size ≤ k) ∧ LF (DS b v) w w' := by
  obtain ⟨i0, hi, hz0, hz1, hz2⟩ := qinfo_parts (show (Try.prog.info? 3).map (fun i => (i.zero, i.size, i.bytes)) = some (some (.int .i64 0), 1, 8) by kernel_rfl)
  have HI := hid' hi
  have HZ0 := hid' hz0
  have HZ1 := hid' hz1
  have HZ2 := hid' hz2
  obtain ⟨ao, cap, rfl, hc⟩ := h.row.shape
  have c0 := h.obj.cell 0 _ rfl
  have c1 := h.obj.cell 1 _ rfl
  have hd : decide ((size : Int) ≤ n) = false := decide_eq_false (by omega)
  have hd2 : ¬ (size : Int) ≤ n := by omega
  have H := hid' h
  have hbw := h.obj.lt
  have hBw : B ≤ w.heap.size := Nat.le_trans h.ge (Nat.le_of_lt hbw)
  clear h hi hz0 hz1 hz2
  go_enter Try.func11, Try.ntmps11
  go_wp2
  go_quiet (fail)
  go_wp2_with (at_builtin; refine wpList_append_sl _ rfl _ _ 37 rfl B 3 i0 (.int .i64 0) 1 8 Try.underlying37 HI.out HZ0.out HZ1.out HZ2.out rfl (by decide) (.slice ao n cap) n xs rfl ((H.out.drewN _).row.alloc _) ⟨w.heap.size, 0, none⟩ 1 1 [.int .i64 x] rfl rfl (cell_one_new _ _ _) (by simp [Value.oneCell']) (by decide) (by unfold maxLen; omega) (by omega) (by simp; omega) ?_; intro g q cap2 w1 hrow hgrow hat; refine Hid.out ?_)
  refine hid ?_
  have hal : LF (DS b (.slice ao n cap)) w ((w.drewN nq).alloc (.cells #[.int .i64 x] 3)) := (lf_drewN w _ nq).trans (LF.of_below (S := DS b (.slice ao n cap)) ((Below.refl _ _).alloc (Nat.le_refl _) _)) (fun _ _ h => h)
  have hgr : LF (fun k => (Value.slice ao n cap).ownBlock = some k) ((w.drewN nq).alloc (.cells #[.int .i64 x] 3)) w1 := LF.of_grown hgrow (fun k hk => hk)
  have HT : Hid (LF (DS b (.slice ao n cap)) w w1) := hid' (hal.trans hgr (fun k _ hk => .inr hk))
  have ho1 : Ar w1 b 41 #[.int .i64 (size : Int), .slice ao n cap] := hgr.ar ((H.out.drewN nq).obj.keep ((Below.refl _ _).alloc (Nat.le_refl _) _)) H.out.ne
  have d1 := ho1.cell 1 _ rfl
  have f1 := ho1.free 1
  have HO := hid' ho1
  have HR := hid' hrow
  have HAT : Hid ((Value.slice ao n cap).ownBlock = some g ∨ w.heap.size ≤ g) := hid' (hat.imp id (fun h => by simp at h; omega))
  clear hgrow hal hgr ho1 hrow hat c0 c1
  go_wp2
  go_ret
  refine ⟨rfl, .slice (some ⟨g, q, none⟩) (n + 1) cap2, DM.put H.out.ge HO.out HR.out, fun k hk => ?_, HT.out.trans (lf_set _ _ _ _ (DS b (.slice ao n cap)) (.inl rfl)) (fun _ _ h => h)⟩
  simp only [Value.ownBlock, Option.some.injEq] at hk
  subst hk
  exact HAT.out

theorem dtake_none (B b size : Nat) (v : Value) (w : World) (h : DM w B b size v 0 []) :
    Calls Try.prog 13 #[.pointer (some ⟨b, 0, none⟩)] w fun e w' => e = .returned (.tuple #[.int .i64 0, .bool false]) ∧ w' = w := by
  obtain ⟨ao, cap, rfl, hc⟩ := h.row.shape
  have c1 := h.obj.cell 1 _ rfl
  clear h
  go_enter Try.func13, Try.ntmps13
  go_wp2
  go_ret2
  exact ⟨rfl, rfl⟩

set_option maxHeartbeats 1000000 in
theorem dtake_some (B b size n : Nat) (v : Value) (x : Int) (r : List Value) (w : World) (h : DM w B b size v (n + 1) (.int .i64 x :: r)) :
    Calls Try.prog 13 #[.pointer (some ⟨b, 0, none⟩)] w fun e w' => e = .returned (.tuple #[.int .i64 x, .bool true]) ∧ ∃ v', DM w' B b size v' n r ∧ (∀ k, v'.ownBlock = some k → v.ownBlock = some k) ∧ LF (DS b v) w w' := by
  obtain ⟨g, q, cap, rfl, hcap, hmx, hge, hgl⟩ := h.row.form (Nat.succ_pos n)
  have H := hid' h
  have c1 := h.obj.cell 1 _ rfl
  have f1 := h.obj.free 1
  have x0 : w.cell? ⟨g, q, none⟩ = some (.int .i64 x) := h.row.cellAt 0 (by omega)
  have hl0 : ((n : Int) + 1 == 0) = false := beq_false_of_ne (by omega)
  have hc2 : 1 ≤ cap := by omega
  have hmx2 : (cap : Int) ≤ 9223372036854775807 := by unfold maxLen at hmx; omega
  clear h
  by_cases hc1 : cap = 1
  · subst hc1
    obtain rfl : n = 0 := by omega
    obtain rfl : r = [] := List.eq_nil_of_length_eq_zero (by have := H.out.row.1; simpa using this)
    go_enter Try.func13, Try.ntmps13
    go_wp2
    go_ret2
    exact ⟨rfl, _, DM.put H.out.ge H.out.obj H.out.row.tail1, fun k hk => hk, lf_set _ _ _ _ _ (.inl rfl)⟩
  · go_enter Try.func13, Try.ntmps13
    go_wp2
    go_ret2
    exact ⟨rfl, _, DM.put H.out.ge H.out.obj (H.out.row.tail hc1), fun k hk => by simpa [Value.ownBlock] using hk, lf_set _ _ _ _ _ (.inl rfl)⟩

theorem ddrain (B b size n : Nat) (v : Value) (xs : List Value) (w : World) (h : DM w B b size v n xs) :
    Calls Try.prog 16 #[.pointer (some ⟨b, 0, none⟩)] w fun e w' => e = .returned v ∧ DM w' B b size (.slice none 0 0) 0 [] ∧ Sl w' B 3 1 v n xs ∧ LF (DS b v) w w' := by
  have H := hid' h
  obtain ⟨ao, cap, rfl, hc⟩ := h.row.shape
  have c1 := h.obj.cell 1 _ rfl
  have f1 := h.obj.free 1
  clear h
  go_enter Try.func16, Try.ntmps16
  go_wp2
  go_ret
  exact ⟨rfl, DM.put H.out.ge H.out.obj (sl_nil _ _ _ _), H.out.row.same (fun k hk => (upd_setCell w b 1 _).block k (fun e => H.out.ne (by rw [hk, e]))), lf_set _ _ _ _ _ (.inl rfl)⟩

end Go.Proofs.Ytdhiaiafdhoeeaa
