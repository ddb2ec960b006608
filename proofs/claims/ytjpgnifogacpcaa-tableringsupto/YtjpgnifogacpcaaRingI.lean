/-
  table.Ring[int]: by its contracts.
-/
import Derived.Test.YtjpgnifogacpcaaRingM
import Derived.Great.BuildSlice
import Derived.Deep.QuietTactic
namespace Go.Proofs.Ytjpgnifogacpcaa
open Go.RowKit

/-- A ring at the head of an object: the row, and what else the object holds. -/
structure RG (w : World) (B b : Nat) (T e : TypeId) (s : Nat) (v : Value) (tl : List Value) (n : Nat) (xs : List Value) : Prop where
  ge : B ≤ b
  obj : Ar w b T (v :: tl).toArray
  row : Sl w B e s v n xs
  ne : v.ownBlock ≠ some b
theorem RG.keep {w w' : World} {B b : Nat} {T e : TypeId} {s : Nat} {v : Value} {tl : List Value} {n : Nat} {xs : List Value} (h : RG w B b T e s v tl n xs) (hb : Below w.heap.size w w') : RG w' B b T e s v tl n xs := ⟨h.ge, h.obj.keep hb, h.row.keep hb, h.ne⟩
theorem RG.drew {w : World} {B b : Nat} {T e : TypeId} {s : Nat} {v : Value} {tl : List Value} {n : Nat} {xs : List Value} (h : RG w B b T e s v tl n xs) : RG w.drew B b T e s v tl n xs := ⟨h.ge, h.obj, h.row, h.ne⟩
theorem RG.two {w w' : World} {B b c : Nat} {T e : TypeId} {s : Nat} {v : Value} {tl : List Value} {n : Nat} {xs : List Value} {row : Option Nat} (h : RG w B b T e s v tl n xs) (ht : Two c row w w') (h0 : b ≠ c) (h0' : row ≠ some b) (h1 : v.ownBlock ≠ some c) (h2 : ∀ k, v.ownBlock = some k → row ≠ some k) : RG w' B b T e s v tl n xs :=
  ⟨h.ge, ht.ar h.obj h0 h0', ht.sl h.row h1 h2, h.ne⟩
theorem RG.other {w : World} {B b c : Nat} {T e : TypeId} {s : Nat} {v : Value} {tl : List Value} {n : Nat} {xs : List Value} (h : RG w B b T e s v tl n xs) (i : Nat) (u : Value) (h0 : c ≠ b) (h1 : v.ownBlock ≠ some c) : RG (w.setCell ⟨c, i, none⟩ u) B b T e s v tl n xs :=
  ⟨h.ge, h.obj.other h0 i u, h.row.same fun k hk => (upd_setCell w c i u).block k (fun e => h1 (by rw [hk, e])), h.ne⟩
/-- Another row is laid into the object. -/
theorem RG.put {w : World} {B b : Nat} {T e : TypeId} {s : Nat} {v v' : Value} {tl : List Value} {n' : Nat} {xs' : List Value} (hb : B ≤ b) (ho : Ar w b T (v :: tl).toArray) (hr : Sl w B e s v' n' xs') (hne : v'.ownBlock ≠ some b) : RG (w.setCell ⟨b, 0, none⟩ v') B b T e s v' tl n' xs' :=
  ⟨hb, by have := ho.set 0 v'; simpa using this, hr.same fun k hk => (upd_setCell w b 0 v').block k (fun e => hne (by rw [hk, e])), hne⟩
/-- What else it holds is changed. -/
theorem RG.tail {w : World} {B b : Nat} {T e : TypeId} {s : Nat} {v : Value} {tl : List Value} {n : Nat} {xs : List Value} (h : RG w B b T e s v tl n xs) (i : Nat) (u : Value) : RG (w.setCell ⟨b, i + 1, none⟩ u) B b T e s v (tl.set i u) n xs :=
  ⟨h.ge, by have := h.obj.set (i + 1) u; simpa using this, h.row.same fun k hk => (upd_setCell w b (i + 1) u).block k (fun e => h.ne (by rw [hk, e])), h.ne⟩

theorem infoInt : (Try.prog.info? 3).map (fun i => (i.zero, i.size, i.bytes)) = some (some (.int .i64 0), 1, 8) := by kernel_rfl

theorem newI (B : Nat) (w : World) (hB : B ≤ w.heap.size) : Calls Try.prog 25 #[] w fun e w' => e = .returned (.pointer (some ⟨w.heap.size, 0, none⟩)) ∧ RG w' B w.heap.size 74 3 1 (.slice none 0 0) [] 0 [] ∧ Below w.heap.size w w' := by
  go_enter Try.func25, Try.ntmps25
  go_wp2
  go_ret
  exact ⟨rfl, ⟨hB, heap_alloc_last w _, sl_nil _ _ _ _, by simp [Value.ownBlock]⟩, (Below.refl _ _).alloc (Nat.le_refl _) _⟩

theorem lenI (B b : Nat) (T : TypeId) (v : Value) (tl : List Value) (n : Nat) (xs : List Value) (w : World) (h : RG w B b T 3 1 v tl n xs) :
    Calls Try.prog 33 #[.pointer (some ⟨b, 0, none⟩)] w fun e w' => e = .returned (.int .i64 (n : Int)) ∧ w' = w := by
  obtain ⟨ao, cap, rfl, hc⟩ := h.row.shape
  have c0 := h.obj.cell 0 _ rfl
  clear h
  go_enter Try.func33, Try.ntmps33
  go_wp2
  go_ret
  exact ⟨rfl, rfl⟩

set_option maxHeartbeats 1000000 in
theorem pushI (B b : Nat) (T : TypeId) (v : Value) (tl : List Value) (n : Nat) (xs : List Value) (x : Int) (w : World) (h : RG w B b T 3 1 v tl n xs) (hT : T ≠ 3) (hn : n < 140737488355328 / 8) (hB : B ≤ w.heap.size) :
    Calls Try.prog 29 #[.pointer (some ⟨b, 0, none⟩), .int .i64 x] w fun e w' => e = .returned (.tuple #[]) ∧ ∃ v', RG w' B b T 3 1 v' tl (n + 1) (xs ++ [.int .i64 x]) ∧ (∀ k, v'.ownBlock = some k → v.ownBlock = some k ∨ w.heap.size ≤ k) ∧ Two b v.ownBlock w w' := by
  obtain ⟨i0, hi, hz0, hz1, hz2⟩ := info_parts infoInt
  have HI := hid' hi
  have HZ0 := hid' hz0
  have HZ1 := hid' hz1
  have HZ2 := hid' hz2
  clear hi hz0 hz1 hz2
  have H := hid' h
  obtain ⟨ao, cap, rfl, hc⟩ := h.row.shape
  have c0 := h.obj.cell 0 _ rfl
  have f0 := h.obj.free 0
  have hbw := h.obj.lt
  clear h
  go_enter Try.func29, Try.ntmps29
  go_wp2_with (at_builtin; refine wpList_append_sl _ rfl _ _ 48 rfl B 3 i0 (.int .i64 0) 1 8 Try.underlying48 HI.out HZ0.out HZ1.out HZ2.out rfl (by decide) (.slice ao n cap) n xs rfl (H.out.row.alloc _) ⟨w.heap.size, 0, none⟩ 1 1 [.int .i64 x] rfl rfl (cell_one_new _ _ _) (by simp [Value.oneCell']) (by decide) (by unfold maxLen; omega) (by omega) (by simp; omega) ?_; intro g q cap2 w1 hrow hgrow hat; refine Hid.out ?_)
  refine hid ?_
  have hbl : Two b (Value.slice ao n cap).ownBlock w w1 := Two.and (Two.of_below ((Below.refl _ _).alloc (Nat.le_refl _) _)) (Two.of_grown hgrow)
  have HT := hid' hbl
  have ho1 : Ar w1 b T (Value.slice ao n cap :: tl).toArray := by
    have := Ar.keep H.out.obj ((Below.refl _ w).alloc (Nat.le_refl _) (.cells #[.int .i64 x] 3))
    unfold Ar at this ⊢
    rw [hgrow.block b (by simp; omega) (fun e => H.out.ne e.symm)]
    exact this
  have hne : (Value.slice (some ⟨g, q, none⟩) (n + 1) cap2).ownBlock ≠ some b := hrow.ne ho1 hT
  have c1 := ho1.cell 0 _ rfl
  have f1 := ho1.free 0
  have HO := hid' ho1
  have HR := hid' hrow
  have HAT : Hid ((Value.slice ao n cap).ownBlock = some g ∨ w.heap.size ≤ g) := hid' (hat.imp id (fun h => by simp at h; omega))
  clear hgrow hbl ho1 hrow hat c0 f0
  go_wp2
  go_end0
  refine ⟨rfl, .slice (some ⟨g, q, none⟩) (n + 1) cap2, RG.put H.out.ge HO.out HR.out hne, fun k hk => ?_, HT.out.and (Two.of_set _ _ _ _ _)⟩
  simp only [Value.ownBlock, Option.some.injEq] at hk
  subst hk
  exact HAT.out

theorem popI_none (B b : Nat) (T : TypeId) (v : Value) (tl : List Value) (w : World) (h : RG w B b T 3 1 v tl 0 []) :
    Calls Try.prog 27 #[.pointer (some ⟨b, 0, none⟩)] w fun e w' => e = .returned (.tuple #[.int .i64 0, .bool false]) ∧ w' = w := by
  have H := hid' h
  clear h
  go_enter Try.func27, Try.ntmps27
  go_wp2_with fail
  refine (lenI B b T v tl 0 [] _ H.out).mono ?_
  rintro e w1 ⟨rfl, rfl⟩
  go_wp2
  go_ret2
  exact ⟨rfl, rfl⟩

set_option maxHeartbeats 1000000 in
theorem popI_some (B b : Nat) (T : TypeId) (v : Value) (tl : List Value) (n : Nat) (x : Int) (r : List Value) (w : World) (h : RG w B b T 3 1 v tl (n + 1) (.int .i64 x :: r)) :
    Calls Try.prog 27 #[.pointer (some ⟨b, 0, none⟩)] w fun e w' => e = .returned (.tuple #[.int .i64 x, .bool true]) ∧ ∃ v', RG w' B b T 3 1 v' tl n r ∧ (∀ k, v'.ownBlock = some k → v.ownBlock = some k) ∧ Two b v.ownBlock w w' := by
  obtain ⟨g, q, cap, rfl, hcap, hmx, hge, hgl⟩ := h.row.form (Nat.succ_pos n)
  have H := hid' h
  have hgb : g ≠ b := fun e => h.ne (by simp [Value.ownBlock, e])
  have hbg : b ≠ g := fun e => hgb e.symm
  have c0 := h.obj.cell 0 _ rfl
  have f0 := h.obj.free 0
  have x0 : w.cell? ⟨g, q, none⟩ = some (.int .i64 x) := h.row.cellAt 0 (by omega)
  have y0 : w.frozen? ⟨g, q, none⟩ = false := h.row.freeAt q
  have hl0 : ((n : Int) + 1 == 0) = false := beq_false_of_ne (by omega)
  have hS := h.row.setAt 0 (.int .i64 0)
  simp only [List.set_cons_zero, Nat.add_zero] at hS
  have HS := hid' hS
  have HO : Hid (Ar (w.setCell ⟨g, q, none⟩ (.int .i64 0)) b T (Value.slice (some ⟨g, q, none⟩) (n + 1) cap :: tl).toArray) := hid' (h.obj.other hgb q _)
  have hc2 : 1 ≤ cap := by omega
  have hmx2 : (cap : Int) ≤ 9223372036854775807 := by unfold maxLen at hmx; omega
  clear h hS
  by_cases hn : n = 0
  · subst hn
    have hr : r = [] := List.eq_nil_of_length_eq_zero (by have := H.out.row.1; simpa using this)
    subst hr
    by_cases hc1 : cap = 1
    · subst hc1
      go_enter Try.func27, Try.ntmps27
      go_wp2_with fail
      refine (lenI B b T _ tl _ _ _ H.out).mono ?_
      rintro e w1 ⟨rfl, rfl⟩
      go_wp2
      go_ret2
      refine ⟨rfl, .slice none 0 0, ?_, fun k hk => by simp [Value.ownBlock] at hk, ((Two.of_set_row b g q _ w1).and (Two.of_set _ _ _ _ _)).and (Two.of_set _ _ _ _ _)⟩
      exact RG.put H.out.ge (by have := HO.out.set 0 (.slice (some ⟨g, q, none⟩) 0 0); simpa using this) (sl_nil _ _ _ _) (by simp [Value.ownBlock])
    · go_enter Try.func27, Try.ntmps27
      go_wp2_with fail
      refine (lenI B b T _ tl _ _ _ H.out).mono ?_
      rintro e w1 ⟨rfl, rfl⟩
      go_wp2
      go_ret2
      refine ⟨rfl, .slice none 0 0, ?_, fun k hk => by simp [Value.ownBlock] at hk, ((Two.of_set_row b g q _ w1).and (Two.of_set _ _ _ _ _)).and (Two.of_set _ _ _ _ _)⟩
      exact RG.put H.out.ge (by have := HO.out.set 0 (.slice (some ⟨g, q + 1, none⟩) 0 (cap - 1)); simpa using this) (sl_nil _ _ _ _) (by simp [Value.ownBlock])
  · have hc1 : cap ≠ 1 := by omega
    have hn0 : ((n : Int) == 0) = false := beq_false_of_ne (by omega)
    have hn1 : (n == 0) = false := beq_false_of_ne (by omega)
    go_enter Try.func27, Try.ntmps27
    go_wp2_with fail
    refine (lenI B b T _ tl _ _ _ H.out).mono ?_
    rintro e w1 ⟨rfl, rfl⟩
    go_wp2
    go_ret2
    refine ⟨rfl, .slice (some ⟨g, q + 1, none⟩) n (cap - 1), ?_, fun k hk => by simpa [Value.ownBlock] using hk, (Two.of_set_row b g q _ w1).and (Two.of_set _ _ _ _ _)⟩
    exact RG.put H.out.ge HO.out (HS.out.tail hc1) (by simpa [Value.ownBlock] using hgb)

theorem atI_no (B b : Nat) (T : TypeId) (v : Value) (tl : List Value) (n : Nat) (xs : List Value) (i : Int) (w : World) (h : RG w B b T 3 1 v tl n xs) (hi : i < 0 ∨ (n : Int) ≤ i) :
    Calls Try.prog 32 #[.pointer (some ⟨b, 0, none⟩), .int .i64 i] w fun e w' => e = .returned (.tuple #[.int .i64 0, .bool false]) ∧ w' = w := by
  have H := hid' h
  clear h
  by_cases h0 : i < 0
  · have hd : decide (i < 0) = true := decide_eq_true h0
    clear hi h0
    go_enter Try.func32, Try.ntmps32
    go_wp2
    go_ret2
    exact ⟨rfl, rfl⟩
  · have hd : decide (i < 0) = false := decide_eq_false h0
    have hd2 : decide ((n : Int) ≤ i) = true := decide_eq_true (by omega)
    clear hi h0
    go_enter Try.func32, Try.ntmps32
    go_wp2_with fail
    refine (lenI B b T v tl n xs _ H.out).mono ?_
    rintro e w1 ⟨rfl, rfl⟩
    go_wp2
    go_ret2
    exact ⟨rfl, rfl⟩

set_option maxHeartbeats 1000000 in
theorem atI_yes (B b : Nat) (T : TypeId) (v : Value) (tl : List Value) (n : Nat) (xs : List Value) (i : Nat) (x : Int) (w : World) (h : RG w B b T 3 1 v tl n xs) (hi : i < n) (hn : n ≤ 140737488355328) (hx : xs[n - 1 - i]? = some (.int .i64 x)) :
    Calls Try.prog 32 #[.pointer (some ⟨b, 0, none⟩), .int .i64 (i : Int)] w fun e w' => e = .returned (.tuple #[.int .i64 x, .bool true]) ∧ ∃ nq, w' = w.drewN nq := by
  have H := hid' h
  obtain ⟨g, q, cap, rfl, hcap, hmx, hge, hgl⟩ := h.row.form (by omega)
  have c0 := h.obj.cell 0 _ rfl
  obtain ⟨j, hj⟩ : ∃ j, n - 1 - i = j := ⟨_, rfl⟩
  rw [hj] at hx
  have x0 : w.cell? ⟨g, q + j, none⟩ = some (.int .i64 x) := (h.row.cellAt j (by omega)).trans hx
  have hjI : (n : Int) - 1 - (i : Int) = (j : Int) := by omega
  have hjn : j < n := by omega
  have hd : decide ((i : Int) < 0) = false := decide_eq_false (by omega)
  have hd2 : decide ((n : Int) ≤ (i : Int)) = false := decide_eq_false (by omega)
  have hd3 : decide (n ≤ i) = false := decide_eq_false (by omega)
  clear h hx hj
  go_enter Try.func32, Try.ntmps32
  go_wp2_with fail
  refine (lenI B b T _ tl n xs _ H.out).mono ?_
  rintro e w1 ⟨rfl, rfl⟩
  go_wp2
  go_quiet ((fail))
  go_wp2
  go_ret2
  exact ⟨rfl, _, rfl⟩

end Go.Proofs.Ytjpgnifogacpcaa
