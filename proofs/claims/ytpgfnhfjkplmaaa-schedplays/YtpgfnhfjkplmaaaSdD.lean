/-
  A row of tasks: has, put, remove, move: by their contracts.
-/
import Derived.Test.YtpgfnhfjkplmaaaSdC
namespace Go.Proofs.Ytpgfnhfjkplmaaa
open Go.RowKit

theorem nm_take (l : List Int) (i : Nat) : nmC (l.take i) = (nmC l).take i := by simp [nmC]
theorem nm_drop (l : List Int) (i : Nat) : nmC (l.drop i) = (nmC l).drop i := by simp [nmC]
theorem nm_ins (x : Int) (l : List Int) : nmC (Sd.ins x l) = (nmC l).take (Sd.pl x l) ++ .int .i64 x :: (nmC l).drop (Sd.pl x l) := by
  unfold Sd.ins; rw [nmC_append, nm_take, ← nm_drop]; rfl
theorem nm_rmv (x : Int) (l : List Int) : nmC (Sd.rmv x l) = (nmC l).take (Sd.pl x l) ++ (nmC l).drop (Sd.pl x l + 1) := by
  unfold Sd.rmv; rw [nmC_append, nm_take, nm_drop]
theorem alloc_ar {w : World} {b : Nat} {t : TypeId} {c : Array Value} (h : Ar w b t c) (o : Obj) : Ar (w.alloc o) b t c := h.keep ((Below.refl _ _).alloc (Nat.le_refl _) _)
theorem alloc_own {w : World} {B : Nat} {e : TypeId} {s : Nat} {v : Value} {n : Nat} {xs : List Value} (h : w.ownsRow B e s v n xs) (o : Obj) : (w.alloc o).ownsRow B e s v n xs := h.alloc o

theorem rhas (v : Value) (l : List Int) (x : Int) (b : Bool) (hb : decide (x ∈ l) = b) (w : World) (h : RQ w v l.length (nmC l)) (hl : l.length ≤ 65536) (hs : Sd.Rise l) :
    Calls Try.prog 21 #[v, .int .i64 x] w fun e w' => e = .returned (.bool b) ∧ w' = w := by
  have HC := hid' (bs_any v l x _ b rfl hb w h hl hs)
  clear hb h hl hs
  go_enter Try.func21, Try.ntmps21
  go_wp2_with fail
  refine HC.out.mono ?_
  rintro e w1 ⟨rfl, rfl⟩
  go_wp2
  go_ret
  exact ⟨rfl, rfl⟩

set_option maxHeartbeats 2000000 in
set_option maxRecDepth 20000 in
/-- One more is laid in. -/
theorem rput (B b o : Nat) (T : TypeId) (c : Array Value) (v : Value) (l : List Int) (x : Int) (w : World) (ha : Ar w b T c) (hT : T ≠ 3) (hc : c[o]? = some v) (h : w.ownsRow B 3 1 v l.length (nmC l)) (hl : l.length ≤ 65536) (hs : Sd.Rise l) (hB : B ≤ w.heap.size) :
    Calls Try.prog 22 #[.pointer (some ⟨b, o, none⟩), .int .i64 x] w fun e w' => e = .returned (.tuple #[]) ∧ ∃ v', (v'.ownBlock = v.ownBlock ∨ v'.ownBlock = some (w.heap.size + 1)) ∧ Ar w' b T (c.setIfInBounds o v') ∧ w'.ownsRow B 3 1 v' (Sd.ins x l).length (nmC (Sd.ins x l)) ∧ LF (fun k => k = b ∨ v.ownBlock = some k) w w' := by
  obtain ⟨i, hi⟩ : ∃ i, Sd.pl x l = i := ⟨_, rfl⟩
  obtain ⟨d, hd⟩ : ∃ d, decide (x ∈ l) = d := ⟨_, rfl⟩
  have hil : i ≤ l.length := by rw [← hi]; exact Sd.pl_le x l
  have HC := hid' (bs_any v l x i d hi hd w (RQ.of_own h) hl hs)
  have hcl := ha.cell o v hc
  have HA := hid' ha
  have HCO := hid' hc
  have H := hid' h
  have HI := hid' hi
  have hne : v.ownBlock ≠ some b := fun e => own_apart h ha hT b e rfl
  have hnew : v.ownBlock ≠ some w.heap.size := fun e => by have := own_lt h _ e; omega
  have hbw := ha.lt
  have HIN := hid' (ins_any B v l.length i x (nmC l) (w.alloc (.cells #[.int .i64 x] 3)) (h.alloc _) (nm_one l) hil hl (by simp; omega) w.heap.size (heap_alloc_last w _) hnew)
  have HNE := hid' hne
  obtain ⟨ao, cap, hv⟩ := own_shape h
  subst hv
  clear ha h hi hd hs hc hne hnew
  go_enter Try.func22, Try.ntmps22
  go_wp2_with fail
  refine HC.out.mono ?_
  rintro e w1 ⟨rfl, rfl⟩
  go_wp2_with fail
  refine HIN.out.mono ?_
  rintro e w2 ⟨⟨v', rfl, hat, ho⟩, hg⟩
  obtain ⟨vo, vc, hv⟩ := own_shape ho
  subst hv
  have ha2 : Ar w2 b T c := by
    have := alloc_ar HA.out (.cells #[.int .i64 x] 3)
    exact ar_grown this hg (fun k hk e => HNE.out (by rw [hk, e]))
  have hf2 := ha2.free o
  have hc2 := ha2.cell o _ HCO.out
  have HA2 := hid' ha2
  have HO := hid' ho
  have HAT := hid' hat
  have HG := hid' hg
  clear ha2 ho hat hg hcl
  go_wp2
  go_end0
  refine ⟨rfl, _, ?_, HA2.out.set o _, ?_, ?_⟩
  · rcases HAT.out with h1 | h1
    · exact .inl h1
    · exact .inr (by rw [h1]; simp)
  · rw [Sd.ins_len, nm_ins, HI.out]
    exact own_same HO.out (fun k hk => (upd_setCell w2 b o _).block k (fun e => own_apart HO.out HA2.out hT k hk e))
  · have l1 : LF (fun k => k = b ∨ (Value.slice ao l.length cap).ownBlock = some k) w1 (w1.alloc (.cells #[.int .i64 x] 3)) := LF.of_below ((Below.refl _ _).alloc (Nat.le_refl _) _)
    have l2 : LF (fun k => k = b ∨ (Value.slice ao l.length cap).ownBlock = some k) (w1.alloc (.cells #[.int .i64 x] 3)) w2 := LF.of_grown HG.out (fun k hk => .inr hk)
    exact (l1.trans l2 (fun _ _ h => h)).trans (LF.of_upd (upd_setCell w2 b o _) (.inl rfl)) (fun _ _ h => h)

set_option maxHeartbeats 2000000 in
set_option maxRecDepth 20000 in
theorem rremove_yes (B b o : Nat) (T : TypeId) (c : Array Value) (v : Value) (l : List Int) (x : Int) (w : World) (ha : Ar w b T c) (hT : T ≠ 3) (hc : c[o]? = some v) (h : w.ownsRow B 3 1 v l.length (nmC l)) (hl : l.length ≤ 65536) (hs : Sd.Rise l) (hm : x ∈ l) :
    Calls Try.prog 24 #[.pointer (some ⟨b, o, none⟩), .int .i64 x] w fun e w' => e = .returned (.bool true) ∧ ∃ v', v'.ownBlock = v.ownBlock ∧ Ar w' b T (c.setIfInBounds o v') ∧ w'.ownsRow B 3 1 v' (Sd.rmv x l).length (nmC (Sd.rmv x l)) ∧ LF (fun k => k = b ∨ v.ownBlock = some k) w w' := by
  obtain ⟨i, hi⟩ : ∃ i, Sd.pl x l = i := ⟨_, rfl⟩
  obtain ⟨j, hj⟩ : ∃ j, j = i + 1 := ⟨_, rfl⟩
  have hil : i < l.length := by rw [← hi]; exact (List.getElem?_eq_some_iff.1 ((Sd.mem_iff x l hs).1 hm)).1
  have HC := hid' (bs_any v l x i true hi (decide_eq_true hm) w (RQ.of_own h) hl hs)
  have HRL := hid' (Sd.rmv_len x l hs hm)
  have hcl := ha.cell o v hc
  have HA := hid' ha
  have HCO := hid' hc
  have HI := hid' hi
  have hne : v.ownBlock ≠ some b := fun e => own_apart h ha hT b e rfl
  have HDL := hid' (sdelI_any B v l.length i j (nmC l) w h hil hj hl (nm_one l))
  have HNE := hid' hne
  have hji : (i : Int) + 1 = (j : Int) := by omega
  have HJ := hid' hj
  obtain ⟨ao, cap, hv⟩ := own_shape h
  subst hv
  clear ha h hi hs hc hne hm hj
  go_enter Try.func24, Try.ntmps24
  go_wp2_with fail
  refine HC.out.mono ?_
  rintro e w1 ⟨rfl, rfl⟩
  go_wp2_with fail
  refine HDL.out.mono ?_
  rintro e w2 ⟨⟨v', rfl, hat, ho⟩, hg⟩
  obtain ⟨vo, vc, hv⟩ := own_shape ho
  subst hv
  have ha2 : Ar w2 b T c := ar_grown HA.out hg (fun k hk e => HNE.out (by rw [hk, e]))
  have hf2 := ha2.free o
  have hc2 := ha2.cell o _ HCO.out
  have HA2 := hid' ha2
  have HO := hid' ho
  have HAT := hid' hat
  have HG := hid' hg
  clear ha2 ho hat hg hcl
  go_wp2
  go_ret
  refine ⟨rfl, _, HAT.out, HA2.out.set o _, ?_, ?_⟩
  · rw [HRL.out, nm_rmv, HI.out, ← HJ.out]
    have := HO.out
    rw [Nat.mul_one, Nat.mul_one] at this
    exact own_same this (fun k hk => (upd_setCell w2 b o _).block k (fun e => own_apart HO.out HA2.out hT k hk e))
  · have l2 : LF (fun k => k = b ∨ (Value.slice ao l.length cap).ownBlock = some k) w1 w2 := LF.of_grown HG.out (fun k hk => .inr hk)
    exact l2.trans (LF.of_upd (upd_setCell w2 b o _) (.inl rfl)) (fun _ _ h => h)

set_option maxHeartbeats 2000000 in
theorem rremove_no (b o : Nat) (v : Value) (l : List Int) (x : Int) (w : World) (hcl : w.cell? ⟨b, o, none⟩ = some v) (h : RQ w v l.length (nmC l)) (hl : l.length ≤ 65536) (hs : Sd.Rise l) (hm : x ∉ l) :
    Calls Try.prog 24 #[.pointer (some ⟨b, o, none⟩), .int .i64 x] w fun e w' => e = .returned (.bool false) ∧ w' = w := by
  obtain ⟨i, hi⟩ : ∃ i, Sd.pl x l = i := ⟨_, rfl⟩
  have HC := hid' (bs_any v l x i false hi (decide_eq_false hm) w h hl hs)
  obtain ⟨ao, cap, hv⟩ := h.shape
  subst hv
  clear h hi hs hm
  go_enter Try.func24, Try.ntmps24
  go_wp2_with fail
  refine HC.out.mono ?_
  rintro e w1 ⟨rfl, rfl⟩
  go_wp2
  go_ret
  exact ⟨rfl, rfl⟩

end Go.Proofs.Ytpgfnhfjkplmaaa
