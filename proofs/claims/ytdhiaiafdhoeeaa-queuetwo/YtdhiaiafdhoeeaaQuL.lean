/-
  The code's queue of []int: New, Put, Take, Len, Room: by their contracts.
-/
import Derived.Test.YtdhiaiafdhoeeaaQuA
import Derived.BigQuiet
import Derived.Deep.RegionHeld3
namespace Go.Proofs.Ytdhiaiafdhoeeaa
open Go.RowKit Go.Conc

theorem qput_yes_L (X : Nat → Prop) (B b c cap : Nat) (xs : List Value) (x : Option Addr) (n m : Nat) (w : World) (h : QM 68 37 X w B b c cap xs) (hr : xs.length < cap) (hX : ∀ k, X k → k < w.heap.size) :
    Calls Try.prog 26 #[.pointer (some ⟨b, 0, none⟩), .slice x n m] w fun e w' => e = .returned (.bool true) ∧ QM 68 37 X w' B b c cap (xs ++ [.slice x n m]) ∧ LF (· = c) w w' := by
  have H := hid' h
  have HX := hid' hX
  clear h hX
  refine callsN Try.func26 rfl ?_
  simp only [Try.ntmps26, List.size_toArray, List.length_cons, List.length_nil, Nat.reduceAdd, Nat.reduceSub, Array.replicate_succ, Array.replicate_zero, List.push_toArray, List.append_toArray, List.nil_append, List.cons_append]
  refine wpN_seq_k (fun _ _ => ?_)
  go_wp2
  have HA : Hid (Ar (w.alloc (.cells #[.slice x n m] 37)) w.heap.size 37 #[.slice x n m]) := hid' (heap_alloc_last w _)
  have HB : Hid (Below w.heap.size w (w.alloc (.cells #[.slice x n m] 37))) := hid' ((Below.refl _ _).alloc (Nat.le_refl _) _)
  obtain ⟨p, hp⟩ : ∃ p, w.heap.size = p := ⟨_, rfl⟩
  have HP := hid' hp
  rw [hp] at HA HB ⊢
  clear hp
  generalize w.alloc (.cells #[.slice x n m] 37) = w1 at *
  have H1 : Hid (QM 68 37 X w1 B b c cap xs) := hid' (H.out.keep (by rw [HP.out]; exact HB.out))
  have HL : Hid (LF (· = c) w w1) := hid' (LF.of_below (by rw [HP.out]; exact HB.out))
  have c0 := H1.out.hd.cell 0 _ rfl
  obtain ⟨ps, ⟨s, r, hc⟩, hbx⟩ := H1.out.chx
  have HC := hid' hc
  have HBX := hid' hbx
  have hl : (ps.map pv).toArray.size < cap := by simpa [HBX.out.len] using hr
  clear hc hbx
  refine wpN_seq_k (fun _ _ => ?_)
  go_wp2
  refine wpN_seq_k (fun _ _ => ?_)
  go_wp2
  refine wpN_seq_n (fun K hK => wpN_region ?_)
  refine opsN_put (c := c) (v := pv p) (z := .pointer none) rfl rfl (by simp [go_sem, execOp, scase, Act.eval, pv]) HC.out hl ?_
  refine opsN_op rfl rfl (fun _ hK => ?_)
  go_simp
  refine hK _ _ ?_
  clear hK
  refine opsN_op rfl rfl (fun _ hK => ?_)
  go_simp
  refine hK _ _ ?_
  clear hK
  refine opsN_nil (hK _ _ (wpN_of_wp ?_))
  go_wp2
  go_ret
  refine ⟨rfl, H1.out.set (ps ++ [p]) (HBX.out.snoc HA.out (fun hx => ?_)) _ (by simp) _ _, HL.out.trans (lf_setChan _ _ _ _ _ _ _ _) (fun _ _ h => h)⟩
  have := HX.out p hx
  have := HP.out
  omega
theorem qput_no_L (X : Nat → Prop) (B b c cap : Nat) (xs : List Value) (x : Option Addr) (n m : Nat) (w : World) (h : QM 68 37 X w B b c cap xs) (hr : cap ≤ xs.length) :
    Calls Try.prog 26 #[.pointer (some ⟨b, 0, none⟩), .slice x n m] w fun e w' => e = .returned (.bool false) ∧ Below w.heap.size w w' := by
  have H := hid' h
  clear h
  refine callsN Try.func26 rfl ?_
  simp only [Try.ntmps26, List.size_toArray, List.length_cons, List.length_nil, Nat.reduceAdd, Nat.reduceSub, Array.replicate_succ, Array.replicate_zero, List.push_toArray, List.append_toArray, List.nil_append, List.cons_append]
  refine wpN_seq_k (fun _ _ => ?_)
  go_wp2
  have HA : Hid (Ar (w.alloc (.cells #[.slice x n m] 37)) w.heap.size 37 #[.slice x n m]) := hid' (heap_alloc_last w _)
  have HB : Hid (Below w.heap.size w (w.alloc (.cells #[.slice x n m] 37))) := hid' ((Below.refl _ _).alloc (Nat.le_refl _) _)
  obtain ⟨p, hp⟩ : ∃ p, w.heap.size = p := ⟨_, rfl⟩
  have HP := hid' hp
  rw [hp] at HA HB ⊢
  clear hp
  generalize w.alloc (.cells #[.slice x n m] 37) = w1 at *
  have H1 : Hid (QM 68 37 X w1 B b c cap xs) := hid' (H.out.keep (by rw [HP.out]; exact HB.out))
  have HL : Hid (LF (· = c) w w1) := hid' (LF.of_below (by rw [HP.out]; exact HB.out))
  have c0 := H1.out.hd.cell 0 _ rfl
  obtain ⟨ps, ⟨s, r, hc⟩, hbx⟩ := H1.out.chx
  have HC := hid' hc
  have hl : cap ≤ (ps.map pv).toArray.size := by simpa [hbx.len] using hr
  clear hc hbx
  refine wpN_seq_k (fun _ _ => ?_)
  go_wp2
  refine wpN_seq_k (fun _ _ => ?_)
  go_wp2
  refine wpN_seq_n (fun K hK => wpN_region ?_)
  refine opsN_full (c := c) (v := pv p) (z := .pointer none) rfl rfl (by simp [go_sem, execOp, scase, Act.eval, pv]) HC.out hl ?_
  refine opsN_op rfl rfl (fun _ hK => ?_)
  go_simp
  refine hK _ _ ?_
  clear hK
  refine opsN_op rfl rfl (fun _ hK => ?_)
  go_simp
  refine hK _ _ ?_
  clear hK
  refine opsN_nil (hK _ _ (wpN_of_wp ?_))
  go_wp2
  go_ret
  exact ⟨rfl, HB.out⟩
theorem qput_nil_L (x : Option Addr) (n m : Nat) (w : World) : Calls Try.prog 26 #[.pointer none, .slice x n m] w fun e w' => e = .returned (.bool false) ∧ Below w.heap.size w w' := by
  go_enter Try.func26, Try.ntmps26
  go_wp2
  go_ret
  exact ⟨rfl, (Below.refl _ _).alloc (Nat.le_refl _) _⟩

theorem qtake_some_L (X : Nat → Prop) (B b c cap : Nat) (xs : List Value) (x : Option Addr) (n m : Nat) (w : World) (h : QM 68 37 X w B b c cap (.slice x n m :: xs)) :
    Calls Try.prog 29 #[.pointer (some ⟨b, 0, none⟩)] w fun e w' => e = .returned (.tuple #[.slice x n m, .bool true]) ∧ QM 68 37 X w' B b c cap xs ∧ LF (· = c) w w' := by
  have c0 := h.hd.cell 0 _ rfl
  have H := hid' h
  obtain ⟨ps0, ⟨s, r, hc⟩, hbx⟩ := h.chx
  obtain ⟨p, ps, hps, ha, HBX⟩ : ∃ p ps, ps0 = p :: ps ∧ Ar w p 37 #[.slice x n m] ∧ Hid (Bx w 37 X ps xs) := by
    cases hbx with
    | cons h1 h2 h3 => exact ⟨_, _, rfl, h1, hid' h3⟩
  subst hps
  have HC := hid' hc
  have HA := hid' ha
  clear h hc hbx ha
  refine callsN Try.func29 rfl ?_
  simp only [Try.ntmps29, List.size_toArray, List.length_cons, List.length_nil, Nat.reduceAdd, Nat.reduceSub, Array.replicate_succ, Array.replicate_zero, List.push_toArray, List.append_toArray, List.nil_append, List.cons_append]
  refine wpN_seq_k (fun _ _ => ?_)
  go_wp2
  refine wpN_seq_k (fun _ _ => ?_)
  go_wp2
  refine wpN_seq_k (fun _ _ => ?_)
  go_wp2
  refine wpN_seq_k (fun _ _ => ?_)
  go_wp2
  refine wpN_seq_n (fun K hK => wpN_region ?_)
  refine opsN_take (c := c) (z := .pointer none) rfl rfl (by simp [go_sem, execOp, rcase, Act.eval]) HC.out (by simp) ?_
  have HQ : Hid (QM 68 37 X (w.setChan c cap (((p :: ps).map pv).toArray.extract 1 ((p :: ps).map pv).toArray.size) false s (r + 1) false) B b c cap xs) := hid' (H.out.set ps HBX.out _ (by simp [List.take_of_length_le]) _ _)
  have HL : Hid (LF (· = c) w (w.setChan c cap (((p :: ps).map pv).toArray.extract 1 ((p :: ps).map pv).toArray.size) false s (r + 1) false)) := hid' (lf_setChan _ _ _ _ _ _ _ _)
  have hg : ((p :: ps).map pv).toArray.getD 0 undef = .pointer (some ⟨p, 0, none⟩) := rfl
  rw [hg]
  generalize w.setChan c cap (((p :: ps).map pv).toArray.extract 1 ((p :: ps).map pv).toArray.size) false s (r + 1) false = w1 at *
  obtain ⟨_, hch⟩ := H.out.ch
  have x0 : w1.cell? ⟨p, 0, none⟩ = some (.slice x n m) := (HL.out.ar HA.out (hch.nak HA.out)).cell 0 _ rfl
  clear hg hch c0
  refine opsN_op rfl rfl (fun _ hK => ?_)
  go_simp
  refine hK _ _ ?_
  clear hK
  refine opsN_op rfl rfl (fun _ hK => ?_)
  go_simp
  refine hK _ _ ?_
  clear hK
  refine opsN_nil (hK _ _ (wpN_of_wp ?_))
  go_wp2
  go_ret2
  exact ⟨rfl, HQ.out, HL.out⟩
theorem qtake_none_L (X : Nat → Prop) (B b c cap : Nat) (w : World) (h : QM 68 37 X w B b c cap []) :
    Calls Try.prog 29 #[.pointer (some ⟨b, 0, none⟩)] w fun e w' => e = .returned (.tuple #[.slice none 0 0, .bool false]) ∧ w' = w := by
  have c0 := h.hd.cell 0 _ rfl
  obtain ⟨ps, ⟨s, r, hc⟩, hbx⟩ := h.chx
  cases hbx
  have HC := hid' hc
  clear h hc
  refine callsN Try.func29 rfl ?_
  simp only [Try.ntmps29, List.size_toArray, List.length_cons, List.length_nil, Nat.reduceAdd, Nat.reduceSub, Array.replicate_succ, Array.replicate_zero, List.push_toArray, List.append_toArray, List.nil_append, List.cons_append]
  refine wpN_seq_k (fun _ _ => ?_)
  go_wp2
  refine wpN_seq_k (fun _ _ => ?_)
  go_wp2
  refine wpN_seq_k (fun _ _ => ?_)
  go_wp2
  refine wpN_seq_k (fun _ _ => ?_)
  go_wp2
  refine wpN_seq_n (fun K hK => wpN_region ?_)
  refine opsN_none (c := c) (z := .pointer none) rfl rfl (by simp [go_sem, execOp, rcase, Act.eval]) HC.out ?_
  refine opsN_op rfl rfl (fun _ hK => ?_)
  go_simp
  refine hK _ _ ?_
  clear hK
  refine opsN_op rfl rfl (fun _ hK => ?_)
  go_simp
  refine hK _ _ ?_
  clear hK
  refine opsN_nil (hK _ _ (wpN_of_wp ?_))
  go_wp2
  go_ret2
  exact ⟨rfl, rfl⟩
theorem qtake_nil_L (w : World) : Calls Try.prog 29 #[.pointer none] w fun e w' => e = .returned (.tuple #[.slice none 0 0, .bool false]) ∧ w' = w := by
  go_enter Try.func29, Try.ntmps29
  go_wp2
  go_ret2
  exact ⟨rfl, rfl⟩

theorem qlen_L (X : Nat → Prop) (B b c cap : Nat) (xs : List Value) (w : World) (h : QM 68 37 X w B b c cap xs) :
    Calls Try.prog 27 #[.pointer (some ⟨b, 0, none⟩)] w fun e w' => e = .returned (.int .i64 (xs.length : Int)) ∧ w' = w := by
  have c0 := h.hd.cell 0 _ rfl
  obtain ⟨ps, ⟨s, r, hc⟩, hbx⟩ := h.chx
  have hl := fun ty => run_len_chan 66 ty Try.underlying66 hc
  simp only [List.size_toArray, List.length_map, hbx.len] at hl
  clear h hc hbx
  go_enter Try.func27, Try.ntmps27
  go_wp2
  go_ret
  exact ⟨rfl, rfl⟩
theorem qlen_nil_L (w : World) : Calls Try.prog 27 #[.pointer none] w fun e w' => e = .returned (.int .i64 0) ∧ w' = w := by
  go_enter Try.func27, Try.ntmps27
  go_wp2
  go_ret
  exact ⟨rfl, rfl⟩

theorem qnew_no_L (n : Int) (h : n < 1 ∨ 65536 < n) (w : World) : Calls Try.prog 25 #[.int .i64 n] w fun e w' => e = .returned (.tuple #[.pointer none, .int .i64 1]) ∧ w' = w := by
  by_cases h1 : n < 1
  · clear h
    go_enter Try.func25, Try.ntmps25
    go_wp2
    go_ret2
    exact ⟨rfl, rfl⟩
  · have h2 : 65536 < n := by omega
    clear h
    go_enter Try.func25, Try.ntmps25
    go_wp2
    go_ret2
    exact ⟨rfl, rfl⟩
theorem qnew_yes_L (X : Nat → Prop) (n : Nat) (h1 : 1 ≤ n) (h2 : n ≤ 65536) (w : World) : Calls Try.prog 25 #[.int .i64 (n : Int)] w fun e w' => (∃ b c, e = .returned (.tuple #[.pointer (some ⟨b, 0, none⟩), .int .i64 0]) ∧ QM 68 37 X w' w.heap.size b c n []) ∧ Below w.heap.size w w' := by
  have hi : Try.prog.info? 69 = some (Option.get (Try.prog.info? 69) (by kernel_rfl)) := (Option.some_get _).symm
  have hm := run_makeChan (P := Try.prog) (w := w) Try.underlying66 hi .i64 n (by omega) (by
    have hz : (Option.get (Try.prog.info? 69) (by kernel_rfl)).bytes ≤ 24 := by decide_cbv
    have : ((Option.get (Try.prog.info? 69) (by kernel_rfl)).bytes : Int) * n ≤ 24 * 65536 := Int.mul_le_mul (by omega) (by omega) (by omega) (by omega)
    omega)
  clear hi
  have h3 : ¬ (n : Int) < 1 := by omega
  have h4 : ¬ (65536 : Int) < n := by omega
  have H1 := hid' h1
  have H2 := hid' h2
  clear h1 h2
  go_enter Try.func25, Try.ntmps25
  go_wp2
  go_ret2
  refine ⟨⟨_, rfl, _, Nat.le_succ _, Nat.le_refl _, ?_, [], ⟨0, 0, ?_⟩, .nil⟩, ((Below.refl _ _).alloc (Nat.le_refl _) _).alloc (by simp) _⟩
  · unfold Ar
    rw [show w.heap.size + 1 = (w.alloc (Obj.chan n #[] false 0 0 false)).heap.size by simp]
    exact heap_alloc_last _ _
  · exact (((Below.refl _ _).alloc (Nat.le_refl _) _).block w.heap.size (by simp)).trans (heap_alloc_last _ _)

end Go.Proofs.Ytdhiaiafdhoeeaa
