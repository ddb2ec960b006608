/-
  The scheduler: Drop, Ready, Pick: by their contracts; and of none.
-/
import Derived.Test.YtpgfnhfjkplmaaaSdG
import Derived.Maps.AppendAt
import Derived.Laws.Cover3
namespace Go.Proofs.Ytpgfnhfjkplmaaa
open Go.RowKit

/-- One row of it has one less. -/
theorem SM.less0 {w w' : World} {B b : Nat} {v u f : Value} {ts ts' : List (Int × Bool)} {l : List Int} (h : SM w B b v u ts) (hat : f.ownBlock = v.ownBlock) (hob : Ar w' b 46 #[f, u]) (hrw : w'.ownsRow B 3 1 f l.length (nmC l)) (hlf : LF (fun k => k = b ∨ v.ownBlock = some k) w w')
    (h1 : Sd.Ok ts') (h2 : Sd.row false ts' = l) (h3 : Sd.row true ts' = Sd.row true ts) (h4 : ts'.length ≤ ts.length) : SM w' B b f u ts' ∧ LF (SS b v u) w w' ∧ NewB w b v u f u := by
  refine ⟨⟨h.ge, hob, by rw [h2]; exact hrw, ?_, fun k hk => h.ap k (hat ▸ hk), h1, Nat.le_trans h4 h.le⟩, ⟨hlf.os, hlf.tape, hlf.output, hlf.size, fun k hk hs => hlf.block k hk (fun e => hs (e.elim .inl (fun e => .inr (.inl e))))⟩, fun k hk => .inl (hk.imp id (fun e => e.imp (fun e => hat ▸ e) id))⟩
  rw [h3]
  refine own_same h.rdy (fun k hk => hlf.block k (own_lt h.rdy k hk) ?_)
  rintro (rfl | e)
  · exact own_apart h.rdy h.obj (by decide) _ hk rfl
  · exact h.ap k e hk
theorem SM.less1 {w w' : World} {B b : Nat} {v u f : Value} {ts ts' : List (Int × Bool)} {l : List Int} (h : SM w B b v u ts) (hat : f.ownBlock = u.ownBlock) (hob : Ar w' b 46 #[v, f]) (hrw : w'.ownsRow B 3 1 f l.length (nmC l)) (hlf : LF (fun k => k = b ∨ u.ownBlock = some k) w w')
    (h1 : Sd.Ok ts') (h2 : Sd.row true ts' = l) (h3 : Sd.row false ts' = Sd.row false ts) (h4 : ts'.length ≤ ts.length) : SM w' B b v f ts' ∧ LF (SS b v u) w w' ∧ NewB w b v u v f := by
  refine ⟨⟨h.ge, hob, ?_, by rw [h2]; exact hrw, fun k hk e => h.ap k hk (hat ▸ e), h1, Nat.le_trans h4 h.le⟩, ⟨hlf.os, hlf.tape, hlf.output, hlf.size, fun k hk hs => hlf.block k hk (fun e => hs (e.elim .inl (fun e => .inr (.inr e))))⟩, fun k hk => .inl (hk.imp id (fun e => e.imp id (fun e => hat ▸ e)))⟩
  rw [h3]
  refine own_same h.asl (fun k hk => hlf.block k (own_lt h.asl k hk) ?_)
  rintro (rfl | e)
  · exact own_apart h.asl h.obj (by decide) _ hk rfl
  · exact h.ap k hk e

set_option maxHeartbeats 2000000 in
set_option maxRecDepth 20000 in
theorem sdrop {ts ts' : List (Int × Bool)} {x : Int} {t : Bool} (ho : DropOf ts x t ts') (B b : Nat) (v u : Value) (w : World) (h : SM w B b v u ts) :
    Calls Try.prog 9 #[.pointer (some ⟨b, 0, none⟩), .int .i64 x] w fun e w' => e = .returned (.bool t) ∧ ∃ v' u', SM w' B b v' u' ts' ∧ LF (SS b v u) w w' ∧ NewB w b v u v' u' := by
  have H := hid' h
  by_cases ha : x ∈ Sd.row false ts
  · have HC := hid' (rremove_yes B b 0 46 #[v, u] v (Sd.row false ts) x w h.obj (by decide) rfl h.asl (Nat.le_trans (h.len false) (by omega)) (Sd.row_rise _ _ h.ok) ha)
    rcases ho with ⟨rfl, ⟨c, h1⟩, rfl⟩ | ⟨rfl, h1, rfl⟩
    · have hsp := Sd.drop_spec ts x false h.ok ((Sd.row_mem false ts x).1 ha)
      have HS := hid' hsp
      clear h ha h1 hsp
      go_enter Try.func9, Try.ntmps9
      go_wp2_with fail
      refine HC.out.mono ?_
      rintro e w1 ⟨rfl, f', hat, hob, hrw, hlf⟩
      have HE := hid' (H.out.less0 (f := f') (ts' := Sd.tdrop x ts) hat (by simpa using hob) hrw hlf HS.out.1 HS.out.2.1 HS.out.2.2.1 (by have := HS.out.2.2.2; omega))
      clear hat hob hrw hlf
      go_wp2
      go_ret
      exact ⟨rfl, _, _, HE.out⟩
    · exact absurd ((Sd.ids_mem _ _).2 (.inl ha)) h1
  · have HA := hid' (rremove_no b 0 v (Sd.row false ts) x w (h.obj.cell 0 _ rfl) (RQ.of_own h.asl) (Nat.le_trans (h.len false) (by omega)) (Sd.row_rise _ _ h.ok) ha)
    by_cases hr : x ∈ Sd.row true ts
    · have HC := hid' (rremove_yes B b 1 46 #[v, u] u (Sd.row true ts) x w h.obj (by decide) rfl h.rdy (Nat.le_trans (h.len true) (by omega)) (Sd.row_rise _ _ h.ok) hr)
      rcases ho with ⟨rfl, ⟨c, h1⟩, rfl⟩ | ⟨rfl, h1, rfl⟩
      · have hsp := Sd.drop_spec ts x true h.ok ((Sd.row_mem true ts x).1 hr)
        have HS := hid' hsp
        clear h ha hr h1 hsp
        go_enter Try.func9, Try.ntmps9
        go_wp2_with fail
        refine HA.out.mono ?_
        rintro e w1 ⟨rfl, hw1⟩
        subst w1
        go_wp2_with fail
        refine HC.out.mono ?_
        rintro e w1 ⟨rfl, f', hat, hob, hrw, hlf⟩
        have HE := hid' (H.out.less1 (f := f') (ts' := Sd.tdrop x ts) hat (by simpa using hob) hrw hlf HS.out.1 HS.out.2.1 HS.out.2.2.1 (by have := HS.out.2.2.2; omega))
        clear hat hob hrw hlf
        go_wp2
        go_ret
        exact ⟨rfl, _, _, HE.out⟩
      · exact absurd ((Sd.ids_mem _ _).2 (.inr hr)) h1
    · have HC := hid' (rremove_no b 1 u (Sd.row true ts) x w (h.obj.cell 1 _ rfl) (RQ.of_own h.rdy) (Nat.le_trans (h.len true) (by omega)) (Sd.row_rise _ _ h.ok) hr)
      rcases ho with ⟨rfl, ⟨c, h1⟩, rfl⟩ | ⟨rfl, h1, rfl⟩
      · exfalso
        cases c
        · exact ha ((Sd.row_mem false ts x).2 h1)
        · exact hr ((Sd.row_mem true ts x).2 h1)
      · clear h ha hr h1
        go_enter Try.func9, Try.ntmps9
        go_wp2_with fail
        refine HA.out.mono ?_
        rintro e w1 ⟨rfl, hw1⟩
        subst w1
        go_wp2_with fail
        refine HC.out.mono ?_
        rintro e w1 ⟨rfl, hw1⟩
        subst w1
        go_wp2
        go_ret
        exact ⟨rfl, _, _, H.out, LF.refl _ _, fun k hk => .inl hk⟩

theorem eq_row_nil (a : Option Addr) (l c : Nat) (w : World) : (binOp .eql 44 (.slice a l c) (.slice none 0 0)).run Try.prog w = .ok (.bool a.isNone) w := by
  simp only [binOp]
  simp [run_equal_slice_nil w 44 3 a l c Try.underlying44]

set_option maxHeartbeats 2000000 in
set_option maxRecDepth 20000 in
/-- slices.Clone of a row. -/
theorem sclone (v : Value) (n : Nat) (l : List Int) (hn : l.length = n) (w : World) (h : RQ w v n (nmC l)) (hl : n ≤ 65536) :
    Calls Try.prog 26 #[v] w fun e w' => (∃ ro rc, e = .returned (.slice ro n rc) ∧ w'.ownsRow w.heap.size 3 1 (.slice ro n rc) n (nmC l)) ∧ Below w.heap.size w w' := by
  obtain ⟨i0, hi, hz0, hz1, hz2⟩ := sinfo_parts sinfoI
  have HI := hid' hi
  have HZ0 := hid' hz0
  have HZ1 := hid' hz1
  have HZ2 := hid' hz2
  have HN := hid' hn
  clear hi hz0 hz1 hz2 hn
  rcases h with ⟨rfl, rfl⟩ | ⟨a, cap, rfl, hc⟩
  · obtain rfl : l = [] := List.eq_nil_of_length_eq_zero HN.out
    have e1 := fun W => eq_row_nil none 0 0 W
    go_enter Try.func26, Try.ntmps26
    go_wp2
    go_ret
    exact ⟨⟨_, _, rfl, World.ownsRow_nil _ _ _ _⟩, Below.refl _ _⟩
  · have HC : Hid (∀ j u, (nmC l)[j]? = some u → (w.alloc (.cells #[] 3)).cell? (a.add j) = some u) := hid' (fun j u hj => (((Below.refl w.heap.size w).alloc (Nat.le_refl _) _).cell (hc j u hj).1).trans (hc j u hj).2)
    have HO : Hid ((w.alloc (.cells #[] 3)).ownsRow w.heap.size 3 1 (.slice (some ⟨w.heap.size, 0, none⟩) 0 0) 0 []) := hid' (World.ownsRow_made w #[] 0 (Nat.le_refl _) (by unfold maxLen; omega) rfl)
    have HB0 : Hid (Below w.heap.size w (w.alloc (.cells #[] 3))) := hid' ((Below.refl _ _).alloc (Nat.le_refl _) _)
    have HNL : Hid ((nmC l).length = n * 1) := hid' (by rw [nmC_length, HN.out, Nat.mul_one])
    have e1 := fun W => eq_row_nil (some a) n cap W
    clear hc
    go_enter Try.func26, Try.ntmps26
    go_wp2_with (at_builtin; refine wpList_append_own_at _ rfl _ _ 44 rfl w.heap.size 3 i0 (.int .i64 0) 1 8 Try.underlying44 HI.out HZ0.out HZ1.out HZ2.out rfl (by decide) _ 0 [] rfl HO.out a n cap (nmC l) rfl HNL.out HC.out (nm_one l) (by unfold maxLen; omega) (by omega) HB0.out.size ?_; intro v2 w2 hown2 hgrow2 _ _; refine Hid.out ?_)
    refine hid' ?_
    rw [Nat.zero_add, List.nil_append] at hown2
    obtain ⟨ro, rc, hv2⟩ := own_shape hown2
    subst hv2
    have HE := hid' hown2
    have HB : Hid (Below w.heap.size w w2) := hid' (HB0.out.grown hgrow2 HB0.out.size (fun k hk => (HO.out.lt k hk).1))
    clear hown2 hgrow2
    go_wp2
    go_ret
    exact ⟨⟨_, _, rfl, HE.out⟩, HB.out⟩

set_option maxHeartbeats 2000000 in
theorem sready (B b : Nat) (v u : Value) (ts : List (Int × Bool)) (n : Nat) (hn : (Sd.row true ts).length = n) (w : World) (h : SM w B b v u ts) :
    Calls Try.prog 16 #[.pointer (some ⟨b, 0, none⟩)] w fun e w' => (∃ ro rc, e = .returned (.slice ro n rc) ∧ w'.ownsRow w.heap.size 3 1 (.slice ro n rc) n (nmC (Sd.row true ts))) ∧ Below w.heap.size w w' := by
  have hr := RQ.of_own h.rdy
  rw [hn] at hr
  have HC := hid' (sclone u n (Sd.row true ts) hn w hr (by have := h.len true; omega))
  have c1 := h.obj.cell 1 _ rfl
  obtain ⟨ro, rc, hu⟩ := own_shape h.rdy
  subst hu
  rw [hn] at HC c1
  clear h hr hn
  go_enter Try.func16, Try.ntmps16
  go_wp2_with fail
  refine HC.out.mono ?_
  rintro e w1 ⟨⟨ro, rc, rfl, hr⟩, hb⟩
  have HE := hid' (And.intro hr hb)
  clear hr hb
  go_wp2
  go_ret
  exact ⟨⟨_, _, rfl, HE.out.1⟩, HE.out.2⟩

theorem spick_none (B b : Nat) (v u : Value) (ts : List (Int × Bool)) (n : Int) (w : World) (h : SM w B b v u ts) (h0 : (Sd.row true ts).length = 0) :
    Calls Try.prog 14 #[.pointer (some ⟨b, 0, none⟩), .int .i64 n] w fun e w' => e = .returned (.tuple #[.int .i64 0, .int .i64 120]) ∧ w' = w := by
  have c1 := h.obj.cell 1 _ rfl
  obtain ⟨ro, rc, hu⟩ := own_shape h.rdy
  subst hu
  rw [h0] at c1
  clear h h0
  go_enter Try.func14, Try.ntmps14
  go_wp2
  go_ret2
  exact ⟨rfl, rfl⟩

theorem rem_lo (n : Int) (k : Nat) (h0 : 0 < k) : -(k : Int) < n.tmod k ∧ n.tmod k < (k : Int) := by
  constructor
  · have := Int.lt_tmod_of_pos n (show (0 : Int) < k by omega); omega
  · exact Int.tmod_lt_of_pos n (by omega)
theorem rem_at (n : Int) (k j : Nat) (h0 : 0 < k) (hj : n % (k : Int) = (j : Int)) : (0 ≤ n.tmod k ∧ n.tmod k = (j : Int)) ∨ (n.tmod k < 0 ∧ n.tmod k + (k : Int) = (j : Int)) := by
  have h1 := rem_lo n k h0
  rw [Int.tmod_eq_emod] at *
  have : (k : Int).natAbs = k := by omega
  split at h1
  · rename_i hc; rw [if_pos hc]; left; have := Int.emod_nonneg n (show (k : Int) ≠ 0 by omega); omega
  · rename_i hc; rw [if_neg hc]; right; have := Int.emod_lt_of_pos n (show (0 : Int) < k by omega); omega

set_option maxHeartbeats 2000000 in
set_option maxRecDepth 20000 in
theorem spick_some (B b : Nat) (v u : Value) (ts : List (Int × Bool)) (n : Int) (k j : Nat) (y : Int) (w : World) (h : SM w B b v u ts) (hk : (Sd.row true ts).length = k) (h0 : 0 < k) (hj : n % (k : Int) = (j : Int)) (hy : (Sd.row true ts)[j]? = some y) :
    Calls Try.prog 14 #[.pointer (some ⟨b, 0, none⟩), .int .i64 n] w fun e w' => e = .returned (.tuple #[.int .i64 y, .int .i64 0]) ∧ w' = w := by
  have c1 := h.obj.cell 1 _ rfl
  have hr := RQ.of_own h.rdy
  have hl := h.len true
  have hjk : j < k := by rw [← hk]; exact (List.getElem?_eq_some_iff.1 hy).1
  obtain ⟨ro, rc, hu⟩ := own_shape h.rdy
  subst hu
  rw [hk] at c1 hr hl
  obtain ⟨a, hro, y0⟩ := hr.at h0 j _ (nm_at hy)
  subst hro
  have hk1 : ((k : Int) == 0) = false := beq_false_of_ne (by omega)
  have hk2 : ¬ (k : Int) = 0 := by omega
  have hk3 : ¬ k = 0 := by omega
  have hjk2 : (j : Int) < (k : Int) := by omega
  have hcs := rem_at n k j h0 hj
  have hlo := rem_lo n k h0
  clear h hr hj hy hk
  rcases hcs with ⟨h1, h2⟩ | ⟨h1, h2⟩
  · rw [h2] at h1 hlo
    have h3 : wrap64 (n.tmod (k : Int)) = (j : Int) := by rw [h2]; unfold wrap64; omega
    go_enter Try.func14, Try.ntmps14
    go_wp2
    go_ret2
    exact ⟨rfl, rfl⟩
  · obtain ⟨p, hp⟩ : ∃ p, n.tmod (k : Int) = p := ⟨_, rfl⟩
    rw [hp] at h1 h2 hlo
    have h3 : wrap64 (n.tmod (k : Int)) = p := by rw [hp]; unfold wrap64; omega
    go_enter Try.func14, Try.ntmps14
    go_wp2
    go_ret2
    exact ⟨rfl, rfl⟩

end Go.Proofs.Ytpgfnhfjkplmaaa
