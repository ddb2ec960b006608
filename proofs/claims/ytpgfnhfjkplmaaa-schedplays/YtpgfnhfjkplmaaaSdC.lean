/-
  slices.Insert of one number into a row: by its contract.
-/
import Derived.Test.YtpgfnhfjkplmaaaSdB
import Derived.Lib.Overlaps
import Derived.Lib.AppendZerosOnto
import Derived.Laws.NewBlocks
namespace Go.Proofs.Ytpgfnhfjkplmaaa
open Go.RowKit

theorem ar_shape {w : World} {b : Nat} {t : TypeId} {c : Array Value} (h : Ar w b t c) : w.shape? b = some (t, c.size) := by
  unfold Ar at h
  simp [World.shape?, h]
theorem lay_xr (c : Array Value) (xs : List Value) (i n : Nat) (x : Value) (hc : c.toList.take i = xs.take i) (hl : xs.length = n) (hi : i ≤ n) (hn : n + 1 ≤ c.size) :
    (layc (layc c i [x]) (i + 1) (xs.drop i)).toList.take (n + 1) = xs.take i ++ x :: xs.drop i := by
  have hd : (xs.drop i).length = n - i := by rw [List.length_drop, hl]
  have ht : (xs.take i).length = i := by rw [List.length_take, hl]; omega
  rw [layc_list _ _ _ (by rw [layc_size, hd]; omega), layc_list _ _ _ (by simp; omega), hc]
  have e1 : (xs.take i ++ [x] ++ c.toList.drop (i + [x].length)).take (i + 1) = xs.take i ++ [x] := by
    rw [List.take_append_of_le_length (by simp; omega), List.take_of_length_le (by simp; omega)]
  rw [e1, List.take_append_of_le_length (by simp; omega), List.take_of_length_le (by simp; omega)]
  simp
theorem lay_rx (c : Array Value) (xs : List Value) (i n : Nat) (x : Value) (hc : c.toList.take i = xs.take i) (hl : xs.length = n) (hi : i ≤ n) (hn : n + 1 ≤ c.size) :
    (layc (layc c (i + 1) (xs.drop i)) i [x]).toList.take (n + 1) = xs.take i ++ x :: xs.drop i := by
  have hd : (xs.drop i).length = n - i := by rw [List.length_drop, hl]
  have ht : (xs.take i).length = i := by rw [List.length_take, hl]; omega
  have hct : (c.toList.take (i + 1)).length = i + 1 := by rw [List.length_take, Array.length_toList]; omega
  rw [layc_list _ _ _ (by rw [layc_size]; simp; omega), layc_list _ _ _ (by rw [hd]; omega)]
  have e1 : (c.toList.take (i + 1) ++ xs.drop i ++ c.toList.drop (i + 1 + (xs.drop i).length)).take i = xs.take i := by
    rw [List.append_assoc, List.take_append_of_le_length (by omega), List.take_take, Nat.min_eq_left (by omega), hc]
  have e2 : (c.toList.take (i + 1) ++ xs.drop i ++ c.toList.drop (i + 1 + (xs.drop i).length)).drop (i + [x].length) = xs.drop i ++ c.toList.drop (i + 1 + (xs.drop i).length) := by
    rw [List.append_assoc, List.drop_append_of_le_length (by simp; omega), List.drop_of_length_le (by simp; omega), List.nil_append]
  rw [e1, e2, ← List.append_assoc, List.take_append_of_le_length (by simp; omega), List.take_of_length_le (by simp; omega)]
  simp

section
variable {P : Program}
theorem wpl_copy {w : World} {ops : Array Oper} {rest : List Oper} {o : Oper} {a : Act} {Q : Exit → Act → World → Prop} (hgd : o.guard = none) (d s : Operand) (t t' : TypeId)
    (ho : o.op = .call { callee := .builtin .copy, args := #[d, s], argTypes := #[t, t'] }) (v u : Value) (hd : a.eval d = v) (hs : a.eval s = u) {v' : Value} {w' : World}
    (hr : (Builtin.copy_ #[t, t'] o.type #[v, u]).run P w = .ok v' w') (h : wpList P ops Q rest (a.put o.dst v') w') : wpList P ops Q (o :: rest) a w := by
  refine wpList_plain hgd fun _ hK => ?_
  unfold Oper.wp execOp
  simp only [ho, resolve, invoke, builtin, Sem.run_bind, Sem.run_pure, Result.andThen_ok, List.map_toArray, List.map_cons, List.map_nil, hd, hs, hr]
  exact hK _ _ h
theorem step_copy {ops : Array Oper} {o : Oper} {a : Act} {w : World} {K : Act → World → Prop} {Q : Exit → Act → World → Prop} {E : Prop}
    (hg : o.guard = none) (d x : Operand) (t t' : TypeId) (hop : o.op = Op.call { callee := Callee.builtin Builtin.copy, args := #[d, x], argTypes := #[t, t'] })
    (v u : Value) (hd : a.eval d = v) (hx : a.eval x = u) {v' : Value} {w' : World} (hr : (Builtin.copy_ #[t, t'] o.type #[v, u]).run P w = .ok v' w') (hK : K (a.put o.dst v') w') :
    if Region.wanted o (yielded ops a.tmps) = true then Oper.wp P o a w K Q else E := by
  rw [if_pos (by simp [Region.wanted, hg])]
  unfold Oper.wp
  simp only [execOp, hop, resolve, invoke, builtin, Sem.run_bind, Sem.run_pure, Result.andThen_ok, List.map_toArray, List.map_cons, List.map_nil, hd, hx, hr]
  exact hK
end

theorem some_cells (b : Nat) (vs : List Value) (o : Nat) (w : World) (h : ∀ j, j < vs.length → (w.cell? ⟨b, o + j, none⟩).isSome = true) (k : Nat) (hk : (w.cell? ⟨b, k, none⟩).isSome = true) : ((w.setCells b o vs).cell? ⟨b, k, none⟩).isSome = true := by
  by_cases hin : o ≤ k ∧ k < o + vs.length
  · have := World.cell?_setCells_in b vs o w h (k - o) (by omega)
    rw [show o + (k - o) = k by omega] at this
    rw [this]; rfl
  · rw [World.cell?_setCells_out b vs o w ⟨b, k, none⟩ (fun _ _ => by show k < o ∨ o + vs.length ≤ k; omega)]
    exact hk

/-- An append of numbers of a row whose type bears another name. -/
theorem append_mix (ty : TypeId) (ao : Option Addr) (n cap : Nat) (a : Option Addr) (m c : Nat) (w : World) :
    (Builtin.append_ #[44, 36] ty #[.slice ao n cap, .slice a m c]).run Try.prog w = (Builtin.append_ #[44, 44] ty #[.slice ao n cap, .slice a m c]).run Try.prog w := by
  simp [Builtin.append_, run_underlying Try.underlying44, run_underlying Try.underlying36]

set_option maxHeartbeats 4000000 in
set_option maxRecDepth 20000 in
/-- At the end. -/
theorem ins_end (B : Nat) (v : Value) (n : Nat) (x : Int) (xs : List Value) (w : World) (h : w.ownsRow B 3 1 v n xs) (hn : n ≤ 65536) (vb : Nat) (hvb : Ar w vb 3 #[.int .i64 x]) (hB : B ≤ w.heap.size) :
    Calls Try.prog 28 #[v, .int .i64 (n : Int), .slice (some ⟨vb, 0, none⟩) 1 1] w fun e w' => (∃ v', e = .returned v' ∧ (v'.ownBlock = v.ownBlock ∨ v'.ownBlock = some w.heap.size) ∧ w'.ownsRow B 3 1 v' (n + 1) (xs ++ [.int .i64 x])) ∧ w.grownBy w' v.ownBlock := by
  obtain ⟨i0, hi0, hz0, hz1, hz2⟩ := sinfo_parts sinfoI
  obtain ⟨v', w', hr, ho, hg, _, hat⟩ := run_append_own_at (P := Try.prog) w B 44 44 3 i0 (.int .i64 0) 1 8 Try.underlying44 hi0 hz0 hz1 hz2 rfl (by decide) v n xs h ⟨vb, 0, none⟩ 1 1 [.int .i64 x] rfl (fun j u hj => by
    match j, hj with
    | 0, hj => simp at hj; subst hj; exact hvb.cell 0 _ rfl) (by simp [Value.oneCell']) (by unfold maxLen; omega) (by omega) hB
  have HO := hid' ho
  have HG := hid' hg
  have HAT := hid' hat
  rcases h.2 with ⟨rfl, rfl⟩ | ⟨g, cap, cur, rfl, _, _, hnc, hcm, _⟩
  · rw [← append_mix] at hr
    have HR := hid' hr
    clear h ho hg hat hr
    go_enter Try.func28, Try.ntmps28
    go_wp2_with (at_builtin; refine Lib.wpList_append_run _ rfl _ _ _ _ rfl _ _ rfl rfl _ _ HR.out ?_)
    go_ret
    exact ⟨⟨_, rfl, HAT.out, HO.out⟩, HG.out⟩
  · rw [← append_mix] at hr
    have HR := hid' hr
    have hcap : (cap : Int) ≤ 9223372036854775807 := by unfold maxLen at hcm; omega
    have hee : ((n : Int) == (n : Int)) = true := beq_self_eq_true _
    have hcm2 := hid' hcm
    clear h ho hg hat hr hcm
    go_enter Try.func28, Try.ntmps28
    go_wp2_with (at_builtin; refine Lib.wpList_append_run _ rfl _ _ _ _ rfl _ _ rfl rfl _ _ HR.out ?_)
    all_goals
      go_ret
      exact ⟨⟨_, rfl, HAT.out, HO.out⟩, HG.out⟩

set_option maxHeartbeats 4000000 in
set_option maxRecDepth 20000 in
/-- In the midst, and there is room. -/
theorem ins_room (B g cap : Nat) (n i : Nat) (x : Int) (xs : List Value) (cur : Array Value) (w : World) (hBg : B ≤ g) (ha : Ar w g 3 cur) (hsz : cur.size = cap) (htk : cur.toList.take n = xs) (hxl : xs.length = n) (h1 : ∀ u ∈ xs, u.oneCell' = true) (hi : i < n) (hn : n ≤ 65536) (hroom : n + 1 ≤ cap) (hcm : cap ≤ maxLen) (vb : Nat) (hvb : Ar w vb 3 #[.int .i64 x]) (hne : vb ≠ g) :
    Calls Try.prog 28 #[.slice (some ⟨g, 0, none⟩) n cap, .int .i64 (i : Int), .slice (some ⟨vb, 0, none⟩) 1 1] w fun e w' => e = .returned (.slice (some ⟨g, 0, none⟩) (n + 1) cap) ∧ w'.ownsRow B 3 1 (.slice (some ⟨g, 0, none⟩) (n + 1) cap) (n + 1) (xs.take i ++ .int .i64 x :: xs.drop i) ∧ w.grownBy w' (some g) := by
  have hsz1 : (Try.prog.info? 3).map (·.size) = some 1 := by kernel_rfl
  have hso : ∀ w, (Go.sizeOf 3).run Try.prog w = .ok 1 w := by
    obtain ⟨i0, hi0, hz0, hz1, hz2⟩ := sinfo_parts sinfoI
    intro w
    simp [Go.sizeOf, typeInfo, hi0, hz1]
  have hov : ∀ lb cb, (callFunc 32 #[.slice (some ⟨vb, 0, none⟩) 1 1, .slice (some ⟨g, i + 1, none⟩) lb cb]).run Try.prog w = .ok (.value (.bool false)) w := fun lb cb => by
    rw [run_callFunc_extern Try.func32 (by kernel_rfl) (by kernel_rfl) (by kernel_rfl) (e := Extern.SlicesOverlaps.overlaps #[36, 36] #[4]) (by kernel_rfl),
      Lib.run_overlaps_apart w 36 4 3 Try.underlying36 1 hso ⟨vb, 0, none⟩ ⟨g, i + 1, none⟩ 1 1 lb cb hne 3 3 1 cap (ar_shape hvb) (by rw [← hsz]; exact ar_shape ha) (by omega) (hvb.free _) (hvb.free _)]
    rfl
  have hcs : ∀ j u, xs[j]? = some u → w.cell? ⟨g, j, none⟩ = some u := fun j u hj => by
    have hjn : j < n := by have := (List.getElem?_eq_some_iff.1 hj).1; omega
    refine ha.cell j u ?_
    rw [← hj, ← htk, List.getElem?_take, if_pos hjn]
    simp
  have hsp : ∀ j, j < n + 1 → (w.cell? ⟨g, j, none⟩).isSome = true := fun j hj => by
    rw [ha.cell j cur[j] (by simp)]; rfl
  have hdl : (xs.drop i).length = n - i := by rw [List.length_drop, hxl]
  have hcp1 : ∀ ty dc sc, (Builtin.copy_ #[44, 44] ty #[.slice (some ⟨g, i + 1, none⟩) (n - i) dc, .slice (some ⟨g, i, none⟩) (n + 1 - i) sc]).run Try.prog w.drew = .ok (goInt (xs.drop i).length) (w.drew.setCells g (i + 1) (xs.drop i)) := fun ty dc sc =>
    run_copy_cells w.drew _ _ ty 3 g (i + 1) (n - i) dc ⟨g, i, none⟩ (n + 1 - i) sc (xs.drop i) Try.underlying44 hsz1 (by rw [hdl]; simp only [Nat.min_def]; split <;> omega)
      (fun j u hj => by rw [Addr.add_lit]; exact hcs (i + j) u (by rwa [List.getElem?_drop] at hj))
      (fun j hj => hsp _ (by omega)) (fun j hj => ha.free _) (fun u hu => h1 u (List.mem_of_mem_drop hu))
  obtain ⟨W1, hW1⟩ : ∃ W1, W1 = w.drew.setCells g (i + 1) (xs.drop i) := ⟨_, rfl⟩
  have ha1 : Ar W1 g 3 (layc cur (i + 1) (xs.drop i)) := by rw [hW1]; exact ha.drew.cells _ _
  have hvb1 : Ar W1 vb 3 #[.int .i64 x] := by rw [hW1]; exact (upd_setCells g _ _ _).keep hvb.drew hne
  have hcp2 : ∀ (W : World), W.heap = W1.heap → ∀ ty dc, (Builtin.copy_ #[44, 36] ty #[.slice (some ⟨g, i, none⟩) (n + 1 - i) dc, .slice (some ⟨vb, 0, none⟩) 1 1]).run Try.prog W = .ok (goInt 1) (W.setCells g i [.int .i64 x]) := fun W hW ty dc => by
    have a1 : Ar W g 3 (layc cur (i + 1) (xs.drop i)) := by unfold Ar at *; rw [hW]; exact ha1
    have a2 : Ar W vb 3 #[.int .i64 x] := by unfold Ar at *; rw [hW]; exact hvb1
    exact run_copy_cells W _ _ ty 3 g i (n + 1 - i) dc ⟨vb, 0, none⟩ 1 1 [.int .i64 x] Try.underlying44 hsz1 (by simp only [Nat.min_def]; split <;> simp <;> omega)
      (fun j u hj => by
        match j, hj with
        | 0, hj => simp at hj; subst hj; exact a2.cell 0 _ rfl)
      (fun j hj => by
        have : i + j < (layc cur (i + 1) (xs.drop i)).size := by rw [layc_size, hsz]; simp at hj; omega
        rw [a1.cell _ (layc cur (i + 1) (xs.drop i))[i + j] (by simp)]; rfl) (fun j hj => a1.free _) (by simp [Value.oneCell'])
  have hend : Hid (∀ W : World, W.heap = W1.heap → W.os = w.os → W.tape = w.tape → W.output = w.output → (W.setCells g i [.int .i64 x]).ownsRow B 3 1 (.slice (some ⟨g, 0, none⟩) (n + 1) cap) (n + 1) (xs.take i ++ .int .i64 x :: xs.drop i) ∧ w.grownBy (W.setCells g i [.int .i64 x]) (some g)) := hid' (fun W hW o1 o2 o3 => by
    have a1 : Ar W g 3 (layc cur (i + 1) (xs.drop i)) := by unfold Ar at *; rw [hW]; exact ha1
    have a2 := a1.cells [.int .i64 x] i
    have hu1 : Upd g w W1 := by
      have u1 : Upd g w w.drew := ⟨rfl, rfl, rfl, rfl, fun _ _ => rfl⟩
      rw [hW1]
      exact u1.trans' (upd_setCells g _ _ _)
    have hu2 := upd_setCells g [.int .i64 x] i W
    refine ⟨⟨by simp; omega, .inr ⟨g, cap, _, rfl, hBg, a2, hroom, hcm, by rw [layc_size, layc_size, hsz]; omega, ?_⟩⟩, ⟨hu2.os.trans o1, hu2.tape.trans o2, hu2.output.trans o3, by rw [hu2.size, hW, hu1.size]; exact Nat.le_refl _, fun k _ hk => by
      have hkg : k ≠ g := fun e => hk (by rw [e])
      rw [hu2.block k hkg, hW, hu1.block k hkg]⟩⟩
    rw [Nat.mul_one]
    exact lay_rx cur xs i n _ (by rw [← htk, List.take_take, Nat.min_eq_left (by omega)]) hxl (by omega) (by omega))
  rw [← hW1] at hcp1
  have HO1 : Hid (W1.os = w.os ∧ W1.tape = w.tape ∧ W1.output = w.output) := hid' (by
    have hu := upd_setCells g (xs.drop i) (i + 1) w.drew
    rw [hW1]; exact ⟨hu.os, hu.tape, hu.output⟩)
  have HC1 := hid' hcp1
  have HC2 := hid' hcp2
  have HOV := hid' hov
  have hz2 : ((i : Int) == (n : Int)) = false := by simp; omega
  have hz3 : ¬ (i : Int) = (n : Int) := by omega
  have hrm : ¬ (cap : Int) < (n : Int) + 1 := by omega
  have hin : i ≤ n := by omega
  have hb3 : (i : Int) ≤ (n : Int) + 1 := by omega
  have hb2 : ¬ (cap = i + 1) := by omega
  have hb4 : ¬ (cap = i) := by omega
  have hcap : (cap : Int) ≤ 9223372036854775807 := by unfold maxLen at hcm; omega
  have htn : ((i : Int) + 1).toNat = i + 1 := by omega
  have htn2 : ((n : Int) + 1).toNat = n + 1 := by omega
  have hb5 : i + 1 ≤ n + 1 := by omega
  have hb6 : i ≤ n + 1 := by omega
  have hic : i ≤ cap := by omega
  have hw1 : IntKind.i64.wrap ((i : Int) + 1) = (i : Int) + 1 := by rw [IntKind.wrap_i64]; omega
  have hb1 : (0 : Int) ≤ (i : Int) + 1 := by omega
  have hb7 : (i : Int) + 1 ≤ (n : Int) + 1 := by omega
  clear hcp1 hcp2 hov hW1 ha1 hvb1 hcs hsp hdl hso hsz1 hvb ha h1 htk hsz hxl hcm
  go_enter Try.func28, Try.ntmps28
  go_wp2_with (simp only [HOV.out])
  go_region_law (refine step_copy rfl (.tmp 73) (.tmp 76) 44 44 rfl (.slice (some ⟨g, i + 1, none⟩) (n - i) (cap - (i + 1))) (.slice (some ⟨g, i, none⟩) (n + 1 - i) (cap - i)) (by simp [Act.eval, Act.put]) (by simp [Act.eval, Act.put]) (HC1.out 3 (cap - (i + 1)) (cap - i)) ?_)
  all_goals
    go_wp2
    simp only [HC2.out W1 rfl]
    go_wp2
    go_ret
    exact ⟨rfl, hend.out _ rfl HO1.out.1 HO1.out.2.1 HO1.out.2.2⟩

set_option maxHeartbeats 4000000 in
set_option maxRecDepth 20000 in
/-- In the midst, and there is no room. -/
theorem ins_grow (B g cap : Nat) (n i : Nat) (x : Int) (xs : List Value) (cur : Array Value) (w : World) (hBw : B ≤ w.heap.size) (ha : Ar w g 3 cur) (htk : cur.toList.take n = xs) (hxl : xs.length = n) (h1 : ∀ u ∈ xs, u.oneCell' = true) (hi : i < n) (hn : n ≤ 65536) (hroom : cap < n + 1) (hnc : n ≤ cap) (vb : Nat) (hvb : Ar w vb 3 #[.int .i64 x]) :
    Calls Try.prog 28 #[.slice (some ⟨g, 0, none⟩) n cap, .int .i64 (i : Int), .slice (some ⟨vb, 0, none⟩) 1 1] w fun e w' => (∃ G, e = .returned (.slice (some ⟨w.heap.size, 0, none⟩) (n + 1) G) ∧ w'.ownsRow B 3 1 (.slice (some ⟨w.heap.size, 0, none⟩) (n + 1) G) (n + 1) (xs.take i ++ .int .i64 x :: xs.drop i)) ∧ Below w.heap.size w w' := by
  obtain ⟨i0, hi0, hz0, hzs, hzb⟩ := sinfo_parts sinfoI
  have hsz1 : (Try.prog.info? 3).map (·.size) = some 1 := by kernel_rfl
  have hcs : ∀ j u, xs[j]? = some u → w.cell? ⟨g, j, none⟩ = some u := fun j u hj => by
    have hjn : j < n := by have := (List.getElem?_eq_some_iff.1 hj).1; omega
    refine ha.cell j u ?_
    rw [← hj, ← htk, List.getElem?_take, if_pos hjn]
    simp
  have hold : (Builtin.firstCells i0.size i (.slice (some ⟨g, 0, none⟩) i cap)).run Try.prog w.drew = .ok (xs.take i).toArray w.drew := by
    rw [hzs]
    exact run_firstCells_some w.drew 1 i ⟨g, 0, none⟩ i cap (xs.take i) (by rw [List.length_take]; omega) (fun j u hj => by
      rw [Addr.add_lit, Nat.zero_add]
      rw [List.getElem?_take] at hj
      split at hj
      · exact hcs j u hj
      · cases hj)
  have hkk : (n : Int) + 1 - (i : Int) = ((n + 1 - i : Nat) : Int) := by omega
  have hik : i + (n + 1 - i) = n + 1 := by omega
  have hrz := Lib.run_append_grow_zeros (P := Try.prog) w 44 3 44 3 i0 _ .i64 .i64 Try.underlying44 Try.underlying3 hi0 hz0 (some ⟨g, 0, none⟩) i cap (xs.take i) hold (n + 1 - i) (by omega) (by omega) (by omega) (by omega) (by rw [hzb]; omega) (by rw [hzb, hik]; exact growslice_fits (by omega) (by omega))
  rw [hik, ← hkk] at hrz
  obtain ⟨G, hG⟩ : ∃ G, G = grownCap w (n + 1) cap 3 := ⟨_, rfl⟩
  obtain ⟨ROW, hROW⟩ : ∃ ROW : Array Value, ROW = (xs.take i).toArray ++ Builtin.zeroCells (Value.int .i64 0).cells (n + 1 - i) ++ Builtin.zeroCells (Value.int .i64 0).cells (G - (n + 1)) := ⟨_, rfl⟩
  rw [← hG, ← hROW] at hrz
  have hGn : n + 1 ≤ G := by rw [hG]; exact grownCap_ge w _ _ _
  have hGm : G ≤ maxLen := by rw [hG]; exact grownCap_le_maxLen w (n + 1) cap 3 (by unfold maxLen; omega)
  have hRs : ROW.size = G := by
    rw [hROW]
    simp [Builtin.zeroCells, Value.cells]
    omega
  have hRt : ROW.toList.take i = xs.take i := by
    rw [hROW]
    simp only [Array.toList_append, List.append_assoc]
    rw [List.take_append_of_le_length (by simp; omega), List.take_of_length_le (by simp; omega)]
  obtain ⟨N, hN⟩ : ∃ N, N = w.heap.size := ⟨_, rfl⟩
  obtain ⟨W1, hW1⟩ : ∃ W1, W1 = w.drew.alloc (.cells ROW 3) := ⟨_, rfl⟩
  rw [← hW1, ← hN] at hrz
  have b1 : Below w.heap.size w W1 := by rw [hW1]; exact ((Below.refl _ _).drew).alloc (Nat.le_refl _) _
  have a1 : Ar W1 N 3 ROW := by rw [hW1, hN]; exact heap_alloc_last w.drew _
  have g1 : Ar W1 g 3 cur := ha.keep b1
  have v1 : Ar W1 vb 3 #[.int .i64 x] := hvb.keep b1
  have hgN : g ≠ N := by have := ha.lt; omega
  have hvN : vb ≠ N := by have := hvb.lt; omega
  have hcA : ∀ ty dc, (Builtin.copy_ #[44, 36] ty #[.slice (some ⟨N, i, none⟩) (n + 1 - i) dc, .slice (some ⟨vb, 0, none⟩) 1 1]).run Try.prog W1 = .ok (goInt 1) (W1.setCells N i [.int .i64 x]) := fun ty dc =>
    run_copy_cells W1 _ _ ty 3 N i (n + 1 - i) dc ⟨vb, 0, none⟩ 1 1 [.int .i64 x] Try.underlying44 hsz1 (by simp only [Nat.min_def]; split <;> simp <;> omega)
      (fun j u hj => by
        match j, hj with
        | 0, hj => simp at hj; subst hj; exact v1.cell 0 _ rfl)
      (fun j hj => by
        have : i + j < ROW.size := by simp at hj; omega
        rw [a1.cell _ ROW[i + j] (by simp)]; rfl) (fun j hj => a1.free _) (by simp [Value.oneCell'])
  obtain ⟨W2, hW2⟩ : ∃ W2, W2 = W1.setCells N i [.int .i64 x] := ⟨_, rfl⟩
  have u2 : Upd N W1 W2 := by rw [hW2]; exact upd_setCells _ _ _ _
  have a2 : Ar W2 N 3 (layc ROW i [.int .i64 x]) := by rw [hW2]; exact a1.cells _ _
  have g2 : Ar W2 g 3 cur := u2.keep g1 hgN
  rw [← hW2] at hcA
  have hdl : (xs.drop i).length = n - i := by rw [List.length_drop, hxl]
  have hcB : ∀ ty dc sc, (Builtin.copy_ #[44, 44] ty #[.slice (some ⟨N, i + 1, none⟩) (n - i) dc, .slice (some ⟨g, i, none⟩) (n - i) sc]).run Try.prog W2.drew = .ok (goInt (xs.drop i).length) (W2.drew.setCells N (i + 1) (xs.drop i)) := fun ty dc sc =>
    run_copy_cells W2.drew _ _ ty 3 N (i + 1) (n - i) dc ⟨g, i, none⟩ (n - i) sc (xs.drop i) Try.underlying44 hsz1 (by rw [hdl]; simp only [Nat.min_def]; split <;> omega)
      (fun j u hj => by
        rw [Addr.add_lit]
        have hj2 : xs[i + j]? = some u := by rwa [List.getElem?_drop] at hj
        have hjn : i + j < n := by have := (List.getElem?_eq_some_iff.1 hj2).1; omega
        refine g2.drew.cell _ u ?_
        rw [← hj2, ← htk, List.getElem?_take, if_pos hjn]
        simp)
      (fun j hj => by
        have : i + 1 + j < (layc ROW i [.int .i64 x]).size := by rw [layc_size]; omega
        rw [a2.drew.cell _ (layc ROW i [.int .i64 x])[i + 1 + j] (by simp)]; rfl) (fun j hj => a2.drew.free _) (fun u hu => h1 u (List.mem_of_mem_drop hu))
  obtain ⟨W3, hW3⟩ : ∃ W3, W3 = W2.drew.setCells N (i + 1) (xs.drop i) := ⟨_, rfl⟩
  rw [← hW3] at hcB
  have hend : Hid (W3.ownsRow B 3 1 (.slice (some ⟨N, 0, none⟩) (n + 1) G) (n + 1) (xs.take i ++ .int .i64 x :: xs.drop i) ∧ Below w.heap.size w W3) := hid' (by
    have a3 : Ar W3 N 3 (layc (layc ROW i [.int .i64 x]) (i + 1) (xs.drop i)) := by rw [hW3]; exact a2.drew.cells _ _
    have u3 : Upd N W2 W3 := by
      have u1 : Upd N W2 W2.drew := ⟨rfl, rfl, rfl, rfl, fun _ _ => rfl⟩
      rw [hW3]; exact u1.trans' (upd_setCells N _ _ _)
    have b3 : Below w.heap.size w W3 := b1.trans ((u2.trans' u3).below (by omega))
    refine ⟨⟨by simp; omega, .inr ⟨N, G, _, rfl, by omega, a3, hGn, hGm, by rw [layc_size, layc_size, hRs]; omega, ?_⟩⟩, b3⟩
    rw [Nat.mul_one]
    exact lay_xr ROW xs i n _ hRt hxl (by omega) (by omega))
  have HRZ := hid' hrz
  have HCA := hid' hcA
  have HCB := hid' hcB
  have HN := hid' hN
  have hz2 : ((i : Int) == (n : Int)) = false := by simp; omega
  have hz3 : ¬ (i : Int) = (n : Int) := by omega
  have hrm : (cap : Int) < (n : Int) + 1 := by omega
  have hin : i ≤ n := by omega
  have hic : i ≤ cap := by omega
  have hci : ¬ (cap = i) := by omega
  have hb2 : ¬ (G = i + 1) := by omega
  have hb4 : ¬ (G = i) := by omega
  have hG63 : (G : Int) ≤ 9223372036854775807 := by unfold maxLen at hGm; omega
  have hcap : (cap : Int) ≤ 9223372036854775807 := by omega
  have htn : ((i : Int) + 1).toNat = i + 1 := by omega
  have hb5 : i + 1 ≤ n + 1 := by omega
  have hb6 : i ≤ n + 1 := by omega
  have hb8 : i ≤ G := by omega
  have hb9 : i + 1 ≤ G := by omega
  have hw1 : IntKind.i64.wrap ((i : Int) + 1) = (i : Int) + 1 := by rw [IntKind.wrap_i64]; omega
  have hb1 : (0 : Int) ≤ (i : Int) + 1 := by omega
  have hb7 : (i : Int) + 1 ≤ (n : Int) + 1 := by omega
  have hb3 : (i : Int) ≤ (n : Int) + 1 := by omega
  rw [← hN]
  clear hrz hcA hcB hW1 hW2 hW3 a1 a2 u2 g1 g2 v1 b1 hROW hRs hRt hG hkk hik hold hcs hi0 hz0 hzs hzb hdl hsz1 hvb ha h1 htk hxl hGm hgN hvN hN
  go_enter Try.func28, Try.ntmps28
  go_wp2_with (at_builtin; refine Lib.wpList_append_run _ rfl _ _ _ _ rfl _ _ rfl rfl _ _ HRZ.out ?_)
  simp only [HCA.out]
  go_wp2
  go_region_law (refine step_copy rfl (.tmp 50) (.tmp 53) 44 44 rfl (.slice (some ⟨N, i + 1, none⟩) (n - i) (G - (i + 1))) (.slice (some ⟨g, i, none⟩) (n - i) (cap - i)) (by simp [Act.eval, Act.put]) (by simp [Act.eval, Act.put]) (HCB.out 3 (G - (i + 1)) (cap - i)) ?_)
  all_goals
    go_wp2
    go_ret
    exact ⟨⟨G, rfl, hend.out.1⟩, by rw [HN.out]; exact hend.out.2⟩

/-- slices.Insert of one number into a row. -/
theorem ins_any (B : Nat) (v : Value) (n i : Nat) (x : Int) (xs : List Value) (w : World) (h : w.ownsRow B 3 1 v n xs) (h1 : ∀ u ∈ xs, u.oneCell' = true) (hi : i ≤ n) (hn : n ≤ 65536) (hB : B ≤ w.heap.size) (vb : Nat) (hvb : Ar w vb 3 #[.int .i64 x]) (hne : v.ownBlock ≠ some vb) :
    Calls Try.prog 28 #[v, .int .i64 (i : Int), .slice (some ⟨vb, 0, none⟩) 1 1] w fun e w' => (∃ v', e = .returned v' ∧ (v'.ownBlock = v.ownBlock ∨ v'.ownBlock = some w.heap.size) ∧ w'.ownsRow B 3 1 v' (n + 1) (xs.take i ++ .int .i64 x :: xs.drop i)) ∧ w.grownBy w' v.ownBlock := by
  by_cases hin : i = n
  · subst hin
    refine (ins_end B v i x xs w h hn vb hvb hB).mono fun e w' ⟨⟨v', h2, h3, h4⟩, h5⟩ => ⟨⟨v', h2, h3, ?_⟩, h5⟩
    have hl : xs.length = i := by have := h.1; omega
    rw [List.take_of_length_le (by omega), List.drop_of_length_le (by omega)]
    exact h4
  · have hxl : xs.length = n := by have := h.1; omega
    rcases h.2 with ⟨_, h0⟩ | ⟨g, cap, cur, rfl, hBg, hg, hnc, hcm, hsz, htk⟩
    · omega
    · rw [Nat.mul_one] at htk hsz
      by_cases hroom : n + 1 ≤ cap
      · exact (ins_room B g cap n i x xs cur w hBg hg hsz htk hxl h1 (by omega) hn hroom hcm vb hvb (fun e => hne (by rw [e]; rfl))).mono fun e w' ⟨h2, h3, h4⟩ => ⟨⟨_, h2, .inl rfl, h3⟩, h4⟩
      · exact (ins_grow B g cap n i x xs cur w hB hg htk hxl h1 (by omega) hn (by omega) hnc vb hvb).mono fun e w' ⟨⟨G, h2, h3⟩, h4⟩ => ⟨⟨_, h2, .inr rfl, h3⟩, ⟨h4.os, h4.tape, h4.output, h4.size, fun k hk _ => h4.block k hk⟩⟩

end Go.Proofs.Ytpgfnhfjkplmaaa
