/-
  slices.Delete of one element: by its contracts.
-/
import Derived.Test.YthgdokcdpmoeeaaStF
namespace Go.Proofs.Ythgdokcdpmoeeaa
open Go.RowKit

theorem szvE : ∀ w, (zeroValue 81).run Try.prog w = .ok (.agg #[.int .i64 0, .int .u8 0]) w := by
  obtain ⟨i0, hi, hz0, _, _⟩ := sinfo_parts sinfoE
  intro w
  simp [zeroValue, typeInfo, hi, hz0]

set_option maxHeartbeats 4000000 in
set_option maxRecDepth 20000 in
theorem sdelE_any (B : Nat) (v : Value) (n i j : Nat) (xs : List Value) (w : World) (h : w.ownsRow B 81 2 v n xs) (hi : i < n) (hj : j = i + 1) (hn : n ≤ 65536) (h1 : ∀ u ∈ xs, u.oneCell' = true) :
    Calls Try.prog 90 #[v, .int .i64 (i : Int), .int .i64 (j : Int)] w fun e w' => (∃ v', e = .returned v' ∧ w'.ownsRow B 81 2 v' (n - 1) (xs.take (i * 2) ++ xs.drop (j * 2))) ∧ w.grownBy w' v.ownBlock := by
  obtain ⟨i0, hi0, _, hz1, _⟩ := sinfo_parts sinfoE
  obtain ⟨hxl, hx⟩ := h
  rcases hx with ⟨_, h0⟩ | ⟨g, cap, cur, rfl, hBg, hcur, hncap, hcapm, hsz, htake⟩
  · omega
  have ha : Ar w g 81 cur := hcur
  have hcell : ∀ k, k < n * 2 → w.cell? ⟨g, k, none⟩ = xs[k]? := fun k hk => by
    have hkc : k < cur.size := by rw [hsz]; exact Nat.lt_of_lt_of_le hk (Nat.mul_le_mul_right _ hncap)
    rw [ha.cell k cur[k] (by simp [hkc]), ← htake, List.getElem?_take, if_pos hk]
    simp [hkc]
  obtain ⟨news, hnews⟩ : ∃ news, news = xs.drop (j * 2) := ⟨_, rfl⟩
  have hlen : news.length = (n - j) * 2 := by rw [hnews, List.length_drop, hxl]; omega
  obtain ⟨A, hA, hsrc⟩ : ∃ A : Addr, (if cap = j then some (⟨g, 0, none⟩ : Addr) else some ⟨g, j * 2, none⟩) = some A ∧ Hid (∀ t u, news[t]? = some u → w.drew.cell? (A.add t) = some u) := by
    by_cases hc : cap = j
    · refine ⟨⟨g, 0, none⟩, by simp [hc], fun t u hu => ?_⟩
      have h0 : news.length = 0 := by rw [hlen]; omega
      rw [List.length_eq_zero_iff.1 h0] at hu
      simp at hu
    · refine ⟨⟨g, j * 2, none⟩, by simp [hc], fun t u hu => ?_⟩
      have ht : t < (n - j) * 2 := by
        have := (List.getElem?_eq_some_iff.1 hu).1
        rwa [hlen] at this
      rw [Addr.add_lit]
      show w.cell? _ = _
      rw [hcell (j * 2 + t) (by omega), ← hu, hnews, List.getElem?_drop]
  have s1 := hid' hlen
  have s2 : Hid (∀ u ∈ news, u.oneCell' = true) := hid' (fun u hu => h1 u (by rw [hnews] at hu; exact List.mem_of_mem_drop hu))
  have s3 : Hid (∀ t, t < news.length → (w.drew.cell? ⟨g, 0 + i * 2 + t, none⟩).isSome = true ∧ w.drew.frozen? ⟨g, 0 + i * 2 + t, none⟩ = false) := hid' (fun t ht => by
    rw [hlen] at ht
    refine ⟨?_, ha.drew.free _⟩
    show (w.cell? _).isSome = true
    rw [hcell _ (by omega), List.getElem?_eq_getElem (by rw [hxl]; omega)]
    rfl)
  obtain ⟨W1, hW1⟩ : ∃ W1, W1 = w.drew.setCells g (0 + i * 2) news := ⟨_, rfl⟩
  have ha1 : Ar W1 g 81 (layc cur (0 + i * 2) news) := by rw [hW1]; exact ha.drew.cells news _
  have hcl : ∀ ty, (Builtin.clear_ #[77] ty #[.slice (some ⟨g, ((n - 1) * 2), none⟩) 1 (cap - (n - 1))]).run Try.prog W1 = .ok (.tuple #[]) (W1.setCells g ((n - 1) * 2) [.int .i64 0, .int .u8 0]) := fun ty =>
    run_clear_one W1 77 81 ty (.agg #[.int .i64 0, .int .u8 0]) Try.underlying77 szvE (by simp [Value.cells, Value.oneCell']) g ((n - 1) * 2) (cap - (n - 1)) (fun k hk => by
      have hk2 : k < 2 := by simpa [Value.cells] using hk
      have : ((n - 1) * 2) + k < (layc cur (0 + i * 2) news).size := by rw [layc_size, hsz]; have := Nat.mul_le_mul_right 2 hncap; omega
      rw [ha1.cell _ (layc cur (0 + i * 2) news)[((n - 1) * 2) + k] (by simp)]; rfl) (fun k _ => ha1.free _)
  have hend : Hid (∀ q, ((W1.setCells g ((n - 1) * 2) [.int .i64 0, .int .u8 0]).drewN q).ownsRow B 81 2 (.slice (some ⟨g, 0, none⟩) (n - 1) cap) (n - 1) (xs.take (i * 2) ++ xs.drop (j * 2)) ∧ w.grownBy ((W1.setCells g ((n - 1) * 2) [.int .i64 0, .int .u8 0]).drewN q) (some g)) := hid' (fun q => by
    have ha2 := ha1.cells [.int .i64 0, .int .u8 0] ((n - 1) * 2)
    have hu : Upd g w (W1.setCells g ((n - 1) * 2) [.int .i64 0, .int .u8 0]) := by
      have u1 : Upd g w w.drew := ⟨rfl, rfl, rfl, rfl, fun _ _ => rfl⟩
      rw [hW1]
      exact (u1.trans' (upd_setCells g news _ _)).trans' (upd_setCells g _ _ _)
    have hcs := Nat.mul_le_mul_right 2 hncap
    have hz2 : (([.int .i64 0, .int .u8 0]) : List Value).length = 2 := rfl
    refine ⟨⟨?_, .inr ⟨g, cap, _, rfl, hBg, ha2, by omega, hcapm, by rw [layc_size, layc_size, hsz], ?_⟩⟩, ⟨hu.os, hu.tape, hu.output, Nat.le_of_eq hu.size.symm, fun k _ hk => hu.block k (fun e => hk (by rw [e]))⟩⟩
    · rw [List.length_append, List.length_take, List.length_drop, hxl]; omega
    · rw [layc_list _ _ _ (by rw [layc_size, hsz, hz2]; omega), List.append_assoc, List.take_append_of_le_length (by rw [List.length_take, Array.length_toList, layc_size, hsz]; omega), List.take_take, Nat.min_eq_left (show (n - 1) * 2 ≤ ((n - 1) * 2) by omega),
        layc_list _ _ _ (by rw [hsz, hlen]; omega), List.take_append_of_le_length (by rw [List.length_append, List.length_take, Array.length_toList, hsz, hlen]; omega), List.take_of_length_le (by rw [List.length_append, List.length_take, Array.length_toList, hsz, hlen]; omega), hnews, ← htake]
      rw [List.take_take, Nat.zero_add, Nat.min_eq_left (by omega)])
  have hW : Hid (W1 = w.drew.setCells g (0 + i * 2) news) := hid' hW1
  have hic : i ≤ cap := by omega
  have hjc : j ≤ cap := by omega
  have hjn : j ≤ n := by omega
  have hij : i < j := by omega
  have hijb : ((i : Int) == (j : Int)) = false := by simp; omega
  have hijb2 : (i == j) = false := by simp; omega
  have hsum : i + (n - j) = n - 1 := by omega
  have hle1 : n - 1 ≤ n := by omega
  have hHI := hid' hi0
  have hHZ := hid' hz1
  have hcapm2 : cap ≤ 9223372036854775807 := by unfold maxLen at hcapm; exact hcapm
  have hn1 : n - (n - 1) = 1 := by omega
  have hne : ¬ cap = n - 1 := by omega
  have hroom : Hid (i + (n - j) ≤ cap) := hid' (by omega)
  clear hW1 ha1 hnews hlen hcell ha hcur htake hsz hxl h1 hi0 hz1 hj
  go_enter Try.func90, Try.ntmps90
  go_wp2
  go_region_law (refine step_append_room rfl (.tmp 22) (.tmp 25) 77 rfl 81 i0 2 Try.underlying77 hHI.out hHZ.out g 0 i cap (by simp [Act.eval, Act.put]) A (n - j) (cap - j) news (by simp [Act.eval, Act.put]) s1.out hsrc.out s2.out hroom.out s3.out ?_; rw [← hW.out])
  all_goals
    go_wp2
    go_ret
    exact ⟨⟨_, rfl, (hend.out 0).1⟩, (hend.out 0).2⟩

theorem szvI : ∀ w, (zeroValue 3).run Try.prog w = .ok (.int .i64 0) w := by
  obtain ⟨i0, hi, hz0, _, _⟩ := sinfo_parts sinfoI
  intro w
  simp [zeroValue, typeInfo, hi, hz0]

set_option maxHeartbeats 4000000 in
set_option maxRecDepth 20000 in
theorem sdelI_any (B : Nat) (v : Value) (n i j : Nat) (xs : List Value) (w : World) (h : w.ownsRow B 3 1 v n xs) (hi : i < n) (hj : j = i + 1) (hn : n ≤ 65536) (h1 : ∀ u ∈ xs, u.oneCell' = true) :
    Calls Try.prog 88 #[v, .int .i64 (i : Int), .int .i64 (j : Int)] w fun e w' => (∃ v', e = .returned v' ∧ w'.ownsRow B 3 1 v' (n - 1) (xs.take (i * 1) ++ xs.drop (j * 1))) ∧ w.grownBy w' v.ownBlock := by
  obtain ⟨i0, hi0, _, hz1, _⟩ := sinfo_parts sinfoI
  obtain ⟨hxl, hx⟩ := h
  rcases hx with ⟨_, h0⟩ | ⟨g, cap, cur, rfl, hBg, hcur, hncap, hcapm, hsz, htake⟩
  · omega
  have ha : Ar w g 3 cur := hcur
  have hcell : ∀ k, k < n * 1 → w.cell? ⟨g, k, none⟩ = xs[k]? := fun k hk => by
    have hkc : k < cur.size := by rw [hsz]; exact Nat.lt_of_lt_of_le hk (Nat.mul_le_mul_right _ hncap)
    rw [ha.cell k cur[k] (by simp [hkc]), ← htake, List.getElem?_take, if_pos hk]
    simp [hkc]
  obtain ⟨news, hnews⟩ : ∃ news, news = xs.drop (j * 1) := ⟨_, rfl⟩
  have hlen : news.length = (n - j) * 1 := by rw [hnews, List.length_drop, hxl]; omega
  obtain ⟨A, hA, hsrc⟩ : ∃ A : Addr, (if cap = j then some (⟨g, 0, none⟩ : Addr) else some ⟨g, j, none⟩) = some A ∧ Hid (∀ t u, news[t]? = some u → w.drew.cell? (A.add t) = some u) := by
    by_cases hc : cap = j
    · refine ⟨⟨g, 0, none⟩, by simp [hc], fun t u hu => ?_⟩
      have h0 : news.length = 0 := by rw [hlen]; omega
      rw [List.length_eq_zero_iff.1 h0] at hu
      simp at hu
    · refine ⟨⟨g, j, none⟩, by simp [hc], fun t u hu => ?_⟩
      have ht : t < (n - j) * 1 := by
        have := (List.getElem?_eq_some_iff.1 hu).1
        rwa [hlen] at this
      rw [Addr.add_lit]
      show w.cell? _ = _
      rw [hcell (j + t) (by omega), ← hu, hnews, List.getElem?_drop, Nat.mul_one]
  have s1 := hid' hlen
  have s2 : Hid (∀ u ∈ news, u.oneCell' = true) := hid' (fun u hu => h1 u (by rw [hnews] at hu; exact List.mem_of_mem_drop hu))
  have s3 : Hid (∀ t, t < news.length → (w.drew.cell? ⟨g, 0 + i * 1 + t, none⟩).isSome = true ∧ w.drew.frozen? ⟨g, 0 + i * 1 + t, none⟩ = false) := hid' (fun t ht => by
    rw [hlen] at ht
    refine ⟨?_, ha.drew.free _⟩
    show (w.cell? _).isSome = true
    rw [hcell _ (by omega), List.getElem?_eq_getElem (by rw [hxl]; omega)]
    rfl)
  obtain ⟨W1, hW1⟩ : ∃ W1, W1 = w.drew.setCells g (0 + i * 1) news := ⟨_, rfl⟩
  have ha1 : Ar W1 g 3 (layc cur (0 + i * 1) news) := by rw [hW1]; exact ha.drew.cells news _
  have hcl : ∀ ty, (Builtin.clear_ #[52] ty #[.slice (some ⟨g, (n - 1), none⟩) 1 (cap - (n - 1))]).run Try.prog W1 = .ok (.tuple #[]) (W1.setCells g (n - 1) [.int .i64 0]) := fun ty =>
    run_clear_one W1 52 3 ty (.int .i64 0) Try.underlying52 szvI (by simp [Value.cells, Value.oneCell']) g (n - 1) (cap - (n - 1)) (fun k hk => by
      have hk2 : k < 1 := by simpa [Value.cells] using hk
      have : (n - 1) + k < (layc cur (0 + i * 1) news).size := by rw [layc_size, hsz]; have := Nat.mul_le_mul_right 1 hncap; omega
      rw [ha1.cell _ (layc cur (0 + i * 1) news)[(n - 1) + k] (by simp)]; rfl) (fun k _ => ha1.free _)
  have hend : Hid (∀ q, ((W1.setCells g (n - 1) [.int .i64 0]).drewN q).ownsRow B 3 1 (.slice (some ⟨g, 0, none⟩) (n - 1) cap) (n - 1) (xs.take (i * 1) ++ xs.drop (j * 1)) ∧ w.grownBy ((W1.setCells g (n - 1) [.int .i64 0]).drewN q) (some g)) := hid' (fun q => by
    have ha2 := ha1.cells [.int .i64 0] (n - 1)
    have hu : Upd g w (W1.setCells g (n - 1) [.int .i64 0]) := by
      have u1 : Upd g w w.drew := ⟨rfl, rfl, rfl, rfl, fun _ _ => rfl⟩
      rw [hW1]
      exact (u1.trans' (upd_setCells g news _ _)).trans' (upd_setCells g _ _ _)
    have hcs := Nat.mul_le_mul_right 1 hncap
    have hz2 : (([.int .i64 0]) : List Value).length = 1 := rfl
    refine ⟨⟨?_, .inr ⟨g, cap, _, rfl, hBg, ha2, by omega, hcapm, by rw [layc_size, layc_size, hsz], ?_⟩⟩, ⟨hu.os, hu.tape, hu.output, Nat.le_of_eq hu.size.symm, fun k _ hk => hu.block k (fun e => hk (by rw [e]))⟩⟩
    · rw [List.length_append, List.length_take, List.length_drop, hxl]; omega
    · rw [layc_list _ _ _ (by rw [layc_size, hsz, hz2]; omega), List.append_assoc, List.take_append_of_le_length (by rw [List.length_take, Array.length_toList, layc_size, hsz]; omega), List.take_take, Nat.min_eq_left (show (n - 1) * 1 ≤ (n - 1) by omega),
        layc_list _ _ _ (by rw [hsz, hlen]; omega), List.take_append_of_le_length (by rw [List.length_append, List.length_take, Array.length_toList, hsz, hlen]; omega), List.take_of_length_le (by rw [List.length_append, List.length_take, Array.length_toList, hsz, hlen]; omega), hnews, ← htake]
      rw [List.take_take, Nat.zero_add, Nat.min_eq_left (by omega)])
  have hW : Hid (W1 = w.drew.setCells g (0 + i * 1) news) := hid' hW1
  have hic : i ≤ cap := by omega
  have hjc : j ≤ cap := by omega
  have hjn : j ≤ n := by omega
  have hij : i < j := by omega
  have hijb : ((i : Int) == (j : Int)) = false := by simp; omega
  have hijb2 : (i == j) = false := by simp; omega
  have hsum : i + (n - j) = n - 1 := by omega
  have hle1 : n - 1 ≤ n := by omega
  have hHI := hid' hi0
  have hHZ := hid' hz1
  have hcapm2 : cap ≤ 9223372036854775807 := by unfold maxLen at hcapm; exact hcapm
  have hn1 : n - (n - 1) = 1 := by omega
  have hne : ¬ cap = n - 1 := by omega
  have hroom : Hid (i + (n - j) ≤ cap) := hid' (by omega)
  clear hW1 ha1 hnews hlen hcell ha hcur htake hsz hxl h1 hi0 hz1 hj
  go_enter Try.func88, Try.ntmps88
  go_wp2
  go_region_law (refine step_append_room rfl (.tmp 22) (.tmp 25) 52 rfl 3 i0 1 Try.underlying52 hHI.out hHZ.out g 0 i cap (by simp [Act.eval, Act.put]) A (n - j) (cap - j) news (by simp [Act.eval, Act.put]) s1.out hsrc.out s2.out hroom.out s3.out ?_; rw [← hW.out])
  all_goals
    go_wp2
    go_ret
    exact ⟨⟨_, rfl, (hend.out 0).1⟩, (hend.out 0).2⟩

end Go.Proofs.Ythgdokcdpmoeeaa
