/-
  Cells laid into an array; slices.Delete of one number of a row: by its contract.
-/
import Derived.Test.YtpgfnhfjkplmaaaSdA
import Derived.Laws.IdiomCopy
import Derived.BigRegion
namespace Go.Proofs.Ytpgfnhfjkplmaaa
open Go.RowKit

theorem sinfo_parts {P : Program} {t : TypeId} {z : Option Value} {s b : Nat} (h : (P.info? t).map (fun i => (i.zero, i.size, i.bytes)) = some (z, s, b)) : ∃ i, P.info? t = some i ∧ i.zero = z ∧ i.size = s ∧ i.bytes = b := by
  cases hq : P.info? t with
  | none => simp [hq] at h
  | some i => simp [hq] at h; exact ⟨i, rfl, h.1, h.2.1, h.2.2⟩
theorem sinfoI : (Try.prog.info? 3).map (fun i => (i.zero, i.size, i.bytes)) = some (some (.int .i64 0), 1, 8) := by kernel_rfl
theorem own_shape {w : World} {B : Nat} {e : TypeId} {s : Nat} {v : Value} {n : Nat} {xs : List Value} (h : w.ownsRow B e s v n xs) : ∃ ao cap, v = .slice ao n cap := by
  rcases h.2 with ⟨h, h0⟩ | ⟨g, cap, cur, h, _⟩
  · exact ⟨none, 0, by rw [h, h0]⟩
  · exact ⟨_, _, h⟩
/-- Cells laid into an array. -/
def layc : Array Value → Nat → List Value → Array Value
  | c, _, [] => c
  | c, o, v :: r => layc (c.setIfInBounds o v) (o + 1) r
theorem layc_size (vs : List Value) : ∀ (c : Array Value) (o : Nat), (layc c o vs).size = c.size := by
  induction vs with
  | nil => intro c o; rfl
  | cons v r ih => intro c o; rw [layc, ih]; simp
theorem take_mid (A D : List Value) (v : Value) : (A ++ v :: D).take (A.length + 1) = A ++ [v] := by
  rw [List.take_append, List.take_of_length_le (by omega), show A.length + 1 - A.length = 1 by omega]; rfl
theorem drop_mid (A D : List Value) (v : Value) (n : Nat) : (A ++ v :: D).drop (A.length + 1 + n) = D.drop n := by
  rw [List.drop_append, List.drop_of_length_le (by omega), show A.length + 1 + n - A.length = n + 1 by omega]; rfl
theorem layc_list (vs : List Value) : ∀ (c : Array Value) (o : Nat), o + vs.length ≤ c.size → (layc c o vs).toList = c.toList.take o ++ vs ++ c.toList.drop (o + vs.length) := by
  induction vs with
  | nil => intro c o _; simp [layc]
  | cons v r ih =>
    intro c o h
    simp at h
    rw [layc, ih _ _ (by simp; omega)]
    have e : (c.setIfInBounds o v).toList = c.toList.set o v := by simp
    rw [e, List.set_eq_take_append_cons_drop, if_pos (by simp; omega)]
    have hl : (c.toList.take o).length = o := by simp; omega
    have e1 := take_mid (c.toList.take o) (c.toList.drop (o + 1)) v
    have e2 := drop_mid (c.toList.take o) (c.toList.drop (o + 1)) v r.length
    rw [hl] at e1 e2
    rw [e1, e2, List.drop_drop, List.length_cons, show o + 1 + r.length = o + (r.length + 1) by omega]
    simp
theorem Ar.cells {b : Nat} {t : TypeId} (vs : List Value) : ∀ {w : World} {c : Array Value} (o : Nat), Ar w b t c → Ar (w.setCells b o vs) b t (layc c o vs) := by
  induction vs with
  | nil => intro w c o h; exact h
  | cons v r ih => intro w c o h; exact ih (o + 1) (h.set o v)
theorem Upd.trans' {b : Nat} {w w1 w2 : World} (h1 : Upd b w w1) (h2 : Upd b w1 w2) : Upd b w w2 :=
  ⟨h2.os.trans h1.os, h2.tape.trans h1.tape, h2.output.trans h1.output, h2.size.trans h1.size, fun k hk => (h2.block k hk).trans (h1.block k hk)⟩
theorem upd_setCells (b : Nat) (vs : List Value) : ∀ (o : Nat) (w : World), Upd b w (w.setCells b o vs) := by
  induction vs with
  | nil => intro o w; exact ⟨rfl, rfl, rfl, rfl, fun _ _ => rfl⟩
  | cons v r ih => intro o w; exact (upd_setCell w b o v).trans' (ih (o + 1) _)
/-- clear of one element. -/
theorem run_clear_one (w : World) (t e ty : TypeId) (z : Value) (ht : Try.prog.underlying t = some (.slice e)) (hv : ∀ w, (zeroValue e).run Try.prog w = .ok z w) (h1 : ∀ u ∈ z.cells.toList, u.oneCell' = true) (b o c : Nat)
    (hc : ∀ j, j < z.cells.size → (w.cell? ⟨b, o + j, none⟩).isSome = true) (hf : ∀ j, j < z.cells.size → w.frozen? ⟨b, o + j, none⟩ = false) :
    (Builtin.clear_ #[t] ty #[.slice (some ⟨b, o, none⟩) 1 c]).run Try.prog w = .ok (.tuple #[]) (w.setCells b o z.cells.toList) := by
  have hzc : (Builtin.zeroCells z.cells 1).toList = z.cells.toList := by
    apply List.ext_getElem
    · simp [Builtin.zeroCells]
    · intro i h1 h2
      simp at h2
      simp [Builtin.zeroCells, Nat.mod_eq_of_lt h2]
      rw [getElem!_pos z.cells i h2]
  have hst := run_storeCells_cells (P := Try.prog) b o z.cells.toList 0 w (by simpa using hc) (by simpa using hf) h1
  simp only [Nat.add_zero] at hst
  simp [Builtin.clear_, run_underlying ht, hv, hzc, hst]

theorem szvI : ∀ w, (zeroValue 3).run Try.prog w = .ok (.int .i64 0) w := by
  obtain ⟨i0, hi, hz0, _, _⟩ := sinfo_parts sinfoI
  intro w
  simp [zeroValue, typeInfo, hi, hz0]

set_option maxHeartbeats 4000000 in
set_option maxRecDepth 20000 in
theorem sdelI_any (B : Nat) (v : Value) (n i j : Nat) (xs : List Value) (w : World) (h : w.ownsRow B 3 1 v n xs) (hi : i < n) (hj : j = i + 1) (hn : n ≤ 65536) (h1 : ∀ u ∈ xs, u.oneCell' = true) :
    Calls Try.prog 29 #[v, .int .i64 (i : Int), .int .i64 (j : Int)] w fun e w' => (∃ v', e = .returned v' ∧ v'.ownBlock = v.ownBlock ∧ w'.ownsRow B 3 1 v' (n - 1) (xs.take (i * 1) ++ xs.drop (j * 1))) ∧ w.grownBy w' v.ownBlock := by
  obtain ⟨i0, hi0, _, hz1, _⟩ := sinfo_parts sinfoI
  obtain ⟨hxl, hx⟩ := h
  rcases hx with ⟨_, h0⟩ | ⟨g, cap, cur, rfl, hBg, hcur, hncap, hcapm, hsz, htake⟩
  · omega
  have ha : Ar w g 3 cur := hcur
  have hcell : ∀ k, k < n * 1 → w.cell? ⟨g, k, none⟩ = xs[k]? := fun k hk => by
    have hkc : k < cur.size := by rw [hsz]; exact Nat.lt_of_lt_of_le hk (Nat.mul_le_mul_right _ hncap)
    rw [ha.cell k cur[k] (by simp [hkc]), ← htake, List.getElem?_take, if_pos hk]
    simp [hkc]
  obtain ⟨news, hnews⟩ : ∃ news, news = xs.drop (j * 1) := ⟨_, rfl⟩
  have hlen : news.length = (n - j) * 1 := by rw [hnews, List.length_drop, hxl]; omega
  obtain ⟨A, hA, hsrc⟩ : ∃ A : Addr, (if cap = j then some (⟨g, 0, none⟩ : Addr) else some ⟨g, j, none⟩) = some A ∧ Hid (∀ t u, news[t]? = some u → w.drew.cell? (A.add t) = some u) := by
    by_cases hc : cap = j
    · refine ⟨⟨g, 0, none⟩, by simp [hc], fun t u hu => ?_⟩
      have h0 : news.length = 0 := by rw [hlen]; omega
      rw [List.length_eq_zero_iff.1 h0] at hu
      simp at hu
    · refine ⟨⟨g, j, none⟩, by simp [hc], fun t u hu => ?_⟩
      have ht : t < (n - j) * 1 := by
        have := (List.getElem?_eq_some_iff.1 hu).1
        rwa [hlen] at this
      rw [Addr.add_lit]
      show w.cell? _ = _
      rw [hcell (j + t) (by omega), ← hu, hnews, List.getElem?_drop, Nat.mul_one]
  have s1 := hid' hlen
  have s2 : Hid (∀ u ∈ news, u.oneCell' = true) := hid' (fun u hu => h1 u (by rw [hnews] at hu; exact List.mem_of_mem_drop hu))
  have s3 : Hid (∀ t, t < news.length → (w.drew.cell? ⟨g, 0 + i * 1 + t, none⟩).isSome = true ∧ w.drew.frozen? ⟨g, 0 + i * 1 + t, none⟩ = false) := hid' (fun t ht => by
    rw [hlen] at ht
    refine ⟨?_, ha.drew.free _⟩
    show (w.cell? _).isSome = true
    rw [hcell _ (by omega), List.getElem?_eq_getElem (by rw [hxl]; omega)]
    rfl)
  obtain ⟨W1, hW1⟩ : ∃ W1, W1 = w.drew.setCells g (0 + i * 1) news := ⟨_, rfl⟩
  have ha1 : Ar W1 g 3 (layc cur (0 + i * 1) news) := by rw [hW1]; exact ha.drew.cells news _
  have hcl : ∀ ty, (Builtin.clear_ #[44] ty #[.slice (some ⟨g, (n - 1), none⟩) 1 (cap - (n - 1))]).run Try.prog W1 = .ok (.tuple #[]) (W1.setCells g (n - 1) [.int .i64 0]) := fun ty =>
    run_clear_one W1 44 3 ty (.int .i64 0) Try.underlying44 szvI (by simp [Value.cells, Value.oneCell']) g (n - 1) (cap - (n - 1)) (fun k hk => by
      have hk2 : k < 1 := by simpa [Value.cells] using hk
      have : (n - 1) + k < (layc cur (0 + i * 1) news).size := by rw [layc_size, hsz]; have := Nat.mul_le_mul_right 1 hncap; omega
      rw [ha1.cell _ (layc cur (0 + i * 1) news)[(n - 1) + k] (by simp)]; rfl) (fun k _ => ha1.free _)
  have hend : Hid (∀ q, ((W1.setCells g (n - 1) [.int .i64 0]).drewN q).ownsRow B 3 1 (.slice (some ⟨g, 0, none⟩) (n - 1) cap) (n - 1) (xs.take (i * 1) ++ xs.drop (j * 1)) ∧ w.grownBy ((W1.setCells g (n - 1) [.int .i64 0]).drewN q) (some g)) := hid' (fun q => by
    have ha2 := ha1.cells [.int .i64 0] (n - 1)
    have hu : Upd g w (W1.setCells g (n - 1) [.int .i64 0]) := by
      have u1 : Upd g w w.drew := ⟨rfl, rfl, rfl, rfl, fun _ _ => rfl⟩
      rw [hW1]
      exact (u1.trans' (upd_setCells g news _ _)).trans' (upd_setCells g _ _ _)
    have hcs := Nat.mul_le_mul_right 1 hncap
    have hz2 : (([.int .i64 0]) : List Value).length = 1 := rfl
    refine ⟨⟨?_, .inr ⟨g, cap, _, rfl, hBg, ha2, by omega, hcapm, by rw [layc_size, layc_size, hsz], ?_⟩⟩, ⟨hu.os, hu.tape, hu.output, Nat.le_of_eq hu.size.symm, fun k _ hk => hu.block k (fun e => hk (by rw [e]))⟩⟩
    · rw [List.length_append, List.length_take, List.length_drop, hxl]; omega
    · rw [layc_list _ _ _ (by rw [layc_size, hsz, hz2]; omega), List.append_assoc, List.take_append_of_le_length (by rw [List.length_take, Array.length_toList, layc_size, hsz]; omega), List.take_take, Nat.min_eq_left (show (n - 1) * 1 ≤ (n - 1) by omega),
        layc_list _ _ _ (by rw [hsz, hlen]; omega), List.take_append_of_le_length (by rw [List.length_append, List.length_take, Array.length_toList, hsz, hlen]; omega), List.take_of_length_le (by rw [List.length_append, List.length_take, Array.length_toList, hsz, hlen]; omega), hnews, ← htake]
      rw [List.take_take, Nat.zero_add, Nat.min_eq_left (by omega)])
  have hW : Hid (W1 = w.drew.setCells g (0 + i * 1) news) := hid' hW1
  have hic : i ≤ cap := by omega
  have hjc : j ≤ cap := by omega
  have hjn : j ≤ n := by omega
  have hij : i < j := by omega
  have hijb : ((i : Int) == (j : Int)) = false := by simp; omega
  have hijb2 : (i == j) = false := by simp; omega
  have hsum : i + (n - j) = n - 1 := by omega
  have hle1 : n - 1 ≤ n := by omega
  have hHI := hid' hi0
  have hHZ := hid' hz1
  have hcapm2 : cap ≤ 9223372036854775807 := by unfold maxLen at hcapm; exact hcapm
  have hn1 : n - (n - 1) = 1 := by omega
  have hne : ¬ cap = n - 1 := by omega
  have hroom : Hid (i + (n - j) ≤ cap) := hid' (by omega)
  clear hW1 ha1 hnews hlen hcell ha hcur htake hsz hxl h1 hi0 hz1 hj
  go_enter Try.func29, Try.ntmps29
  go_wp2
  go_region_law (refine step_append_room rfl (.tmp 22) (.tmp 25) 44 rfl 3 i0 1 Try.underlying44 hHI.out hHZ.out g 0 i cap (by simp [Act.eval, Act.put]) A (n - j) (cap - j) news (by simp [Act.eval, Act.put]) s1.out hsrc.out s2.out hroom.out s3.out ?_; rw [← hW.out])
  all_goals
    go_wp2
    go_ret
    exact ⟨⟨_, rfl, rfl, (hend.out 0).1⟩, (hend.out 0).2⟩

end Go.Proofs.Ytpgfnhfjkplmaaa
