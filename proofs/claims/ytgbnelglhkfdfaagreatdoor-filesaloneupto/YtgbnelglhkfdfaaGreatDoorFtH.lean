/-
  The pieces of a list of ranges as the code cuts and reads them: the same as the document's. What is of no program.
  The document's Parse: by its contract.
  The code's number and within: by their contracts.
  The document's Told, Unmet, Stands: by their contracts.
  The code's Told and Unmet: by their contracts.
  The document's Stands and Same: by their contracts.
  A body of several ranges, on lists of bytes. What is of no program.
  The code's Parts: by its contract.
  The code's read: by its contract.
-/
import Derived.Test.YtgbnelglhkfdfaaGreatDoorFtG
import Derived.Test.YtgbnelglhkfdfaaGreatDoorFtC
import Derived.Test.YtgbnelglhkfdfaaGreatDoorFtE
import Derived.Deep.RegionHeld3
import Derived.Laws.StructEq
namespace Go.Proofs.YtgbnelglhkfdfaaGreatDoor
namespace Rg
theorem addm_eq (p : T8) : Tx.addm p = ([Tx.trim p]).filter (fun q => !(q == [])) := by
  unfold Tx.addm
  cases h : Tx.trim p <;> rfl
theorem mems_plain : ∀ (l cur : T8), 34 ∉ l → Tx.mems cur false false l = ((cutA cur l).map Tx.trim).filter (fun q => !(q == [])) := by
  intro l
  induction l with
  | nil => intro cur _; rw [Tx.mems, cutA, addm_eq]; rfl
  | cons c r ih =>
    intro cur h
    have hc : (c == 34) = false := beq_false_of_ne (fun e => h (by rw [e]; simp))
    have hr : 34 ∉ r := fun e => h (List.mem_cons_of_mem _ e)
    rw [Tx.mems, cutA, hc]
    by_cases h44 : c = 44
    · subst h44
      rw [if_pos rfl, if_neg (by decide), if_neg (by decide), if_neg (by decide), if_pos (by decide), ih [] hr, addm_eq, List.map_cons, ← List.filter_append]
      rfl
    · rw [if_neg h44, if_neg (by decide), if_neg (by decide), if_neg (by simp), if_neg (by simpa using h44), ih _ hr]
theorem list_plain {l : T8} (h : 34 ∉ l) : Tx.list l = pcs l := mems_plain l [] h
theorem mem_dw {c : UInt8} (hc : Tx.blkB c = false) : ∀ {l : T8}, c ∈ l → c ∈ l.dropWhile Tx.blkB := by
  intro l
  induction l with
  | nil => intro h; exact h
  | cons x r ih =>
    intro h
    rw [List.dropWhile_cons]
    cases hx : Tx.blkB x
    · exact h
    · rcases List.mem_cons.1 h with rfl | h
      · rw [hc] at hx; cases hx
      · exact ih h
theorem mem_trim {c : UInt8} (hc : Tx.blkB c = false) {l : T8} (h : c ∈ l) : c ∈ Tx.trim l := by
  unfold Tx.trim Tx.trimR Tx.trimL
  rw [List.mem_reverse]
  refine mem_dw hc ?_
  rw [List.mem_reverse]
  exact mem_dw hc h
theorem blk34 : Tx.blkB 34 = false := by decide
theorem addm_quote {p : T8} (h : 34 ∈ p) : ∃ q ∈ Tx.addm p, 34 ∈ q := by
  have h1 := mem_trim blk34 h
  unfold Tx.addm
  cases ht : Tx.trim p with
  | nil => rw [ht] at h1; simp at h1
  | cons a b => exact ⟨a :: b, by simp, by rw [← ht]; exact h1⟩
theorem mems_quote : ∀ (l cur : T8) (q e : Bool), (34 ∈ cur ∨ 34 ∈ l) → ∃ p ∈ Tx.mems cur q e l, 34 ∈ p := by
  intro l
  induction l with
  | nil =>
    intro cur q e h
    rw [Tx.mems]
    exact addm_quote (h.resolve_right (by simp))
  | cons c r ih =>
    intro cur q e h
    have h2 : 34 ∈ cur ++ [c] ∨ 34 ∈ r := by
      rcases h with h | h
      · exact .inl (List.mem_append_left _ h)
      · rcases List.mem_cons.1 h with h | h
        · exact .inl (by rw [← h]; simp)
        · exact .inr h
    rw [Tx.mems]
    split
    · exact ih _ _ _ h2
    · split
      · exact ih _ _ _ h2
      · split
        · exact ih _ _ _ h2
        · split
          · rename_i hc
            have hc44 : c = 44 := by
              rw [Bool.and_eq_true] at hc
              exact eq_of_beq hc.2
            rcases h with h | h
            · obtain ⟨p, hp, h3⟩ := addm_quote h
              exact ⟨p, List.mem_append_left _ hp, h3⟩
            · rcases List.mem_cons.1 h with h | h
              · rw [hc44] at h; exact absurd h (by decide)
              · obtain ⟨p, hp, h3⟩ := ih [] q false (.inr h)
                exact ⟨p, List.mem_append_right _ hp, h3⟩
          · exact ih _ _ _ h2
theorem cutA_quote : ∀ (l cur : T8), (34 ∈ cur ∨ 34 ∈ l) → ∃ p ∈ cutA cur l, 34 ∈ p := by
  intro l
  induction l with
  | nil => intro cur h; exact ⟨cur, by simp [cutA], h.resolve_right (by simp)⟩
  | cons c r ih =>
    intro cur h
    rw [cutA]
    split
    · rename_i hc
      rcases h with h | h
      · exact ⟨cur, by simp, h⟩
      · rcases List.mem_cons.1 h with h | h
        · rw [hc] at h; exact absurd h (by decide)
        · obtain ⟨p, hp, h3⟩ := ih [] (.inr h)
          exact ⟨p, List.mem_cons_of_mem _ hp, h3⟩
    · refine ih _ ?_
      rcases h with h | h
      · exact .inl (List.mem_append_left _ h)
      · rcases List.mem_cons.1 h with h | h
        · exact .inl (by rw [← h]; simp)
        · exact .inr h
theorem pcs_quote {l : T8} (h : 34 ∈ l) : ∃ p ∈ pcs l, 34 ∈ p := by
  obtain ⟨p, hp, h3⟩ := cutA_quote l [] (.inr h)
  have h4 := mem_trim blk34 h3
  refine ⟨Tx.trim p, ?_, h4⟩
  unfold pcs
  refine List.mem_filter.2 ⟨List.mem_map_of_mem hp, ?_⟩
  cases ht : Tx.trim p with
  | nil => rw [ht] at h4; simp at h4
  | cons a b => rfl
theorem digB_no {l : T8} (h : digB l = true) : 34 ∉ l := by
  intro hm
  unfold digB at h
  rw [Bool.and_eq_true, Bool.and_eq_true] at h
  have h1 := eq_of_beq h.2
  unfold Tx.num at h1
  split at h1
  · revert h1; decide
  · rename_i h2
    simp only [Bool.or_eq_true, not_or] at h2
    have h3 := h2.2
    simp only [Bool.not_eq_true', Bool.not_eq_false] at h3
    unfold Tx.digs Tx.allC at h3
    have := List.all_eq_true.1 h3 34 hm
    revert this; decide
theorem split_at {l : T8} (h : hasD l = true) : l = l.take (ahead l) ++ 45 :: l.drop (ahead l + 1) := by
  have h1 := ahead_stop h
  obtain ⟨h2, h3⟩ := List.getElem?_eq_some_iff.1 h1
  have h4 : l.drop (ahead l) = 45 :: l.drop (ahead l + 1) := by rw [List.drop_eq_getElem_cons h2, h3]
  rw [← h4, List.take_append_drop]
theorem pc_no {l : T8} {n : Int} (h : (pc l n).2.2 = true) : 34 ∉ l := by
  intro hm
  unfold pc at h
  split at h
  · rename_i hd
    rw [split_at hd, List.mem_append, List.mem_cons] at hm
    simp only at h
    split at h
    · rename_i h0
      rcases hm with hm | hm | hm
      · rw [h0] at hm; simp at hm
      · exact absurd hm (by decide)
      · exact digB_no h (by rw [h0] at hm ⊢; exact hm)
    · split at h
      · rename_i h1
        rcases hm with hm | hm | hm
        · exact digB_no h hm
        · exact absurd hm (by decide)
        · rw [h1, List.drop_length] at hm; simp at hm
      · simp only [Bool.and_eq_true] at h
        rcases hm with hm | hm | hm
        · exact digB_no h.1.1 hm
        · exact absurd hm (by decide)
        · exact digB_no h.1.2 hm
  · cases h
/-- The code's pieces are good where the document's are, and then they are the same. -/
theorem list_good (l : T8) (n : Int) : (34 ∉ l ∧ Tx.list l = pcs l) ∨ ((Tx.list l).all (fun p => (pc p n).2.2) = false ∧ (pcs l).all (fun p => (pc p n).2.2) = false) := by
  by_cases h : 34 ∈ l
  · right
    refine ⟨?_, ?_⟩
    · obtain ⟨p, hp, h1⟩ := mems_quote l [] false false (.inr h)
      rw [Bool.eq_false_iff]; intro ht
      exact pc_no (List.all_eq_true.1 ht p hp) h1
    · obtain ⟨p, hp, h1⟩ := pcs_quote h
      rw [Bool.eq_false_iff]; intro ht
      exact pc_no (List.all_eq_true.1 ht p hp) h1
  · exact .inl ⟨h, list_plain h⟩
/-- What Parse answers, of the code's pieces. -/
theorem err_list {l : T8} {n : Int} (n0 : ¬ n < 0) (hh : (l.take 6 == head6) = true) :
    (err l n = if (Tx.list (l.drop 6)).isEmpty || !(Tx.list (l.drop 6)).all (fun p => (pc p n).2.2) then 160 else if 8 < (Tx.list (l.drop 6)).length then 4 else if (outs (Tx.list (l.drop 6)) n).isEmpty then 161 else 0) ∧ (err l n = 0 → res l n = outs (Tx.list (l.drop 6)) n) := by
  have h0 : err l n = if (pcs (l.drop 6)).isEmpty || !(pcs (l.drop 6)).all (fun p => (pc p n).2.2) then 160 else if 8 < (pcs (l.drop 6)).length then 4 else if (outs (pcs (l.drop 6)) n).isEmpty then 161 else 0 := by unfold err; rw [if_neg n0, if_pos hh]
  rcases list_good (l.drop 6) n with ⟨_, h⟩ | ⟨h1, h2⟩
  · rw [h]
    exact ⟨h0, fun e => by unfold res; rw [e]; rfl⟩
  · rw [h2, Bool.not_false, Bool.or_true, if_pos rfl] at h0
    rw [h1, Bool.not_false, Bool.or_true, if_pos rfl]
    exact ⟨h0, fun e => by rw [h0] at e; exact absurd e (by decide)⟩
/-- A range within a body of n bytes. -/
def wth (r : Rn) (n : Int) : Bool := decide (0 ≤ r.a) && (decide (r.a ≤ r.b) && decide (r.b < n))
theorem pc_wth {l : T8} {n : Int} (n0 : 0 ≤ n) (h : (pc l n).2.2 = true) : wth (pc l n).1 n = (pc l n).2.1 := by
  have key : ∀ (a b : Int) (q : Prop) [Decidable q], ((0 ≤ a ∧ a ≤ b ∧ b < n) ↔ q) → wth ⟨a, b⟩ n = decide q := by
    intro a b q _ hq
    unfold wth
    rw [Bool.eq_iff_iff]
    simp only [Bool.and_eq_true, decide_eq_true_iff]
    exact hq
  unfold pc at h ⊢
  split at h
  · rename_i hd
    rw [if_pos hd]
    simp only at h ⊢
    have hx := digN_bd (l.take (ahead l))
    have hy := digN_bd (l.drop (ahead l + 1))
    split at h
    · rename_i h0
      rw [if_pos h0]
      simp only
      rw [key _ _ (0 < digN (l.drop (ahead l + 1)) ∧ 0 < n) (by omega), Bool.decide_and]
    · rename_i h0
      rw [if_neg h0]
      split at h
      · rename_i h1
        rw [if_pos h1]
        exact key _ _ _ (by omega)
      · rename_i h1
        rw [if_neg h1]
        simp only [Bool.and_eq_true, decide_eq_true_iff] at h
        exact key _ _ _ (by have := h.2; omega)
  · cases h
/-- What the code reads of a text's digits. -/
def cB (l : T8) : Bool := decide (l.length ≤ 15) && ((Tx.num 10 l).2 == 0)
theorem cB_eq (l : T8) : cB l = digB l := by
  unfold cB digB
  cases l with
  | nil => rfl
  | cons a b => simp
theorem digN_ok {l : T8} (h : digB l = true) : digN l = (Tx.num 10 l).1 := by
  unfold digB at h
  unfold digN
  simp only [Bool.and_eq_true, decide_eq_true_iff] at h
  rw [if_pos h.1]
theorem occ45 (l : T8) (j : Nat) : Lib.occAt l [45] j = (l[j]? == some 45) := by
  unfold Lib.occAt
  rw [← List.head?_drop]
  cases l.drop j with
  | nil => rfl
  | cons c r => rw [List.head?_cons]; simp only [List.isPrefixOf, Bool.and_true]; rw [Option.some_beq_some, Bool.beq_comm]
theorem cut_dash (l : T8) : Lib.cut l [45] = if hasD l then (l.take (ahead l), l.drop (ahead l + 1), true) else (l, [], false) := by
  cases h : hasD l
  · have : Lib.index l [45] = -1 := Lib.index_none (fun j _ => by
      rw [occ45]
      cases hq : l[j]? with
      | none => rfl
      | some c => rw [Option.some_beq_some]; exact ahead_all h j c hq)
    unfold Lib.cut
    rw [this]; rfl
  · have : Lib.index l [45] = (ahead l : Int) := Lib.index_first (Nat.le_of_lt (ahead_lt h)) (by rw [occ45, ahead_stop h]; rfl) (fun j hj => by
      obtain ⟨c, h1, h2⟩ := ahead_at hj
      rw [occ45, h1, Option.some_beq_some]; exact h2)
    unfold Lib.cut
    rw [this, if_pos (by omega)]
    rfl
end Rg
end Go.Proofs.YtgbnelglhkfdfaaGreatDoor

namespace Go.Proofs.YtgbnelglhkfdfaaGreatDoor
open Go.RowKit

def rgV (r : Rg.Rn) : List Value := [.int .i64 r.a, .int .i64 r.b]
def rgC (l : List Rg.Rn) : List Value := l.flatMap rgV
theorem rgC_app (l m : List Rg.Rn) : rgC (l ++ m) = rgC l ++ rgC m := by simp [rgC]
theorem two_new16 (w : World) (T : TypeId) (x0 x1 : Value) : ∀ j v, [x0, x1][j]? = some v → (w.alloc (.cells #[x0, x1] T)).cell? ((⟨w.heap.size, 0, none⟩ : Addr).add j) = some v := by
  intro j v h
  rw [Addr.add_mid, Nat.zero_add]
  have hA : Ar (w.alloc (.cells #[x0, x1] T)) w.heap.size T #[x0, x1] := heap_alloc_last w _
  exact hA.cell j v (by simpa using h)
theorem own_str16 {w : World} {B : Nat} {e : TypeId} {ao : Option Addr} {n m cap : Nat} {l : List (List UInt8)} (h : w.ownsRow B e 1 (.slice ao n cap) m (sC16 l)) (i : Nat) (p : List UInt8) (hp : l[i]? = some p) : ∃ g, ao = some ⟨g, 0, none⟩ ∧ w.cell? ⟨g, i, none⟩ = some (.string ⟨p.toArray⟩) := by
  have hx : (sC16 l)[i]? = some (.string ⟨p.toArray⟩) := by unfold sC16; rw [List.getElem?_map, hp]; rfl
  have hlt := (List.getElem?_eq_some_iff.1 hx).1
  rcases h.2 with ⟨_, h0⟩ | ⟨g, cap', cur, h1, h2⟩
  · rw [h.1, h0] at hlt; omega
  · injection h1 with h1 h3 h4
    subst h1
    have := h.cells (g := g) rfl i _ hx
    rw [Addr.add_mid, Nat.zero_add] at this
    exact ⟨g, rfl, this⟩
theorem own_diff16 {w : World} {B B' : Nat} {e e' : TypeId} {s s' : Nat} {v v' : Value} {n n' : Nat} {xs xs' : List Value} (h : w.ownsRow B e s v n xs) (h' : w.ownsRow B' e' s' v' n' xs') (hne : e ≠ e') : ∀ k, v.ownBlock = some k → v'.ownBlock ≠ some k := fun k hk hk' => by
  obtain ⟨_, c1, h1⟩ := own_ty h k hk
  obtain ⟨_, c2, h2⟩ := own_ty h' k hk'
  rw [h1] at h2
  simp at h2
  exact hne h2.2

namespace Rg
theorem outs_take {ps : List T8} {k : Nat} {p : T8} (n : Int) (h : ps[k]? = some p) : outs (ps.take (k + 1)) n = outs (ps.take k) n ++ (if (pc p n).2.1 then [(pc p n).1] else []) := by
  unfold outs
  rw [List.take_add_one, h]
  simp only [Option.toList_some, List.filter_append, List.map_append, List.filter_cons, List.filter_nil]
  cases (pc p n).2.1 <;> rfl
theorem all_take {ps : List T8} {k : Nat} {p : T8} (g : T8 → Bool) (h : ps[k]? = some p) : (ps.take (k + 1)).all g = ((ps.take k).all g && g p) := by
  rw [List.take_add_one, h]; simp
theorem pcs_len (l : T8) : (pcs l).length ≤ l.length + 1 := by
  have key : ∀ (r cur : T8), (cutA cur r).length ≤ r.length + 1 := by
    intro r
    induction r with
    | nil => intro cur; simp [cutA]
    | cons c r ih =>
      intro cur
      rw [cutA]
      split
      · have := ih []; simp; omega
      · have := ih (cur ++ [c]); simp; omega
  have h1 := key l []
  unfold pcs
  have h2 := List.length_filter_le (fun p => !(p == [])) ((cutA [] l).map Tx.trim)
  rw [List.length_map] at h2
  exact Nat.le_trans h2 h1
theorem pcs_size {l p : T8} (h : p ∈ pcs l) : p.length ≤ l.length := by
  have key : ∀ (r cur : T8), ∀ q ∈ cutA cur r, q.length ≤ cur.length + r.length := by
    intro r
    induction r with
    | nil => intro cur q hq; simp [cutA] at hq; subst hq; simp
    | cons c r ih =>
      intro cur q hq
      rw [cutA] at hq
      split at hq
      · rcases List.mem_cons.1 hq with rfl | hq
        · simp
        · have := ih [] q hq; simp at this ⊢; omega
      · have := ih _ q hq; simp at this ⊢; omega
  unfold pcs at h
  have h1 := (List.mem_filter.1 h).1
  obtain ⟨q, hq, rfl⟩ := List.mem_map.1 h1
  have h2 := key l [] q hq
  have h3 := Tx.trim_le q
  simp at h2
  omega
end Rg
theorem head_at16 (s : ByteArray) (l : List UInt8) (hl : s.data.toList = l) : ((s.extract 0 6).toList == [98, 121, 116, 101, 115, 61]) = (l.take 6 == Rg.head6) := by
  rw [ext_td16, Lib.toList_data, hl]; rfl

end Go.Proofs.YtgbnelglhkfdfaaGreatDoor

namespace Go.Proofs.YtgbnelglhkfdfaaGreatDoor
open Go.RowKit

set_option maxHeartbeats 1000000 in
theorem cnum16 (s : ByteArray) (l : List UInt8) (hl : s.data.toList = l) (hs : s.size ≤ 1048576) : ∃ z : Int, (Rg.digB l = true → z = Rg.digN l) ∧ ∀ (w : World),
    Calls Tryz.prog 113 #[.string s] w fun e w' => e = .returned (.tuple #[.int .i64 z, .bool (Rg.digB l)]) ∧ w' = w := by
  have HSZ : Hid (s.size = l.length) := hid' (by rw [Lib.size_eq, hl])
  by_cases h2 : (15 : Int) < (s.size : Int)
  · have HN : Hid (Rg.digB l = false) := hid' (by unfold Rg.digB; rw [decide_eq_false (show ¬ l.length ≤ 15 by have := HSZ.out; omega), Bool.and_false]; rfl)
    refine ⟨0, (fun h => by rw [HN.out] at h; cases h), fun w => ?_⟩
    rw [HN.out]
    go_enter Tryz.func113, Tryz.ntmps113
    go_wp2
    go_ret2
    exact ⟨rfl, rfl⟩
  · have HN : Hid (Rg.digB l = ((Tx.num 10 l).2 == 0)) := hid' (by rw [← Rg.cB_eq]; unfold Rg.cB; rw [decide_eq_true (show l.length ≤ 15 by have := HSZ.out; omega), Bool.true_and])
    have HNM := hid' (fun w => number_any s w (by unfold maxLen; omega))
    rw [hl] at HNM
    have HOK : Hid (Rg.digB l = true → (Tx.num 10 l).1 = Rg.digN l) := hid' (fun h => (Rg.digN_ok h).symm)
    obtain ⟨a, ha⟩ : ∃ a, (Tx.num 10 l).1 = a := ⟨_, rfl⟩
    obtain ⟨b, hb⟩ : ∃ b, (Tx.num 10 l).2 = b := ⟨_, rfl⟩
    rw [ha] at HOK HNM
    rw [hb] at HN HNM
    clear ha hb
    refine ⟨a, HOK.out, fun w => ?_⟩
    rw [HN.out]
    go_enter Tryz.func113, Tryz.ntmps113
    go_wp2_with fail
    refine (HNM.out _).mono ?_
    rintro e w1 ⟨rfl, hw⟩
    subst w1
    go_wp2
    go_ret2
    exact ⟨rfl, rfl⟩

set_option maxHeartbeats 1000000 in
theorem cwth16 (r : Rg.Rn) (n : Int) (w : World) :
    Calls Tryz.prog 82 #[.agg #[.int .i64 r.a, .int .i64 r.b], .int .i64 n] w fun e w' => e = .returned (.bool (Rg.wth r n)) ∧ Below w.heap.size w w' := by
  obtain ⟨a, b⟩ := r
  have HX : Hid (Ar (w.alloc (.cells #[.int .i64 a, .int .i64 b] 96)) w.heap.size 96 #[.int .i64 a, .int .i64 b]) := hid' (heap_alloc_last w _)
  have HB1 := hid' (bl_alloc w (.cells #[.int .i64 a, .int .i64 b] 96))
  by_cases h1 : (0 : Int) ≤ a
  · by_cases h2 : a ≤ b
    · have HW : Hid (Rg.wth ⟨a, b⟩ n = decide (b < n)) := hid' (by unfold Rg.wth; simp only; rw [decide_eq_true h1, decide_eq_true h2, Bool.true_and, Bool.true_and])
      go_enter Tryz.func82, Tryz.ntmps82
      go_wp2
      go_ret
      exact ⟨by rw [HW.out]; rfl, HB1.out⟩
    · have HW : Hid (Rg.wth ⟨a, b⟩ n = false) := hid' (by unfold Rg.wth; simp only; rw [decide_eq_false h2, Bool.false_and, Bool.and_false])
      go_enter Tryz.func82, Tryz.ntmps82
      go_wp2
      go_ret
      exact ⟨by rw [HW.out]; rfl, HB1.out⟩
  · have HW : Hid (Rg.wth ⟨a, b⟩ n = false) := hid' (by unfold Rg.wth; simp only; rw [decide_eq_false h1, Bool.false_and])
    go_enter Tryz.func82, Tryz.ntmps82
    go_wp2
    go_ret
    exact ⟨by rw [HW.out]; rfl, HB1.out⟩

end Go.Proofs.YtgbnelglhkfdfaaGreatDoor

namespace Go.Proofs.YtgbnelglhkfdfaaGreatDoor
open Go.RowKit

theorem told_cat16 (a b c : List UInt8) : (((((⟨#[98, 121, 116, 101, 115, 32]⟩ : ByteArray) ++ ⟨a.toArray⟩) ++ ⟨#[45]⟩) ++ ⟨b.toArray⟩) ++ ⟨#[47]⟩) ++ ⟨c.toArray⟩ = ⟨(Rg.sBytes ++ (a ++ 45 :: (b ++ 47 :: c))).toArray⟩ := by
  apply ByteArray.ext; simp [Rg.sBytes]

end Go.Proofs.YtgbnelglhkfdfaaGreatDoor

namespace Go.Proofs.YtgbnelglhkfdfaaGreatDoor
open Go.RowKit

set_option maxHeartbeats 4000000 in
set_option maxRecDepth 20000 in
theorem ctold16 (r : Rg.Rn) (n : Int) (w : World) (a0 : -9223372036854775808 ≤ r.a) (a1 : r.a ≤ 9223372036854775807) (b0 : -9223372036854775808 ≤ r.b) (b1 : r.b ≤ 9223372036854775807) (n0 : -9223372036854775808 ≤ n) (n1 : n ≤ 9223372036854775807) (hT : TB16 w) :
    Calls Tryz.prog 83 #[.agg #[.int .i64 r.a, .int .i64 r.b], .int .i64 n] w fun e w' => e = .returned (.string ⟨(Rg.told r n).toArray⟩) ∧ Below w.heap.size w w' := by
  obtain ⟨ra, rb⟩ := r
  simp only at *
  have HX : Hid (Ar (w.alloc (.cells #[.int .i64 ra, .int .i64 rb] 96)) w.heap.size 96 #[.int .i64 ra, .int .i64 rb]) := hid' (heap_alloc_last w _)
  have HB1 := hid' (bl_alloc w (.cells #[.int .i64 ra, .int .i64 rb] 96))
  obtain ⟨a, ha⟩ : ∃ a, Lib.itoa ra = a := ⟨_, rfl⟩
  obtain ⟨b, hb⟩ : ∃ b, Lib.itoa rb = b := ⟨_, rfl⟩
  obtain ⟨c, hc⟩ : ∃ c, Lib.itoa n = c := ⟨_, rfl⟩
  have la : a.length ≤ 21 := by rw [← ha]; exact Tx.itoa_le _ 19 (by omega)
  have lb : b.length ≤ 21 := by rw [← hb]; exact Tx.itoa_le _ 19 (by omega)
  have lc : c.length ≤ 21 := by rw [← hc]; exact Tx.itoa_le _ 19 (by omega)
  have HAB : Hid (Rg.told ⟨ra, rb⟩ n = Rg.sBytes ++ (a ++ 45 :: (b ++ 47 :: c))) := hid' (by unfold Rg.told; rw [ha, hb, hc])
  have HD1 := hid' (fun W (h : Below w.heap.size w W) => decimal_any ra a0 a1 W (hT.keep h).1)
  have HD2 := hid' (fun W (h : Below w.heap.size w W) => decimal_any rb b0 b1 W (hT.keep h).1)
  have HD3 := hid' (fun W (h : Below w.heap.size w W) => decimal_any n n0 n1 W (hT.keep h).1)
  rw [ha] at HD1
  rw [hb] at HD2
  rw [hc] at HD3
  have k1 : ¬ 9223372036854775807 < 6 + a.length := by omega
  have k2 : ¬ 9223372036854775807 < 6 + a.length + 1 := by omega
  have k3 : ¬ 9223372036854775807 < 6 + a.length + 1 + b.length := by omega
  have k4 : ¬ 9223372036854775807 < 6 + a.length + 1 + b.length + 1 := by omega
  have k5 : ¬ 9223372036854775807 < 6 + a.length + 1 + b.length + 1 + c.length := by omega
  clear ha hb hc hT
  go_enter Tryz.func83, Tryz.ntmps83
  go_upto_region 1 with fail
  obtain ⟨xb, hxb⟩ : ∃ xb, w.heap.size = xb := ⟨_, rfl⟩
  rw [hxb] at HX ⊢
  generalize w.alloc (.cells #[.int .i64 ra, .int .i64 rb] 96) = w1 at *
  clear hxb
  have sOf : ∀ W W1 : World, (Below w1.heap.size w1 W ∧ W.cell? ⟨xb, 0, none⟩ = some (.int .i64 ra) ∧ W.cell? ⟨xb, 1, none⟩ = some (.int .i64 rb)) → Below W.heap.size W W1 → (Below w1.heap.size w1 W1 ∧ W1.cell? ⟨xb, 0, none⟩ = some (.int .i64 ra) ∧ W1.cell? ⟨xb, 1, none⟩ = some (.int .i64 rb)) := fun W W1 h hb => ⟨below_two h.1 hb, (HX.out.keep (below_two h.1 hb)).cell 0 _ rfl, (HX.out.keep (below_two h.1 hb)).cell 1 _ rfl⟩
  have hS : Below w1.heap.size w1 w1 ∧ w1.cell? ⟨xb, 0, none⟩ = some (.int .i64 ra) ∧ w1.cell? ⟨xb, 1, none⟩ = some (.int .i64 rb) := ⟨Below.refl _ _, HX.out.cell 0 _ rfl, HX.out.cell 1 _ rfl⟩
  go_region_held3 (fun W => Below w1.heap.size w1 W ∧ W.cell? ⟨xb, 0, none⟩ = some (.int .i64 ra) ∧ W.cell? ⟨xb, 1, none⟩ = some (.int .i64 rb))
    (first | assumption | exact sOf _ _ (by assumption) (by assumption) | exact sOf _ _ (by assumption) ((Below.refl _ _).drew))
    (first
      | (go_at_call 20; with_reducible refine (HD1.out _ ?_).mono ?_; exact below_two HB1.out (And.left (by assumption)); rintro e wz ⟨rfl, hbz⟩)
      | (go_at_call 20; with_reducible refine (HD2.out _ ?_).mono ?_; exact below_two HB1.out (And.left (by assumption)); rintro e wz ⟨rfl, hbz⟩)
      | (go_at_call 20; with_reducible refine (HD3.out _ ?_).mono ?_; exact below_two HB1.out (And.left (by assumption)); rintro e wz ⟨rfl, hbz⟩))
  have hz : Below w1.heap.size w1 wz := And.left (by assumption : Below w1.heap.size w1 wz ∧ wz.cell? ⟨xb, 0, none⟩ = some (.int .i64 ra) ∧ wz.cell? ⟨xb, 1, none⟩ = some (.int .i64 rb))
  have HBB := hid' (below_two HB1.out hz)
  clear sOf hS hz
  go_wp2
  go_ret
  refine ⟨?_, HBB.out⟩
  rw [HAB.out, ← told_cat16]
  rfl

set_option maxHeartbeats 1000000 in
theorem cunmet16 (n : Int) (w : World) (n0 : -9223372036854775808 ≤ n) (n1 : n ≤ 9223372036854775807) (hT : TB16 w) :
    Calls Tryz.prog 53 #[.int .i64 n] w fun e w' => e = .returned (.string ⟨(Rg.unmet n).toArray⟩) ∧ Below w.heap.size w w' := by
  obtain ⟨c, hc⟩ : ∃ c, Lib.itoa n = c := ⟨_, rfl⟩
  have lc : c.length ≤ 21 := by rw [← hc]; exact Tx.itoa_le _ 19 (by omega)
  have HD := hid' (decimal_any n n0 n1 w hT.1)
  rw [hc] at HD
  have HU : Hid ((⟨(Rg.unmet n).toArray⟩ : ByteArray) = (⟨#[98, 121, 116, 101, 115, 32, 42, 47]⟩ : ByteArray) ++ ⟨c.toArray⟩) := hid' (by unfold Rg.unmet; rw [hc]; apply ByteArray.ext; simp)
  have k1 : ¬ 9223372036854775807 < 8 + c.length := by omega
  clear hc hT
  go_enter Tryz.func53, Tryz.ntmps53
  go_wp2_with fail
  refine HD.out.mono ?_
  rintro e w1 ⟨rfl, hb1⟩
  go_wp2
  go_ret
  exact ⟨by rw [HU.out]; rfl, hb1⟩

end Go.Proofs.YtgbnelglhkfdfaaGreatDoor

namespace Go.Proofs.YtgbnelglhkfdfaaGreatDoor
open Go.RowKit

namespace Rg
def atP (s b : T8) (i : Nat) : Bool := (b.drop i).take s.length == s
theorem stands_yes {s b : T8} {k : Nat} (h : atP s b k = true) (hk : k + s.length ≤ b.length) : stands s b = true := by
  unfold stands
  rw [List.any_eq_true]
  exact ⟨k, List.mem_range.2 (by omega), h⟩
theorem stands_no {s b : T8} {k : Nat} (h : ∀ i, i < k → atP s b i = false) (hk : b.length < k + s.length) : stands s b = false := by
  unfold stands
  rw [List.any_eq_false]
  intro i hi
  have := h i (by have := List.mem_range.1 hi; omega)
  unfold atP at this
  rw [this]; decide
end Rg

theorem noStand16 : Tryz.prog.stoodInHeld 96 = false := by kernel_rfl
theorem fieldsOf16 : Tryz.prog.underlying 96 = some (.struct (Tryz.prog.fieldsOf 96)) := by kernel_rfl
set_option maxRecDepth 20000 in
theorem neqRg16 (a b : Int) (w : World) : (binOp .neq 96 (.agg #[.int .i64 a, .int .i64 b]) (.agg #[.int .i64 a, .int .i64 b])).run Tryz.prog w = .ok (.bool false) w := by
  rw [run_neq_struct, show (10000 : Nat) = 9999 + 1 by rfl, run_equalIn_agg w 9999 96 _ _ fieldsOf16 noStand16]
  simp only [Program.fieldsOf, Tryz.underlying96]
  go_simp

theorem rgC_length (l : List Rg.Rn) : (rgC l).length = l.length * 2 := by
  induction l with
  | nil => rfl
  | cons a r ih => simp only [rgC, List.flatMap_cons, List.length_append, List.length_cons] at *; simp [rgV] at *; omega
theorem rg_at (l : List Rg.Rn) (i : Nat) (p : Rg.Rn) (h : l[i]? = some p) : ∀ j, j < 2 → (rgC l)[i * 2 + j]? = (rgV p)[j]? := by
  induction l generalizing i with
  | nil => simp at h
  | cons a r ih =>
    intro j hj
    rw [show rgC (a :: r) = rgV a ++ rgC r from rfl]
    cases i with
    | zero => simp at h; subst h; rw [List.getElem?_append_left (by simp [rgV]; omega)]; congr 1; omega
    | succ i =>
      rw [List.getElem?_append_right (by simp [rgV]; omega), show (i + 1) * 2 + j - (rgV a).length = i * 2 + j by simp [rgV]; omega]
      exact ih i (by simpa using h) j hj
theorem own_two16 {w : World} {B : Nat} {e : TypeId} {ao : Option Addr} {n m cap : Nat} {l : List Rg.Rn} (h : w.ownsRow B e 2 (.slice ao n cap) m (rgC l)) (i : Nat) (p : Rg.Rn) (hp : l[i]? = some p) : ∃ g, ao = some ⟨g, 0, none⟩ ∧ w.cell? ⟨g, i * 2, none⟩ = some (.int .i64 p.a) ∧ w.cell? ⟨g, i * 2 + 1, none⟩ = some (.int .i64 p.b) := by
  have hlt : i * 2 < (rgC l).length := by rw [rgC_length]; have := (List.getElem?_eq_some_iff.1 hp).1; omega
  rcases h.2 with ⟨_, h0⟩ | ⟨g, cap', cur, h1, h2⟩
  · rw [h.1, h0] at hlt; omega
  · injection h1 with h1 h3 h4
    subst h1
    have key : ∀ j u, j < 2 → (rgV p)[j]? = some u → w.cell? ⟨g, i * 2 + j, none⟩ = some u := fun j u hj hu => by
      have := h.cells (g := g) rfl _ u ((rg_at l i p hp j hj).trans hu)
      rwa [Addr.add_mid, Nat.zero_add] at this
    exact ⟨g, rfl, key 0 _ (by omega) rfl, key 1 _ (by omega) rfl⟩

/-- Ranges that can be read, wherever they lie. -/
def RW16 (w : World) (ao : Option Addr) (rs : List Rg.Rn) : Prop := ∀ (i : Nat) (p : Rg.Rn), rs[i]? = some p → ∃ a : Addr, ao = some a ∧ (a.add (i * 2)).block < w.heap.size ∧ w.cell? (a.add (i * 2)) = some (.int .i64 p.a) ∧ w.cell? ⟨(a.add (i * 2)).block, (a.add (i * 2)).off + 1, none⟩ = some (.int .i64 p.b)
theorem RW16.nil (w : World) (ao : Option Addr) : RW16 w ao [] := fun i p h => by simp at h
theorem RW16.below {w w' : World} {ao : Option Addr} {rs : List Rg.Rn} (h : RW16 w ao rs) (hb : Below w.heap.size w w') : RW16 w' ao rs := fun i p hp => by
  obtain ⟨a, ha, hl, c0, c1⟩ := h i p hp
  exact ⟨a, ha, Nat.lt_of_lt_of_le hl hb.size, (hb.cell hl).trans c0, (hb.cell (p := ⟨(a.add (i * 2)).block, (a.add (i * 2)).off + 1, none⟩) hl).trans c1⟩
theorem RW16.own {w : World} {B : Nat} {e : TypeId} {ao : Option Addr} {n m cap : Nat} {l : List Rg.Rn} (h : w.ownsRow B e 2 (.slice ao n cap) m (rgC l)) : RW16 w ao l := fun i p hp => by
  obtain ⟨g, rfl, h0, h1⟩ := own_two16 h i p hp
  have e : (⟨g, 0, none⟩ : Addr).add (i * 2) = ⟨g, i * 2, none⟩ := by rw [Addr.add_mid, Nat.zero_add]
  refine ⟨⟨g, 0, none⟩, rfl, ?_, by rw [e]; exact h0, by rw [e]; exact h1⟩
  rw [e]
  exact own_lt h g rfl
theorem RW16.take {w : World} {ao : Option Addr} {rs rs' : List Rg.Rn} (h : RW16 w ao (rs ++ rs')) : RW16 w ao rs := fun i p hp => h i p (by rw [List.getElem?_append_left (List.getElem?_eq_some_iff.1 hp).1]; exact hp)
/-- A literal of one or of two ranges. -/
theorem RW16.lit {w : World} {g : Nat} {T : TypeId} {l : List Rg.Rn} (h : Ar w g T (rgC l).toArray) : RW16 w (some ⟨g, 0, none⟩) l := fun i p hp => by
  have e : (⟨g, 0, none⟩ : Addr).add (i * 2) = ⟨g, i * 2, none⟩ := by rw [Addr.add_mid, Nat.zero_add]
  refine ⟨⟨g, 0, none⟩, rfl, by rw [e]; exact h.lt, ?_, ?_⟩
  · rw [e]
    exact h.cell (i * 2) _ (by rw [List.getElem?_toArray]; exact rg_at l i p hp 0 (by omega))
  · rw [e]
    exact h.cell (i * 2 + 1) _ (by rw [List.getElem?_toArray]; exact rg_at l i p hp 1 (by omega))

end Go.Proofs.YtgbnelglhkfdfaaGreatDoor

namespace Go.Proofs.YtgbnelglhkfdfaaGreatDoor
namespace Rg
def crlf : T8 := [13, 10]
def dd : T8 := [45, 45]
def sType : T8 := [67, 111, 110, 116, 101, 110, 116, 45, 84, 121, 112, 101, 58, 32]
def sRange : T8 := [67, 111, 110, 116, 101, 110, 116, 45, 82, 97, 110, 103, 101, 58, 32]
theorem fl1 (a : T8) : [a].flatten.length = a.length := by simp
theorem fl2 (a b : T8) : [a, b].flatten.length = a.length + b.length := by simp
theorem fl3 (a b c : T8) : [a, b, c].flatten.length = a.length + b.length + c.length := by simp; omega
/-- The bytes of a range. -/
def cutR (b : T8) (r : Rn) : T8 := (b.drop r.a.toNat).take ((r.b + 1).toNat - r.a.toNat)
/-- What stands ahead of a range's bytes. -/
def hd (k ln : T8) (r : Rn) (n : Int) : T8 := dd ++ (ln ++ (crlf ++ (sType ++ (k ++ (crlf ++ (sRange ++ (told r n ++ (crlf ++ crlf))))))))
def part (b k ln : T8) (r : Rn) : T8 := hd k ln r b.length ++ (cutR b r ++ crlf)
def fin (ln : T8) : T8 := dd ++ (ln ++ (dd ++ crlf))
def parts (b k ln : T8) (rs : List Rn) : T8 := rs.flatMap (part b k ln) ++ fin ln
/-- Whether there are ranges, all within the body. -/
def okP (b : T8) (rs : List Rn) : Bool := !rs.isEmpty && rs.all (fun r => wth r b.length)
def partsS (b k ln : T8) (rs : List Rn) : T8 := if okP b rs then parts b k ln rs else []
def partsE (b : T8) (rs : List Rn) : Int := if okP b rs then 0 else 1
theorem wth_nat {r : Rn} {n : Nat} (h : wth r n = true) : ∃ A C : Nat, r = ⟨(A : Int), (C : Int)⟩ ∧ A ≤ C ∧ C < n := by
  obtain ⟨a, b⟩ := r
  unfold wth at h
  simp only [Bool.and_eq_true, decide_eq_true_iff] at h
  exact ⟨a.toNat, b.toNat, by congr 1 <;> omega, by omega, by omega⟩
theorem itoa_19 {n : Int} (h0 : -9223372036854775808 ≤ n) (h1 : n ≤ 9223372036854775807) : (Lib.itoa n).length ≤ 21 := Tx.itoa_le _ 19 (by omega)
theorem told_len {r : Rn} {n : Nat} (h : wth r n = true) (hn : n ≤ 1048576) : (told r n).length ≤ 71 := by
  obtain ⟨A, C, rfl, h1, h2⟩ := wth_nat h
  unfold told
  have a1 := itoa_19 (n := (A : Int)) (by omega) (by omega)
  have a2 := itoa_19 (n := (C : Int)) (by omega) (by omega)
  have a3 := itoa_19 (n := (n : Int)) (by omega) (by omega)
  simp only [sBytes, List.length_append, List.length_cons, List.length_nil]
  omega
theorem cutR_len (b : T8) (r : Rn) : (cutR b r).length ≤ b.length := by
  unfold cutR
  rw [List.length_take, List.length_drop]; omega
theorem part_len {b k ln : T8} {r : Rn} (h : wth r b.length = true) (hb : b.length ≤ 1048576) : (part b k ln r).length ≤ b.length + k.length + ln.length + 200 := by
  have h1 := told_len h hb
  have h2 := cutR_len b r
  unfold part hd
  simp only [List.length_append, crlf, dd, sType, sRange, List.length_cons, List.length_nil]
  omega
theorem flat_len {b k ln : T8} {rs : List Rn} (h : rs.all (fun r => wth r b.length) = true) (hb : b.length ≤ 1048576) : (rs.flatMap (part b k ln)).length ≤ rs.length * (b.length + k.length + ln.length + 200) := by
  induction rs with
  | nil => simp
  | cons r rs ih =>
    rw [List.all_cons, Bool.and_eq_true] at h
    have h1 := part_len (k := k) (ln := ln) h.1 hb
    have h2 := ih h.2
    rw [List.flatMap_cons, List.length_append, List.length_cons, Nat.succ_mul]
    omega
theorem flat_take {b k ln : T8} {rs : List Rn} {i : Nat} {r : Rn} (h : rs[i]? = some r) : (rs.take (i + 1)).flatMap (part b k ln) = (rs.take i).flatMap (part b k ln) ++ part b k ln r := by
  rw [List.take_add_one, h]; simp
theorem all_take2 {rs : List Rn} {i : Nat} {r : Rn} (g : Rn → Bool) (h : rs[i]? = some r) : (rs.take (i + 1)).all g = ((rs.take i).all g && g r) := by
  rw [List.take_add_one, h]; simp
theorem okP_bad {b : T8} {rs : List Rn} {r : Rn} (hr : r ∈ rs) (h : wth r b.length = false) : okP b rs = false := by
  unfold okP
  have : rs.all (fun r => wth r b.length) = false := by
    rw [Bool.eq_false_iff]; intro ht
    have := List.all_eq_true.1 ht r hr
    rw [h] at this; cases this
  rw [this, Bool.and_false]
end Rg
end Go.Proofs.YtgbnelglhkfdfaaGreatDoor

namespace Go.Proofs.YtgbnelglhkfdfaaGreatDoor
open Go.RowKit

theorem zeroBd16 : (Tryz.prog.info? 106).map (fun i => i.zero) = some (some (.agg #[.pointer none, .slice none 0 0])) := by kernel_rfl

set_option maxHeartbeats 8000000 in
set_option maxRecDepth 20000 in
theorem cparts16 (x kd ln : ByteArray) (ao : Option Addr) (n cap : Nat) (rs : List Rg.Rn) (hn : rs.length = n) (hnb : n ≤ 1048576) (w : World) (hrs : RW16 w ao rs) (hx : x.size ≤ 1048576) (hk : kd.size ≤ 1048576) (hl : ln.size ≤ 1048576) (hT : TB16 w) :
    Calls Tryz.prog 85 #[.string x, .string kd, .string ln, .slice ao n cap] w fun e w' => e = .returned (.tuple #[.string ⟨(Rg.partsS x.data.toList kd.data.toList ln.data.toList rs).toArray⟩, .int .i64 (Rg.partsE x.data.toList rs)]) ∧ Below w.heap.size w w' := by
  obtain ⟨X, hX⟩ : ∃ X, x.data.toList = X := ⟨_, rfl⟩
  obtain ⟨K, hK⟩ : ∃ K, kd.data.toList = K := ⟨_, rfl⟩
  obtain ⟨L, hL⟩ : ∃ L, ln.data.toList = L := ⟨_, rfl⟩
  rw [hX, hK, hL]
  have HXS : Hid (X.length = x.size) := hid' (by rw [← hX, ← Lib.size_eq])
  have HKS : Hid (K.length = kd.size) := hid' (by rw [← hK, ← Lib.size_eq])
  have HLS : Hid (L.length = ln.size) := hid' (by rw [← hL, ← Lib.size_eq])
  have HXX := hid' hX
  have HKE : Hid (kd = ⟨K.toArray⟩) := hid' (by rw [← hK])
  have HLE : Hid (ln = ⟨L.toArray⟩) := hid' (by rw [← hL])
  have HRS := hid' hrs
  have HN := hid' hn
  have HT := hid' hT
  clear hX hK hL hrs hn hT
  by_cases hn0 : n = 0
  · have hnB : ((n : Int) == 0) = true := by rw [beq_iff_eq]; omega
    have HOK : Hid (Rg.okP X rs = false) := hid' (by
      have : rs = [] := List.eq_nil_of_length_eq_zero (HN.out.trans hn0)
      rw [this]; rfl)
    have HS : Hid (Rg.partsS X K L rs = []) := hid' (by unfold Rg.partsS; rw [HOK.out]; rfl)
    have HE : Hid (Rg.partsE X rs = 1) := hid' (by unfold Rg.partsE; rw [HOK.out]; rfl)
    clear hn0
    go_enter Tryz.func85, Tryz.ntmps85
    go_wp2
    go_ret2
    exact ⟨by rw [HS.out, HE.out]; rfl, Below.refl _ _⟩
  have hnB : ((n : Int) == 0) = false := by rw [beq_eq_false_iff_ne]; omega
  have HNE : Hid (rs.isEmpty = false) := hid' (by
    cases hq : rs with
    | nil => exact absurd (HN.out.symm.trans (by rw [hq]; rfl)) hn0
    | cons a b => rfl)
  clear hn0
  go_enter Tryz.func85, Tryz.ntmps85
  go_wp2
  go_loopw [20] (fun s20 wr => ∃ i : Nat, s20 = .int .i64 (i : Int) ∧ i ≤ n ∧ Hid ((rs.take i).all (fun r => Rg.wth r X.length) = true) ∧ Hid (Below w.heap.size w wr)) (fun s20 _ => n - (intOf s20).toNat)
  case atStart => exact ⟨0, rfl, Nat.zero_le _, hid' rfl, hid' (Below.refl _ _)⟩
  case round =>
    obtain ⟨i, rfl, hi, HAL, HB⟩ := hrel
    by_cases hlt : i < n
    · have hlt2 : (i : Int) < (n : Int) := by omega
      obtain ⟨r, hr⟩ : ∃ r, rs[i]? = some r := ⟨_, List.getElem?_eq_getElem (by rw [HN.out]; exact hlt)⟩
      obtain ⟨a, rfl, _, y0, y1⟩ := (HRS.out.below HB.out) i r hr
      have HMEM := hid' (List.mem_of_getElem? hr)
      have HAT := hid' (Rg.all_take2 (fun r => Rg.wth r X.length) hr)
      have HWT := hid' (fun W => cwth16 r (x.size : Int) W)
      have HWX : Hid (Rg.wth r (X.length : Int) = Rg.wth r (x.size : Int)) := hid' (by rw [HXS.out])
      obtain ⟨ra, rb⟩ := r
      simp only at y0 y1 HWT
      have HBa := hid' (below_two HB.out (bl_alloc wr (.cells #[.int .i64 ra, .int .i64 rb] 96)))
      have HLa : Hid (Ar (wr.alloc (.cells #[.int .i64 ra, .int .i64 rb] 96)) wr.heap.size 96 #[.int .i64 ra, .int .i64 rb]) := hid' (heap_alloc_last wr _)
      clear hr
      go_upto_region 6 with fail
      obtain ⟨fb, hfb⟩ : ∃ fb, wr.heap.size = fb := ⟨_, rfl⟩
      rw [hfb] at HLa ⊢
      generalize wr.alloc (.cells #[.int .i64 ra, .int .i64 rb] 96) = w2 at *
      have p0 := HLa.out.cell 0 _ rfl
      have p1 := HLa.out.cell 1 _ rfl
      clear hfb y0 y1
      go_wp2_with fail
      refine (HWT.out _).mono ?_
      rintro e w3 ⟨rfl, hb3⟩
      have HB3 := hid' (below_two HBa.out hb3)
      clear hb3 p0 p1 HLa
      cases hq : Rg.wth ⟨ra, rb⟩ (x.size : Int)
      · have HOK : Hid (Rg.okP X rs = false) := hid' (Rg.okP_bad HMEM.out (by rw [HWX.out]; exact hq))
        have HS : Hid (Rg.partsS X K L rs = []) := hid' (by unfold Rg.partsS; rw [HOK.out]; rfl)
        have HE : Hid (Rg.partsE X rs = 1) := hid' (by unfold Rg.partsE; rw [HOK.out]; rfl)
        go_wp2
        go_ret2
        exact ⟨by rw [HS.out, HE.out]; rfl, HB3.out⟩
      · have HAL2 : Hid ((rs.take (i + 1)).all (fun r => Rg.wth r X.length) = true) := hid' (by rw [HAT.out, HAL.out, HWX.out, hq]; rfl)
        go_wp2
        go_roundw
        case rel => exact ⟨i + 1, by go_num, by omega, HAL2, HB3⟩
        case measure => simp [intOf]; omega
    · have hlt2 : ¬ (i : Int) < (n : Int) := by omega
      have HTk : Hid (rs.take i = rs) := hid' (List.take_of_length_le (by rw [HN.out]; omega))
      rw [HTk.out] at HAL
      have HOK : Hid (Rg.okP X rs = true) := hid' (by unfold Rg.okP; rw [HNE.out, HAL.out]; rfl)
      have HS : Hid (Rg.partsS X K L rs = Rg.parts X K L rs) := hid' (by unfold Rg.partsS; rw [HOK.out]; rfl)
      have HE : Hid (Rg.partsE X rs = 0) := hid' (by unfold Rg.partsE; rw [HOK.out]; rfl)
      have HMX : Hid (∀ j, ((rs.take j).flatMap (Rg.part X K L)).length ≤ 1048576 * 3146228) := hid' (fun j => by
        have h1 : (rs.take j).all (fun r => Rg.wth r X.length) = true := by
          rw [List.all_eq_true]
          intro r hr
          exact List.all_eq_true.1 HAL.out r (List.mem_of_mem_take hr)
        have h2 := Rg.flat_len (k := K) (ln := L) h1 (by rw [HXS.out]; exact hx)
        have h3 : (rs.take j).length ≤ 1048576 := by rw [List.length_take, HN.out]; omega
        have h4 : X.length + K.length + L.length + 200 ≤ 3146228 := by rw [HXS.out, HKS.out, HLS.out]; omega
        exact Nat.le_trans h2 (Nat.mul_le_mul h3 h4))
      clear hlt
      go_wp2_with (refine wpl_alloc 106 rfl rfl #[.pointer none, .slice none 0 0] zeroBd16 ?_)
      intro ob wo hob hao hbo
      have HBo := hid' (below_two HB.out hbo)
      have HBdo : Hid (Bld wo w.heap.size ob []) := hid' (bld_new w ob wo (Nat.le_trans HB.out.size hob) hao)
      clear hob hao hbo
      go_wp2
      go_loopw [32] (fun s32 wr => ∃ i : Nat, s32 = .int .i64 (i : Int) ∧ i ≤ n ∧ Hid (Bld wr w.heap.size ob ((rs.take i).flatMap (Rg.part X K L))) ∧ Hid (Below w.heap.size w wr)) (fun s32 _ => n - (intOf s32).toNat)
      case atStart => exact ⟨0, rfl, Nat.zero_le _, hid' (by simpa using HBdo.out), HBo⟩
      case round =>
        obtain ⟨i, rfl, hi, HBd, HB⟩ := hrel
        by_cases hlt : i < n
        · have hlt2 : (i : Int) < (n : Int) := by omega
          obtain ⟨r, hr⟩ : ∃ r, rs[i]? = some r := ⟨_, List.getElem?_eq_getElem (by rw [HN.out]; exact hlt)⟩
          obtain ⟨a, rfl, _, y0, y1⟩ := (HRS.out.below HB.out) i r hr
          have HWR : Hid (Rg.wth r X.length = true) := hid' (List.all_eq_true.1 HAL.out r (List.mem_of_getElem? hr))
          have HFT := hid' (Rg.flat_take (b := X) (k := K) (ln := L) hr)
          obtain ⟨A, C, rfl, hAC, hCX⟩ := Rg.wth_nat HWR.out
          rw [HXS.out] at hCX
          have HTL := hid' (Rg.told_len HWR.out (by rw [HXS.out]; exact hx))
          have HTO := hid' (fun W (h : TB16 W) => ctold16 ⟨(A : Int), (C : Int)⟩ (x.size : Int) W (by simp only; omega) (by simp only; omega) (by simp only; omega) (by simp only; omega) (by omega) (by omega) h)
          have HPT : Hid (Rg.part X K L ⟨(A : Int), (C : Int)⟩ = Rg.hd K L ⟨(A : Int), (C : Int)⟩ (x.size : Int) ++ (Rg.cutR X ⟨(A : Int), (C : Int)⟩ ++ Rg.crlf)) := hid' (by unfold Rg.part; rw [HXS.out])
          rw [HXS.out] at HTL
          simp only at HTO
          obtain ⟨U, hU⟩ : ∃ U, Rg.told ⟨(A : Int), (C : Int)⟩ (x.size : Int) = U := ⟨_, rfl⟩
          rw [hU] at HTO HTL
          obtain ⟨V, hV⟩ : ∃ V, Rg.cutR X ⟨(A : Int), (C : Int)⟩ = V := ⟨_, rfl⟩
          have HVE : Hid (x.extract A (C + 1) = ⟨V.toArray⟩) := hid' (by
            rw [← hV, ext_td16, HXX.out]
            unfold Rg.cutR
            simp only [Int.toNat_natCast]
            rw [show ((C : Int) + 1).toNat = C + 1 by omega])
          have HVL : Hid (V.length ≤ x.size) := hid' (by rw [← hV, ← HXS.out]; exact Rg.cutR_len _ _)
          have HPE : Hid (Rg.part X K L ⟨(A : Int), (C : Int)⟩ = Rg.dd ++ (L ++ (Rg.crlf ++ (Rg.sType ++ (K ++ (Rg.crlf ++ (Rg.sRange ++ (U ++ (Rg.crlf ++ Rg.crlf)))))))) ++ (V ++ Rg.crlf)) := hid' (by rw [HPT.out, hV]; unfold Rg.hd; rw [hU])
          have HLN : Hid (K.length ≤ 1048576 ∧ L.length ≤ 1048576 ∧ U.length ≤ 71 ∧ V.length ≤ 1048576) := hid' ⟨by rw [HKS.out]; exact hk, by rw [HLS.out]; exact hl, HTL.out, by have := HVL.out; omega⟩
          have HLa : Hid (Ar (wr.alloc (.cells #[.int .i64 (A : Int), .int .i64 (C : Int)] 96)) wr.heap.size 96 #[.int .i64 (A : Int), .int .i64 (C : Int)]) := hid' (heap_alloc_last wr _)
          have HBa := hid' (bl_alloc wr (.cells #[.int .i64 (A : Int), .int .i64 (C : Int)] 96))
          have HBdw2 := hid' (bld_keep HBd.out HBa.out)
          have HBew2 := hid' (below_two HB.out HBa.out)
          obtain ⟨c0, hc0⟩ : ∃ z, (rs.take i).flatMap (Rg.part X K L) = z := ⟨_, rfl⟩
          rw [hc0] at HBdw2 HFT
          have HL_c0 : Hid (c0.length ≤ 1048576 * 3146228) := hid' (by rw [← hc0]; exact HMX.out i)
          simp only at y0 y1
          clear hr hU hV hc0 HBa HB HBd
          go_upto_region 13 with fail
          obtain ⟨fb, hfb⟩ : ∃ fb, wr.heap.size = fb := ⟨_, rfl⟩
          rw [hfb] at HLa ⊢
          generalize wr.alloc (.cells #[.int .i64 (A : Int), .int .i64 (C : Int)] 96) = w2 at *
          have HBxw2 := HLa
          clear hfb y0 y1 HLa
          have hln := HLE.out
          have hkd := HKE.out
          subst hln
          subst hkd
          have HFL : Hid ([Rg.dd, L].flatten.length ≤ 1048690) := hid' (by have e9 : [Rg.dd, L].flatten.length = Rg.dd.length + L.length := Rg.fl2 _ _; have e0 : Rg.dd.length = 2 := rfl; have h9 := HLN.out; omega)
          have HBa := hid' (bl_alloc w2 (.cells #[.string ⟨#[45, 45]⟩, .string ⟨L.toArray⟩] 9))
          have HTR : Hid (TR16 (w2.alloc (.cells #[.string ⟨#[45, 45]⟩, .string ⟨L.toArray⟩] 9)) (some ⟨w2.heap.size, 0, none⟩) [Rg.dd, L]) := hid' (.inr ⟨w2.heap.size, rfl, heap_alloc_last w2 _⟩)
          have HBd0 := hid' (bld_keep HBdw2.out HBa.out)
          have HBe0 := hid' (below_two HBew2.out HBa.out)
          have HBx0 := hid' (HBxw2.out.keep HBa.out)
          clear HBa HBdw2 HBew2 HBxw2
          have HWL := hid' (cwline16 w.heap.size ob 2 2 (some ⟨w2.heap.size, 0, none⟩) c0 [Rg.dd, L] rfl (by omega) (w2.alloc (.cells #[.string ⟨#[45, 45]⟩, .string ⟨L.toArray⟩] 9)) HBd0.out HTR.out (by have h8 := HFL.out; have h9 := HL_c0.out; omega) HBe0.out.size)
          go_wp2_with fail
          refine HWL.out.mono ?_
          rintro e w3 ⟨rfl, g1, g2, g3⟩
          have HBdw3 := hid' g1
          have HBew3 := hid' (HBe0.out.trans g2)
          have HBxw3 : Hid (Ar w3 fb 96 #[.int .i64 (A : Int), .int .i64 (C : Int)]) := hid' (by obtain ⟨p, q, hpq⟩ := bld_obj HBd0.out; exact g3.ar HBx0.out (ar_ne16 HBx0.out hpq (by decide)) (by decide))
          clear g1 g2 g3 HWL HTR HBd0 HBe0 HBx0
          obtain ⟨c1, hacc⟩ : ∃ z, c0 ++ [Rg.dd, L].flatten ++ [13, 10] = z := ⟨_, rfl⟩
          rw [hacc] at HBdw3
          have HL_c1 : Hid (c1.length ≤ 3299060220028) := hid' (by rw [← hacc, List.length_append, List.length_append]; have h8 := HFL.out; have h9 := HL_c0.out; have e8 : ([13, 10] : List UInt8).length = 2 := rfl; omega)
          have HA_c1 := hid' hacc
          clear hacc HFL
          have HFL : Hid ([Rg.sType, K].flatten.length ≤ 1048690) := hid' (by have e9 : [Rg.sType, K].flatten.length = Rg.sType.length + K.length := Rg.fl2 _ _; have e0 : Rg.sType.length = 14 := rfl; have h9 := HLN.out; omega)
          have HBa := hid' (bl_alloc w3 (.cells #[.string ⟨#[67, 111, 110, 116, 101, 110, 116, 45, 84, 121, 112, 101, 58, 32]⟩, .string ⟨K.toArray⟩] 9))
          have HTR : Hid (TR16 (w3.alloc (.cells #[.string ⟨#[67, 111, 110, 116, 101, 110, 116, 45, 84, 121, 112, 101, 58, 32]⟩, .string ⟨K.toArray⟩] 9)) (some ⟨w3.heap.size, 0, none⟩) [Rg.sType, K]) := hid' (.inr ⟨w3.heap.size, rfl, heap_alloc_last w3 _⟩)
          have HBd0 := hid' (bld_keep HBdw3.out HBa.out)
          have HBe0 := hid' (below_two HBew3.out HBa.out)
          have HBx0 := hid' (HBxw3.out.keep HBa.out)
          clear HBa HBdw3 HBew3 HBxw3
          have HWL := hid' (cwline16 w.heap.size ob 2 2 (some ⟨w3.heap.size, 0, none⟩) c1 [Rg.sType, K] rfl (by omega) (w3.alloc (.cells #[.string ⟨#[67, 111, 110, 116, 101, 110, 116, 45, 84, 121, 112, 101, 58, 32]⟩, .string ⟨K.toArray⟩] 9)) HBd0.out HTR.out (by have h8 := HFL.out; have h9 := HL_c1.out; omega) HBe0.out.size)
          go_wp2_with fail
          refine HWL.out.mono ?_
          rintro e w4 ⟨rfl, g1, g2, g3⟩
          have HBdw4 := hid' g1
          have HBew4 := hid' (HBe0.out.trans g2)
          have HBxw4 : Hid (Ar w4 fb 96 #[.int .i64 (A : Int), .int .i64 (C : Int)]) := hid' (by obtain ⟨p, q, hpq⟩ := bld_obj HBd0.out; exact g3.ar HBx0.out (ar_ne16 HBx0.out hpq (by decide)) (by decide))
          clear g1 g2 g3 HWL HTR HBd0 HBe0 HBx0
          obtain ⟨c2, hacc⟩ : ∃ z, c1 ++ [Rg.sType, K].flatten ++ [13, 10] = z := ⟨_, rfl⟩
          rw [hacc] at HBdw4
          have HL_c2 : Hid (c2.length ≤ 3299061268728) := hid' (by rw [← hacc, List.length_append, List.length_append]; have h8 := HFL.out; have h9 := HL_c1.out; have e8 : ([13, 10] : List UInt8).length = 2 := rfl; omega)
          have HA_c2 := hid' hacc
          clear hacc HFL
          have HTw4 := hid' (HT.out.keep HBew4.out)
          have p0 := HBxw4.out.cell 0 _ rfl
          have p1 := HBxw4.out.cell 1 _ rfl
          go_wp2_with fail
          refine (HTO.out _ HTw4.out).mono ?_
          rintro e w5 ⟨rfl, hb5⟩
          have HBdw5 := hid' (bld_keep HBdw4.out hb5)
          have HBew5 := hid' (below_two HBew4.out hb5)
          have HBxw5 := hid' (HBxw4.out.keep hb5)
          clear p0 p1 hb5 HBdw4 HBew4 HBxw4
          have HFL : Hid ([Rg.sRange, U].flatten.length ≤ 1048690) := hid' (by have e9 : [Rg.sRange, U].flatten.length = Rg.sRange.length + U.length := Rg.fl2 _ _; have e0 : Rg.sRange.length = 15 := rfl; have h9 := HLN.out; omega)
          have HBa := hid' (bl_alloc w5 (.cells #[.string ⟨#[67, 111, 110, 116, 101, 110, 116, 45, 82, 97, 110, 103, 101, 58, 32]⟩, .string ⟨U.toArray⟩] 9))
          have HTR : Hid (TR16 (w5.alloc (.cells #[.string ⟨#[67, 111, 110, 116, 101, 110, 116, 45, 82, 97, 110, 103, 101, 58, 32]⟩, .string ⟨U.toArray⟩] 9)) (some ⟨w5.heap.size, 0, none⟩) [Rg.sRange, U]) := hid' (.inr ⟨w5.heap.size, rfl, heap_alloc_last w5 _⟩)
          have HBd0 := hid' (bld_keep HBdw5.out HBa.out)
          have HBe0 := hid' (below_two HBew5.out HBa.out)
          have HBx0 := hid' (HBxw5.out.keep HBa.out)
          clear HBa HBdw5 HBew5 HBxw5
          have HWL := hid' (cwline16 w.heap.size ob 2 2 (some ⟨w5.heap.size, 0, none⟩) c2 [Rg.sRange, U] rfl (by omega) (w5.alloc (.cells #[.string ⟨#[67, 111, 110, 116, 101, 110, 116, 45, 82, 97, 110, 103, 101, 58, 32]⟩, .string ⟨U.toArray⟩] 9)) HBd0.out HTR.out (by have h8 := HFL.out; have h9 := HL_c2.out; omega) HBe0.out.size)
          go_wp2_with fail
          refine HWL.out.mono ?_
          rintro e w6 ⟨rfl, g1, g2, g3⟩
          have HBdw6 := hid' g1
          have HBew6 := hid' (HBe0.out.trans g2)
          have HBxw6 : Hid (Ar w6 fb 96 #[.int .i64 (A : Int), .int .i64 (C : Int)]) := hid' (by obtain ⟨p, q, hpq⟩ := bld_obj HBd0.out; exact g3.ar HBx0.out (ar_ne16 HBx0.out hpq (by decide)) (by decide))
          clear g1 g2 g3 HWL HTR HBd0 HBe0 HBx0
          obtain ⟨c3, hacc⟩ : ∃ z, c2 ++ [Rg.sRange, U].flatten ++ [13, 10] = z := ⟨_, rfl⟩
          rw [hacc] at HBdw6
          have HL_c3 : Hid (c3.length ≤ 3299062317428) := hid' (by rw [← hacc, List.length_append, List.length_append]; have h8 := HFL.out; have h9 := HL_c2.out; have e8 : ([13, 10] : List UInt8).length = 2 := rfl; omega)
          have HA_c3 := hid' hacc
          clear hacc HFL
          have HFL : Hid (([] : List (List UInt8)).flatten.length ≤ 1048690) := hid' (by have e9 : ([] : List (List UInt8)).flatten.length = 0 := rfl; have h9 := HLN.out; omega)
          have HTR : Hid (TR16 w6 none []) := hid' (.inl ⟨rfl, rfl⟩)
          have HBd0 := HBdw6
          have HBe0 := HBew6
          have HBx0 := HBxw6
          clear HBdw6 HBew6 HBxw6
          have HWL := hid' (cwline16 w.heap.size ob 0 0 none c3 ([] : List (List UInt8)) rfl (by omega) w6 HBd0.out HTR.out (by have h8 := HFL.out; have h9 := HL_c3.out; omega) HBe0.out.size)
          go_wp2_with fail
          refine HWL.out.mono ?_
          rintro e w7 ⟨rfl, g1, g2, g3⟩
          have HBdw7 := hid' g1
          have HBew7 := hid' (HBe0.out.trans g2)
          have HBxw7 : Hid (Ar w7 fb 96 #[.int .i64 (A : Int), .int .i64 (C : Int)]) := hid' (by obtain ⟨p, q, hpq⟩ := bld_obj HBd0.out; exact g3.ar HBx0.out (ar_ne16 HBx0.out hpq (by decide)) (by decide))
          clear g1 g2 g3 HWL HTR HBd0 HBe0 HBx0
          obtain ⟨c4, hacc⟩ : ∃ z, c3 ++ ([] : List (List UInt8)).flatten ++ [13, 10] = z := ⟨_, rfl⟩
          rw [hacc] at HBdw7
          have HL_c4 : Hid (c4.length ≤ 3299063366128) := hid' (by rw [← hacc, List.length_append, List.length_append]; have h8 := HFL.out; have h9 := HL_c3.out; have e8 : ([13, 10] : List UInt8).length = 2 := rfl; omega)
          have HA_c4 := hid' hacc
          clear hacc HFL
          have p0 := HBxw7.out.cell 0 _ rfl
          have p1 := HBxw7.out.cell 1 _ rfl
          have q1 : (A : Int) ≤ (C : Int) + 1 := by omega
          have q2 : (C : Int) + 1 ≤ (x.size : Int) := by omega
          have hve := HVE.out
          have HFL : Hid ([V].flatten.length ≤ 1048690) := hid' (by have e9 : [V].flatten.length = V.length := Rg.fl1 _; have h9 := HLN.out; omega)
          have HBa := hid' (bl_alloc w7 (.cells #[.string ⟨V.toArray⟩] 9))
          have HTR : Hid (TR16 (w7.alloc (.cells #[.string ⟨V.toArray⟩] 9)) (some ⟨w7.heap.size, 0, none⟩) [V]) := hid' (.inr ⟨w7.heap.size, rfl, heap_alloc_last w7 _⟩)
          have HBd0 := hid' (bld_keep HBdw7.out HBa.out)
          have HBe0 := hid' (below_two HBew7.out HBa.out)
          have HBx0 := hid' (HBxw7.out.keep HBa.out)
          clear HBa HBdw7 HBew7 HBxw7
          have HWL := hid' (cwline16 w.heap.size ob 1 1 (some ⟨w7.heap.size, 0, none⟩) c4 [V] rfl (by omega) (w7.alloc (.cells #[.string ⟨V.toArray⟩] 9)) HBd0.out HTR.out (by have h8 := HFL.out; have h9 := HL_c4.out; omega) HBe0.out.size)
          go_wp2_with fail
          refine HWL.out.mono ?_
          rintro e w8 ⟨rfl, g1, g2, g3⟩
          have HBdw8 := hid' g1
          have HBew8 := hid' (HBe0.out.trans g2)
          have HBxw8 : Hid (Ar w8 fb 96 #[.int .i64 (A : Int), .int .i64 (C : Int)]) := hid' (by obtain ⟨p, q, hpq⟩ := bld_obj HBd0.out; exact g3.ar HBx0.out (ar_ne16 HBx0.out hpq (by decide)) (by decide))
          clear g1 g2 g3 HWL HTR HBd0 HBe0 HBx0
          obtain ⟨c5, hacc⟩ : ∃ z, c4 ++ [V].flatten ++ [13, 10] = z := ⟨_, rfl⟩
          rw [hacc] at HBdw8
          have HL_c5 : Hid (c5.length ≤ 3299064414828) := hid' (by rw [← hacc, List.length_append, List.length_append]; have h8 := HFL.out; have h9 := HL_c4.out; have e8 : ([13, 10] : List UInt8).length = 2 := rfl; omega)
          have HA_c5 := hid' hacc
          clear hacc HFL
          have HEND : Hid (Bld w8 w.heap.size ob ((rs.take (i + 1)).flatMap (Rg.part X K L))) := hid' (by
            have e1 : (rs.take (i + 1)).flatMap (Rg.part X K L) = c5 := by
              rw [HFT.out, HPE.out, ← HA_c5.out, ← HA_c4.out, ← HA_c3.out, ← HA_c2.out, ← HA_c1.out]
              simp [Rg.crlf]
            rw [e1]; exact HBdw8.out)
          clear q1 q2 p0 p1 hve
          go_wp2
          go_roundw
          case rel => exact ⟨i + 1, by go_num, by omega, HEND, HBew8⟩
          case measure => simp [intOf]; omega
        · have hlt2 : ¬ (i : Int) < (n : Int) := by omega
          have HTk : Hid (rs.take i = rs) := hid' (List.take_of_length_le (by rw [HN.out]; omega))
          have HL_c0 : Hid ((rs.flatMap (Rg.part X K L)).length ≤ 1048576 * 3146228) := hid' (by have := HMX.out i; rwa [HTk.out] at this)
          rw [HTk.out] at HBd
          obtain ⟨c0, hc0⟩ : ∃ z, rs.flatMap (Rg.part X K L) = z := ⟨_, rfl⟩
          rw [hc0] at HBd HL_c0
          have HC0 := hid' hc0
          have HLN : Hid (K.length ≤ 1048576 ∧ L.length ≤ 1048576 ∧ True ∧ True) := hid' ⟨by rw [HKS.out]; exact hk, by rw [HLS.out]; exact hl, trivial, trivial⟩
          have HBdwr := HBd
          have HBewr := HB
          have hln := HLE.out
          subst hln
          clear hlt hc0 HBd HB
          have HFL : Hid ([Rg.dd, L, Rg.dd].flatten.length ≤ 1048690) := hid' (by have e9 : [Rg.dd, L, Rg.dd].flatten.length = Rg.dd.length + L.length + Rg.dd.length := Rg.fl3 _ _ _; have e0 : Rg.dd.length = 2 := rfl; have e2 : Rg.dd.length = 2 := rfl; have h9 := HLN.out; omega)
          have HBa := hid' (bl_alloc wr (.cells #[.string ⟨#[45, 45]⟩, .string ⟨L.toArray⟩, .string ⟨#[45, 45]⟩] 9))
          have HTR : Hid (TR16 (wr.alloc (.cells #[.string ⟨#[45, 45]⟩, .string ⟨L.toArray⟩, .string ⟨#[45, 45]⟩] 9)) (some ⟨wr.heap.size, 0, none⟩) [Rg.dd, L, Rg.dd]) := hid' (.inr ⟨wr.heap.size, rfl, heap_alloc_last wr _⟩)
          have HBd0 := hid' (bld_keep HBdwr.out HBa.out)
          have HBe0 := hid' (below_two HBewr.out HBa.out)
          clear HBa HBdwr HBewr
          have HWL := hid' (cwline16 w.heap.size ob 3 3 (some ⟨wr.heap.size, 0, none⟩) c0 [Rg.dd, L, Rg.dd] rfl (by omega) (wr.alloc (.cells #[.string ⟨#[45, 45]⟩, .string ⟨L.toArray⟩, .string ⟨#[45, 45]⟩] 9)) HBd0.out HTR.out (by have h8 := HFL.out; have h9 := HL_c0.out; omega) HBe0.out.size)
          go_wp2_with fail
          refine HWL.out.mono ?_
          rintro e w3 ⟨rfl, g1, g2, g3⟩
          have HBdw3 := hid' g1
          have HBew3 := hid' (HBe0.out.trans g2)
          clear g1 g2 g3 HWL HTR HBd0 HBe0
          obtain ⟨c1, hacc⟩ : ∃ z, c0 ++ [Rg.dd, L, Rg.dd].flatten ++ [13, 10] = z := ⟨_, rfl⟩
          rw [hacc] at HBdw3
          have HL_c1 : Hid (c1.length ≤ 3299060220028) := hid' (by rw [← hacc, List.length_append, List.length_append]; have h8 := HFL.out; have h9 := HL_c0.out; have e8 : ([13, 10] : List UInt8).length = 2 := rfl; omega)
          have HA_c1 := hid' hacc
          clear hacc HFL
          have HST := hid' (string_any w.heap.size ob c1 w3 HBdw3.out HBew3.out.size)
          go_wp2_with fail
          refine HST.out.mono ?_
          rintro e w4 ⟨rfl, hb4, _⟩
          have HBew4 := hid' (HBew3.out.trans hb4)
          have HPP : Hid (Rg.parts X K L rs = c1) := hid' (by
            rw [← HA_c1.out, ← HC0.out]
            unfold Rg.parts Rg.fin
            simp [Rg.crlf])
          clear hb4 HST
          go_wp2
          go_ret2
          exact ⟨by rw [HS.out, HE.out, HPP.out]; rfl, HBew4.out⟩

end Go.Proofs.YtgbnelglhkfdfaaGreatDoor

namespace Go.Proofs.YtgbnelglhkfdfaaGreatDoor
open Go.RowKit

namespace Rg
/-- What the code reads of a piece. -/
def rd (l : T8) (n : Int) : Rn × Bool := if (pc l n).2.2 then ((pc l n).1, true) else (⟨0, 0⟩, false)
theorem rd_no {l : T8} {n : Int} (h : hasD l = false) : rd l n = (⟨0, 0⟩, false) := by unfold rd pc; rw [h]; rfl
theorem rd_yes {l : T8} {n : Int} (h : hasD l = true) : rd l n =
    if (l.take (ahead l)).isEmpty then (if digB (l.drop (ahead l + 1)) then (⟨max (n - digN (l.drop (ahead l + 1))) 0, n - 1⟩, true) else (⟨0, 0⟩, false))
    else if (l.drop (ahead l + 1)).isEmpty then (if digB (l.take (ahead l)) then (⟨digN (l.take (ahead l)), n - 1⟩, true) else (⟨0, 0⟩, false))
    else if digB (l.take (ahead l)) && digB (l.drop (ahead l + 1)) && decide (digN (l.take (ahead l)) ≤ digN (l.drop (ahead l + 1))) then (⟨digN (l.take (ahead l)), min (digN (l.drop (ahead l + 1))) (n - 1)⟩, true) else (⟨0, 0⟩, false) := by
  have hal := ahead_lt h
  have e1 : (l.take (ahead l)).isEmpty = decide (ahead l = 0) := by
    rw [Bool.eq_iff_iff, List.isEmpty_iff_length_eq_zero, decide_eq_true_iff, List.length_take]; omega
  have e2 : (l.drop (ahead l + 1)).isEmpty = decide (ahead l + 1 = l.length) := by
    rw [Bool.eq_iff_iff, List.isEmpty_iff_length_eq_zero, decide_eq_true_iff, List.length_drop]; omega
  unfold rd pc
  rw [if_pos h, e1, e2]
  simp only
  by_cases h0 : ahead l = 0
  · simp only [h0, if_true, decide_true]
  · by_cases h1 : ahead l + 1 = l.length
    · simp only [h0, h1, if_true, if_false, decide_true, decide_false, Bool.false_eq_true]
    · simp only [h0, h1, if_false, decide_false, Bool.false_eq_true]
theorem digB_empty {l : T8} (h : digB l = true) : l.isEmpty = false := by
  cases l with
  | nil => exact absurd h (by decide)
  | cons a b => rfl
end Rg
def rdV16 (q : Rg.Rn × Bool) : Value := .tuple #[.agg #[.int .i64 q.1.a, .int .i64 q.1.b], .bool q.2]

set_option maxHeartbeats 4000000 in
set_option maxRecDepth 20000 in
theorem cread16 (s : ByteArray) (l : List UInt8) (hl : s.data.toList = l) (n : Int) (n0 : 0 ≤ n) (n1 : n ≤ 9223372036854775807) (w : World) (hs : s.size ≤ 1048576) (hT : TB16 w) :
    Calls Tryz.prog 81 #[.string s, .int .i64 n] w fun e w' => e = .returned (rdV16 (Rg.rd l n)) ∧ Below w.heap.size w w' := by
  have HSL : Hid (l.length ≤ 1048576) := hid' (by rw [← hl, ← Lib.size_eq]; exact hs)
  have HC := hid' (fun W (h : TB16 W) => scut16 s ⟨#[45]⟩ W hs h)
  have HT := hid' hT
  rw [hl, show (⟨#[45]⟩ : ByteArray).data.toList = [45] from rfl, Rg.cut_dash] at HC
  clear hT hl
  cases hd : Rg.hasD l
  · rw [hd] at HC
    simp only [Bool.false_eq_true, if_false] at HC
    have HR := hid' (Rg.rd_no (n := n) hd)
    obtain ⟨z1, _, hc1⟩ := cnum16 ⟨l.toArray⟩ l rfl (by rw [size_l16]; exact HSL.out)
    obtain ⟨z2, _, hc2⟩ := cnum16 ⟨([] : List UInt8).toArray⟩ [] rfl (by simp [ByteArray.size])
    have HC1 := hid' hc1
    have HC2 := hid' hc2
    obtain ⟨x, hx⟩ : ∃ x : ByteArray, (⟨l.toArray⟩ : ByteArray) = x := ⟨_, rfl⟩
    obtain ⟨y, hy⟩ : ∃ x : ByteArray, (⟨([] : List UInt8).toArray⟩ : ByteArray) = x := ⟨_, rfl⟩
    rw [hx] at HC1 HC
    rw [hy] at HC2 HC
    generalize Rg.digB l = f1 at HC1
    generalize Rg.digB [] = f2 at HC2
    clear hd hc1 hc2 hx hy
    go_enter Tryz.func81, Tryz.ntmps81
    go_wp2_with (refine wpl_alloc 96 rfl rfl #[.int .i64 0, .int .i64 0] zeroRg16 ?_)
    intro b0 w0 hb0 ha0 hbe0
    have HX := hid' ha0
    have HB0 := hid' hbe0
    have HG0 := hid' hb0
    have HT0 := hid' (HT.out.keep hbe0)
    clear hb0 ha0 hbe0
    go_wp2_with fail
    refine (HC.out _ HT0.out).mono ?_
    rintro e w1 ⟨rfl, hb1⟩
    have HBq := hid' (below_two HB0.out hb1)
    have HXq := hid' (HX.out.keep hb1)
    clear hb1
    go_wp2_with fail
    refine (HC1.out _).mono ?_
    rintro e w2 ⟨rfl, hw⟩
    subst w2
    go_wp2_with fail
    refine (HC2.out _).mono ?_
    rintro e w2 ⟨rfl, hw⟩
    subst w2
    go_wp2_with (refine wpl_store 96 _ _ rfl rfl b0 #[.int .i64 0, .int .i64 0] (by rfl) (by rfl) _ _ HXq.out sizeRg16 rfl (by simp [Value.oneCell']) ?_)
    intro w9 ha9 hu9
    have hld := ldRg16 ha9
    have HB9 := hid' (HBq.out.trans (hu9.below HG0.out))
    clear ha9 hu9
    go_wp2
    exact bodyPost_ret (v := .tuple #[.agg #[.int .i64 0, .int .i64 0], .bool false]) (by simp [results, Tryz.results81, asAddr, hld]) rfl ⟨by rw [HR.out]; rfl, HB9.out⟩
  rw [hd] at HC
  simp only [if_true] at HC
  have HRD := hid' (Rg.rd_yes (n := n) hd)
  have hXL : (l.take (Rg.ahead l)).length ≤ 1048576 := Nat.le_trans (List.length_take_le' _ _) HSL.out
  have hYL : (l.drop (Rg.ahead l + 1)).length ≤ 1048576 := by rw [List.length_drop]; have := HSL.out; omega
  generalize l.take (Rg.ahead l) = X at HC HRD hXL
  generalize l.drop (Rg.ahead l + 1) = Y at HC HRD hYL
  obtain ⟨z1, hz1, hc1⟩ := cnum16 ⟨X.toArray⟩ X rfl (by rw [size_l16]; exact hXL)
  obtain ⟨z2, hz2, hc2⟩ := cnum16 ⟨Y.toArray⟩ Y rfl (by rw [size_l16]; exact hYL)
  have HZ1 : Hid (Rg.digB X = true → Rg.digN X = z1) := hid' (fun h => (hz1 h).symm)
  have HZ2 : Hid (Rg.digB Y = true → Rg.digN Y = z2) := hid' (fun h => (hz2 h).symm)
  have xb := Rg.digN_bd X
  have yb := Rg.digN_bd Y
  have HC1 := hid' hc1
  have HC2 := hid' hc2
  have HXE : Hid (Rg.digB X = true → X.isEmpty = false) := hid' Rg.digB_empty
  have HYE : Hid (Rg.digB Y = true → Y.isEmpty = false) := hid' Rg.digB_empty
  obtain ⟨x, hx⟩ : ∃ x : ByteArray, (⟨X.toArray⟩ : ByteArray) = x := ⟨_, rfl⟩
  obtain ⟨y, hy⟩ : ∃ x : ByteArray, (⟨Y.toArray⟩ : ByteArray) = x := ⟨_, rfl⟩
  have hxe : x.toList.isEmpty = X.isEmpty := by rw [← hx, Lib.toList_data]
  have hye : y.toList.isEmpty = Y.isEmpty := by rw [← hy, Lib.toList_data]
  rw [hx] at HC1 HC
  rw [hy] at HC2 HC
  generalize Rg.digB X = f1 at HC1 HRD HXE HZ1
  generalize Rg.digB Y = f2 at HC2 HRD HYE HZ2
  generalize Rg.digN X = xa at HRD HZ1 xb
  generalize Rg.digN Y = ya at HRD HZ2 yb
  generalize X.isEmpty = xe at HRD HXE hxe
  generalize Y.isEmpty = ye at HRD HYE hye
  clear hd hc1 hc2 hx hy hz1 hz2 hXL hYL
  have wn1 : IntKind.i64.wrap (n - 1) = n - 1 := wrp16 _ (by omega) (by omega)
  go_enter Tryz.func81, Tryz.ntmps81
  go_wp2_with (refine wpl_alloc 96 rfl rfl #[.int .i64 0, .int .i64 0] zeroRg16 ?_)
  intro b0 w0 hb0 ha0 hbe0
  have HX := hid' ha0
  have HB0 := hid' hbe0
  have HG0 := hid' hb0
  have HT0 := hid' (HT.out.keep hbe0)
  clear hb0 ha0 hbe0
  go_wp2_with fail
  refine (HC.out _ HT0.out).mono ?_
  rintro e w1 ⟨rfl, hb1⟩
  have HBq := hid' (below_two HB0.out hb1)
  have HXq := hid' (HX.out.keep hb1)
  clear hb1
  go_wp2_with fail
  refine (HC1.out _).mono ?_
  rintro e w2 ⟨rfl, hw⟩
  subst w2
  go_wp2_with fail
  refine (HC2.out _).mono ?_
  rintro e w2 ⟨rfl, hw⟩
  subst w2
  cases f1
  · cases xe
    · have HR : Hid (Rg.rd l n = (⟨0, 0⟩, false)) := hid' (by rw [HRD.out]; cases ye <;> rfl)
      go_wp2_with (refine wpl_store 96 _ _ rfl rfl b0 #[.int .i64 0, .int .i64 0] (by rfl) (by rfl) _ _ HXq.out sizeRg16 rfl (by simp [Value.oneCell']) ?_)
      intro w9 ha9 hu9
      have hld := ldRg16 ha9
      have HB9 := hid' (HBq.out.trans (hu9.below HG0.out))
      clear ha9 hu9
      go_wp2
      exact bodyPost_ret (v := .tuple #[.agg #[.int .i64 0, .int .i64 0], .bool false]) (by simp [results, Tryz.results81, asAddr, hld]) rfl ⟨by rw [HR.out]; rfl, HB9.out⟩
    · cases f2
      · have HR : Hid (Rg.rd l n = (⟨0, 0⟩, false)) := hid' (by rw [HRD.out]; rfl)
        go_wp2_with (refine wpl_store 96 _ _ rfl rfl b0 #[.int .i64 0, .int .i64 0] (by rfl) (by rfl) _ _ HXq.out sizeRg16 rfl (by simp [Value.oneCell']) ?_)
        intro w9 ha9 hu9
        have hld := ldRg16 ha9
        have HB9 := hid' (HBq.out.trans (hu9.below HG0.out))
        clear ha9 hu9
        go_wp2
        exact bodyPost_ret (v := .tuple #[.agg #[.int .i64 0, .int .i64 0], .bool false]) (by simp [results, Tryz.results81, asAddr, hld]) rfl ⟨by rw [HR.out]; rfl, HB9.out⟩
      · have hz2 := HZ2.out rfl
        subst hz2
        have wnb : IntKind.i64.wrap (n - ya) = n - ya := wrp16 _ (by omega) (by omega)
        have HR : Hid (Rg.rd l n = (⟨max (n - ya) 0, n - 1⟩, true)) := hid' (by rw [HRD.out]; rfl)
        go_wp2_with (refine wpl_store 96 _ _ rfl rfl b0 #[.int .i64 (max (n - ya) 0), .int .i64 (n - 1)] (by rfl) (by rfl) _ _ HXq.out sizeRg16 rfl (by simp [Value.oneCell']) ?_)
        intro w9 ha9 hu9
        have hld := ldRg16 ha9
        have HB9 := hid' (HBq.out.trans (hu9.below HG0.out))
        clear ha9 hu9
        go_wp2
        exact bodyPost_ret (v := .tuple #[.agg #[.int .i64 (max (n - ya) 0), .int .i64 (n - 1)], .bool true]) (by simp [results, Tryz.results81, asAddr, hld]) rfl ⟨by rw [HR.out]; rfl, HB9.out⟩
  · have hxe := HXE.out rfl
    subst hxe
    have hz1 := HZ1.out rfl
    subst hz1
    cases f2
    · cases ye
      · have HR : Hid (Rg.rd l n = (⟨0, 0⟩, false)) := hid' (by rw [HRD.out]; rfl)
        go_wp2_with (refine wpl_store 96 _ _ rfl rfl b0 #[.int .i64 0, .int .i64 0] (by rfl) (by rfl) _ _ HXq.out sizeRg16 rfl (by simp [Value.oneCell']) ?_)
        intro w9 ha9 hu9
        have hld := ldRg16 ha9
        have HB9 := hid' (HBq.out.trans (hu9.below HG0.out))
        clear ha9 hu9
        go_wp2
        exact bodyPost_ret (v := .tuple #[.agg #[.int .i64 0, .int .i64 0], .bool false]) (by simp [results, Tryz.results81, asAddr, hld]) rfl ⟨by rw [HR.out]; rfl, HB9.out⟩
      · have HR : Hid (Rg.rd l n = (⟨xa, n - 1⟩, true)) := hid' (by rw [HRD.out]; rfl)
        go_wp2_with (refine wpl_store 96 _ _ rfl rfl b0 #[.int .i64 xa, .int .i64 (n - 1)] (by rfl) (by rfl) _ _ HXq.out sizeRg16 rfl (by simp [Value.oneCell']) ?_)
        intro w9 ha9 hu9
        have hld := ldRg16 ha9
        have HB9 := hid' (HBq.out.trans (hu9.below HG0.out))
        clear ha9 hu9
        go_wp2
        exact bodyPost_ret (v := .tuple #[.agg #[.int .i64 xa, .int .i64 (n - 1)], .bool true]) (by simp [results, Tryz.results81, asAddr, hld]) rfl ⟨by rw [HR.out]; rfl, HB9.out⟩
    · have hye := HYE.out rfl
      subst hye
      have hz2 := HZ2.out rfl
      subst hz2
      by_cases hle : xa ≤ ya
      · have HR : Hid (Rg.rd l n = (⟨xa, min ya (n - 1)⟩, true)) := hid' (by rw [HRD.out, decide_eq_true hle]; rfl)
        go_wp2_with (refine wpl_store 96 _ _ rfl rfl b0 #[.int .i64 xa, .int .i64 (min ya (n - 1))] (by rfl) (by rfl) _ _ HXq.out sizeRg16 rfl (by simp [Value.oneCell']) ?_)
        intro w9 ha9 hu9
        have hld := ldRg16 ha9
        have HB9 := hid' (HBq.out.trans (hu9.below HG0.out))
        clear ha9 hu9
        go_wp2
        exact bodyPost_ret (v := .tuple #[.agg #[.int .i64 xa, .int .i64 (min ya (n - 1))], .bool true]) (by simp [results, Tryz.results81, asAddr, hld]) rfl ⟨by rw [HR.out]; rfl, HB9.out⟩
      · have HR : Hid (Rg.rd l n = (⟨0, 0⟩, false)) := hid' (by rw [HRD.out, decide_eq_false hle]; rfl)
        go_wp2_with (refine wpl_store 96 _ _ rfl rfl b0 #[.int .i64 0, .int .i64 0] (by rfl) (by rfl) _ _ HXq.out sizeRg16 rfl (by simp [Value.oneCell']) ?_)
        intro w9 ha9 hu9
        have hld := ldRg16 ha9
        have HB9 := hid' (HBq.out.trans (hu9.below HG0.out))
        clear ha9 hu9
        go_wp2
        exact bodyPost_ret (v := .tuple #[.agg #[.int .i64 0, .int .i64 0], .bool false]) (by simp [results, Tryz.results81, asAddr, hld]) rfl ⟨by rw [HR.out]; rfl, HB9.out⟩

end Go.Proofs.YtgbnelglhkfdfaaGreatDoor
