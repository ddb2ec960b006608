/-
  A row that may begin in the middle of its block, and a frame of two blocks: what is of no program.
-/
import Derived.Test.YtpgfnhfjkplmaaaTabM
import Derived.ArgAppend
import Derived.Maps.AppendAt
import Derived.BigQuiet
namespace Go.Proofs.Ytpgfnhfjkplmaaa
open Go.RowKit

/-- A row of elements of s cells each, from cell q of its block on. -/
def Sl (w : World) (B : Nat) (e : TypeId) (s : Nat) (v : Value) (n : Nat) (xs : List Value) : Prop :=
  xs.length = n * s ∧
  ((v = .slice none 0 0 ∧ n = 0) ∨
   ∃ g q cap cur, v = .slice (some ⟨g, q, none⟩) n cap ∧ B ≤ g ∧ w.heap[g]? = some (.cells cur e (0, 0)) ∧ n ≤ cap ∧ cap ≤ maxLen ∧ q + cap * s ≤ cur.size ∧ (cur.toList.drop q).take (n * s) = xs)

theorem sl_nil (w : World) (B : Nat) (e : TypeId) (s : Nat) : Sl w B e s (.slice none 0 0) 0 [] := ⟨by simp, .inl ⟨rfl, rfl⟩⟩
theorem sl_of_own {w : World} {B : Nat} {e : TypeId} {s : Nat} {v : Value} {n : Nat} {xs : List Value} (h : w.ownsRow B e s v n xs) : Sl w B e s v n xs := by
  refine ⟨h.1, ?_⟩
  rcases h.2 with h0 | ⟨g, cap, cur, hv, hb, hg, hn, hm, hs, ht⟩
  · exact .inl h0
  · exact .inr ⟨g, 0, cap, cur, hv, hb, hg, hn, hm, by omega, by simpa using ht⟩
theorem Sl.le {w : World} {B B' : Nat} {e : TypeId} {s : Nat} {v : Value} {n : Nat} {xs : List Value} (h : Sl w B e s v n xs) (hB : B' ≤ B) : Sl w B' e s v n xs := by
  refine ⟨h.1, ?_⟩
  rcases h.2 with h0 | ⟨g, q, cap, cur, hv, hb, r⟩
  · exact .inl h0
  · exact .inr ⟨g, q, cap, cur, hv, Nat.le_trans hB hb, r⟩
theorem Sl.lt {w : World} {B : Nat} {e : TypeId} {s : Nat} {v : Value} {n : Nat} {xs : List Value} (h : Sl w B e s v n xs) : ∀ k, v.ownBlock = some k → B ≤ k ∧ k < w.heap.size := by
  intro k hk
  rcases h.2 with ⟨rfl, _⟩ | ⟨g, q, cap, cur, rfl, hb, hg, _⟩
  · simp [Value.ownBlock] at hk
  · simp [Value.ownBlock] at hk
    subst hk
    exact ⟨hb, (Array.getElem?_eq_some_iff.1 hg).1⟩
theorem Sl.same {w w' : World} {B : Nat} {e : TypeId} {s : Nat} {v : Value} {n : Nat} {xs : List Value} (h : Sl w B e s v n xs) (hg : ∀ k, v.ownBlock = some k → w'.heap[k]? = w.heap[k]?) : Sl w' B e s v n xs := by
  refine ⟨h.1, ?_⟩
  rcases h.2 with h0 | ⟨g, q, cap, cur, rfl, hb, hgg, r⟩
  · exact .inl h0
  · exact .inr ⟨g, q, cap, cur, rfl, hb, by rw [hg g rfl]; exact hgg, r⟩
theorem Sl.keep {w w' : World} {B : Nat} {e : TypeId} {s : Nat} {v : Value} {n : Nat} {xs : List Value} (h : Sl w B e s v n xs) (hb : Below w.heap.size w w') : Sl w' B e s v n xs := h.same fun k hk => hb.block k (h.lt k hk).2
theorem Sl.drew {w : World} {B : Nat} {e : TypeId} {s : Nat} {v : Value} {n : Nat} {xs : List Value} (h : Sl w B e s v n xs) : Sl w.drew B e s v n xs := h
theorem Sl.alloc {w : World} {B : Nat} {e : TypeId} {s : Nat} {v : Value} {n : Nat} {xs : List Value} (h : Sl w B e s v n xs) (o : Obj) : Sl (w.alloc o) B e s v n xs := h.keep ((Below.refl _ _).alloc (Nat.le_refl _) _)
theorem Sl.ne {w : World} {B : Nat} {e T : TypeId} {s : Nat} {v : Value} {n : Nat} {xs : List Value} {b : Nat} {cs : Array Value} (h : Sl w B e s v n xs) (hb : Ar w b T cs) (hTe : T ≠ e) : v.ownBlock ≠ some b := by
  rcases h.2 with ⟨rfl, _⟩ | ⟨g, q, cap, cur, rfl, _, hg, _⟩
  · simp [Value.ownBlock]
  · intro h
    simp [Value.ownBlock] at h
    subst h
    unfold Ar at hb
    rw [hg] at hb
    injection hb with hb
    injection hb with _ h2 _
    exact hTe h2.symm
/-- What it looks like. -/
theorem Sl.form {w : World} {B : Nat} {e : TypeId} {s : Nat} {v : Value} {n : Nat} {xs : List Value} (h : Sl w B e s v n xs) (hn : 0 < n) : ∃ g q cap, v = .slice (some ⟨g, q, none⟩) n cap ∧ n ≤ cap ∧ cap ≤ maxLen ∧ B ≤ g ∧ g < w.heap.size := by
  rcases h.2 with ⟨_, h0⟩ | ⟨g, q, cap, cur, hv, hb, hg, hc, hm, _⟩
  · omega
  · exact ⟨g, q, cap, hv, hc, hm, hb, (Array.getElem?_eq_some_iff.1 hg).1⟩
theorem Sl.shape {w : World} {B : Nat} {e : TypeId} {s : Nat} {v : Value} {n : Nat} {xs : List Value} (h : Sl w B e s v n xs) : ∃ ao cap, v = .slice ao n cap ∧ n ≤ cap := by
  rcases h.2 with ⟨hv, h0⟩ | ⟨g, q, cap, cur, hv, _, _, hc, _⟩
  · exact ⟨none, 0, by rw [hv, h0], by omega⟩
  · exact ⟨_, cap, hv, hc⟩
theorem Sl.cellAt {w : World} {B : Nat} {e : TypeId} {s : Nat} {g q n cap : Nat} {xs : List Value} (h : Sl w B e s (.slice (some ⟨g, q, none⟩) n cap) n xs) (j : Nat) (hj : j < n * s) : w.cell? ⟨g, q + j, none⟩ = xs[j]? := by
  rcases h.2 with ⟨hv, _⟩ | ⟨g', q', cap', cur, hv, _, hg, _, _, _, ht⟩
  · cases hv
  · cases hv
    rw [Lib.cell_of_heap hg, ← ht, List.getElem?_take, if_pos hj, List.getElem?_drop]
    simp
theorem Sl.freeAt {w : World} {B : Nat} {e : TypeId} {s : Nat} {g q n cap : Nat} {xs : List Value} (h : Sl w B e s (.slice (some ⟨g, q, none⟩) n cap) n xs) (j : Nat) : w.frozen? ⟨g, j, none⟩ = false := by
  rcases h.2 with ⟨hv, _⟩ | ⟨g', q', cap', cur, hv, _, hg, _⟩
  · cases hv
  · cases hv
    exact Lib.frozen_of_heap hg j
/-- One of its cells is written. -/
theorem Sl.setAt {w : World} {B : Nat} {e : TypeId} {s : Nat} {g q n cap : Nat} {xs : List Value} (h : Sl w B e s (.slice (some ⟨g, q, none⟩) n cap) n xs) (j : Nat) (u : Value) : Sl (w.setCell ⟨g, q + j, none⟩ u) B e s (.slice (some ⟨g, q, none⟩) n cap) n (xs.set j u) := by
  rcases h.2 with ⟨hv, _⟩ | ⟨g', q', cap', cur, hv, hb, hg, hn, hm, hs, ht⟩
  · cases hv
  · cases hv
    refine ⟨by simpa using h.1, .inr ⟨g, q, cap, _, rfl, hb, Ar.set (show Ar w g e cur from hg) _ _, hn, hm, by simpa using hs, ?_⟩⟩
    rw [← ht]
    apply List.ext_getElem?
    intro k
    simp only [List.getElem?_take, List.getElem?_drop, Array.toList_setIfInBounds, List.getElem?_set, List.length_take, List.length_drop, Array.length_toList]
    have hns : n * s ≤ cap * s := Nat.mul_le_mul_right _ hn
    by_cases hk : k < n * s
    · rw [if_pos hk, if_pos hk]
      by_cases e1 : j = k
      · subst e1; rw [if_pos rfl, if_pos rfl, if_pos (by omega), if_pos (by omega)]
      · rw [if_neg (by omega), if_neg e1]
    · rw [if_neg hk, if_neg hk]
      by_cases e1 : j = k
      · subst e1; rw [if_pos rfl, if_neg (by omega)]
      · rw [if_neg e1]
/-- Its first element is left out. -/
theorem Sl.tail {w : World} {B : Nat} {e : TypeId} {s : Nat} {g q n cap : Nat} {xs : List Value} (h : Sl w B e s (.slice (some ⟨g, q, none⟩) (n + 1) cap) (n + 1) xs) (hc : cap ≠ 1) : Sl w B e s (.slice (some ⟨g, q + s, none⟩) n (cap - 1)) n (xs.drop s) := by
  rcases h.2 with ⟨hv, _⟩ | ⟨g', q', cap', cur, hv, hb, hg, hn, hm, hs, ht⟩
  · cases hv
  · cases hv
    refine ⟨by rw [List.length_drop, h.1, Nat.succ_mul]; omega, .inr ⟨g, q + s, cap - 1, cur, rfl, hb, hg, by omega, by omega, ?_, ?_⟩⟩
    · obtain ⟨c, rfl⟩ : ∃ c, cap = c + 1 := ⟨cap - 1, by omega⟩
      rw [Nat.succ_mul] at hs
      rw [Nat.add_sub_cancel]
      omega
    · rw [← ht, List.drop_take, List.drop_drop, show (n + 1) * s - s = n * s by rw [Nat.succ_mul]; omega]
theorem Sl.tail1 {w : World} {B : Nat} {e : TypeId} {s : Nat} {g q : Nat} {xs : List Value} (h : Sl w B e s (.slice (some ⟨g, q, none⟩) 1 1) 1 xs) : Sl w B e s (.slice (some ⟨g, q, none⟩) 0 0) 0 [] := by
  rcases h.2 with ⟨hv, _⟩ | ⟨g', q', cap', cur, hv, hb, hg, hn, hm, hs, ht⟩
  · cases hv
  · cases hv
    exact ⟨by simp, .inr ⟨g, q, 0, cur, rfl, hb, hg, Nat.le_refl _, Nat.zero_le _, by omega, by simp⟩⟩

section
variable {P : Program} (w : World)
theorem run_append_room_q (t ty e : TypeId) (i : TypeInfo) (ht : P.underlying t = some (.slice e)) (hi : P.info? e = some i)
    (g q sLen sCap : Nat) (cur : Array Value) (hg : w.heap[g]? = some (.cells cur e (0, 0)))
    (a : Addr) (m c : Nat) (news : List Value) (hl : news.length = m * i.size) (hnews : ∀ j u, news[j]? = some u → w.cell? (a.add j) = some u) (h1 : ∀ u ∈ news, u.oneCell' = true)
    (hroom : sLen + m ≤ sCap) (hfit : q + sLen * i.size + news.length ≤ cur.size) :
    (Builtin.append_ #[t, t] ty #[.slice (some ⟨g, q, none⟩) sLen sCap, .slice (some a) m c]).run P w =
      .ok (.slice (some ⟨g, q, none⟩) (sLen + m) sCap) (w.setRow g (cur.toList.take (q + sLen * i.size) ++ news ++ cur.toList.drop (q + sLen * i.size + news.length)).toArray) := by
  have hf := run_firstCells_some (P := P) w i.size m a m c news hl hnews
  have hst := run_storeCells_at P g (q + sLen * i.size) e news 0 cur w hg (by simpa using hfit) h1
  simp only [Nat.add_zero] at hst
  simp [Builtin.append_, run_underlying ht, sizeOf, typeInfo, hi, Builtin.lenOf, hroom, hf, Addr.add_lit, hst]

theorem run_append_sl (B : Nat) (t ty e : TypeId) (i : TypeInfo) (z : Value) (size bytes : Nat) (ht : P.underlying t = some (.slice e)) (hi : P.info? e = some i) (hz : i.zero = some z)
    (hsize : i.size = size) (hby : i.bytes = bytes) (hzs : z.cells.size = size) (hsz : 0 < size)
    (v : Value) (n : Nat) (xs : List Value) (hown : Sl w B e size v n xs)
    (a : Addr) (m c : Nat) (news : List Value) (hl : news.length = m * size) (hnews : ∀ j u, news[j]? = some u → w.cell? (a.add j) = some u) (h1 : ∀ u ∈ news, u.oneCell' = true)
    (hm0 : 0 < m) (h63 : n + m ≤ maxLen) (hbytes : (n + m) * bytes ≤ 140737488355328) (hbase : B ≤ w.heap.size) :
    ∃ g q cap w', (Builtin.append_ #[t, t] ty #[v, .slice (some a) m c]).run P w = .ok (.slice (some ⟨g, q, none⟩) (n + m) cap) w' ∧ Sl w' B e size (.slice (some ⟨g, q, none⟩) (n + m) cap) (n + m) (xs ++ news) ∧ w.grownBy w' v.ownBlock ∧
      (v.ownBlock = some g ∨ w.heap.size ≤ g) := by
  rcases hown.2 with ⟨rfl, rfl⟩ | ⟨g, q, cap, cur, rfl, hb, hg, hn, hm, hs, htk⟩
  · have hx : xs = [] := List.eq_nil_of_length_eq_zero (by simpa using hown.1)
    subst hx
    obtain ⟨v', w', hr, ho, hg, _, hat⟩ := run_append_own_at (P := P) w B t ty e i z size bytes ht hi hz hsize hby hzs hsz (.slice none 0 0) 0 [] (World.ownsRow_nil _ _ _ _) a m c news hl hnews h1 h63 hbytes hbase
    rcases ho.2 with ⟨_, h0⟩ | ⟨g, cap, cur, rfl, _⟩
    · omega
    · refine ⟨g, 0, cap, w', hr, sl_of_own ho, hg, .inr ?_⟩
      rcases hat with h | h
      · simp [Value.ownBlock] at h
      · simp [Value.ownBlock] at h; omega
  · by_cases hroom : n + m ≤ cap
    · have hfit : q + n * i.size + news.length ≤ cur.size := by
        have := Nat.mul_le_mul_right i.size hroom
        rw [Nat.add_mul] at this
        rw [hl, hsize] at *
        omega
      have hr := run_append_room_q (P := P) w t ty e i ht hi g q n cap cur hg a m c news (by rw [hsize]; exact hl) hnews h1 hroom hfit
      refine ⟨g, q, cap, _, hr, ⟨by rw [List.length_append, hown.1, hl, Nat.add_mul], .inr ⟨g, q, cap, _, rfl, hb, setRow_heap w g cur _ e _ hg, hroom, hm, ?_, ?_⟩⟩, ⟨rfl, rfl, rfl, by simp, fun k _ hk => setRow_other w g k _ (fun e => hk (by simp [Value.ownBlock, e]))⟩, .inl rfl⟩
      · simp only [List.size_toArray, List.length_append, List.length_take, List.length_drop, Array.length_toList]
        omega
      · rw [hsize] at *
        have e1 : (cur.toList.take (q + n * size)).drop q = xs := by rw [List.drop_take, Nat.add_sub_cancel_left]; exact htk
        have hql : q ≤ (cur.toList.take (q + n * size)).length := by rw [List.length_take, Array.length_toList]; omega
        rw [List.append_assoc, List.drop_append_of_le_length hql, e1, ← List.append_assoc, show (n + m) * size = (xs ++ news).length by rw [List.length_append, hown.1, hl, Nat.add_mul]]
        exact List.take_left
    · have holds : ∀ j u, xs[j]? = some u → w.cell? ((⟨g, q, none⟩ : Addr).add j) = some u := by
        intro j u hj
        have hjl : j < n * size := by rw [← hown.1]; exact (List.getElem?_eq_some_iff.1 hj).1
        rw [Addr.add_mid, hown.cellAt j hjl, hj]
      obtain ⟨v', w', hr, ho, hg'⟩ := run_append_arg_grows (P := P) w t ty e i z size bytes ht hi hz hsize hby hzs hsz ⟨g, q, none⟩ n cap xs hown.1 holds a m c news hl hnews (by omega) h63 hbytes
      rcases ho.2 with ⟨_, h0⟩ | ⟨g', cap', cur', rfl, hge, _⟩
      · omega
      · exact ⟨g', 0, cap', w', hr, (sl_of_own ho).le hbase, ⟨hg'.os, hg'.tape, hg'.output, hg'.size, fun k hk _ => hg'.block k hk (by simp)⟩, .inr hge⟩

theorem wp_append_sl {o : Oper} {a : Act} {K : Act → World → Prop} {Q : Exit → Act → World → Prop} (s x : Operand) (t : TypeId)
    (ho : o.op = .call { callee := .builtin .append, args := #[s, x], argTypes := #[t, t] })
    (B : Nat) (e : TypeId) (i : TypeInfo) (z : Value) (size bytes : Nat) (ht : P.underlying t = some (.slice e)) (hi : P.info? e = some i) (hz : i.zero = some z)
    (hsize : i.size = size) (hby : i.bytes = bytes) (hzs : z.cells.size = size) (hsz : 0 < size)
    (v : Value) (n : Nat) (xs : List Value) (hs : a.eval s = v) (hown : Sl w B e size v n xs)
    (ad : Addr) (m c : Nat) (news : List Value) (hx : a.eval x = .slice (some ad) m c) (hl : news.length = m * size) (hnews : ∀ j u, news[j]? = some u → w.cell? (ad.add j) = some u) (h1 : ∀ u ∈ news, u.oneCell' = true)
    (hm0 : 0 < m) (h63 : n + m ≤ maxLen) (hbytes : (n + m) * bytes ≤ 140737488355328) (hbase : B ≤ w.heap.size)
    (h : ∀ g q cap w', Sl w' B e size (.slice (some ⟨g, q, none⟩) (n + m) cap) (n + m) (xs ++ news) → w.grownBy w' v.ownBlock → (v.ownBlock = some g ∨ w.heap.size ≤ g) → K (a.put o.dst (.slice (some ⟨g, q, none⟩) (n + m) cap)) w') :
    o.wp P a w K Q := by
  obtain ⟨g, q, cap, w', hr, h2, h3, h4⟩ := run_append_sl (P := P) w B t o.type e i z size bytes ht hi hz hsize hby hzs hsz v n xs hown ad m c news hl hnews h1 hm0 h63 hbytes hbase
  unfold Oper.wp execOp
  simp only [ho, resolve, invoke, builtin, Sem.run_bind, Sem.run_pure, Result.andThen_ok, List.map_toArray, List.map_cons, List.map_nil, hs, hx, hr]
  exact h g q cap w' h2 h3 h4
theorem wpList_append_sl {ops : Array Oper} {rest : List Oper} {o : Oper} {a : Act} {Q : Exit → Act → World → Prop} (hgd : o.guard = none) (s x : Operand) (t : TypeId)
    (ho : o.op = .call { callee := .builtin .append, args := #[s, x], argTypes := #[t, t] })
    (B : Nat) (e : TypeId) (i : TypeInfo) (z : Value) (size bytes : Nat) (ht : P.underlying t = some (.slice e)) (hi : P.info? e = some i) (hz : i.zero = some z)
    (hsize : i.size = size) (hby : i.bytes = bytes) (hzs : z.cells.size = size) (hsz : 0 < size)
    (v : Value) (n : Nat) (xs : List Value) (hs : a.eval s = v) (hown : Sl w B e size v n xs)
    (ad : Addr) (m c : Nat) (news : List Value) (hx : a.eval x = .slice (some ad) m c) (hl : news.length = m * size) (hnews : ∀ j u, news[j]? = some u → w.cell? (ad.add j) = some u) (h1 : ∀ u ∈ news, u.oneCell' = true)
    (hm0 : 0 < m) (h63 : n + m ≤ maxLen) (hbytes : (n + m) * bytes ≤ 140737488355328) (hbase : B ≤ w.heap.size)
    (h : ∀ g q cap w', Sl w' B e size (.slice (some ⟨g, q, none⟩) (n + m) cap) (n + m) (xs ++ news) → w.grownBy w' v.ownBlock → (v.ownBlock = some g ∨ w.heap.size ≤ g) → wpList P ops Q rest (a.put o.dst (.slice (some ⟨g, q, none⟩) (n + m) cap)) w') :
    wpList P ops Q (o :: rest) a w :=
  wpList_plain hgd fun _ hK => wp_append_sl w s x t ho B e i z size bytes ht hi hz hsize hby hzs hsz v n xs hs hown ad m c news hx hl hnews h1 hm0 h63 hbytes hbase fun g q cap w' h2 h3 h4 => hK _ _ (h g q cap w' h2 h3 h4)
theorem step_append_sl {ops : Array Oper} {o : Oper} {a : Act} {K : Act → World → Prop} {Q : Exit → Act → World → Prop} {E : Prop} (hgd : o.guard = none) (s x : Operand) (t : TypeId)
    (ho : o.op = .call { callee := .builtin .append, args := #[s, x], argTypes := #[t, t] })
    (B : Nat) (e : TypeId) (i : TypeInfo) (z : Value) (size bytes : Nat) (ht : P.underlying t = some (.slice e)) (hi : P.info? e = some i) (hz : i.zero = some z)
    (hsize : i.size = size) (hby : i.bytes = bytes) (hzs : z.cells.size = size) (hsz : 0 < size)
    (v : Value) (n : Nat) (xs : List Value) (hs : a.eval s = v) (hown : Sl w B e size v n xs)
    (ad : Addr) (m c : Nat) (news : List Value) (hx : a.eval x = .slice (some ad) m c) (hl : news.length = m * size) (hnews : ∀ j u, news[j]? = some u → w.cell? (ad.add j) = some u) (h1 : ∀ u ∈ news, u.oneCell' = true)
    (hm0 : 0 < m) (h63 : n + m ≤ maxLen) (hbytes : (n + m) * bytes ≤ 140737488355328) (hbase : B ≤ w.heap.size)
    (h : ∀ g q cap w', Sl w' B e size (.slice (some ⟨g, q, none⟩) (n + m) cap) (n + m) (xs ++ news) → w.grownBy w' v.ownBlock → (v.ownBlock = some g ∨ w.heap.size ≤ g) → K (a.put o.dst (.slice (some ⟨g, q, none⟩) (n + m) cap)) w') :
    if Region.wanted o (yielded ops a.tmps) = true then Oper.wp P o a w K Q else E := by
  have hw : Region.wanted o (yielded ops a.tmps) = true := by simp [Region.wanted, hgd]
  rw [if_pos hw]
  exact wp_append_sl w s x t ho B e i z size bytes ht hi hz hsize hby hzs hsz v n xs hs hown ad m c news hx hl hnews h1 hm0 h63 hbytes hbase h
end

/-- All but two blocks are as they were. -/
structure Two (b : Nat) (row : Option Nat) (w w' : World) : Prop where
  os : w'.os = w.os
  tape : w'.tape = w.tape
  output : w'.output = w.output
  size : w.heap.size ≤ w'.heap.size
  block : ∀ k, k < w.heap.size → k ≠ b → some k ≠ row → w'.heap[k]? = w.heap[k]?
theorem Two.refl (b : Nat) (row : Option Nat) (w : World) : Two b row w w := ⟨rfl, rfl, rfl, Nat.le_refl _, fun _ _ _ _ => rfl⟩
theorem Two.of_below {b : Nat} {row : Option Nat} {w w' : World} (h : Below w.heap.size w w') : Two b row w w' := ⟨h.os, h.tape, h.output, h.size, fun k hk _ _ => h.block k hk⟩
theorem Two.of_grown {b : Nat} {row : Option Nat} {w w' : World} (h : w.grownBy w' row) : Two b row w w' := ⟨h.os, h.tape, h.output, h.size, fun k hk _ h2 => h.block k hk h2⟩
theorem Two.of_grown_b {b : Nat} {row : Option Nat} {w w' : World} (h : w.grownBy w' (some b)) : Two b row w w' := ⟨h.os, h.tape, h.output, h.size, fun k hk h1 _ => h.block k hk (by simpa using h1)⟩
theorem Two.of_set (b i : Nat) (row : Option Nat) (v : Value) (w : World) : Two b row w (w.setCell ⟨b, i, none⟩ v) := Two.of_grown_b (gb_set w b i v)
theorem Two.of_set_row (b g i : Nat) (v : Value) (w : World) : Two b (some g) w (w.setCell ⟨g, i, none⟩ v) := Two.of_grown (gb_set w g i v)
theorem Two.trans {b : Nat} {row row' : Option Nat} {w w1 w2 : World} (h1 : Two b row w w1) (h2 : Two b row' w1 w2) (hr : ∀ k, row' = some k → row = some k ∨ w.heap.size ≤ k) : Two b row w w2 :=
  ⟨h2.os.trans h1.os, h2.tape.trans h1.tape, h2.output.trans h1.output, Nat.le_trans h1.size h2.size, fun k hk hb hn => (h2.block k (Nat.lt_of_lt_of_le hk h1.size) hb (fun e => by rcases hr k e.symm with h | h; exact hn h.symm; omega)).trans (h1.block k hk hb hn)⟩
theorem Two.and {b : Nat} {row : Option Nat} {w w1 w2 : World} (h1 : Two b row w w1) (h2 : Two b row w1 w2) : Two b row w w2 := h1.trans h2 fun _ h => .inl h
theorem Two.drew {b : Nat} {row : Option Nat} {w w1 : World} (h : Two b row w w1) : Two b row w w1.drew := ⟨h.os, h.tape, h.output, h.size, h.block⟩
theorem Two.drewN {b : Nat} {row : Option Nat} {w w1 : World} (h : Two b row w w1) (n : Nat) : Two b row w (w1.drewN n) := ⟨h.os, h.tape, h.output, h.size, h.block⟩
theorem Two.below {b B : Nat} {row : Option Nat} {w w' : World} (h : Two b row w w') (hb : B ≤ b) (hr : ∀ k, row = some k → B ≤ k) (hB : B ≤ w.heap.size) : Below B w w' :=
  ⟨h.os, h.tape, h.output, h.size, fun k hk => h.block k (by omega) (by omega) (fun e => by have := hr k e.symm; omega)⟩
theorem Two.ar {b c : Nat} {row : Option Nat} {w w' : World} {T : TypeId} {cs : Array Value} (h : Two b row w w') (ha : Ar w c T cs) (h1 : c ≠ b) (h2 : row ≠ some c) : Ar w' c T cs := by
  have := ha.lt
  unfold Ar at *
  rw [h.block c this h1 (fun e => h2 e.symm)]; exact ha
theorem Two.sl {b : Nat} {row : Option Nat} {w w' : World} {B : Nat} {e : TypeId} {s : Nat} {v : Value} {n : Nat} {xs : List Value} (h : Two b row w w') (hs : Sl w B e s v n xs) (h1 : v.ownBlock ≠ some b) (h2 : ∀ k, v.ownBlock = some k → row ≠ some k) : Sl w' B e s v n xs :=
  hs.same fun k hk => h.block k (hs.lt k hk).2 (fun e => h1 (by rw [hk, e])) (fun e => h2 k hk e.symm)
theorem Two.own {b : Nat} {row : Option Nat} {w w' : World} {B : Nat} {e : TypeId} {s : Nat} {v : Value} {n : Nat} {xs : List Value} (h : Two b row w w') (hs : w.ownsRow B e s v n xs) (h1 : v.ownBlock ≠ some b) (h2 : ∀ k, v.ownBlock = some k → row ≠ some k) : w'.ownsRow B e s v n xs := by
  refine ⟨hs.1, ?_⟩
  rcases hs.2 with h0 | ⟨g, cap, cur, rfl, hb, hg, r⟩
  · exact .inl h0
  · refine .inr ⟨g, cap, cur, rfl, hb, ?_, r⟩
    rw [h.block g (Array.getElem?_eq_some_iff.1 hg).1 (fun e => h1 (by rw [e]; rfl)) (fun e => h2 g rfl e.symm)]
    exact hg

end Go.Proofs.Ytpgfnhfjkplmaaa
