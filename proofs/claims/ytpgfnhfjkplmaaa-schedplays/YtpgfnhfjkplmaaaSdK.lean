/-
  Lists that are marked and grown: what the laws' Apart keeps in memory.
-/
import Derived.Test.YtpgfnhfjkplmaaaSdS
namespace Go.Proofs.Ytpgfnhfjkplmaaa
open Go.RowKit

/-- The marks. -/
def mkA (t j : Nat) : Int := (t : Int) * 1000003 + (j : Int)
def mtA (t j : Nat) : Int := -(t : Int) * 1000003 - (j : Int) - 1
def mks (t n : Nat) : List Int := (List.range n).map (mkA t)
def tls (t c : Nat) : List Int := (List.range c).map (mtA t)
theorem mks_at (t n j : Nat) (h : j < n) : (mks t n)[j]? = some (mkA t j) := by simp [mks, h]
theorem mks_len (t n : Nat) : (mks t n).length = n := by simp [mks]
theorem tls_len (t n : Nat) : (tls t n).length = n := by simp [tls]
theorem tls_at (t n j : Nat) (h : j < n) : (tls t n)[j]? = some (mtA t j) := by simp [tls, h]
theorem tls_succ (t c : Nat) : tls t (c + 1) = tls t c ++ [mtA t c] := by simp [tls, List.range_succ]
theorem row_l (t n c j : Nat) (h : j < n) : (nmC (mks t n ++ tls t c))[j]? = some (.int .i64 (mkA t j)) := by
  refine nm_at ?_
  rw [List.getElem?_append_left (by rw [mks_len]; exact h)]
  exact mks_at t n j h
theorem row_r (t n c j : Nat) (h : j < c) : (nmC (mks t n ++ tls t c))[n + j]? = some (.int .i64 (mtA t j)) := by
  refine nm_at ?_
  rw [List.getElem?_append_right (by rw [mks_len]; omega), mks_len, Nat.add_sub_cancel_left]
  exact tls_at t c j h

/-- One number is appended; what stood in the row ahead can still be read there. -/
theorem run_append_keep (ty : TypeId) (w : World) (B : Nat) (v : Value) (n : Nat) (xs : List Value) (hown : w.ownsRow B 3 1 v n xs) (a : Addr) (c : Nat) (x : Value) (hx : w.cell? (a.add 0) = some x) (h1 : x.oneCell' = true) (hn : n ≤ 65536) (hB : B ≤ w.heap.size) :
    ∃ v' w', (Builtin.append_ #[36, 36] ty #[v, .slice (some a) 1 c]).run Try.prog w = .ok v' w' ∧ w'.ownsRow B 3 1 v' (n + 1) (xs ++ [x]) ∧ w.grownBy w' v.ownBlock ∧ (v'.ownBlock = v.ownBlock ∨ v'.ownBlock = some w.heap.size) ∧ ∀ g, v.ownBlock = some g → ∀ j u, xs[j]? = some u → w'.cell? ⟨g, j, none⟩ = some u := by
  obtain ⟨i0, hi0, hz0, hz1, hz2⟩ := sinfo_parts sinfoI
  have hnews : ∀ j u, ([x] : List Value)[j]? = some u → w.cell? (a.add j) = some u := fun j u hj => by
    match j, hj with
    | 0, hj => simp at hj; subst hj; exact hx
  obtain ⟨v', w', hr, ho, hg, _, hat⟩ := run_append_own_at (P := Try.prog) w B 36 ty 3 i0 (.int .i64 0) 1 8 Try.underlying36 hi0 hz0 hz1 hz2 rfl (by decide) v n xs hown a 1 c [x] rfl hnews (by simpa using h1) (by unfold maxLen; omega) (by omega) hB
  refine ⟨v', w', hr, ho, hg, hat, fun g hvg j u hj => ?_⟩
  have hjn : j < n := by have := (List.getElem?_eq_some_iff.1 hj).1; rw [hown.1] at this; omega
  rcases hat with hat | hat
  · obtain ⟨g', cap', hv', _, _⟩ := own_form ho (by omega)
    subst hv'
    rw [hvg] at hat
    have : g' = g := by simpa [Value.ownBlock] using hat
    subst this
    exact own_cell ho j u (by rw [List.getElem?_append_left (by rw [hown.1]; omega)]; exact hj)
  · obtain ⟨g0, cap, rfl, hnc, hcm⟩ := own_form hown (by omega)
    have : g0 = g := by simpa [Value.ownBlock] using hvg
    subst this
    have hlt := own_lt hown g0 rfl
    by_cases hroom : n + 1 ≤ cap
    · exfalso
      rcases hown.2 with ⟨hv, _⟩ | ⟨g', cap', cur, hv, _, hgg, _, _, hsz, _⟩
      · cases hv
      · cases hv
        have hr2 := run_append_room_q (P := Try.prog) w 36 ty 3 i0 Try.underlying36 hi0 g0 0 n cap cur hgg a 1 c [x] (by rw [hz1]; rfl) hnews (by simpa using h1) hroom (by rw [hz1]; simp; omega)
        rw [hr] at hr2
        injection hr2 with e1 _
        rw [e1] at hat
        simp [Value.ownBlock] at hat
        omega
    · have hr2 := run_append_grow (P := Try.prog) w 36 ty 3 i0 (.int .i64 0) Try.underlying36 hi0 hz0 ⟨g0, 0, none⟩ n cap xs (by rw [hz1]; exact hown.1) (fun j u hj => hown.cells (g := g0) rfl j u hj) a 1 c [x] (by rw [hz1]; rfl) hnews (by omega) (by omega) (by rw [hz2]; exact growslice_fits (by omega) (by omega))
      rw [hr] at hr2
      injection hr2 with _ e2
      rw [e2]
      have hc := own_cell hown j u hj
      exact (((Below.refl w.heap.size w.drew).alloc (show w.heap.size ≤ w.drew.heap.size from Nat.le_refl _) _).cell (p := ⟨g0, j, none⟩) hlt).trans hc
section
variable {ops : Array Oper} {rest : List Oper} {o : Oper} {a : Act} {w : World} {Q : Exit → Act → World → Prop}
theorem wpl_append_keep (hgd : o.guard = none) (s y : Operand) (ho : o.op = .call { callee := .builtin .append, args := #[s, y], argTypes := #[36, 36] })
    (B : Nat) (v : Value) (n : Nat) (xs : List Value) (hs : a.eval s = v) (hown : w.ownsRow B 3 1 v n xs) (ad : Addr) (c : Nat) (x : Value) (hy : a.eval y = .slice (some ad) 1 c) (hx : w.cell? (ad.add 0) = some x) (h1 : x.oneCell' = true) (hn : n ≤ 65536) (hB : B ≤ w.heap.size)
    (h : ∀ v' w', w'.ownsRow B 3 1 v' (n + 1) (xs ++ [x]) → w.grownBy w' v.ownBlock → (v'.ownBlock = v.ownBlock ∨ v'.ownBlock = some w.heap.size) → (∀ g, v.ownBlock = some g → ∀ j u, xs[j]? = some u → w'.cell? ⟨g, j, none⟩ = some u) → wpList Try.prog ops Q rest (a.put o.dst v') w') : wpList Try.prog ops Q (o :: rest) a w := by
  obtain ⟨v', w', hr, h2, h3, h4, h5⟩ := run_append_keep o.type w B v n xs hown ad c x hx h1 hn hB
  refine wpList_plain hgd fun _ hK => ?_
  unfold Oper.wp execOp
  simp only [ho, resolve, invoke, builtin, Sem.run_bind, Sem.run_pure, Result.andThen_ok, List.map_toArray, List.map_cons, List.map_nil, hs, hy, hr]
  exact hK _ _ (h v' w' h2 h3 h4 h5)
end

/-- While the marks are laid. -/
structure S1 (w : World) (B bl : Nat) (V : Nat → Value) (n i k : Nat) : Prop where
  ls : Ar w bl 36 #[V 0, V 1]
  row : ∀ t, t < 2 → ∃ zs : List Int, w.ownsRow B 3 1 (V t) n (nmC zs) ∧ ∀ j, j < n → (t < i ∨ (t = i ∧ j < k)) → zs[j]? = some (mkA t j)
  ap : ∀ t s, t < 2 → s < 2 → t ≠ s → ∀ k, (V t).ownBlock = some k → (V s).ownBlock ≠ some k
theorem S1.ar {w : World} {B bl : Nat} {V : Nat → Value} {n i k : Nat} (h : S1 w B bl V n i k) (t : Nat) (ht : t < 2) : w.cell? ⟨bl, t, none⟩ = some (V t) := by
  have : t = 0 ∨ t = 1 := by omega
  rcases this with rfl | rfl
  · exact h.ls.cell 0 _ rfl
  · exact h.ls.cell 1 _ rfl
theorem S1.step {w : World} {B bl : Nat} {V : Nat → Value} {n i k g cap : Nat} (h : S1 w B bl V n i k) (hi : i < 2) (hk : k < n) (hv : V i = .slice (some ⟨g, 0, none⟩) n cap) : S1 (w.setCell ⟨g, k, none⟩ (.int .i64 (mkA i k))) B bl V n i (k + 1) := by
  have hgl : g ≠ bl := by
    obtain ⟨zs, ho, _⟩ := h.row i hi
    exact own_apart ho h.ls (by decide) g (by rw [hv]; rfl)
  refine ⟨h.ls.other hgl _ _, fun t ht => ?_, h.ap⟩
  obtain ⟨zs, ho, hz⟩ := h.row t ht
  by_cases e : t = i
  · subst e
    rw [hv] at ho ⊢
    have hl : zs.length = n := by have := ho.1; rw [nmC_length] at this; omega
    refine ⟨zs.set k (mkA t k), ?_, fun j hj hc => ?_⟩
    · have := own_set ho k (.int .i64 (mkA t k))
      have e2 : nmC (zs.set k (mkA t k)) = (nmC zs).set k (.int .i64 (mkA t k)) := by simp [nmC, List.map_set]
      rw [e2]; exact this
    · by_cases e2 : j = k
      · subst e2; rw [List.getElem?_set, if_pos rfl, if_pos (by omega)]
      · rw [List.getElem?_set, if_neg (fun h => e2 h.symm)]
        exact hz j hj (by rcases hc with hc | ⟨hc1, hc2⟩; exact .inl hc; exact .inr ⟨hc1, by omega⟩)
  · refine ⟨zs, own_same ho (fun b hb => (upd_setCell w g k _).block b (fun e2 => ?_)), fun j hj hc => hz j hj (hc.imp id (fun hc => absurd hc.1 e))⟩
    exact h.ap t i ht hi e b hb (by rw [hv, e2]; rfl)
theorem S1.next {w : World} {B bl : Nat} {V : Nat → Value} {n i : Nat} (h : S1 w B bl V n i n) : S1 w B bl V n (i + 1) 0 :=
  ⟨h.ls, fun t ht => by
    obtain ⟨zs, ho, hz⟩ := h.row t ht
    exact ⟨zs, ho, fun j hj hc => hz j hj (by omega)⟩, h.ap⟩
theorem S1.full {w : World} {B bl : Nat} {V : Nat → Value} {n : Nat} (h : S1 w B bl V n 2 0) (t : Nat) (ht : t < 2) : w.ownsRow B 3 1 (V t) n (nmC (mks t n)) := by
  obtain ⟨zs, ho, hz⟩ := h.row t ht
  have hl : zs.length = n := by have := ho.1; rw [nmC_length] at this; omega
  have e : zs = mks t n := by
    apply List.ext_getElem?
    intro j
    by_cases hj : j < n
    · rw [hz j hj (.inl ht), mks_at t n j hj]
    · rw [List.getElem?_eq_none (by omega), List.getElem?_eq_none (by rw [mks_len]; omega)]
  rw [← e]; exact ho
theorem S1.other {w w' : World} {B bl : Nat} {V : Nat → Value} {n i k : Nat} {S : Nat → Prop} (h : S1 w B bl V n i k) (hf : LF S w w') (hl : ¬ S bl) (hs : ∀ t, t < 2 → ∀ k, (V t).ownBlock = some k → ¬ S k) : S1 w' B bl V n i k :=
  ⟨hf.ar h.ls hl, fun t ht => by
    obtain ⟨zs, ho, hz⟩ := h.row t ht
    exact ⟨zs, own_same ho (fun b hb => hf.block b (own_lt ho b hb) (hs t ht b hb)), hz⟩, h.ap⟩

/-- The grown lists, as far as they are laid. -/
def lgA (V : Nat → Value) (i : Nat) : Array Value := #[if 0 < i then V 0 else .slice none 0 0, if 1 < i then V 1 else .slice none 0 0]
theorem lgA_set (V : Nat → Value) (i : Nat) (hi : i < 2) : (lgA V i).setIfInBounds i (V i) = lgA V (i + 1) := by
  have : i = 0 ∨ i = 1 := by omega
  rcases this with rfl | rfl <;> simp [lgA]

/-- How many are appended to the list number t. -/
def cnt (t i k : Nat) : Nat := if t < i then 16 else if t = i then k else 0
theorem cnt_next (t i : Nat) : cnt t i 16 = cnt t (i + 1) 0 := by
  unfold cnt
  by_cases h1 : t < i
  · rw [if_pos h1, if_pos (by omega)]
  · by_cases h2 : t = i
    · rw [if_neg h1, if_pos h2, if_pos (by omega)]
    · rw [if_neg h1, if_neg h2, if_neg (by omega)]; split <;> rfl
/-- The blocks of one list. -/
def BL (v u : Value) (k : Nat) : Prop := v.ownBlock = some k ∨ u.ownBlock = some k
/-- While the lists are grown. -/
structure S2 (w : World) (B bl bm : Nat) (V U : Nat → Value) (n i k : Nat) : Prop where
  ls : Ar w bl 36 #[V 0, V 1]
  lg : Ar w bm 36 #[U 0, U 1]
  ne : bl ≠ bm
  row : ∀ t, t < 2 → w.ownsRow B 3 1 (U t) (n + cnt t i k) (nmC (mks t n ++ tls t (cnt t i k)))
  shp : ∀ t, t < 2 → ∃ ao cap, V t = .slice ao n cap
  old : ∀ t, t < 2 → ∀ j, j < n → ∃ g cap, V t = .slice (some ⟨g, 0, none⟩) n cap ∧ w.cell? ⟨g, j, none⟩ = some (.int .i64 (mkA t j))
  lt : ∀ t, t < 2 → ∀ k, (V t).ownBlock = some k → k < w.heap.size
  ap : ∀ t s, t < 2 → s < 2 → t ≠ s → ∀ k, BL (V t) (U t) k → ¬ BL (V s) (U s) k
theorem S2.cl {w : World} {B bl bm : Nat} {V U : Nat → Value} {n i k : Nat} (h : S2 w B bl bm V U n i k) (t : Nat) (ht : t < 2) : w.cell? ⟨bl, t, none⟩ = some (V t) := by
  have : t = 0 ∨ t = 1 := by omega
  rcases this with rfl | rfl
  · exact h.ls.cell 0 _ rfl
  · exact h.ls.cell 1 _ rfl
theorem S2.cm {w : World} {B bl bm : Nat} {V U : Nat → Value} {n i k : Nat} (h : S2 w B bl bm V U n i k) (t : Nat) (ht : t < 2) : w.cell? ⟨bm, t, none⟩ = some (U t) := by
  have : t = 0 ∨ t = 1 := by omega
  rcases this with rfl | rfl
  · exact h.lg.cell 0 _ rfl
  · exact h.lg.cell 1 _ rfl
theorem S2.next {w : World} {B bl bm : Nat} {V U : Nat → Value} {n i : Nat} (h : S2 w B bl bm V U n i 16) : S2 w B bl bm V U n (i + 1) 0 :=
  ⟨h.ls, h.lg, h.ne, fun t ht => by rw [← cnt_next]; exact h.row t ht, h.shp, h.old, h.lt, h.ap⟩
theorem S2.drewN {w : World} {B bl bm : Nat} {V U : Nat → Value} {n i k : Nat} (h : S2 w B bl bm V U n i k) (q : Nat) : S2 (w.drewN q) B bl bm V U n i k :=
  ⟨h.ls, h.lg, h.ne, h.row, h.shp, h.old, h.lt, h.ap⟩
theorem S2.alloc {w : World} {B bl bm : Nat} {V U : Nat → Value} {n i k : Nat} (h : S2 w B bl bm V U n i k) (o : Obj) : S2 (w.alloc o) B bl bm V U n i k := by
  have hb : Below w.heap.size w (w.alloc o) := (Below.refl _ _).alloc (Nat.le_refl _) _
  refine ⟨h.ls.keep hb, h.lg.keep hb, h.ne, fun t ht => (h.row t ht).alloc o, h.shp, fun t ht j hj => ?_, fun t ht b hbb => Nat.lt_of_lt_of_le (h.lt t ht b hbb) hb.size, h.ap⟩
  obtain ⟨g, cap, hv, hc⟩ := h.old t ht j hj
  exact ⟨g, cap, hv, (hb.cell (p := ⟨g, j, none⟩) (h.lt t ht g (by rw [hv]; rfl))).trans hc⟩
/-- From the marks on. -/
theorem S1.grow {w : World} {B bl bm : Nat} {V : Nat → Value} {n : Nat} (h : S1 w B bl V n 2 0) (hm : Ar w bm 36 (lgA V 2)) (hne : bl ≠ bm) : S2 w B bl bm V V n 0 0 := by
  refine ⟨h.ls, by simpa [lgA] using hm, hne, fun t ht => ?_, fun t ht => own_shape (h.full t ht), fun t ht j hj => ?_, fun t ht b hb => own_lt (h.full t ht) b hb, fun t s ht hs hts b hb hb2 => ?_⟩
  · have e : cnt t 0 0 = 0 := by unfold cnt; rw [if_neg (by omega)]; split <;> rfl
    rw [e]
    simpa [tls] using h.full t ht
  · obtain ⟨g, cap, hv, _, _⟩ := own_form (h.full t ht) (by omega)
    refine ⟨g, cap, hv, ?_⟩
    have := h.full t ht
    rw [hv] at this
    exact own_cell this j _ (nm_at (mks_at t n j hj))
  · exact h.ap t s ht hs hts b (hb.elim id id) (hb2.elim id id)
/-- One more is appended to the list number i. -/
theorem S2.step {w w' : World} {B bl bm : Nat} {V U : Nat → Value} {n i k : Nat} {v' : Value} (h : S2 w B bl bm V U n i k) (hi : i < 2) (hg : w.grownBy w' (U i).ownBlock) (ho : w'.ownsRow B 3 1 v' (n + k + 1) (nmC (mks i n ++ tls i k) ++ [.int .i64 (mtA i k)])) (hat : v'.ownBlock = (U i).ownBlock ∨ v'.ownBlock = some w.heap.size)
    (hold : ∀ g, (U i).ownBlock = some g → ∀ j u, (nmC (mks i n ++ tls i k))[j]? = some u → w'.cell? ⟨g, j, none⟩ = some u) :
    S2 (w'.setCell ⟨bm, i, none⟩ v') B bl bm V (fun t => if t = i then v' else U t) n i (k + 1) := by
  have hul : ∀ b, (U i).ownBlock = some b → b ≠ bl ∧ b ≠ bm := fun b hb => ⟨own_apart (h.row i hi) h.ls (by decide) b hb, own_apart (h.row i hi) h.lg (by decide) b hb⟩
  have hls : Ar w' bl 36 #[V 0, V 1] := ar_grown h.ls hg (fun b hb => (hul b hb).1)
  have hlg : Ar w' bm 36 #[U 0, U 1] := ar_grown h.lg hg (fun b hb => (hul b hb).2)
  have hci : cnt i i (k + 1) = k + 1 := by unfold cnt; rw [if_neg (by omega), if_pos rfl]
  have hu : ∀ b, b ≠ bm → (w'.setCell ⟨bm, i, none⟩ v').heap[b]? = w'.heap[b]? := fun b hb => (upd_setCell w' bm i v').block b hb
  refine ⟨hls.other h.ne.symm _ _, ?_, h.ne, fun t ht => ?_, h.shp, fun t ht j hj => ?_, fun t ht b hb => ?_, fun t s ht hs hts b hb hb2 => ?_⟩
  · have := hlg.set i v'
    have e : i = 0 ∨ i = 1 := by omega
    rcases e with rfl | rfl <;> simpa using this
  · by_cases e : t = i
    · subst e
      simp only [if_pos]
      rw [hci, tls_succ, ← List.append_assoc, nmC_append]
      exact own_same ho (fun b hb => hu b (fun e2 => own_apart ho hlg (by decide) b hb e2))
    · simp only [if_neg e]
      have hcc : cnt t i (k + 1) = cnt t i k := by unfold cnt; rw [if_neg e, if_neg e]
      rw [hcc]
      have hr := own_grown (h.row t ht) hg (fun b hb e2 => h.ap t i ht hi e b (.inr hb) (.inr e2.symm))
      exact own_same hr (fun b hb => hu b (fun e2 => own_apart hr hlg (by decide) b hb e2))
  · obtain ⟨g, cap, hv, hc⟩ := h.old t ht j hj
    refine ⟨g, cap, hv, ?_⟩
    have hgm : g ≠ bm := by
      rintro rfl
      have := h.lg
      unfold Ar at this
      rw [Lib.cell_of_heap this] at hc
      have : j = 0 ∨ j = 1 ∨ 2 ≤ j := by omega
      obtain ⟨a0, c0, h0⟩ := own_shape (h.row 0 (by omega))
      obtain ⟨a1, c1, h1⟩ := own_shape (h.row 1 (by omega))
      rcases this with rfl | rfl | h2
      · simp [h0] at hc
      · simp [h1] at hc
      · rw [Array.getElem?_eq_none (by simp; omega)] at hc; cases hc
    have hcw : (w'.setCell ⟨bm, i, none⟩ v').cell? ⟨g, j, none⟩ = w'.cell? ⟨g, j, none⟩ := World.cell?_of_block (hu g hgm)
    rw [hcw]
    by_cases hgu : (U i).ownBlock = some g
    · by_cases e : t = i
      · subst e
        exact hold g hgu j _ (row_l t n k j hj)
      · exact absurd (.inr hgu) (h.ap t i ht hi e g (.inl (by rw [hv]; rfl)))
    · exact (World.cell?_of_block (hg.block g (h.lt t ht g (by rw [hv]; rfl)) (fun e => hgu e.symm))).trans hc
  · exact Nat.lt_of_lt_of_le (h.lt t ht b hb) (Nat.le_trans hg.size (by rw [(upd_setCell w' bm i v').size]; exact Nat.le_refl _))
  · have key : ∀ r, r < 2 → BL (V r) (if r = i then v' else U r) b → BL (V r) (U r) b ∨ (r = i ∧ b = w.heap.size) := fun r hr hbb => by
      rcases hbb with hbb | hbb
      · exact .inl (.inl hbb)
      · by_cases e : r = i
        · rw [if_pos e] at hbb
          rcases hat with e2 | e2
          · exact .inl (.inr (by rw [e, ← e2]; exact hbb))
          · rw [e2] at hbb; injection hbb with hbb; exact .inr ⟨e, hbb.symm⟩
        · rw [if_neg e] at hbb; exact .inl (.inr hbb)
    have lt2 : ∀ r, r < 2 → BL (V r) (U r) b → b < w.heap.size := fun r hr hbb => hbb.elim (h.lt r hr b) (own_lt (h.row r hr) b)
    rcases key t ht hb with k1 | ⟨e1, k1⟩ <;> rcases key s hs hb2 with k2 | ⟨e2, k2⟩
    · exact h.ap t s ht hs hts b k1 k2
    · have := lt2 t ht k1; omega
    · have := lt2 s hs k2; omega
    · exact hts (by rw [e1, e2])

end Go.Proofs.Ytpgfnhfjkplmaaa
