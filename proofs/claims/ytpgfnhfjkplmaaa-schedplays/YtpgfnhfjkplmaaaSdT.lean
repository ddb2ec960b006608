/-
  The document's scheduler: Add, Drop: by their contracts.
-/
import Derived.Test.YtpgfnhfjkplmaaaSdS
import Derived.Deep.CutRange
namespace Go.Proofs.Ytpgfnhfjkplmaaa
open Go.RowKit

theorem sinfoT : (Try.prog.info? 52).map (fun i => (i.zero, i.size, i.bytes)) = some (some (.agg #[.int .i64 0, .bool false]), 2, 16) := by kernel_rfl
theorem own_le {w : World} {B B' : Nat} {e : TypeId} {s : Nat} {v : Value} {n : Nat} {xs : List Value} (h : w.ownsRow B e s v n xs) (hB : B' ≤ B) : w.ownsRow B' e s v n xs := by
  refine ⟨h.1, ?_⟩
  rcases h.2 with h0 | ⟨g, cap, cur, hv, hb, r⟩
  · exact .inl h0
  · exact .inr ⟨g, cap, cur, hv, Nat.le_trans hB hb, r⟩
theorem two_new (w : World) (t : TypeId) (x y : Value) : ∀ j u, ([x, y] : List Value)[j]? = some u → (w.alloc (.cells #[x, y] t)).cell? ((⟨w.heap.size, 0, none⟩ : Addr).add j) = some u := by
  intro j u hj
  match j, hj with
  | 0, hj => simp at hj; subst hj; simp [Addr.add]
  | 1, hj => simp at hj; subst hj; simp [Addr.add]
/-- What the scheduler is when a new row is laid into it. -/
theorem RM.put {w w' : World} {B b : Nat} {v v' : Value} {ts ts' : List (Int × Bool)} (h : RM w B b v ts) (hb : Below w.heap.size w w') (hr : w'.ownsRow w.heap.size 52 2 v' ts'.length (tkC ts')) (h1 : Sd.Ok ts') (h2 : ts'.length ≤ 4096) :
    RM (w'.setCell ⟨b, 0, none⟩ v') B b v' ts' ∧ LF (RS b v) w (w'.setCell ⟨b, 0, none⟩ v') ∧ ∀ k, v'.ownBlock = some k → v.ownBlock = some k ∨ w.heap.size ≤ k := by
  refine ⟨⟨h.ge, by have := (h.obj.keep hb).set 0 v'; simpa using this, ?_, h1, h2⟩, ?_, fun k hk => .inr (own_ty hr k hk).1⟩
  · refine own_same (own_le hr h.lb) (fun k hk => (upd_setCell w' b 0 v').block k (fun e => ?_))
    have := (own_ty hr k hk).1
    have := h.obj.lt
    omega
  · exact (LF.of_below (S := RS b v) hb).trans (LF.of_upd (b := b) (upd_setCell w' b 0 v') (.inl rfl)) (fun _ _ h => h)
theorem RM.put_nil {w : World} {B b : Nat} {v : Value} {ts : List (Int × Bool)} (h : RM w B b v ts) (hv : v = .slice none 0 0) : ts = [] := by
  have := h.row
  rcases this.2 with ⟨_, h0⟩ | ⟨g, cap, cur, h1, _⟩
  · exact List.eq_nil_of_length_eq_zero h0
  · rw [hv] at h1; cases h1

set_option maxHeartbeats 2000000 in
set_option maxRecDepth 20000 in
theorem radd_arg (B b : Nat) (v : Value) (ts : List (Int × Bool)) (x : Int) (w : World) (h : RM w B b v ts) (hx : x < 0 ∨ x ∈ Sd.ids ts) :
    Calls Try.prog 8 #[.pointer (some ⟨b, 0, none⟩), .int .i64 x] w fun e w' => e = .returned (.int .i64 1) ∧ ∃ q, w' = w.drewN q := by
  obtain ⟨i, hi⟩ : ∃ i, Sd.pl x (Sd.ids ts) = i := ⟨_, rfl⟩
  obtain ⟨d, hd⟩ : ∃ d, decide (x ∈ Sd.ids ts) = d := ⟨_, rfl⟩
  have HC := hid' (rat B b v ts x i d hi hd w h)
  have hxd : x < 0 ∨ (¬ x < 0 ∧ d = true) := by
    by_cases h0 : x < 0
    · exact .inl h0
    · exact .inr ⟨h0, by rw [← hd]; exact decide_eq_true (hx.resolve_left h0)⟩
  clear h hi hd hx
  rcases hxd with h0 | ⟨h0, rfl⟩
  all_goals
    go_enter Try.func8, Try.ntmps8
    go_wp2_with fail
    refine HC.out.mono ?_
    rintro e w1 ⟨rfl, q, hw1⟩
    have HW := hid' hw1
    clear hw1
    go_wp2
    go_ret
    exact ⟨rfl, q, HW.out⟩

set_option maxHeartbeats 2000000 in
set_option maxRecDepth 20000 in
theorem radd_many (B b : Nat) (v : Value) (ts : List (Int × Bool)) (x : Int) (w : World) (h : RM w B b v ts) (h0 : 0 ≤ x) (hn : x ∉ Sd.ids ts) (hm : 4096 ≤ ts.length) :
    Calls Try.prog 8 #[.pointer (some ⟨b, 0, none⟩), .int .i64 x] w fun e w' => e = .returned (.int .i64 4) ∧ ∃ q, w' = w.drewN q := by
  obtain ⟨i, hi⟩ : ∃ i, Sd.pl x (Sd.ids ts) = i := ⟨_, rfl⟩
  have HC := hid' (rat B b v ts x i false hi (decide_eq_false hn) w h)
  have h1 : ¬ x < 0 := by omega
  have c0 : ∀ q, (w.drewN q).cell? ⟨b, 0, none⟩ = some v := fun q => h.obj.cell 0 _ rfl
  obtain ⟨ao, cap, hv⟩ := own_shape h.row
  obtain ⟨n, hn2⟩ : ∃ n, ts.length = n := ⟨_, rfl⟩
  rw [hn2] at hv hm
  subst hv
  have hge : (4096 : Int) ≤ (n : Int) := by omega
  clear h hi hn hn2
  go_enter Try.func8, Try.ntmps8
  go_wp2_with fail
  refine HC.out.mono ?_
  rintro e w1 ⟨rfl, q, hw1⟩
  have c0' := c0 q
  rw [← hw1] at c0'
  have HW := hid' hw1
  clear hw1 c0
  go_wp2
  go_ret
  exact ⟨rfl, q, HW.out⟩

set_option maxHeartbeats 4000000 in
set_option maxRecDepth 20000 in
theorem radd_nil (B b : Nat) (x : Int) (w : World) (h : RM w B b (.slice none 0 0) []) (h0 : 0 ≤ x) :
    Calls Try.prog 8 #[.pointer (some ⟨b, 0, none⟩), .int .i64 x] w fun e w' => e = .returned (.int .i64 0) ∧ ∃ v', RM w' B b v' (Sd.tadd x []) ∧ LF (RS b (.slice none 0 0)) w w' ∧ ∀ k, v'.ownBlock = some k → (Value.slice none 0 0).ownBlock = some k ∨ w.heap.size ≤ k := by
  obtain ⟨i0, hi0, hz0, hz1, hz2⟩ := sinfo_parts sinfoT
  have HI := hid' hi0
  have HZ0 := hid' hz0
  have HZ1 := hid' hz1
  have HZ2 := hid' hz2
  clear hi0 hz0 hz1 hz2
  have HC := hid' (rat B b (.slice none 0 0) [] x 0 false rfl (by simp [Sd.ids]) w h)
  have h1 : ¬ x < 0 := by omega
  have H := hid' h
  have HSP := hid' (Sd.add_spec [] x h.ok (by simp [Sd.ids]))
  clear h
  go_enter Try.func8, Try.ntmps8
  go_wp2_with fail
  refine HC.out.mono ?_
  rintro e w1 ⟨rfl, q, hw1⟩
  have hb1 : Below w.heap.size w w1 := by rw [hw1]; exact ⟨rfl, rfl, rfl, Nat.le_refl _, fun _ _ => rfl⟩
  have c0 := (H.out.obj.keep hb1).cell 0 _ rfl
  have hbl := (H.out.obj.keep hb1).lt
  have HB1 := hid' hb1
  have HA : Hid ((w1.alloc (.cells #[.int .i64 x, .bool false] 52)).ownsRow w.heap.size 52 2 (.slice none 0 0) 0 []) := hid' (World.ownsRow_nil _ _ _ _)
  clear hw1 hb1
  go_wp2_with (at_builtin; refine wpList_append_own_at _ rfl _ _ 25 rfl w.heap.size 52 i0 (.agg #[.int .i64 0, .bool false]) 2 16 Try.underlying25 HI.out HZ0.out HZ1.out HZ2.out rfl (by decide) (.slice none 0 0) 0 [] rfl HA.out ⟨w1.heap.size, 0, none⟩ 1 1 [.int .i64 x, .bool false] rfl rfl (two_new _ _ _ _) (by simp [Value.oneCell']) (by unfold maxLen; omega) (by omega) (by simp; have := HB1.out.size; omega) ?_; intro v3 w3 hown3 hgrow3 _ _; refine Hid.out ?_)
  refine hid' ?_
  rw [Nat.zero_add, List.nil_append] at hown3
  obtain ⟨g3, c3, hv3, _, _⟩ := own_form hown3 (by omega)
  subst hv3
  have hb3 : Below w.heap.size w w3 := (HB1.out.alloc HB1.out.size _).grown hgrow3 (by simp; have := HB1.out.size; omega) (fun k hk => by simp [Value.ownBlock] at hk)
  have c0' := (H.out.obj.keep hb3).cell 0 _ rfl
  have f0' := (H.out.obj.keep hb3).free 0
  have HE := hid' (H.out.put (v' := .slice (some ⟨g3, 0, none⟩) 1 c3) (ts' := Sd.tadd x []) hb3 hown3 HSP.out.1 (by rw [HSP.out.2.2.2]; decide))
  clear hown3 hgrow3 hb3 c0
  go_wp2
  go_ret
  exact ⟨rfl, _, HE.out⟩

set_option maxHeartbeats 4000000 in
set_option maxRecDepth 20000 in
theorem radd_some (B b g cap : Nat) (ts : List (Int × Bool)) (x : Int) (w : World) (h : RM w B b (.slice (some ⟨g, 0, none⟩) ts.length cap) ts) (h0 : 0 ≤ x) (hn : x ∉ Sd.ids ts) (hm : ts.length < 4096) (hnc : ts.length ≤ cap) (hcm : cap ≤ maxLen) :
    Calls Try.prog 8 #[.pointer (some ⟨b, 0, none⟩), .int .i64 x] w fun e w' => e = .returned (.int .i64 0) ∧ ∃ v', RM w' B b v' (Sd.tadd x ts) ∧ LF (RS b (.slice (some ⟨g, 0, none⟩) ts.length cap)) w w' ∧ ∀ k, v'.ownBlock = some k → (Value.slice (some ⟨g, 0, none⟩) ts.length cap).ownBlock = some k ∨ w.heap.size ≤ k := by
  obtain ⟨i0, hi0, hz0, hz1, hz2⟩ := sinfo_parts sinfoT
  have HI := hid' hi0
  have HZ0 := hid' hz0
  have HZ1 := hid' hz1
  have HZ2 := hid' hz2
  clear hi0 hz0 hz1 hz2
  obtain ⟨i, hi⟩ : ∃ i, Sd.pl x (Sd.ids ts) = i := ⟨_, rfl⟩
  have HC := hid' (rat B b _ ts x i false hi (decide_eq_false hn) w h)
  have hil : i ≤ ts.length := by rw [← hi, ← Sd.ids_len]; exact Sd.pl_le _ _
  have h1 : ¬ x < 0 := by omega
  have H := hid' h
  have HSP := hid' (Sd.add_spec ts x h.ok hn)
  have HTA : Hid (tkC (Sd.tadd x ts) = tkC (ts.take i) ++ [.int .i64 x, .bool false] ++ tkC (ts.drop i)) := hid' (by unfold Sd.tadd; rw [hi, tkC_append, tkC_cons]; simp)
  obtain ⟨n, hn2⟩ : ∃ n, ts.length = n := ⟨_, rfl⟩
  have HN := hid' hn2
  have HL1 : Hid ((tkC (ts.take i)).length = i * 2) := hid' (by rw [tkC_length, List.length_take]; omega)
  have HL2 : Hid ((tkC (ts.drop i)).length = (n - i) * 2) := hid' (by rw [tkC_length, List.length_drop, hn2])
  obtain ⟨A, hA, HSRC⟩ : ∃ A : Addr, (if cap = i then some (⟨g, 0, none⟩ : Addr) else some ⟨g, i * 2, none⟩) = some A ∧ Hid (∀ W, Below w.heap.size w W → ∀ t u, (tkC (ts.drop i))[t]? = some u → W.cell? (A.add t) = some u) := by
    by_cases hc : cap = i
    · refine ⟨⟨g, 0, none⟩, by simp [hc], hid' (fun W hW t u hu => ?_)⟩
      rw [List.drop_of_length_le (by omega)] at hu
      simp [tkC] at hu
    · refine ⟨⟨g, i * 2, none⟩, by simp [hc], hid' (fun W hW t u hu => ?_)⟩
      rw [Addr.add_lit, hW.cell (p := ⟨g, i * 2 + t, none⟩) (own_lt h.row g rfl)]
      rw [tk_drop, List.getElem?_drop] at hu
      exact own_cell h.row _ _ hu
  have HSR1 : Hid (∀ W, Below w.heap.size w W → ∀ t u, (tkC (ts.take i))[t]? = some u → W.cell? ((⟨g, 0, none⟩ : Addr).add t) = some u) := hid' (fun W hW t u hu => by
    rw [Addr.add_lit, Nat.zero_add, hW.cell (p := ⟨g, t, none⟩) (own_lt h.row g rfl)]
    rw [tk_take, List.getElem?_take] at hu
    split at hu
    · exact own_cell h.row _ _ hu
    · cases hu)
  have hlt : ¬ (4096 : Int) ≤ (n : Int) := by omega
  have hle4 : n ≤ 4096 := by omega
  rw [hn2] at hil hnc H ⊢
  have hic : i ≤ cap := by omega
  have hcap : (cap : Int) ≤ 9223372036854775807 := by unfold maxLen at hcm; omega
  clear h hi hn hn2 hm hcm
  go_enter Try.func8, Try.ntmps8
  go_wp2_with fail
  refine HC.out.mono ?_
  rintro e w1 ⟨rfl, q, hw1⟩
  have hb1 : Below w.heap.size w w1 := by rw [hw1]; exact ⟨rfl, rfl, rfl, Nat.le_refl _, fun _ _ => rfl⟩
  have c0 := (H.out.obj.keep hb1).cell 0 _ rfl
  have HB1 := hid' hb1
  clear hw1 hb1
  go_wp2_with (at_builtin; refine wpList_append_own_at _ rfl _ _ 25 rfl w.heap.size 52 i0 (.agg #[.int .i64 0, .bool false]) 2 16 Try.underlying25 HI.out HZ0.out HZ1.out HZ2.out rfl (by decide) (.slice none 0 0) 0 [] rfl (World.ownsRow_nil _ _ _ _) ⟨g, 0, none⟩ i cap (tkC (ts.take i)) rfl HL1.out (HSR1.out _ HB1.out) (tk_one _) (by unfold maxLen; omega) (by omega) HB1.out.size ?_; intro v2 w2 hown2 hgrow2 _ _; refine Hid.out ?_)
  refine hid' ?_
  rw [Nat.zero_add, List.nil_append] at hown2
  obtain ⟨o2, c2, hv2⟩ := own_shape hown2
  subst hv2
  have hb2 : Below w.heap.size w w2 := HB1.out.grown hgrow2 HB1.out.size (fun k hk => by simp [Value.ownBlock] at hk)
  have HA : Hid ((w2.alloc (.cells #[.int .i64 x, .bool false] 52)).ownsRow w.heap.size 52 2 (.slice o2 i c2) i (tkC (ts.take i))) := hid' (hown2.alloc _)
  have c0b := (H.out.obj.keep hb2).cell 0 _ rfl
  have HB2 := hid' hb2
  clear hown2 hgrow2 hb2 c0 HB1
  go_wp2_with (at_builtin; refine wpList_append_own_at _ rfl _ _ 25 rfl w.heap.size 52 i0 (.agg #[.int .i64 0, .bool false]) 2 16 Try.underlying25 HI.out HZ0.out HZ1.out HZ2.out rfl (by decide) _ i (tkC (ts.take i)) rfl HA.out ⟨w2.heap.size, 0, none⟩ 1 1 [.int .i64 x, .bool false] rfl rfl (two_new _ _ _ _) (by simp [Value.oneCell']) (by unfold maxLen; omega) (by omega) (by simp; have := HB2.out.size; omega) ?_; intro v3 w3 hown3 hgrow3 _ _; refine Hid.out ?_)
  refine hid' ?_
  obtain ⟨g3, c3, hv3, _, _⟩ := own_form hown3 (by omega)
  subst hv3
  have hb3 : Below w.heap.size w w3 := (HB2.out.alloc HB2.out.size _).grown hgrow3 (by simp; have := HB2.out.size; omega) (fun k hk => (HA.out.lt k hk).1)
  have HO3 := hid' hown3
  have c0c := (H.out.obj.keep hb3).cell 0 _ rfl
  have HB3 := hid' hb3
  clear hown3 hgrow3 hb3 c0b HB2 HA
  go_upto_region 9 with fail
  go_wp2_with (at_builtin; refine wpList_append_own_at _ rfl _ _ 25 rfl w.heap.size 52 i0 (.agg #[.int .i64 0, .bool false]) 2 16 Try.underlying25 HI.out HZ0.out HZ1.out HZ2.out rfl (by decide) (.slice (some ⟨g3, 0, none⟩) (i + 1) c3) (i + 1) (tkC (ts.take i) ++ [.int .i64 x, .bool false]) rfl HO3.out A (n - i) (cap - i) (tkC (ts.drop i)) rfl HL2.out (HSRC.out _ HB3.out) (tk_one _) (by unfold maxLen; omega) (by omega) HB3.out.size ?_; intro v4 w4 hown4 hgrow4 _ _; refine Hid.out ?_)
  refine hid' ?_
  obtain ⟨g4, c4, hv4, _, _⟩ := own_form hown4 (by omega)
  subst hv4
  have hb4 : Below w.heap.size w w4 := HB3.out.grown hgrow4 HB3.out.size (fun k hk => (HO3.out.lt k hk).1)
  have hlen : i + 1 + (n - i) = (Sd.tadd x ts).length := by rw [HSP.out.2.2.2, HN.out]; omega
  rw [← HTA.out] at hown4
  have c0d := (H.out.obj.keep hb4).cell 0 _ rfl
  have f0d := (H.out.obj.keep hb4).free 0
  have HE := hid' (H.out.put (v' := .slice (some ⟨g4, 0, none⟩) (i + 1 + (n - i)) c4) (ts' := Sd.tadd x ts) hb4 (by rw [← hlen]; exact hown4) HSP.out.1 (by rw [HSP.out.2.2.2, HN.out]; omega))
  clear hown4 hgrow4 hb4 hlen c0c HB3 HO3
  go_wp2
  go_ret
  exact ⟨rfl, _, HE.out⟩

theorem radd {ts ts' : List (Int × Bool)} {x c : Int} (ho : AddOf ts x c ts') (B b : Nat) (v : Value) (w : World) (h : RM w B b v ts) :
    Calls Try.prog 8 #[.pointer (some ⟨b, 0, none⟩), .int .i64 x] w fun e w' => e = .returned (.int .i64 c) ∧ ∃ v', RM w' B b v' ts' ∧ LF (RS b v) w w' ∧ ∀ k, v'.ownBlock = some k → v.ownBlock = some k ∨ w.heap.size ≤ k := by
  rcases ho with ⟨rfl, h1, rfl⟩ | ⟨rfl, ⟨h1, h2, h3⟩, rfl⟩ | ⟨rfl, ⟨h1, h2, h3⟩, rfl⟩
  · exact (radd_arg B b v ts' x w h h1).mono fun e w' ⟨a1, q, a2⟩ => ⟨a1, v, by rw [a2]; exact h.drewN q, by rw [a2]; exact ⟨rfl, rfl, rfl, Nat.le_refl _, fun _ _ _ => rfl⟩, fun k hk => .inl hk⟩
  · exact (radd_many B b v ts' x w h h1 h2 h3).mono fun e w' ⟨a1, q, a2⟩ => ⟨a1, v, by rw [a2]; exact h.drewN q, by rw [a2]; exact ⟨rfl, rfl, rfl, Nat.le_refl _, fun _ _ _ => rfl⟩, fun k hk => .inl hk⟩
  · rcases h.row.2 with ⟨hv, _⟩ | ⟨g, cap, cur, rfl, _, _, h4, h5, _⟩
    · obtain rfl := h.put_nil hv
      subst hv
      exact radd_nil B b x w h h1
    · exact radd_some B b g cap ts x w h h1 h2 h3 h4 h5

set_option maxHeartbeats 2000000 in
set_option maxRecDepth 20000 in
theorem rdrop_no (B b : Nat) (v : Value) (ts : List (Int × Bool)) (x : Int) (w : World) (h : RM w B b v ts) (hn : x ∉ Sd.ids ts) :
    Calls Try.prog 10 #[.pointer (some ⟨b, 0, none⟩), .int .i64 x] w fun e w' => e = .returned (.bool false) ∧ ∃ q, w' = w.drewN q := by
  obtain ⟨i, hi⟩ : ∃ i, Sd.pl x (Sd.ids ts) = i := ⟨_, rfl⟩
  have HC := hid' (rat B b v ts x i false hi (decide_eq_false hn) w h)
  clear h hi hn
  go_enter Try.func10, Try.ntmps10
  go_wp2_with fail
  refine HC.out.mono ?_
  rintro e w1 ⟨rfl, q, hw1⟩
  have HW := hid' hw1
  clear hw1
  go_wp2
  go_ret
  exact ⟨rfl, q, HW.out⟩

set_option maxHeartbeats 4000000 in
set_option maxRecDepth 20000 in
theorem rdrop_yes (B b g cap : Nat) (ts : List (Int × Bool)) (x : Int) (c : Bool) (w : World) (h : RM w B b (.slice (some ⟨g, 0, none⟩) ts.length cap) ts) (hm : (x, c) ∈ ts) (hnc : ts.length ≤ cap) (hcm : cap ≤ maxLen) :
    Calls Try.prog 10 #[.pointer (some ⟨b, 0, none⟩), .int .i64 x] w fun e w' => e = .returned (.bool true) ∧ ∃ v', RM w' B b v' (Sd.tdrop x ts) ∧ LF (RS b (.slice (some ⟨g, 0, none⟩) ts.length cap)) w w' ∧ ∀ k, v'.ownBlock = some k → (Value.slice (some ⟨g, 0, none⟩) ts.length cap).ownBlock = some k ∨ w.heap.size ≤ k := by
  obtain ⟨i0, hi0, hz0, hz1, hz2⟩ := sinfo_parts sinfoT
  have HI := hid' hi0
  have HZ0 := hid' hz0
  have HZ1 := hid' hz1
  have HZ2 := hid' hz2
  clear hi0 hz0 hz1 hz2
  obtain ⟨i, hi⟩ : ∃ i, Sd.pl x (Sd.ids ts) = i := ⟨_, rfl⟩
  obtain ⟨j, hj⟩ : ∃ j, j = i + 1 := ⟨_, rfl⟩
  have hmi : x ∈ Sd.ids ts := List.mem_map.2 ⟨_, hm, rfl⟩
  have HC := hid' (rat B b _ ts x i true hi (decide_eq_true hmi) w h)
  have hat := Sd.at_pl ts x c h.ok hm
  rw [hi] at hat
  have hil := (List.getElem?_eq_some_iff.1 hat).1
  have H := hid' h
  have HSP := hid' (Sd.drop_spec ts x c h.ok hm)
  have HTA : Hid (tkC (Sd.tdrop x ts) = tkC (ts.take i) ++ tkC (ts.drop j)) := hid' (by unfold Sd.tdrop; rw [hi, hj, tkC_append])
  obtain ⟨n, hn2⟩ : ∃ n, ts.length = n := ⟨_, rfl⟩
  have HN := hid' hn2
  have HL1 : Hid ((tkC (ts.take i)).length = i * 2) := hid' (by rw [tkC_length, List.length_take]; omega)
  have HL2 : Hid ((tkC (ts.drop j)).length = (n - j) * 2) := hid' (by rw [tkC_length, List.length_drop, hn2])
  obtain ⟨A, hA, HSRC⟩ : ∃ A : Addr, (if cap = j then some (⟨g, 0, none⟩ : Addr) else some ⟨g, j * 2, none⟩) = some A ∧ Hid (∀ W, Below w.heap.size w W → ∀ t u, (tkC (ts.drop j))[t]? = some u → W.cell? (A.add t) = some u) := by
    by_cases hc : cap = j
    · refine ⟨⟨g, 0, none⟩, by simp [hc], hid' (fun W hW t u hu => ?_)⟩
      rw [List.drop_of_length_le (by omega)] at hu
      simp [tkC] at hu
    · refine ⟨⟨g, j * 2, none⟩, by simp [hc], hid' (fun W hW t u hu => ?_)⟩
      rw [Addr.add_lit, hW.cell (p := ⟨g, j * 2 + t, none⟩) (own_lt h.row g rfl)]
      rw [tk_drop, List.getElem?_drop] at hu
      exact own_cell h.row _ _ hu
  have HSR1 : Hid (∀ W, Below w.heap.size w W → ∀ t u, (tkC (ts.take i))[t]? = some u → W.cell? ((⟨g, 0, none⟩ : Addr).add t) = some u) := hid' (fun W hW t u hu => by
    rw [Addr.add_lit, Nat.zero_add, hW.cell (p := ⟨g, t, none⟩) (own_lt h.row g rfl)]
    rw [tk_take, List.getElem?_take] at hu
    split at hu
    · exact own_cell h.row _ _ hu
    · cases hu)
  have hle4 := h.le
  rw [hn2] at hil hnc H hle4 ⊢
  have hic : i ≤ cap := by omega
  have hjn : j ≤ n := by omega
  have hjc : j ≤ cap := by omega
  have hji : (i : Int) + 1 = (j : Int) := by omega
  have HJ := hid' hj
  have hcap : (cap : Int) ≤ 9223372036854775807 := by unfold maxLen at hcm; omega
  clear h hi hn2 hm hcm hmi hat hj
  go_enter Try.func10, Try.ntmps10
  go_wp2_with fail
  refine HC.out.mono ?_
  rintro e w1 ⟨rfl, q, hw1⟩
  have hb1 : Below w.heap.size w w1 := by rw [hw1]; exact ⟨rfl, rfl, rfl, Nat.le_refl _, fun _ _ => rfl⟩
  have c0 := (H.out.obj.keep hb1).cell 0 _ rfl
  have HB1 := hid' hb1
  clear hw1 hb1
  go_wp2_with (at_builtin; refine wpList_append_own_at _ rfl _ _ 25 rfl w.heap.size 52 i0 (.agg #[.int .i64 0, .bool false]) 2 16 Try.underlying25 HI.out HZ0.out HZ1.out HZ2.out rfl (by decide) (.slice none 0 0) 0 [] rfl (World.ownsRow_nil _ _ _ _) ⟨g, 0, none⟩ i cap (tkC (ts.take i)) rfl HL1.out (HSR1.out _ HB1.out) (tk_one _) (by unfold maxLen; omega) (by omega) HB1.out.size ?_; intro v2 w2 hown2 hgrow2 _ _; refine Hid.out ?_)
  refine hid' ?_
  rw [Nat.zero_add, List.nil_append] at hown2
  obtain ⟨o2, c2, hv2⟩ := own_shape hown2
  subst hv2
  have hb2 : Below w.heap.size w w2 := HB1.out.grown hgrow2 HB1.out.size (fun k hk => by simp [Value.ownBlock] at hk)
  have HO2 := hid' hown2
  have c0b := (H.out.obj.keep hb2).cell 0 _ rfl
  have HB2 := hid' hb2
  clear hown2 hgrow2 hb2 c0 HB1
  go_upto_region 6 with fail
  go_wp2_with (at_builtin; refine wpList_append_own_at _ rfl _ _ 25 rfl w.heap.size 52 i0 (.agg #[.int .i64 0, .bool false]) 2 16 Try.underlying25 HI.out HZ0.out HZ1.out HZ2.out rfl (by decide) _ i (tkC (ts.take i)) rfl HO2.out A (n - j) (cap - j) (tkC (ts.drop j)) rfl HL2.out (HSRC.out _ HB2.out) (tk_one _) (by unfold maxLen; omega) (by omega) HB2.out.size ?_; intro v4 w4 hown4 hgrow4 _ _; refine Hid.out ?_)
  refine hid' ?_
  obtain ⟨o4, c4, hv4⟩ := own_shape hown4
  subst hv4
  have hb4 : Below w.heap.size w w4 := HB2.out.grown hgrow4 HB2.out.size (fun k hk => (HO2.out.lt k hk).1)
  have hlen : i + (n - j) = (Sd.tdrop x ts).length := by have := HSP.out.2.2.2; have := HN.out; have := HJ.out; omega
  rw [← HTA.out] at hown4
  have c0d := (H.out.obj.keep hb4).cell 0 _ rfl
  have f0d := (H.out.obj.keep hb4).free 0
  have HE := hid' (H.out.put (v' := .slice o4 (i + (n - j)) c4) (ts' := Sd.tdrop x ts) hb4 (by rw [← hlen]; exact hown4) HSP.out.1 (by have := HSP.out.2.2.2; have := HN.out; omega))
  clear hown4 hgrow4 hb4 hlen c0b HB2 HO2
  go_wp2
  go_ret
  exact ⟨rfl, _, HE.out⟩

theorem rdrop {ts ts' : List (Int × Bool)} {x : Int} {t : Bool} (ho : DropOf ts x t ts') (B b : Nat) (v : Value) (w : World) (h : RM w B b v ts) :
    Calls Try.prog 10 #[.pointer (some ⟨b, 0, none⟩), .int .i64 x] w fun e w' => e = .returned (.bool t) ∧ ∃ v', RM w' B b v' ts' ∧ LF (RS b v) w w' ∧ ∀ k, v'.ownBlock = some k → v.ownBlock = some k ∨ w.heap.size ≤ k := by
  rcases ho with ⟨rfl, ⟨c, h1⟩, rfl⟩ | ⟨rfl, h1, rfl⟩
  · rcases h.row.2 with ⟨hv, _⟩ | ⟨g, cap, cur, rfl, _, _, h4, h5, _⟩
    · obtain rfl := h.put_nil hv
      simp at h1
    · exact rdrop_yes B b g cap ts x c w h h1 h4 h5
  · exact (rdrop_no B b v ts' x w h h1).mono fun e w' ⟨a1, q, a2⟩ => ⟨a1, v, by rw [a2]; exact h.drewN q, by rw [a2]; exact ⟨rfl, rfl, rfl, Nat.le_refl _, fun _ _ _ => rfl⟩, fun k hk => .inl hk⟩

end Go.Proofs.Ytpgfnhfjkplmaaa
