/-
  table.Ring[api.Field]: by its contracts.
-/
import Derived.Test.YtmkkhfkfjmfdcaaGreatTabR
import Derived.Deep.RegionHeld3
import Derived.BigRegion
import Derived.Deep.RegionLaw
namespace Go.Proofs.YtmkkhfkfjmfdcaaGreat
open Go.RowKit

theorem infoFd : (Tryz.prog.info? 54).map (fun i => (i.zero, i.size, i.bytes)) = some (some (.agg #[.string ⟨#[]⟩, .string ⟨#[]⟩]), 2, 32) := by kernel_rfl

theorem lenF (B b : Nat) (T : TypeId) (v : Value) (tl : List Value) (n : Nat) (xs : List Value) (w : World) (h : RG w B b T 54 2 v tl n xs) :
    Calls Tryz.prog 88 #[.pointer (some ⟨b, 0, none⟩)] w fun e w' => e = .returned (.int .i64 (n : Int)) ∧ w' = w := by
  obtain ⟨ao, cap, rfl, hc⟩ := h.row.shape
  have c0 := h.obj.cell 0 _ rfl
  clear h
  go_enter Tryz.func88, Tryz.ntmps88
  go_wp2
  go_ret
  exact ⟨rfl, rfl⟩

set_option maxHeartbeats 1000000 in
theorem pushF (B b : Nat) (T : TypeId) (v : Value) (tl : List Value) (n : Nat) (xs : List Value) (s t : ByteArray) (w : World) (h : RG w B b T 54 2 v tl n xs) (hT : T ≠ 54) (hn : n < 140737488355328 / 32) (hB : B ≤ w.heap.size) :
    Calls Tryz.prog 77 #[.pointer (some ⟨b, 0, none⟩), .agg #[.string s, .string t]] w fun e w' => e = .returned (.tuple #[]) ∧ ∃ v', RG w' B b T 54 2 v' tl (n + 1) (xs ++ [.string s, .string t]) ∧ (∀ k, v'.ownBlock = some k → v.ownBlock = some k ∨ w.heap.size ≤ k) ∧ Two b v.ownBlock w w' := by
  obtain ⟨i0, hi, hz0, hz1, hz2⟩ := info_parts infoFd
  have HI := hid' hi
  have HZ0 := hid' hz0
  have HZ1 := hid' hz1
  have HZ2 := hid' hz2
  clear hi hz0 hz1 hz2
  have H := hid' h
  obtain ⟨ao, cap, rfl, hc⟩ := h.row.shape
  have hbw := h.obj.lt
  have hb0 : Below w.heap.size w (w.alloc (.cells #[.string s, .string t] 54)) := (Below.refl _ _).alloc (Nat.le_refl _) _
  have HR0 := hid' (h.keep hb0)
  have x0 : (w.alloc (.cells #[.string s, .string t] 54)).cell? ⟨w.heap.size, 0, none⟩ = some (.string s) := Ar.cell (heap_alloc_last w _) 0 _ rfl
  have x1 : (w.alloc (.cells #[.string s, .string t] 54)).cell? ⟨w.heap.size, 1, none⟩ = some (.string t) := Ar.cell (heap_alloc_last w _) 1 _ rfl
  clear h
  go_enter Tryz.func77, Tryz.ntmps77
  go_wp2
  have hz : (w.alloc (.cells #[.string s, .string t] 54)).heap.size = w.heap.size + 1 := by simp
  generalize (w.alloc (.cells #[.string s, .string t] 54)) = w0 at hb0 x0 x1 hz HR0 ⊢
  have HB0 := hid' hb0
  have HZ := hid' hz
  obtain ⟨bx, hbx⟩ : ∃ bx, w.heap.size = bx := ⟨_, rfl⟩
  have HBX := hid' hbx
  rw [hbx] at x0 x1 hbw ⊢
  have c0 : w0.cell? ⟨b, 0, none⟩ = some (.slice ao n cap) := HR0.out.obj.cell 0 _ rfl
  have f0 := HR0.out.obj.free 0
  clear hb0 hz hbx
  have hob : (Value.slice ao n cap).ownBlock ≠ some b := H.out.ne
  have hox : (Value.slice ao n cap).ownBlock ≠ some bx := fun e => by have := (H.out.row.lt bx e).2; have := HBX.out; omega
  have hS : w0.cell? ⟨b, 0, none⟩ = some (.slice ao n cap) ∧ w0.cell? ⟨bx, 0, none⟩ = some (.string s) ∧ w0.cell? ⟨bx, 1, none⟩ = some (.string t) ∧ w0.frozen? ⟨b, 0, none⟩ = false := ⟨c0, x0, x1, f0⟩
  obtain ⟨w00, hw00⟩ : ∃ w00, w00 = (w0.alloc (.cells #[.string s, .string t] 54)).drew := ⟨_, rfl⟩
  have hb00 : Below w0.heap.size w0 w00 := by rw [hw00]; exact ((Below.refl _ _).alloc (Nat.le_refl _) _).drew
  have kOf : ∀ W W1 : World, (W.cell? ⟨b, 0, none⟩ = some (.slice ao n cap) ∧ W.cell? ⟨bx, 0, none⟩ = some (.string s) ∧ W.cell? ⟨bx, 1, none⟩ = some (.string t) ∧ W.frozen? ⟨b, 0, none⟩ = false) → W.grownBy W1 (Value.slice ao n cap).ownBlock → W1.cell? ⟨b, 0, none⟩ = some (.slice ao n cap) ∧ W1.cell? ⟨bx, 0, none⟩ = some (.string s) ∧ W1.cell? ⟨bx, 1, none⟩ = some (.string t) ∧ W1.frozen? ⟨b, 0, none⟩ = false := fun W W1 ⟨a, b', c, d⟩ hg =>
    ⟨hg.cell a (fun e => hob e.symm), hg.cell b' (fun e => hox e.symm), hg.cell c (fun e => hox e.symm), by rw [World.frozen?_of_block (hg.block b (World.block_lt_of_cell? W _ a) (fun e => hob e.symm))]; exact d⟩
  have hS00 := kOf w0 w00 hS (grown_of_below hb00 _)
  have hR00 := HR0.out.row.keep hb00
  have hnews : ∀ j u, [Value.string s, .string t][j]? = some u → w00.cell? ((⟨w0.heap.size, 0, none⟩ : Addr).add j) = some u := by
    intro j u hj
    have hA : Ar w00 w0.heap.size 54 #[.string s, .string t] := by rw [hw00]; exact heap_alloc_last w0 _
    rw [Addr.add_mid, Nat.zero_add]
    exact hA.cell j u (by simpa using hj)
  have hsz00 : B ≤ w00.heap.size := Nat.le_trans hB (Nat.le_trans HB0.out.size hb00.size)
  have HB00 := hid' hb00
  have HW00 := hid' hw00
  rw [hw00] at hR00 hnews hsz00 hS00
  clear hb00 hw00
  have HR00 := hid' hR00
  have HNW := hid' hnews
  have HSZ := hid' hsz00
  clear hR00 hnews hsz00
  go_region_law (refine step_append_sl _ (by rfl) _ _ 27 (by rfl) B 54 i0 (.agg #[.string ⟨#[]⟩, .string ⟨#[]⟩]) 2 32 Tryz.underlying27 HI.out HZ0.out HZ1.out HZ2.out (by rfl) (by decide) (.slice ao n cap) n xs (by rfl) HR00.out ⟨w0.heap.size, 0, none⟩ 1 1 [.string s, .string t] (by rfl) (by rfl) HNW.out (by simp [Value.oneCell']) (by decide) (by unfold maxLen; omega) (by omega) HSZ.out ?_; intro g q cap2 w1 hrow hgrow hat; obtain ⟨k0, _, _, k3⟩ := kOf _ _ hS00 hgrow)
  all_goals
    have ho1 : Ar w1 b T (Value.slice ao n cap :: tl).toArray := by
      have := HR0.out.obj.keep HB00.out
      rw [HW00.out] at this
      unfold Ar at this ⊢
      rw [hgrow.block b (by have := HZ.out; have := HBX.out; simp; omega) (fun e => hob e.symm)]
      exact this
    have hne : (Value.slice (some ⟨g, q, none⟩) (n + 1) cap2).ownBlock ≠ some b := hrow.ne ho1 hT
    go_wp2
    go_end0
    refine ⟨rfl, .slice (some ⟨g, q, none⟩) (n + 1) cap2, RG.put H.out.ge ho1 hrow hne, fun k hk => ?_, ?_⟩
    · simp only [Value.ownBlock, Option.some.injEq] at hk
      subst hk
      exact hat.imp id (fun h => by simp at h; have := HZ.out; omega)
    · refine Two.and (Two.and (Two.and (Two.of_below HB0.out) (Two.of_below HB00.out)) ?_) (Two.of_set _ _ _ _ _)
      rw [HW00.out]
      exact Two.of_grown hgrow

theorem popF_none (B b : Nat) (T : TypeId) (v : Value) (tl : List Value) (w : World) (h : RG w B b T 54 2 v tl 0 []) :
    Calls Tryz.prog 73 #[.pointer (some ⟨b, 0, none⟩)] w fun e w' => e = .returned (.tuple #[.agg #[.string ⟨#[]⟩, .string ⟨#[]⟩], .bool false]) ∧ Below w.heap.size w w' := by
  have hb0 : Below w.heap.size w ((w.alloc (.cells #[.string ⟨#[]⟩, .string ⟨#[]⟩] 54)).alloc (.cells #[.string ⟨#[]⟩, .string ⟨#[]⟩] 54)) := ((Below.refl _ _).alloc (Nat.le_refl _) _).alloc (by simp) _
  have H := hid' (h.keep hb0)
  clear h
  go_enter Tryz.func73, Tryz.ntmps73
  go_wp2_with fail
  refine (lenF B b T v tl 0 [] _ H.out).mono ?_
  rintro e w1 ⟨rfl, rfl⟩
  go_wp2
  have e0 : ((w.alloc (.cells #[.string ⟨#[]⟩, .string ⟨#[]⟩] 54)).alloc (.cells #[.string ⟨#[]⟩, .string ⟨#[]⟩] 54)).cell? ⟨w.heap.size, 0, none⟩ = some (.string ⟨#[]⟩) := Ar.cell (Ar.keep (heap_alloc_last w _) ((Below.refl _ _).alloc (Nat.le_refl _) _)) 0 _ rfl
  have e1 : ((w.alloc (.cells #[.string ⟨#[]⟩, .string ⟨#[]⟩] 54)).alloc (.cells #[.string ⟨#[]⟩, .string ⟨#[]⟩] 54)).cell? ⟨w.heap.size, 1, none⟩ = some (.string ⟨#[]⟩) := Ar.cell (Ar.keep (heap_alloc_last w _) ((Below.refl _ _).alloc (Nat.le_refl _) _)) 1 _ rfl
  exact bodyPost_ret (v := .tuple #[.agg #[.string ⟨#[]⟩, .string ⟨#[]⟩], .bool false]) (by simp [results, Tryz.results73, go_sem]) rfl ⟨rfl, hb0⟩

set_option maxHeartbeats 2000000 in
theorem popF_some (B b : Nat) (T : TypeId) (v : Value) (tl : List Value) (n : Nat) (s t : ByteArray) (r : List Value) (w : World) (h : RG w B b T 54 2 v tl (n + 1) (.string s :: .string t :: r)) :
    Calls Tryz.prog 73 #[.pointer (some ⟨b, 0, none⟩)] w fun e w' => e = .returned (.tuple #[.agg #[.string s, .string t], .bool true]) ∧ ∃ v', RG w' B b T 54 2 v' tl n r ∧ (∀ k, v'.ownBlock = some k → v.ownBlock = some k) ∧ Two b v.ownBlock w w' := by
  obtain ⟨g, q, cap, rfl, hcap, hmx, hge, hgl⟩ := h.row.form (Nat.succ_pos n)
  have hb0 : Below w.heap.size w ((w.alloc (.cells #[.string ⟨#[]⟩, .string ⟨#[]⟩] 54)).alloc (.cells #[.string ⟨#[]⟩, .string ⟨#[]⟩] 54)) := ((Below.refl _ _).alloc (Nat.le_refl _) _).alloc (by simp) _
  have H0 := h.keep hb0
  have hgb : g ≠ b := fun e => h.ne (by simp [Value.ownBlock, e])
  have hbw := h.obj.lt
  have hA : Ar ((w.alloc (.cells #[.string ⟨#[]⟩, .string ⟨#[]⟩] 54)).alloc (.cells #[.string ⟨#[]⟩, .string ⟨#[]⟩] 54)) w.heap.size 54 #[.string ⟨#[]⟩, .string ⟨#[]⟩] := Ar.keep (heap_alloc_last w _) ((Below.refl _ _).alloc (Nat.le_refl _) _)
  have hZ : Ar ((w.alloc (.cells #[.string ⟨#[]⟩, .string ⟨#[]⟩] 54)).alloc (.cells #[.string ⟨#[]⟩, .string ⟨#[]⟩] 54)) (w.heap.size + 1) 54 #[.string ⟨#[]⟩, .string ⟨#[]⟩] := by have := heap_alloc_last (w.alloc (.cells #[.string ⟨#[]⟩, .string ⟨#[]⟩] 54)) (.cells #[.string ⟨#[]⟩, .string ⟨#[]⟩] 54); simpa [Ar] using this
  have hz : ((w.alloc (.cells #[.string ⟨#[]⟩, .string ⟨#[]⟩] 54)).alloc (.cells #[.string ⟨#[]⟩, .string ⟨#[]⟩] 54)).heap.size = w.heap.size + 2 := by simp
  have HL := (lenF B b T _ tl (n + 1) _ _ H0)
  have HLEN := hid' HL
  have hl0 : ((n : Int) + 1 == 0) = false := beq_false_of_ne (by omega)
  have HGE := hid' h.ge
  clear h HL
  go_enter Tryz.func73, Tryz.ntmps73
  go_wp2_with fail
  refine HLEN.out.mono ?_
  rintro e w1 ⟨rfl, hw1⟩
  clear HLEN
  rw [← hw1] at hb0 H0 hA hZ hz
  clear hw1
  obtain ⟨rb, hrb⟩ : ∃ rb, w.heap.size = rb := ⟨_, rfl⟩
  obtain ⟨zb, hzb⟩ : ∃ zb, w.heap.size + 1 = zb := ⟨_, rfl⟩
  have HB0 := hid' hb0
  rw [hzb] at hZ ⊢
  rw [hrb] at hA hbw hgl ⊢
  have hbr : b ≠ rb := by omega
  have hgr : g ≠ rb := by omega
  have hbz : b ≠ zb := by omega
  have hgz : g ≠ zb := by omega
  have hrz : rb ≠ zb := by omega
  have c0 := H0.obj.cell 0 _ rfl
  have x0 : w1.cell? ⟨g, q, none⟩ = some (.string s) := H0.row.cellAt 0 (by omega)
  have x1 : w1.cell? ⟨g, q + 1, none⟩ = some (.string t) := H0.row.cellAt 1 (by omega)
  have hb1 : Below w1.heap.size w1 (w1.alloc (.cells #[.string s, .string t] 54)) := (Below.refl _ _).alloc (Nat.le_refl _) _
  have H1 := H0.keep hb1
  have hA1 := hA.keep hb1
  have hZ1 := hZ.keep hb1
  have hY1 : Ar (w1.alloc (.cells #[.string s, .string t] 54)) w1.heap.size 54 #[.string s, .string t] := heap_alloc_last w1 _
  have h1 := hid' H1
  have a1 := hid' hA1
  have z1 := hid' hZ1
  have y1 := hid' hY1
  have HZ := hid' hz
  have HB1 := hid' (below_two HB0.out hb1)
  clear H0 hA hZ H1 hA1 hZ1 hY1 hb0 hb1 hz
  go_wp2
  clear c0 x0 x1
  obtain ⟨yb, hyb⟩ : ∃ yb, w1.heap.size = yb := ⟨_, rfl⟩
  rw [hyb] at y1 ⊢
  generalize (w1.alloc (.cells #[.string s, .string t] 54)) = w2 at *
  have c0 := h1.out.obj.cell 0 _ rfl
  have x0 : w2.cell? ⟨g, q, none⟩ = some (.string s) := h1.out.row.cellAt 0 (by omega)
  have x1 : w2.cell? ⟨g, q + 1, none⟩ = some (.string t) := h1.out.row.cellAt 1 (by omega)
  have y0 : w2.frozen? ⟨g, q, none⟩ = false := h1.out.row.freeAt q
  have y2 : w2.frozen? ⟨g, q + 1, none⟩ = false := h1.out.row.freeAt (q + 1)
  have u0 := z1.out.cell 0 _ rfl
  have u1 := z1.out.cell 1 _ rfl
  have hS := (h1.out.row.setAt 0 (.string ⟨#[]⟩)).setAt 1 (.string ⟨#[]⟩)
  simp only [List.set_cons_zero, List.set_cons_succ, Nat.add_zero] at hS
  have HS := hid' hS
  have HO := hid' ((h1.out.obj.other hgb q (.string ⟨#[]⟩)).other hgb (q + 1) (.string ⟨#[]⟩))
  have HA := hid' ((a1.out.other hgr q (.string ⟨#[]⟩)).other hgr (q + 1) (.string ⟨#[]⟩))
  have hgy : g ≠ yb := by have := HZ.out; omega
  have hyr : rb ≠ yb := by have := HZ.out; omega
  have hby : b ≠ yb := by have := HZ.out; omega
  have HY := hid' ((y1.out.other hgy q (.string ⟨#[]⟩)).other hgy (q + 1) (.string ⟨#[]⟩))
  have HT : Hid (Two b (some g) w ((w2.setCell ⟨g, q, none⟩ (.string ⟨#[]⟩)).setCell ⟨g, q + 1, none⟩ (.string ⟨#[]⟩)).drew) := hid' (((Two.and (Two.of_below HB1.out) (Two.of_set_row b g q _ w2)).and (Two.of_set_row b g (q + 1) _ _)).drew)
  have HS' := hid' HS.out.drew
  have HO' := hid' HO.out.drew
  have HA' := hid' HA.out.drew
  have HY' := hid' HY.out.drew
  clear hS HS HO HA HY
  go_region
  clear c0 x0 x1 y0 y2 u0 u1 h1 a1 z1 y1
  have HTl : ∀ (w4 : World) (v' : Value), Two b (some g) w w4 → Two b (some g) w ((w4.setCell ⟨rb, 0, none⟩ (.string s)).setCell ⟨rb, 1, none⟩ (.string t)) := fun w4 _ h =>
    h.trans (b := b) (row' := some rb) ((Two.of_set_row b rb 0 _ w4).and (Two.of_set_row b rb 1 _ _)) (fun k hk => .inr (by simp at hk; omega))
  generalize ((w2.setCell ⟨g, q, none⟩ (.string ⟨#[]⟩)).setCell ⟨g, q + 1, none⟩ (.string ⟨#[]⟩)).drew = w3 at *
  have HTL := hid' HTl
  clear HTl
  have c3 := HO'.out.cell 0 _ rfl
  have f3 := HO'.out.free 0
  have s0 := HY'.out.cell 0 _ rfl
  have s1 := HY'.out.cell 1 _ rfl
  have r0 := HA'.out.cell 0 _ rfl
  have r1 := HA'.out.cell 1 _ rfl
  have q0 := HA'.out.free 0
  have q1 := HA'.out.free 1
  have HFIN : Hid (∀ (w4 : World) (v' : Value) (n' : Nat) (r' : List Value), RG w4 B b T 54 2 v' tl n' r' → v'.ownBlock ≠ some rb → RG ((w4.setCell ⟨rb, 0, none⟩ (.string s)).setCell ⟨rb, 1, none⟩ (.string t)) B b T 54 2 v' tl n' r') := hid' fun w4 v' n' r' h h' => (h.other 0 _ (fun e => hbr e.symm) h').other 1 _ (fun e => hbr e.symm) h'
  have HRES : Hid (∀ w4 : World, Ar w4 rb 54 #[.string ⟨#[]⟩, .string ⟨#[]⟩] → ((w4.setCell ⟨rb, 0, none⟩ (.string s)).setCell ⟨rb, 1, none⟩ (.string t)).cell? ⟨rb, 0, none⟩ = some (.string s) ∧ ((w4.setCell ⟨rb, 0, none⟩ (.string s)).setCell ⟨rb, 1, none⟩ (.string t)).cell? ⟨rb, 1, none⟩ = some (.string t)) := hid' fun w4 h => ⟨((h.set 0 _).set 1 _).cell 0 _ rfl, ((h.set 0 _).set 1 _).cell 1 _ rfl⟩
  by_cases hn : n = 0
  · subst hn
    obtain rfl : r = [] := List.eq_nil_of_length_eq_zero (by have := HS'.out.1; simpa using this)
    by_cases hc1 : cap = 1
    · subst hc1
      go_wp2
      obtain ⟨e0, e1⟩ := HRES.out ((w3.setCell ⟨b, 0, none⟩ (.slice (some ⟨g, q, none⟩) 0 0)).setCell ⟨b, 0, none⟩ (.slice none 0 0)) ((HA'.out.other hbr 0 _).other hbr 0 _)
      clear c3 f3 s0 s1 r0 r1 q0 q1
      refine bodyPost_ret (v := .tuple #[.agg #[.string s, .string t], .bool true]) (by simp [results, Tryz.results73, go_sem, e0, e1]) rfl ⟨rfl, .slice none 0 0, HFIN.out _ _ _ _ ?_ (by simp [Value.ownBlock]), fun k hk => by simp [Value.ownBlock] at hk, HTL.out _ (.slice none 0 0) ((HT.out.and (Two.of_set _ _ _ _ _)).and (Two.of_set _ _ _ _ _))⟩
      exact RG.put HGE.out (by have := HO'.out.set 0 (.slice (some ⟨g, q, none⟩) 0 0); simpa using this) (sl_nil _ _ _ _) (by simp [Value.ownBlock])
    · go_wp2
      obtain ⟨e0, e1⟩ := HRES.out ((w3.setCell ⟨b, 0, none⟩ (.slice (some ⟨g, q + 2, none⟩) 0 (cap - 1))).setCell ⟨b, 0, none⟩ (.slice none 0 0)) ((HA'.out.other hbr 0 _).other hbr 0 _)
      clear c3 f3 s0 s1 r0 r1 q0 q1
      refine bodyPost_ret (v := .tuple #[.agg #[.string s, .string t], .bool true]) (by simp [results, Tryz.results73, go_sem, e0, e1]) rfl ⟨rfl, .slice none 0 0, HFIN.out _ _ _ _ ?_ (by simp [Value.ownBlock]), fun k hk => by simp [Value.ownBlock] at hk, HTL.out _ (.slice none 0 0) ((HT.out.and (Two.of_set _ _ _ _ _)).and (Two.of_set _ _ _ _ _))⟩
      exact RG.put HGE.out (by have := HO'.out.set 0 (.slice (some ⟨g, q + 2, none⟩) 0 (cap - 1)); simpa using this) (sl_nil _ _ _ _) (by simp [Value.ownBlock])
  · have hc1 : cap ≠ 1 := by omega
    have hn0 : ((n : Int) == 0) = false := beq_false_of_ne (by omega)
    have hn1 : (n == 0) = false := beq_false_of_ne (by omega)
    go_wp2
    obtain ⟨e0, e1⟩ := HRES.out (w3.setCell ⟨b, 0, none⟩ (.slice (some ⟨g, q + 2, none⟩) n (cap - 1))) (HA'.out.other hbr 0 _)
    clear c3 f3 s0 s1 r0 r1 q0 q1
    refine bodyPost_ret (v := .tuple #[.agg #[.string s, .string t], .bool true]) (by simp [results, Tryz.results73, go_sem, e0, e1]) rfl ⟨rfl, .slice (some ⟨g, q + 2, none⟩) n (cap - 1), HFIN.out _ _ _ _ ?_ (by simpa [Value.ownBlock] using hgr), fun k hk => by simpa [Value.ownBlock] using hk, HTL.out _ (.slice none 0 0) (HT.out.and (Two.of_set _ _ _ _ _))⟩
    exact RG.put HGE.out HO'.out (HS'.out.tail hc1) (by simpa [Value.ownBlock] using hgb)

set_option maxHeartbeats 1000000 in
theorem atF_no (B b : Nat) (T : TypeId) (v : Value) (tl : List Value) (n : Nat) (xs : List Value) (i : Int) (w : World) (h : RG w B b T 54 2 v tl n xs) (hi : i < 0 ∨ (n : Int) ≤ i) :
    Calls Tryz.prog 90 #[.pointer (some ⟨b, 0, none⟩), .int .i64 i] w fun e w' => e = .returned (.tuple #[.agg #[.string ⟨#[]⟩, .string ⟨#[]⟩], .bool false]) ∧ Below w.heap.size w w' := by
  have hb1 : Below w.heap.size w (w.alloc (.cells #[.string ⟨#[]⟩, .string ⟨#[]⟩] 54)) := (Below.refl _ _).alloc (Nat.le_refl _) _
  have hb0 : Below w.heap.size w ((w.alloc (.cells #[.string ⟨#[]⟩, .string ⟨#[]⟩] 54)).alloc (.cells #[.string ⟨#[]⟩, .string ⟨#[]⟩] 54)) := ((Below.refl _ _).alloc (Nat.le_refl _) _).alloc (by simp) _
  have H := hid' (h.keep hb1)
  have HB0 := hid' hb0
  have HE : Hid (((w.alloc (.cells #[.string ⟨#[]⟩, .string ⟨#[]⟩] 54)).alloc (.cells #[.string ⟨#[]⟩, .string ⟨#[]⟩] 54)).cell? ⟨w.heap.size, 0, none⟩ = some (.string ⟨#[]⟩) ∧ ((w.alloc (.cells #[.string ⟨#[]⟩, .string ⟨#[]⟩] 54)).alloc (.cells #[.string ⟨#[]⟩, .string ⟨#[]⟩] 54)).cell? ⟨w.heap.size, 1, none⟩ = some (.string ⟨#[]⟩)) := hid' ⟨Ar.cell (Ar.keep (heap_alloc_last w _) ((Below.refl _ _).alloc (Nat.le_refl _) _)) 0 _ rfl, Ar.cell (Ar.keep (heap_alloc_last w _) ((Below.refl _ _).alloc (Nat.le_refl _) _)) 1 _ rfl⟩
  clear h hb0 hb1
  by_cases h0 : i < 0
  · have hd : decide (i < 0) = true := decide_eq_true h0
    clear hi h0
    go_enter Tryz.func90, Tryz.ntmps90
    go_wp2
    obtain ⟨e0, e1⟩ := HE.out
    exact bodyPost_ret (v := .tuple #[.agg #[.string ⟨#[]⟩, .string ⟨#[]⟩], .bool false]) (by simp [results, Tryz.results90, go_sem, e0, e1]) rfl ⟨rfl, HB0.out⟩
  · have hd : decide (i < 0) = false := decide_eq_false h0
    have hd2 : decide ((n : Int) ≤ i) = true := decide_eq_true (by omega)
    clear hi h0
    go_enter Tryz.func90, Tryz.ntmps90
    go_wp2_with fail
    refine (lenF B b T v tl n xs _ H.out).mono ?_
    rintro e w1 ⟨rfl, rfl⟩
    go_wp2
    obtain ⟨e0, e1⟩ := HE.out
    exact bodyPost_ret (v := .tuple #[.agg #[.string ⟨#[]⟩, .string ⟨#[]⟩], .bool false]) (by simp [results, Tryz.results90, go_sem, e0, e1]) rfl ⟨rfl, HB0.out⟩

set_option maxHeartbeats 1000000 in
theorem atF_yes (B b : Nat) (T : TypeId) (v : Value) (tl : List Value) (n : Nat) (xs : List Value) (i : Nat) (s t : ByteArray) (w : World) (h : RG w B b T 54 2 v tl n xs) (hi : i < n) (hn : n ≤ 140737488355328) (hx0 : xs[(n - 1 - i) * 2]? = some (.string s)) (hx1 : xs[(n - 1 - i) * 2 + 1]? = some (.string t)) :
    Calls Tryz.prog 90 #[.pointer (some ⟨b, 0, none⟩), .int .i64 (i : Int)] w fun e w' => e = .returned (.tuple #[.agg #[.string s, .string t], .bool true]) ∧ Below w.heap.size w w' := by
  have hb1 : Below w.heap.size w (w.alloc (.cells #[.string ⟨#[]⟩, .string ⟨#[]⟩] 54)) := (Below.refl _ _).alloc (Nat.le_refl _) _
  have H1 := h.keep hb1
  obtain ⟨g, q, cap, rfl, hcap, hmx, hge, hgl⟩ := h.row.form (by omega)
  obtain ⟨j, hj⟩ : ∃ j, n - 1 - i = j := ⟨_, rfl⟩
  rw [hj] at hx0 hx1
  have hA : Ar (w.alloc (.cells #[.string ⟨#[]⟩, .string ⟨#[]⟩] 54)) w.heap.size 54 #[.string ⟨#[]⟩, .string ⟨#[]⟩] := heap_alloc_last w _
  have hjI : (n : Int) - 1 - (i : Int) = (j : Int) := by omega
  have hjn : j < n := by omega
  have hd : decide ((i : Int) < 0) = false := decide_eq_false (by omega)
  have hd2 : decide ((n : Int) ≤ (i : Int)) = false := decide_eq_false (by omega)
  have hd3 : decide (n ≤ i) = false := decide_eq_false (by omega)
  have HLEN := hid' (lenF B b T _ tl n xs _ H1)
  clear h hj
  go_enter Tryz.func90, Tryz.ntmps90
  go_wp2_with fail
  refine HLEN.out.mono ?_
  rintro e w1 ⟨rfl, hw1⟩
  clear HLEN
  rw [← hw1] at hb1 H1 hA
  clear hw1
  obtain ⟨rb, hrb⟩ : ∃ rb, w.heap.size = rb := ⟨_, rfl⟩
  have HB1 := hid' hb1
  rw [hrb] at hA ⊢
  have c0 := H1.obj.cell 0 _ rfl
  have x0 : w1.cell? ⟨g, q + j * 2, none⟩ = some (.string s) := (H1.row.cellAt (j * 2) (by omega)).trans hx0
  have x1 : w1.cell? ⟨g, q + j * 2 + 1, none⟩ = some (.string t) := (H1.row.cellAt (j * 2 + 1) (by omega)).trans hx1
  have r0 := hA.cell 0 _ rfl
  have r1 := hA.cell 1 _ rfl
  have q0 := hA.free 0
  have q1 := hA.free 1
  have HA := hid' hA
  clear H1 hb1 hA
  go_wp2
  go_region
  go_wp2
  have hA2 := (HA.out.set 0 (.string s)).set 1 (.string t)
  have e0 := hA2.cell 0 (.string s) rfl
  have e1 := hA2.cell 1 (.string t) rfl
  clear c0 x0 x1 r0 r1 q0 q1 HA hA2
  refine bodyPost_ret (v := .tuple #[.agg #[.string s, .string t], .bool true]) (by simp [results, Tryz.results90, go_sem, e0, e1]) rfl ⟨rfl, ?_⟩
  exact ((HB1.out.setCell (p := ⟨rb, 0, none⟩) (Nat.le_of_eq hrb) _).setCell (p := ⟨rb, 1, none⟩) (Nat.le_of_eq hrb) _).drew

end Go.Proofs.YtmkkhfkfjmfdcaaGreat
