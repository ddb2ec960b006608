/-
  What the row stands on.
-/
import Derived.Test.YtcfbobegbmcbeaaGreatDoorPkAM
namespace Go.Proofs.YtcfbobegbmcbeaaGreatDoor
set_option maxHeartbeats 64000000
open Go.RowKit

theorem four_new (w : World) (t : TypeId) (x y z u : Value) : ∀ j v, ([x, y, z, u] : List Value)[j]? = some v → (w.alloc (.cells #[x, y, z, u] t)).cell? ((⟨w.heap.size, 0, none⟩ : Addr).add j) = some v := by
 intro j v hj
 match j, hj with
 | 0, hj => simp at hj; subst hj; simp [Addr.add]
 | 1, hj => simp at hj; subst hj; simp [Addr.add]
 | 2, hj => simp at hj; subst hj; simp [Addr.add]
 | 3, hj => simp at hj; subst hj; simp [Addr.add]
theorem RD.put {w w1 w' : World} {B b : Nat} {v v' : Value} {q q' : Int} {es es' : List Dk.En} (h : RD w B b v q es) (h1 : LF (· = b) w w1) (ha : Ar w1 b 35 #[v, .int .i64 q']) (hb : Below w1.heap.size w1 w') (hr : w'.ownsRow w.heap.size 70 4 v' es'.length (enC es')) (h3 : Dk.Ok es') (h4 : es'.length ≤ 1024) :
  RD (w'.setCell ⟨b, 0, none⟩ v') B b v' q' es' ∧ LF (DS13 b v) w (w'.setCell ⟨b, 0, none⟩ v') ∧ ∀ k, v'.ownBlock = some k → v.ownBlock = some k ∨ w.heap.size ≤ k := by
 refine ⟨⟨h.ge, by have := (ha.keep hb).set 0 v'; simpa using this, ?_, h3, h4⟩, ?_, fun k hk => .inr (own_ty hr k hk).1⟩
 ·refine own_same (down_le hr h.lb) (fun k hk => (upd_setCell w' b 0 v').block k (fun e => ?_))
  have := (own_ty hr k hk).1
  have := h.obj.lt
  omega
 ·have l1 : LF (DS13 b v) w w1 := ⟨h1.os, h1.tape, h1.output, h1.size, fun k hk hs => h1.block k hk (fun e => hs (.inl e))⟩
  exact (l1.trans (LF.of_below (S := DS13 b v) hb) (fun _ _ h => h)).trans (LF.of_upd (b := b) (upd_setCell w' b 0 v') (.inl rfl)) (fun _ _ h => h)
theorem RD.nil {w : World} {B b : Nat} {v : Value} {q : Int} {es : List Dk.En} (h : RD w B b v q es) (hv : v = .slice none 0 0) : es = [] := by
 have := h.row
 rcases this.2 with ⟨_, h0⟩ | ⟨g, cap, cur, h1, _⟩
 ·exact List.eq_nil_of_length_eq_zero h0
 ·rw [hv] at h1; cases h1

set_option maxRecDepth 20000 in
theorem dput_new (B b g cap : Nat) (q : Int) (es : List Dk.En) (x y : ByteArray) (t : Int) (w : World) (h : RD w B b (.slice (some ⟨g, 0, none⟩) es.length cap) q es) (hx : x.size ≤ 9223372036854775807) (hp : Dk.path x.data.toList = true) (hy : y.size ≤ 65536) (ht : 0 ≤ t ∧ t ≤ 253402300799) (hh : Dk.has x.data.toList es = false) (hmm : es.length < 1024) (hnc : es.length ≤ cap) (hcm : cap ≤ maxLen) (hq0 : 0 ≤ q) (hq : q ≤ 9223372036854775806) :
  Calls Tryz.prog 21 #[.pointer (some ⟨b, 0, none⟩), .string x, .string y, .int .i64 t] w fun e w' => e = .returned (.int .i64 0) ∧ ∃ v', RD w' B b v' (q + 1) (Dk.put ⟨x, y, t, q + 1⟩ es) ∧ LF (DS13 b (.slice (some ⟨g, 0, none⟩) es.length cap)) w w' ∧ ∀ k, v'.ownBlock = some k → (Value.slice (some ⟨g, 0, none⟩) es.length cap).ownBlock = some k ∨ w.heap.size ≤ k := by
 obtain ⟨i0, hi0, hz0, hz1, hz2⟩ := dinfo_parts dinfoE
 have HI := hid' hi0
 have HZ0 := hid' hz0
 have HZ1 := hid' hz1
 have HZ2 := hid' hz2
 clear hi0 hz0 hz1 hz2
 obtain ⟨i, hi⟩ : ∃ i, Dk.at' x.data.toList es = i := ⟨_, rfl⟩
 obtain ⟨j, hj⟩ : ∃ j, j = i := ⟨_, rfl⟩
 have HP := hid' (rpath x true hp w hx)
 have HA := hid' (dat B b _ q es x i false hi hh w h)
 have hil : i ≤ es.length := by rw [← hi]; exact Dk.at_le _ _
 have hjl : j ≤ es.length := by
  omega
 have H := hid' h
 have HOK := hid' (Dk.put_ok es ⟨x, y, t, q + 1⟩ h.ok)
 have HPE : Hid (Dk.put ⟨x, y, t, q + 1⟩ es = es.take i ++ ⟨x, y, t, q + 1⟩ :: es.drop j) := hid' (by
  unfold Dk.put
  have hk : Dk.key ⟨x, y, t, q + 1⟩ = x.data.toList := rfl
  rw [hk, hi, hh, hj]
  simp)
 have HTA : Hid (enC (Dk.put ⟨x, y, t, q + 1⟩ es) = enC (es.take i) ++ [.string x, .string y, .int .i64 t, .int .i64 (q + 1)] ++ enC (es.drop j)) := hid' (by rw [HPE.out, enC_append, enC_cons]; simp [enV])
 obtain ⟨n, hn2⟩ : ∃ n, es.length = n := ⟨_, rfl⟩
 have HN := hid' hn2
 have HLE : Hid ((Dk.put ⟨x, y, t, q + 1⟩ es).length = i + 1 + (n - j)) := hid' (by rw [HPE.out]; simp [hn2]; omega)
 have HLM : Hid (i + 1 + (n - j) ≤ 1024) := hid' (by have := h.le; omega)
 have HL1 : Hid ((enC (es.take i)).length = i * 4) := hid' (by rw [enC_length, List.length_take]; omega)
 have HL2 : Hid ((enC (es.drop j)).length = (n - j) * 4) := hid' (by rw [enC_length, List.length_drop, hn2])
 have HSRC : Hid (∀ W, LF (· = b) w W → ∀ s u, (enC (es.drop j))[s]? = some u → W.cell? ⟨g, j * 4 + s, none⟩ = some u) := hid' (fun W hW s u hu => by
  rw [World.cell?_of_block (a := ⟨g, j * 4 + s, none⟩) (hW.block g (own_lt h.row g rfl) (own_apart h.row h.obj (by decide) g rfl))]
  rw [en_drop, List.getElem?_drop] at hu
  exact down_cell h.row _ _ hu)
 have HSR1 : Hid (∀ W, LF (· = b) w W → ∀ s u, (enC (es.take i))[s]? = some u → W.cell? ((⟨g, 0, none⟩ : Addr).add s) = some u) := hid' (fun W hW s u hu => by
  rw [Addr.add_lit, Nat.zero_add, World.cell?_of_block (a := ⟨g, s, none⟩) (hW.block g (own_lt h.row g rfl) (own_apart h.row h.obj (by decide) g rfl))]
  rw [en_take, List.getElem?_take] at hu
  split at hu
  ·exact down_cell h.row _ _ hu
  ·cases hu)
 have hy2 : ¬ (65536 : Int) < (y.size : Int) := by omega
 have ht1 : ¬ t < 0 := by omega
 have ht2 : ¬ 253402300799 < t := by omega
 have hle4 := h.le
 rw [hn2] at hil hnc H hle4 hjl hmm ⊢
 have hlt : ¬ (1024 : Int) ≤ (n : Int) := by omega
 have hic : i ≤ cap := by omega
 have hjc : j ≤ cap := by omega
 have hji : i = j := by omega
 have HJ := hid' hj
 have hcap : (cap : Int) ≤ 9223372036854775807 := by unfold maxLen at hcm; omega
 clear h hi hn2 hcm hh hp ht hj hy hmm
 subst hji
 go_enter Tryz.func21, Tryz.ntmps21
 go_wp2_with fail
 refine HP.out.mono ?_
 rintro e w0 ⟨rfl, hw0⟩
 subst w0
 go_wp2_with fail
 refine HA.out.mono ?_
 rintro e w1 ⟨rfl, m, hw1⟩
 have hb1 : Below w.heap.size w w1 := by rw [hw1]; exact ⟨rfl, rfl, rfl, Nat.le_refl _, fun _ _ => rfl⟩
 have HO1 := hid' (H.out.obj.keep hb1)
 have HZ1w : Hid (w1.heap.size = w.heap.size) := hid' (by rw [hw1]; rfl)
 have HL0 : Hid (LF (· = b) w w1) := hid' (LF.of_below hb1)
 have c0 := HO1.out.cell 0 _ rfl
 have c1 := HO1.out.cell 1 _ rfl
 have f1 := HO1.out.free 1
 clear hw1 hb1
 go_upto_region 11 with fail
 have HO2 : Hid (Ar (w1.setCell ⟨b, 1, none⟩ (.int .i64 (q + 1))) b 35 #[.slice (some ⟨g, 0, none⟩) n cap, .int .i64 (q + 1)]) := hid' (by have := HO1.out.set 1 (.int .i64 (q + 1)); simpa using this)
 have HL2' : Hid (LF (· = b) w (w1.setCell ⟨b, 1, none⟩ (.int .i64 (q + 1)))) := hid' (HL0.out.trans (LF.of_upd (S := (· = b)) (b := b) (upd_setCell w1 b 1 _) rfl) (fun _ _ h => h))
 have HZW : Hid ((w1.setCell ⟨b, 1, none⟩ (.int .i64 (q + 1))).heap.size = w.heap.size) := hid' (by rw [(upd_setCell w1 b 1 _).size]; exact HZ1w.out)
 generalize w1.setCell ⟨b, 1, none⟩ (.int .i64 (q + 1)) = w2 at *
 have d0 := HO2.out.cell 0 _ rfl
 have d1 := HO2.out.cell 1 _ rfl
 clear c0 c1 f1 HO1 HL0
 go_upto_region 12 with fail
 obtain ⟨xb, hxb⟩ : ∃ xb, w2.heap.size = xb := ⟨_, rfl⟩
 have HX3 : Hid (Ar (w2.alloc (.cells #[.string x, .string y, .int .i64 t, .int .i64 (q + 1)] 70)) xb 70 #[.string x, .string y, .int .i64 t, .int .i64 (q + 1)]) := hid' (by rw [← hxb]; exact heap_alloc_last w2 _)
 have HB3 : Hid (Below w2.heap.size w2 (w2.alloc (.cells #[.string x, .string y, .int .i64 t, .int .i64 (q + 1)] 70))) := hid' ((Below.refl _ _).alloc (Nat.le_refl _) _)
 have HXB := hid' hxb
 rw [hxb]
 generalize w2.alloc (.cells #[.string x, .string y, .int .i64 t, .int .i64 (q + 1)] 70) = w3 at *
 have d0' := (HO2.out.keep HB3.out).cell 0 _ rfl
 have HL3 : Hid (LF (· = b) w w3) := hid' (HL2'.out.trans (LF.of_below (S := (· = b)) HB3.out) (fun _ _ h => h))
 clear d0 d1 hxb
 obtain ⟨A, hA, HSA⟩ : ∃ A : Addr, (if cap = i then some (⟨g, 0, none⟩ : Addr) else some ⟨g, i * 4, none⟩) = some A ∧ Hid (∀ W, LF (· = b) w W → ∀ s u, (enC (es.drop i))[s]? = some u → W.cell? (A.add s) = some u) := by
  by_cases hc : cap = i
  ·refine ⟨⟨g, 0, none⟩, by simp [hc], hid' (fun W hW s u hu => ?_)⟩
   rw [List.drop_of_length_le (by rw [HN.out]; omega)] at hu
   simp [enC] at hu
  ·refine ⟨⟨g, i * 4, none⟩, by simp [hc], hid' (fun W hW s u hu => ?_)⟩
   rw [Addr.add_lit]
   exact HSRC.out W hW s u hu

 go_wp2_with (at_builtin; refine wpList_append_own_at _ rfl _ _ 22 rfl w.heap.size 70 i0 (.agg #[.string ⟨#[]⟩, .string ⟨#[]⟩, .int .i64 0, .int .i64 0]) 4 48 Tryz.underlying22 HI.out HZ0.out HZ1.out HZ2.out rfl (by decide) (.slice none 0 0) 0 [] rfl (World.ownsRow_nil _ _ _ _) ⟨g, 0, none⟩ i cap (enC (es.take i)) rfl HL1.out (HSR1.out _ HL3.out) (en_one _) (by unfold maxLen; omega) (by omega) HL3.out.size ?_; intro v4 w4 hown4 hgrow4 _ _; refine Hid.out ?_)
 refine hid' ?_
 rw [Nat.zero_add, List.nil_append] at hown4
 obtain ⟨o4, k4, hv4⟩ := down_shape hown4
 subst hv4
 have hg4 : Below w3.heap.size w3 w4 := (Below.refl w3.heap.size w3).grown hgrow4 (Nat.le_refl _) (fun k hk => by simp [Value.ownBlock] at hk)
 have e0 := (HX3.out.keep hg4).cell 0 _ rfl
 have e1 := (HX3.out.keep hg4).cell 1 _ rfl
 have e2 := (HX3.out.keep hg4).cell 2 _ rfl
 have e3 := (HX3.out.keep hg4).cell 3 _ rfl
 have HB4 := hid' (below_two HB3.out hg4)
 have HA4 : Hid ((w4.alloc (.cells #[.string x, .string y, .int .i64 t, .int .i64 (q + 1)] 70)).ownsRow w.heap.size 70 4 (.slice o4 i k4) i (enC (es.take i))) := hid' (hown4.alloc _)
 have HW4 : Hid (w.heap.size ≤ w4.heap.size) := hid' (Nat.le_trans HL3.out.size hg4.size)
 clear hown4 hgrow4 hg4 d0'
 go_wp2_with (at_builtin; refine wpList_append_own_at _ rfl _ _ 22 rfl w.heap.size 70 i0 (.agg #[.string ⟨#[]⟩, .string ⟨#[]⟩, .int .i64 0, .int .i64 0]) 4 48 Tryz.underlying22 HI.out HZ0.out HZ1.out HZ2.out rfl (by decide) (.slice o4 i k4) i (enC (es.take i)) rfl HA4.out ⟨w4.heap.size, 0, none⟩ 1 1 [.string x, .string y, .int .i64 t, .int .i64 (q + 1)] rfl rfl (four_new _ _ _ _ _ _) (by simp [Value.oneCell']) (by unfold maxLen; omega) (by omega) (by simp; have := HW4.out; omega) ?_; intro v5 w5 hown5 hgrow5 _ _; refine Hid.out ?_)
 refine hid' ?_
 obtain ⟨g5, k5, hv5, _, _⟩ := down_form hown5 (by omega)
 subst hv5
 have hb5 : Below w2.heap.size w2 w5 := (HB4.out.alloc HB4.out.size _).grown hgrow5 (by simp; have := HB4.out.size; omega) (fun k hk => by
  have := (HA4.out.lt k hk).1
  rw [HZW.out]; exact this)
 have HO5 := hid' hown5
 have HB5 := hid' hb5
 have HL5 : Hid (LF (· = b) w w5) := hid' (HL2'.out.trans (LF.of_below (S := (· = b)) hb5) (fun _ _ h => h))
 clear hown5 hgrow5 hb5 e0 e1 e2 e3 HB4 HA4
 go_wp2_with (at_builtin; refine wpList_append_own_at _ rfl _ _ 22 rfl w.heap.size 70 i0 (.agg #[.string ⟨#[]⟩, .string ⟨#[]⟩, .int .i64 0, .int .i64 0]) 4 48 Tryz.underlying22 HI.out HZ0.out HZ1.out HZ2.out rfl (by decide) (.slice (some ⟨g5, 0, none⟩) (i + 1) k5) (i + 1) (enC (es.take i) ++ [.string x, .string y, .int .i64 t, .int .i64 (q + 1)]) rfl HO5.out A (n - i) (cap - i) (enC (es.drop i)) rfl HL2.out (HSA.out _ HL5.out) (en_one _) (by unfold maxLen; omega) (by omega) HL5.out.size ?_; intro v6 w6 hown6 hgrow6 _ _; refine Hid.out ?_)
 refine hid' ?_
 obtain ⟨g6, k6, hv6, _, _⟩ := down_form hown6 (by omega)
 subst hv6
 have hb6 : Below w2.heap.size w2 w6 := HB5.out.grown hgrow6 HB5.out.size (fun k hk => by
  have := (HO5.out.lt k hk).1
  rw [HZW.out]; exact this)
 rw [← HTA.out] at hown6
 have HE := hid' (H.out.put (v' := .slice (some ⟨g6, 0, none⟩) (i + 1 + (n - i)) k6) HL2'.out HO2.out hb6 (by rw [HLE.out]; exact hown6) HOK.out (by rw [HLE.out]; exact HLM.out))
 have c6 := (HO2.out.keep hb6).cell 0 _ rfl
 have f6 := (HO2.out.keep hb6).free 0
 clear hown6 hgrow6 hb6 HO5 HB5 HL5
 go_wp2
 go_ret
 exact ⟨rfl, _, HE.out⟩

set_option maxRecDepth 20000 in
theorem dput_yes (B b g cap : Nat) (q : Int) (es : List Dk.En) (x y : ByteArray) (t : Int) (w : World) (h : RD w B b (.slice (some ⟨g, 0, none⟩) es.length cap) q es) (hx : x.size ≤ 9223372036854775807) (hp : Dk.path x.data.toList = true) (hy : y.size ≤ 65536) (ht : 0 ≤ t ∧ t ≤ 253402300799) (hh : Dk.has x.data.toList es = true) (hnc : es.length ≤ cap) (hcm : cap ≤ maxLen) (hq0 : 0 ≤ q) (hq : q ≤ 9223372036854775806) :
  Calls Tryz.prog 21 #[.pointer (some ⟨b, 0, none⟩), .string x, .string y, .int .i64 t] w fun e w' => e = .returned (.int .i64 0) ∧ ∃ v', RD w' B b v' (q + 1) (Dk.put ⟨x, y, t, q + 1⟩ es) ∧ LF (DS13 b (.slice (some ⟨g, 0, none⟩) es.length cap)) w w' ∧ ∀ k, v'.ownBlock = some k → (Value.slice (some ⟨g, 0, none⟩) es.length cap).ownBlock = some k ∨ w.heap.size ≤ k := by
 obtain ⟨i0, hi0, hz0, hz1, hz2⟩ := dinfo_parts dinfoE
 have HI := hid' hi0
 have HZ0 := hid' hz0
 have HZ1 := hid' hz1
 have HZ2 := hid' hz2
 clear hi0 hz0 hz1 hz2
 obtain ⟨i, hi⟩ : ∃ i, Dk.at' x.data.toList es = i := ⟨_, rfl⟩
 obtain ⟨j, hj⟩ : ∃ j, j = i + 1 := ⟨_, rfl⟩
 have HP := hid' (rpath x true hp w hx)
 have HA := hid' (dat B b _ q es x i true hi hh w h)
 have hil : i ≤ es.length := by rw [← hi]; exact Dk.at_le _ _
 have hjl : j ≤ es.length := by
  obtain ⟨e, he, _⟩ := Dk.has_lt _ es h.ok hh; rw [hi] at he; have := (List.getElem?_eq_some_iff.1 he).1; omega
 have H := hid' h
 have HOK := hid' (Dk.put_ok es ⟨x, y, t, q + 1⟩ h.ok)
 have HPE : Hid (Dk.put ⟨x, y, t, q + 1⟩ es = es.take i ++ ⟨x, y, t, q + 1⟩ :: es.drop j) := hid' (by
  unfold Dk.put
  have hk : Dk.key ⟨x, y, t, q + 1⟩ = x.data.toList := rfl
  rw [hk, hi, hh, hj]
  simp)
 have HTA : Hid (enC (Dk.put ⟨x, y, t, q + 1⟩ es) = enC (es.take i) ++ [.string x, .string y, .int .i64 t, .int .i64 (q + 1)] ++ enC (es.drop j)) := hid' (by rw [HPE.out, enC_append, enC_cons]; simp [enV])
 obtain ⟨n, hn2⟩ : ∃ n, es.length = n := ⟨_, rfl⟩
 have HN := hid' hn2
 have HLE : Hid ((Dk.put ⟨x, y, t, q + 1⟩ es).length = i + 1 + (n - j)) := hid' (by rw [HPE.out]; simp [hn2]; omega)
 have HLM : Hid (i + 1 + (n - j) ≤ 1024) := hid' (by have := h.le; omega)
 have HL1 : Hid ((enC (es.take i)).length = i * 4) := hid' (by rw [enC_length, List.length_take]; omega)
 have HL2 : Hid ((enC (es.drop j)).length = (n - j) * 4) := hid' (by rw [enC_length, List.length_drop, hn2])
 have HSRC : Hid (∀ W, LF (· = b) w W → ∀ s u, (enC (es.drop j))[s]? = some u → W.cell? ⟨g, j * 4 + s, none⟩ = some u) := hid' (fun W hW s u hu => by
  rw [World.cell?_of_block (a := ⟨g, j * 4 + s, none⟩) (hW.block g (own_lt h.row g rfl) (own_apart h.row h.obj (by decide) g rfl))]
  rw [en_drop, List.getElem?_drop] at hu
  exact down_cell h.row _ _ hu)
 have HSR1 : Hid (∀ W, LF (· = b) w W → ∀ s u, (enC (es.take i))[s]? = some u → W.cell? ((⟨g, 0, none⟩ : Addr).add s) = some u) := hid' (fun W hW s u hu => by
  rw [Addr.add_lit, Nat.zero_add, World.cell?_of_block (a := ⟨g, s, none⟩) (hW.block g (own_lt h.row g rfl) (own_apart h.row h.obj (by decide) g rfl))]
  rw [en_take, List.getElem?_take] at hu
  split at hu
  ·exact down_cell h.row _ _ hu
  ·cases hu)
 have hy2 : ¬ (65536 : Int) < (y.size : Int) := by omega
 have ht1 : ¬ t < 0 := by omega
 have ht2 : ¬ 253402300799 < t := by omega
 have hle4 := h.le
 rw [hn2] at hil hnc H hle4 hjl ⊢
 skip
 have hic : i ≤ cap := by omega
 have hjc : j ≤ cap := by omega
 have hji : (i : Int) + 1 = (j : Int) := by omega
 have HJ := hid' hj
 have hcap : (cap : Int) ≤ 9223372036854775807 := by unfold maxLen at hcm; omega
 clear h hi hn2 hcm hh hp ht hj hy 
 
 go_enter Tryz.func21, Tryz.ntmps21
 go_wp2_with fail
 refine HP.out.mono ?_
 rintro e w0 ⟨rfl, hw0⟩
 subst w0
 go_wp2_with fail
 refine HA.out.mono ?_
 rintro e w1 ⟨rfl, m, hw1⟩
 have hb1 : Below w.heap.size w w1 := by rw [hw1]; exact ⟨rfl, rfl, rfl, Nat.le_refl _, fun _ _ => rfl⟩
 have HO1 := hid' (H.out.obj.keep hb1)
 have HZ1w : Hid (w1.heap.size = w.heap.size) := hid' (by rw [hw1]; rfl)
 have HL0 : Hid (LF (· = b) w w1) := hid' (LF.of_below hb1)
 have c0 := HO1.out.cell 0 _ rfl
 have c1 := HO1.out.cell 1 _ rfl
 have f1 := HO1.out.free 1
 clear hw1 hb1
 go_upto_region 11 with fail
 have HO2 : Hid (Ar (w1.setCell ⟨b, 1, none⟩ (.int .i64 (q + 1))) b 35 #[.slice (some ⟨g, 0, none⟩) n cap, .int .i64 (q + 1)]) := hid' (by have := HO1.out.set 1 (.int .i64 (q + 1)); simpa using this)
 have HL2' : Hid (LF (· = b) w (w1.setCell ⟨b, 1, none⟩ (.int .i64 (q + 1)))) := hid' (HL0.out.trans (LF.of_upd (S := (· = b)) (b := b) (upd_setCell w1 b 1 _) rfl) (fun _ _ h => h))
 have HZW : Hid ((w1.setCell ⟨b, 1, none⟩ (.int .i64 (q + 1))).heap.size = w.heap.size) := hid' (by rw [(upd_setCell w1 b 1 _).size]; exact HZ1w.out)
 generalize w1.setCell ⟨b, 1, none⟩ (.int .i64 (q + 1)) = w2 at *
 have d0 := HO2.out.cell 0 _ rfl
 have d1 := HO2.out.cell 1 _ rfl
 clear c0 c1 f1 HO1 HL0
 go_upto_region 12 with fail
 obtain ⟨xb, hxb⟩ : ∃ xb, w2.heap.size = xb := ⟨_, rfl⟩
 have HX3 : Hid (Ar (w2.alloc (.cells #[.string x, .string y, .int .i64 t, .int .i64 (q + 1)] 70)) xb 70 #[.string x, .string y, .int .i64 t, .int .i64 (q + 1)]) := hid' (by rw [← hxb]; exact heap_alloc_last w2 _)
 have HB3 : Hid (Below w2.heap.size w2 (w2.alloc (.cells #[.string x, .string y, .int .i64 t, .int .i64 (q + 1)] 70))) := hid' ((Below.refl _ _).alloc (Nat.le_refl _) _)
 have HXB := hid' hxb
 rw [hxb]
 generalize w2.alloc (.cells #[.string x, .string y, .int .i64 t, .int .i64 (q + 1)] 70) = w3 at *
 have d0' := (HO2.out.keep HB3.out).cell 0 _ rfl
 have HL3 : Hid (LF (· = b) w w3) := hid' (HL2'.out.trans (LF.of_below (S := (· = b)) HB3.out) (fun _ _ h => h))
 clear d0 d1 hxb
 obtain ⟨A, hA, HSA⟩ : ∃ A : Addr, (if cap = j then some (⟨g, 0, none⟩ : Addr) else some ⟨g, j * 4, none⟩) = some A ∧ Hid (∀ W, LF (· = b) w W → ∀ s u, (enC (es.drop j))[s]? = some u → W.cell? (A.add s) = some u) := by
  by_cases hc : cap = j
  ·refine ⟨⟨g, 0, none⟩, by simp [hc], hid' (fun W hW s u hu => ?_)⟩
   rw [List.drop_of_length_le (by rw [HN.out]; omega)] at hu
   simp [enC] at hu
  ·refine ⟨⟨g, j * 4, none⟩, by simp [hc], hid' (fun W hW s u hu => ?_)⟩
   rw [Addr.add_lit]
   exact HSRC.out W hW s u hu
 have hci : ¬ cap = i := by omega
 go_wp2_with (at_builtin; refine wpList_append_own_at _ rfl _ _ 22 rfl w.heap.size 70 i0 (.agg #[.string ⟨#[]⟩, .string ⟨#[]⟩, .int .i64 0, .int .i64 0]) 4 48 Tryz.underlying22 HI.out HZ0.out HZ1.out HZ2.out rfl (by decide) (.slice none 0 0) 0 [] rfl (World.ownsRow_nil _ _ _ _) ⟨g, 0, none⟩ i cap (enC (es.take i)) rfl HL1.out (HSR1.out _ HL3.out) (en_one _) (by unfold maxLen; omega) (by omega) HL3.out.size ?_; intro v4 w4 hown4 hgrow4 _ _; refine Hid.out ?_)
 refine hid' ?_
 rw [Nat.zero_add, List.nil_append] at hown4
 obtain ⟨o4, k4, hv4⟩ := down_shape hown4
 subst hv4
 have hg4 : Below w3.heap.size w3 w4 := (Below.refl w3.heap.size w3).grown hgrow4 (Nat.le_refl _) (fun k hk => by simp [Value.ownBlock] at hk)
 have e0 := (HX3.out.keep hg4).cell 0 _ rfl
 have e1 := (HX3.out.keep hg4).cell 1 _ rfl
 have e2 := (HX3.out.keep hg4).cell 2 _ rfl
 have e3 := (HX3.out.keep hg4).cell 3 _ rfl
 have HB4 := hid' (below_two HB3.out hg4)
 have HA4 : Hid ((w4.alloc (.cells #[.string x, .string y, .int .i64 t, .int .i64 (q + 1)] 70)).ownsRow w.heap.size 70 4 (.slice o4 i k4) i (enC (es.take i))) := hid' (hown4.alloc _)
 have HW4 : Hid (w.heap.size ≤ w4.heap.size) := hid' (Nat.le_trans HL3.out.size hg4.size)
 clear hown4 hgrow4 hg4 d0'
 go_wp2_with (at_builtin; refine wpList_append_own_at _ rfl _ _ 22 rfl w.heap.size 70 i0 (.agg #[.string ⟨#[]⟩, .string ⟨#[]⟩, .int .i64 0, .int .i64 0]) 4 48 Tryz.underlying22 HI.out HZ0.out HZ1.out HZ2.out rfl (by decide) (.slice o4 i k4) i (enC (es.take i)) rfl HA4.out ⟨w4.heap.size, 0, none⟩ 1 1 [.string x, .string y, .int .i64 t, .int .i64 (q + 1)] rfl rfl (four_new _ _ _ _ _ _) (by simp [Value.oneCell']) (by unfold maxLen; omega) (by omega) (by simp; have := HW4.out; omega) ?_; intro v5 w5 hown5 hgrow5 _ _; refine Hid.out ?_)
 refine hid' ?_
 obtain ⟨g5, k5, hv5, _, _⟩ := down_form hown5 (by omega)
 subst hv5
 have hb5 : Below w2.heap.size w2 w5 := (HB4.out.alloc HB4.out.size _).grown hgrow5 (by simp; have := HB4.out.size; omega) (fun k hk => by
  have := (HA4.out.lt k hk).1
  rw [HZW.out]; exact this)
 have HO5 := hid' hown5
 have HB5 := hid' hb5
 have HL5 : Hid (LF (· = b) w w5) := hid' (HL2'.out.trans (LF.of_below (S := (· = b)) hb5) (fun _ _ h => h))
 clear hown5 hgrow5 hb5 e0 e1 e2 e3 HB4 HA4
 go_wp2_with (at_builtin; refine wpList_append_own_at _ rfl _ _ 22 rfl w.heap.size 70 i0 (.agg #[.string ⟨#[]⟩, .string ⟨#[]⟩, .int .i64 0, .int .i64 0]) 4 48 Tryz.underlying22 HI.out HZ0.out HZ1.out HZ2.out rfl (by decide) (.slice (some ⟨g5, 0, none⟩) (i + 1) k5) (i + 1) (enC (es.take i) ++ [.string x, .string y, .int .i64 t, .int .i64 (q + 1)]) rfl HO5.out A (n - j) (cap - j) (enC (es.drop j)) rfl HL2.out (HSA.out _ HL5.out) (en_one _) (by unfold maxLen; omega) (by omega) HL5.out.size ?_; intro v6 w6 hown6 hgrow6 _ _; refine Hid.out ?_)
 refine hid' ?_
 obtain ⟨g6, k6, hv6, _, _⟩ := down_form hown6 (by omega)
 subst hv6
 have hb6 : Below w2.heap.size w2 w6 := HB5.out.grown hgrow6 HB5.out.size (fun k hk => by
  have := (HO5.out.lt k hk).1
  rw [HZW.out]; exact this)
 rw [← HTA.out] at hown6
 have HE := hid' (H.out.put (v' := .slice (some ⟨g6, 0, none⟩) (i + 1 + (n - j)) k6) HL2'.out HO2.out hb6 (by rw [HLE.out]; exact hown6) HOK.out (by rw [HLE.out]; exact HLM.out))
 have c6 := (HO2.out.keep hb6).cell 0 _ rfl
 have f6 := (HO2.out.keep hb6).free 0
 clear hown6 hgrow6 hb6 HO5 HB5 HL5
 go_wp2
 go_ret
 exact ⟨rfl, _, HE.out⟩

set_option maxRecDepth 20000 in
theorem dput_nil (B b : Nat) (q : Int) (x y : ByteArray) (t : Int) (w : World) (h : RD w B b (.slice none 0 0) q []) (hx : x.size ≤ 9223372036854775807) (hp : Dk.path x.data.toList = true) (hy : y.size ≤ 65536) (ht : 0 ≤ t ∧ t ≤ 253402300799) (hq0 : 0 ≤ q) (hq : q ≤ 9223372036854775806) :
  Calls Tryz.prog 21 #[.pointer (some ⟨b, 0, none⟩), .string x, .string y, .int .i64 t] w fun e w' => e = .returned (.int .i64 0) ∧ ∃ v', RD w' B b v' (q + 1) (Dk.put ⟨x, y, t, q + 1⟩ []) ∧ LF (DS13 b (.slice none 0 0)) w w' ∧ ∀ k, v'.ownBlock = some k → (Value.slice none 0 0).ownBlock = some k ∨ w.heap.size ≤ k := by
 obtain ⟨i0, hi0, hz0, hz1, hz2⟩ := dinfo_parts dinfoE
 have HI := hid' hi0
 have HZ0 := hid' hz0
 have HZ1 := hid' hz1
 have HZ2 := hid' hz2
 clear hi0 hz0 hz1 hz2
 have HP := hid' (rpath x true hp w hx)
 have HA := hid' (dat B b (.slice none 0 0) q [] x 0 false rfl rfl w h)
 have H := hid' h
 have hy2 : ¬ (65536 : Int) < (y.size : Int) := by omega
 have ht1 : ¬ t < 0 := by omega
 have ht2 : ¬ 253402300799 < t := by omega
 clear h hp ht hy
 go_enter Tryz.func21, Tryz.ntmps21
 go_wp2_with fail
 refine HP.out.mono ?_
 rintro e w0 ⟨rfl, hw0⟩
 subst w0
 go_wp2_with fail
 refine HA.out.mono ?_
 rintro e w1 ⟨rfl, m, hw1⟩
 have hb1 : Below w.heap.size w w1 := by rw [hw1]; exact ⟨rfl, rfl, rfl, Nat.le_refl _, fun _ _ => rfl⟩
 have HO1 := hid' (H.out.obj.keep hb1)
 have HZ1w : Hid (w1.heap.size = w.heap.size) := hid' (by rw [hw1]; rfl)
 have HL0 : Hid (LF (· = b) w w1) := hid' (LF.of_below hb1)
 have c0 := HO1.out.cell 0 _ rfl
 have c1 := HO1.out.cell 1 _ rfl
 have f1 := HO1.out.free 1
 clear hw1 hb1
 go_upto_region 11 with fail
 have HO2 : Hid (Ar (w1.setCell ⟨b, 1, none⟩ (.int .i64 (q + 1))) b 35 #[.slice none 0 0, .int .i64 (q + 1)]) := hid' (by have := HO1.out.set 1 (.int .i64 (q + 1)); simpa using this)
 have HL2' : Hid (LF (· = b) w (w1.setCell ⟨b, 1, none⟩ (.int .i64 (q + 1)))) := hid' (HL0.out.trans (LF.of_upd (S := (· = b)) (b := b) (upd_setCell w1 b 1 _) rfl) (fun _ _ h => h))
 have HZW : Hid ((w1.setCell ⟨b, 1, none⟩ (.int .i64 (q + 1))).heap.size = w.heap.size) := hid' (by rw [(upd_setCell w1 b 1 _).size]; exact HZ1w.out)
 generalize w1.setCell ⟨b, 1, none⟩ (.int .i64 (q + 1)) = w2 at *
 have d0 := HO2.out.cell 0 _ rfl
 have d1 := HO2.out.cell 1 _ rfl
 clear c0 c1 f1 HO1 HL0
 go_upto_region 12 with fail
 obtain ⟨xb, hxb⟩ : ∃ xb, w2.heap.size = xb := ⟨_, rfl⟩
 have HX3 : Hid (Ar (w2.alloc (.cells #[.string x, .string y, .int .i64 t, .int .i64 (q + 1)] 70)) xb 70 #[.string x, .string y, .int .i64 t, .int .i64 (q + 1)]) := hid' (by rw [← hxb]; exact heap_alloc_last w2 _)
 have HB3 : Hid (Below w2.heap.size w2 (w2.alloc (.cells #[.string x, .string y, .int .i64 t, .int .i64 (q + 1)] 70))) := hid' ((Below.refl _ _).alloc (Nat.le_refl _) _)
 rw [hxb]
 generalize w2.alloc (.cells #[.string x, .string y, .int .i64 t, .int .i64 (q + 1)] 70) = w3 at *
 have d0' := (HO2.out.keep HB3.out).cell 0 _ rfl
 have e0 := HX3.out.cell 0 _ rfl
 have e1 := HX3.out.cell 1 _ rfl
 have e2 := HX3.out.cell 2 _ rfl
 have e3 := HX3.out.cell 3 _ rfl
 have HW3 : Hid (w.heap.size ≤ w3.heap.size) := hid' (Nat.le_trans HL2'.out.size HB3.out.size)
 clear d0 d1 hxb
 go_wp2_with (at_builtin; refine wpList_append_own_at _ rfl _ _ 22 rfl w.heap.size 70 i0 (.agg #[.string ⟨#[]⟩, .string ⟨#[]⟩, .int .i64 0, .int .i64 0]) 4 48 Tryz.underlying22 HI.out HZ0.out HZ1.out HZ2.out rfl (by decide) (.slice none 0 0) 0 [] rfl (World.ownsRow_nil _ _ _ _) ⟨w3.heap.size, 0, none⟩ 1 1 [.string x, .string y, .int .i64 t, .int .i64 (q + 1)] rfl rfl (four_new _ _ _ _ _ _) (by simp [Value.oneCell']) (by unfold maxLen; omega) (by omega) (by simp; have := HW3.out; omega) ?_; intro v5 w5 hown5 hgrow5 _ _; refine Hid.out ?_)
 refine hid' ?_
 rw [Nat.zero_add, List.nil_append] at hown5
 obtain ⟨g5, k5, hv5, _, _⟩ := down_form hown5 (by omega)
 subst hv5
 have hb5 : Below w2.heap.size w2 w5 := (HB3.out.alloc HB3.out.size _).grown hgrow5 (by simp; have := HB3.out.size; omega) (fun k hk => by simp [Value.ownBlock] at hk)
 have HE := hid' (H.out.put (v' := .slice (some ⟨g5, 0, none⟩) 1 k5) (es' := Dk.put ⟨x, y, t, q + 1⟩ []) HL2'.out HO2.out hb5 hown5 (Dk.put_ok [] _ H.out.ok) (by simp [Dk.put]))
 have c6 := (HO2.out.keep hb5).cell 0 _ rfl
 have f6 := (HO2.out.keep hb5).free 0
 clear hown5 hgrow5 hb5 e0 e1 e2 e3 HB3 HX3 d0'
 go_wp2
 go_ret
 exact ⟨rfl, _, HE.out⟩

theorem dput {es es' : List Dk.En} {q q' t c : Int} {x y : ByteArray} (ho : PutOf13 es q x y t c es' q') (B b : Nat) (v : Value) (w : World) (h : RD w B b v q es) (hx : x.size ≤ 9223372036854775807) (hq0 : 0 ≤ q) (hq : q ≤ 9223372036854775806) :
  Calls Tryz.prog 21 #[.pointer (some ⟨b, 0, none⟩), .string x, .string y, .int .i64 t] w fun e w' => e = .returned (.int .i64 c) ∧ ∃ v', RD w' B b v' q' es' ∧ LF (DS13 b v) w w' ∧ ∀ k, v'.ownBlock = some k → v.ownBlock = some k ∨ w.heap.size ≤ k := by
 have no : ∀ c, ((c = 130 ∧ Dk.path x.data.toList = false) ∨ (c = 3 ∧ (Dk.path x.data.toList = true ∧ 65536 < y.size)) ∨ (c = 5 ∧ (Dk.path x.data.toList = true ∧ y.size ≤ 65536 ∧ (t < 0 ∨ 253402300799 < t))) ∨ (c = 4 ∧ (Dk.path x.data.toList = true ∧ y.size ≤ 65536 ∧ (0 ≤ t ∧ t ≤ 253402300799) ∧ Dk.has x.data.toList es = false ∧ 1024 ≤ es.length))) →
   Calls Tryz.prog 21 #[.pointer (some ⟨b, 0, none⟩), .string x, .string y, .int .i64 t] w fun e w' => e = .returned (.int .i64 c) ∧ ∃ v', RD w' B b v' q es ∧ LF (DS13 b v) w w' ∧ ∀ k, v'.ownBlock = some k → v.ownBlock = some k ∨ w.heap.size ≤ k := fun c hc =>
  (dput_no B b v q es x y t w h hx c hc).mono fun e w' ⟨a1, m, a2⟩ => ⟨a1, v, by rw [a2]; exact h.drewN m, by rw [a2]; exact ⟨rfl, rfl, rfl, Nat.le_refl _, fun _ _ _ => rfl⟩, fun k hk => .inl hk⟩
 rcases ho with ⟨rfl, h1, rfl, rfl⟩ | ⟨rfl, h1, rfl, rfl⟩ | ⟨rfl, h1, rfl, rfl⟩ | ⟨rfl, h1, rfl, rfl⟩ | ⟨rfl, ⟨h1, h2, h3, h4⟩, rfl, rfl⟩
 ·exact no _ (.inl ⟨rfl, h1⟩)
 ·exact no _ (.inr (.inl ⟨rfl, h1⟩))
 ·exact no _ (.inr (.inr (.inl ⟨rfl, h1⟩)))
 ·exact no _ (.inr (.inr (.inr ⟨rfl, h1⟩)))
 ·rcases h.row.2 with ⟨hv, _⟩ | ⟨g, cap, cur, rfl, _, _, h6, h7, _⟩
  ·obtain rfl := h.nil hv
   subst hv
   exact dput_nil B b q x y t w h hx h1 h2 h3 hq0 hq
  ·cases h5 : Dk.has x.data.toList es
   ·exact dput_new B b g cap q es x y t w h hx h1 h2 h3 h5 (h4.resolve_left (by rw [h5]; simp)) h6 h7 hq0 hq
   ·exact dput_yes B b g cap q es x y t w h hx h1 h2 h3 h5 h6 h7 hq0 hq


def fileV : Option Dk.En → Value
 | some e => .agg #[.string e.body, .int .i64 e.time, .int .i64 e.seq]
 | none => .agg #[.string ⟨#[]⟩, .int .i64 0, .int .i64 0]

theorem dzeroF : (Tryz.prog.info? 68).map (fun i => i.zero) = some (some (.agg #[.string ⟨#[]⟩, .int .i64 0, .int .i64 0])) := by kernel_rfl
theorem dsizeF : (Tryz.prog.info? 68).map (·.size) = some 3 := by kernel_rfl
theorem dldF {w : World} {b : Nat} {x0 x1 x2 : Value} (h : Ar w b 68 #[x0, x1, x2]) : (loadVar 68 ⟨b, 0, none⟩).run Tryz.prog w = .ok (.agg #[x0, x1, x2]) w :=
 run_loadVar_row (P := Tryz.prog) w b 68 68 _ (0, 0) _ h Tryz.underlying68 rfl dsizeF

end Go.Proofs.YtcfbobegbmcbeaaGreatDoor
