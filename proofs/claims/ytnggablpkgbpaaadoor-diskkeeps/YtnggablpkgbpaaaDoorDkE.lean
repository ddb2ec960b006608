/-
  The document's Remove, Get: by their contracts.
-/
import Derived.Test.YtnggablpkgbpaaaDoorDkD
namespace Go.Proofs.YtnggablpkgbpaaaDoor
open Go.RowKit

def RemOf13 (es : List Dk.En) (q : Int) (x : ByteArray) (t : Bool) (es' : List Dk.En) (q' : Int) : Prop :=
  (t = true ∧ Dk.has x.data.toList es = true ∧ es' = Dk.rem x.data.toList es ∧ q' = q + 1) ∨ (t = false ∧ Dk.has x.data.toList es = false ∧ es' = es ∧ q' = q)
theorem remOf13_ex (es : List Dk.En) (q : Int) (x : ByteArray) : ∃ t es' q', RemOf13 es q x t es' q' := by
  cases h : Dk.has x.data.toList es
  · exact ⟨false, _, _, .inr ⟨rfl, h, rfl, rfl⟩⟩
  · exact ⟨true, _, _, .inl ⟨rfl, h, rfl, rfl⟩⟩

set_option maxHeartbeats 2000000 in
set_option maxRecDepth 20000 in
theorem drem_no (B b : Nat) (v : Value) (q : Int) (es : List Dk.En) (x : ByteArray) (w : World) (h : RD w B b v q es) (hh : Dk.has x.data.toList es = false) :
    Calls Tryd.prog 13 #[.pointer (some ⟨b, 0, none⟩), .string x] w fun e w' => e = .returned (.bool false) ∧ ∃ m, w' = w.drewN m := by
  have HA := hid' (dat B b v q es x _ false rfl hh w h)
  clear h hh
  go_enter Tryd.func13, Tryd.ntmps13
  go_wp2_with fail
  refine HA.out.mono ?_
  rintro e w1 ⟨rfl, m, hw1⟩
  have HW := hid' hw1
  clear hw1
  go_wp2
  go_ret
  exact ⟨rfl, m, HW.out⟩

set_option maxHeartbeats 8000000 in
set_option maxRecDepth 20000 in
theorem drem_yes (B b g cap : Nat) (q : Int) (es : List Dk.En) (x : ByteArray) (w : World) (h : RD w B b (.slice (some ⟨g, 0, none⟩) es.length cap) q es) (hh : Dk.has x.data.toList es = true) (hnc : es.length ≤ cap) (hcm : cap ≤ maxLen) (hq0 : 0 ≤ q) (hq : q ≤ 9223372036854775806) :
    Calls Tryd.prog 13 #[.pointer (some ⟨b, 0, none⟩), .string x] w fun e w' => e = .returned (.bool true) ∧ ∃ v', RD w' B b v' (q + 1) (Dk.rem x.data.toList es) ∧ LF (DS13 b (.slice (some ⟨g, 0, none⟩) es.length cap)) w w' ∧ ∀ k, v'.ownBlock = some k → (Value.slice (some ⟨g, 0, none⟩) es.length cap).ownBlock = some k ∨ w.heap.size ≤ k := by
  obtain ⟨i0, hi0, hz0, hz1, hz2⟩ := dinfo_parts dinfoE
  have HI := hid' hi0
  have HZ0 := hid' hz0
  have HZ1 := hid' hz1
  have HZ2 := hid' hz2
  clear hi0 hz0 hz1 hz2
  obtain ⟨i, hi⟩ : ∃ i, Dk.at' x.data.toList es = i := ⟨_, rfl⟩
  obtain ⟨j, hj⟩ : ∃ j, j = i + 1 := ⟨_, rfl⟩
  have HA := hid' (dat B b _ q es x i true hi hh w h)
  have hil : i < es.length := by
    obtain ⟨e, he, _⟩ := Dk.has_lt _ es h.ok hh; rw [hi] at he; exact (List.getElem?_eq_some_iff.1 he).1
  have H := hid' h
  obtain ⟨_, _, _, _, _, _, hok, hln, _⟩ := Dk.rem_yes es x.data.toList h.ok hh
  have HOK := hid' hok
  have HLN := hid' hln
  have HTA : Hid (enC (Dk.rem x.data.toList es) = enC (es.take i) ++ enC (es.drop j)) := hid' (by unfold Dk.rem; rw [hi, hj, enC_append])
  obtain ⟨n, hn2⟩ : ∃ n, es.length = n := ⟨_, rfl⟩
  have HN := hid' hn2
  have HL1 : Hid ((enC (es.take i)).length = i * 4) := hid' (by rw [enC_length, List.length_take]; omega)
  have HL2 : Hid ((enC (es.drop j)).length = (n - j) * 4) := hid' (by rw [enC_length, List.length_drop, hn2])
  have HSRC : Hid (∀ W, LF (· = b) w W → ∀ s u, (enC (es.drop j))[s]? = some u → W.cell? ⟨g, j * 4 + s, none⟩ = some u) := hid' (fun W hW s u hu => by
    rw [World.cell?_of_block (a := ⟨g, j * 4 + s, none⟩) (hW.block g (own_lt h.row g rfl) (own_apart h.row h.obj (by decide) g rfl))]
    rw [en_drop, List.getElem?_drop] at hu
    exact down_cell h.row _ _ hu)
  have HSR1 : Hid (∀ W, LF (· = b) w W → ∀ s u, (enC (es.take i))[s]? = some u → W.cell? ((⟨g, 0, none⟩ : Addr).add s) = some u) := hid' (fun W hW s u hu => by
    rw [Addr.add_lit, Nat.zero_add, World.cell?_of_block (a := ⟨g, s, none⟩) (hW.block g (own_lt h.row g rfl) (own_apart h.row h.obj (by decide) g rfl))]
    rw [en_take, List.getElem?_take] at hu
    split at hu
    · exact down_cell h.row _ _ hu
    · cases hu)
  have hle4 := h.le
  rw [hn2] at hil hnc H hle4 ⊢
  have hic : i ≤ cap := by omega
  have hjn : j ≤ n := by omega
  have hjc : j ≤ cap := by omega
  have hji : (i : Int) + 1 = (j : Int) := by omega
  have HJ := hid' hj
  have hcap : (cap : Int) ≤ 9223372036854775807 := by unfold maxLen at hcm; omega
  clear h hi hn2 hcm hh hj hok hln
  go_enter Tryd.func13, Tryd.ntmps13
  go_wp2_with fail
  refine HA.out.mono ?_
  rintro e w1 ⟨rfl, m, hw1⟩
  have hb1 : Below w.heap.size w w1 := by rw [hw1]; exact ⟨rfl, rfl, rfl, Nat.le_refl _, fun _ _ => rfl⟩
  have HO1 := hid' (H.out.obj.keep hb1)
  have HZ1w : Hid (w1.heap.size = w.heap.size) := hid' (by rw [hw1]; rfl)
  have HL0 : Hid (LF (· = b) w w1) := hid' (LF.of_below hb1)
  have c0 := HO1.out.cell 0 _ rfl
  have c1 := HO1.out.cell 1 _ rfl
  have f1 := HO1.out.free 1
  clear hw1 hb1
  go_upto_region 5 with fail
  have HO2 : Hid (Ar (w1.setCell ⟨b, 1, none⟩ (.int .i64 (q + 1))) b 29 #[.slice (some ⟨g, 0, none⟩) n cap, .int .i64 (q + 1)]) := hid' (by have := HO1.out.set 1 (.int .i64 (q + 1)); simpa using this)
  have HL2' : Hid (LF (· = b) w (w1.setCell ⟨b, 1, none⟩ (.int .i64 (q + 1)))) := hid' (HL0.out.trans (LF.of_upd (S := (· = b)) (b := b) (upd_setCell w1 b 1 _) rfl) (fun _ _ h => h))
  have HZW : Hid ((w1.setCell ⟨b, 1, none⟩ (.int .i64 (q + 1))).heap.size = w.heap.size) := hid' (by rw [(upd_setCell w1 b 1 _).size]; exact HZ1w.out)
  generalize w1.setCell ⟨b, 1, none⟩ (.int .i64 (q + 1)) = w2 at *
  have d0 := HO2.out.cell 0 _ rfl
  clear c0 c1 f1 HO1 HL0
  obtain ⟨A, hA, HSA⟩ : ∃ A : Addr, (if cap = j then some (⟨g, 0, none⟩ : Addr) else some ⟨g, j * 4, none⟩) = some A ∧ Hid (∀ W, LF (· = b) w W → ∀ s u, (enC (es.drop j))[s]? = some u → W.cell? (A.add s) = some u) := by
    by_cases hc : cap = j
    · refine ⟨⟨g, 0, none⟩, by simp [hc], hid' (fun W hW s u hu => ?_)⟩
      rw [List.drop_of_length_le (by rw [HN.out]; omega)] at hu
      simp [enC] at hu
    · refine ⟨⟨g, j * 4, none⟩, by simp [hc], hid' (fun W hW s u hu => ?_)⟩
      rw [Addr.add_lit]
      exact HSRC.out W hW s u hu
  go_wp2_with (at_builtin; refine wpList_append_own_at _ rfl _ _ 27 rfl w.heap.size 45 i0 (.agg #[.string ⟨#[]⟩, .string ⟨#[]⟩, .int .i64 0, .int .i64 0]) 4 48 Tryd.underlying27 HI.out HZ0.out HZ1.out HZ2.out rfl (by decide) (.slice none 0 0) 0 [] rfl (World.ownsRow_nil _ _ _ _) ⟨g, 0, none⟩ i cap (enC (es.take i)) rfl HL1.out (HSR1.out _ HL2'.out) (en_one _) (by unfold maxLen; omega) (by omega) HL2'.out.size ?_; intro v4 w4 hown4 hgrow4 _ _; refine Hid.out ?_)
  refine hid' ?_
  rw [Nat.zero_add, List.nil_append] at hown4
  obtain ⟨o4, k4, hv4⟩ := down_shape hown4
  subst hv4
  have hg4 : Below w2.heap.size w2 w4 := (Below.refl w2.heap.size w2).grown hgrow4 (Nat.le_refl _) (fun k hk => by simp [Value.ownBlock] at hk)
  have HO4 := hid' hown4
  have HB4 := hid' hg4
  have HL4 : Hid (LF (· = b) w w4) := hid' (HL2'.out.trans (LF.of_below (S := (· = b)) hg4) (fun _ _ h => h))
  have d0' := (HO2.out.keep hg4).cell 0 _ rfl
  clear hown4 hgrow4 hg4 d0
  go_upto_region 7 with fail
  go_wp2_with (at_builtin; refine wpList_append_own_at _ rfl _ _ 27 rfl w.heap.size 45 i0 (.agg #[.string ⟨#[]⟩, .string ⟨#[]⟩, .int .i64 0, .int .i64 0]) 4 48 Tryd.underlying27 HI.out HZ0.out HZ1.out HZ2.out rfl (by decide) (.slice o4 i k4) i (enC (es.take i)) rfl HO4.out A (n - j) (cap - j) (enC (es.drop j)) rfl HL2.out (HSA.out _ HL4.out) (en_one _) (by unfold maxLen; omega) (by omega) HL4.out.size ?_; intro v6 w6 hown6 hgrow6 _ _; refine Hid.out ?_)
  refine hid' ?_
  obtain ⟨o6, k6, hv6⟩ := down_shape hown6
  subst hv6
  have hb6 : Below w2.heap.size w2 w6 := HB4.out.grown hgrow6 HB4.out.size (fun k hk => by
    have := (HO4.out.lt k hk).1
    rw [HZW.out]; exact this)
  rw [← HTA.out] at hown6
  have hlen : (Dk.rem x.data.toList es).length = i + (n - j) := by have := HLN.out; have := HN.out; have := HJ.out; omega
  have HE := hid' (H.out.put (v' := .slice o6 (i + (n - j)) k6) HL2'.out HO2.out hb6 (by rw [hlen]; exact hown6) HOK.out (by rw [hlen]; omega))
  have c6 := (HO2.out.keep hb6).cell 0 _ rfl
  have f6 := (HO2.out.keep hb6).free 0
  clear hown6 hgrow6 hb6 HO4 HB4 HL4 hlen d0'
  go_wp2
  go_ret
  exact ⟨rfl, _, HE.out⟩

theorem drem {es es' : List Dk.En} {q q' : Int} {t : Bool} {x : ByteArray} (ho : RemOf13 es q x t es' q') (B b : Nat) (v : Value) (w : World) (h : RD w B b v q es) (hq0 : 0 ≤ q) (hq : q ≤ 9223372036854775806) :
    Calls Tryd.prog 13 #[.pointer (some ⟨b, 0, none⟩), .string x] w fun e w' => e = .returned (.bool t) ∧ ∃ v', RD w' B b v' q' es' ∧ LF (DS13 b v) w w' ∧ ∀ k, v'.ownBlock = some k → v.ownBlock = some k ∨ w.heap.size ≤ k := by
  rcases ho with ⟨rfl, h1, rfl, rfl⟩ | ⟨rfl, h1, rfl, rfl⟩
  · rcases h.row.2 with ⟨hv, _⟩ | ⟨g, cap, cur, rfl, _, _, h6, h7, _⟩
    · obtain rfl := h.nil hv
      simp [Dk.has, Dk.ks] at h1
    · exact drem_yes B b g cap q es x w h h1 h6 h7 hq0 hq
  · exact (drem_no B b v q' es' x w h h1).mono fun e w' ⟨a1, m, a2⟩ => ⟨a1, v, by rw [a2]; exact h.drewN m, by rw [a2]; exact ⟨rfl, rfl, rfl, Nat.le_refl _, fun _ _ _ => rfl⟩, fun k hk => .inl hk⟩

theorem bl_dn13 {B : Nat} {w w' : World} (h : Below B w w') (q : Nat) : Below B w (w'.drewN q) := ⟨h.os, h.tape, h.output, h.size, h.block⟩
/-- What Get answers. -/
def fileV : Option Dk.En → Value
  | some e => .agg #[.string e.body, .int .i64 e.time, .int .i64 e.seq]
  | none => .agg #[.string ⟨#[]⟩, .int .i64 0, .int .i64 0]

theorem dzeroF : (Tryd.prog.info? 38).map (fun i => i.zero) = some (some (.agg #[.string ⟨#[]⟩, .int .i64 0, .int .i64 0])) := by kernel_rfl
theorem dsizeF : (Tryd.prog.info? 38).map (·.size) = some 3 := by kernel_rfl
theorem dldF {w : World} {b : Nat} {x0 x1 x2 : Value} (h : Ar w b 38 #[x0, x1, x2]) : (loadVar 38 ⟨b, 0, none⟩).run Tryd.prog w = .ok (.agg #[x0, x1, x2]) w :=
  run_loadVar_row (P := Tryd.prog) w b 38 38 _ (0, 0) _ h Tryd.underlying38 rfl dsizeF

set_option maxHeartbeats 2000000 in
set_option maxRecDepth 20000 in
theorem dget (B b : Nat) (v : Value) (q : Int) (es : List Dk.En) (x : ByteArray) (w : World) (h : RD w B b v q es) :
    Calls Tryd.prog 19 #[.pointer (some ⟨b, 0, none⟩), .string x] w fun e w' => e = .returned (.tuple #[fileV (Dk.get x.data.toList es), .bool (Dk.has x.data.toList es)]) ∧ Below w.heap.size w w' := by
  obtain ⟨i, hi⟩ : ∃ i, Dk.at' x.data.toList es = i := ⟨_, rfl⟩
  cases hh : Dk.has x.data.toList es
  · have HG : Hid (Dk.get x.data.toList es = none) := hid' (by unfold Dk.get; rw [hh]; rfl)
    have HA : Hid (∀ W, Below w.heap.size w W → Calls Tryd.prog 30 #[.pointer (some ⟨b, 0, none⟩), .string x] W fun e w' => e = .returned (.tuple #[.int .i64 (i : Int), .bool false]) ∧ ∃ m, w' = W.drewN m) := hid' (fun W hW => dat B b v q es x i false hi hh W (h.keep hW))
    clear h hh hi
    go_enter Tryd.func19, Tryd.ntmps19
    go_wp2_with (refine wpl_alloc 38 rfl rfl #[.string ⟨#[]⟩, .int .i64 0, .int .i64 0] dzeroF ?_)
    intro b0 w0 hb0 ha0 hbe0
    have HX := hid' ha0
    have HB0 := hid' hbe0
    have HG0 := hid' hb0
    clear hb0 ha0 hbe0
    go_wp2_with fail
    refine (HA.out _ HB0.out).mono ?_
    rintro e w1 ⟨rfl, m, hw1⟩
    have hb1 : Below w.heap.size w w1 := by rw [hw1]; exact bl_dn13 HB0.out m
    have hx1 : Ar w1 b0 38 #[.string ⟨#[]⟩, .int .i64 0, .int .i64 0] := by rw [hw1]; exact HX.out
    have HB1 := hid' hb1
    have HX1 := hid' hx1
    clear hw1 hb1 hx1 HX HB0
    go_wp2_with (refine wpl_store 38 _ _ rfl rfl b0 #[.string ⟨#[]⟩, .int .i64 0, .int .i64 0] (by kernel_rfl) (by kernel_rfl) _ _ HX1.out dsizeF rfl (by simp [Value.oneCell']) ?_)
    intro w2 ha2 hu2
    have hld := dldF ha2
    have HB2 := hid' (HB1.out.trans (hu2.below HG0.out))
    clear ha2 hu2
    go_wp2
    refine bodyPost_ret (v := .tuple #[.agg #[.string ⟨#[]⟩, .int .i64 0, .int .i64 0], .bool false]) (by simp [results, Tryd.results19, asAddr, hld]) rfl ⟨by rw [HG.out]; rfl, HB2.out⟩
  · obtain ⟨e, he, hk⟩ := Dk.has_lt _ es h.ok hh
    have HG : Hid (Dk.get x.data.toList es = some e) := hid' (by unfold Dk.get; rw [hh]; exact he)
    have HA : Hid (∀ W, Below w.heap.size w W → Calls Tryd.prog 30 #[.pointer (some ⟨b, 0, none⟩), .string x] W fun e w' => e = .returned (.tuple #[.int .i64 (i : Int), .bool true]) ∧ ∃ m, w' = W.drewN m) := hid' (fun W hW => dat B b v q es x i true hi hh W (h.keep hW))
    rw [hi] at he
    have hil := (List.getElem?_eq_some_iff.1 he).1
    have H := hid' h
    obtain ⟨ao, cap, hv⟩ := down_shape h.row
    subst hv
    obtain ⟨n, hn⟩ : ∃ n, es.length = n := ⟨_, rfl⟩
    have HN := hid' hn
    have hl := h.le
    have HEI := hid' he
    rw [hn] at hil hl H
    have hil2 : (i : Int) < (n : Int) := by omega
    clear h hh he hk hi hn
    go_enter Tryd.func19, Tryd.ntmps19
    go_wp2_with (refine wpl_alloc 38 rfl rfl #[.string ⟨#[]⟩, .int .i64 0, .int .i64 0] dzeroF ?_)
    intro b0 w0 hb0 ha0 hbe0
    have HX := hid' ha0
    have HB0 := hid' hbe0
    have HG0 := hid' hb0
    clear hb0 ha0 hbe0
    go_wp2_with fail
    refine (HA.out _ HB0.out).mono ?_
    rintro e1 w1 ⟨rfl, m, hw1⟩
    have hb1 : Below w.heap.size w w1 := by rw [hw1]; exact bl_dn13 HB0.out m
    have hx1 : Ar w1 b0 38 #[.string ⟨#[]⟩, .int .i64 0, .int .i64 0] := by rw [hw1]; exact HX.out
    have hrd := H.out.keep hb1
    have c0 := hrd.obj.cell 0 _ rfl
    have hrow := hrd.row
    rw [HN.out] at hrow
    obtain ⟨a, hao, y0, y1, y2, y3⟩ := (RE.of_own hrow).four HN.out.symm i e HEI.out
    subst hao
    have HB1 := hid' hb1
    have HX1 := hid' hx1
    clear hw1 hb1 hx1 HX HB0 hrd hrow
    go_wp2_with (refine wpl_store 38 _ _ rfl rfl b0 #[.string e.body, .int .i64 e.time, .int .i64 e.seq] (by kernel_rfl) (by kernel_rfl) _ _ HX1.out dsizeF rfl (by simp [Value.oneCell']) ?_)
    intro w2 ha2 hu2
    have hld := dldF ha2
    have HB2 := hid' (HB1.out.trans (hu2.below HG0.out))
    clear ha2 hu2 c0 y0 y1 y2 y3
    go_wp2
    refine bodyPost_ret (v := .tuple #[.agg #[.string e.body, .int .i64 e.time, .int .i64 e.seq], .bool true]) (by simp [results, Tryd.results19, asAddr, hld]) rfl ⟨by rw [HG.out]; rfl, HB2.out⟩

end Go.Proofs.YtnggablpkgbpaaaDoor
