/-
  The code's small, isVisible, isPath: by their contracts; a struct that is stored in a region that draws.
  The head of a header list in memory; the code's part.say, head.pseudo, head.addPseudo: by their contracts.
-/
import Derived.Deep.RegionHeld3
import Derived.Test.YthhpejgpfaikaaaGreatDoorPnAN
namespace Go.Proofs.YthhpejgpfaikaaaGreatDoor
open Go.RowKit

section
variable {P : Program} {w : World}
/-- A struct is stored over a whole block, in a region that draws. -/
theorem step_store {ops : Array Oper} {o : Oper} {a : Act} {K : Act → World → Prop} {Q : Exit → Act → World → Prop} {E : Prop} (hgd : o.guard = none) (ty : TypeId) (x y : Operand)
    (ho : o.op = .store ty x y) (b : Nat) (c : Array Value) (hx : a.eval x = .pointer (some ⟨b, 0, none⟩)) (hy : a.eval y = .agg c)
    (t : TypeId) (old : Array Value) (hg : Ar w b t old) (hi : (P.info? ty).map (·.size) = some c.size) (hold : old.size = c.size) (h1 : c.all (·.oneCell') = true)
    (h : ∀ w', Ar w' b t c → Upd b w w' → K (a.put o.dst undef) w') : if Region.wanted o (yielded ops a.tmps) = true then Oper.wp P o a w K Q else E := by
  have hw : Region.wanted o (yielded ops a.tmps) = true := by simp [Region.wanted, hgd]
  rw [if_pos hw]
  exact wp_store_row ty x y ho b c hx hy t old hg hi hold h1 (h _ (setRow_heap w b old c t (0, 0) hg) (upd_setRow w b c))
end

/-- A block of n cells that is still to be written, all else as it was. -/
def Wr (w : World) (b : Nat) (T : TypeId) (n : Nat) (W : World) : Prop := LF (fun k => k = b) w W ∧ ∃ c, Ar W b T c ∧ c.size = n
theorem Wr.start {w : World} {b : Nat} {T : TypeId} {c : Array Value} {n : Nat} (h : Ar w b T c) (hn : c.size = n) : Wr w b T n w := ⟨LF.refl _ _, c, h, hn⟩
theorem Wr.drew {w W : World} {b : Nat} {T : TypeId} {n : Nat} (h : Wr w b T n W) : Wr w b T n W.drew := by
  obtain ⟨h1, c, h2, h3⟩ := h
  exact ⟨h1.trans (LF.of_below (S := fun k => k = b) ((Below.refl _ W).drew)) (fun _ _ h => h), c, h2, h3⟩
theorem Wr.below {w W W' : World} {b : Nat} {T : TypeId} {n : Nat} (h : Wr w b T n W) (hb : Below W.heap.size W W') : Wr w b T n W' := by
  obtain ⟨h1, c, h2, h3⟩ := h
  exact ⟨h1.trans (LF.of_below (S := fun k => k = b) hb) (fun _ _ h => h), c, h2.keep hb, h3⟩
theorem Wr.upd {w W W' : World} {b : Nat} {T : TypeId} {c : Array Value} {n : Nat} (h : Wr w b T n W) (hu : Upd b W W') (ha : Ar W' b T c) (hn : c.size = n) : Wr w b T n W' :=
  ⟨h.1.trans (LF.of_upd (S := fun k => k = b) hu rfl) (fun _ _ h => h), c, ha, hn⟩
theorem Wr.cell {w W : World} {b : Nat} {T : TypeId} {n : Nat} (h : Wr w b T n W) {a : Addr} {v : Value} (hc : w.cell? a = some v) (hne : a.block ≠ b) : W.cell? a = some v :=
  (World.cell?_of_block (h.1.block a.block (cell_lt hc) hne)).trans hc
theorem Wr.low {w W : World} {b B : Nat} {T : TypeId} {n : Nat} (h : Wr w b T n W) (hB : B ≤ w.heap.size) (hb : B ≤ b) : Below B w W := h.1.below hB (fun _ e => e ▸ hb)
theorem step_wr {P : Program} {w0 w : World} {R : Prop} {ops : Array Oper} {o : Oper} {a : Act} {K : Act → World → Prop} {Q : Exit → Act → World → Prop} {E : Prop} (hgd : o.guard = none) (ty : TypeId) (x y : Operand)
    (ho : o.op = .store ty x y) (b : Nat) (c : Array Value) (hx : a.eval x = .pointer (some ⟨b, 0, none⟩)) (hy : a.eval y = .agg c)
    (t : TypeId) (hg : Wr w0 b t c.size w ∧ R) (hi : (P.info? ty).map (·.size) = some c.size) (h1 : c.all (·.oneCell') = true)
    (h : ∀ w', Ar w' b t c → Upd b w w' → K (a.put o.dst undef) w') : if Region.wanted o (yielded ops a.tmps) = true then Oper.wp P o a w K Q else E := by
  obtain ⟨⟨_, old, h2, h3⟩, _⟩ := hg
  exact step_store hgd ty x y ho b c hx hy t old h2 hi h3 h1 h
theorem sizeF14 : (Tryz.prog.info? 47).map (·.size) = some 2 := by kernel_rfl

set_option maxHeartbeats 2000000 in
set_option maxRecDepth 20000 in
theorem csmall14 (f : Fd) (w : World) (hn : f.n.size ≤ 140737488355328) :
    Calls Tryz.prog 141 #[.agg #[.string f.n, .string f.v]] w fun e w' => e = .returned (.agg #[.string (Ms.small f).n, .string (Ms.small f).v]) ∧ Below w.heap.size w w' := by
  obtain ⟨y, hy⟩ : ∃ y : ByteArray, (⟨(Tx.lower f.n.data.toList).toArray⟩ : ByteArray) = y := ⟨_, rfl⟩
  have e1 : (Ms.small f).n = y := hy
  have e2 : (Ms.small f).v = f.v := rfl
  have HLo : Hid (∀ W, Calls Tryz.prog 131 #[.string f.n] W fun e w' => e = .returned (.string y) ∧ Below W.heap.size W w') := hid' (fun W => by have := lower_any f.n W (by unfold maxLen; omega); rwa [hy] at this)
  rw [e1, e2]
  clear e1 e2 hy
  go_enter Tryz.func141, Tryz.ntmps141
  go_wp2
  have hA1 : Ar (w.alloc (.cells #[.string f.n, .string f.v] 47)) w.heap.size 47 #[.string f.n, .string f.v] := heap_alloc_last w _
  have hB1 := bl_alloc w (.cells #[.string f.n, .string f.v] 47)
  have hsz : (w.alloc (.cells #[.string f.n, .string f.v] 47)).heap.size = w.heap.size + 1 := by simp
  generalize w.alloc (.cells #[.string f.n, .string f.v] 47) = w1 at *
  have hA2 : Ar (w1.alloc (.cells #[.string ⟨#[]⟩, .string ⟨#[]⟩] 47)) (w.heap.size + 1) 47 #[.string ⟨#[]⟩, .string ⟨#[]⟩] := by rw [← hsz]; exact heap_alloc_last w1 _
  have hB2 := bl_alloc w1 (.cells #[.string ⟨#[]⟩, .string ⟨#[]⟩] 47)
  have hB3 := below_two hB1 hB2
  have hA3 := hA1.keep hB2
  generalize w1.alloc (.cells #[.string ⟨#[]⟩, .string ⟨#[]⟩] 47) = w2 at *
  have HB3 := hid' hB3
  obtain ⟨xb, hxb⟩ : ∃ xb, w.heap.size = xb := ⟨_, rfl⟩
  obtain ⟨rb, hrb⟩ : ∃ rb, w.heap.size + 1 = rb := ⟨_, rfl⟩
  have HRB : Hid (w.heap.size ≤ rb) := hid' (by omega)
  have hne : xb ≠ rb := by omega
  rw [hrb] at hA2 ⊢
  rw [hxb] at hA3 ⊢
  have x0 := hA3.cell 0 _ rfl
  have x1 := hA3.cell 1 _ rfl
  have r0 := hA2.cell 0 _ rfl
  have r1 := hA2.cell 1 _ rfl
  have kb : ∀ W W1 : World, (W.cell? ⟨xb, 0, none⟩ = some (.string f.n) ∧ W.cell? ⟨xb, 1, none⟩ = some (.string f.v)) → Below W.heap.size W W1 → W1.cell? ⟨xb, 0, none⟩ = some (.string f.n) ∧ W1.cell? ⟨xb, 1, none⟩ = some (.string f.v) := fun W W1 ⟨h2, h3⟩ hb => ⟨(hb.cell (cell_lt h2)).trans h2, (hb.cell (cell_lt h3)).trans h3⟩
  have ks : ∀ (W : World) (x y : Value), (W.cell? ⟨xb, 0, none⟩ = some (.string f.n) ∧ W.cell? ⟨xb, 1, none⟩ = some (.string f.v)) → ((W.setCell ⟨rb, 0, none⟩ x).setCell ⟨rb, 1, none⟩ y).cell? ⟨xb, 0, none⟩ = some (.string f.n) ∧ ((W.setCell ⟨rb, 0, none⟩ x).setCell ⟨rb, 1, none⟩ y).cell? ⟨xb, 1, none⟩ = some (.string f.v) := fun W x y ⟨h2, h3⟩ => ⟨(World.cell?_of_block (((upd_setCell W rb 0 x).block xb hne).symm ▸ (upd_setCell _ rb 1 y).block xb hne)).trans h2, (World.cell?_of_block (((upd_setCell W rb 0 x).block xb hne).symm ▸ (upd_setCell _ rb 1 y).block xb hne)).trans h3⟩
  have hS : w2.cell? ⟨xb, 0, none⟩ = some (.string f.n) ∧ w2.cell? ⟨xb, 1, none⟩ = some (.string f.v) := ⟨x0, x1⟩
  have hS0 := kb _ _ hS ((Below.refl _ w2).drew)
  have HA2 := hid' hA2
  have kr : ∀ W1 : World, Below w2.drew.heap.size w2.drew W1 → Ar W1 rb 47 #[.string ⟨#[]⟩, .string ⟨#[]⟩] := fun W1 hb => HA2.out.keep (below_two ((Below.refl _ w2).drew) hb)
  clear hA1 hB1 hsz hA2 hB2 hA3 hxb hrb x0 x1 hne
  go_region_held3 (fun W => W.cell? ⟨xb, 0, none⟩ = some (.string f.n) ∧ W.cell? ⟨xb, 1, none⟩ = some (.string f.v))
    (first | assumption | exact kb _ _ (by assumption) (by assumption) | exact ks _ _ _ (by assumption))
    (first
    | (go_at_call 131; refine (HLo.out _).mono ?_; rintro e w3 ⟨rfl, hb3⟩; have har := kr _ hb3; have c0 := har.cell 0 _ rfl; have c1 := har.cell 1 _ rfl; have f0 := har.free 0; have f1 := har.free 1))
  have hA4 : Ar ((w3.setCell ⟨rb, 0, none⟩ (.string y)).setCell ⟨rb, 1, none⟩ (.string f.v)) rb 47 #[.string y, .string f.v] := (har.set 0 _).set 1 _
  have HB4 : Hid (Below w.heap.size w ((w3.setCell ⟨rb, 0, none⟩ (.string y)).setCell ⟨rb, 1, none⟩ (.string f.v))) := hid' (((below_two HB3.out (below_two ((Below.refl _ w2).drew) hb3)).setCell HRB.out _).setCell HRB.out _)
  clear c0 c1 f0 f1 har hb3 kr ks kb hS hS0 r0 r1
  generalize (w3.setCell ⟨rb, 0, none⟩ (.string y)).setCell ⟨rb, 1, none⟩ (.string f.v) = w4 at *
  have x0 := hA4.cell 0 _ rfl
  have x1 := hA4.cell 1 _ rfl
  go_wp2
  exact bodyPost_ret (v := .agg #[.string y, .string f.v]) (by simp [results, Tryz.results141, go_sem, x0, x1]) rfl ⟨rfl, HB4.out⟩

namespace Ms
def vis (c : UInt8) : Bool := decide (33 ≤ c.toNat) && decide (c.toNat ≤ 126)
theorem okc_vis (L : List UInt8) : L.all okc = (L.all vis && !(decide (0 ≤ Lib.indexByte L 35))) := by
  have h2 : decide (0 ≤ Lib.indexByte L 35) = L.contains 35 := (Lib.contains_iff_indexByte L 35).symm
  rw [h2]
  induction L with
  | nil => rfl
  | cons a r ih =>
    rw [List.all_cons, List.all_cons, ih (Lib.contains_iff_indexByte r 35).symm, List.contains_cons]
    unfold okc vis
    have h5 : (35 == a) = (a == 35) := Bool.eq_iff_iff.2 (by rw [beq_iff_eq, beq_iff_eq]; exact eq_comm)
    rw [h5]
    cases decide (33 ≤ a.toNat) <;> cases decide (a.toNat ≤ 126) <;> cases (a == 35) <;> simp
theorem head_pre (L : List UInt8) : (L.head? == some 47) = Lib.hasPrefix L [47] := by
  unfold Lib.hasPrefix
  cases L with
  | nil => rfl
  | cons a r =>
    simp only [List.head?_cons, List.isPrefixOf, Bool.and_true]
    rw [Bool.eq_iff_iff, beq_iff_eq, beq_iff_eq]
    constructor
    · intro h; injection h with h; exact h.symm
    · intro h; rw [h]
end Ms

set_option maxHeartbeats 1000000 in
theorem cvis14 (s : ByteArray) (r : Bool) (hr : (Ms.tx s).all Ms.vis = r) (w : World) (hs : s.size ≤ 140737488355328) : Calls Tryz.prog 137 #[.string s] w fun e w' => e = .returned (.bool r) ∧ w' = w := by
  obtain ⟨L, hL⟩ : ∃ L, Ms.tx s = L := ⟨_, rfl⟩
  have HL := hid' hL
  have HSZ : Hid (L.length = s.size) := hid' (by rw [← hL, Ms.tx_len])
  rw [hL] at hr
  have HR := hid' hr
  clear hr hL
  go_enter Tryz.func137, Tryz.ntmps137
  go_wp2
  go_loopw [6] (fun s6 wr => ∃ k : Nat, s6 = .int .i64 (k : Int) ∧ k ≤ s.size ∧ wr = w ∧ Hid (r = (L.drop k).all Ms.vis)) (fun s6 _ => s.size - (intOf s6).toNat)
  case atStart => exact ⟨0, rfl, Nat.zero_le _, rfl, hid' HR.out.symm⟩
  case round =>
    obtain ⟨k, rfl, hk, hwr, HK⟩ := hrel
    subst wr
    by_cases hlt : k < s.size
    · have hlt2 : (k : Int) < (s.size : Int) := by omega
      have hck : L[k]? = some s[k] := by rw [← HL.out, Ms.tx, List.getElem?_eq_getElem (by rw [← Lib.size_eq]; exact hlt)]; rfl
      have HB2 : Hid (r = (Ms.vis s[k] && (L.drop (k + 1)).all Ms.vis)) := hid' (by rw [HK.out, drop1 L k _ hck, List.all_cons])
      clear hck HK
      by_cases d1 : s[k].toNat < 33
      · have HF : Hid (r = false) := hid' (by rw [HB2.out]; unfold Ms.vis; rw [decide_eq_false (by omega)]; rfl)
        have d1' : (s[k].toNat : Int) < 33 := by omega
        go_wp2
        go_ret
        exact ⟨by rw [HF.out]; rfl, rfl⟩
      have d1' : ¬ (s[k].toNat : Int) < 33 := by omega
      by_cases d2 : 126 < s[k].toNat
      · have HF : Hid (r = false) := hid' (by rw [HB2.out]; unfold Ms.vis; rw [decide_eq_false (show ¬ s[k].toNat ≤ 126 by omega)]; simp)
        have d2' : (126 : Int) < (s[k].toNat : Int) := by omega
        clear d1
        go_wp2
        go_ret
        exact ⟨by rw [HF.out]; rfl, rfl⟩
      have d2' : ¬ (126 : Int) < (s[k].toNat : Int) := by omega
      have HN : Hid (r = (L.drop (k + 1)).all Ms.vis) := hid' (by rw [HB2.out]; unfold Ms.vis; rw [decide_eq_true (show 33 ≤ s[k].toNat by omega), decide_eq_true (show s[k].toNat ≤ 126 by omega)]; rfl)
      clear d1 d2
      go_wp2
      go_roundw
      case rel => exact ⟨k + 1, by go_num, by omega, by first | rfl | trivial, HN⟩
      case measure => simp [intOf]; omega
    · obtain rfl : k = s.size := by omega
      have hlt2 : ¬ (s.size : Int) < (s.size : Int) := by omega
      have HF : Hid (r = true) := hid' (by rw [HK.out, List.drop_of_length_le (by rw [HSZ.out]; exact Nat.le_refl _)]; rfl)
      go_wp2
      go_ret
      exact ⟨by rw [HF.out]; rfl, rfl⟩

set_option maxHeartbeats 2000000 in
theorem cpath14 (m p : ByteArray) (r : Bool) (hr : Ms.goes m p = r) (w : World) (hp : p.size ≤ 140737488355328) :
    Calls Tryz.prog 108 #[.string m, .string p] w fun e w' => e = .returned (.bool r) ∧ w' = w := by
  unfold Ms.goes at hr
  have e1 : (Ms.tx p == [42]) = (p.toList == [42]) := by rw [Ms.tx, Lib.toList_data]
  rw [e1] at hr
  cases s1 : (p.toList == [42])
  · rw [s1, Ms.okc_vis, Ms.head_pre] at hr
    simp only [Bool.false_eq_true, if_false] at hr
    obtain ⟨t1, h1⟩ : ∃ t1, Lib.hasPrefix (Ms.tx p) [47] = t1 := ⟨_, rfl⟩
    obtain ⟨t2, h2⟩ : ∃ t2, (Ms.tx p).all Ms.vis = t2 := ⟨_, rfl⟩
    obtain ⟨t3, h3⟩ : ∃ t3, decide (0 ≤ Lib.indexByte (Ms.tx p) 35) = t3 := ⟨_, rfl⟩
    have HC : Hid (∀ W, Calls Tryz.prog 136 #[.string p, .string ⟨#[47]⟩] W fun e w' => e = .returned (.bool t1) ∧ w' = W) := hid' (fun W => by have := Tryz.strings_HasPrefix p ⟨#[47]⟩ W; rw [← h1]; exact this)
    have HV : Hid (∀ W, Calls Tryz.prog 137 #[.string p] W fun e w' => e = .returned (.bool t2) ∧ w' = W) := hid' (fun W => cvis14 p t2 h2 W hp)
    have HK : Hid (∀ W, Calls Tryz.prog 138 #[.string p, .string ⟨#[35]⟩] W fun e w' => e = .returned (.bool t3) ∧ w' = W) := hid' (fun W => by have := Tryz.strings_Contains_one p 35 W; rw [← h3]; exact this)
    rw [h1, h2, h3] at hr
    have HR := hid' hr
    clear hr h1 h2 h3 e1
    cases t1
    · have HF : Hid (r = false) := hid' (by rw [← HR.out]; rfl)
      go_enter Tryz.func108, Tryz.ntmps108
      go_wp2_with fail
      refine (HC.out _).mono ?_
      rintro e w1 ⟨rfl, hw⟩
      subst w1
      go_wp2
      go_ret
      exact ⟨by rw [HF.out]; rfl, rfl⟩
    cases t2
    · have HF : Hid (r = false) := hid' (by rw [← HR.out]; rfl)
      go_enter Tryz.func108, Tryz.ntmps108
      go_wp2_with fail
      refine (HC.out _).mono ?_
      rintro e w1 ⟨rfl, hw⟩
      subst w1
      go_wp2_with fail
      refine (HV.out _).mono ?_
      rintro e w1 ⟨rfl, hw⟩
      subst w1
      go_wp2
      go_ret
      exact ⟨by rw [HF.out]; rfl, rfl⟩
    have HF : Hid (r = !t3) := hid' (by rw [← HR.out]; rfl)
    go_enter Tryz.func108, Tryz.ntmps108
    go_wp2_with fail
    refine (HC.out _).mono ?_
    rintro e w1 ⟨rfl, hw⟩
    subst w1
    go_wp2_with fail
    refine (HV.out _).mono ?_
    rintro e w1 ⟨rfl, hw⟩
    subst w1
    go_wp2_with fail
    refine (HK.out _).mono ?_
    rintro e w1 ⟨rfl, hw⟩
    subst w1
    go_wp2
    go_ret
    exact ⟨by rw [HF.out]; rfl, rfl⟩
  · rw [s1] at hr
    simp only [if_true] at hr
    have HF : Hid ((m.toList == [79, 80, 84, 73, 79, 78, 83]) = r) := hid' (by rw [← hr, Ms.tx, Lib.toList_data]; rfl)
    clear hr e1
    go_enter Tryz.func108, Tryz.ntmps108
    go_wp2
    go_ret
    exact ⟨by rw [← HF.out]; rfl, rfl⟩

end Go.Proofs.YthhpejgpfaikaaaGreatDoor

namespace Go.Proofs.YthhpejgpfaikaaaGreatDoor
open Go.RowKit

namespace Ms
/-- What a header list says, as far as it was gone through. -/
structure Hd where
  m : Option ByteArray
  s : Option ByteArray
  p : Option ByteArray
  a : Option ByteArray
  h : Option ByteArray
  bg : Bool
  fs : List Fd
def hof (P : List Fd) : Hd := ⟨fnd sMethod P, fnd sScheme P, fnd sPath P, fnd sAuth P, fnd sHost P, P.any (fun f => !psd f.n), keep P⟩
theorem fnd_no {x : T8} {P : List Fd} {f : Fd} (h : (f.n.toList == x) = false) : fnd x (P ++ [f]) = fnd x P := by
  rw [fnd_app, h]; simp
theorem fnd_yes {x : T8} {P : List Fd} {f : Fd} (h : (f.n.toList == x) = true) (hn : fnd x P = none) : fnd x (P ++ [f]) = some f.v := by
  rw [fnd_app, h, hn]; rfl
theorem ne_of {x y z : T8} (h : (z == x) = true) (hxy : (x == y) = false) : (z == y) = false := by
  rw [beq_iff_eq.1 h]; exact hxy
theorem psd_of {b : ByteArray} {x : T8} (h : (b.toList == x) = true) : psd b = (x.head? == some 58) := by
  unfold psd
  rw [← tl_tx, beq_iff_eq.1 h]
theorem any_app (P : List Fd) (f : Fd) : (P ++ [f]).any (fun f => !psd f.n) = (P.any (fun f => !psd f.n) || !psd f.n) := by simp
theorem keep_app (P : List Fd) (f : Fd) : keep (P ++ [f]) = keep P ++ (if keepB f then [f] else []) := by
  unfold keep
  rw [List.filter_append, List.filter_cons]
  cases keepB f <;> rfl
theorem keep_psd {f : Fd} (h : psd f.n = true) : keepB f = false := by unfold keepB; rw [h]; rfl
theorem hof_m {P : List Fd} {f : Fd} (h : (f.n.toList == sMethod) = true) (hn : fnd sMethod P = none) : hof (P ++ [f]) = { hof P with m := some f.v } := by
  unfold hof
  rw [fnd_yes h hn, fnd_no (ne_of h (by decide)), fnd_no (ne_of h (by decide)), fnd_no (ne_of h (by decide)), fnd_no (ne_of h (by decide)), any_app, keep_app, psd_of h, keep_psd (by rw [psd_of h]; rfl)]
  simp [sMethod]
theorem hof_s {P : List Fd} {f : Fd} (h : (f.n.toList == sScheme) = true) (hn : fnd sScheme P = none) : hof (P ++ [f]) = { hof P with s := some f.v } := by
  unfold hof
  rw [fnd_yes h hn, fnd_no (ne_of h (by decide)), fnd_no (ne_of h (by decide)), fnd_no (ne_of h (by decide)), fnd_no (ne_of h (by decide)), any_app, keep_app, psd_of h, keep_psd (by rw [psd_of h]; rfl)]
  simp [sScheme]
theorem hof_p {P : List Fd} {f : Fd} (h : (f.n.toList == sPath) = true) (hn : fnd sPath P = none) : hof (P ++ [f]) = { hof P with p := some f.v } := by
  unfold hof
  rw [fnd_yes h hn, fnd_no (ne_of h (by decide)), fnd_no (ne_of h (by decide)), fnd_no (ne_of h (by decide)), fnd_no (ne_of h (by decide)), any_app, keep_app, psd_of h, keep_psd (by rw [psd_of h]; rfl)]
  simp [sPath]
theorem hof_a {P : List Fd} {f : Fd} (h : (f.n.toList == sAuth) = true) (hn : fnd sAuth P = none) : hof (P ++ [f]) = { hof P with a := some f.v } := by
  unfold hof
  rw [fnd_yes h hn, fnd_no (ne_of h (by decide)), fnd_no (ne_of h (by decide)), fnd_no (ne_of h (by decide)), fnd_no (ne_of h (by decide)), any_app, keep_app, psd_of h, keep_psd (by rw [psd_of h]; rfl)]
  simp [sAuth]
theorem hof_h {P : List Fd} {f : Fd} (h : (f.n.toList == sHost) = true) (hn : fnd sHost P = none) : hof (P ++ [f]) = { hof P with h := some f.v, bg := true } := by
  have hk : keepB f = false := by unfold keepB; rw [show (f.n.toList == [104, 111, 115, 116]) = true from h, psd_of h]; rfl
  unfold hof
  rw [fnd_yes h hn, fnd_no (ne_of h (by decide)), fnd_no (ne_of h (by decide)), fnd_no (ne_of h (by decide)), fnd_no (ne_of h (by decide)), any_app, keep_app, psd_of h, hk]
  simp [sHost]
theorem hof_te {P : List Fd} {f : Fd} (h : (f.n.toList == sTe) = true) : hof (P ++ [f]) = { hof P with bg := true } := by
  have hk : keepB f = false := by unfold keepB; rw [show (f.n.toList == [116, 101]) = true from h, psd_of h]; simp
  unfold hof
  rw [fnd_no (ne_of h (by decide)), fnd_no (ne_of h (by decide)), fnd_no (ne_of h (by decide)), fnd_no (ne_of h (by decide)), fnd_no (ne_of h (by decide)), any_app, keep_app, psd_of h, hk]
  simp [sTe]
theorem hof_o {P : List Fd} {f : Fd} (hp : psd f.n = false) (h1 : (f.n.toList == sTe) = false) (h2 : (f.n.toList == sHost) = false) : hof (P ++ [f]) = { hof P with bg := true, fs := keep P ++ [f] } := by
  have hk : keepB f = true := by unfold keepB; rw [hp, show (f.n.toList == [116, 101]) = false from h1, show (f.n.toList == [104, 111, 115, 116]) = false from h2]; rfl
  have key : ∀ x : T8, (x.head? == some 58) = true → (f.n.toList == x) = false := fun x hx => by
    cases hq : (f.n.toList == x) with
    | false => rfl
    | true => have := psd_of hq; rw [hp, hx] at this; cases this
  unfold hof
  rw [fnd_no (key sMethod rfl), fnd_no (key sScheme rfl), fnd_no (key sPath rfl), fnd_no (key sAuth rfl), fnd_no h2, any_app, keep_app, hp, hk]
  simp
end Ms

def psV (b : Nat) (n : ByteArray) : Value :=
  if n.toList == [58, 109, 101, 116, 104, 111, 100] then .pointer (some ⟨b, 0, none⟩)
  else if n.toList == [58, 115, 99, 104, 101, 109, 101] then .pointer (some ⟨b, 2, none⟩)
  else if n.toList == [58, 112, 97, 116, 104] then .pointer (some ⟨b, 4, none⟩)
  else if n.toList == [58, 97, 117, 116, 104, 111, 114, 105, 116, 121] then .pointer (some ⟨b, 6, none⟩)
  else .pointer none

end Go.Proofs.YthhpejgpfaikaaaGreatDoor
