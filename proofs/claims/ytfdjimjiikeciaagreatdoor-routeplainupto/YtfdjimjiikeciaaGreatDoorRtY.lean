/-
  The laws' site and awake: by their contracts.
-/
import Derived.Test.YtfdjimjiikeciaaGreatDoorRtX
namespace Go.Proofs.YtfdjimjiikeciaaGreatDoor
open Go.RowKit

theorem own_lit18 (w : World) (e : TypeId) (xs : List Value) (n s : Nat) (hl : xs.length = n * s) (hn : n ≤ maxLen) (B : Nat) (hB : B ≤ w.heap.size) : (w.alloc (.cells xs.toArray e)).ownsRow B e s (.slice (some ⟨w.heap.size, 0, none⟩) n n) n xs :=
  ⟨hl, .inr ⟨w.heap.size, n, xs.toArray, rfl, hB, heap_alloc_last w _, Nat.le_refl _, hn, by simpa using hl, by rw [← hl]; simp⟩⟩
theorem rw_lit18 (w : World) (l : List Fr18) (n : Nat) (hn : l.length = n) (h : n ≤ maxLen) : RW18 (w.alloc (.cells (rC18 l).toArray 26)) (.slice (some ⟨w.heap.size, 0, none⟩) n n) l :=
  RW18.of_own (B := w.heap.size) (e := 26) (by rw [hn]; exact own_lit18 w 26 (rC18 l) n 4 (by rw [rC18_len, hn]) h w.heap.size (Nat.le_refl _))
set_option maxRecDepth 20000 in
theorem eqPm18 (a b : ByteArray) (w : World) : (binOp .eql 42 (.agg #[.string a, .string b]) (.agg #[.string a, .string b])).run Tryz.prog w = .ok (.bool true) w := by
  rw [run_eql_struct, show (10000 : Nat) = 9999 + 1 by rfl, run_equalIn_agg w 9999 42 _ _ fieldsPm18 noStandPm18]
  simp only [Program.fieldsOf, Tryz.underlying42]
  go_simp
theorem pm_own18 {w : World} {B : Nat} {e : TypeId} {ao : Option Addr} {n m cap : Nat} {l : List (List UInt8 × List UInt8)} (h : w.ownsRow B e 2 (.slice ao n cap) m (qC18 l)) (i : Nat) (p : List UInt8 × List UInt8) (hp : l[i]? = some p) : ∃ g, ao = some ⟨g, 0, none⟩ ∧ g < w.heap.size ∧ w.cell? ⟨g, i * 2, none⟩ = some (.string ⟨p.1.toArray⟩) ∧ w.cell? ⟨g, i * 2 + 1, none⟩ = some (.string ⟨p.2.toArray⟩) := by
  have hx : ∀ j, j < 2 → (qC18 l)[i * 2 + j]? = [Value.string ⟨p.1.toArray⟩, .string ⟨p.2.toArray⟩][j]? := by
    unfold qC18
    clear h
    induction l generalizing i with
    | nil => simp at hp
    | cons a r ih =>
      intro j hj
      rw [List.flatMap_cons]
      cases i with
      | zero => simp at hp; subst hp; rw [List.getElem?_append_left (by simp; omega)]; congr 1; omega
      | succ i =>
        rw [List.getElem?_append_right (by simp; omega), show (i + 1) * 2 + j - [Value.string ⟨a.1.toArray⟩, .string ⟨a.2.toArray⟩].length = i * 2 + j by simp; omega]
        exact ih i (by simpa using hp) j hj
  have hne : l ≠ [] := by rintro rfl; simp at hp
  rcases h.2 with ⟨_, h0⟩ | ⟨g, cap', cur, h1, h2⟩
  · have h3 := h.1
    rw [h0] at h3
    have h4 : qC18 l = [] := List.eq_nil_of_length_eq_zero (by rw [h3, Nat.zero_mul])
    have h5 := hx 0 (by omega)
    rw [h4] at h5
    simp at h5
  · injection h1 with h1 h3 h4
    subst h1
    have k0 := h.cells (g := g) rfl (i * 2 + 0) _ (hx 0 (by omega))
    have k1 := h.cells (g := g) rfl (i * 2 + 1) _ (hx 1 (by omega))
    rw [Addr.add_mid, Nat.zero_add] at k0 k1
    exact ⟨g, rfl, own_lt h g rfl, k0, k1⟩
theorem PM18.own {w : World} {B : Nat} {e : TypeId} {ao : Option Addr} {n m cap : Nat} {l : List (List UInt8 × List UInt8)} (h : w.ownsRow B e 2 (.slice ao n cap) m (qC18 l)) : PM18 w ao l := fun i p hp => by
  obtain ⟨g, h1, h2, h3, h4⟩ := pm_own18 h i p hp
  have e : (⟨g, 0, none⟩ : Addr).add (i * 2) = ⟨g, i * 2, none⟩ := by rw [Addr.add_mid, Nat.zero_add]
  exact ⟨⟨g, 0, none⟩, h1, by rw [e]; exact h2, by rw [e]; exact h3, by rw [e]; exact h4⟩
theorem fldMt18 (x : Int) (b c d : Value) (W : World) : (Instr.field 35 (.agg #[.int .i64 x, b, c, d]) 0).run Tryz.prog W = .ok (.int .i64 x) W := by kernel_rfl
namespace Rt
def bE : ByteArray := ⟨#[]⟩
def siteR : List Ro := [⟨sGET, [47], 3⟩, ⟨sGET, [47, 97, 47, 123, 120, 125], 3⟩, ⟨[80, 79, 83, 84], [47, 97, 47, 98], 3⟩, ⟨[], [47, 102, 47, 123, 114, 101, 115, 116, 46, 46, 46, 125], 3⟩]
def siteL : List Fr18 := siteR.map (fun r => (r, ⟨#[]⟩))
def badR : List Ro := [⟨[], [97], 3⟩]
def badL : List Fr18 := badR.map (fun r => (r, ⟨#[]⟩))
theorem site_ok : check siteR = 0 := by decide +kernel
theorem bad_no : check badR = 180 := by decide +kernel
def Mt.is (q : Mt) (st ro : Int) (ps : List (T8 × T8)) (al : T8) : Bool := q.st == st && q.ro == ro && q.ps == ps && q.al == al
theorem Mt.of {q : Mt} {st ro : Int} {ps : List (T8 × T8)} {al : T8} (h : q.is st ro ps al = true) : q = ⟨st, ro, ps, al⟩ := by
  obtain ⟨a, b, c, d⟩ := q
  simp only [Mt.is, Bool.and_eq_true, beq_iff_eq] at h
  obtain ⟨⟨⟨rfl, rfl⟩, rfl⟩, rfl⟩ := h
  rfl
theorem f1 : find siteR [71, 69, 84] [47, 97, 47, 99, 47] = ⟨200, 1, [([120], [99])], []⟩ := Mt.of (by decide +kernel)
theorem f2 : find siteR [71, 69, 84] [47, 97, 47, 98] = ⟨405, -1, [], [79, 80, 84, 73, 79, 78, 83, 44, 32, 80, 79, 83, 84]⟩ := Mt.of (by decide +kernel)
theorem f3 : find siteR [72, 69, 65, 68] [47] = ⟨200, 0, [], []⟩ := Mt.of (by decide +kernel)
theorem f4 : find siteR [71, 69, 84] [47, 120] = ⟨404, -1, [], []⟩ := Mt.of (by decide +kernel)
end Rt

set_option maxHeartbeats 2000000 in
set_option maxRecDepth 20000 in
theorem rsite18 (w : World) : Calls Tryz.prog 23 #[] w fun e w' => (∃ g, e = .returned (.slice (some ⟨g, 0, none⟩) 4 4) ∧ RW18 w' (.slice (some ⟨g, 0, none⟩) 4 4) Rt.siteL) ∧ Below w.heap.size w w' := by
  have HR := hid' (rw_lit18 w Rt.siteL 4 rfl (by decide))
  have HB := hid' (bl_alloc17 w (.cells (rC18 Rt.siteL).toArray 26))
  go_enter Tryz.func23, Tryz.ntmps23
  go_wp2
  go_ret
  exact ⟨⟨w.heap.size, rfl, HR.out⟩, HB.out⟩

theorem BD18.lit (l : List Fr18) (h : l.all (fun x => decide (x.1.p.length ≤ 4194304) && decide (x.1.m.length ≤ 4194304)) = true) : BD18 l := fun x hx => by
  have := List.all_eq_true.1 h x hx
  rw [Bool.and_eq_true, decide_eq_true_iff, decide_eq_true_iff] at this
  exact this

set_option maxHeartbeats 8000000 in
set_option maxRecDepth 20000 in
theorem awake18 (w : World) : Calls Tryz.prog 10 #[] w fun e w' => e = .returned (.bool true) ∧ Below w.heap.size w w' := by
  have he := eqPm18
  have hf := fldMt18
  go_enter Tryz.func10, Tryz.ntmps10
  go_wp2_with fail
  refine (rsite18 _).mono ?_
  rintro e w1 ⟨⟨g, rfl, hr1⟩, hb1⟩
  have HB1 := hid' hb1
  have HC := hid' (cnew18 (some ⟨g, 0, none⟩) 4 4 Rt.siteL rfl (by decide) (BD18.lit _ (by decide +kernel)) w1 hr1)
  clear hb1 hr1
  go_wp2_with fail
  refine HC.out.mono ?_
  rintro e w2 ⟨hn2, hb2⟩
  have hn3 : newR18 w1 Rt.siteR e w2 := hn2
  obtain ⟨b, rfl, hrt⟩ : ∃ b, e = .returned (.tuple #[.pointer (some ⟨b, 0, none⟩), .int .i64 0]) ∧ RT18 w2 w1.heap.size b Rt.siteR := by
    rcases hn3 with ⟨h0, _⟩ | ⟨_, b, h, _, _, hrt⟩
    · rw [Rt.site_ok] at h0; cases h0
    · exact ⟨b, h, hrt⟩
  have HB2 := hid' (below_two HB1.out hb2)
  have HR2 := hid' hrt
  clear hb2 hn2 hn3 hrt HC
  have HRB := hid' (rw_lit18 w2 Rt.badL 1 rfl (by decide))
  have HBB := hid' (bl_alloc17 w2 (.cells (rC18 Rt.badL).toArray 26))
  have hbc : (Obj.cells (rC18 Rt.badL).toArray 26) = .cells #[.string ⟨#[]⟩, .string ⟨#[97]⟩, .int .u8 3, .string ⟨#[]⟩] 26 := rfl
  rw [hbc] at HRB HBB
  clear hbc
  go_wp2_with fail
  have HC2 := hid' (cnew18 (some ⟨w2.heap.size, 0, none⟩) 1 1 Rt.badL rfl (by decide) (BD18.lit _ (by decide +kernel)) _ HRB.out)
  refine HC2.out.mono ?_
  rintro e w3 ⟨hn2, hb3⟩
  have hn3 : newR18 _ Rt.badR e w3 := hn2
  obtain rfl : e = .returned (.tuple #[.pointer none, .int .i64 180]) := by
    rcases hn3 with ⟨_, h⟩ | ⟨h0, _⟩
    · rw [Rt.bad_no] at h; exact h
    · rw [Rt.bad_no] at h0; cases h0
  have hbl3 := below_two HBB.out hb3
  have HB3 := hid' (below_two HB2.out hbl3)
  have HR3 := hid' (HR2.out.below hbl3)
  clear hb3 hn2 hn3 hbl3 HC2 HRB HBB
  have HF1 := hid' (fun W (h : RT18 W w1.heap.size b Rt.siteR) => cfind18 w1.heap.size b Rt.siteR ⟨#[71, 69, 84]⟩ [71, 69, 84] rfl ⟨#[47, 97, 47, 99, 47]⟩ [47, 97, 47, 99, 47] rfl (by decide) W h)
  have HF2 := hid' (fun W (h : RT18 W w1.heap.size b Rt.siteR) => cfind18 w1.heap.size b Rt.siteR ⟨#[71, 69, 84]⟩ [71, 69, 84] rfl ⟨#[47, 97, 47, 98]⟩ [47, 97, 47, 98] rfl (by decide) W h)
  have HF3 := hid' (fun W (h : RT18 W w1.heap.size b Rt.siteR) => cfind18 w1.heap.size b Rt.siteR ⟨#[72, 69, 65, 68]⟩ [72, 69, 65, 68] rfl ⟨#[47]⟩ [47] rfl (by decide) W h)
  have HF4 := hid' (fun W (h : RT18 W w1.heap.size b Rt.siteR) => cfind18 w1.heap.size b Rt.siteR ⟨#[71, 69, 84]⟩ [71, 69, 84] rfl ⟨#[47, 120]⟩ [47, 120] rfl (by decide) W h)
  rw [Rt.f1] at HF1
  rw [Rt.f2] at HF2
  rw [Rt.f3] at HF3
  rw [Rt.f4] at HF4
  go_wp2_with fail
  refine (HF1.out _ HR3.out).mono ?_
  rintro e w4 ⟨⟨m, ro1, rc1, rfl, hm, ho⟩, hb4⟩
  obtain rfl : 1 = m := hm
  have HO4 := hid' ho
  clear ho
  go_wp2_with (refine wpl_alloc 35 rfl rfl _ zeroMt18 ?_)
  intro m1 w5 hm1 ha5 hb5
  have HA5 := hid' ha5
  have HBb := hid' hb5
  have HMk := hid' hm1
  have HBa := hid' hb4
  clear ha5 hb5 hm1 hb4
  go_wp2_with (refine wpl_store 35 _ _ rfl rfl m1 #[.int .i64 200, .int .i64 1, .slice ro1 1 rc1, .string ⟨#[]⟩] (by kernel_rfl) (by kernel_rfl) _ _ HA5.out sizeMt18 rfl (by simp [Value.oneCell']) ?_)
  intro w6 hwf huf
  have hb6y : Below w4.heap.size w4 w6 := HBb.out.trans (huf.below HMk.out)
  have hb6x : Below w3.heap.size w3 w6 := below_two HBa.out hb6y
  have HB6 := hid' (below_two HB3.out hb6x)
  have HR6 := hid' (HR3.out.below hb6x)
  have HM1_6 := hid' hwf
  have HO1_6 := hid' (own_kp17 HO4.out hb6y)
  clear hb6x hb6y hwf huf HBb HBa HMk HA5 HO4
  go_wp2_with fail
  refine (HF2.out _ HR6.out).mono ?_
  rintro e w7 ⟨⟨m, ro2, rc2, rfl, hm, ho⟩, hb7⟩
  obtain rfl : 0 = m := hm
  have HO7 := hid' ho
  clear ho
  go_wp2_with (refine wpl_alloc 35 rfl rfl _ zeroMt18 ?_)
  intro m2 w8 hm2 ha8 hb8
  have HA8 := hid' ha8
  have HBb := hid' hb8
  have HMk := hid' hm2
  have HBa := hid' hb7
  clear ha8 hb8 hm2 hb7
  go_wp2_with (refine wpl_store 35 _ _ rfl rfl m2 #[.int .i64 405, .int .i64 (-1), .slice ro2 0 rc2, .string ⟨#[79, 80, 84, 73, 79, 78, 83, 44, 32, 80, 79, 83, 84]⟩] (by kernel_rfl) (by kernel_rfl) _ _ HA8.out sizeMt18 rfl (by simp [Value.oneCell']) ?_)
  intro w9 hwf huf
  have hb9y : Below w7.heap.size w7 w9 := HBb.out.trans (huf.below HMk.out)
  have hb9x : Below w6.heap.size w6 w9 := below_two HBa.out hb9y
  have HB9 := hid' (below_two HB6.out hb9x)
  have HR9 := hid' (HR6.out.below hb9x)
  have HM2_9 := hid' hwf
  have HO2_9 := hid' (own_kp17 HO7.out hb9y)
  have HM1_9 := hid' (HM1_6.out.keep hb9x)
  have HO1_9 := hid' (own_kp17 HO1_6.out hb9x)
  clear hb9x hb9y hwf huf HBb HBa HMk HA8 HO7
  go_wp2_with fail
  refine (HF3.out _ HR9.out).mono ?_
  rintro e w10 ⟨⟨m, ro3, rc3, rfl, hm, ho⟩, hb10⟩
  obtain rfl : 0 = m := hm
  have HO10 := hid' ho
  clear ho
  go_wp2_with (refine wpl_alloc 35 rfl rfl _ zeroMt18 ?_)
  intro m3 w11 hm3 ha11 hb11
  have HA11 := hid' ha11
  have HBb := hid' hb11
  have HMk := hid' hm3
  have HBa := hid' hb10
  clear ha11 hb11 hm3 hb10
  go_wp2_with (refine wpl_store 35 _ _ rfl rfl m3 #[.int .i64 200, .int .i64 0, .slice ro3 0 rc3, .string ⟨#[]⟩] (by kernel_rfl) (by kernel_rfl) _ _ HA11.out sizeMt18 rfl (by simp [Value.oneCell']) ?_)
  intro w12 hwf huf
  have hb12y : Below w10.heap.size w10 w12 := HBb.out.trans (huf.below HMk.out)
  have hb12x : Below w9.heap.size w9 w12 := below_two HBa.out hb12y
  have HB12 := hid' (below_two HB9.out hb12x)
  have HR12 := hid' (HR9.out.below hb12x)
  have HM3_12 := hid' hwf
  have HO3_12 := hid' (own_kp17 HO10.out hb12y)
  have HM1_12 := hid' (HM1_9.out.keep hb12x)
  have HM2_12 := hid' (HM2_9.out.keep hb12x)
  have HO1_12 := hid' (own_kp17 HO1_9.out hb12x)
  have HO2_12 := hid' (own_kp17 HO2_9.out hb12x)
  clear hb12x hb12y hwf huf HBb HBa HMk HA11 HO10
  obtain ⟨g1, hg1, _, y0, y1⟩ := pm_own18 HO1_12.out 0 ([120], [99]) rfl
  subst hg1
  have p0 := HM1_12.out.cell 0 _ rfl
  have p1 := HM1_12.out.cell 1 _ rfl
  have p2 := HM1_12.out.cell 2 _ rfl
  have q0 := HM2_12.out.cell 0 _ rfl
  have q3 := HM2_12.out.cell 3 _ rfl
  have r0 := HM3_12.out.cell 0 _ rfl
  go_wp2_with fail
  refine (HF4.out _ HR12.out).mono ?_
  rintro e wl ⟨⟨m, rol, rcl, rfl, hm, ho⟩, hbl⟩
  have HBl := hid' (below_two HB12.out hbl)
  clear hm ho hbl
  go_wp2
  go_ret
  exact ⟨rfl, HBl.out⟩

end Go.Proofs.YtfdjimjiikeciaaGreatDoor
