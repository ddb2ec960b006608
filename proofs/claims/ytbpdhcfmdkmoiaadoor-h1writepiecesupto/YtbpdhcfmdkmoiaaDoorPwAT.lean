/-
  The document's whole numbers: trim, add, each by its contract.
-/
import Derived.Test.YtbpdhcfmdkmoiaaDoorPwAR
import Derived.Test.YtbpdhcfmdkmoiaaDoorPwAS
namespace Go.Proofs.YtbpdhcfmdkmoiaaDoor
open Go.RowKit

/-- A slice of ints: the value v reads as the numbers l in the world w. -/
def Ints (w : World) (v : Value) (l : List Int) : Prop :=
  ∃ a cap, v = .slice a l.length cap ∧ l.length ≤ cap ∧ ∀ j (hj : j < l.length), ∃ b o, a = some ⟨b, o, none⟩ ∧ w.cell? ⟨b, o + j, none⟩ = some (.int .i64 l[j])
theorem Ints.head {w : World} {v : Value} {l : List Int} (h : Ints w v l) (hl : 0 < l.length) : ∃ b o cap, v = .slice (some ⟨b, o, none⟩) l.length cap ∧ l.length ≤ cap ∧ ∀ j (hj : j < l.length), w.cell? ⟨b, o + j, none⟩ = some (.int .i64 l[j]) := by
  obtain ⟨a, cap, rfl, hc0, hc⟩ := h
  obtain ⟨b, o, rfl, _⟩ := hc 0 hl
  refine ⟨b, o, cap, rfl, hc0, fun j hj => ?_⟩
  obtain ⟨b', o', e, h'⟩ := hc j hj
  cases e
  exact h'
theorem Ints.below {w w' : World} {v : Value} {l : List Int} (h : Ints w v l) (hb : Below w.heap.size w w') : Ints w' v l := by
  obtain ⟨a, cap, rfl, hc0, hc⟩ := h
  refine ⟨a, cap, rfl, hc0, fun j hj => ?_⟩
  obtain ⟨b, o, e, h'⟩ := hc j hj
  exact ⟨b, o, e, (hb.cell (World.block_lt_of_cell? w _ h')).trans h'⟩
/-- The slice lies in blocks from B on (or nowhere). -/
def Fresh (B : Nat) (v : Value) : Prop := ∀ a n c, v = .slice (some a) n c → B ≤ a.block
theorem fresh_own {w : World} {B e n : Nat} {v : Value} {xs : List Value} (h : w.ownsRow B e 1 v n xs) : Fresh B v := by
  intro a n' c' e'
  rcases h.2 with ⟨rfl, _⟩ | ⟨g, cap, cur, rfl, hb, _⟩
  · cases e'
  · cases e'; exact hb
theorem Fresh.mono {B B' : Nat} {v : Value} (h : Fresh B v) (hb : B' ≤ B) : Fresh B' v := fun a n c e => Nat.le_trans hb (h a n c e)
theorem Ints.set_far {w : World} {v : Value} {l : List Int} {B : Nat} (h : Ints w v l) (hf : Fresh B v) {p : Addr} (hp : p.block < B) (z : Value) : Ints (w.setCell p z) v l := by
  obtain ⟨a, cap, rfl, hc0, hc⟩ := h
  refine ⟨a, cap, rfl, hc0, fun j hj => ?_⟩
  obtain ⟨b, o, e, h'⟩ := hc j hj
  refine ⟨b, o, e, ?_⟩
  have := hf ⟨b, o, none⟩ _ _ (by rw [e])
  rw [World.cell?_setCell_other w _ _ _ (by intro e2; rw [e2] at hp; simp at hp this; omega)]
  exact h'
/-- The cells of ints. -/
def intCells (l : List Int) : List Value := l.map fun d => .int .i64 d
theorem ints_own {w : World} {B : Nat} {v : Value} {l : List Int} (h : w.ownsRow B 3 1 v l.length (intCells l)) : Ints w v l := by
  rcases h.2 with ⟨rfl, hn⟩ | ⟨g, cap, cur, rfl, _, _, hcap, _⟩
  · exact ⟨none, 0, by rw [hn], by omega, fun j hj => absurd hj (by omega)⟩
  · refine ⟨some ⟨g, 0, none⟩, cap, rfl, hcap, fun j hj => ⟨g, 0, rfl, ?_⟩⟩
    have := h.cells (g := g) rfl j (.int .i64 l[j]) (by rw [intCells, List.getElem?_map, List.getElem?_eq_getElem hj]; rfl)
    have hadd : (⟨g, 0, none⟩ : Addr).add j = ⟨g, 0 + j, none⟩ := by unfold Addr.add; split <;> simp_all
    rwa [hadd] at this

theorem ints_own' {w : World} {B k : Nat} {v : Value} {l : List Int} (h : w.ownsRow B 3 1 v k (intCells l)) (hk : l.length = k) : Ints w v l := by
  subst hk; exact ints_own h

theorem fresh_cut {a : Option Addr} {n c n' c' : Nat} : ∀ B, Fresh B (.slice a n c) → Fresh B (.slice a n' c') := by
  intro B h x m k e
  cases e
  exact h x n c rfl

set_option maxHeartbeats 1000000 in
theorem btrim_any (v : Value) (l : List Int) (w : World) (hv : Ints w v l) (hl : l.length ≤ 1000) :
    Calls Tryd.prog 75 #[v] w fun e w' => ∃ v', e = .returned v' ∧ w' = w ∧ (∀ B, Fresh B v → Fresh B v') ∧ ∃ n, Ints w v' (l.take n) ∧ Big.tr l n := by
  by_cases hpos : 0 < l.length
  · obtain ⟨b, o, cap, rfl, hcap, hc⟩ := hv.head hpos
    have HC := hid hc
    obtain ⟨N, hN⟩ : ∃ N, N = l.length := ⟨_, rfl⟩
    have HN := hid hN
    rw [← hN] at hcap hl hpos ⊢
    clear hc hv hN
    go_enter Tryd.func75, Tryd.ntmps75
    go_wp2
    go_loop [3] (fun i => ∃ k : Nat, k ≤ N ∧ i = .int .i64 k ∧ ∀ d ∈ l.drop k, d = 0) (fun i => (intOf i).toNat)
    case atStart => exact ⟨N, Nat.le_refl _, rfl, fun d hd => by rw [List.drop_eq_nil_of_le (by rw [HN.out]; exact Nat.le_refl _)] at hd; cases hd⟩
    case round =>
      obtain ⟨k, hk, rfl, hz⟩ := hrel
      have HZ := hid hz
      clear hz
      by_cases h0 : 0 < k
      · obtain ⟨k, rfl⟩ : ∃ k', k = k' + 1 := ⟨k - 1, by omega⟩
        have hkl : k < l.length := by rw [← HN.out]; omega
        have hcell := HC.out k hkl
        obtain ⟨d, hd⟩ : ∃ d, d = l[k] := ⟨_, rfl⟩
        rw [← hd] at hcell
        have HD := hid hd
        clear hd
        by_cases hd0 : (d == 0) = true
        · have HZ' : Hid (∀ d ∈ l.drop k, d = 0) := hid (fun x hx => by
            rw [List.drop_eq_getElem_cons hkl] at hx
            rcases List.mem_cons.1 hx with hx | hx
            · rw [hx, ← HD.out]; exact beq_iff_eq.1 hd0
            · exact HZ.out x hx)
          go_wp2
          go_round
          case rel => exact ⟨k, by omega, by go_num, HZ'.out⟩
          case measure => simp [intOf]
        · replace hd0 : (d == 0) = false := by simpa using hd0
          have HT : Hid (Big.tr l (k + 1)) := hid ⟨by omega, Big.val_drop0 l _ HZ.out, fun x hx => by
            rw [List.take_succ_eq_append_getElem hkl, List.getLast?_append] at hx
            simp at hx
            rw [← hx, ← HD.out]; exact beq_eq_false_iff_ne.1 hd0⟩
          go_wp2
          go_ret
          refine ⟨.slice (some ⟨b, o, none⟩) (k + 1) cap, rfl, rfl, fresh_cut, k + 1, ⟨some ⟨b, o, none⟩, cap, ?_, ?_, fun j hj => ⟨b, o, rfl, ?_⟩⟩, HT.out⟩
          · rw [List.length_take, Nat.min_eq_left (by omega)]
          · rw [List.length_take]; omega
          · rw [List.length_take] at hj
            rw [HC.out j (by omega), List.getElem_take]
      · obtain rfl : k = 0 := by omega
        have HT : Hid (Big.tr l 0) := hid ⟨Nat.zero_le _, Big.val_drop0 l _ HZ.out, fun x hx => by simp at hx⟩
        go_wp2
        go_ret
        exact ⟨.slice (some ⟨b, o, none⟩) 0 cap, rfl, rfl, fresh_cut, 0, ⟨some ⟨b, o, none⟩, cap, rfl, Nat.zero_le _, fun j hj => by simp at hj⟩, HT.out⟩
  · obtain rfl : l = [] := List.eq_nil_of_length_eq_zero (by omega)
    obtain ⟨a, cap, rfl, hcap, _⟩ := hv
    go_enter Tryd.func75, Tryd.ntmps75
    go_wp2
    go_loop [3] (fun i => i = .int .i64 0) (fun _ => 0)
    case atStart => rfl
    case round =>
      obtain rfl := hrel
      go_wp2
      go_ret
      exact ⟨.slice a 0 cap, rfl, rfl, fun _ h => h, ⟨a, cap, rfl, Nat.zero_le _, fun j hj => by simp at hj⟩, 0, Nat.zero_le _, rfl, fun d hd => by simp at hd⟩

theorem Tryd.info3 : (Tryd.prog.info? 3).map (fun i => (i.zero, i.size, i.bytes)) = some (some (.int .i64 0), 1, 8) := by kernel_rfl
theorem new_int (w : World) (u : Value) (t : TypeId) : ∀ (j : Nat) (x : Value), [u][j]? = some x → (w.alloc (.cells #[u] t)).cell? ((⟨w.heap.size, 0, none⟩ : Addr).add j) = some x := by
  intro j x hj
  match j, hj with
  | 0, hj => simp at hj; subst hj; simp [Addr.add]
theorem one_int (n : Int) : ∀ u ∈ [Value.int .i64 n], u.oneCell' = true := by
  intro u hu; simp at hu; subst hu; rfl
theorem intCells_snoc (l : List Int) (c : Int) : intCells (l ++ [c]) = intCells l ++ [.int .i64 c] := by unfold intCells; rw [List.map_append]; rfl
/-- A whole number's digits. -/
structure Wh (w : World) (v : Value) (l : List Int) (x : Int) : Prop where
  ints : Ints w v l
  digs : Big.Digs l
  norm : Big.Norm l
  val : Big.val l = x
  len : l.length ≤ 100
theorem Wh.set_far {w : World} {v : Value} {l : List Int} {x : Int} {B : Nat} (h : Wh w v l x) (hf : Fresh B v) {p : Addr} (hp : p.block < B) (z : Value) : Wh (w.setCell p z) v l x := ⟨h.ints.set_far hf hp z, h.digs, h.norm, h.val, h.len⟩
theorem Wh.below {w w' : World} {v : Value} {l : List Int} {x : Int} (h : Wh w v l x) (hb : Below w.heap.size w w') : Wh w' v l x := ⟨h.ints.below hb, h.digs, h.norm, h.val, h.len⟩

set_option maxRecDepth 20000 in
set_option maxHeartbeats 2000000 in
theorem badd_any (va vb : Value) (la lb : List Int) (x y : Int) (w : World) (ha : Wh w va la x) (hb : Wh w vb lb y) (hla : la.length ≤ 90) (hlb : lb.length ≤ 90) :
    Calls Tryd.prog 72 #[va, vb] w fun e w' => ∃ v', e = .returned v' ∧ Fresh w.heap.size v' ∧ (∃ l', Wh w' v' l' (x + y) ∧ l'.length ≤ max la.length lb.length + 1) ∧ Below w.heap.size w w' := by
  obtain ⟨aa, ca, rfl, _, hca⟩ := ha.ints
  obtain ⟨ab, cb, rfl, _, hcb⟩ := hb.ints
  have HCA := hid hca
  have HCB := hid hcb
  have HDA := hid ha.digs
  have HDB := hid hb.digs
  have HVX := hid ha.val
  have HVY := hid hb.val
  clear ha hb hca hcb
  obtain ⟨i0, hi, hz0, hz1, hz2⟩ := info_parts Tryd.info3
  go_enter Tryd.func72, Tryd.ntmps72
  go_wp2
  go_loopw [5, 6, 7] (fun v cv i wr => ∃ (k : Nat) (c : Int) (ol : List Int), i = .int .i64 k ∧ cv = .int .i64 c ∧ Big.AddRel la lb ol k c ∧ wr.ownsRow w.heap.size 3 1 v k (intCells ol) ∧ Below w.heap.size w wr) (fun _ _ i _ => max la.length lb.length + 1 - (intOf i).toNat)
  case atStart => exact ⟨0, 0, [], rfl, rfl, Big.AddRel.start la lb, World.ownsRow_nil _ _ _ _, Below.refl _ _⟩
  case round =>
    obtain ⟨k, c, ol, rfl, rfl, hr, hown, hbel⟩ := hrel
    have c0 := hr.c0
    have c1 := hr.c1
    have htop := hr.top
    have hsz := hbel.size
    have hk200 : k ≤ 200 := by omega
    have HR := hid hr
    have HBEL := hid hbel
    clear hr hbel
    by_cases h1 : k < la.length
    · obtain ⟨ba, oa, rfl, hcella⟩ := HCA.out k h1
      replace hcella := (HBEL.out.cell (p := ⟨ba, oa + k, none⟩) (World.block_lt_of_cell? w _ hcella)).trans hcella
      obtain ⟨xa, hxa⟩ : ∃ xa, xa = la[k] := ⟨_, rfl⟩
      obtain ⟨xa0, xa1⟩ := HDA.out la[k] (List.getElem_mem _)
      rw [← hxa] at hcella xa0 xa1
      rw [Big.bas_eq] at xa1
      have HXA := hid hxa
      clear hxa
      by_cases h2 : k < lb.length
      · obtain ⟨bb, ob, rfl, hcellb⟩ := HCB.out k h2
        replace hcellb := (HBEL.out.cell (p := ⟨bb, ob + k, none⟩) (World.block_lt_of_cell? w _ hcellb)).trans hcellb
        obtain ⟨xb, hxb⟩ : ∃ xb, xb = lb[k] := ⟨_, rfl⟩
        obtain ⟨xb0, xb1⟩ := HDB.out lb[k] (List.getElem_mem _)
        rw [← hxb] at hcellb xb0 xb1
        rw [Big.bas_eq] at xb1
        have HXB := hid hxb
        clear hxb
        have HN : Hid (Big.AddRel la lb (ol ++ [(c + xa + xb) % 1073741824]) (k + 1) ((c + xa + xb) / 1073741824)) := hid (HR.out.step xa xb _ rfl xa0 xb0 (by rw [Big.bas_eq]; exact xa1) (by rw [Big.bas_eq]; exact xb1) (by rw [HXA.out]; exact Big.val_take la k h1) (by rw [HXB.out]; exact Big.val_take lb k h2) (by omega) (fun h => by omega))
        go_wp2_with (at_builtin; refine wpList_append_own _ rfl _ _ 66 rfl w.heap.size 3 i0 (.int .i64 0) 1 8 Tryd.underlying66 hi hz0 hz1 hz2 rfl (by decide) _ _ _ rfl (hown.alloc _) ⟨_, 0, none⟩ 1 1 [.int .i64 ((c + xa + xb) % 1073741824)] rfl rfl (new_int _ _ _) (one_int _) (by unfold maxLen; omega) (by omega) (by simp; omega) ?_; intro v' w3 hown' hgrow _; have HO := hid hown'; have HG := hid hgrow; clear hown' hgrow)
        go_roundw
        case rel => exact ⟨k + 1, _, _, by go_num, rfl, HN.out, by rw [intCells_snoc]; exact HO.out, (HBEL.out.alloc hsz _).grown HG.out (by simp; omega) (fun k hk => (hown.lt k hk).1)⟩
        case measure => simp [intOf]; omega
      · have HN : Hid (Big.AddRel la lb (ol ++ [(c + xa) % 1073741824]) (k + 1) ((c + xa) / 1073741824)) := hid (HR.out.step xa 0 (c + xa) (by omega) xa0 (Int.le_refl _) (by rw [Big.bas_eq]; exact xa1) (by decide) (by rw [HXA.out]; exact Big.val_take la k h1) (by rw [Big.val_take' lb k (by omega)]; omega) (by omega) (fun h => by omega))
        go_wp2_with (at_builtin; refine wpList_append_own _ rfl _ _ 66 rfl w.heap.size 3 i0 (.int .i64 0) 1 8 Tryd.underlying66 hi hz0 hz1 hz2 rfl (by decide) _ _ _ rfl (hown.alloc _) ⟨_, 0, none⟩ 1 1 [.int .i64 ((c + xa) % 1073741824)] rfl rfl (new_int _ _ _) (one_int _) (by unfold maxLen; omega) (by omega) (by simp; omega) ?_; intro v' w3 hown' hgrow _; have HO := hid hown'; have HG := hid hgrow; clear hown' hgrow)
        go_roundw
        case rel => exact ⟨k + 1, _, _, by go_num, rfl, HN.out, by rw [intCells_snoc]; exact HO.out, (HBEL.out.alloc hsz _).grown HG.out (by simp; omega) (fun k hk => (hown.lt k hk).1)⟩
        case measure => simp [intOf]; omega
    · by_cases h2 : k < lb.length
      · obtain ⟨bb, ob, rfl, hcellb⟩ := HCB.out k h2
        replace hcellb := (HBEL.out.cell (p := ⟨bb, ob + k, none⟩) (World.block_lt_of_cell? w _ hcellb)).trans hcellb
        obtain ⟨xb, hxb⟩ : ∃ xb, xb = lb[k] := ⟨_, rfl⟩
        obtain ⟨xb0, xb1⟩ := HDB.out lb[k] (List.getElem_mem _)
        rw [← hxb] at hcellb xb0 xb1
        rw [Big.bas_eq] at xb1
        have HXB := hid hxb
        clear hxb
        have HN : Hid (Big.AddRel la lb (ol ++ [(c + xb) % 1073741824]) (k + 1) ((c + xb) / 1073741824)) := hid (HR.out.step 0 xb (c + xb) (by omega) (Int.le_refl _) xb0 (by decide) (by rw [Big.bas_eq]; exact xb1) (by rw [Big.val_take' la k (by omega)]; omega) (by rw [HXB.out]; exact Big.val_take lb k h2) (by omega) (fun h => by omega))
        go_wp2_with (at_builtin; refine wpList_append_own _ rfl _ _ 66 rfl w.heap.size 3 i0 (.int .i64 0) 1 8 Tryd.underlying66 hi hz0 hz1 hz2 rfl (by decide) _ _ _ rfl (hown.alloc _) ⟨_, 0, none⟩ 1 1 [.int .i64 ((c + xb) % 1073741824)] rfl rfl (new_int _ _ _) (one_int _) (by unfold maxLen; omega) (by omega) (by simp; omega) ?_; intro v' w3 hown' hgrow _; have HO := hid hown'; have HG := hid hgrow; clear hown' hgrow)
        go_roundw
        case rel => exact ⟨k + 1, _, _, by go_num, rfl, HN.out, by rw [intCells_snoc]; exact HO.out, (HBEL.out.alloc hsz _).grown HG.out (by simp; omega) (fun k hk => (hown.lt k hk).1)⟩
        case measure => simp [intOf]; omega
      · by_cases hc : 0 < c
        · have hkM : k < max la.length lb.length + 1 := by
            rcases Nat.lt_or_ge k (max la.length lb.length + 1) with h | h
            · exact h
            · have := HR.out.last (by omega); omega
          have HN : Hid (Big.AddRel la lb (ol ++ [c % 1073741824]) (k + 1) (c / 1073741824)) := hid (HR.out.step 0 0 c (by omega) (Int.le_refl _) (Int.le_refl _) (by decide) (by decide) (by rw [Big.val_take' la k (by omega)]; omega) (by rw [Big.val_take' lb k (by omega)]; omega) (by omega) (fun h => by rw [Big.bas_eq]; omega))
          go_wp2_with (at_builtin; refine wpList_append_own _ rfl _ _ 66 rfl w.heap.size 3 i0 (.int .i64 0) 1 8 Tryd.underlying66 hi hz0 hz1 hz2 rfl (by decide) _ _ _ rfl (hown.alloc _) ⟨_, 0, none⟩ 1 1 [.int .i64 ((c) % 1073741824)] rfl rfl (new_int _ _ _) (one_int _) (by unfold maxLen; omega) (by omega) (by simp; omega) ?_; intro v' w3 hown' hgrow _; have HO := hid hown'; have HG := hid hgrow; clear hown' hgrow)
          go_roundw
          case rel => exact ⟨k + 1, _, _, by go_num, rfl, HN.out, by rw [intCells_snoc]; exact HO.out, (HBEL.out.alloc hsz _).grown HG.out (by simp; omega) (fun k hk => (hown.lt k hk).1)⟩
          case measure => simp [intOf]; omega
        · obtain rfl : c = 0 := by omega
          have HV := hid (HR.out.done (by omega) (by omega))
          have HDO := hid HR.out.dig
          have HLO := hid HR.out.len
          have HI := hid (ints_own' hown HLO.out)
          have HFR := hid (fresh_own hown)
          have hol : ol.length ≤ 1000 := by rw [HLO.out]; omega
          clear hown
          go_wp2_with (go_at_call 75; refine (btrim_any _ ol _ HI.out hol).mono ?_; rintro e w' ⟨v', rfl, rfl, hfr, n, hin, htr⟩)
          go_ret
          refine ⟨v', rfl, hfr _ HFR.out, ⟨ol.take n, ⟨hin, HDO.out.take n, htr.2.2, by rw [htr.2.1, HV.out, HVX.out, HVY.out], ?_⟩, ?_⟩, HBEL.out⟩
          · rw [List.length_take, HLO.out]; omega
          · rw [List.length_take, HLO.out]; omega

end Go.Proofs.YtbpdhcfmdkmoiaaDoor
