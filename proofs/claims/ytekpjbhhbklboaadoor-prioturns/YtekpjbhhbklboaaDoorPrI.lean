/-
  The code's ahead: by its contract.
-/
import Derived.Test.YtekpjbhhbklboaaDoorPrH
import Derived.Deep.CutRange
namespace Go.Proofs.YtekpjbhhbklboaaDoor
open Go.RowKit

theorem bl1 (w : World) (x : Obj) : Below w.heap.size w (w.alloc x).drew := ((Below.refl _ _).alloc (Nat.le_refl _) _).drew
theorem bl2 (w : World) (x y : Obj) : Below w.heap.size w ((w.alloc x).alloc y).drew := (below_two ((Below.refl _ _).alloc (Nat.le_refl _) _) ((Below.refl _ _).alloc (Nat.le_refl _) _)).drew
theorem ar_first (w : World) (t : TypeId) (c : Array Value) (y : Obj) : Ar ((w.alloc (.cells c t)).alloc y).drew w.heap.size t c :=
  Ar.drew (Ar.keep (heap_alloc_last w _) ((Below.refl _ _).alloc (Nat.le_refl _) _))
theorem ar_second (w : World) (t : TypeId) (c : Array Value) (x : Obj) : Ar ((w.alloc x).alloc (.cells c t)).drew (w.heap.size + 1) t c := by
  have := heap_alloc_last (w.alloc x) (.cells c t)
  have e : (w.alloc x).heap.size = w.heap.size + 1 := by simp
  rw [e] at this
  exact Ar.drew this
set_option maxHeartbeats 4000000 in
theorem cahead_any (B b : Nat) (mv : Value) (l : Pr.Ln) (a c : Int) (u v : Nat) (p q : Bool) (ha : Pr.wt l a = some (u, p)) (hc : Pr.wt l c = some (v, q)) (w : World) (h : CM w B b mv l) (r : Bool) (hr : Pr.ahd l a c = r) :
    Calls Tryd.prog 35 #[.pointer (some ⟨b, 0, none⟩), .int .i64 a, .int .i64 c] w fun e w' => e = .returned (.bool r) ∧ Below w.heap.size w w' := by
  obtain ⟨mo, rfl⟩ := h.mp.form
  have H := hid' h
  have HR := hid' hr
  have HA := hid' ha
  have HC := hid' hc
  have c0 := h.hd.cell 0 _ (clC0 _ _ _)
  have HU7 : Hid (u ≤ 7) := hid' (by
    cases hp : Pr.pl l.ids a with
    | none => rw [Pr.wt_none hp] at ha; cases ha
    | some i =>
      obtain ⟨u', p', h1, _, h3⟩ := Pr.wt_at h.ok hp
      rw [ha] at h1
      injection h1 with h1
      injection h1 with h1 _
      omega)
  clear h hr ha hc
  go_enter Tryd.func35, Tryd.ntmps35
  go_upto_region 1 with fail
  go_cut [7, 8] from 11 (fun s7 s8 wx => ∃ b7 b8, s7 = .pointer (some ⟨b7, 0, none⟩) ∧ s8 = .pointer (some ⟨b8, 0, none⟩) ∧ Hid (Ar wx b7 24 #[.int .i64 (u : Int), .bool p] ∧ Ar wx b8 24 #[.int .i64 (v : Int), .bool q] ∧ Below w.heap.size w wx))
  case first =>
    have sOf : ∀ W : World, Below w.heap.size w W → Below w.heap.size w W ∧ W.cell? ⟨b, 0, none⟩ = some (.map mo) ∧ (Instr.lookup 60 (.map mo) (.int .i64 a) false).run Tryd.prog W = .ok (.agg #[.int .i64 (u : Int), .bool p]) W ∧ (Instr.lookup 60 (.map mo) (.int .i64 c) false).run Tryd.prog W = .ok (.agg #[.int .i64 (v : Int), .bool q]) W := fun W hb =>
      ⟨hb, (H.out.keep hb).hd.cell 0 _ (clC0 _ _ _), (H.out.keep hb).mp.look_yes false HA.out, (H.out.keep hb).mp.look_yes false HC.out⟩
    go_region_held3 (fun W => Below w.heap.size w W ∧ W.cell? ⟨b, 0, none⟩ = some (.map mo) ∧ (Instr.lookup 60 (.map mo) (.int .i64 a) false).run Tryd.prog W = .ok (.agg #[.int .i64 (u : Int), .bool p]) W ∧ (Instr.lookup 60 (.map mo) (.int .i64 c) false).run Tryd.prog W = .ok (.agg #[.int .i64 (v : Int), .bool q]) W)
      ((refine sOf _ ?_; (first | exact Below.drew (Below.refl _ _) | exact bl1 _ _ | exact bl2 _ _ _)))
      ((fail))
    all_goals
      go_wp2_with fail
      go_meet
      first
      | exact ⟨_, _, rfl, rfl, hid' ⟨ar_first _ _ _ _, ar_second _ _ _ _, bl2 _ _ _⟩⟩
      | exact ⟨_, _, rfl, rfl, hid' ⟨ar_second _ _ _ _, ar_first _ _ _ _, bl2 _ _ _⟩⟩
  case rest =>
    obtain ⟨b7, b8, rfl, rfl, HW⟩ := hcut
    have z0 := HW.out.1.cell 0 _ rfl
    have z1 := HW.out.1.cell 1 _ rfl
    have y0 := HW.out.2.1.cell 0 _ rfl
    have y1 := HW.out.2.1.cell 1 _ rfl
    have HB := hid' HW.out.2.2
    clear c0
    by_cases huv : u = v
    · subst huv
      have e1 : ((u : Int) == (u : Int)) = true := beq_self_eq_true _
      have e2 : (u == u) = true := beq_self_eq_true _
      by_cases hpq : p = q
      · subst hpq
        cases p with
        | false =>
          have HRR := Pr.ahd_whole HA.out HC.out
          rw [HR.out] at HRR
          subst HRR
          go_wp2
          go_ret
          exact ⟨rfl, HB.out⟩
        | true =>
          obtain ⟨t, ht⟩ : ∃ t, l.was[u]? = some t := ⟨_, List.getElem?_eq_getElem (by rw [H.out.ok.w8]; have := HU7.out; omega)⟩
          obtain ⟨y, hy⟩ : ∃ y, l.last[u]? = some y := ⟨_, List.getElem?_eq_getElem (by rw [H.out.ok.l8]; have := HU7.out; omega)⟩
          have HBF : Hid (∀ id, Pr.bef l u id = (t && decide (y < id))) := hid' (fun id => by
            unfold Pr.bef
            simp [List.getD_eq_getElem?_getD, ht, hy])
          have HL := hid' (H.out.keep HB.out)
          have g0 := HL.out.hd.cell _ _ (clC_w ht hy).1
          have g1 := HL.out.hd.cell _ _ (clC_w ht hy).2
          have hu8 : (u : Int) < 8 := by have := HU7.out; omega
          have hu8n : u < 8 := by have := HU7.out; omega
          have HT := hid' ht
          have HY := hid' hy
          clear ht hy
          go_upto_region 7 with fail
          go_cut [9] from 11 (fun s9 wx => ∃ b9, s9 = .pointer (some ⟨b9, 0, none⟩) ∧ Hid (Ar wx b9 62 #[.bool t, .int .i64 y] ∧ Below wc.heap.size wc wx))
          case first =>
            have sOf : ∀ W : World, Below wc.heap.size wc W → Below wc.heap.size wc W ∧ W.cell? ⟨b7, 0, none⟩ = some (.int .i64 (u : Int)) ∧ W.cell? ⟨b, 1 + u * 2, none⟩ = some (.bool t) ∧ W.cell? ⟨b, 1 + u * 2 + 1, none⟩ = some (.int .i64 y) := fun W hb =>
              ⟨hb, (HW.out.1.keep hb).cell 0 _ rfl, (HL.out.keep hb).hd.cell _ _ (clC_w HT.out HY.out).1, (HL.out.keep hb).hd.cell _ _ (clC_w HT.out HY.out).2⟩
            go_region_held3 (fun W => Below wc.heap.size wc W ∧ W.cell? ⟨b7, 0, none⟩ = some (.int .i64 (u : Int)) ∧ W.cell? ⟨b, 1 + u * 2, none⟩ = some (.bool t) ∧ W.cell? ⟨b, 1 + u * 2 + 1, none⟩ = some (.int .i64 y))
              ((refine sOf _ ?_; (first | exact Below.drew (Below.refl _ _) | exact bl1 _ _ | exact bl2 _ _ _)))
              ((fail))
            all_goals
              go_wp2_with fail
              go_meet
              exact ⟨_, rfl, hid' ⟨Ar.drew (heap_alloc_last _ _), bl1 _ _⟩⟩
          case rest =>
            obtain ⟨b9, rfl, HW9⟩ := hcut
            have k0 := HW9.out.1.cell 0 _ rfl
            have k1 := HW9.out.1.cell 1 _ rfl
            have HB9 := hid' (below_two HB.out HW9.out.2)
            clear g0 g1 z0 z1 y0 y1
            obtain ⟨r1, hr1⟩ : ∃ r1, (t && decide (y < a)) = r1 := ⟨_, rfl⟩
            obtain ⟨r2, hr2⟩ : ∃ r2, (t && decide (y < c)) = r2 := ⟨_, rfl⟩
            have HR1 := hid' hr1
            have HR2 := hid' hr2
            have HE1 : Hid (Pr.bef l u a = r1) := hid' (by rw [HBF.out, hr1])
            have HE2 : Hid (Pr.bef l u c = r2) := hid' (by rw [HBF.out, hr2])
            clear hr1 hr2
            go_wp2_with fail
            refine (cbefore_any t y a _ r1 HR1.out).mono ?_
            rintro e wd ⟨rfl, hbd⟩
            have k2 := (HW9.out.1.keep hbd).cell 0 _ rfl
            have k3 := (HW9.out.1.keep hbd).cell 1 _ rfl
            have HBD := hid' (below_two HB9.out hbd)
            clear hbd
            go_wp2_with fail
            refine (cbefore_any t y c _ r2 HR2.out).mono ?_
            rintro e we ⟨rfl, hbe⟩
            have HBE := hid' (below_two HBD.out hbe)
            clear hbe k0 k1 k2 k3
            by_cases hrr : r1 = r2
            · have HRR := Pr.ahd_same HA.out HC.out (by rw [HE1.out, HE2.out]; exact hrr)
              rw [HR.out] at HRR
              subst HRR hrr
              cases r1
              all_goals
                go_wp2
                go_ret
                exact ⟨rfl, HBE.out⟩
            · have HRR := Pr.ahd_bef HA.out HC.out (by rw [HE1.out, HE2.out]; exact hrr)
              rw [HR.out, HE1.out] at HRR
              subst HRR
              cases r <;> cases r2 <;> simp only [not_true_eq_false, reduceCtorEq, not_false_eq_true] at hrr
              all_goals
                go_wp2
                go_ret
                exact ⟨rfl, HBE.out⟩
      · have HRR := Pr.ahd_parts HA.out HC.out hpq
        rw [HR.out] at HRR
        subst HRR
        cases p <;> cases q <;> simp only [not_true_eq_false, reduceCtorEq, not_false_eq_true] at hpq
        all_goals
          go_wp2
          go_ret
          exact ⟨rfl, HB.out⟩
    · have HRR := Pr.ahd_urg HA.out HC.out huv
      rw [HR.out] at HRR
      have e1 : ((u : Int) == (v : Int)) = false := beq_false_of_ne (by omega)
      have e2 : (u == v) = false := beq_false_of_ne huv
      subst HRR
      by_cases hlt : u < v
      · have e3 : (u : Int) < (v : Int) := by omega
        clear huv
        go_wp2
        go_ret
        exact ⟨by first | (simp; done) | (simp [hlt]; done), HB.out⟩
      · have e3 : ¬ (u : Int) < (v : Int) := by omega
        clear huv
        go_wp2
        go_ret
        exact ⟨by first | (simp; done) | (simp [hlt]; done), HB.out⟩

end Go.Proofs.YtekpjbhhbklboaaDoor
