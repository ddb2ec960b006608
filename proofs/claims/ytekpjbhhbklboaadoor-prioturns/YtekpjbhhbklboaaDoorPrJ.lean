/-
  The code's Next: by its contract.
-/
import Derived.Test.YtekpjbhhbklboaaDoorPrI
namespace Go.Proofs.YtekpjbhhbklboaaDoor
open Go.RowKit

def ovl (f : Bool) (z : Int) : Option Int := if f = true then some z else none
theorem ovl_f (z : Int) : ovl false z = none := rfl
theorem ovl_t (z : Int) : ovl true z = some z := rfl
theorem nextP_nd {l : Pr.Ln} (ok : Pr.Ok l) (u : Nat) (z : Int) : Pr.Ok { l with was := l.was.set u true, last := l.last.set u z } := ⟨ok.hl, ok.nd, ok.u7, by simp [ok.w8], by simp [ok.l8]⟩

set_option maxHeartbeats 4000000 in
theorem cnext_any (B b : Nat) (mv : Value) (l l' : Pr.Ln) (vo : Option Addr) (cap : Nat) (can : List Int) (z : Int) (n : Nat) (hn : can.length = n) (hz : Pr.next l can = (z, l')) (w : World) (h : CM w B b mv l) (hc : RR w (.slice vo n cap) n (nmC can)) (hb : n ≤ 140737488355328) :
    Calls Tryd.prog 20 #[.pointer (some ⟨b, 0, none⟩), .slice vo n cap] w fun e w' => e = .returned (.int .i64 z) ∧ CM w' B b mv l' ∧ LF (fun k => k = b) w w' := by
  obtain ⟨mo, rfl⟩ := h.mp.form
  have H := hid' h
  have HZ := hid' hz
  have HN := hid' hn
  have HC := hid' hc
  clear h hz hn hc
  obtain ⟨fin, hfin⟩ : ∃ o, can.foldl (Pr.stp l) none = o := ⟨_, rfl⟩
  have HF := hid' hfin
  clear hfin
  go_enter Tryd.func20, Tryd.ntmps20
  go_wp2
  go_loopw [5, 6, 16] (fun s5 s6 s16 wr => ∃ (i : Nat) (f : Bool) (x : Int), s5 = .int .i64 x ∧ s6 = .bool f ∧ s16 = .int .i64 (i : Int) ∧ i ≤ n ∧ Hid ((can.drop i).foldl (Pr.stp l) (ovl f x) = fin ∧ (f = true → ∃ y, Pr.wt l x = some y)) ∧ Hid (Below w.heap.size w wr)) (fun _ _ s16 _ => n - (intOf s16).toNat)
  case atStart => exact ⟨0, false, 0, rfl, rfl, rfl, Nat.zero_le _, hid' ⟨HF.out, fun h => by cases h⟩, hid' (Below.refl _ _)⟩
  case round =>
    obtain ⟨i, f, x, rfl, rfl, rfl, hi, HI, HB⟩ := hrel
    have HCM := hid' (H.out.keep HB.out)
    have c0 := HCM.out.hd.cell 0 _ (clC0 _ _ _)
    by_cases hlt : i < n
    · have hlt2 : (i : Int) < (n : Int) := by omega
      obtain ⟨c, hcc⟩ : ∃ c, can[i]? = some c := ⟨_, List.getElem?_eq_getElem (by rw [HN.out]; exact hlt)⟩
      obtain ⟨a, hao, hcell⟩ := (HC.out.keep HB.out).at (by omega) i _ (nm_at hcc)
      subst hao
      have HST := hid' (Pr.stp_at (l := l) hcc (ovl f x))
      clear hcc
      cases hw : Pr.wt l c with
      | none =>
        have hlk := HCM.out.mp.look_no true hw
        simp only [if_true] at hlk
        have HE : Hid ((can.drop (i + 1)).foldl (Pr.stp l) (ovl f x) = fin) := hid' (by rw [← HI.out.1, HST.out, Pr.stp_none hw])
        clear hw HST
        go_wp2
        go_roundw
        case rel => exact ⟨i + 1, f, x, rfl, rfl, by go_num, by omega, hid' ⟨HE.out, HI.out.2⟩, hid' (below_two HB.out ((Below.refl _ _).alloc (Nat.le_refl _) _))⟩
        case measure => simp [intOf]; omega
      | some up =>
        obtain ⟨u, p⟩ := up
        have hlk := HCM.out.mp.look_yes true hw
        simp only [if_true] at hlk
        have HWT := hid' hw
        clear hw
        cases f with
        | false =>
          have HE : Hid ((can.drop (i + 1)).foldl (Pr.stp l) (ovl true c) = fin) := hid' (by rw [← HI.out.1, HST.out, ovl_f, ovl_t, Pr.stp_first HWT.out])
          clear HST
          go_wp2
          go_roundw
          case rel => exact ⟨i + 1, true, c, rfl, rfl, by go_num, by omega, hid' ⟨HE.out, fun _ => ⟨_, HWT.out⟩⟩, hid' (below_two HB.out ((Below.refl _ _).alloc (Nat.le_refl _) _))⟩
          case measure => simp [intOf]; omega
        | true =>
          obtain ⟨⟨v, q⟩, hx⟩ := HI.out.2 rfl
          obtain ⟨r, hr⟩ : ∃ r, Pr.ahd l c x = r := ⟨_, rfl⟩
          have HX := hid' hx
          have HR := hid' hr
          clear hx hr
          go_wp2_with fail
          refine (cahead_any B b (.map mo) l c x u v p q HWT.out HX.out _ (HCM.out.keep ((Below.refl _ _).alloc (Nat.le_refl _) _)) r HR.out).mono ?_
          rintro e w1 ⟨rfl, hb1⟩
          have HB1 := hid' (below_two (below_two HB.out ((Below.refl _ _).alloc (Nat.le_refl _) _)) hb1)
          clear hb1
          cases r with
          | false =>
            have HE : Hid ((can.drop (i + 1)).foldl (Pr.stp l) (ovl true x) = fin) := hid' (by rw [← HI.out.1, HST.out, ovl_t, Pr.stp_no HWT.out HR.out])
            go_wp2
            go_roundw
            case rel => exact ⟨i + 1, true, x, rfl, rfl, by go_num, by omega, hid' ⟨HE.out, fun _ => ⟨_, HX.out⟩⟩, HB1⟩
            case measure => simp [intOf]; omega
          | true =>
            have HE : Hid ((can.drop (i + 1)).foldl (Pr.stp l) (ovl true c) = fin) := hid' (by rw [← HI.out.1, HST.out, ovl_t, ovl_t, Pr.stp_yes HWT.out HR.out])
            go_wp2
            go_roundw
            case rel => exact ⟨i + 1, true, c, rfl, rfl, by go_num, by omega, hid' ⟨HE.out, fun _ => ⟨_, HWT.out⟩⟩, HB1⟩
            case measure => simp [intOf]; omega
    · have hlt2 : ¬ (i : Int) < (n : Int) := by omega
      have HE : Hid (ovl f x = fin) := hid' (by
        rw [← HI.out.1, List.drop_of_length_le (by rw [HN.out]; omega)]
        rfl)
      cases f with
      | false =>
        have HNX := hid' (Pr.next_none (HF.out.trans HE.out.symm))
        obtain ⟨rfl, rfl⟩ : z = -1 ∧ l' = l := by
          have := HZ.out
          rw [HNX.out] at this
          injection this with h1 h2
          exact ⟨h1.symm, h2.symm⟩
        go_wp2
        go_ret
        exact ⟨rfl, HCM.out, LF.of_below HB.out⟩
      | true =>
        obtain ⟨⟨u, p⟩, hx⟩ := HI.out.2 rfl
        have HNX := hid' (Pr.next_some H.out.ok (HF.out.trans HE.out.symm) hx)
        have HX := hid' hx
        have hlk := HCM.out.mp.look_yes false hx
        simp only [Bool.false_eq_true, if_false] at hlk
        have HZ2 := HZ.out
        rw [HNX.out] at HZ2
        injection HZ2 with h1 h2
        have HL' := hid' h2
        clear hx h2
        subst h1
        cases p with
        | false =>
          have HL2 : Hid (l = l') := hid' (by have := HL'.out; rwa [if_neg (by simp)] at this)
          go_wp2
          go_ret
          exact ⟨rfl, HL2.out ▸ HCM.out.keep ((Below.refl _ _).alloc (Nat.le_refl _) _), LF.of_below (below_two HB.out ((Below.refl _ _).alloc (Nat.le_refl _) _))⟩
        | true =>
          have hu7 : u ≤ 7 := by
            cases hp : Pr.pl l.ids x with
            | none => have := HX.out; rw [Pr.wt_none hp] at this; cases this
            | some j =>
              obtain ⟨u', p', h1, _, h3⟩ := Pr.wt_at H.out.ok hp
              rw [HX.out] at h1
              injection h1 with h1
              injection h1 with h1 _
              omega
          have hu8 : (u : Int) < 8 := by omega
          have hu8n : u < 8 := by omega
          have HL2 : Hid ({ l with was := l.was.set u true, last := l.last.set u x } = l') := hid' (by have := HL'.out; rwa [if_pos rfl] at this)
          obtain ⟨t, ht⟩ : ∃ t, l.was[u]? = some t := ⟨_, List.getElem?_eq_getElem (by rw [H.out.ok.w8]; omega)⟩
          obtain ⟨y, hy⟩ : ∃ y, l.last[u]? = some y := ⟨_, List.getElem?_eq_getElem (by rw [H.out.ok.l8]; omega)⟩
          go_upto_region 15 with fail
          obtain ⟨b11, hb11⟩ : ∃ b11, wr.heap.size = b11 := ⟨_, rfl⟩
          have HA11 : Hid (Ar (wr.alloc (.cells #[.int .i64 (u : Int), .bool true] 24)) b11 24 #[.int .i64 (u : Int), .bool true]) := hid' (by rw [← hb11]; exact heap_alloc_last wr _)
          have HBA : Hid (Below wr.heap.size wr (wr.alloc (.cells #[.int .i64 (u : Int), .bool true] 24))) := hid' ((Below.refl _ _).alloc (Nat.le_refl _) _)
          rw [hb11]
          generalize wr.alloc (.cells #[.int .i64 (u : Int), .bool true] 24) = w2 at *
          have HC2 := hid' (HCM.out.keep HBA.out)
          have HB2 := hid' (below_two HB.out HBA.out)
          have g0 := HC2.out.hd.cell _ _ (clC_w ht hy).1
          have g1 := HC2.out.hd.cell _ _ (clC_w ht hy).2
          have f0 := HC2.out.hd.free (1 + u * 2)
          have f1 := HC2.out.hd.free (1 + u * 2 + 1)
          have k0 := HA11.out.cell 0 _ rfl
          have k1 := HA11.out.cell 1 _ rfl
          clear ht hy hlk c0
          go_region
          go_wp2
          go_ret
          have hA := (HC2.out.hd.set (1 + u * 2) (.bool true)).set (1 + u * 2 + 1) (.int .i64 x)
          rw [clC_setw _ _ _ _ _ _ (by rw [H.out.ok.w8, H.out.ok.l8])] at hA
          have hU := upd_setCell w2 b (1 + u * 2) (.bool true)
          have hU' := upd_setCell (w2.setCell ⟨b, 1 + u * 2, none⟩ (.bool true)) b (1 + u * 2 + 1) (.int .i64 x)
          refine ⟨rfl, ?_, ?_⟩
          · rw [← HL2.out]
            refine ⟨H.out.lo, Ar.drew hA, ?_, nextP_nd H.out.ok u x⟩
            refine HC2.out.mp.same (fun k hk hkl => ?_)
            have hkb : k ≠ b := fun e => by
              rcases HC2.out.mp with ⟨e1, _⟩ | ⟨m, es, clock, e1, _, h3⟩
              · rw [e1] at hk; cases hk
              · rw [e1] at hk
                injection hk with hk
                injection hk with hk
                exact ar_map HC2.out.hd h3.hd (by omega)
            exact (hU'.block k hkb).trans (hU.block k hkb)
          · exact (((LF.of_below HB2.out).trans (LF.of_upd (S := fun k => k = b) hU rfl) (fun _ _ h => h)).trans (LF.of_upd (S := fun k => k = b) hU' rfl) (fun _ _ h => h)).below_r ((Below.refl _ _).drew)

end Go.Proofs.YtekpjbhhbklboaaDoor
