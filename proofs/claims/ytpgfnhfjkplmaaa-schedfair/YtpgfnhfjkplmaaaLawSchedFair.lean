/-
  The law SchedFair, by its contract: it returns true for every row of tasks and every first number.
-/
import Derived.Test.YtpgfnhfjkplmaaaSdW
import Derived.Test.YtpgfnhfjkplmaaaSdQ
import Derived.Test.YtpgfnhfjkplmaaaQuSc
import Derived.Deep.CutRange
namespace Go.Proofs.Ytpgfnhfjkplmaaa
open Go.RowKit

theorem ScrN.at' {w w' : World} {ao : Option Addr} {n cap : Nat} {xs : List Int} (h : ScrN w (.slice ao n cap) xs) (hb : Below w.heap.size w w') (i : Nat) (x : Int) (hx : xs[i]? = some x) : ∃ a, ao = some a ∧ (a.add i).block < w.heap.size ∧ w'.cell? (a.add i) = some (.int .i64 x) := by
  rcases h with ⟨_, rfl⟩ | ⟨a, cap', hv, _, _, hcs⟩
  · simp at hx
  · injection hv with h1 _ _
    obtain ⟨hl, c0⟩ := hcs i x hx
    exact ⟨a, h1, hl, (hb.cell hl).trans c0⟩
theorem ScrN.len {w : World} {v : Value} {xs : List Int} (h : ScrN w v xs) : ∃ ao cap, v = .slice ao xs.length cap ∧ xs.length ≤ 9223372036854775807 := by
  rcases h with ⟨rfl, rfl⟩ | ⟨a, cap, rfl, h1, h2, _⟩
  · exact ⟨none, 0, rfl, by simp⟩
  · exact ⟨_, _, rfl, by unfold maxLen at h2; omega⟩
theorem bl_dn2 {B : Nat} {w w' : World} (h : Below B w w') (q : Nat) : Below B w (w'.drewN q) := ⟨h.os, h.tape, h.output, h.size, h.block⟩

set_option maxHeartbeats 8000000 in
set_option maxRecDepth 20000 in
theorem schedFair_any (sv : Value) (xs : List Int) (f : Int) (w : World) (hsc : ScrN w sv xs) (hf1 : -9223372036854775808 ≤ f) (hf2 : f ≤ 9223372036854775807) :
    Calls Try.prog 4 #[sv, .int .i64 f] w fun e w' => e = .returned (.bool true) ∧ Below w.heap.size w w' := by
  obtain ⟨i0, hi0, hz0, hz1, hz2⟩ := sinfo_parts sinfoI
  have HI := hid' hi0
  have HZ0 := hid' hz0
  have HZ1 := hid' hz1
  have HZ2 := hid' hz2
  clear hi0 hz0 hz1 hz2
  obtain ⟨ao, cap, hsv, hlen⟩ := hsc.len
  subst hsv
  obtain ⟨N, hN⟩ : ∃ N, xs.length = N := ⟨_, rfl⟩
  have HN := hid' hN
  rw [hN] at hsc hlen ⊢
  have HSC := hid' hsc
  clear hN hsc
  go_enter Try.func4, Try.ntmps4
  go_wp2_with fail
  refine (snew w).mono ?_
  rintro _ w1 ⟨⟨b, rfl, hs⟩, hb⟩
  have HS1 := hid' hs
  have HB1 := hid' hb
  clear hs hb
  go_wp2
  go_loopw [6] (fun s6 wr => ∃ (i : Nat) (v u : Value) (ts : List (Int × Bool)), s6 = .int .i64 (i : Int) ∧ i ≤ N ∧ i ≤ 100 ∧ Hid (SM wr w.heap.size b v u ts) ∧ Hid (Below w.heap.size w wr)) (fun s6 _ => 100 - (intOf s6).toNat)
  case atStart => exact ⟨0, _, _, _, rfl, Nat.zero_le _, Nat.zero_le _, HS1, HB1⟩
  case round =>
    clear HS1 HB1
    obtain ⟨i, v, u, ts, rfl, hi, hi2, HS, HB⟩ := hrel
    by_cases hlt : i < N ∧ i < 100
    · obtain ⟨hlt, hlt100⟩ := hlt
      have hlt2 : (i : Int) < (N : Int) := by omega
      have hlt3 : (i : Int) < 100 := by omega
      obtain ⟨x, hx⟩ : ∃ x, xs[i]? = some x := ⟨_, List.getElem?_eq_getElem (by rw [HN.out]; exact hlt)⟩
      obtain ⟨a, hao, habl, x0⟩ := HSC.out.at' HB.out i x hx
      subst hao
      obtain ⟨c1, ts1, ho1⟩ := addOf_ex ts x
      obtain ⟨t2, ts2, ho2⟩ := setOf_ex true ts1 x
      have HO1 := hid' ho1
      have HO2 := hid' ho2
      have HX := hid' hx
      clear hx ho1 ho2
      go_wp2_with fail
      refine (sadd HO1.out _ b _ _ _ HS.out).mono ?_
      rintro _ w2 ⟨rfl, v2, u2, hs, hf, _⟩
      have HS2 := hid' hs
      have HB2 := hid' (HS.out.bl HB.out hf)
      obtain ⟨a2, hao2, _, x2⟩ := HSC.out.at' HB2.out i x HX.out
      injection hao2 with hao2
      subst hao2
      clear hs hf HS HB x0
      go_wp2_with fail
      refine (swake HO2.out _ b _ _ _ HS2.out).mono ?_
      rintro _ w3 ⟨rfl, v3, u3, hs, hf, _⟩
      have HS3 := hid' hs
      have HB3 := hid' (HS2.out.bl HB2.out hf)
      clear hs hf HS2 HB2 x2
      go_wp2
      go_roundw
      case rel => exact ⟨i + 1, v3, u3, ts2, by go_num, by omega, by omega, HS3, HB3⟩
      case measure => simp [intOf]; omega
    · obtain ⟨l, hl⟩ : ∃ l, Sd.row true ts = l := ⟨_, rfl⟩
      obtain ⟨n, hn⟩ : ∃ n, l.length = n := ⟨_, rfl⟩
      have hn4 : n ≤ 4096 := by rw [← hn, ← hl]; exact HS.out.len true
      have HRI : Hid (Sd.Rise l) := hid' (by rw [← hl]; exact Sd.row_rise _ _ HS.out.ok)
      have HL := hid' hl
      have HLN := hid' hn
      clear hl hn
      have hlt2 : ¬ (i : Int) < (N : Int) ∨ ((i : Int) < (N : Int) ∧ ¬ (i : Int) < 100) := by omega
      clear hlt
      rcases hlt2 with hlt2 | ⟨hlt2, hlt3⟩
      all_goals
        go_wp2_with fail
        refine (sready _ b _ _ ts n (by rw [HL.out]; exact HLN.out) _ HS.out).mono ?_
        rintro _ w4 ⟨⟨ro, rc, rfl, hr⟩, hb⟩
        have HR4 : Hid (w4.ownsRow wr.heap.size 3 1 (.slice ro n rc) n (nmC l)) := hid' (by rw [← HL.out]; exact hr)
        have HS4 := hid' (HS.out.keep hb)
        have HB4 := hid' (below_from HB.out hb HB.out.size)
        clear hr hb HS HB
        by_cases hout : f < -1152921504606846976 ∨ 1152921504606846976 < f
        · by_cases ho1 : f < -1152921504606846976
          all_goals
            first | (have ho2 : ¬ f < -1152921504606846976 := ho1; have ho3 : 1152921504606846976 < f := by omega) | skip
            clear hout
            go_wp2_with fail
            refine (awake12 _).mono ?_
            rintro _ w9 ⟨rfl, hb9⟩
            have HB9 := hid' (below_from HB4.out hb9 HB4.out.size)
            clear hb9
            go_wp2
            go_ret
            exact ⟨rfl, HB9.out⟩
        have hfa : ¬ f < -1152921504606846976 := by omega
        have hfb : ¬ 1152921504606846976 < f := by omega
        clear hout
        go_wp2
        go_loopw [8, 9, 10, 11] (fun s8 s9 _ _ wx => ∃ (k : Nat) (so : Option Addr) (sc : Nat), s9 = .int .i64 (k : Int) ∧ s8 = .slice so k sc ∧ k ≤ n ∧ Hid (wx.ownsRow w4.heap.size 3 1 (.slice so k sc) k (nmC (Sd.seen f l k))) ∧ Hid (Below w4.heap.size w4 wx)) (fun _ s9 _ _ _ => n - (intOf s9).toNat)
        case atStart => exact ⟨0, none, 0, rfl, rfl, Nat.zero_le _, hid' (World.ownsRow_nil _ _ _ _), hid' (Below.refl _ _)⟩
        case round =>
          obtain ⟨k, so, sc, rfl, rfl, hk, HSE, HBX⟩ := hrel
          by_cases hkn : k < n
          · have hkn2 : (k : Int) < (n : Int) := by omega
            obtain ⟨j, hj⟩ : ∃ j, Sd.plc f n k = j := ⟨_, rfl⟩
            have hjn : j < n := by rw [← hj]; exact Sd.plc_lt f n k (by omega)
            have HJ : Hid ((f + (k : Int)) % (n : Int) = (j : Int)) := hid' (by rw [← hj]; exact Sd.plc_is f n k (by omega))
            obtain ⟨y, hy⟩ : ∃ y, l[j]? = some y := ⟨_, List.getElem?_eq_getElem (by rw [HLN.out]; exact hjn)⟩
            have HY := hid' hy
            have HSU : Hid (Sd.seen f l (k + 1) = Sd.seen f l k ++ [y]) := hid' (Sd.seen_succ f l k y (by rw [HLN.out, hj]; exact hy))
            have HSX := hid' (HS4.out.keep HBX.out)
            have HA : Hid ((wr.alloc (.cells #[.int .i64 y] 3)).ownsRow w4.heap.size 3 1 (.slice so k sc) k (nmC (Sd.seen f l k))) := hid' (HSE.out.alloc _)
            clear hy hj
            go_wp2_with fail
            refine (spick_some _ b _ _ ts (f + (k : Int)) n j y _ HSX.out (by rw [HL.out]; exact HLN.out) (by omega) HJ.out (by rw [HL.out]; exact HY.out)).mono ?_
            rintro _ wp ⟨rfl, hwp⟩
            subst wp
            go_wp2_with (at_builtin; refine wpList_append_own_at _ rfl _ _ 36 rfl w4.heap.size 3 i0 (.int .i64 0) 1 8 Try.underlying36 HI.out HZ0.out HZ1.out HZ2.out rfl (by decide) _ k (nmC (Sd.seen f l k)) rfl HA.out ⟨wr.heap.size, 0, none⟩ 1 1 [.int .i64 y] rfl rfl (cell_one_new _ _ _) (by simp [Value.oneCell']) (by unfold maxLen; omega) (by omega) (by simp; have := HBX.out.size; omega) ?_; intro v3 w3 hown3 hgrow3 _ _; refine Hid.out ?_)
            refine hid' ?_
            have e : nmC (Sd.seen f l k) ++ [Value.int .i64 y] = nmC (Sd.seen f l (k + 1)) := by rw [HSU.out, nmC_append]; rfl
            rw [e] at hown3
            obtain ⟨v3o, v3c, hv3⟩ := own_shape hown3
            subst hv3
            have HO3 := hid' hown3
            have HB3 : Hid (Below w4.heap.size w4 w3) := hid' ((HBX.out.alloc HBX.out.size _).grown hgrow3 (by simp; have := HBX.out.size; omega) (fun k hk => (HA.out.lt k hk).1))
            clear hown3 hgrow3 e
            go_wp2
            go_roundw
            case rel => exact ⟨k + 1, v3o, v3c, by go_num, rfl, by omega, HO3, HB3⟩
            case measure => simp [intOf]; omega
          · obtain rfl : k = n := by omega
            have hkn2 : ¬ (k : Int) < (k : Int) := by omega
            have HRE := hid' (RQ.of_own HR4.out |>.keep HBX.out)
            have HRS := hid' (RQ.of_own HSE.out)
            have HBE := hid' (below_from HB4.out HBX.out HB4.out.size)
            clear HR4 HSE HS4 HBX HB4 hkn
            obtain ⟨wS, hwS⟩ : ∃ wS, wS = wr := ⟨_, rfl⟩
            subst hwS
            go_wp2
            go_loopw [12, 13, 14] (fun s12 _ _ wx => ∃ i q : Nat, s12 = .int .i64 (i : Int) ∧ i ≤ k ∧ wx = wS.drewN q) (fun s12 _ _ _ => k - (intOf s12).toNat)
            case atStart => exact ⟨0, 0, rfl, Nat.zero_le _, rfl⟩
            case round =>
              obtain ⟨i, q, rfl, hik, hwx⟩ := hrel
              subst hwx
              by_cases hil : i < k
              · have hil2 : (i : Int) < (k : Int) := by omega
                obtain ⟨y, hy⟩ : ∃ y, l[i]? = some y := ⟨_, List.getElem?_eq_getElem (by rw [HLN.out]; exact hil)⟩
                obtain ⟨a, hro, c0⟩ := HRE.out.at (by omega) i _ (nm_at hy)
                subst hro
                have HY := hid' hy
                clear hy
                go_wp2
                go_loopw [13, 14] (fun s13 s14 wx => ∃ t m q : Nat, s14 = .int .i64 (t : Int) ∧ t ≤ k ∧ s13 = .int .i64 (m : Int) ∧ m ≤ 1 ∧ Hid (m = Sd.times f k i t) ∧ wx = wS.drewN q) (fun _ s14 _ => k - (intOf s14).toNat)
                case atStart => exact ⟨0, 0, q, rfl, Nat.zero_le _, rfl, Nat.zero_le _, hid' (by simp [Sd.times]), rfl⟩
                case round =>
                  obtain ⟨t, m, q2, rfl, htk, rfl, hm1, HT, hwx⟩ := hrel
                  subst hwx
                  by_cases htl : t < k
                  · have htl2 : (t : Int) < (k : Int) := by omega
                    obtain ⟨x, hx⟩ : ∃ x, l[Sd.plc f k t]? = some x := ⟨_, List.getElem?_eq_getElem (by rw [HLN.out]; exact Sd.plc_lt f k t (by omega))⟩
                    obtain ⟨a2, hso, c2⟩ := HRS.out.at (by omega) t _ (nm_at (Sd.seen_at f l k t htl x (by rw [HLN.out]; exact hx)))
                    subst hso
                    have hiff := Sd.turn_iff f l k t i HRI.out HLN.out htl hil x y hx HY.out
                    by_cases hxy : x = y
                    · have HT2 : Hid (m = 0 ∧ Sd.times f k i (t + 1) = 1) := hid' (by
                        have e := hiff.1 hxy
                        have := HT.out
                        unfold Sd.times at *
                        rw [← e] at *
                        simp at this ⊢
                        exact this)
                      have hb : (x == y) = true := by simp [hxy]
                      obtain rfl : m = 0 := HT2.out.1
                      subst hxy
                      clear hx hiff
                      go_wp2
                      go_quiet (fail)
                      go_wp2
                      go_roundw
                      case rel => exact ⟨t + 1, 1, _, by go_num, by omega, by go_num, by omega, hid' HT2.out.2.symm, by first | rfl | simp⟩
                      case measure => simp [intOf]; omega
                    · have HT2 : Hid (m = Sd.times f k i (t + 1)) := hid' (by
                        have e : ¬ t = Sd.turn f k i := fun e => hxy (hiff.2 e)
                        have := HT.out
                        unfold Sd.times at *
                        rw [this]
                        by_cases h1 : Sd.turn f k i < t
                        · rw [if_pos h1, if_pos (by omega)]
                        · rw [if_neg h1, if_neg (by omega)])
                      have hb : (x == y) = false := by simp [hxy]
                      clear hx hiff
                      go_wp2
                      go_quiet (fail)
                      go_wp2
                      go_roundw
                      case rel => exact ⟨t + 1, m, _, by go_num, by omega, rfl, hm1, HT2, by first | rfl | simp⟩
                      case measure => simp [intOf]; omega
                  · obtain rfl : t = k := by omega
                    have htl2 : ¬ (t : Int) < (t : Int) := by omega
                    obtain rfl : m = 1 := by
                      have := HT.out
                      unfold Sd.times at this
                      rw [if_pos (Sd.turn_is f t i (by omega)).2] at this
                      exact this
                    have h11 : (((1 : Nat) : Int) == 1) = true := rfl
                    clear htl
                    by_cases hi0 : i = 0
                    · subst hi0
                      go_wp2
                      go_quiet (fail)
                      go_wp2
                      go_roundw
                      case rel => exact ⟨1, _, by go_num, by omega, by first | rfl | simp⟩
                      case measure => simp [intOf]; omega
                    · obtain ⟨p, hp⟩ : ∃ p, i = p + 1 := ⟨i - 1, by omega⟩
                      obtain ⟨z, hz⟩ : ∃ z, l[p]? = some z := ⟨_, List.getElem?_eq_getElem (by rw [HLN.out]; omega)⟩
                      obtain ⟨a3, hro3, c3⟩ := HRE.out.at (by omega) p _ (nm_at hz)
                      injection hro3 with hro3
                      subst hro3
                      have hzy : z < y := by
                        have h1 := List.getElem?_eq_some_iff.1 hz
                        have h2 := List.getElem?_eq_some_iff.1 HY.out
                        have := List.pairwise_iff_getElem.1 HRI.out p i h1.1 h2.1 (by omega)
                        rw [h1.2, h2.2] at this
                        exact this
                      have hzy2 : ¬ y ≤ z := by omega
                      have hip : (i : Int) - 1 = (p : Int) := by omega
                      have hip2 : (0 : Int) < (i : Int) := by omega
                      have hip3 : 0 < i := by omega
                      have hip4 : decide ((0 : Int) < (i : Int)) = true := decide_eq_true hip2
                      have hip5 : decide (0 < i) = true := decide_eq_true hip3
                      have hzy3 : decide (y ≤ z) = false := decide_eq_false hzy2
                      have hpt : (p : Int) < (t : Int) := by omega
                      have hwp : IntKind.i64.wrap (p : Int) = (p : Int) := by rw [IntKind.wrap_i64]; omega
                      have HP := hid' hp
                      clear hz hp hi0
                      go_wp2
                      go_quiet (fail)
                      go_wp2
                      go_roundw
                      case rel => exact ⟨i + 1, _, by go_num, by omega, by first | rfl | simp⟩
                      case measure => simp [intOf]; omega
              · have hil2 : ¬ (i : Int) < (k : Int) := by omega
                clear hil
                go_wp2_with fail
                refine (awake12 _).mono ?_
                rintro _ w9 ⟨rfl, hb9⟩
                have HB9 := hid' (below_from (bl_dn2 HBE.out q) hb9 HBE.out.size)
                clear hb9
                go_wp2
                go_ret
                exact ⟨rfl, HB9.out⟩

end Go.Proofs.Ytpgfnhfjkplmaaa
