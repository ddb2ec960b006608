/-
  The law QueueOrder, by its contract: it returns true for every size, every row of texts and every number.
-/
import Derived.Test.YtdhiaiafdhoeeaaQuW
import Derived.Test.YtdhiaiafdhoeeaaQuOr
import Derived.Test.YtdhiaiafdhoeeaaQuSc
import Derived.Deep.CutRange
namespace Go.Proofs.Ytdhiaiafdhoeeaa
open Go.RowKit

set_option maxHeartbeats 8000000 in
set_option maxRecDepth 20000 in
theorem queueOrder_no (z : Int) (sv : Value) (ev : Int) (hz : z < 1 ∨ 65536 < z) (w : World) :
    Calls Try.prog 4 #[.int .i64 z, sv, .int .i64 ev] w fun e w' => e = .returned (.bool true) ∧ Below w.heap.size w w' := by
  have HZ := hid' hz
  by_cases h1 : z < 1
  · have hd1 : decide (z < 1) = true := decide_eq_true h1
    clear hz
    go_enter Try.func4, Try.ntmps4
    go_wp2_with fail
    refine (qnew_no_S z HZ.out _).mono ?_
    rintro _ w1 ⟨rfl, rfl⟩
    go_wp2_with fail
    refine (qawake _).mono ?_
    rintro _ w9 ⟨rfl, hb9⟩
    have HB9 := hid' hb9
    clear hb9
    go_wp2
    go_ret
    exact ⟨rfl, HB9.out⟩
  · have h2 : 65536 < z := by omega
    have hd1 : decide (z < 1) = false := decide_eq_false h1
    have hd2 : decide (65536 < z) = true := decide_eq_true h2
    clear hz
    go_enter Try.func4, Try.ntmps4
    go_wp2_with fail
    refine (qnew_no_S z HZ.out _).mono ?_
    rintro _ w1 ⟨rfl, rfl⟩
    go_wp2_with fail
    refine (qawake _).mono ?_
    rintro _ w9 ⟨rfl, hb9⟩
    have HB9 := hid' hb9
    clear hb9
    go_wp2
    go_ret
    exact ⟨rfl, HB9.out⟩

/-- How it stands. -/
def OS (w : World) (b c size i : Nat) (xs : List ByteArray) (v9 : Value) (n9 : Nat) (ins : List ByteArray) (v10 : Value) (n10 : Nat) (outs : List ByteArray) (wr : World) : Prop :=
  QO wr w.heap.size b c size xs v9 n9 ins v10 n10 outs ∧ ins = outs ++ xs ∧ n9 = ins.length ∧ (n10 = outs.length ∧ xs.length ≤ size) ∧ (n9 ≤ i ∧ Below w.heap.size w wr)

set_option maxHeartbeats 8000000 in
set_option maxRecDepth 20000 in
theorem queueOrder_yes (size : Nat) (sv : Value) (ss : List ByteArray) (ev : Int) (hs1 : 1 ≤ size) (hs2 : size ≤ 65536) (w : World) (hsc : ScrT w sv ss) (hlen : ss.length ≤ 8796093022207) :
    Calls Try.prog 4 #[.int .i64 (size : Int), sv, .int .i64 ev] w fun e w' => e = .returned (.bool true) ∧ Below w.heap.size w w' := by
  obtain ⟨i0, hi0, hz0, hz1, hz2⟩ := qinfo_parts qinfo_S
  have HI := hid' hi0
  have HZ0 := hid' hz0
  have HZ1 := hid' hz1
  have HZ2 := hid' hz2
  obtain ⟨ao, cap, hsv⟩ := hsc.shape
  subst hsv
  obtain ⟨N, hN⟩ : ∃ N, ss.length = N := ⟨_, rfl⟩
  have HN := hid' hN
  rw [hN] at hsc hlen ⊢
  have HSC := hid' hsc
  have HS1 := hid' hs1
  have HS2 := hid' hs2
  have HLEN := hid' hlen
  clear hN hsc hs1 hs2 hi0 hz0 hz1 hz2
  go_enter Try.func4, Try.ntmps4
  go_wp2_with fail
  refine (qnew_yes_S (OB2 (.slice none 0 0) (.slice none 0 0)) size HS1.out HS2.out _).mono ?_
  rintro _ w1 ⟨⟨b, c, rfl, hq1⟩, hb1⟩
  have HO : Hid (OS w b c size 0 [] (.slice none 0 0) 0 [] (.slice none 0 0) 0 [] w1) := hid' ⟨⟨hq1, World.ownsRow_nil _ _ _ _, World.ownsRow_nil _ _ _ _, fun k hk => by simp [Value.ownBlock] at hk⟩, rfl, rfl, ⟨rfl, Nat.zero_le _⟩, Nat.zero_le _, hb1⟩
  clear hq1 hb1
  go_wp2
  go_loopw [9, 10, 11] (fun s9 s10 s11 wr => ∃ (i n9 c9 : Nat) (o9 : Option Addr) (n10 c10 : Nat) (o10 : Option Addr) (xs ins outs : List ByteArray), s9 = .slice o9 n9 c9 ∧ s10 = .slice o10 n10 c10 ∧ s11 = .int .i64 (i : Int) ∧ i ≤ N ∧ Hid (OS w b c size i xs (.slice o9 n9 c9) n9 ins (.slice o10 n10 c10) n10 outs wr)) (fun _ _ s11 _ => N - (intOf s11).toNat)
  case atStart => exact ⟨0, 0, 0, none, 0, 0, none, _, _, _, rfl, rfl, rfl, Nat.zero_le _, HO⟩
  case round =>
    clear HO
    obtain ⟨i, n9, c9, o9, n10, c10, o10, xs, ins, outs, rfl, rfl, rfl, hi, HO⟩ := hrel
    by_cases hlt : i < N
    · have hlt2 : (i : Int) < (N : Int) := by omega
      obtain ⟨x, hx⟩ : ∃ x, ss[i]? = some x := ⟨_, List.getElem?_eq_getElem (by rw [HN.out]; exact hlt)⟩
      obtain ⟨a, hao, x0⟩ := HSC.out.at HO.out.2.2.2.2.2 i x hx
      subst hao
      obtain ⟨t, ys, hpo⟩ := putOf_ex size xs x
      have HPO := hid' hpo
      have HX := hid' hx
      clear hx hpo
      go_upto_if 50 with fail
      refine (qput_S HPO.out _ w.heap.size b c wr HO.out.1.q HO.out.1.hX).mono ?_
      rintro _ w2 ⟨rfl, hq2, hf2⟩
      have HT := hid' (HO.out.1.turn hq2 hf2)
      have HB2 : Hid (Below w.heap.size w w2) := hid' (HO.out.2.2.2.2.2.trans HT.out.2)
      clear hq2 hf2 x0
      obtain ⟨a', hao', x0⟩ := HSC.out.at HB2.out i x HX.out
      obtain rfl : a = a' := Option.some.inj hao'
      clear hao'
      go_upto_if 50 with fail
      rcases HPO.out with ⟨rfl, hp1, rfl⟩ | ⟨rfl, hp1, rfl⟩
      · have HA : Hid (QO (w2.alloc (.cells #[.string x] 9)) w.heap.size b c size (xs ++ [x]) (.slice o9 n9 c9) n9 ins (.slice o10 n10 c10) n10 outs) := hid' (HT.out.1.keep ((Below.refl _ _).alloc (Nat.le_refl _) _))
        have HSZ : Hid (w.heap.size ≤ w2.heap.size) := hid' HB2.out.size
        have HLN : Hid (n9 + 1 ≤ 8796093022207) := hid' (by have := HO.out.2.2.2.2.1; have := HLEN.out; omega)
        clear hp1
        go_wp2_with (at_builtin; refine wpList_append_own_at _ rfl _ _ 43 rfl w.heap.size 9 i0 (.string ⟨#[]⟩) 1 16 Try.underlying43 HI.out HZ0.out HZ1.out HZ2.out rfl (by decide) _ n9 (ins.map qS) rfl HA.out.r9 ⟨w2.heap.size, 0, none⟩ 1 1 [.string x] rfl rfl (cell_one_new _ _ _) (by simp [Value.oneCell']) (by have := HLN.out; unfold maxLen; omega) (by have := HLN.out; omega) (by simp; have := HSZ.out; omega) ?_; intro v3 w3 hown3 hgrow3 _ hloc3; refine Hid.out ?_)
        refine hid' ?_
        obtain ⟨o9', c9', hv3⟩ := qown_shape hown3
        subst hv3
        have HG := hid' (HA.out.g9 hown3 hgrow3 hloc3)
        obtain ⟨ys, hys⟩ : ∃ ys, xs ++ [x] = ys := ⟨_, rfl⟩
        obtain ⟨w4, hw4⟩ : ∃ w4, w3 = w4 := ⟨_, rfl⟩
        have HO4 : Hid (OS w b c size (i + 1) ys (.slice o9' (n9 + 1) c9') (n9 + 1) (ins ++ [x]) (.slice o10 n10 c10) n10 outs w3) := hid' ⟨by rw [← hys]; exact HG.out.1, by rw [HO.out.2.1, ← hys, List.append_assoc], by rw [List.length_append, ← HO.out.2.2.1]; rfl, ⟨HO.out.2.2.2.1.1, by rw [← hys]; exact HPO.out.le HO.out.2.2.2.1.2⟩, by have := HO.out.2.2.2.2.1; omega, (below_from HB2.out ((Below.refl _ _).alloc (Nat.le_refl _) _) HB2.out.size).trans HG.out.2⟩
        clear hown3 hgrow3 hloc3 hys HG HA HT HO HPO HB2 HLN HSZ x0
        rw [hw4] at HO4 ⊢
        clear hw4 w3
        by_cases he : 0 < ev
        · have hd : decide (0 < ev) = true := decide_eq_true he
          have hne : ¬ ev = 0 := by omega
          by_cases hm : (i : Int).tmod ev = 0
          · have hm2 : ((i : Int).tmod ev == 0) = true := by rw [hm]; rfl
            rcases takeOf_ex (⟨#[]⟩ : ByteArray) ys with ⟨y, t5, zs, hto⟩
            rcases hto with ⟨rfl, hyz⟩ | ⟨rfl, hyz, rfl, rfl⟩
            · subst hyz
              go_wp2_with fail
              refine (qtake_some_S _ w.heap.size b c size _ y _ HO4.out.1.q).mono ?_
              rintro _ w5 ⟨rfl, hq5, hf5⟩
              have HT5 := hid' (HO4.out.1.turn (ys := zs) hq5 hf5)
              have HB5 : Hid (Below w.heap.size w w5) := hid' (HO4.out.2.2.2.2.2.trans HT5.out.2)
              have HA5 := hid' (HT5.out.1.keep ((Below.refl _ _).alloc (Nat.le_refl _) (.cells #[.string y] 9)))
              have HSZ : Hid (w.heap.size ≤ w5.heap.size) := hid' HB5.out.size
              have HLN : Hid (n9 + 1 ≤ 8796093022207 ∧ n10 + 1 ≤ n9 + 1) := hid' (by
                have h1 := HO4.out.2.2.1
                have h2 := HO4.out.2.2.2.1.1
                have h3 := HO4.out.2.2.2.2.1
                have h4 := HO4.out.2.1
                have h5 := HLEN.out
                rw [h4] at h1
                simp at h1
                omega)
              clear hq5 hf5
              go_wp2_with (at_builtin; refine wpList_append_own_at _ rfl _ _ 43 rfl w.heap.size 9 i0 (.string ⟨#[]⟩) 1 16 Try.underlying43 HI.out HZ0.out HZ1.out HZ2.out rfl (by decide) _ n10 (outs.map qS) rfl HA5.out.r10 ⟨w5.heap.size, 0, none⟩ 1 1 [.string y] rfl rfl (cell_one_new _ _ _) (by simp [Value.oneCell']) (by have := HLN.out; unfold maxLen; omega) (by have := HLN.out; omega) (by simp; have := HSZ.out; omega) ?_; intro v3 w3 hown3 hgrow3 _ hloc3; refine Hid.out ?_)
              refine hid' ?_
              obtain ⟨o10', c10', hv3⟩ := qown_shape hown3
              subst hv3
              have HG := hid' (HA5.out.g10 (m := 1) (news := [y]) hown3 hgrow3 hloc3)
              have HO6 : Hid (OS w b c size (i + 1) zs (.slice o9' (n9 + 1) c9') (n9 + 1) (ins ++ [x]) (.slice o10' (n10 + 1) c10') (n10 + 1) (outs ++ [y]) w3) := hid' ⟨HG.out.1, by rw [HO4.out.2.1, List.append_assoc]; rfl, HO4.out.2.2.1, ⟨by rw [List.length_append, ← HO4.out.2.2.2.1.1]; rfl, by have := HO4.out.2.2.2.1.2; simp at this; omega⟩, HO4.out.2.2.2.2.1, (below_from HB5.out ((Below.refl _ _).alloc (Nat.le_refl _) _) HB5.out.size).trans HG.out.2⟩
              clear hown3 hgrow3 hloc3 HA5 HT5 HO4 HG
              go_wp2
              go_roundw
              case rel => exact ⟨i + 1, n9 + 1, c9', o9', n10 + 1, c10', o10', zs, ins ++ [x], outs ++ [y], rfl, rfl, by go_num, by omega, HO6⟩
              case measure => simp [intOf]; omega
            · subst hyz
              go_wp2_with fail
              refine (qtake_none_S _ w.heap.size b c size _ HO4.out.1.q).mono ?_
              rintro _ w5 ⟨rfl, rfl⟩
              go_wp2
              go_roundw
              case rel => exact ⟨i + 1, n9 + 1, c9', o9', n10, c10, o10, [], ins ++ [x], outs, rfl, rfl, by go_num, by omega, HO4⟩
              case measure => simp [intOf]; omega
          · obtain ⟨r, hr⟩ : ∃ r, (i : Int).tmod ev = r := ⟨_, rfl⟩
            rw [hr] at hm
            have hm2 : (r == 0) = false := beq_false_of_ne hm
            go_wp2
            go_roundw
            case rel => exact ⟨i + 1, n9 + 1, c9', o9', n10, c10, o10, ys, ins ++ [x], outs, rfl, rfl, by go_num, by omega, HO4⟩
            case measure => simp [intOf]; omega
        · have hd : decide (0 < ev) = false := decide_eq_false he
          go_wp2
          go_roundw
          case rel => exact ⟨i + 1, n9 + 1, c9', o9', n10, c10, o10, ys, ins ++ [x], outs, rfl, rfl, by go_num, by omega, HO4⟩
          case measure => simp [intOf]; omega
      · have HO4 : Hid (OS w b c size (i + 1) ys (.slice o9 n9 c9) n9 ins (.slice o10 n10 c10) n10 outs w2) := hid' ⟨HT.out.1, HO.out.2.1, HO.out.2.2.1, HO.out.2.2.2.1, by have := HO.out.2.2.2.2.1; omega, HB2.out⟩
        clear hp1 HT HO HPO HB2 x0
        by_cases he : 0 < ev
        · have hd : decide (0 < ev) = true := decide_eq_true he
          have hne : ¬ ev = 0 := by omega
          by_cases hm : (i : Int).tmod ev = 0
          · have hm2 : ((i : Int).tmod ev == 0) = true := by rw [hm]; rfl
            rcases takeOf_ex (⟨#[]⟩ : ByteArray) ys with ⟨y, t5, zs, hto⟩
            rcases hto with ⟨rfl, hyz⟩ | ⟨rfl, hyz, rfl, rfl⟩
            · subst hyz
              go_wp2_with fail
              refine (qtake_some_S _ w.heap.size b c size _ y _ HO4.out.1.q).mono ?_
              rintro _ w5 ⟨rfl, hq5, hf5⟩
              have HT5 := hid' (HO4.out.1.turn (ys := zs) hq5 hf5)
              have HB5 : Hid (Below w.heap.size w w5) := hid' (HO4.out.2.2.2.2.2.trans HT5.out.2)
              have HA5 := hid' (HT5.out.1.keep ((Below.refl _ _).alloc (Nat.le_refl _) (.cells #[.string y] 9)))
              have HSZ : Hid (w.heap.size ≤ w5.heap.size) := hid' HB5.out.size
              have HLN : Hid (n9 ≤ 8796093022207 ∧ n10 + 1 ≤ n9) := hid' (by
                have h1 := HO4.out.2.2.1
                have h2 := HO4.out.2.2.2.1.1
                have h3 := HO4.out.2.2.2.2.1
                have h4 := HO4.out.2.1
                have h5 := HLEN.out
                rw [h4] at h1
                simp at h1
                omega)
              clear hq5 hf5
              go_wp2_with (at_builtin; refine wpList_append_own_at _ rfl _ _ 43 rfl w.heap.size 9 i0 (.string ⟨#[]⟩) 1 16 Try.underlying43 HI.out HZ0.out HZ1.out HZ2.out rfl (by decide) _ n10 (outs.map qS) rfl HA5.out.r10 ⟨w5.heap.size, 0, none⟩ 1 1 [.string y] rfl rfl (cell_one_new _ _ _) (by simp [Value.oneCell']) (by have := HLN.out; unfold maxLen; omega) (by have := HLN.out; omega) (by simp; have := HSZ.out; omega) ?_; intro v3 w3 hown3 hgrow3 _ hloc3; refine Hid.out ?_)
              refine hid' ?_
              obtain ⟨o10', c10', hv3⟩ := qown_shape hown3
              subst hv3
              have HG := hid' (HA5.out.g10 (m := 1) (news := [y]) hown3 hgrow3 hloc3)
              have HO6 : Hid (OS w b c size (i + 1) zs (.slice o9 (n9) c9) (n9) (ins) (.slice o10' (n10 + 1) c10') (n10 + 1) (outs ++ [y]) w3) := hid' ⟨HG.out.1, by rw [HO4.out.2.1, List.append_assoc]; rfl, HO4.out.2.2.1, ⟨by rw [List.length_append, ← HO4.out.2.2.2.1.1]; rfl, by have := HO4.out.2.2.2.1.2; simp at this; omega⟩, HO4.out.2.2.2.2.1, (below_from HB5.out ((Below.refl _ _).alloc (Nat.le_refl _) _) HB5.out.size).trans HG.out.2⟩
              clear hown3 hgrow3 hloc3 HA5 HT5 HO4 HG
              go_wp2
              go_roundw
              case rel => exact ⟨i + 1, n9, c9, o9, n10 + 1, c10', o10', zs, ins, outs ++ [y], rfl, rfl, by go_num, by omega, HO6⟩
              case measure => simp [intOf]; omega
            · subst hyz
              go_wp2_with fail
              refine (qtake_none_S _ w.heap.size b c size _ HO4.out.1.q).mono ?_
              rintro _ w5 ⟨rfl, rfl⟩
              go_wp2
              go_roundw
              case rel => exact ⟨i + 1, n9, c9, o9, n10, c10, o10, [], ins, outs, rfl, rfl, by go_num, by omega, HO4⟩
              case measure => simp [intOf]; omega
          · obtain ⟨r, hr⟩ : ∃ r, (i : Int).tmod ev = r := ⟨_, rfl⟩
            rw [hr] at hm
            have hm2 : (r == 0) = false := beq_false_of_ne hm
            go_wp2
            go_roundw
            case rel => exact ⟨i + 1, n9, c9, o9, n10, c10, o10, ys, ins, outs, rfl, rfl, by go_num, by omega, HO4⟩
            case measure => simp [intOf]; omega
        · have hd : decide (0 < ev) = false := decide_eq_false he
          go_wp2
          go_roundw
          case rel => exact ⟨i + 1, n9, c9, o9, n10, c10, o10, ys, ins, outs, rfl, rfl, by go_num, by omega, HO4⟩
          case measure => simp [intOf]; omega
    · have hlt2 : ¬ (i : Int) < (N : Int) := by omega
      obtain ⟨m, hm⟩ : ∃ m, xs.length = m := ⟨_, rfl⟩
      have HM := hid' hm
      have HL9 : Hid (n10 + m = n9 ∧ n9 ≤ 8796093022207 ∧ m ≤ 65536) := hid' (by
        have h1 := HO.out.2.2.1
        have h2 := HO.out.2.2.2.1.1
        have h3 := HO.out.2.2.2.2.1
        have h4 := HO.out.2.1
        have h5 := HO.out.2.2.2.1.2
        have h6 := HS2.out
        rw [h4, List.length_append] at h1
        omega)
      have HE : Hid (ins = outs ++ xs) := hid' HO.out.2.1
      have HI9 : Hid (ins.length = n9) := hid' HO.out.2.2.1.symm
      clear hm
      go_upto_region 15 with fail
      go_cut [10] from 15 (fun s10 wx => ∃ (o10' : Option Addr) (c10' : Nat), s10 = .slice o10' n9 c10' ∧ Hid (QO wx w.heap.size b c size [] (.slice o9 n9 c9) n9 ins (.slice o10' n9 c10') n9 ins ∧ Below w.heap.size w wx))
      case first =>
        go_wp2_with fail
        refine (qdrain_S _ w.heap.size b c size xs m HM.out HL9.out.2.2 wr HO.out.1.q).mono ?_
        rintro _ w2 ⟨ro, rc, rfl, hr2, hq2, hf2⟩
        have HT := hid' (HO.out.1.turn (ys := []) hq2 hf2)
        have HB2 : Hid (Below w.heap.size w w2) := hid' (HO.out.2.2.2.2.2.trans HT.out.2)
        have HR2 := hid' hr2
        clear hq2 hf2
        rcases hr2.2 with ⟨hv, h0⟩ | ⟨g, cp, cur, hv, _, _, _, _, _, _⟩
        · injection hv with e1 _ e3
          subst e1 e3 h0
          obtain rfl : xs = [] := List.eq_nil_of_length_eq_zero HM.out
          have e9 : n10 = n9 := by have := HL9.out; omega
          have HE2 : Hid (ins = outs) := hid' (by rw [HE.out, List.append_nil])
          subst e9
          rcases HT.out.1.r10.2 with ⟨hv, _⟩ | ⟨g, cp, cur, hv, _⟩
          all_goals
            injection hv with e1 e2 e3
            subst e1 e3
            (try subst e2)
            clear hr2
            go_wp2_with fail
            go_meet
            exact ⟨_, _, rfl, hid' ⟨by have := HT.out.1; rw [← HE2.out] at this; exact this, HB2.out⟩⟩
        · injection hv with e1 _ e3
          subst e1 e3
          have HRQ := hid' (RQ.of_own hr2)
          have HSZ : Hid (w.heap.size ≤ w2.heap.size) := hid' HB2.out.size
          clear hr2
          go_wp2_with (at_builtin; refine wpList_append_own_at _ rfl _ _ 43 rfl w.heap.size 9 i0 (.string ⟨#[]⟩) 1 16 Try.underlying43 HI.out HZ0.out HZ1.out HZ2.out rfl (by decide) _ n10 (outs.map qS) rfl HT.out.1.r10 ⟨g, 0, none⟩ m _ (xs.map qS) rfl (by rw [List.length_map, HM.out, Nat.mul_one]) (fun j u hj => by
              rcases HRQ.out with ⟨h, _⟩ | ⟨a, cp', h, hc⟩
              · cases h
              · injection h with h1 _ _
                injection h1 with h1
                subst h1
                exact (hc j u hj).2) (by intro u hu; obtain ⟨x, _, rfl⟩ := List.mem_map.1 hu; rfl) (by have := HL9.out; unfold maxLen; omega) (by have := HL9.out; omega) HSZ.out ?_; intro v3 w3 hown3 hgrow3 _ hloc3; refine Hid.out ?_)
          refine hid' ?_
          have HG := hid' (HT.out.1.g10 (m := m) (news := xs) hown3 hgrow3 hloc3)
          obtain ⟨o10', c10', hv3⟩ := qown_shape hown3
          subst hv3
          have e9 : n10 + m = n9 := HL9.out.1
          rw [e9, ← HE.out] at HG
          rw [e9]
          have HB3 := hid' (HB2.out.trans HG.out.2)
          clear hown3 hgrow3 hloc3 e9
          go_wp2_with fail
          go_meet
          exact ⟨_, _, rfl, hid' ⟨HG.out.1, HB3.out⟩⟩
      case rest =>
        obtain ⟨o10', c10', rfl, H5⟩ := hcut
        have HO9 : Hid (n9 ≤ 8796093022207) := hid' HL9.out.2.1
        clear HO HE HL9 HM
        have hee : ((n9 : Int) == (n9 : Int)) = true := beq_self_eq_true _
        have hss : ((size : Int) == (size : Int)) = true := beq_self_eq_true _
        have roomC : Hid (Calls Try.prog 24 #[.pointer (some ⟨b, 0, none⟩)] wc fun e w' => e = .returned (.int .i64 (size : Int)) ∧ ∃ q, w' = wc.drewN q) := hid' (by
          have := qroom_S _ w.heap.size b c size [] wc H5.out.1.q (Nat.zero_le _) HS2.out
          simpa using this)
        have HN9 : Hid (n9 ≤ 8796093022207) := hid' (by
          have h3 := HO9.out
          omega)
        go_wp2_with fail
        refine (qlen_S _ w.heap.size b c size [] wc H5.out.1.q).mono ?_
        rintro _ wc' ⟨rfl, rfl⟩
        go_wp2_with fail
        refine roomC.out.mono ?_
        rintro _ w6 ⟨rfl, q6, hw6⟩
        have H6 : Hid (QO w6 w.heap.size b c size [] (.slice o9 n9 c9) n9 ins (.slice o10' n9 c10') n9 ins ∧ Below w.heap.size w w6) := hid' (by rw [hw6]; exact ⟨H5.out.1.drewN _, below_from H5.out.2 (below_drewN _ _) H5.out.2.size⟩)
        have HR9 := hid' (RQ.of_own H6.out.1.r9)
        have HR10 := hid' (RQ.of_own H6.out.1.r10)
        have HB6 := hid' H6.out.2
        clear hw6 roomC H5 H6
        go_wp2
        go_loopw [14] (fun s14 wr => ∃ j q : Nat, s14 = .int .i64 (j : Int) ∧ j ≤ n9 ∧ wr = w6.drewN q) (fun s14 _ => n9 - (intOf s14).toNat)
        case atStart => exact ⟨0, 0, rfl, Nat.zero_le _, rfl⟩
        case round =>
          obtain ⟨j, q, rfl, hj, rfl⟩ := hrel
          have hn9 : (n9 : Int) ≤ 8796093022207 := by have := HN9.out; omega
          by_cases hjt : j < n9
          · have hjt2 : (j : Int) < (n9 : Int) := by omega
            obtain ⟨y, hy⟩ : ∃ y, ins[j]? = some y := ⟨_, List.getElem?_eq_getElem (by rw [HI9.out]; exact hjt)⟩
            obtain ⟨a9, ha9, hc1⟩ := HR9.out.at (by omega) j (.string y) (by rw [List.getElem?_map, hy]; rfl)
            obtain ⟨a10, ha10, hc2⟩ := HR10.out.at (by omega) j (.string y) (by rw [List.getElem?_map, hy]; rfl)
            subst ha9 ha10
            have hyl : (y.toList == y.toList) = true := beq_self_eq_true _
            have HLT := hid' hjt
            clear hy hjt
            go_wp2
            go_quiet (fail)
            go_wp2
            go_roundw
            case rel => exact ⟨j + 1, _, by go_num, by have := HLT.out; omega, by first | rfl | simp⟩
            case measure => have := HLT.out; simp [intOf]; omega
          · have hjt2 : ¬ (j : Int) < (n9 : Int) := by omega
            clear hjt
            go_wp2_with fail
            refine (qawake _).mono ?_
            rintro _ w9 ⟨rfl, hb9⟩
            have HB9 : Hid (Below w.heap.size w w9) := hid' (below_from HB6.out (below_two (below_drewN _ _) hb9) HB6.out.size)
            clear hb9
            go_wp2
            go_ret
            exact ⟨rfl, HB9.out⟩

theorem queueOrder_any (z : Int) (sv : Value) (ss : List ByteArray) (ev : Int) (w : World) (hsc : ScrT w sv ss) (hlen : ss.length ≤ 8796093022207) :
    Calls Try.prog 4 #[.int .i64 z, sv, .int .i64 ev] w fun e w' => e = .returned (.bool true) ∧ Below w.heap.size w w' := by
  by_cases hz : z < 1 ∨ 65536 < z
  · exact queueOrder_no z sv ev hz w
  · obtain ⟨n, rfl⟩ : ∃ n : Nat, z = (n : Int) := ⟨z.toNat, by omega⟩
    exact queueOrder_yes n sv ss ev (by omega) (by omega) w hsc hlen

end Go.Proofs.Ytdhiaiafdhoeeaa
