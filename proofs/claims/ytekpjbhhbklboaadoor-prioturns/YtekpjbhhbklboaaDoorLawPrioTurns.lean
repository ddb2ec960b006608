/-
  The law PrioTurns, by its contract: it returns true for any ids, any urgency and any number of rounds.
-/
import Derived.Test.YtekpjbhhbklboaaDoorPrW
import Derived.Test.YtekpjbhhbklboaaDoorPrUs
import Derived.Test.YtekpjbhhbklboaaDoorPrTn
import Derived.Test.YtekpjbhhbklboaaDoorPrSc
namespace Go.Proofs.YtekpjbhhbklboaaDoor
open Go.RowKit

section
variable {ops : Array Oper} {rest : List Oper} {o : Oper} {a : Act} {w : World} {Q : Exit → Act → World → Prop}
/-- make of some numbers. -/
theorem mk_ints (x y : Operand) (ho : o.op = .makeSlice 32 x y) (hgd : o.guard = none) (m : Nat) (hm : m ≤ 1048576) (hx : a.eval x = .int .i64 (m : Int)) (hy : a.eval y = .int .i64 (m : Int))
    (h : ∀ b w', w.heap.size = b → Ar w' b 3 (nums .i64 (List.replicate m 0)) → Below w.heap.size w w' → wpList Tryd.prog ops Q rest (a.put o.dst (.slice (some ⟨b, 0, none⟩) m m)) w') : wpList Tryd.prog ops Q (o :: rest) a w := by
  obtain ⟨i, hi, hz0, hz1, hz2⟩ := info_parts infoI
  refine wpList_plain hgd fun _ hK => ?_
  have hr := run_make (P := Tryd.prog) w 32 3 i (.int .i64 0) Tryd.underlying32 hi hz0 .i64 .i64 (m : Int) (m : Int) (by omega) (by omega) (by rw [hz2]; omega) (by omega)
  rw [hz1, Int.toNat_natCast, Nat.mul_one] at hr
  unfold Oper.wp execOp
  simp only [ho, hx, hy, Sem.run_bind, Sem.run_pure, hr, Result.andThen_ok]
  refine hK _ _ (h _ _ rfl ?_ ((Below.refl _ w).alloc (Nat.le_refl _) _))
  have e : madeCells (Value.int .i64 0).cells m = nums .i64 (List.replicate m 0) := by
    apply Array.toList_inj.1
    unfold nums
    simp only [List.map_replicate]
    simp [madeCells, Value.cells]
    rw [List.eq_replicate_iff]
    refine ⟨by simp, fun b hb => ?_⟩
    obtain ⟨x, _, rfl⟩ := List.mem_map.1 hb
    rw [Nat.mod_one]
    rfl
  rw [← e]
  exact heap_alloc_last w _
end
/-- What was counted, up to k. -/
def tnF (own : List Int) (f g : Int → Int) (k : Nat) : List Int := (own.take k).map f ++ (own.drop k).map g
theorem tnF_zero (own : List Int) (f g : Int → Int) : tnF own f g 0 = own.map g := by simp [tnF]
theorem tnF_end {own : List Int} {f g : Int → Int} {k : Nat} (h : own.length ≤ k) : tnF own f g k = own.map f := by
  unfold tnF
  rw [List.take_of_length_le h, List.drop_of_length_le h]
  simp
theorem tnF_at {own : List Int} {f g : Int → Int} {k : Nat} {y : Int} (h : own[k]? = some y) : (tnF own f g k)[k]? = some (g y) := by
  obtain ⟨h1, h2⟩ := List.getElem?_eq_some_iff.1 h
  unfold tnF
  rw [List.getElem?_append_right (by simp; omega)]
  simp [Nat.min_eq_left (Nat.le_of_lt h1), h]
theorem tnF_next {own : List Int} {f g : Int → Int} {k : Nat} {y : Int} (h : own[k]? = some y) : tnF own f g (k + 1) = (own.take k).map f ++ f y :: (own.drop (k + 1)).map g := by
  unfold tnF
  rw [List.take_add_one, h]
  simp
theorem tnF_here {own : List Int} {f g : Int → Int} {k : Nat} {y : Int} (h : own[k]? = some y) : tnF own f g k = (own.take k).map f ++ g y :: (own.drop (k + 1)).map g := by
  obtain ⟨h1, h2⟩ := List.getElem?_eq_some_iff.1 h
  unfold tnF
  rw [List.drop_eq_getElem_cons h1, h2]
  rfl
theorem tnF_set {own : List Int} {f g : Int → Int} {k : Nat} {y : Int} (h : own[k]? = some y) : (tnF own f g k).set k (f y) = tnF own f g (k + 1) := by
  obtain ⟨h1, h2⟩ := List.getElem?_eq_some_iff.1 h
  rw [tnF_here h, tnF_next h, List.set_append_right _ _ (by simp; omega)]
  simp [Nat.min_eq_left (Nat.le_of_lt h1)]
theorem tnF_same {own : List Int} {f g : Int → Int} {k : Nat} {y : Int} (h : own[k]? = some y) (hv : f y = g y) : tnF own f g k = tnF own f g (k + 1) := by
  rw [tnF_here h, tnF_next h, hv]
/-- A line and one row. -/
structure T0 (w : World) (B b : Nat) (mv : Value) (l : Pr.Ln) (v : Value) (n : Nat) (xs : List Int) : Prop where
  cm : CM w B b mv l
  r : w.ownsRow B 3 1 v n (nmC xs)
theorem T0.keep {w w' : World} {B b : Nat} {mv : Value} {l : Pr.Ln} {v : Value} {n : Nat} {xs : List Int} (h : T0 w B b mv l v n xs) (hb : Below w.heap.size w w') : T0 w' B b mv l v n xs := ⟨h.cm.keep hb, own_keep h.r hb⟩
theorem T0.set {w w' : World} {B b : Nat} {mv mv' : Value} {l l' : Pr.Ln} {v : Value} {n : Nat} {xs : List Int} (h : T0 w B b mv l v n xs) (hc : CP w w' B b mv l' mv') : T0 w' B b mv' l' v n xs ∧ Below B w w' :=
  ⟨⟨hc.cm, own_same h.r (fun k hk => hc.lf.block k (own_lt h.r k hk) (own_cs h.cm h.r (by decide) k hk))⟩, hc.lf.below h.cm.size h.cm.cs⟩
theorem T0.grow {w w' : World} {B b : Nat} {mv : Value} {l : Pr.Ln} {v v' : Value} {n : Nat} {xs : List Int} {x : Int} (h : T0 w B b mv l v n xs) (ho : w'.ownsRow B 3 1 v' (n + 1) (nmC xs ++ [.int .i64 x])) (hg : w.grownBy w' v.ownBlock) : T0 w' B b mv l v' (n + 1) (xs ++ [x]) ∧ Below B w w' := by
  have hf : LF (fun k => v.ownBlock = some k) w w' := LF.of_grown hg (fun k hk => hk)
  exact ⟨⟨h.cm.other hf (fun k hk e => own_cs h.cm h.r (by decide) k e hk), by simpa [nmC] using ho⟩, hf.below h.cm.size (fun k hk => (own_ty h.r k hk).1)⟩
theorem T0.drewN {w : World} {B b : Nat} {mv : Value} {l : Pr.Ln} {v : Value} {n : Nat} {xs : List Int} (h : T0 w B b mv l v n xs) (q : Nat) : T0 (w.drewN q) B b mv l v n xs := h.keep ⟨rfl, rfl, rfl, Nat.le_refl _, fun _ _ => rfl⟩
theorem tn_drewN {B : Nat} {w w' : World} (h : Below B w w') (q : Nat) : Below B w (w'.drewN q) := ⟨h.os, h.tape, h.output, h.size, h.block⟩

set_option maxHeartbeats 8000000 in
set_option maxRecDepth 20000 in
theorem prioTurns_any (iv : Value) (ids : List Int) (urg rounds : Int) (w : World) (hiv : RR w iv ids.length (nmC ids)) (_hil : ids.length ≤ 17592186044400) :
    Calls Tryd.prog 6 #[iv, .int .i64 urg, .int .i64 rounds] w fun e w' => e = .returned (.bool true) ∧ Below w.heap.size w w' := by
  obtain ⟨io, ic, his⟩ := hiv.shape
  subst his
  obtain ⟨N, hN⟩ : ∃ N, ids.length = N := ⟨_, rfl⟩
  have HN := hid' hN
  rw [hN] at hiv _hil ⊢
  have HIV := hid' hiv
  clear hN hiv
  by_cases hbig : 60 < N
  · have hb2 : (60 : Int) < (N : Int) := by omega
    go_enter Tryd.func6, Tryd.ntmps6
    go_wp2_with fail
    refine (cnew_any _).mono ?_
    rintro e w1 ⟨b, rfl, _, _, hb1⟩
    have HB1 := hid' hb1
    clear hb1
    go_wp2_with fail
    refine (awake_any _).mono ?_
    rintro e w2 ⟨rfl, hb2⟩
    have HB2 := hid' (below_two HB1.out hb2)
    clear hb2
    go_wp2
    go_ret
    exact ⟨rfl, HB2.out⟩
  have hb2 : ¬ (60 : Int) < (N : Int) := by omega
  obtain ⟨ku, hku⟩ : ∃ ku, Pr.kept urg = ku := ⟨_, rfl⟩
  have HK := hid' hku
  have HK7 : Hid (ku ≤ 7) := hid' (by rw [← hku]; exact Pr.kept_le urg)
  clear hku
  go_enter Tryd.func6, Tryd.ntmps6
  go_wp2_with fail
  refine (cnew_any _).mono ?_
  rintro e w1 ⟨b, rfl, _, hcm1, hb1⟩
  have HT1 : Hid (T0 w1 w.heap.size b (.map none) Pr.ln0 (.slice none 0 0) 0 []) := hid' ⟨hcm1, World.ownsRow_nil _ _ _ _⟩
  have HB1 := hid' hb1
  obtain ⟨i0, hi, hz0, hz1, hz2⟩ := info_parts infoI
  have HI := hid' hi
  have HZ0 := hid' hz0
  have HZ1 := hid' hz1
  have HZ2 := hid' hz2
  clear hcm1 hb1 hi hz0 hz1 hz2
  go_wp2
  go_loopw [8, 9] (fun s8 s9 wr => ∃ (i n c8 : Nat) (o8 : Option Addr) (mv : Value) (l : Pr.Ln) (own : List Int), s8 = .slice o8 n c8 ∧ s9 = .int .i64 (i : Int) ∧ i ≤ N ∧ n ≤ i ∧ Hid (T0 wr w.heap.size b mv l (.slice o8 n c8) n own ∧ own.length = n ∧ Pr.All l own ku ∧ l.was.getD ku false = false) ∧ Hid (Below w.heap.size w wr)) (fun _ s9 _ => N - (intOf s9).toNat)
  case atStart => exact ⟨0, 0, 0, none, _, _, [], rfl, rfl, Nat.zero_le _, Nat.zero_le _, hid' ⟨HT1.out, rfl, Pr.all_nil ku HK7.out Pr.ln0_ok Pr.ln0_wt rfl, by
    have := HK7.out
    match ku, this with
    | 0, _ => rfl
    | 1, _ => rfl
    | 2, _ => rfl
    | 3, _ => rfl
    | 4, _ => rfl
    | 5, _ => rfl
    | 6, _ => rfl
    | 7, _ => rfl⟩, HB1⟩
  case round =>
    clear HT1 HB1
    obtain ⟨i, n, c8, o8, mv, l, own, rfl, rfl, hi, hni, HT, HB⟩ := hrel
    by_cases hlt : i < N
    · have hlt2 : (i : Int) < (N : Int) := by omega
      obtain ⟨x, hx⟩ : ∃ x, ids[i]? = some x := ⟨_, List.getElem?_eq_getElem (by rw [HN.out]; exact hlt)⟩
      obtain ⟨ia, hio, hcell⟩ := (HIV.out.keep HB.out).at (by omega) i _ (nm_at hx)
      subst hio
      have HX := hid' hx
      have HR8 : Hid (RR wr (.slice o8 n c8) n (nmC own)) := hid' (RR.of_own HT.out.1.r)
      clear hx
      go_wp2
      go_loopw [10, 11] (fun s10 s11 wy => ∃ (k q : Nat) (ag : Bool), s10 = .bool ag ∧ s11 = .int .i64 (k : Int) ∧ k ≤ n ∧ Hid (ag = decide (x ∈ own.take k)) ∧ wy = wr.drewN q) (fun _ s11 _ => n - (intOf s11).toNat)
      case atStart => exact ⟨0, 0, false, rfl, rfl, Nat.zero_le _, hid' (by simp), rfl⟩
      case round =>
        obtain ⟨k, q, ag, rfl, rfl, hk, HAG, rfl⟩ := hrel
        by_cases hlk : k < n
        · have hlk2 : (k : Int) < (n : Int) := by omega
          obtain ⟨y, hy⟩ : ∃ y, own[k]? = some y := ⟨_, List.getElem?_eq_getElem (by rw [HT.out.2.1]; exact hlk)⟩
          obtain ⟨a8, ho8, k8⟩ := HR8.out.at (by omega) k _ (nm_at hy)
          subst ho8
          have HTK : Hid (own.take (k + 1) = own.take k ++ [y]) := hid' (by rw [List.take_add_one, hy]; rfl)
          clear hy
          cases ag with
          | true =>
            have HE : Hid (true = decide (x ∈ own.take (k + 1))) := hid' (by
              have := HAG.out
              simp at this
              rw [HTK.out]
              simp [this])
            go_wp2
            go_quiet (fail)
            go_wp2
            go_roundw
            case rel => exact ⟨k + 1, _, true, rfl, by go_num, by omega, HE, by first | rfl | simp⟩
            case measure => simp [intOf]; omega
          | false =>
            by_cases hyx : y = x
            · have e1 : (y == x) = true := by rw [hyx]; exact beq_self_eq_true _
              have HE : Hid (true = decide (x ∈ own.take (k + 1))) := hid' (by rw [HTK.out]; simp [hyx])
              clear hyx
              go_wp2
              go_quiet (fail)
              go_wp2
              go_roundw
              case rel => exact ⟨k + 1, _, true, rfl, by go_num, by omega, HE, by first | rfl | simp⟩
              case measure => simp [intOf]; omega
            · have e1 : (y == x) = false := beq_false_of_ne hyx
              have HE : Hid (false = decide (x ∈ own.take (k + 1))) := hid' (by
                have := HAG.out
                rw [HTK.out]
                simp at this
                simp [this]
                exact fun e => hyx e.symm)
              clear hyx
              go_wp2
              go_quiet (fail)
              go_wp2
              go_roundw
              case rel => exact ⟨k + 1, _, false, rfl, by go_num, by omega, HE, by first | rfl | simp⟩
              case measure => simp [intOf]; omega
        · have hlk2 : ¬ (k : Int) < (n : Int) := by omega
          have HAG2 : Hid (ag = decide (x ∈ own)) := hid' (by
            rw [HAG.out, List.take_of_length_le (by rw [HT.out.2.1]; omega)])
          have HTz := hid' (HT.out.1.drewN q)
          have HBz := hid' (tn_drewN HB.out q)
          have hcz : (wr.drewN q).cell? (ia.add i) = some (.int .i64 x) := hcell
          have HALL := hid' HT.out.2.2.1
          have HWAS := hid' HT.out.2.2.2
          have HOL := hid' HT.out.2.1
          clear hlk hcell HT HB HR8
          generalize wr.drewN q = wz at *
          cases ag with
          | true =>
            have HXI : Hid (x ∈ own) := hid' (by have := HAG2.out; simpa using this)
            go_wp2_with fail
            refine (cset_any w.heap.size b mv l x urg true _ HTz.out.cm).mono ?_
            rintro e w4 ⟨rfl, mv4, hcp⟩
            rw [HK.out] at hcp
            have HT4 := hid' (HTz.out.set hcp)
            have HB4 := hid' (HBz.out.trans HT4.out.2)
            have HA4 := hid' (Pr.all_old HALL.out HXI.out)
            have HW4 : Hid ((Pr.set l x (ku, true)).was.getD ku false = false) := hid' (by rw [(set_was l x (ku, true)).1]; exact HWAS.out)
            clear hcp hcz
            go_wp2
            go_roundw
            case rel => exact ⟨i + 1, n, c8, o8, mv4, _, own, rfl, by go_num, by omega, by omega, hid' ⟨HT4.out.1, HOL.out, HA4.out, HW4.out⟩, HB4⟩
            case measure => simp [intOf]; omega
          | false =>
            have HXI : Hid (x ∉ own) := hid' (by have := HAG2.out; simpa using this)
            have HSZ := hid' HBz.out.size
            have HAL : Hid (T0 (wz.alloc (.cells #[.int .i64 x] 3)) w.heap.size b mv l (.slice o8 n c8) n own) := hid' (HTz.out.keep ((Below.refl _ _).alloc (Nat.le_refl _) _))
            go_wp2_with (at_builtin; refine wpList_append_own _ rfl _ _ 32 rfl w.heap.size 3 i0 (.int .i64 0) 1 8 Tryd.underlying32 HI.out HZ0.out HZ1.out HZ2.out rfl (by decide) _ n (nmC own) rfl HAL.out.r ⟨wz.heap.size, 0, none⟩ 1 1 [.int .i64 x] rfl rfl (cell_one_new _ _ _) (by simp [Value.oneCell']) (by unfold maxLen; omega) (by omega) (by simp; have := HSZ.out; omega) ?_; intro v8 w3 hown3 hgrow3 _; refine Hid.out ?_)
            refine hid' ?_
            have HT3 := hid' (HAL.out.grow hown3 hgrow3)
            obtain ⟨o8', c8', hv8⟩ := own_shape HT3.out.1.r
            subst hv8
            have HB3 : Hid (Below w.heap.size w w3) := hid' ((below_from HBz.out ((Below.refl _ _).alloc (Nat.le_refl _) _) HBz.out.size).trans HT3.out.2)
            clear hown3 hgrow3 hcz
            obtain ⟨ia', hio', hc3⟩ := (HIV.out.keep HB3.out).at (by omega) i _ (nm_at HX.out)
            injection hio' with hio'
            subst hio'
            go_wp2_with fail
            refine (cset_any w.heap.size b mv l x urg true _ HT3.out.1.cm).mono ?_
            rintro e w4 ⟨rfl, mv4, hcp⟩
            rw [HK.out] at hcp
            have HT4 := hid' (HT3.out.1.set hcp)
            have HB4 := hid' (HB3.out.trans HT4.out.2)
            have HA4 := hid' (Pr.all_new HALL.out HXI.out)
            have HW4 : Hid ((Pr.set l x (ku, true)).was.getD ku false = false) := hid' (by rw [(set_was l x (ku, true)).1]; exact HWAS.out)
            clear hcp hc3
            go_wp2
            go_roundw
            case rel => exact ⟨i + 1, n + 1, c8', o8', mv4, _, own ++ [x], rfl, by go_num, by omega, by omega, hid' ⟨HT4.out.1, by rw [List.length_append, HOL.out]; rfl, HA4.out, HW4.out⟩, HB4⟩
            case measure => simp [intOf]; omega
    · have hlt2 : ¬ (i : Int) < (N : Int) := by omega
      have hn60 : n ≤ 60 := by omega
      clear hlt HI HZ0 HZ1 HZ2
      have HS3 : Hid (T0 wr w.heap.size b mv l (.slice o8 n c8) n own ∧ Pr.All l own ku ∧ Pr.RI l own ku 0 ∧ Below w.heap.size w wr) := hid' ⟨HT.out.1, HT.out.2.2.1, Pr.ri_0 HT.out.2.2.2, HB.out⟩
      have HOL := hid' HT.out.2.1
      clear HT HB
      go_wp2
      go_loopw [12] (fun s12 wx => ∃ (r : Nat) (l : Pr.Ln), s12 = .int .i64 (r : Int) ∧ r ≤ 3 ∧ Hid (T0 wx w.heap.size b mv l (.slice o8 n c8) n own ∧ Pr.All l own ku ∧ Pr.RI l own ku 0 ∧ Below w.heap.size w wx)) (fun s12 _ => 3 - (intOf s12).toNat)
      case atStart => exact ⟨0, l, rfl, Nat.zero_le _, HS3⟩
      case round =>
        clear HS3
        obtain ⟨r, l3, rfl, hr3, HS⟩ := hrel
        by_cases hlr : (r : Int) < rounds
        · by_cases hl3 : r < 3
          · have hl3i : (r : Int) < 3 := by omega
            go_wp2_with (refine mk_ints _ _ rfl rfl n (by omega) (by kernel_rfl) (by kernel_rfl) ?_)
            intro bs w5 hbs ha5 hb5
            have HBS : Hid (bs ≠ b ∧ (¬ CS b mv bs) ∧ ∀ k, (Value.slice o8 n c8).ownBlock = some k → k ≠ bs) := hid' (by
              have h1 := HS.out.1.cm.hd.lt
              refine ⟨by omega, fun h => ?_, fun k hk => ?_⟩
              · rcases h with h | h
                · omega
                · have := (HS.out.1.cm.mp.lo bs h).2; omega
              · have := own_lt HS.out.1.r k hk; omega)
            have HBG : Hid (w.heap.size ≤ bs) := hid' (by rw [← hbs]; exact HS.out.2.2.2.size)
            have HS5 : Hid (T0 w5 w.heap.size b mv l3 (.slice o8 n c8) n own ∧ Pr.All l3 own ku ∧ Pr.RI l3 own ku 0 ∧ Ar w5 bs 3 (nums .i64 (own.map (Pr.sn l3 ku 0))) ∧ Below w.heap.size w w5) := hid' (by
              refine ⟨HS.out.1.keep hb5, HS.out.2.1, HS.out.2.2.1, ?_, below_from HS.out.2.2.2 hb5 HS.out.2.2.2.size⟩
              have e : own.map (Pr.sn l3 ku 0) = List.replicate n 0 := by
                rw [List.eq_replicate_iff]
                refine ⟨by rw [List.length_map, HOL.out], fun y hy => ?_⟩
                obtain ⟨x, _, rfl⟩ := List.mem_map.1 hy
                exact Pr.sn_0 _ _ _
              rw [e]
              exact ha5)
            clear hbs ha5 hb5 HS
            go_wp2
            go_loopw [14] (fun s14 wx => ∃ (j : Nat) (l : Pr.Ln), s14 = .int .i64 (j : Int) ∧ j ≤ n ∧ Hid (T0 wx w.heap.size b mv l (.slice o8 n c8) n own ∧ Pr.All l own ku ∧ Pr.RI l own ku j ∧ Ar wx bs 3 (nums .i64 (own.map (Pr.sn l ku j))) ∧ Below w.heap.size w wx)) (fun s14 _ => n - (intOf s14).toNat)
            case atStart => exact ⟨0, l3, rfl, Nat.zero_le _, HS5⟩
            case round =>
              clear HS5
              obtain ⟨j, l4, rfl, hj, HS⟩ := hrel
              by_cases hlj : j < n
              · have hlj2 : (j : Int) < (n : Int) := by omega
                obtain ⟨z, l5, hnx, hal5, hri5, hsn5⟩ := Pr.ri_step HS.out.2.1 (by rw [HOL.out]; exact hlj) HS.out.2.2.1
                have HNX := hid' hnx
                have HSN := hid' hsn5
                have HAL5 := hid' hal5
                have HRI5 := hid' hri5
                clear hnx hal5 hri5 hsn5
                go_wp2_with fail
                refine (cnext_any w.heap.size b mv l4 l5 o8 c8 own z n HOL.out HNX.out _ HS.out.1.cm (RR.of_own HS.out.1.r) (by omega)).mono ?_
                rintro e w7 ⟨rfl, hc7, hf7⟩
                have HS7 : Hid (T0 w7 w.heap.size b mv l5 (.slice o8 n c8) n own ∧ Ar w7 bs 3 (nums .i64 (tnF own (Pr.sn l5 ku (j + 1)) (Pr.sn l4 ku j) 0)) ∧ Below w.heap.size w w7) := hid' (by
                  refine ⟨⟨hc7, own_same HS.out.1.r (fun k hk => hf7.block k (own_lt HS.out.1.r k hk) (fun e => own_cs HS.out.1.cm HS.out.1.r (by decide) k hk (.inl e)))⟩, ?_, HS.out.2.2.2.2.trans (hf7.below HS.out.1.cm.size (fun k hk => by rw [hk]; exact HS.out.1.cm.lo))⟩
                  rw [tnF_zero]
                  exact hf7.ar HS.out.2.2.2.1 HBS.out.1)
                clear hc7 hf7 HS
                go_wp2
                go_loopw [16] (fun s16 wy => ∃ k : Nat, s16 = .int .i64 (k : Int) ∧ k ≤ n ∧ Hid (T0 wy w.heap.size b mv l5 (.slice o8 n c8) n own ∧ Ar wy bs 3 (nums .i64 (tnF own (Pr.sn l5 ku (j + 1)) (Pr.sn l4 ku j) k)) ∧ Below w.heap.size w wy)) (fun s16 _ => n - (intOf s16).toNat)
                case atStart => exact ⟨0, rfl, Nat.zero_le _, HS7⟩
                case round =>
                  clear HS7
                  obtain ⟨k, rfl, hk, HS⟩ := hrel
                  by_cases hlk : k < n
                  · have hlk2 : (k : Int) < (n : Int) := by omega
                    obtain ⟨y, hy⟩ : ∃ y, own[k]? = some y := ⟨_, List.getElem?_eq_getElem (by rw [HOL.out]; exact hlk)⟩
                    obtain ⟨a8, ho8, k8⟩ := (RR.of_own HS.out.1.r).at (by omega) k _ (nm_at hy)
                    subst ho8
                    have HSY := hid' (HSN.out y (List.mem_of_getElem? hy))
                    obtain ⟨sy, hsy⟩ : ∃ sy, Pr.sn l4 ku j y = sy := ⟨_, rfl⟩
                    have hs01 : 0 ≤ sy ∧ sy ≤ 1 := by
                      rw [← hsy]
                      unfold Pr.sn
                      split
                      · omega
                      · split <;> omega
                    have hs0 := hs01.1
                    have hs1 := hs01.2
                    have c9 := HS.out.2.1.val k sy (by rw [tnF_at hy, hsy])
                    have f9 := HS.out.2.1.free k
                    have HST1 := hid' (tnF_set (f := Pr.sn l5 ku (j + 1)) (g := Pr.sn l4 ku j) hy)
                    have HST2 := hid' (tnF_same (f := Pr.sn l5 ku (j + 1)) (g := Pr.sn l4 ku j) hy)
                    clear hs01 hy
                    by_cases hyz : y = z
                    · have e1 : (y == z) = true := by rw [hyz]; exact beq_self_eq_true _
                      have HV : Hid (Pr.sn l5 ku (j + 1) y = sy + 1) := hid' (by rw [HSY.out, hsy, if_pos hyz])
                      clear hyz hsy
                      go_wp2
                      go_roundw
                      case rel =>
                        refine ⟨k + 1, by go_num, by omega, hid' ⟨?_, ?_, ?_⟩⟩
                        · have hU := upd_setCell wr bs k (.int .i64 (sy + 1))
                          exact ⟨HS.out.1.cm.other (LF.of_upd (S := fun k => k = bs) hU rfl) (fun m hm e => HBS.out.2.1 (e ▸ hm)), own_same HS.out.1.r (fun m hm => hU.block m (HBS.out.2.2 m hm))⟩
                        · have := HS.out.2.1.put k (sy + 1)
                          rw [← HV.out, HST1.out] at this
                          rw [HV.out] at this
                          exact this
                        · exact HS.out.2.2.trans ((upd_setCell wr bs k (.int .i64 (sy + 1))).below HBG.out)
                      case measure => simp [intOf]; omega
                    · have e1 : (y == z) = false := beq_false_of_ne hyz
                      have HV : Hid (Pr.sn l5 ku (j + 1) y = Pr.sn l4 ku j y) := hid' (by rw [HSY.out, if_neg hyz]; omega)
                      clear hyz hsy
                      go_wp2
                      go_roundw
                      case rel => exact ⟨k + 1, by go_num, by omega, hid' ⟨HS.out.1, by rw [← HST2.out HV.out]; exact HS.out.2.1, HS.out.2.2⟩⟩
                      case measure => simp [intOf]; omega
                  · have hlk2 : ¬ (k : Int) < (n : Int) := by omega
                    have HFE : Hid (tnF own (Pr.sn l5 ku (j + 1)) (Pr.sn l4 ku j) k = own.map (Pr.sn l5 ku (j + 1))) := hid' (tnF_end (by rw [HOL.out]; omega))
                    clear hlk
                    go_wp2
                    go_roundw
                    case rel => exact ⟨j + 1, l5, by go_num, by omega, hid' ⟨HS.out.1, HAL5.out, HRI5.out, by rw [← HFE.out]; exact HS.out.2.1, HS.out.2.2⟩⟩
                    case measure => simp [intOf]; omega
              · have hlj2 : ¬ (j : Int) < (n : Int) := by omega
                have HEND := hid' (Pr.ri_end (by rw [HOL.out]; omega) HS.out.2.2.1)
                clear hlj
                go_wp2
                go_loopw [17] (fun s17 wy => ∃ k : Nat, s17 = .int .i64 (k : Int) ∧ k ≤ n ∧ wy = wr) (fun s17 _ => n - (intOf s17).toNat)
                case atStart => exact ⟨0, rfl, Nat.zero_le _, rfl⟩
                case round =>
                  obtain ⟨k, rfl, hk, hwy⟩ := hrel
                  subst hwy
                  by_cases hlk : k < n
                  · have hlk2 : (k : Int) < (n : Int) := by omega
                    obtain ⟨y, hy⟩ : ∃ y, own[k]? = some y := ⟨_, List.getElem?_eq_getElem (by rw [HOL.out]; exact hlk)⟩
                    have c9 := HS.out.2.2.2.1.val k 1 (by rw [List.getElem?_map, hy]; simp [HEND.out.1 y (List.mem_of_getElem? hy)])
                    clear hy
                    go_wp2
                    go_roundw
                    case rel => exact ⟨k + 1, by go_num, by omega, by first | rfl | trivial⟩
                    case measure => simp [intOf]; omega
                  · have hlk2 : ¬ (k : Int) < (n : Int) := by omega
                    clear hlk
                    go_wp2
                    go_roundw
                    case rel => exact ⟨r + 1, l4, by go_num, by omega, hid' ⟨HS.out.1, HS.out.2.1, HEND.out.2, HS.out.2.2.2.2⟩⟩
                    case measure => simp [intOf]; omega
          · have hl3i : ¬ (r : Int) < 3 := by omega
            have hl3d : decide ((r : Int) < 3) = false := decide_eq_false hl3i
            go_wp2_with fail
            refine (awake_any _).mono ?_
            rintro e w8 ⟨rfl, hb8⟩
            have HB8 := hid' (below_from HS.out.2.2.2 hb8 HS.out.2.2.2.size)
            have HC8 := hid' (HS.out.1.keep hb8).cm
            have HLE : Hid (l3.ids.length = n) := hid' (by rw [HS.out.2.1.len, HOL.out])
            have e9 : ((n : Int) == (n : Int)) = true := beq_self_eq_true _
            clear hb8
            go_wp2_with fail
            refine (clen_any w.heap.size b mv l3 _ HC8.out n HLE.out).mono ?_
            rintro e w9 ⟨rfl, hw9⟩
            subst w9
            go_wp2
            go_ret
            exact ⟨rfl, HB8.out⟩
        · have hlrd : decide ((r : Int) < rounds) = false := decide_eq_false hlr
          go_wp2_with fail
          refine (awake_any _).mono ?_
          rintro e w8 ⟨rfl, hb8⟩
          have HB8 := hid' (below_from HS.out.2.2.2 hb8 HS.out.2.2.2.size)
          have HC8 := hid' (HS.out.1.keep hb8).cm
          have HLE : Hid (l3.ids.length = n) := hid' (by rw [HS.out.2.1.len, HOL.out])
          have e9 : ((n : Int) == (n : Int)) = true := beq_self_eq_true _
          clear hb8
          go_wp2_with fail
          refine (clen_any w.heap.size b mv l3 _ HC8.out n HLE.out).mono ?_
          rintro e w9 ⟨rfl, hw9⟩
          subst w9
          go_wp2
          go_ret
          exact ⟨rfl, HB8.out⟩

end Go.Proofs.YtekpjbhhbklboaaDoor
