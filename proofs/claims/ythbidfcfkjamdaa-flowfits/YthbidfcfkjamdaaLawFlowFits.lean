/-
  FlowFits: how much may be sent is as the document says, and so much can be taken from each window.
-/
import Derived.Test.YthbidfcfkjamdaaFlS
import Derived.Test.YthbidfcfkjamdaaFlI
namespace Go.Proofs.Ythbidfcfkjamdaa
open Go.RowKit

theorem new_one (w : World) (u : Value) (t : TypeId) : ∀ (j : Nat) (x : Value), [u][j]? = some x → (w.alloc (.cells #[u] t)).cell? ((⟨w.heap.size, 0, none⟩ : Addr).add j) = some x := by
  intro j x hj
  exact (rr_cells (heap_alloc_last w (.cells #[u] t)) j x hj).2
theorem tmod2 (i : Nat) (h : ¬ (i : Int).tmod 2 = 1) : (i : Int).tmod 2 = 0 := by
  rw [Int.tmod_eq_emod_of_nonneg (by omega)] at *
  omega
/-- An append behind a test that lets it through. -/
theorem wpList_append_own_g {P : Program} {w : World} {ops : Array Oper} {rest : List Oper} {o : Oper} {a : Act} {Q : Exit → Act → World → Prop} (hw : Region.wanted o (yielded ops a.tmps) = true) (s x : Operand) (t : TypeId)
    (ho : o.op = .call { callee := .builtin .append, args := #[s, x], argTypes := #[t, t] })
    (base : Nat) (e : TypeId) (i : TypeInfo) (z : Value) (size bytes : Nat) (ht : P.underlying t = some (.slice e)) (hi : P.info? e = some i) (hz : i.zero = some z)
    (hsize : i.size = size) (hby : i.bytes = bytes) (hzs : z.cells.size = size) (hsz : 0 < size)
    (v : Value) (n : Nat) (xs : List Value) (hs : a.eval s = v) (hown : w.ownsRow base e size v n xs)
    (ad : Addr) (m c : Nat) (news : List Value) (hx : a.eval x = .slice (some ad) m c) (hl : news.length = m * size) (hnews : ∀ j u, news[j]? = some u → w.cell? (ad.add j) = some u) (h1 : ∀ u ∈ news, u.oneCell' = true)
    (h63 : n + m ≤ maxLen) (hbytes : (n + m) * bytes ≤ 140737488355328) (hbase : base ≤ w.heap.size)
    (h : ∀ v' w', w'.ownsRow base e size v' (n + m) (xs ++ news) → w.grownBy w' v.ownBlock → wpList P ops Q rest (a.put o.dst v') w') : wpList P ops Q (o :: rest) a w :=
  wpList_step fun K hK => by
    simp only [hw, if_true]
    exact wp_append_own w s x t ho base e i z size bytes ht hi hz hsize hby hzs hsz v n xs hs hown ad m c news hx hl hnews h1 h63 hbytes hbase fun v' w' h2 h3 _ => hK _ _ (h v' w' h2 h3)
theorem infoP : (Try.prog.info? 39).map (fun i => (i.zero, i.size, i.bytes)) = some (some (.pointer none), 1, 8) := by kernel_rfl
theorem infoI : (Try.prog.info? 3).map (fun i => (i.zero, i.size, i.bytes)) = some (some (.int .i64 0), 1, 8) := by kernel_rfl
theorem info_parts {P : Program} {t : TypeId} {z : Option Value} {s b : Nat} (h : (P.info? t).map (fun i => (i.zero, i.size, i.bytes)) = some (z, s, b)) : ∃ i, P.info? t = some i ∧ i.zero = z ∧ i.size = s ∧ i.bytes = b := by
  cases hq : P.info? t with
  | none => simp [hq] at h
  | some i => simp [hq] at h; exact ⟨i, rfl, h.1, h.2.1, h.2.2⟩

set_option maxHeartbeats 8000000 in
set_option maxRecDepth 20000 in
theorem flowFits_true (n : Int) (sv : Value) (xs : List Int) (less : Int) (w : World) (hsc : ScrI w sv xs) :
    Calls Try.prog 5 #[.int .i64 n, sv, .int .i64 less] w fun e w' => e = .returned (.bool true) ∧ Below w.heap.size w w' := by
  obtain ⟨i0, hi, hz0, hz1, hz2⟩ := info_parts infoI
  obtain ⟨p0, hp, hy0, hy1, hy2⟩ := info_parts infoP
  have HI0 := hid' hi
  have HZ0 := hid' hz0
  have HZ1 := hid' hz1
  have HZ2 := hid' hz2
  have HP0 := hid' hp
  have HY0 := hid' hy0
  have HY1 := hid' hy1
  have HY2 := hid' hy2
  clear hi hz0 hz1 hz2 hp hy0 hy1 hy2
  obtain ⟨ao, cap, hsv⟩ := hsc.shape
  subst hsv
  obtain ⟨N, hN⟩ : ∃ N, xs.length = N := ⟨_, rfl⟩
  have HN := hid' hN
  rw [hN] at hsc ⊢
  have HSC := hid' hsc
  clear hN hsc
  have HS0 : Hid (WS w w.heap.size (.slice none 0 0) (.slice none 0 0) [] [] ∧ Below w.heap.size w w) := hid' ⟨WS.new w, Below.refl _ _⟩
  go_enter Try.func5, Try.ntmps5
  go_wp2
  go_loopw [7, 8, 9, 10, 11] (fun s7 s8 s9 _ _ wr => ∃ (i : Nat) (v u : Value) (qs : List (Nat × Int)), v = s7 ∧ u = s8 ∧ s9 = .int .i64 (i : Int) ∧ i ≤ N ∧ i ≤ 100 ∧ qs.length ≤ i ∧ Hid (WS wr w.heap.size v u qs (qs.map (·.2)) ∧ Below w.heap.size w wr)) (fun _ _ s9 _ _ _ => N - (intOf s9).toNat)
  case atStart => exact ⟨0, _, _, [], rfl, rfl, rfl, Nat.zero_le _, Nat.zero_le _, Nat.le_refl _, HS0⟩
  case round =>
    clear HS0
    obtain ⟨i, v, u, qs, rfl, rfl, rfl, hi, hi2, hql, HX⟩ := hrel
    have HW : Hid (WS wr w.heap.size v u qs (qs.map (·.2))) := hid' HX.out.1
    have HB : Hid (Below w.heap.size w wr) := hid' HX.out.2
    clear HX
    obtain ⟨vo, vcap, hv⟩ := own_shape HW.out.ws
    obtain ⟨uo, ucap, hu⟩ := own_shape HW.out.nw
    rw [List.length_map] at hu
    subst hv hu
    obtain ⟨m, hm⟩ : ∃ m, qs.length = m := ⟨_, rfl⟩
    have HM := hid' hm
    rw [hm] at HW hql ⊢
    clear hm
    by_cases hlt : i < N
    · have hlt2 : (i : Int) < (N : Int) := by omega
      by_cases h100 : i < 100
      · have h100i : (i : Int) < 100 := by omega
        obtain ⟨x, hx⟩ : ∃ x, xs[i]? = some x := ⟨_, List.getElem?_eq_getElem (by rw [HN.out]; exact hlt)⟩
        obtain ⟨a, hao, x0⟩ := HSC.out.at HB.out i x hx
        subst hao
        clear hx
        by_cases hno : x < 0 ∨ 2147483647 < x
        · have HNO := hid' hno
          clear hno
          go_wp2_with fail
          refine (wnew_no x HNO.out _).mono ?_
          rintro e w1 ⟨rfl, hw1⟩
          subst w1
          go_wp2
          go_roundw
          case rel => exact ⟨i + 1, _, _, qs, rfl, rfl, by go_num, by omega, by omega, by rw [HM.out]; omega, hid' ⟨HW.out, HB.out⟩⟩
          case measure => simp [intOf]; omega
        · have HYE := hid' (wnew_yes x (by omega) (by omega) wr)
          have HIX : Hid (Fw.In x) := hid' (by unfold Fw.In; omega)
          clear hno
          go_wp2_with fail
          refine HYE.out.mono ?_
          rintro e w1 ⟨⟨b, rfl, hlb, ha1⟩, hb1⟩
          have HNB0 : Hid (b ∉ qs.map (·.1)) := hid' (fun hm => by
            obtain ⟨q, hq, rfl⟩ := List.mem_map.1 hm
            have := (HW.out.ar q hq).2.1.lt
            omega)
          have HBB : Hid (w.heap.size ≤ b) := hid' (Nat.le_trans HW.out.lo hlb)
          have HW1 := hid' (HW.out.keep hb1)
          have HA1 := hid' ha1
          have HB1 := hid' (below_two HB.out hb1)
          clear hlb ha1 hb1 HW HB HYE x0
          by_cases hodd : (i : Int).tmod 2 = 1
          · obtain ⟨r, s, hsh⟩ : ∃ r s, Fw.shift x less = (r, s) := ⟨_, _, rfl⟩
            have HSH := hid' hsh
            clear hsh
            go_wp2_with fail
            refine (wshift_any b x less r s HSH.out HIX.out _ HA1.out).mono ?_
            rintro e w2 ⟨rfl, ha2, hu2⟩
            have HIN := hid' (Fw.shift_in HSH.out HIX.out)
            have HW2 := hid' (HW1.out.upd hu2 HA1.out HNB0.out)
            have HA2 := hid' ha2
            have HB2 := hid' (HB1.out.trans (hu2.below HBB.out))
            clear ha2 hu2 HW1 HA1 HB1
            have HNB : Hid (b ∉ qs.map (·.1)) := HNB0
            have HV : Hid (w2.ownsRow w.heap.size 39 1 (.slice vo m vcap) m (pvC qs)) := hid' (by have := HW2.out.ws; rw [HM.out] at this; exact this)
            go_wp2_with (at_builtin; refine wpList_append_own _ rfl _ _ 53 rfl w.heap.size 39 p0 (.pointer none) 1 8 Try.underlying53 HP0.out HY0.out HY1.out HY2.out rfl (by decide) _ _ _ rfl (own_keep HV.out ((Below.refl _ _).alloc (Nat.le_refl _) _)) ⟨_, 0, none⟩ 1 1 [.pointer (some ⟨b, 0, none⟩)] rfl rfl (new_one _ _ _) (by simp [Value.oneCell']) (by unfold maxLen; omega) (by omega) (by have := HB2.out.size; simp; omega) ?_; intro v' w4 hown4 hgrow4 _; refine Hid.out ?_)
            obtain ⟨hw4, ha4, hb4⟩ := (HW2.out.keep ((Below.refl _ _).alloc (Nat.le_refl _) _)).push HBB.out (HA2.out.keep ((Below.refl _ _).alloc (Nat.le_refl _) _)) HIN.out HNB.out hgrow4 (by rw [HM.out]; exact hown4)
            have HW4 := hid' hw4
            have HA4 := hid' ha4
            have HB4 := hid' ((below_two HB2.out ((Below.refl _ _).alloc (Nat.le_refl _) _)).trans hb4)
            obtain ⟨vo4, vc4, hv4⟩ := own_shape hown4
            subst hv4
            clear hw4 ha4 hb4 hown4 hgrow4 HV HW2 HA2 HB2
            refine hid ?_
            go_wp2_with fail
            refine (wsize_any b s _ HA4.out).mono ?_
            rintro e w5 ⟨rfl, hw5⟩
            subst w5
            have HU : Hid (w4.ownsRow w.heap.size 3 1 (.slice uo m ucap) m (nmC (qs.map (·.2)))) := hid' (by have := HW4.out.nw; rw [List.length_map, HM.out] at this; exact this)
            go_wp2_with (at_builtin; refine wpList_append_own _ rfl _ _ 52 rfl w.heap.size 3 i0 (.int .i64 0) 1 8 Try.underlying52 HI0.out HZ0.out HZ1.out HZ2.out rfl (by decide) _ _ _ rfl (own_keep HU.out ((Below.refl _ _).alloc (Nat.le_refl _) _)) ⟨_, 0, none⟩ 1 1 [.int .i64 s] rfl rfl (new_one _ _ _) (by simp [Value.oneCell']) (by unfold maxLen; omega) (by omega) (by have := HB4.out.size; simp; omega) ?_; intro u' w6 hown6 hgrow6 _; refine Hid.out ?_)
            obtain ⟨hw6, hb6⟩ := (HW4.out.keep ((Below.refl _ _).alloc (Nat.le_refl _) _)).num hgrow6 (by rw [List.length_map, HM.out]; exact hown6)
            have HW6 : Hid (WS w6 w.heap.size (.slice vo4 (m + 1) vc4) u' (qs ++ [(b, s)]) ((qs ++ [(b, s)]).map (·.2))) := hid' (by rw [List.map_append]; exact hw6)
            have HB6 := hid' ((below_two HB4.out ((Below.refl _ _).alloc (Nat.le_refl _) _)).trans hb6)
            clear hw6 hb6 hown6 hgrow6 HU HW4 HA4 HB4
            refine hid ?_
            go_wp2
            go_roundw
            case rel => exact ⟨i + 1, _, _, qs ++ [(b, s)], rfl, rfl, by go_num, by omega, by omega, by rw [List.length_append, HM.out]; simp; omega, hid' ⟨HW6.out, HB6.out⟩⟩
            case measure => simp [intOf]; omega
          · have hodd2 : (i : Int).tmod 2 = 0 := tmod2 i hodd
            clear hodd
            have HIN := HIX
            have HW2 := HW1
            have HA2 := HA1
            have HB2 := HB1
            clear HW1 HA1 HB1
            have HNB : Hid (b ∉ qs.map (·.1)) := HNB0
            have HV : Hid (w1.ownsRow w.heap.size 39 1 (.slice vo m vcap) m (pvC qs)) := hid' (by have := HW2.out.ws; rw [HM.out] at this; exact this)
            go_wp2_with (at_builtin; refine wpList_append_own _ rfl _ _ 53 rfl w.heap.size 39 p0 (.pointer none) 1 8 Try.underlying53 HP0.out HY0.out HY1.out HY2.out rfl (by decide) _ _ _ rfl (own_keep HV.out ((Below.refl _ _).alloc (Nat.le_refl _) _)) ⟨_, 0, none⟩ 1 1 [.pointer (some ⟨b, 0, none⟩)] rfl rfl (new_one _ _ _) (by simp [Value.oneCell']) (by unfold maxLen; omega) (by omega) (by have := HB2.out.size; simp; omega) ?_; intro v' w4 hown4 hgrow4 _; refine Hid.out ?_)
            obtain ⟨hw4, ha4, hb4⟩ := (HW2.out.keep ((Below.refl _ _).alloc (Nat.le_refl _) _)).push HBB.out (HA2.out.keep ((Below.refl _ _).alloc (Nat.le_refl _) _)) HIN.out HNB.out hgrow4 (by rw [HM.out]; exact hown4)
            have HW4 := hid' hw4
            have HA4 := hid' ha4
            have HB4 := hid' ((below_two HB2.out ((Below.refl _ _).alloc (Nat.le_refl _) _)).trans hb4)
            obtain ⟨vo4, vc4, hv4⟩ := own_shape hown4
            subst hv4
            clear hw4 ha4 hb4 hown4 hgrow4 HV HW2 HA2 HB2
            refine hid ?_
            go_wp2_with fail
            refine (wsize_any b x _ HA4.out).mono ?_
            rintro e w5 ⟨rfl, hw5⟩
            subst w5
            have HU : Hid (w4.ownsRow w.heap.size 3 1 (.slice uo m ucap) m (nmC (qs.map (·.2)))) := hid' (by have := HW4.out.nw; rw [List.length_map, HM.out] at this; exact this)
            go_wp2_with (at_builtin; refine wpList_append_own _ rfl _ _ 52 rfl w.heap.size 3 i0 (.int .i64 0) 1 8 Try.underlying52 HI0.out HZ0.out HZ1.out HZ2.out rfl (by decide) _ _ _ rfl (own_keep HU.out ((Below.refl _ _).alloc (Nat.le_refl _) _)) ⟨_, 0, none⟩ 1 1 [.int .i64 x] rfl rfl (new_one _ _ _) (by simp [Value.oneCell']) (by unfold maxLen; omega) (by omega) (by have := HB4.out.size; simp; omega) ?_; intro u' w6 hown6 hgrow6 _; refine Hid.out ?_)
            obtain ⟨hw6, hb6⟩ := (HW4.out.keep ((Below.refl _ _).alloc (Nat.le_refl _) _)).num hgrow6 (by rw [List.length_map, HM.out]; exact hown6)
            have HW6 : Hid (WS w6 w.heap.size (.slice vo4 (m + 1) vc4) u' (qs ++ [(b, x)]) ((qs ++ [(b, x)]).map (·.2))) := hid' (by rw [List.map_append]; exact hw6)
            have HB6 := hid' ((below_two HB4.out ((Below.refl _ _).alloc (Nat.le_refl _) _)).trans hb6)
            clear hw6 hb6 hown6 hgrow6 HU HW4 HA4 HB4
            refine hid ?_
            go_wp2
            go_roundw
            case rel => exact ⟨i + 1, _, _, qs ++ [(b, x)], rfl, rfl, by go_num, by omega, by omega, by rw [List.length_append, HM.out]; simp; omega, hid' ⟨HW6.out, HB6.out⟩⟩
            case measure => simp [intOf]; omega
      · have h100i : ¬ (i : Int) < 100 := by omega
        obtain ⟨r, hr⟩ : ∃ r, Fw.fits n (qs.map (·.2)) = r := ⟨_, rfl⟩
        have HFC : Hid (Calls Try.prog 23 #[.int .i64 n, .slice vo m vcap] wr fun e w' => e = .returned (.int .i64 r) ∧ w' = wr) := hid' (cfits_any _ (qs.map fun q => (some q.1, q.2)) n r (by rw [List.map_map]; exact hr) wr (by rw [pvC_wpC, List.length_map, HM.out]; have := RR.of_own HW.out.ws; rw [HM.out] at this; exact this) HW.out.wn (by rw [List.length_map, HM.out]; omega))
        have HFD : Hid (Calls Try.prog 24 #[.int .i64 n, .slice uo m ucap] wr fun e w' => e = .returned (.int .i64 r) ∧ w' = wr) := hid' (dfits_any _ (qs.map (·.2)) n r hr wr (RR.of_own HW.out.nw) (by rw [List.length_map, HM.out]; omega))
        have HR := hid' hr
        clear hr
        go_wp2_with fail
        refine HFC.out.mono ?_
        rintro e w1 ⟨rfl, hw1⟩
        subst w1
        go_wp2_with fail
        refine HFD.out.mono ?_
        rintro e w1 ⟨rfl, hw1⟩
        subst w1
        have HS1 : Hid (∃ qs2 : List (Nat × Int), WS wr w.heap.size (.slice vo m vcap) (.slice uo m ucap) qs2 (qs.map (·.2)) ∧ qs2.length = m ∧ (∀ t, 0 ≤ t → qs2[t]? = qs[t]?) ∧ Below w.heap.size w wr) := hid' ⟨qs, HW.out, HM.out, fun _ _ => rfl, HB.out⟩
        clear HFC HFD HW HB
        go_wp2
        go_loopw [13] (fun s13 wq => ∃ j : Nat, s13 = .int .i64 (j : Int) ∧ j ≤ m ∧ Hid (∃ qs2 : List (Nat × Int), WS wq w.heap.size (.slice vo m vcap) (.slice uo m ucap) qs2 (qs.map (·.2)) ∧ qs2.length = m ∧ (∀ t, j ≤ t → qs2[t]? = qs[t]?) ∧ Below w.heap.size w wq)) (fun s13 _ => m - (intOf s13).toNat)
        case atStart => exact ⟨0, rfl, Nat.zero_le _, HS1⟩
        case round =>
          clear HS1
          obtain ⟨j, rfl, hj, HX⟩ := hrel
          obtain ⟨qs2, HW, HM2, HT, HB⟩ : ∃ qs2 : List (Nat × Int), Hid (WS wr w.heap.size (.slice vo m vcap) (.slice uo m ucap) qs2 (qs.map (·.2))) ∧ Hid (qs2.length = m) ∧ Hid (∀ t, j ≤ t → qs2[t]? = qs[t]?) ∧ Hid (Below w.heap.size w wr) := by
            obtain ⟨a, b, c, d, e⟩ := HX.out
            exact ⟨a, b, c, d, e⟩
          clear HX
          by_cases hjm : j < m
          · have hjm2 : (j : Int) < (m : Int) := by omega
            obtain ⟨q, hq⟩ : ∃ q, qs[j]? = some q := ⟨_, List.getElem?_eq_getElem (by rw [HM.out]; exact hjm)⟩
            obtain ⟨b, t⟩ := q
            have hq2 : qs2[j]? = some (b, t) := (HT.out j (Nat.le_refl _)).trans hq
            obtain ⟨a, hao, x0⟩ := (RR.of_own HW.out.ws).at (by rw [pvC_length]) j (.pointer (some ⟨b, 0, none⟩)) (by simp [pvC, hq2])
            subst hao
            have HQ := hid' hq2
            have hmem := List.mem_of_getElem? hq2
            have HTK : Hid (Fw.take t r = (0, t - r)) := hid' (Fw.take_ok (by rw [← HR.out]; exact (Fw.fits_le (List.mem_map_of_mem (List.mem_of_getElem? hq))).1) (by rw [← HR.out]; exact (Fw.fits_le (List.mem_map_of_mem (List.mem_of_getElem? hq))).2))
            have HC : Hid (Calls Try.prog 20 #[.pointer (some ⟨b, 0, none⟩), .int .i64 r] wr fun e w' => e = .returned (.int .i64 0) ∧ Ar w' b 80 #[.int .i64 (t - r)] ∧ Upd b wr w') := hid' (wtake_any b t r 0 (t - r) HTK.out (HW.out.ar _ hmem).2.2 wr (HW.out.ar _ hmem).2.1)
            have HIN := hid' (Fw.take_in HTK.out (HW.out.ar _ hmem).2.2)
            clear hq hq2 hmem HTK
            go_wp2_with fail
            refine HC.out.mono ?_
            rintro e w3 ⟨rfl, ha3, hu3⟩
            obtain ⟨hw3, hb3⟩ := HW.out.put HQ.out hu3 ha3 HIN.out
            have HS3 : Hid (∃ qs2 : List (Nat × Int), WS w3 w.heap.size (.slice (some a) m vcap) (.slice uo m ucap) qs2 (qs.map (·.2)) ∧ qs2.length = m ∧ (∀ t, j + 1 ≤ t → qs2[t]? = qs[t]?) ∧ Below w.heap.size w w3) := hid' ⟨_, hw3, by rw [List.length_set]; exact HM2.out, fun t ht => by rw [List.getElem?_set, if_neg (by omega)]; exact HT.out t (by omega), HB.out.trans hb3⟩
            clear ha3 hu3 hw3 hb3 HC x0
            go_wp2
            go_roundw
            case rel => exact ⟨j + 1, by go_num, by omega, HS3⟩
            case measure => simp [intOf]; omega
          · have hjm2 : ¬ (j : Int) < (m : Int) := by omega
            go_wp2_with fail
            refine (awake9 _).mono ?_
            rintro e w3 ⟨rfl, hb3⟩
            have HW3 := hid' (HW.out.keep hb3)
            have HB3 := hid' (below_two HB.out hb3)
            clear hb3 HW HB
            by_cases hm0 : m = 0
            · subst hm0
              go_wp2
              go_ret
              exact ⟨rfl, HB3.out⟩
            · have hm1 : ((m : Int) == 0) = false := by simp; omega
              have hm2 : (m == 0) = false := by simp; omega
              have HV : Hid (w3.ownsRow w.heap.size 39 1 (.slice vo m vcap) m (pvC qs2)) := hid' (by have := HW3.out.ws; rw [HM2.out] at this; exact this)
              go_wp2_with (at_builtin; refine wpList_append_own_g ?_ _ _ 53 rfl w.heap.size 39 p0 (.pointer none) 1 8 Try.underlying53 HP0.out HY0.out HY1.out HY2.out rfl (by decide) _ _ _ rfl (own_keep HV.out ((Below.refl _ _).alloc (Nat.le_refl _) _)) ⟨_, 0, none⟩ 1 1 [.pointer none] rfl rfl (new_one _ _ _) (by simp [Value.oneCell']) (by unfold maxLen; omega) (by omega) (by have := HB3.out.size; simp; omega) ?_; (first | rfl | simp [Region.wanted, yielded]); intro v' w4 hown4 hgrow4; refine Hid.out ?_)
              have hb4 : Below w.heap.size w w4 := (below_two HB3.out ((Below.refl _ _).alloc (Nat.le_refl _) _)).trans (Below.of_grown hgrow4 (fun k hk => (own_ty HV.out k hk).1) (by have := HB3.out.size; simp; omega))
              have hwn : ∀ q ∈ (qs2.map fun q => ((some q.1 : Option Nat), q.2)) ++ [(none, 0)], Wn w4 q := by
                intro q hq
                rcases List.mem_append.1 hq with hq | hq
                · obtain ⟨p, hp, rfl⟩ := List.mem_map.1 hq
                  have h1 := (HW3.out.ar p hp).2.1
                  have h2 := Ar.keep h1 ((Below.refl _ w3).alloc (Nat.le_refl _) (.cells #[.pointer none] 39))
                  exact ar_grown h2 hgrow4 (own_apart (own_keep HV.out ((Below.refl _ w3).alloc (Nat.le_refl _) (.cells #[.pointer none] 39))) h2 (by decide))
                · obtain rfl : q = (none, 0) := by simpa using hq
                  exact rfl
              have HC : Hid (Calls Try.prog 23 #[.int .i64 n, v'] w4 fun e w' => e = .returned (.int .i64 0) ∧ w' = w4) := hid' (cfits_any _ ((qs2.map fun q => ((some q.1 : Option Nat), q.2)) ++ [(none, 0)]) n 0 (Fw.fits_zero (by simp)) w4 (by
                have := RR.of_own hown4
                rw [List.map_append, pvC_wpC, List.length_append, List.length_map, HM2.out]
                exact this) hwn (by rw [List.length_append, List.length_map, HM2.out]; simp; omega))
              have HB4 := hid' hb4
              obtain ⟨vo4, vc4, hv4⟩ := own_shape hown4
              subst hv4
              clear hb4 hwn hown4 hgrow4 HV HW3 HB3
              refine hid ?_
              go_wp2_with fail
              refine HC.out.mono ?_
              rintro e w5 ⟨rfl, hw5⟩
              subst w5
              go_wp2
              go_ret
              exact ⟨rfl, HB4.out⟩
    · have hlt2 : ¬ (i : Int) < (N : Int) := by omega
      obtain ⟨r, hr⟩ : ∃ r, Fw.fits n (qs.map (·.2)) = r := ⟨_, rfl⟩
      have HFC : Hid (Calls Try.prog 23 #[.int .i64 n, .slice vo m vcap] wr fun e w' => e = .returned (.int .i64 r) ∧ w' = wr) := hid' (cfits_any _ (qs.map fun q => (some q.1, q.2)) n r (by rw [List.map_map]; exact hr) wr (by rw [pvC_wpC, List.length_map, HM.out]; have := RR.of_own HW.out.ws; rw [HM.out] at this; exact this) HW.out.wn (by rw [List.length_map, HM.out]; omega))
      have HFD : Hid (Calls Try.prog 24 #[.int .i64 n, .slice uo m ucap] wr fun e w' => e = .returned (.int .i64 r) ∧ w' = wr) := hid' (dfits_any _ (qs.map (·.2)) n r hr wr (RR.of_own HW.out.nw) (by rw [List.length_map, HM.out]; omega))
      have HR := hid' hr
      clear hr
      go_wp2_with fail
      refine HFC.out.mono ?_
      rintro e w1 ⟨rfl, hw1⟩
      subst w1
      go_wp2_with fail
      refine HFD.out.mono ?_
      rintro e w1 ⟨rfl, hw1⟩
      subst w1
      have HS1 : Hid (∃ qs2 : List (Nat × Int), WS wr w.heap.size (.slice vo m vcap) (.slice uo m ucap) qs2 (qs.map (·.2)) ∧ qs2.length = m ∧ (∀ t, 0 ≤ t → qs2[t]? = qs[t]?) ∧ Below w.heap.size w wr) := hid' ⟨qs, HW.out, HM.out, fun _ _ => rfl, HB.out⟩
      clear HFC HFD HW HB
      go_wp2
      go_loopw [13] (fun s13 wq => ∃ j : Nat, s13 = .int .i64 (j : Int) ∧ j ≤ m ∧ Hid (∃ qs2 : List (Nat × Int), WS wq w.heap.size (.slice vo m vcap) (.slice uo m ucap) qs2 (qs.map (·.2)) ∧ qs2.length = m ∧ (∀ t, j ≤ t → qs2[t]? = qs[t]?) ∧ Below w.heap.size w wq)) (fun s13 _ => m - (intOf s13).toNat)
      case atStart => exact ⟨0, rfl, Nat.zero_le _, HS1⟩
      case round =>
        clear HS1
        obtain ⟨j, rfl, hj, HX⟩ := hrel
        obtain ⟨qs2, HW, HM2, HT, HB⟩ : ∃ qs2 : List (Nat × Int), Hid (WS wr w.heap.size (.slice vo m vcap) (.slice uo m ucap) qs2 (qs.map (·.2))) ∧ Hid (qs2.length = m) ∧ Hid (∀ t, j ≤ t → qs2[t]? = qs[t]?) ∧ Hid (Below w.heap.size w wr) := by
          obtain ⟨a, b, c, d, e⟩ := HX.out
          exact ⟨a, b, c, d, e⟩
        clear HX
        by_cases hjm : j < m
        · have hjm2 : (j : Int) < (m : Int) := by omega
          obtain ⟨q, hq⟩ : ∃ q, qs[j]? = some q := ⟨_, List.getElem?_eq_getElem (by rw [HM.out]; exact hjm)⟩
          obtain ⟨b, t⟩ := q
          have hq2 : qs2[j]? = some (b, t) := (HT.out j (Nat.le_refl _)).trans hq
          obtain ⟨a, hao, x0⟩ := (RR.of_own HW.out.ws).at (by rw [pvC_length]) j (.pointer (some ⟨b, 0, none⟩)) (by simp [pvC, hq2])
          subst hao
          have HQ := hid' hq2
          have hmem := List.mem_of_getElem? hq2
          have HTK : Hid (Fw.take t r = (0, t - r)) := hid' (Fw.take_ok (by rw [← HR.out]; exact (Fw.fits_le (List.mem_map_of_mem (List.mem_of_getElem? hq))).1) (by rw [← HR.out]; exact (Fw.fits_le (List.mem_map_of_mem (List.mem_of_getElem? hq))).2))
          have HC : Hid (Calls Try.prog 20 #[.pointer (some ⟨b, 0, none⟩), .int .i64 r] wr fun e w' => e = .returned (.int .i64 0) ∧ Ar w' b 80 #[.int .i64 (t - r)] ∧ Upd b wr w') := hid' (wtake_any b t r 0 (t - r) HTK.out (HW.out.ar _ hmem).2.2 wr (HW.out.ar _ hmem).2.1)
          have HIN := hid' (Fw.take_in HTK.out (HW.out.ar _ hmem).2.2)
          clear hq hq2 hmem HTK
          go_wp2_with fail
          refine HC.out.mono ?_
          rintro e w3 ⟨rfl, ha3, hu3⟩
          obtain ⟨hw3, hb3⟩ := HW.out.put HQ.out hu3 ha3 HIN.out
          have HS3 : Hid (∃ qs2 : List (Nat × Int), WS w3 w.heap.size (.slice (some a) m vcap) (.slice uo m ucap) qs2 (qs.map (·.2)) ∧ qs2.length = m ∧ (∀ t, j + 1 ≤ t → qs2[t]? = qs[t]?) ∧ Below w.heap.size w w3) := hid' ⟨_, hw3, by rw [List.length_set]; exact HM2.out, fun t ht => by rw [List.getElem?_set, if_neg (by omega)]; exact HT.out t (by omega), HB.out.trans hb3⟩
          clear ha3 hu3 hw3 hb3 HC x0
          go_wp2
          go_roundw
          case rel => exact ⟨j + 1, by go_num, by omega, HS3⟩
          case measure => simp [intOf]; omega
        · have hjm2 : ¬ (j : Int) < (m : Int) := by omega
          go_wp2_with fail
          refine (awake9 _).mono ?_
          rintro e w3 ⟨rfl, hb3⟩
          have HW3 := hid' (HW.out.keep hb3)
          have HB3 := hid' (below_two HB.out hb3)
          clear hb3 HW HB
          by_cases hm0 : m = 0
          · subst hm0
            go_wp2
            go_ret
            exact ⟨rfl, HB3.out⟩
          · have hm1 : ((m : Int) == 0) = false := by simp; omega
            have hm2 : (m == 0) = false := by simp; omega
            have HV : Hid (w3.ownsRow w.heap.size 39 1 (.slice vo m vcap) m (pvC qs2)) := hid' (by have := HW3.out.ws; rw [HM2.out] at this; exact this)
            go_wp2_with (at_builtin; refine wpList_append_own_g ?_ _ _ 53 rfl w.heap.size 39 p0 (.pointer none) 1 8 Try.underlying53 HP0.out HY0.out HY1.out HY2.out rfl (by decide) _ _ _ rfl (own_keep HV.out ((Below.refl _ _).alloc (Nat.le_refl _) _)) ⟨_, 0, none⟩ 1 1 [.pointer none] rfl rfl (new_one _ _ _) (by simp [Value.oneCell']) (by unfold maxLen; omega) (by omega) (by have := HB3.out.size; simp; omega) ?_; (first | rfl | simp [Region.wanted, yielded]); intro v' w4 hown4 hgrow4; refine Hid.out ?_)
            have hb4 : Below w.heap.size w w4 := (below_two HB3.out ((Below.refl _ _).alloc (Nat.le_refl _) _)).trans (Below.of_grown hgrow4 (fun k hk => (own_ty HV.out k hk).1) (by have := HB3.out.size; simp; omega))
            have hwn : ∀ q ∈ (qs2.map fun q => ((some q.1 : Option Nat), q.2)) ++ [(none, 0)], Wn w4 q := by
              intro q hq
              rcases List.mem_append.1 hq with hq | hq
              · obtain ⟨p, hp, rfl⟩ := List.mem_map.1 hq
                have h1 := (HW3.out.ar p hp).2.1
                have h2 := Ar.keep h1 ((Below.refl _ w3).alloc (Nat.le_refl _) (.cells #[.pointer none] 39))
                exact ar_grown h2 hgrow4 (own_apart (own_keep HV.out ((Below.refl _ w3).alloc (Nat.le_refl _) (.cells #[.pointer none] 39))) h2 (by decide))
              · obtain rfl : q = (none, 0) := by simpa using hq
                exact rfl
            have HC : Hid (Calls Try.prog 23 #[.int .i64 n, v'] w4 fun e w' => e = .returned (.int .i64 0) ∧ w' = w4) := hid' (cfits_any _ ((qs2.map fun q => ((some q.1 : Option Nat), q.2)) ++ [(none, 0)]) n 0 (Fw.fits_zero (by simp)) w4 (by
              have := RR.of_own hown4
              rw [List.map_append, pvC_wpC, List.length_append, List.length_map, HM2.out]
              exact this) hwn (by rw [List.length_append, List.length_map, HM2.out]; simp; omega))
            have HB4 := hid' hb4
            obtain ⟨vo4, vc4, hv4⟩ := own_shape hown4
            subst hv4
            clear hb4 hwn hown4 hgrow4 HV HW3 HB3
            refine hid ?_
            go_wp2_with fail
            refine HC.out.mono ?_
            rintro e w5 ⟨rfl, hw5⟩
            subst w5
            go_wp2
            go_ret
            exact ⟨rfl, HB4.out⟩

end Go.Proofs.Ythbidfcfkjamdaa
