/-
  The laws' told: what a reader reads of bytes, by its contract.
-/
import Derived.BigQuiet
import Derived.Test.YtbpdhcfmdkmoiaaGreatDoorPnBK
import Derived.Test.YtbpdhcfmdkmoiaaGreatDoorPnBL
namespace Go.Proofs.YtbpdhcfmdkmoiaaGreatDoor
open Go.RowKit

theorem LF.bel21 {S : Nat → Prop} {w w1 w2 : World} (h : LF S w w1) (hb : Below w1.heap.size w1 w2) : LF S w w2 := h.trans (LF.of_below (S := S) hb) (fun _ _ h => h)
theorem infoPc21 : (Tryz.prog.info? 49).map (fun i => (i.zero, i.size, i.bytes)) = some (some (.agg pcZ), 15, 192) := by kernel_rfl
theorem PS21.upd {X : Nat → Prop} {x : Nat} {w w' : World} {B : Nat} {v : Value} {ps : List Hr.Pc} (h : PS21 w B X v ps) (hu : Upd x w w') (hx : w.heap.size ≤ x) : PS21 w' B X v ps :=
  h.other (LF.of_upd (S := fun k => k = x) hu rfl) (fun k hk _ e => by omega) (fun _ _ => id)
/-- What told leaves. -/
structure TO21 (B b c m : Nat) (lv fv : Value) (q : List Hr.Pc × Int × Bool × Hr.St) (w : World) (v lv' fv' : Value) (w' : World) : Prop where
  rt : RT21 B b q.2.2.2 lv' fv' w'
  ps : PS21 w' B (RS b lv' fv') v q.1
  lf : LF (RS b lv fv) w w'
  rw : RW w.heap.size lv fv lv' fv'
  fr : ∀ k, v.ownBlock = some k → w.heap.size ≤ k
  len : q.1.length ≤ m
  cost : Hr.cost q.2.2.2 ≤ c
  bd : ∀ r ∈ q.1, r.bd.size ≤ c
/-- What its loop keeps. -/
structure TL21 (B b c m : Nat) (lv0 fv0 : Value) (T : List Hr.Pc × Int × Bool × Hr.St) (w : World) (i : Nat) (s : Hr.St) (lv fv : Value) (dd : ByteArray) (out : List Hr.Pc) (v : Value) (wr : World) : Prop where
  rt : RT21 B b s lv fv wr
  ps : PS21 wr B (RS b lv fv) v out
  lf : LF (RS b lv0 fv0) w wr
  rw : RW w.heap.size lv0 fv0 lv fv
  fr : ∀ k, v.ownBlock = some k → w.heap.size ≤ k
  len : out.length ≤ i
  cost : Hr.cost s + dd.size ≤ c
  eq : T = Hr.told (m - i) s dd.data.toList out
  bd : ∀ r ∈ out, r.bd.size + dd.size ≤ c
theorem TL21.keep {B b c m i : Nat} {lv0 fv0 lv fv v : Value} {T : List Hr.Pc × Int × Bool × Hr.St} {w wr wr' : World} {s : Hr.St} {dd : ByteArray} {out : List Hr.Pc} (h : TL21 B b c m lv0 fv0 T w i s lv fv dd out v wr) (hb : Below wr.heap.size wr wr') : TL21 B b c m lv0 fv0 T w i s lv fv dd out v wr' :=
  ⟨h.rt.keep hb, h.ps.keep hb, h.lf.bel21 hb, h.rw, h.fr, h.len, h.cost, h.eq, h.bd⟩
theorem Hr.addP_len (out : List Hr.Pc) (p : Hr.Pc) : (Hr.addP out p).length ≤ out.length + 1 := by
  rcases List.eq_nil_or_concat out with rfl | ⟨a, q, rfl⟩
  · exact Nat.le_refl _
  · rw [List.concat_eq_append, Hr.addP_last]; split <;> simp

theorem Hr.addP_m (out : List Hr.Pc) (p : Hr.Pc) (h : (p.mark == 2) = false) : Hr.addP out p = out ++ [p] := by
  rcases List.eq_nil_or_concat out with rfl | ⟨a, q, rfl⟩
  · rfl
  · rw [List.concat_eq_append, Hr.addP_last, h]; rfl
theorem Hr.addP_q (a : List Hr.Pc) (q p : Hr.Pc) (h : (q.mark == 2) = false) : Hr.addP (a ++ [q]) p = a ++ [q] ++ [p] := by rw [Hr.addP_last, h, Bool.and_false]; rfl
theorem Hr.addP_b (a : List Hr.Pc) (q p : Hr.Pc) (h : (p.mark == 2) = true) (h' : (q.mark == 2) = true) : Hr.addP (a ++ [q]) p = a ++ [Hr.grow q p.bd] := by rw [Hr.addP_last, h, h']; rfl
theorem piece_new21 (y : World) (p : Hr.Pc) (rv tv : Value) : ∀ j u, (pcC p rv tv).toList[j]? = some u → (y.alloc (.cells (pcC p rv tv) 49)).cell? ((⟨y.heap.size, 0, none⟩ : Addr).add j) = some u := by
  intro j u hj
  have hA : Ar (y.alloc (.cells (pcC p rv tv) 49)) y.heap.size 49 (pcC p rv tv) := heap_alloc_last y _
  rw [Addr.add_mid, Nat.zero_add]
  exact hA.cell j u (by simpa using hj)
/-- A piece is laid behind the row: what the loop keeps. -/
theorem TL21.more {B b c m i n cap : Nat} {lv0 fv0 lv fv v3 rv tv : Value} {ao : Option Addr} {T : List Hr.Pc × Int × Bool × Hr.St} {w y w9 : World} {s : Hr.St} {x : ByteArray} {out : List Hr.Pc} {p : Hr.Pc} {xs : List Value}
    (hrt : RT21 B b s lv fv y) (hlf : LF (RS b lv0 fv0) w y) (hrw : RW w.heap.size lv0 fv0 lv fv) (hfr : ∀ k, (Value.slice ao n cap).ownBlock = some k → w.heap.size ≤ k) (hlen : out.length ≤ i) (hc : Hr.cost s + x.size ≤ c)
    (hT : T = Hr.told (m - (i + 1)) s x.data.toList (out ++ [p])) (hn : out.length = n) (hbd : ∀ r ∈ out ++ [p], r.bd.size + x.size ≤ c)
    (ho : y.ownsRow B 49 15 (.slice ao n cap) n xs) (hp : ∀ j q, out[j]? = some q → PV21 y B (RS b lv fv) xs (j * 15) q) (hx : ∀ k, (Value.slice ao n cap).ownBlock = some k → ¬ RS b lv fv k)
    (k1 : y.ownsRow B 52 2 rv p.rq.fs.length (fC p.rq.fs)) (k2 : y.ownsRow B 52 2 tv p.fs.length (fC p.fs)) (k3 : ∀ k, rv.ownBlock = some k → ¬ RS b lv fv k) (k4 : ∀ k, tv.ownBlock = some k → ¬ RS b lv fv k)
    (ho' : w9.ownsRow B 49 15 v3 (n + 1) (xs ++ (pcC p rv tv).toList)) (hg : (y.alloc (.cells (pcC p rv tv) 49)).grownBy w9 (Value.slice ao n cap).ownBlock)
    (hv : v3.ownBlock = (Value.slice ao n cap).ownBlock ∨ v3.ownBlock = some (y.alloc (.cells (pcC p rv tv) 49)).heap.size) : TL21 B b c m lv0 fv0 T w (i + 1) s lv fv x (out ++ [p]) v3 w9 := by
  subst hn
  obtain ⟨ya, hya⟩ : ∃ ya, y.alloc (.cells (pcC p rv tv) 49) = ya := ⟨_, rfl⟩
  have hb : Below y.heap.size y ya := by rw [← hya]; exact (Below.refl _ _).alloc (Nat.le_refl _) _
  rw [hya] at hg hv
  have hG : LF (fun k => (Value.slice ao out.length cap).ownBlock = some k) y w9 := (LF.of_below hb).trans (LF.of_grown (S := fun k => (Value.slice ao out.length cap).ownBlock = some k) hg (fun k hk => hk)) (fun _ _ h => h)
  have hps : PS21 y B (RS b lv fv) (.slice ao out.length cap) out := ⟨⟨xs, ho, hp⟩, hx⟩
  obtain ⟨⟨ys, hyo, hyp⟩, _⟩ := hps.keep hb
  have hsz : w.heap.size ≤ ya.heap.size := Nat.le_trans hlf.size hb.size
  have hyx : ys = xs := by
    have h1 := own_keep21 ho hb
    rcases h1.2 with ⟨hv1, hn1⟩ | ⟨g, cp, cur, hv1, _, hg1, _, _, _, ht1⟩
    · have e1 : xs = [] := List.eq_nil_of_length_eq_zero (by rw [ho.1, hn1, Nat.zero_mul])
      have e2 : ys = [] := List.eq_nil_of_length_eq_zero (by rw [hyo.1, hn1, Nat.zero_mul])
      rw [e1, e2]
    · rcases hyo.2 with ⟨hv2, _⟩ | ⟨g', cp', cur', hv2, _, hg2, _, _, _, ht2⟩
      · rw [hv1] at hv2; simp at hv2
      · rw [hv1] at hv2
        simp only [Value.slice.injEq, Option.some.injEq, Addr.mk.injEq, and_true, true_and] at hv2
        rw [hv2.1] at hg1
        rw [hg1] at hg2
        simp only [Option.some.injEq, Obj.cells.injEq, and_true] at hg2
        rw [← ht1, ← ht2, hg2]
  subst hyx
  have hfr3 : ∀ k, v3.ownBlock = some k → (Value.slice ao out.length cap).ownBlock = some k ∨ ya.heap.size ≤ k := fun k hk => by
    rcases hv with h | h
    · exact .inl (by rw [← h]; exact hk)
    · rw [h] at hk; injection hk with hk; exact .inr (by omega)
  refine ⟨hrt.other hG (fun k hk e => hx k e hk) (fun k hk => (own_ty ho k hk).1), ?_, hlf.trans hG (fun k hk e => absurd (hfr k e) (by omega)), hrw, fun k hk => ?_, by rw [List.length_append, List.length_singleton]; omega, hc, hT, hbd⟩
  · exact PS21.more hyo hyp hx (own_keep21 k1 hb) (own_keep21 k2 hb) k3 k4 ho' hg hfr3 (fun k hk => Nat.lt_of_lt_of_le (hrt.rn.rs k hk).2 hb.size)
  · rcases hfr3 k hk with h | h
    · exact hfr k h
    · omega

set_option maxHeartbeats 30000000 in
set_option maxRecDepth 20000 in
theorem ctold21 (B b m : Nat) (lv fv : Value) (s : Hr.St) (d : ByteArray) (w : World) (h : RT21 B b s lv fv w) (hc : Hr.cost s + d.size ≤ 1048576) (hm : m ≤ 4194304) :
    Calls Tryz.prog 9 #[.pointer (some ⟨b, 0, none⟩), .string d, .int .i64 (m : Int)] w fun e w' => ∃ v, e = .returned (.tuple #[v, .int .i64 (Hr.told m s d.data.toList []).2.1, .bool (Hr.told m s d.data.toList []).2.2.1]) ∧ ∃ lv' fv', TO21 B b (Hr.cost s + d.size) m lv fv (Hr.told m s d.data.toList []) w v lv' fv' w' := by
  obtain ⟨i0, hi0, hz0, hz1, hz2⟩ := minfo_parts infoPc21
  have HI := hid' hi0
  have HZ0 := hid' hz0
  have HZ1 := hid' hz1
  have HZ2 := hid' hz2
  obtain ⟨c, hcc⟩ : ∃ c, Hr.cost s + d.size = c := ⟨_, rfl⟩
  obtain ⟨T, hT⟩ : ∃ T, Hr.told m s d.data.toList [] = T := ⟨_, rfl⟩
  rw [hcc] at hc ⊢
  have HL0 : Hid (TL21 B b c m lv fv T w 0 s lv fv d [] (.slice none 0 0) w) := hid' ⟨h, PS21.nil _ _ _, LF.refl _ _, RW.refl _ _ _, fun k hk => by simp [Value.ownBlock] at hk, Nat.le_refl _, by omega, by rw [Nat.sub_zero]; exact hT.symm, fun r hr => by simp at hr⟩
  rw [hT]
  have HWB : Hid (B ≤ w.heap.size) := hid' h.rn.lb
  clear hT hi0 hz0 hz1 hz2 hcc h
  go_enter Tryz.func9, Tryz.ntmps9
  go_wp2
  go_loopw [1, 9, 10] (fun s1 s9 s10 wr => ∃ (i : Nat) (s : Hr.St) (lv1 fv1 : Value) (dd : ByteArray) (out : List Hr.Pc) (ao : Option Addr) (cap n : Nat), s10 = .int .i64 (i : Int) ∧ s1 = .string dd ∧ s9 = .slice ao n cap ∧ out.length = n ∧ i ≤ m ∧ Hid (TL21 B b c m lv fv T w i s lv1 fv1 dd out (.slice ao n cap) wr)) (fun s1 s9 s10 _ => m - (intOf s10).toNat)
  case atStart => exact ⟨0, _, _, _, _, [], none, 0, 0, rfl, rfl, rfl, rfl, Nat.zero_le _, HL0⟩
  case round =>
    obtain ⟨i, s, lv1, fv1, dd, out, ao, cap, n, rfl, rfl, rfl, hol, hi, HK⟩ := hrel
    by_cases hlt : i < m
    · have hlti : (i : Int) < (m : Int) := by omega
      have HLT := hid' hlt
      have HOL := hid' hol
      obtain ⟨qn, p, s', hq⟩ : ∃ qn p s', Hr.read s dd.data.toList = (qn, p, s') := ⟨_, _, _, rfl⟩
      have o1 := Hr.read_ok s HK.out.rt.ok dd.data.toList
      have o2 := Hr.read_n s dd.data.toList
      have o4 := Hr.read_bd s dd.data.toList
      have HRD := hid' (creadT21 _ b lv1 fv1 s dd _ HK.out.rt (by have h1 := HK.out.cost; omega))
      have he := HK.out.eq
      rw [show m - i = (m - (i + 1)) + 1 by omega, Hr.told] at he
      rw [hq] at o1 o2 o4 HRD he
      rw [← Lib.size_eq] at o2
      simp only at o1 o2 o4 he
      have HO4 := hid' o4
      have HO1 := hid' o1
      have HE := hid' he
      obtain ⟨z, hz⟩ : ∃ z, dd.size = z := ⟨_, rfl⟩
      have HZ := hid' hz
      rw [hz] at o2
      clear o1 o4 he hq
      go_wp2_with (go_at_call 17; refine HRD.out.mono ?_; rintro e v1 ⟨rv, tv, lv2, fv2, rfl, ho⟩; refine Hid.out ?_)
      refine hid' ?_
      have HO := hid' ho
      obtain ⟨ro, rc, hrv⟩ := own_shape ho.k1
      obtain ⟨tq, tc, htv⟩ := own_shape ho.k2
      subst hrv htv
      have HPS1 := hid' (HK.out.ps.read ho.lf ho.rw)
      have HLF1 := hid' (HK.out.lf.trans ho.lf (fun k hk hx => by
        rcases hx with h1 | h1 | h1
        · exact .inl h1
        · rcases HK.out.rw.1 k h1 with h2 | h2
          · exact .inr (.inl h2)
          · omega
        · rcases HK.out.rw.2 k h1 with h2 | h2
          · exact .inr (.inr h2)
          · omega))
      have HRW1 := hid' (HK.out.rw.trans ho.rw HK.out.lf.size)
      clear ho
      go_wp2_with (refine wpl_alloc 49 rfl rfl _ zeroPc21 ?_)
      intro xa u hxa hax hlx
      have HRU := hid' (HO.out.rt.keep hlx)
      have HNX := hid' (nrs_lt21 HO.out.rt hxa)
      have HAX := hid' hax
      have HLX := hid' hlx
      have HXW : Hid (v1.heap.size ≤ xa) := hid' hxa
      clear hax hlx hxa
      go_wp2_with (refine wpl_store 49 _ _ rfl rfl xa (pcC p (.slice ro p.rq.fs.length rc) (.slice tq p.fs.length tc)) (by kernel_rfl) (by kernel_rfl) _ _ HAX.out sizePc21 rfl (by simp [Value.oneCell', pcC]) ?_)
      intro y hay huy
      have HY := hid' hay
      have HLY : Hid (LF (fun k => k = xa) v1 y) := hid' ((LF.of_below (S := fun k => k = xa) HLX.out).trans (LF.of_upd (S := fun k => k = xa) huy rfl) (fun _ _ h => h))
      have HRY := hid' (HRU.out.upd huy HNX.out (by have h1 := HWB.out; have h2 := HLF1.out.size; have h3 := HXW.out; omega))
      have HPY := hid' (HPS1.out.other HLY.out (fun k hk _ e => by have := HXW.out; omega) (fun _ _ => id))
      have HFY := hid' (HLF1.out.trans HLY.out (fun k hk e => by have h1 := HLF1.out.size; have := HXW.out; omega))
      have HKY1 := hid' (own_oth21 HO.out.k1 HLY.out (fun k hk e => by have h1 := (World.ownsRow.lt HO.out.k1 k hk).2; have := HXW.out; omega))
      have HKY2 := hid' (own_oth21 HO.out.k2 HLY.out (fun k hk e => by have h1 := (World.ownsRow.lt HO.out.k2 k hk).2; have := HXW.out; omega))
      clear hay huy
      have m0 : y.cell? ⟨xa, 0, none⟩ = some (.int .u8 p.mark) := HY.out.cell 0 _ rfl
      have hv0 : ¬ ((qn : Int) < 0) := by omega
      have hqi : (qn : Int) ≤ (z : Int) := by omega
      obtain ⟨x, hx⟩ : ∃ x, dd.extract qn z = x := ⟨_, rfl⟩
      have hxd : dd.data.toList.drop qn = x.data.toList := by rw [← hx, ← hz, Lib.extract_to_end]
      have hxz : x.size = z - qn := by rw [← hx, ByteArray.size_extract, hz, Nat.min_self]
      rw [hxd] at HE
      have HXZ := hid' hxz
      have HX := hid' hx
      clear hxd hxz hx
      go_upto_region 9 with fail
      rw [HX.out]
      by_cases hm0 : p.mark = 0
      · have hmb : (p.mark == 0) = true := by rw [beq_iff_eq]; exact hm0
        have HT := HE.out
        rw [hmb] at HT
        simp only [if_true] at HT
        have HTT := hid' HT
        clear HT
        go_wp2_with fail
        go_ret3
        rw [HTT.out]
        refine ⟨_, ?_, lv2, fv2, ⟨HRY.out, HPY.out, HFY.out, HRW1.out, HK.out.fr, by have h1 := HK.out.len; have h2 := HLT.out; show out.length ≤ m; omega, by have h1 := HO1.out.2.1; have h2 := HK.out.cost; have h3 := HZ.out; show Hr.cost s' ≤ c; omega, fun r hr => by have := HK.out.bd r hr; omega⟩⟩
        show Ending.returned (.tuple #[.slice ao n cap, .int .i64 0, .bool x.toList.isEmpty]) = .returned (.tuple #[.slice ao n cap, .int .i64 0, .bool x.data.toList.isEmpty])
        rw [Lib.toList_data]
      · have hmb : (p.mark == 0) = false := by rw [beq_eq_false_iff_ne]; exact hm0
        have HT := HE.out
        rw [hmb] at HT
        simp only [Bool.false_eq_true, if_false] at HT
        by_cases hm4 : p.mark = 4
        · have hmb4 : (p.mark == 4) = true := by rw [beq_iff_eq]; exact hm4
          rw [hmb4] at HT
          simp only [if_true] at HT
          have HTT := hid' HT
          have m14 : y.cell? ⟨xa, 14, none⟩ = some (.int .i64 p.st) := HY.out.cell 14 _ rfl
          clear HT
          go_upto_region 12 with fail
          go_quiet (fail)
          go_wp2
          go_ret3
          rw [HTT.out]
          refine ⟨_, rfl, lv2, fv2, ⟨HRY.out.keep (below_drewN _ _), HPY.out.keep (below_drewN _ _), HFY.out.bel21 (below_drewN _ _), HRW1.out, HK.out.fr, by have h1 := HK.out.len; have h2 := HLT.out; show out.length ≤ m; omega, by have h1 := HO1.out.2.1; have h2 := HK.out.cost; have h3 := HZ.out; show Hr.cost s' ≤ c; omega, fun r hr => by have := HK.out.bd r hr; omega⟩⟩
        · have hmb4 : (p.mark == 4) = false := by rw [beq_eq_false_iff_ne]; exact hm4
          rw [hmb4] at HT
          simp only [Bool.false_eq_true, if_false] at HT
          go_upto_region 14 with fail
          have HNB : Hid (n ≤ 4194304) := hid' (by have h1 := HK.out.len; have h2 := HOL.out; omega)
          have HM := hid' hm
          clear hm
          have HTT := hid' HT
          clear HT
          by_cases hm2 : p.mark = 2
          · have hm2b : (p.mark == 2) = true := by rw [beq_iff_eq]; exact hm2
            clear hm2
            rcases List.eq_nil_or_concat out with ho0 | ⟨a, q, ho0⟩
            · have hn0 : n = 0 := by rw [← HOL.out, ho0]; rfl
              have hw : wrap64 ((n : Int) - 1) = -1 := by rw [hn0]; unfold wrap64; omega
              rw [hw]
              clear hw hn0
              have c0 : y.cell? ⟨xa, 0, none⟩ = some (.int .u8 p.mark) := HY.out.cell 0 _ rfl
              have c1 : y.cell? ⟨xa, 1, none⟩ = some (.string p.rq.m) := HY.out.cell 1 _ rfl
              have c2 : y.cell? ⟨xa, 2, none⟩ = some (.string p.rq.s) := HY.out.cell 2 _ rfl
              have c3 : y.cell? ⟨xa, 3, none⟩ = some (.string p.rq.a) := HY.out.cell 3 _ rfl
              have c4 : y.cell? ⟨xa, 4, none⟩ = some (.string p.rq.p) := HY.out.cell 4 _ rfl
              have c5 : y.cell? ⟨xa, 5, none⟩ = some (.slice ro p.rq.fs.length rc) := HY.out.cell 5 _ rfl
              have c6 : y.cell? ⟨xa, 6, none⟩ = some (.string ⟨#[]⟩) := HY.out.cell 6 _ rfl
              have c7 : y.cell? ⟨xa, 7, none⟩ = some (.slice none 0 0) := HY.out.cell 7 _ rfl
              have c8 : y.cell? ⟨xa, 8, none⟩ = some (.bool p.wait) := HY.out.cell 8 _ rfl
              have c9 : y.cell? ⟨xa, 9, none⟩ = some (.bool p.last) := HY.out.cell 9 _ rfl
              have c10 : y.cell? ⟨xa, 10, none⟩ = some (.bool p.old) := HY.out.cell 10 _ rfl
              have c11 : y.cell? ⟨xa, 11, none⟩ = some (.bool p.has) := HY.out.cell 11 _ rfl
              have c12 : y.cell? ⟨xa, 12, none⟩ = some (.string p.bd) := HY.out.cell 12 _ rfl
              have c13 : y.cell? ⟨xa, 13, none⟩ = some (.slice tq p.fs.length tc) := HY.out.cell 13 _ rfl
              have c14 : y.cell? ⟨xa, 14, none⟩ = some (.int .i64 p.st) := HY.out.cell 14 _ rfl
              have HAP : Hid (Hr.addP out p = out ++ [p]) := hid' (by rw [ho0]; rfl)
              obtain ⟨⟨xs, hxo, hxp⟩, hxn⟩ := HPY.out
              rw [HOL.out] at hxo
              have HXO := hid' hxo
              have HXP := hid' hxp
              have HXN := hid' hxn
              clear hxo hxp hxn
              have HBD : Hid (∀ r ∈ out ++ [p], r.bd.size + x.size ≤ c) := hid' (fun r hr => by
                have h3 := HXZ.out
                have h4 := HZ.out
                rcases List.mem_append.1 hr with h | h
                · have := HK.out.bd r h; omega
                · obtain rfl : r = p := by simpa using h
                  have h1 := HO4.out; have h2 := HK.out.cost; omega)
              have HNW := hid' (piece_new21 y p (.slice ro p.rq.fs.length rc) (.slice tq p.fs.length tc))
              have HWY : Hid (B ≤ y.heap.size) := hid' HRY.out.rn.lb
              go_wp2_with (at_builtin; refine wpList_append_own_at _ rfl _ _ 32 rfl B 49 i0 (.agg pcZ) 15 192 Tryz.underlying32 HI.out HZ0.out HZ1.out HZ2.out rfl (by decide) (.slice ao n cap) n xs rfl (own_keep21 HXO.out ((Below.refl _ _).alloc (Nat.le_refl _) _)) ⟨y.heap.size, 0, none⟩ 1 1 (pcC p (.slice ro p.rq.fs.length rc) (.slice tq p.fs.length tc)).toList rfl rfl HNW.out (by simp [Value.oneCell', pcC]) (by unfold maxLen; have := HNB.out; omega) (by have := HNB.out; omega) (by simp; have := HWY.out; omega) ?_; intro v3 w9 hown3 hgrow3 _ hblk3; refine Hid.out ?_)
              refine hid' ?_
              obtain ⟨v3o, v3c, hv3⟩ := own_shape hown3
              subst hv3
              have HN9 := hid' (TL21.more (m := m) (c := c) (x := x) (s := s') (T := T) (w := w) (i := i) (out := out) HRY.out HFY.out HRW1.out HK.out.fr HK.out.len (by have h1 := HO1.out.2.1; have h2 := HK.out.cost; have h3 := HZ.out; have h4 := HXZ.out; omega) (by rw [HTT.out, HAP.out]) HOL.out HBD.out HXO.out HXP.out HXN.out HKY1.out HKY2.out HO.out.k3 HO.out.k4 hown3 hgrow3 hblk3)
              clear hown3 hgrow3 hblk3
              have hm := HM.out
              go_wp2
              go_roundw
              case rel => exact ⟨i + 1, s', lv2, fv2, x, out ++ [p], v3o, v3c, n + 1, by go_num, rfl, rfl, by rw [List.length_append, HOL.out]; rfl, by have := HLT.out; omega, HN9⟩
              case measure => have := HLT.out; simp [intOf]; omega
            · rw [List.concat_eq_append] at ho0
              obtain ⟨k, hk⟩ : ∃ k, a.length = k := ⟨_, rfl⟩
              have hnk : n = k + 1 := by rw [← HOL.out, ho0, ← hk]; simp
              have hw : wrap64 ((n : Int) - 1) = (k : Int) := by rw [hnk, show (((k + 1 : Nat) : Int) - 1) = (k : Int) by omega]; have := HNB.out; unfold wrap64; omega
              rw [hw]
              clear hw
              obtain ⟨g, cp, rv', tv', hv, hcap, hBg, hgl, hgx, hcells, hf1, hf2⟩ := HPY.out.cells k q (by rw [ho0, ← hk]; simp)
              simp only [Value.slice.injEq] at hv
              obtain ⟨hao, hnn, hcp⟩ := hv
              clear hnn
              subst hao hcp
              have e0 : y.cell? ⟨g, k * 15, none⟩ = some (.int .u8 q.mark) := by have h1 := hcells 0 _ rfl; rwa [Addr.add_mid, Nat.zero_add] at h1
              have hik : (k : Int) < (n : Int) := by omega
              have hk0 : (0 : Int) ≤ (k : Int) := by omega
              have HNK := hid' hnk
              have HO0 := hid' ho0
              have HCL := hid' hcells
              have HHK := hid' hk
              have HGB := hid' (And.intro hcap (And.intro hBg (And.intro hgl hgx)))
              clear hnk ho0 hcells hk hf1 hf2 hcap hBg hgl hgx
              by_cases hq : q.mark = 2
              · have hqb : (q.mark == 2) = true := by rw [beq_iff_eq]; exact hq
                have c12 : y.cell? ⟨xa, 12, none⟩ = some (.string p.bd) := HY.out.cell 12 _ rfl
                have e12 : y.cell? ⟨g, k * 15 + 12, none⟩ = some (.string q.bd) := by have h1 := HCL.out 12 _ rfl; rwa [Addr.add_mid, Nat.zero_add] at h1
                have f12 : y.frozen? ⟨g, k * 15 + 12, none⟩ = false := by
                  obtain ⟨⟨xs, ho, _⟩, _⟩ := HPY.out
                  rw [HOL.out] at ho
                  exact ho.frozenAt _
                have HQB : Hid (q.bd.size + p.bd.size + x.size ≤ c) := hid' (by
                  have h1 := HK.out.bd q (by rw [HO0.out]; simp)
                  have h2 := HO4.out; have h3 := HXZ.out; have h4 := HZ.out
                  omega)
                have hqs : ¬ (9223372036854775807 < q.bd.size + p.bd.size) := by have := HQB.out; omega
                go_upto_region 15 with fail
                go_region
                have hbdy := PS21.body (X := RS b lv2 fv2) (w := y) (B := B) (g := g) (n := n) (cap := cap) (a := a) (q := q) (by rw [← HO0.out]; exact HPY.out) p.bd
                rw [HHK.out] at hbdy
                have HBY := hid' hbdy
                clear hbdy
                have HLN : Hid ((a ++ [Hr.grow q p.bd]).length = n) := hid' (by rw [List.length_append, List.length_singleton, HHK.out, HNK.out])
                have HN9 : Hid (TL21 B b c m lv fv T w (i + 1) s' lv2 fv2 x (a ++ [Hr.grow q p.bd]) (.slice (some ⟨g, 0, none⟩) n cap) (y.setCell ⟨g, k * 15 + 12, none⟩ (.string (q.bd ++ p.bd))).drew) := hid' (TL21.keep (wr := y.setCell ⟨g, k * 15 + 12, none⟩ (.string (q.bd ++ p.bd))) ⟨HRY.out.other HBY.out.2 (fun j hj e => HGB.out.2.2.2 (e ▸ hj)) (fun j e => by rw [e]; exact HGB.out.2.1), HBY.out.1, HFY.out.trans HBY.out.2 (fun j hj e => by have h1 := HK.out.fr g rfl; omega), HRW1.out, HK.out.fr, by rw [HLN.out]; have h1 := HK.out.len; have h2 := HOL.out; omega, by have h1 := HO1.out.2.1; have h2 := HK.out.cost; have h3 := HZ.out; have h4 := HXZ.out; omega, by rw [HTT.out, HO0.out, Hr.addP_b a q p hm2b hqb], fun r hr => by
                  rcases List.mem_append.1 hr with h | h
                  · have h1 := HK.out.bd r (by rw [HO0.out]; exact List.mem_append_left _ h)
                    have h3 := HXZ.out; have h4 := HZ.out; omega
                  · obtain rfl : r = Hr.grow q p.bd := by simpa using h
                    have h1 := HQB.out
                    show (q.bd ++ p.bd).size + x.size ≤ c
                    rw [ByteArray.size_append]; exact h1⟩ (Below.refl _ _).drew)
                have hm := HM.out
                go_wp2
                go_roundw
                case rel => exact ⟨i + 1, s', lv2, fv2, x, a ++ [Hr.grow q p.bd], some ⟨g, 0, none⟩, cap, n, by go_num, rfl, rfl, HLN.out, by have := HLT.out; omega, HN9⟩
                case measure => have := HLT.out; simp [intOf]; omega
              · have hqb : (q.mark == 2) = false := by rw [beq_eq_false_iff_ne]; exact hq
                have c0 : y.cell? ⟨xa, 0, none⟩ = some (.int .u8 p.mark) := HY.out.cell 0 _ rfl
                have c1 : y.cell? ⟨xa, 1, none⟩ = some (.string p.rq.m) := HY.out.cell 1 _ rfl
                have c2 : y.cell? ⟨xa, 2, none⟩ = some (.string p.rq.s) := HY.out.cell 2 _ rfl
                have c3 : y.cell? ⟨xa, 3, none⟩ = some (.string p.rq.a) := HY.out.cell 3 _ rfl
                have c4 : y.cell? ⟨xa, 4, none⟩ = some (.string p.rq.p) := HY.out.cell 4 _ rfl
                have c5 : y.cell? ⟨xa, 5, none⟩ = some (.slice ro p.rq.fs.length rc) := HY.out.cell 5 _ rfl
                have c6 : y.cell? ⟨xa, 6, none⟩ = some (.string ⟨#[]⟩) := HY.out.cell 6 _ rfl
                have c7 : y.cell? ⟨xa, 7, none⟩ = some (.slice none 0 0) := HY.out.cell 7 _ rfl
                have c8 : y.cell? ⟨xa, 8, none⟩ = some (.bool p.wait) := HY.out.cell 8 _ rfl
                have c9 : y.cell? ⟨xa, 9, none⟩ = some (.bool p.last) := HY.out.cell 9 _ rfl
                have c10 : y.cell? ⟨xa, 10, none⟩ = some (.bool p.old) := HY.out.cell 10 _ rfl
                have c11 : y.cell? ⟨xa, 11, none⟩ = some (.bool p.has) := HY.out.cell 11 _ rfl
                have c12 : y.cell? ⟨xa, 12, none⟩ = some (.string p.bd) := HY.out.cell 12 _ rfl
                have c13 : y.cell? ⟨xa, 13, none⟩ = some (.slice tq p.fs.length tc) := HY.out.cell 13 _ rfl
                have c14 : y.cell? ⟨xa, 14, none⟩ = some (.int .i64 p.st) := HY.out.cell 14 _ rfl
                have HAP : Hid (Hr.addP out p = out ++ [p]) := hid' (by rw [HO0.out]; exact Hr.addP_q a q p hqb)
                obtain ⟨⟨xs, hxo, hxp⟩, hxn⟩ := HPY.out
                rw [HOL.out] at hxo
                have HXO := hid' hxo
                have HXP := hid' hxp
                have HXN := hid' hxn
                clear hxo hxp hxn
                have HBD : Hid (∀ r ∈ out ++ [p], r.bd.size + x.size ≤ c) := hid' (fun r hr => by
                  have h3 := HXZ.out
                  have h4 := HZ.out
                  rcases List.mem_append.1 hr with h | h
                  · have := HK.out.bd r h; omega
                  · obtain rfl : r = p := by simpa using h
                    have h1 := HO4.out; have h2 := HK.out.cost; omega)
                have HNW := hid' (piece_new21 y p (.slice ro p.rq.fs.length rc) (.slice tq p.fs.length tc))
                have HWY : Hid (B ≤ y.heap.size) := hid' HRY.out.rn.lb
                go_wp2_with (at_builtin; refine wpList_append_own_at _ rfl _ _ 32 rfl B 49 i0 (.agg pcZ) 15 192 Tryz.underlying32 HI.out HZ0.out HZ1.out HZ2.out rfl (by decide) (.slice (some ⟨g, 0, none⟩) n cap) n xs rfl (own_keep21 HXO.out ((Below.refl _ _).alloc (Nat.le_refl _) _)) ⟨y.heap.size, 0, none⟩ 1 1 (pcC p (.slice ro p.rq.fs.length rc) (.slice tq p.fs.length tc)).toList rfl rfl HNW.out (by simp [Value.oneCell', pcC]) (by unfold maxLen; have := HNB.out; omega) (by have := HNB.out; omega) (by simp; have := HWY.out; omega) ?_; intro v3 w9 hown3 hgrow3 _ hblk3; refine Hid.out ?_)
                refine hid' ?_
                obtain ⟨v3o, v3c, hv3⟩ := own_shape hown3
                subst hv3
                have HN9 := hid' (TL21.more (m := m) (c := c) (x := x) (s := s') (T := T) (w := w) (i := i) (out := out) HRY.out HFY.out HRW1.out HK.out.fr HK.out.len (by have h1 := HO1.out.2.1; have h2 := HK.out.cost; have h3 := HZ.out; have h4 := HXZ.out; omega) (by rw [HTT.out, HAP.out]) HOL.out HBD.out HXO.out HXP.out HXN.out HKY1.out HKY2.out HO.out.k3 HO.out.k4 hown3 hgrow3 hblk3)
                clear hown3 hgrow3 hblk3
                have hm := HM.out
                go_wp2
                go_roundw
                case rel => exact ⟨i + 1, s', lv2, fv2, x, out ++ [p], v3o, v3c, n + 1, by go_num, rfl, rfl, by rw [List.length_append, HOL.out]; rfl, by have := HLT.out; omega, HN9⟩
                case measure => have := HLT.out; simp [intOf]; omega
          · have hm2b : (p.mark == 2) = false := by rw [beq_eq_false_iff_ne]; exact hm2
            have c0 : y.cell? ⟨xa, 0, none⟩ = some (.int .u8 p.mark) := HY.out.cell 0 _ rfl
            have c1 : y.cell? ⟨xa, 1, none⟩ = some (.string p.rq.m) := HY.out.cell 1 _ rfl
            have c2 : y.cell? ⟨xa, 2, none⟩ = some (.string p.rq.s) := HY.out.cell 2 _ rfl
            have c3 : y.cell? ⟨xa, 3, none⟩ = some (.string p.rq.a) := HY.out.cell 3 _ rfl
            have c4 : y.cell? ⟨xa, 4, none⟩ = some (.string p.rq.p) := HY.out.cell 4 _ rfl
            have c5 : y.cell? ⟨xa, 5, none⟩ = some (.slice ro p.rq.fs.length rc) := HY.out.cell 5 _ rfl
            have c6 : y.cell? ⟨xa, 6, none⟩ = some (.string ⟨#[]⟩) := HY.out.cell 6 _ rfl
            have c7 : y.cell? ⟨xa, 7, none⟩ = some (.slice none 0 0) := HY.out.cell 7 _ rfl
            have c8 : y.cell? ⟨xa, 8, none⟩ = some (.bool p.wait) := HY.out.cell 8 _ rfl
            have c9 : y.cell? ⟨xa, 9, none⟩ = some (.bool p.last) := HY.out.cell 9 _ rfl
            have c10 : y.cell? ⟨xa, 10, none⟩ = some (.bool p.old) := HY.out.cell 10 _ rfl
            have c11 : y.cell? ⟨xa, 11, none⟩ = some (.bool p.has) := HY.out.cell 11 _ rfl
            have c12 : y.cell? ⟨xa, 12, none⟩ = some (.string p.bd) := HY.out.cell 12 _ rfl
            have c13 : y.cell? ⟨xa, 13, none⟩ = some (.slice tq p.fs.length tc) := HY.out.cell 13 _ rfl
            have c14 : y.cell? ⟨xa, 14, none⟩ = some (.int .i64 p.st) := HY.out.cell 14 _ rfl
            have HAP : Hid (Hr.addP out p = out ++ [p]) := hid' (by exact Hr.addP_m out p hm2b)
            obtain ⟨⟨xs, hxo, hxp⟩, hxn⟩ := HPY.out
            rw [HOL.out] at hxo
            have HXO := hid' hxo
            have HXP := hid' hxp
            have HXN := hid' hxn
            clear hxo hxp hxn
            have HBD : Hid (∀ r ∈ out ++ [p], r.bd.size + x.size ≤ c) := hid' (fun r hr => by
              have h3 := HXZ.out
              have h4 := HZ.out
              rcases List.mem_append.1 hr with h | h
              · have := HK.out.bd r h; omega
              · obtain rfl : r = p := by simpa using h
                have h1 := HO4.out; have h2 := HK.out.cost; omega)
            have HNW := hid' (piece_new21 y p (.slice ro p.rq.fs.length rc) (.slice tq p.fs.length tc))
            have HWY : Hid (B ≤ y.heap.size) := hid' HRY.out.rn.lb
            go_wp2_with (at_builtin; refine wpList_append_own_at _ rfl _ _ 32 rfl B 49 i0 (.agg pcZ) 15 192 Tryz.underlying32 HI.out HZ0.out HZ1.out HZ2.out rfl (by decide) (.slice ao n cap) n xs rfl (own_keep21 HXO.out ((Below.refl _ _).alloc (Nat.le_refl _) _)) ⟨y.heap.size, 0, none⟩ 1 1 (pcC p (.slice ro p.rq.fs.length rc) (.slice tq p.fs.length tc)).toList rfl rfl HNW.out (by simp [Value.oneCell', pcC]) (by unfold maxLen; have := HNB.out; omega) (by have := HNB.out; omega) (by simp; have := HWY.out; omega) ?_; intro v3 w9 hown3 hgrow3 _ hblk3; refine Hid.out ?_)
            refine hid' ?_
            obtain ⟨v3o, v3c, hv3⟩ := own_shape hown3
            subst hv3
            have HN9 := hid' (TL21.more (m := m) (c := c) (x := x) (s := s') (T := T) (w := w) (i := i) (out := out) HRY.out HFY.out HRW1.out HK.out.fr HK.out.len (by have h1 := HO1.out.2.1; have h2 := HK.out.cost; have h3 := HZ.out; have h4 := HXZ.out; omega) (by rw [HTT.out, HAP.out]) HOL.out HBD.out HXO.out HXP.out HXN.out HKY1.out HKY2.out HO.out.k3 HO.out.k4 hown3 hgrow3 hblk3)
            clear hown3 hgrow3 hblk3
            have hm := HM.out
            go_wp2
            go_roundw
            case rel => exact ⟨i + 1, s', lv2, fv2, x, out ++ [p], v3o, v3c, n + 1, by go_num, rfl, rfl, by rw [List.length_append, HOL.out]; rfl, by have := HLT.out; omega, HN9⟩
            case measure => have := HLT.out; simp [intOf]; omega
    · obtain rfl : i = m := by omega
      have hlti : ¬ (i : Int) < (i : Int) := by omega
      have HT := HK.out.eq
      rw [Nat.sub_self, Hr.told] at HT
      have HTT := hid' HT
      clear HT
      go_wp2_with fail
      go_ret3
      rw [HTT.out]
      exact ⟨_, rfl, lv1, fv1, ⟨HK.out.rt, HK.out.ps, HK.out.lf, HK.out.rw, HK.out.fr, by have h1 := HK.out.len; show out.length ≤ i; omega, by have h2 := HK.out.cost; show Hr.cost s ≤ c; omega, fun r hr => by have := HK.out.bd r hr; omega⟩⟩

end Go.Proofs.YtbpdhcfmdkmoiaaGreatDoor
