/-
  The law DiskKeeps, by its contract: it returns true for all changes ahead and behind.
-/
import Derived.Test.YtnggablpkgbpaaaDoorDkR
import Derived.Deep.RegionHeld3
import Derived.Test.YtnggablpkgbpaaaDoorDkZ
namespace Go.Proofs.YtnggablpkgbpaaaDoor
open Go.RowKit

theorem own_keep13 {w w' : World} {B : Nat} {e : TypeId} {s : Nat} {v : Value} {n : Nat} {xs : List Value} (h : w.ownsRow B e s v n xs) (hb : Below w.heap.size w w') : w'.ownsRow B e s v n xs :=
  own_same h (fun k hk => hb.block k (own_lt h k hk))
theorem lst_nil13 (es : List Dk.En) : Dk.lst (ByteArray.data ⟨#[]⟩).toList es = es := by
  unfold Dk.lst
  exact List.filter_eq_self.2 (fun a _ => by simp)
theorem fileV_shape3 (o : Option Dk.En) : ∃ y i j, fileV o = .agg #[.string y, .int .i64 i, .int .i64 j] := by
  cases o
  · exact ⟨_, _, _, rfl⟩
  · exact ⟨_, _, _, rfl⟩
theorem chOf_q {c : Cl13} {es es' : List Dk.En} {q q' : Int} (h : ChOf c es q es' q') (hq : 0 ≤ q) : 0 ≤ q' ∧ q' ≤ q + 1 := by
  rcases h with ⟨_, t, ⟨_, h2, rfl, rfl⟩ | ⟨_, h2, rfl, rfl⟩⟩ | ⟨_, k, ⟨_, _, rfl, rfl⟩ | ⟨_, _, rfl, rfl⟩ | ⟨_, _, rfl, rfl⟩ | ⟨_, _, rfl, rfl⟩ | ⟨_, h2, rfl, rfl⟩⟩ <;> exact ⟨by omega, by omega⟩
theorem kap_no {dh : Bool} {t j : Nat} {κ : Int} (h : (dh = true ∧ t < j → κ = (t : Int)) ∧ (¬ (dh = true ∧ t < j) → κ = -1)) (hn : ¬ (dh = true ∧ t = j)) : (dh = true ∧ t < j + 1 → κ = (t : Int)) ∧ (¬ (dh = true ∧ t < j + 1) → κ = -1) := by
  refine ⟨fun h1 => h.1 ⟨h1.1, ?_⟩, fun h1 => h.2 (fun h2 => h1 ⟨h2.1, by omega⟩)⟩
  have h3 : t ≠ j := fun e => hn ⟨h1.1, e⟩
  omega
theorem kap_yes {dh : Bool} {t j : Nat} (h : dh = true ∧ t = j) : (dh = true ∧ t < j + 1 → (j : Int) = (t : Int)) ∧ (¬ (dh = true ∧ t < j + 1) → (j : Int) = -1) :=
  ⟨fun _ => by rw [h.2], fun h1 => absurd ⟨h.1, by omega⟩ h1⟩
theorem RE.cell4 {w : World} {a : Addr} {n n' cap : Nat} {l : List Dk.En} (h : RE w (.slice (some a) n cap) n' (enC l)) (hn : n' = l.length) (i : Nat) (p : Dk.En) (hp : l[i]? = some p) : w.cell? (a.add (i * 4)) = some (.string p.path) := by
  obtain ⟨a', h1, h2, _⟩ := h.four hn i p hp
  injection h1 with h1
  subst h1
  exact h2
theorem RE.cell43 {w : World} {a : Addr} {n n' cap : Nat} {l : List Dk.En} (h : RE w (.slice (some a) n cap) n' (enC l)) (hn : n' = l.length) (i : Nat) (p : Dk.En) (hp : l[i]? = some p) : w.cell? ⟨(a.add (i * 4)).block, (a.add (i * 4)).off + 3, none⟩ = some (.int .i64 p.seq) := by
  obtain ⟨a', h1, _, _, _, h2⟩ := h.four hn i p hp
  injection h1 with h1
  subst h1
  exact h2
theorem path_size (x : ByteArray) (h : Dk.path x.data.toList = true) : x.size ≤ 140737488355328 := by
  have h1 : x.size = x.data.toList.length := by rw [Array.length_toList]; rfl
  rcases Nat.lt_or_ge 255 x.data.toList.length with h2 | h2
  · rw [path_long _ h2] at h; cases h
  · omega
/-- A snapshot, what it has listed, and a disk that has gone on: apart. -/
structure KP (w : World) (B b Bs sn z : Nat) (K Ks : Nat → Prop) (v : Value) (m : Nat) (q q' : Int) (es es' : List Dk.En) : Prop where
  cd : CD w B b K q' es'
  cs : CS w Bs sn Ks q es
  row : w.ownsRow z 45 4 v m (enC es)
  aps : ∀ k, K k → ¬ Ks k
  apr : ∀ k, K k → v.ownBlock ≠ some k
theorem KP.keep {w w' : World} {B b Bs sn z m : Nat} {K Ks : Nat → Prop} {v : Value} {q q' : Int} {es es' : List Dk.En} (h : KP w B b Bs sn z K Ks v m q q' es es') (hb : Below w.heap.size w w') : KP w' B b Bs sn z K Ks v m q q' es es' :=
  ⟨h.cd.keep hb, h.cs.keep hb, own_keep13 h.row hb, h.aps, h.apr⟩
theorem KP.next {w w' : World} {B b Bs sn z m : Nat} {K K2 Ks : Nat → Prop} {v : Value} {q q' q2 : Int} {es es' es2 : List Dk.En} (h : KP w B b Bs sn z K Ks v m q q' es es') (hc : CD w' B b K2 q2 es2) (hf : LF K w w') (hn : ∀ k, K2 k → K k ∨ w.heap.size ≤ k) : KP w' B b Bs sn z K2 Ks v m q q2 es es2 := by
  refine ⟨hc, h.cs.other hf (fun k hk hK => h.aps k hK hk), own_same h.row (fun k hk => hf.block k (own_lt h.row k hk) (fun hK => h.apr k hK hk)), fun k hk hs => ?_, fun k hk hv => ?_⟩
  · rcases hn k hk with h1 | h1
    · exact h.aps k h1 hs
    · have := (h.cs.lt k hs).2; omega
  · rcases hn k hk with h1 | h1
    · exact h.apr k h1 hv
    · have := own_lt h.row k hv; omega

set_option maxHeartbeats 16000000 in
set_option maxRecDepth 20000 in
theorem diskKeeps_any (sv : Value) (cs : List Cl13) (sv2 : Value) (cs2 : List Cl13) (w : World) (hsc : Scr13 w sv cs) (hlen : cs.length ≤ 140737488355328) (htx : ∀ c ∈ cs, c.path.size ≤ 140737488355328 ∧ c.body.size ≤ 140737488355328)
    (hsc2 : Scr13 w sv2 cs2) (hlen2 : cs2.length ≤ 140737488355328) (htx2 : ∀ c ∈ cs2, c.path.size ≤ 140737488355328 ∧ c.body.size ≤ 140737488355328) :
    Calls Tryd.prog 5 #[sv, sv2] w fun e w' => e = .returned (.bool true) ∧ Below w.heap.size w w' := by
  obtain ⟨ao, cap, hsv⟩ := hsc.shape
  obtain ⟨ao2, cap2, hsv2⟩ := hsc2.shape
  subst hsv hsv2
  obtain ⟨N, hN⟩ : ∃ N, cs.length = N := ⟨_, rfl⟩
  obtain ⟨M, hM⟩ : ∃ M, cs2.length = M := ⟨_, rfl⟩
  have HN := hid' hN
  have HM := hid' hM
  rw [hN] at hsc hlen ⊢
  rw [hM] at hsc2 hlen2 ⊢
  have HSC := hid' hsc
  have HTX := hid' htx
  have HSC2 := hid' hsc2
  have HTX2 := hid' htx2
  clear hN hsc htx hM hsc2 htx2
  go_enter Tryd.func5, Tryd.ntmps5
  go_wp2_with fail
  refine (cnew13 w).mono ?_
  rintro _ w1 ⟨⟨b, K1, rfl, hd⟩, hb⟩
  have HC := hid' hd
  have HB := hid' hb
  clear hd hb
  go_wp2
  go_loopw [6] (fun s6 wr => ∃ (i : Nat) (K : Nat → Prop) (q : Int) (es : List Dk.En), s6 = .int .i64 (i : Int) ∧ i ≤ N ∧ 0 ≤ q ∧ q ≤ (i : Int) ∧ Hid (Dk.Sq q es) ∧ Hid (CD wr w.heap.size b K q es) ∧ Hid (Below w.heap.size w wr)) (fun s6 _ => N - (intOf s6).toNat)
  case atStart => exact ⟨0, _, _, _, rfl, Nat.zero_le _, by decide, by decide, hid' Dk.sq_nil, HC, HB⟩
  case round =>
    clear HC HB
    obtain ⟨i, K, q, es, rfl, hi, hq0, hq1, HSQ, HC, HB⟩ := hrel
    by_cases hlt : i < N
    · have hlt2 : (i : Int) < (N : Int) := by omega
      obtain ⟨c, hc⟩ : ∃ c, cs[i]? = some c := ⟨_, List.getElem?_eq_getElem (by rw [HN.out]; exact hlt)⟩
      have hct2 := HTX.out c (List.mem_of_getElem? hc)
      have HPS := hid' hct2.1
      have HBSZ := hid' hct2.2
      obtain ⟨a, hao, x0, x1, x2, x3, x4⟩ := HSC.out.at HB.out i c hc
      subst hao
      clear hc hct2
      go_wp2_with fail
      refine (lchange c _ b K q es _ HC.out HPS.out HBSZ.out hq0 (by omega)).mono ?_
      rintro _ w2 ⟨rfl, es', q', K', hch, hcd, hlf, hnew⟩
      have HS2 := hid' (chOf_sq hch HC.out.ok.1 hq0 HSQ.out)
      have HC2 := hid' hcd
      have HB2 := hid' (HC.out.bl HB.out hlf)
      have hq2 := HS2.out.2
      clear hch hcd hlf hnew HC HB HSQ x0 x1 x2 x3 x4
      go_wp2
      go_roundw
      case rel => exact ⟨i + 1, K', q', es', by go_num, by omega, hq2.1, by omega, hid' HS2.out.1, HC2, HB2⟩
      case measure => simp [intOf]; omega
    · obtain rfl : i = N := by omega
      have hlt2 : ¬ (i : Int) < (i : Int) := by omega
      clear hlt
      obtain ⟨m, hm⟩ : ∃ m, es.length = m := ⟨_, rfl⟩
      have HML := hid' hm
      have HOK := hid' HC.out.ok.1
      have hm2 : m ≤ 1024 := by rw [← hm]; exact HC.out.ok.2
      have HLN := hid' (lst_nil13 es)
      clear hm
      go_wp2_with fail
      refine (csnap13 _ b K q es wr HC.out).mono ?_
      rintro _ w3 ⟨⟨sn, Ks, rfl, hs⟩, hb⟩
      have HAP : Hid (∀ k, K k → ¬ Ks k) := hid' (fun k hk hs' => by have h1 := (HC.out.lt k hk).2; have h2 := (hs.lt k hs').1; omega)
      have HLK : Hid (∀ k, K k → k < wr.heap.size) := hid' (fun k hk => (HC.out.lt k hk).2)
      obtain ⟨Bs, hBs⟩ : ∃ Bs, wr.heap.size = Bs := ⟨_, rfl⟩
      have HS3 := hid' hs
      have HC3 := hid' (HC.out.keep hb)
      have HB3 := hid' (below_from HB.out hb HB.out.size)
      have HZ3 := hid' hb.size
      rw [hBs] at HS3 HLK HZ3
      clear hs hb HC HB hBs
      go_wp2_with fail
      refine (csnap13 _ b K q es w3 HC3.out).mono ?_
      rintro _ w4 ⟨⟨tn, Kt, rfl, hs⟩, hb⟩
      have HT4 := hid' hs
      have HS4 := hid' (HS3.out.keep hb)
      have HC4 := hid' (HC3.out.keep hb)
      have HB4 := hid' (below_from HB3.out hb HB3.out.size)
      have HZ4 := hid' (Nat.le_trans HZ3.out hb.size)
      clear hs hb HC3 HB3 HS3
      go_wp2_with fail
      refine (slist13 _ sn Ks q es _ w4 HS4.out (by decide)).mono ?_
      rw [HLN.out]
      rintro _ w5 ⟨⟨m', ro, rc, rfl, hm', hown⟩, hb⟩
      obtain rfl : m = m' := HML.out.symm.trans hm'
      obtain ⟨z, hz⟩ : ∃ z, w4.heap.size = z := ⟨_, rfl⟩
      rw [hz] at hown HZ4
      have HP5 : Hid (KP w5 w.heap.size b Bs sn z K Ks (.slice ro m rc) m q q es es) := hid' ⟨HC4.out.keep hb, HS4.out.keep hb, hown, HAP.out, fun k hk hv => by have h1 := HLK.out k hk; have h2 := (own_ty hown k hv).1; have h3 := HZ4.out; omega⟩
      have HT5 := hid' (HT4.out.keep hb)
      have HB5 := hid' (below_from HB4.out hb HB4.out.size)
      clear hm' hown hb hz HC4 HB4 HS4 HT4 HAP HLK HZ3 HZ4
      go_wp2_with fail
      refine (sseq13 _ sn Ks q es w5 HP5.out.cs).mono ?_
      rintro _ w6 ⟨rfl, hw⟩
      subst w6
      go_wp2_with fail
      refine (slist13 _ tn Kt q es _ w5 HT5.out (by decide)).mono ?_
      rw [HLN.out]
      rintro _ w6 ⟨⟨m', ro2, rc2, rfl, hm', hown⟩, hb⟩
      obtain rfl : m = m' := HML.out.symm.trans hm'
      have HR6 := hid' (RE.of_own hown)
      have HP6 := hid' (HP5.out.keep hb)
      have HT6 := hid' (HT5.out.keep hb)
      have HB6 := hid' (below_from HB5.out hb HB5.out.size)
      clear hm' hown hb HP5 HT5 HB5
      go_wp2_with fail
      refine (dsame _ _ _ _ m es HML.out _ (RE.of_own HP6.out.row) HR6.out (by omega)).mono ?_
      rintro e w7 ⟨rfl, n7, hn7⟩
      subst hn7
      have hqq : (q == q) = true := beq_self_eq_true _
      have hb7 : Below w6.heap.size w6 (w6.drewN n7) := ⟨rfl, rfl, rfl, Nat.le_refl _, fun _ _ => rfl⟩
      have HP7 := hid' (HP6.out.keep hb7)
      have HT7 := hid' (HT6.out.keep hb7)
      have HB7 := hid' (below_from HB6.out hb7 HB6.out.size)
      clear hb7 HP6 HT6 HB6 HR6
      generalize w6.drewN n7 = w7 at *
      go_wp2_with fail
      refine (sseq13 _ tn Kt q es w7 HT7.out).mono ?_
      rintro _ w8 ⟨rfl, hw⟩
      subst w8
      go_wp2_with fail
      refine (cseq13 _ b K q es w7 HP7.out.cd).mono ?_
      rintro _ w8 ⟨rfl, hw⟩
      subst w8
      clear HT7
      go_wp2
      go_loopw [11, 12, 13, 14, 15] (fun s11 _ _ _ _ wr => ∃ (i2 : Nat) (K' : Nat → Prop) (q' : Int) (es' : List Dk.En), s11 = .int .i64 (i2 : Int) ∧ i2 ≤ M ∧ 0 ≤ q' ∧ q' ≤ (i : Int) + (i2 : Int) ∧ Hid (KP wr w.heap.size b Bs sn z K' Ks (.slice ro m rc) m q q' es es') ∧ Hid (Below w.heap.size w wr)) (fun s11 _ _ _ _ _ => M - (intOf s11).toNat)
      case atStart => exact ⟨0, _, _, _, rfl, Nat.zero_le _, hq0, by omega, HP7, HB7⟩
      case round =>
        clear HP7 HB7
        obtain ⟨i2, K', q', es', rfl, hi2, hq2, hq3, HP, HB⟩ := hrel
        by_cases hlt : i2 < M
        · have hlt2' : (i2 : Int) < (M : Int) := by omega
          obtain ⟨c, hc⟩ : ∃ c, cs2[i2]? = some c := ⟨_, List.getElem?_eq_getElem (by rw [HM.out]; exact hlt)⟩
          have hct2 := HTX2.out c (List.mem_of_getElem? hc)
          have HPS := hid' hct2.1
          have HBSZ := hid' hct2.2
          obtain ⟨fy, fi, fj, hfv⟩ := fileV_shape3 (Dk.get c.path.data.toList es)
          obtain ⟨dh, hdh⟩ : ∃ dh, Dk.has c.path.data.toList es = dh := ⟨_, rfl⟩
          obtain ⟨t, ht⟩ : ∃ t, Dk.at' c.path.data.toList es = t := ⟨_, rfl⟩
          have HFV := hid' hfv
          have HHS := hid' hdh
          have HAT := hid' ht
          have HCC := hid' hc
          obtain ⟨a2, hao2, x0, x1, x2, x3, x4⟩ := HSC2.out.at HB.out i2 c hc
          subst hao2
          clear hc hct2 hfv hdh ht
          go_wp2_with fail
          refine (lchange c _ b K' q' es' _ HP.out.cd HPS.out HBSZ.out hq2 (by omega)).mono ?_
          rintro _ w2 ⟨rfl, es2, q2, K2, hch, hcd, hlf, hnew⟩
          have hq4 := chOf_q hch hq2
          have HP2 := hid' (HP.out.next hcd hlf hnew)
          have HB2 := hid' (HP.out.cd.bl HB.out hlf)
          clear hch hcd hlf hnew HP HB x0 x1 x2 x3 x4
          obtain ⟨a3, hao3, x0, x1, x2, x3, x4⟩ := HSC2.out.at HB2.out i2 c HCC.out
          injection hao3 with hao3
          subst hao3
          clear x0 x2 x3 x4
          go_wp2_with fail
          refine (sget13 _ sn Ks q es c.path w2 HP2.out.cs HPS.out).mono ?_
          rw [HFV.out, HHS.out]
          rintro _ w4 ⟨rfl, hb⟩
          have HP4 := hid' (HP2.out.keep hb)
          have HB4 := hid' (below_from HB2.out hb HB2.out.size)
          clear hb HP2 HB2 x1
          go_upto_region 19 with fail
          have HF5 : Hid (Ar (w4.alloc (.cells #[.string fy, .int .i64 fi, .int .i64 fj] 38)) w4.heap.size 38 #[.string fy, .int .i64 fi, .int .i64 fj]) := hid' (heap_alloc_last w4 _)
          have hb5 : Below w4.heap.size w4 (w4.alloc (.cells #[.string fy, .int .i64 fi, .int .i64 fj] 38)) := (Below.refl _ _).alloc (Nat.le_refl _) _
          have HP5 := hid' (HP4.out.keep hb5)
          have HB5 := hid' (below_from HB4.out hb5 HB4.out.size)
          obtain ⟨fb, hfb⟩ : ∃ fb, w4.heap.size = fb := ⟨_, rfl⟩
          clear hb5 HP4 HB4
          rw [hfb] at HF5 ⊢
          generalize w4.alloc (.cells #[.string fy, .int .i64 fi, .int .i64 fj] 38) = w5 at *
          clear hfb
          obtain ⟨a4, hao4, _, x1, _, _, _⟩ := HSC2.out.at HB5.out i2 c HCC.out
          injection hao4 with hao4
          subst hao4
          have HX1 := hid' x1
          have HRE := hid' (RE.of_own HP5.out.row)
          clear x1
          go_wp2
          go_loopw [14, 15] (fun s14 s15 wr => ∃ (j nq : Nat) (κ : Int), s14 = .int .i64 κ ∧ s15 = .int .i64 (j : Int) ∧ j ≤ m ∧ Hid ((dh = true ∧ t < j → κ = (t : Int)) ∧ (¬ (dh = true ∧ t < j) → κ = -1)) ∧ wr = w5.drewN nq) (fun _ s15 _ => m - (intOf s15).toNat)
          case atStart => exact ⟨0, 0, -1, rfl, rfl, Nat.zero_le _, hid' ⟨fun h => absurd h.2 (Nat.not_lt_zero _), fun _ => rfl⟩, rfl⟩
          case round =>
            obtain ⟨j, nq, κ, rfl, rfl, hj, HK, hwr⟩ := hrel
            subst hwr
            by_cases hlj : j < m
            · have hlj2 : (j : Int) < (m : Int) := by omega
              obtain ⟨p, hp⟩ : ∃ p, es[j]? = some p := ⟨_, List.getElem?_eq_getElem (by rw [HML.out]; exact hlj)⟩
              obtain ⟨ar, hro, y0, y1, y2, y3⟩ := HRE.out.four HML.out.symm j p hp
              subst hro
              have hpi := Dk.at_iff es HOK.out j p hp c.path.data.toList
              rw [HHS.out, HAT.out] at hpi
              obtain ⟨eb, heb⟩ : ∃ eb, (p.path.toList == c.path.toList) = eb := ⟨_, rfl⟩
              have hpe : eb = true ↔ dh = true ∧ t = j := by
                rw [← hpi, ← heb, Lib.toList_data, Lib.toList_data]
                exact beq_iff_eq
              have HPE := hid' hpe
              have x1 := HX1.out
              clear hp hpi hpe y1 y2 y3 hlj
              cases eb
              · go_wp2
                go_quiet (fail)
                go_wp2
                go_roundw
                case rel => exact ⟨j + 1, _, κ, rfl, by go_num, by omega, hid' (kap_no HK.out (fun h => by simpa using HPE.out.2 h)), by first | rfl | simp⟩
                case measure => simp [intOf]; omega
              · go_wp2
                go_quiet (fail)
                go_wp2
                go_roundw
                case rel => exact ⟨j + 1, _, (j : Int), rfl, by go_num, by omega, hid' (kap_yes (HPE.out.1 (by first | exact rfl | trivial))), by first | rfl | simp⟩
                case measure => simp [intOf]; omega
            · obtain rfl : j = m := by omega
              have hlj2 : ¬ (j : Int) < (j : Int) := by omega
              clear hlj
              have f0 := HF5.out.cell 0 _ rfl
              have f1 := HF5.out.cell 1 _ rfl
              have f2 := HF5.out.cell 2 _ rfl
              have hgd := noGuardFi
              cases dh
              · obtain rfl : κ = -1 := HK.out.2 (fun h => by simpa using h.1)
                have hnone : Dk.get c.path.data.toList es = none := by unfold Dk.get; rw [HHS.out]; rfl
                have hfz := HFV.out
                rw [hnone] at hfz
                simp only [fileV] at hfz
                injection hfz with hfz
                simp at hfz
                obtain ⟨rfl, rfl, rfl⟩ := hfz
                have hnf : ∀ W, (binOp .neq 38 (.agg #[.string ⟨#[]⟩, .int .i64 0, .int .i64 0]) (.agg #[.string ⟨#[]⟩, .int .i64 0, .int .i64 0])).run Tryd.prog W = .ok (.bool false) W := fun W => by rw [neq_file]; simp
                clear hnone HK
                go_wp2
                go_quiet (fail)
                clear f0 f1 f2 hnf hgd
                go_wp2
                go_roundw
                case rel => exact ⟨i2 + 1, K2, q2, es2, by go_num, by omega, hq4.1, by omega, hid' (HP5.out.keep ⟨rfl, rfl, rfl, Nat.le_refl _, fun _ _ => rfl⟩), hid' (bl_dn13 HB5.out _)⟩
                case measure => simp [intOf]; omega
              · obtain ⟨e, hge, hee⟩ := Dk.get_at es HOK.out _ HHS.out
                rw [HAT.out] at hee
                have htl : t < j := by have := (List.getElem?_eq_some_iff.1 hee).1; rw [HML.out] at this; exact this
                obtain rfl : κ = (t : Int) := HK.out.1 ⟨rfl, htl⟩
                have hfz := HFV.out
                rw [hge] at hfz
                simp only [fileV] at hfz
                injection hfz with hfz
                simp at hfz
                obtain ⟨rfl, rfl, rfl⟩ := hfz
                obtain ⟨ar, hro, y0, y1, y2, y3⟩ := HRE.out.four HML.out.symm t e hee
                subst hro
                have hnf : ∀ W, (binOp .neq 38 (.agg #[.string e.body, .int .i64 e.time, .int .i64 e.seq]) (.agg #[.string e.body, .int .i64 e.time, .int .i64 e.seq])).run Tryd.prog W = .ok (.bool false) W := fun W => by rw [neq_file]; simp
                have t1 : (0 : Int) ≤ (t : Int) := by omega
                have t2 : (t : Int) < (j : Int) := by omega
                clear hge hee htl HK
                go_wp2
                go_quiet (fail)
                clear f0 f1 f2 hnf hgd y0 y1 y2 y3
                go_wp2
                go_roundw
                case rel => exact ⟨i2 + 1, K2, q2, es2, by go_num, by omega, hq4.1, by omega, hid' (HP5.out.keep ⟨rfl, rfl, rfl, Nat.le_refl _, fun _ _ => rfl⟩), hid' (bl_dn13 HB5.out _)⟩
                case measure => simp [intOf]; omega
        · obtain rfl : i2 = M := by omega
          have hlt2' : ¬ (i2 : Int) < (i2 : Int) := by omega
          clear hlt
          go_wp2
          go_loopw [16, 17] (fun s16 _ wr => ∃ (k : Nat), s16 = .int .i64 (k : Int) ∧ k ≤ m ∧ Hid (KP wr w.heap.size b Bs sn z K' Ks (.slice ro m rc) m q q' es es') ∧ Hid (Below w.heap.size w wr)) (fun s16 _ _ => m - (intOf s16).toNat)
          case atStart => exact ⟨0, rfl, Nat.zero_le _, HP, HB⟩
          case round =>
            clear HP HB
            obtain ⟨k, rfl, hk, HP, HB⟩ := hrel
            by_cases hlk : k < m
            · have hlk2 : (k : Int) < (m : Int) := by omega
              obtain ⟨p, hp⟩ : ∃ p, es[k]? = some p := ⟨_, List.getElem?_eq_getElem (by rw [HML.out]; exact hlk)⟩
              have hpm := List.mem_of_getElem? hp
              obtain ⟨s1, s2⟩ := HSQ.out.rng p hpm
              have s1' : ¬ p.seq < 1 := by omega
              have s2' : ¬ q < p.seq := by omega
              have HPT := hid' (HSQ.out.pth p hpm)
              have HPL := hid' (path_size p.path HPT.out)
              have HPP := hid' hp
              obtain ⟨ar, hro, y0, y1, y2, y3⟩ := (RE.of_own HP.out.row).four HML.out.symm k p hp
              subst hro
              have HY := hid' (And.intro y0 y3)
              clear hp hpm y0 y1 y2 y3 s1 s2
              go_upto_region 30 with fail
              go_cut [172] from 123 to 190 (fun s172 wx => s172 = .bool false ∧ Hid (Below wr.heap.size wr wx))
              case first =>
                have HD0 : Hid (Below wr.heap.size wr wr.drew) := hid' ⟨rfl, rfl, rfl, Nat.le_refl _, fun _ _ => rfl⟩
                by_cases hk0 : k = 0
                · subst hk0
                  have hm0 : (0 : Int) < (m : Int) := by omega
                  have q0 : ∀ z : BW wr, z.W.cell? (ar.add (0 * 4)) = some (.string p.path) := fun z => (((RE.of_own HP.out.row).keep z.h).cell4 HML.out.symm 0 p HPP.out)
                  have q3 : ∀ z : BW wr, z.W.cell? ⟨(ar.add (0 * 4)).block, (ar.add (0 * 4)).off + 3, none⟩ = some (.int .i64 p.seq) := fun z => (((RE.of_own HP.out.row).keep z.h).cell43 HML.out.symm 0 p HPP.out)
                  have r0 : ∀ z : BW wr, z.W.cell? ar = some (.string p.path) := fun z => q0 z
                  have r1 : ∀ z : BW wr, z.W.cell? (ar.add 0) = some (.string p.path) := fun z => by have := q0 z; simpa using this
                  have r2 : ∀ z : BW wr, z.W.cell? ⟨ar.block, ar.off, ar.spot⟩ = some (.string p.path) := fun z => r0 z
                  have r3 : ∀ z : BW wr, z.W.cell? ⟨ar.block, ar.off + 1 + 2, none⟩ = some (.int .i64 p.seq) := fun z => q3 z
                  clear q0 q3
                  have hne : Nonempty (BW wr) := ⟨⟨wr, Below.refl _ _⟩⟩
                  refine wp_region_below_s (by kernel_rfl) (by kernel_rfl) ?_
                  repeat (refine QS.step (fun K hK => ?_); go_simp; first | (refine hK _ ?_; clear hK K) | (apply Exists.intro; refine ⟨fun _ => ?_, hK _ ?_⟩; (go_at_call 8; refine Calls.below_of (cpath13 p.path true HPT.out _ HPL.out)); clear hK K))
                  refine QS.nil ?_
                  rintro _ ⟨⟨wq, hBq⟩, rfl⟩
                  have HBp := hid' hBq
                  clear hBq r0 r1 r2 r3
                  go_wp2_with fail
                  go_meet
                  exact ⟨rfl, HBp⟩
                · obtain ⟨k', hk'⟩ : ∃ k', k = k' + 1 := ⟨k - 1, by omega⟩
                  have k1 : (0 : Int) < (k : Int) := by omega
                  have k0 : 0 < k := by omega
                  have k5 : decide ((0 : Int) < (k : Int)) = true := decide_eq_true k1
                  have k6 : decide (0 < k) = true := decide_eq_true k0
                  have k2 : IntKind.i64.wrap ((k : Int) - 1) = (k' : Int) := by rw [IntKind.wrap_i64]; omega
                  have k3 : (0 : Int) ≤ (k' : Int) := by omega
                  have k4 : (k' : Int) < (m : Int) := by omega
                  obtain ⟨p', hp'⟩ : ∃ p', es[k']? = some p' := ⟨_, List.getElem?_eq_getElem (by rw [HML.out]; omega)⟩
                  have hri := Dk.rise_at es HOK.out k' k p' p (by omega) hp' HPP.out
                  have hbl : Op.bytesLess p.path.toList p'.path.toList = false := by
                    rw [bytesLess_eq, Lib.toList_data, Lib.toList_data]
                    exact decide_eq_false (Dk.lt_asymm hri)
                  have hbe : (p.path.toList == p'.path.toList) = false := by
                    rw [Lib.toList_data, Lib.toList_data]
                    exact beq_false_of_ne (fun e => Dk.lt_irrefl (Dk.key p) (by have h1 := hri; unfold Dk.key at h1 ⊢; rw [← e] at h1; exact h1))
                  clear hri
                  have HQ := hid' (fun W (hb : Below wr.heap.size wr W) => And.intro (((RE.of_own HP.out.row).keep hb).cell4 HML.out.symm k p HPP.out) (And.intro (((RE.of_own HP.out.row).keep hb).cell43 HML.out.symm k p HPP.out) (((RE.of_own HP.out.row).keep hb).cell4 HML.out.symm k' p' hp')))
                  have hS := HQ.out _ HD0.out
                  clear hp' hk0 hk'
                  go_region_held3 (fun W => W.cell? (ar.add (k * 4)) = some (.string p.path) ∧ W.cell? ⟨(ar.add (k * 4)).block, (ar.add (k * 4)).off + 3, none⟩ = some (.int .i64 p.seq) ∧ W.cell? (ar.add (k' * 4)) = some (.string p'.path)) (first | assumption) (first
                    | (go_at_call 8; refine (cpath13 p.path true HPT.out _ HPL.out).mono ?_; rintro e wp ⟨rfl, hbp⟩; have HBp := hid' (below_two HD0.out hbp); have hSp := HQ.out wp HBp.out; clear hbp))
                  all_goals
                    go_wp2_with fail
                    go_meet
                    exact ⟨rfl, HBp⟩
              case rest =>
                obtain ⟨rfl, HBc⟩ := hcut
                have HPc := hid' (HP.out.keep HBc.out)
                have HBd := hid' (below_from HB.out HBc.out HB.out.size)
                clear HP HB HBc HY
                have HRE := hid' (RE.of_own HPc.out.row)
                go_wp2
                go_loopw [17] (fun s17 wr => ∃ (j nq : Nat), s17 = .int .i64 (j : Int) ∧ j ≤ k ∧ wr = wc.drewN nq) (fun s17 _ => k - (intOf s17).toNat)
                case atStart => exact ⟨0, 0, rfl, Nat.zero_le _, rfl⟩
                case round =>
                  obtain ⟨j, nq, rfl, hj, hwr⟩ := hrel
                  subst hwr
                  by_cases hlj : j < k
                  · have hlj2 : (j : Int) < (k : Int) := by omega
                    have hlj3 : (j : Int) < (m : Int) := by omega
                    obtain ⟨p2, hp2⟩ : ∃ p2, es[j]? = some p2 := ⟨_, List.getElem?_eq_getElem (by rw [HML.out]; omega)⟩
                    obtain ⟨_, h1, y0, y1, y2, y3⟩ := HRE.out.four HML.out.symm k p HPP.out
                    injection h1 with h1
                    subst h1
                    obtain ⟨_, h1, v0, v1, v2, v3⟩ := HRE.out.four HML.out.symm j p2 hp2
                    injection h1 with h1
                    subst h1
                    have hdf : (p.seq == p2.seq) = false := beq_false_of_ne (Ne.symm (Dk.dif_at q es HSQ.out j k p2 p hlj hp2 HPP.out))
                    clear hp2 hlj y0 y1 y2 v0 v1 v2
                    go_wp2
                    go_quiet (fail)
                    go_wp2
                    go_roundw
                    case rel => exact ⟨j + 1, _, by go_num, by omega, by first | rfl | simp⟩
                    case measure => simp [intOf]; omega
                  · obtain rfl : j = k := by omega
                    have hlj2 : ¬ (j : Int) < (j : Int) := by omega
                    clear hlj
                    go_wp2
                    go_roundw
                    case rel => exact ⟨j + 1, by go_num, by omega, hid' (HPc.out.keep ⟨rfl, rfl, rfl, Nat.le_refl _, fun _ _ => rfl⟩), hid' (bl_dn13 HBd.out _)⟩
                    case measure => simp [intOf]; omega
            · obtain rfl : k = m := by omega
              have hlk2 : ¬ (k : Int) < (k : Int) := by omega
              clear hlk
              go_wp2_with fail
              refine (slist13 _ sn Ks q es _ _ HP.out.cs (by decide)).mono ?_
              rw [HLN.out]
              rintro _ w8 ⟨⟨m8, r8, c8, rfl, hm8, hown8⟩, hb8⟩
              obtain rfl : k = m8 := HML.out.symm.trans hm8
              have HR8 := hid' (RE.of_own hown8)
              have HP8 := hid' (HP.out.keep hb8)
              have HB8 := hid' (below_from HB.out hb8 HB.out.size)
              clear hm8 hown8 hb8 HP HB
              go_wp2_with fail
              refine (dsame _ _ _ _ k es HML.out _ HR8.out (RE.of_own HP8.out.row) (by omega)).mono ?_
              rintro e w9 ⟨rfl, n9, hn9⟩
              subst hn9
              have HP9 := hid' (HP8.out.keep (w' := w8.drewN n9) ⟨rfl, rfl, rfl, Nat.le_refl _, fun _ _ => rfl⟩)
              have HB9 := hid' (bl_dn13 HB8.out n9)
              clear HP8 HB8 HR8
              generalize w8.drewN n9 = w9 at *
              go_wp2_with fail
              refine (sseq13 _ sn Ks q es w9 HP9.out.cs).mono ?_
              rintro _ w10 ⟨rfl, hw⟩
              subst w10
              go_wp2_with fail
              refine (awake13 _).mono ?_
              rintro e w11 ⟨rfl, hb11⟩
              have HB11 := hid' (below_from HB9.out hb11 HB9.out.size)
              go_wp2
              go_ret
              exact ⟨rfl, HB11.out⟩

end Go.Proofs.YtnggablpkgbpaaaDoor
