/-
  The law DiskCounts, by its contract: it returns true for every row of changes.
-/
import Derived.Test.YtnggablpkgbpaaaDoorDkQ
import Derived.Deep.RegionWith
import Derived.Test.YtnggablpkgbpaaaDoorDkY
import Derived.Deep.RegionHeld3
namespace Go.Proofs.YtnggablpkgbpaaaDoor
open Go.RowKit

theorem fileV_shape2 (o : Option Dk.En) : ∃ y i j, fileV o = .agg #[.string y, .int .i64 i, .int .i64 j] := by
  cases o
  · exact ⟨_, _, _, rfl⟩
  · exact ⟨_, _, _, rfl⟩
/-- What a change has done, as the law looks at it. -/
def CnOf (tk : Bool) (q : Int) (yb : ByteArray) (dh did : Bool) (q' : Int) (dg : Bool) (gy : ByteArray) (gj : Int) : Prop :=
  0 ≤ q' - q ∧ q' - q ≤ 1 ∧ (did = true → q' = q + 1) ∧ (did = false → q' = q ∧ dg = dh) ∧ (did = true → tk = true → dg = false) ∧ (did = true → tk = false → dg = true ∧ q' = gj ∧ yb = gy)
theorem cnOf_rem {es es' : List Dk.En} {q q' : Int} {x yb gy : ByteArray} {gj : Int} {t dh : Bool} (hok : Dk.Ok es) (ho : RemOf13 es q x t es' q') (hh : Dk.has x.data.toList es = dh) : CnOf true q yb dh t q' (Dk.has x.data.toList es') gy gj := by
  rcases ho with ⟨rfl, h2, rfl, rfl⟩ | ⟨rfl, h2, rfl, rfl⟩
  · exact ⟨by omega, by omega, fun _ => rfl, by simp, fun _ _ => Dk.has_rem _ _ hok h2, by simp⟩
  · exact ⟨by omega, by omega, by simp, fun _ => ⟨rfl, hh⟩, by simp, by simp⟩
theorem cnOf_put {es es' : List Dk.En} {q q' t k gi gj : Int} {x yb gy : ByteArray} {dd dh : Bool} (hok : Dk.Ok es) (ho : PutOf13 es q x yb t k es' q') (hd : (k == 0) = dd) (hg : fileV (Dk.get x.data.toList es') = .agg #[.string gy, .int .i64 gi, .int .i64 gj]) (hh : Dk.has x.data.toList es = dh) : CnOf false q yb dh dd q' (Dk.has x.data.toList es') gy gj := by
  rcases ho with ⟨rfl, _, rfl, rfl⟩ | ⟨rfl, _, rfl, rfl⟩ | ⟨rfl, _, rfl, rfl⟩ | ⟨rfl, _, rfl, rfl⟩ | ⟨rfl, h2, rfl, rfl⟩
  all_goals subst hd
  · exact ⟨by omega, by omega, by simp, fun _ => ⟨rfl, hh⟩, by simp, by simp⟩
  · exact ⟨by omega, by omega, by simp, fun _ => ⟨rfl, hh⟩, by simp, by simp⟩
  · exact ⟨by omega, by omega, by simp, fun _ => ⟨rfl, hh⟩, by simp, by simp⟩
  · exact ⟨by omega, by omega, by simp, fun _ => ⟨rfl, hh⟩, by simp, by simp⟩
  · obtain ⟨h3, h4⟩ := Dk.get_put es ⟨x, yb, t, q + 1⟩ hok
    have h3' : Dk.get x.data.toList (Dk.put ⟨x, yb, t, q + 1⟩ es) = some ⟨x, yb, t, q + 1⟩ := h3
    rw [h3'] at hg
    simp only [fileV] at hg
    injection hg with hg
    simp at hg
    exact ⟨by omega, by omega, fun _ => rfl, by simp, by simp, fun _ _ => ⟨h4, hg.2.2, hg.1⟩⟩
theorem wrap13 (n : Int) (h0 : -9223372036854775808 ≤ n) (h1 : n ≤ 9223372036854775807) : IntKind.i64.wrap n = n := by
  rw [IntKind.wrap_i64]; omega
theorem bl130 (w : World) (q : Nat) : Below w.heap.size w (w.drewN q) := ⟨rfl, rfl, rfl, Nat.le_refl _, fun _ _ => rfl⟩
/-- A file of nought. -/
abbrev fi0 : Obj := .cells #[.string ⟨#[]⟩, .int .i64 0, .int .i64 0] 38
theorem bl131 (w : World) (q : Nat) : Below w.heap.size w ((w.drewN q).alloc fi0) := (bl130 w q).alloc (Nat.le_refl _) _
theorem bl132 (w : World) : Below w.heap.size w (w.alloc fi0) := (Below.refl _ _).alloc (Nat.le_refl _) _
theorem fi_new0 (w : World) : Ar (w.alloc fi0) w.heap.size 38 #[.string ⟨#[]⟩, .int .i64 0, .int .i64 0] := heap_alloc_last w _
theorem fi_new (w : World) (q : Nat) : Ar ((w.drewN q).alloc fi0) w.heap.size 38 #[.string ⟨#[]⟩, .int .i64 0, .int .i64 0] := heap_alloc_last (w.drewN q) _
theorem fi_set {w : World} {b : Nat} {y : ByteArray} {i j : Int} (h : Ar w b 38 #[.string ⟨#[]⟩, .int .i64 0, .int .i64 0]) : Ar (((w.setCell ⟨b, 0, none⟩ (.string y)).setCell ⟨b, 1, none⟩ (.int .i64 i)).setCell ⟨b, 2, none⟩ (.int .i64 j)) b 38 #[.string y, .int .i64 i, .int .i64 j] := by
  simpa using ((h.set 0 (.string y)).set 1 (.int .i64 i)).set 2 (.int .i64 j)
theorem fi_upd {w : World} {B b : Nat} {x y z : Value} (hb : B ≤ b) : Below B w (((w.setCell ⟨b, 0, none⟩ x).setCell ⟨b, 1, none⟩ y).setCell ⟨b, 2, none⟩ z) :=
  (((upd_setCell w b 0 x).below hb).trans ((upd_setCell _ b 1 y).below hb)).trans ((upd_setCell _ b 2 z).below hb)

set_option maxHeartbeats 16000000 in
set_option maxRecDepth 20000 in
theorem diskCounts_any (sv : Value) (cs : List Cl13) (w : World) (hsc : Scr13 w sv cs) (hlen : cs.length ≤ 140737488355328) (htx : ∀ c ∈ cs, c.path.size ≤ 140737488355328 ∧ c.body.size ≤ 140737488355328) :
    Calls Tryd.prog 7 #[sv] w fun e w' => e = .returned (.bool true) ∧ Below w.heap.size w w' := by
  obtain ⟨ao, cap, hsv⟩ := hsc.shape
  subst hsv
  obtain ⟨N, hN⟩ : ∃ N, cs.length = N := ⟨_, rfl⟩
  have HN := hid' hN
  rw [hN] at hsc hlen ⊢
  have HSC := hid' hsc
  have HTX := hid' htx
  clear hN hsc htx
  go_enter Tryd.func7, Tryd.ntmps7
  go_wp2_with fail
  refine (cnew13 w).mono ?_
  rintro _ w1 ⟨⟨b, K1, rfl, hd⟩, hb⟩
  have HC := hid' hd
  have HB := hid' hb
  clear hd hb
  go_wp2
  go_loopw [4, 5, 6, 7, 8, 9, 10, 11, 12] (fun s4 _ _ _ _ _ _ _ _ wr => ∃ (i : Nat) (K : Nat → Prop) (q : Int) (es : List Dk.En), s4 = .int .i64 (i : Int) ∧ i ≤ N ∧ 0 ≤ q ∧ q ≤ (i : Int) ∧ Hid (CD wr w.heap.size b K q es) ∧ Hid (Below w.heap.size w wr)) (fun s4 _ _ _ _ _ _ _ _ _ => N - (intOf s4).toNat)
  case atStart => exact ⟨0, _, _, _, rfl, Nat.zero_le _, by decide, by decide, HC, HB⟩
  case round =>
    clear HC HB
    obtain ⟨i, K, q, es, rfl, hi, hq0, hq1, HC, HB⟩ := hrel
    by_cases hlt : i < N
    · have hlt2 : (i : Int) < (N : Int) := by omega
      obtain ⟨c, hc⟩ : ∃ c, cs[i]? = some c := ⟨_, List.getElem?_eq_getElem (by rw [HN.out]; exact hlt)⟩
      have hct2 := HTX.out c (List.mem_of_getElem? hc)
      have HPS := hid' hct2.1
      have HBSZ := hid' hct2.2
      obtain ⟨a, hao, x0, x1, x2, x3, x4⟩ := HSC.out.at HB.out i c hc
      subst hao
      clear hc hct2
      obtain ⟨fy, fi, fj, hfv⟩ := fileV_shape2 (Dk.get c.path.data.toList es)
      obtain ⟨dh, hdh⟩ : ∃ dh, Dk.has c.path.data.toList es = dh := ⟨_, rfl⟩
      obtain ⟨tk, htk⟩ : ∃ tk, c.take = tk := ⟨_, rfl⟩
      have HFV := hid' hfv
      have HHS := hid' hdh
      have HOK := hid' HC.out.ok.1
      have HLB : Hid (∀ W, Calls Tryd.prog 15 #[.agg #[.bool tk, .string c.path, .string c.body, .int .i64 c.time, .int .i64 c.long]] W fun e w' => e = .returned (.string (bodyOf c)) ∧ Below W.heap.size W w') := hid' (fun W => by have := lbody c HBSZ.out W; rwa [htk] at this)
      have HBO := hid' (bodyOf_size c HBSZ.out)
      obtain ⟨yb, hyb⟩ : ∃ yb, bodyOf c = yb := ⟨_, rfl⟩
      rw [hyb] at HLB HBO
      rw [htk] at x0
      clear hfv hdh htk hyb
      go_upto_region 8 with fail
      have HX1 : Hid (Ar (wr.alloc (.cells #[.bool tk, .string c.path, .string c.body, .int .i64 c.time, .int .i64 c.long] 31)) wr.heap.size 31 #[.bool tk, .string c.path, .string c.body, .int .i64 c.time, .int .i64 c.long]) := hid' (heap_alloc_last wr _)
      have hb1 : Below wr.heap.size wr (wr.alloc (.cells #[.bool tk, .string c.path, .string c.body, .int .i64 c.time, .int .i64 c.long] 31)) := (Below.refl _ _).alloc (Nat.le_refl _) _
      have HC1 := hid' (HC.out.keep hb1)
      have HB1 := hid' (below_from HB.out hb1 HB.out.size)
      obtain ⟨xb, hxb⟩ : ∃ xb, wr.heap.size = xb := ⟨_, rfl⟩
      rw [hxb] at HX1 ⊢
      clear hb1 HC HB
      generalize wr.alloc (.cells #[.bool tk, .string c.path, .string c.body, .int .i64 c.time, .int .i64 c.long] 31) = w1 at *
      clear hxb x0 x1 x2 x3 x4
      go_wp2_with fail
      refine (cseq13 _ b K q es w1 HC1.out).mono ?_
      rintro _ w2 ⟨rfl, hw⟩
      subst w2
      go_upto_region 9 with fail
      go_cut [7, 8] from 16 to 113 (fun s7 s8 wx => ∃ fb, s7 = .pointer (some ⟨fb, 0, none⟩) ∧ s8 = .bool dh ∧ Hid (Ar wx fb 38 #[.string fy, .int .i64 fi, .int .i64 fj] ∧ Below w1.heap.size w1 wx))
      case first =>
        have hxp : w1.drew.cell? ⟨xb, 1, none⟩ = some (.string c.path) := HX1.out.cell 1 _ rfl
        have hxp2 : (w1.drew.alloc (.cells #[.string ⟨#[]⟩, .int .i64 0, .int .i64 0] 38)).cell? ⟨xb, 1, none⟩ = some (.string c.path) := (HX1.out.keep (bl131 w1 1)).cell 1 _ rfl
        have hxp3 : (w1.alloc (.cells #[.string ⟨#[]⟩, .int .i64 0, .int .i64 0] 38)).drew.cell? ⟨xb, 1, none⟩ = some (.string c.path) := hxp2
        have hxp4 : (w1.alloc (.cells #[.string ⟨#[]⟩, .int .i64 0, .int .i64 0] 38)).cell? ⟨xb, 1, none⟩ = some (.string c.path) := hxp2
        have hxp5 : w1.cell? ⟨xb, 1, none⟩ = some (.string c.path) := hxp
        have hxp6 : xb < w1.heap.size := HX1.out.lt
        have hxp7 : (xb == w1.heap.size) = false := beq_false_of_ne (Nat.ne_of_lt hxp6)
        go_region_with (first
          | (go_at_call 17; refine (csnap13 _ b K q es _ (HC1.out.keep (bl130 w1 1))).mono ?_; rintro e wA ⟨⟨sn, Ks, rfl, hs⟩, hb⟩; have HSA := hid' hs; have HBA := hid' (below_two (bl130 w1 1) hb); have hxA : wA.cell? ⟨xb, 1, none⟩ = some (.string c.path) := (HX1.out.keep HBA.out).cell 1 _ rfl; have hxA2 : (wA.alloc (.cells #[.string ⟨#[]⟩, .int .i64 0, .int .i64 0] 38)).cell? ⟨xb, 1, none⟩ = some (.string c.path) := (HX1.out.keep (below_two HBA.out (bl132 wA))).cell 1 _ rfl; clear hs hb)
          | (go_at_call 17; refine (csnap13 _ b K q es _ (HC1.out.keep (bl131 w1 1))).mono ?_; rintro e wA ⟨⟨sn, Ks, rfl, hs⟩, hb⟩; have HSA := hid' hs; have HFA := hid' ((fi_new w1 1).keep hb); have HBA := hid' (below_two (bl131 w1 1) hb); have hxA : wA.cell? ⟨xb, 1, none⟩ = some (.string c.path) := (HX1.out.keep HBA.out).cell 1 _ rfl; have hxA2 : (wA.alloc (.cells #[.string ⟨#[]⟩, .int .i64 0, .int .i64 0] 38)).cell? ⟨xb, 1, none⟩ = some (.string c.path) := (HX1.out.keep (below_two HBA.out (bl132 wA))).cell 1 _ rfl; clear hs hb)
          | (go_at_call 18; refine (sget13 _ sn Ks q es c.path wA HSA.out HPS.out).mono ?_; rw [HFV.out, HHS.out]; rintro e wG ⟨rfl, hb⟩; have HBG := hid' (below_two HBA.out hb); (try (have HFG := hid' (HFA.out.keep hb); have g0 := HFG.out.cell 0 _ rfl; have g1 := HFG.out.cell 1 _ rfl; have g2 := HFG.out.cell 2 _ rfl; have k0 := HFG.out.free 0; have k1 := HFG.out.free 1; have k2 := HFG.out.free 2)); clear hb)
          | (go_at_call 18; refine (sget13 _ sn Ks q es c.path _ (HSA.out.keep (bl132 wA)) HPS.out).mono ?_; rw [HFV.out, HHS.out]; rintro e wG ⟨rfl, hb⟩; have HFG := hid' ((fi_new0 wA).keep hb); have g0 := HFG.out.cell 0 _ rfl; have g1 := HFG.out.cell 1 _ rfl; have g2 := HFG.out.cell 2 _ rfl; have k0 := HFG.out.free 0; have k1 := HFG.out.free 1; have k2 := HFG.out.free 2; have HBG := hid' (below_two (below_two HBA.out (bl132 wA)) hb); clear hb))
        all_goals
          go_wp2_with fail
          go_meet
          first
          | exact ⟨_, rfl, rfl, hid' ⟨heap_alloc_last _ _, HBG.out.alloc HBG.out.size _⟩⟩
          | exact ⟨_, rfl, rfl, hid' ⟨fi_set HFG.out, HBG.out.trans (fi_upd (by first | exact Nat.le_refl _ | exact HBA.out.size))⟩⟩
          | trace_state
      case rest =>
        obtain ⟨fb, rfl, rfl, HWfb⟩ := hcut
        have HC3 := hid' (HC1.out.keep HWfb.out.2)
        have HX3 := hid' (HX1.out.keep HWfb.out.2)
        have HB3 := hid' (below_from HB1.out HWfb.out.2 HB1.out.size)
        have x0 := HX3.out.cell 0 _ rfl
        clear HC1 HX1 HB1 HWfb
        generalize wc = w3 at *
        go_upto_if 37 with fail
        go_cut [9] from 16 to 113 (fun s9 wx => ∃ did es' q' K' gy gi gj dg, s9 = .bool did ∧ Hid (CnOf tk q yb dh did q' dg gy gj) ∧ Hid (fileV (Dk.get c.path.data.toList es') = .agg #[.string gy, .int .i64 gi, .int .i64 gj]) ∧ Hid (Dk.has c.path.data.toList es' = dg) ∧ Hid (CD wx w.heap.size b K' q' es') ∧ Hid (Ar wx xb 31 #[.bool tk, .string c.path, .string c.body, .int .i64 c.time, .int .i64 c.long]) ∧ Hid (Below w.heap.size w wx))
        case first =>
          cases tk
          · obtain ⟨k, esN, qN, ho⟩ := putOf13_ex es q c.path yb c.time
            obtain ⟨dd, hdd⟩ : ∃ dd, (k == 0) = dd := ⟨_, rfl⟩
            obtain ⟨gy, gi, gj, hgv⟩ := fileV_shape2 (Dk.get c.path.data.toList esN)
            have HO := hid' ho
            have HGV := hid' hgv
            have HDD := hid' hdd
            have hS : w3.drew.cell? ⟨xb, 0, none⟩ = some (.bool false) ∧ w3.drew.cell? ⟨xb, 1, none⟩ = some (.string c.path) ∧ w3.drew.cell? ⟨xb, 2, none⟩ = some (.string c.body) ∧ w3.drew.cell? ⟨xb, 3, none⟩ = some (.int .i64 c.time) ∧ w3.drew.cell? ⟨xb, 4, none⟩ = some (.int .i64 c.long) := And.intro (HX3.out.cell 0 _ rfl) (And.intro (HX3.out.cell 1 _ rfl) (And.intro (HX3.out.cell 2 _ rfl) (And.intro (HX3.out.cell 3 _ rfl) (HX3.out.cell 4 _ rfl))))
            have HCd := hid' (HC3.out.keep (bl130 w3 1))
            have HXd : Hid (Ar w3.drew xb 31 #[.bool false, .string c.path, .string c.body, .int .i64 c.time, .int .i64 c.long]) := hid' HX3.out
            have HBd : Hid (Below w.heap.size w w3.drew) := hid' (bl_dn13 HB3.out 1)
            clear ho hgv
            go_upto_region 15 with fail
            go_region_held3 (fun W => W.cell? ⟨xb, 0, none⟩ = some (.bool false) ∧ W.cell? ⟨xb, 1, none⟩ = some (.string c.path) ∧ W.cell? ⟨xb, 2, none⟩ = some (.string c.body) ∧ W.cell? ⟨xb, 3, none⟩ = some (.int .i64 c.time) ∧ W.cell? ⟨xb, 4, none⟩ = some (.int .i64 c.long)) (first | assumption) (first
              | (go_at_call 15; refine (HLB.out _).mono ?_; rintro e wp ⟨rfl, hbp⟩; have hxp := HXd.out.keep hbp; have hSp := And.intro (hxp.cell 0 _ rfl) (And.intro (hxp.cell 1 _ rfl) (And.intro (hxp.cell 2 _ rfl) (And.intro (hxp.cell 3 _ rfl) (hxp.cell 4 _ rfl)))); have HXP := hid' hxp; have HCP := hid' (HCd.out.keep hbp); have HBP := hid' (below_from HBd.out hbp HBd.out.size); clear hxp hbp)
              | (go_at_call 14; refine (cput13 HO.out _ b _ _ HCP.out HPS.out HBO.out hq0 (by omega)).mono ?_; rintro e wA ⟨rfl, KN, hcd, hlf, hnew⟩; have hxa := lf_box HXP.out hlf (cd_box HCP.out HXP.out); have hSa := And.intro (hxa.cell 0 _ rfl) (And.intro (hxa.cell 1 _ rfl) (And.intro (hxa.cell 2 _ rfl) (And.intro (hxa.cell 3 _ rfl) (hxa.cell 4 _ rfl)))); have HXA := hid' hxa; have HCA := hid' hcd; have HBA := hid' (HCP.out.bl HBP.out hlf); clear hxa hcd hlf hnew))
            go_wp2_with fail
            go_meet
            exact ⟨dd, esN, qN, KN, gy, gi, gj, _, rfl, hid' (cnOf_put HOK.out HO.out HDD.out HGV.out HHS.out), HGV, hid' rfl, HCA, HXA, HBA⟩
          · obtain ⟨tt, esN, qN, ho⟩ := remOf13_ex es q c.path
            obtain rfl : tt = dh := by
              rw [← HHS.out]
              rcases ho with ⟨h1, h2, _⟩ | ⟨h1, h2, _⟩ <;> rw [h1, h2]
            obtain ⟨gy, gi, gj, hgv⟩ := fileV_shape2 (Dk.get c.path.data.toList esN)
            have HO := hid' ho
            have HGV := hid' hgv
            have hdd : (tt == tt) = true := beq_self_eq_true _
            have x1 := HX3.out.cell 1 _ rfl
            clear ho hgv
            go_wp2_with fail
            refine (crem13 HO.out _ b _ _ HC3.out HPS.out hq0 (by omega)).mono ?_
            rintro e wA ⟨rfl, KN, hcd, hlf, hnew⟩
            have HXA := hid' (lf_box HX3.out hlf (cd_box HC3.out HX3.out))
            have HCA := hid' hcd
            have HBA := hid' (HC3.out.bl HB3.out hlf)
            clear hcd hlf hnew
            go_wp2_with fail
            go_meet
            exact ⟨tt, esN, qN, KN, gy, gi, gj, _, rfl, hid' (cnOf_rem HOK.out HO.out HHS.out), HGV, hid' rfl, HCA, HXA, HBA⟩
        case rest =>
          obtain ⟨did, es', q', K', gy, gi, gj, dg, rfl, HCN, HFG, HHG, HC5, HX5, HB5⟩ := hcut
          generalize wc = w5 at *
          go_upto_region 16 with fail
          go_cut [10, 11] from 16 to 113 (fun s7 s8 wx => ∃ fb, s7 = .pointer (some ⟨fb, 0, none⟩) ∧ s8 = .bool dg ∧ Hid (Ar wx fb 38 #[.string gy, .int .i64 gi, .int .i64 gj] ∧ Below w5.heap.size w5 wx))
          case first =>
            have hxp : w5.drew.cell? ⟨xb, 1, none⟩ = some (.string c.path) := HX5.out.cell 1 _ rfl
            have hxp2 : (w5.drew.alloc (.cells #[.string ⟨#[]⟩, .int .i64 0, .int .i64 0] 38)).cell? ⟨xb, 1, none⟩ = some (.string c.path) := (HX5.out.keep (bl131 w5 1)).cell 1 _ rfl
            have hxp3 : (w5.alloc (.cells #[.string ⟨#[]⟩, .int .i64 0, .int .i64 0] 38)).drew.cell? ⟨xb, 1, none⟩ = some (.string c.path) := hxp2
            have hxp4 : (w5.alloc (.cells #[.string ⟨#[]⟩, .int .i64 0, .int .i64 0] 38)).cell? ⟨xb, 1, none⟩ = some (.string c.path) := hxp2
            have hxp5 : w5.cell? ⟨xb, 1, none⟩ = some (.string c.path) := hxp
            have hxp6 : xb < w5.heap.size := HX5.out.lt
            have hxp7 : (xb == w5.heap.size) = false := beq_false_of_ne (Nat.ne_of_lt hxp6)
            go_region_with (first
              | (go_at_call 17; refine (csnap13 _ b K' q' es' _ (HC5.out.keep (bl130 w5 1))).mono ?_; rintro e wA ⟨⟨sn, Ks, rfl, hs⟩, hb⟩; have HSA := hid' hs; have HBA := hid' (below_two (bl130 w5 1) hb); have hxA : wA.cell? ⟨xb, 1, none⟩ = some (.string c.path) := (HX5.out.keep HBA.out).cell 1 _ rfl; have hxA2 : (wA.alloc (.cells #[.string ⟨#[]⟩, .int .i64 0, .int .i64 0] 38)).cell? ⟨xb, 1, none⟩ = some (.string c.path) := (HX5.out.keep (below_two HBA.out (bl132 wA))).cell 1 _ rfl; clear hs hb)
              | (go_at_call 17; refine (csnap13 _ b K' q' es' _ (HC5.out.keep (bl131 w5 1))).mono ?_; rintro e wA ⟨⟨sn, Ks, rfl, hs⟩, hb⟩; have HSA := hid' hs; have HFA := hid' ((fi_new w5 1).keep hb); have HBA := hid' (below_two (bl131 w5 1) hb); have hxA : wA.cell? ⟨xb, 1, none⟩ = some (.string c.path) := (HX5.out.keep HBA.out).cell 1 _ rfl; have hxA2 : (wA.alloc (.cells #[.string ⟨#[]⟩, .int .i64 0, .int .i64 0] 38)).cell? ⟨xb, 1, none⟩ = some (.string c.path) := (HX5.out.keep (below_two HBA.out (bl132 wA))).cell 1 _ rfl; clear hs hb)
              | (go_at_call 18; refine (sget13 _ sn Ks q' es' c.path wA HSA.out HPS.out).mono ?_; rw [HFG.out, HHG.out]; rintro e wG ⟨rfl, hb⟩; have HBG := hid' (below_two HBA.out hb); (try (have HFG := hid' (HFA.out.keep hb); have g0 := HFG.out.cell 0 _ rfl; have g1 := HFG.out.cell 1 _ rfl; have g2 := HFG.out.cell 2 _ rfl; have k0 := HFG.out.free 0; have k1 := HFG.out.free 1; have k2 := HFG.out.free 2)); clear hb)
              | (go_at_call 18; refine (sget13 _ sn Ks q' es' c.path _ (HSA.out.keep (bl132 wA)) HPS.out).mono ?_; rw [HFG.out, HHG.out]; rintro e wG ⟨rfl, hb⟩; have HFG := hid' ((fi_new0 wA).keep hb); have g0 := HFG.out.cell 0 _ rfl; have g1 := HFG.out.cell 1 _ rfl; have g2 := HFG.out.cell 2 _ rfl; have k0 := HFG.out.free 0; have k1 := HFG.out.free 1; have k2 := HFG.out.free 2; have HBG := hid' (below_two (below_two HBA.out (bl132 wA)) hb); clear hb))
            all_goals
              go_wp2_with fail
              go_meet
              first
              | exact ⟨_, rfl, rfl, hid' ⟨heap_alloc_last _ _, HBG.out.alloc HBG.out.size _⟩⟩
              | exact ⟨_, rfl, rfl, hid' ⟨fi_set HFG.out, HBG.out.trans (fi_upd (by first | exact Nat.le_refl _ | exact HBA.out.size))⟩⟩
              | trace_state
          case rest =>
            obtain ⟨gb, rfl, rfl, HWgb⟩ := hcut
            have hq2 := HCN.out.1
            have hq3 := HCN.out.2.1
            cases did
            · cases tk
              · have hy := HWgb.out.1
                have g0 := HWgb.out.1.cell 0 _ rfl
                have g2 := HWgb.out.1.cell 2 _ rfl
                have HC7 := hid' (HC5.out.keep HWgb.out.2)
                have HX7 := hid' (HX5.out.keep HWgb.out.2)
                have HB7 := hid' (below_from HB5.out HWgb.out.2 HB5.out.size)
                have x0 := HX7.out.cell 0 _ rfl
                clear hy
                have hq1 : q' = q := (HCN.out.2.2.2.1 rfl).1
                have hd1 : dg = dh := (HCN.out.2.2.2.1 rfl).2
                subst hq1 hd1
                have hqq : (q' == q') = true := beq_self_eq_true _
                have hdd : (dg == dg) = true := beq_self_eq_true _
                go_upto_region 20 with fail
                go_quiet (first | (go_at_call 20; exact Calls.quiet_of_same (cseq13 _ _ _ _ _ _ (HC7.out.keep (bl130 _ _)))))
                go_wp2
                go_roundw
                case rel => exact ⟨i + 1, K', q', es', by go_num, by omega, by omega, by omega, hid' (HC7.out.keep (bl130 _ _)), hid' (bl_dn13 HB7.out _)⟩
                case measure => simp [intOf]; omega
              · have hy := HWgb.out.1
                have g0 := HWgb.out.1.cell 0 _ rfl
                have g2 := HWgb.out.1.cell 2 _ rfl
                have HC7 := hid' (HC5.out.keep HWgb.out.2)
                have HX7 := hid' (HX5.out.keep HWgb.out.2)
                have HB7 := hid' (below_from HB5.out HWgb.out.2 HB5.out.size)
                have x0 := HX7.out.cell 0 _ rfl
                clear hy
                have hq1 : q' = q := (HCN.out.2.2.2.1 rfl).1
                have hd1 : dg = dh := (HCN.out.2.2.2.1 rfl).2
                subst hq1 hd1
                have hqq : (q' == q') = true := beq_self_eq_true _
                have hdd : (dg == dg) = true := beq_self_eq_true _
                go_upto_region 20 with fail
                go_quiet (first | (go_at_call 20; exact Calls.quiet_of_same (cseq13 _ _ _ _ _ _ (HC7.out.keep (bl130 _ _)))))
                go_wp2
                go_roundw
                case rel => exact ⟨i + 1, K', q', es', by go_num, by omega, by omega, by omega, hid' (HC7.out.keep (bl130 _ _)), hid' (bl_dn13 HB7.out _)⟩
                case measure => simp [intOf]; omega
            · cases tk
              · have hy := HWgb.out.1
                have g0 := HWgb.out.1.cell 0 _ rfl
                have g2 := HWgb.out.1.cell 2 _ rfl
                have HC7 := hid' (HC5.out.keep HWgb.out.2)
                have HX7 := hid' (HX5.out.keep HWgb.out.2)
                have HB7 := hid' (below_from HB5.out HWgb.out.2 HB5.out.size)
                have x0 := HX7.out.cell 0 _ rfl
                clear hy
                have hq1 : q' = q + 1 := HCN.out.2.2.1 rfl
                obtain ⟨hd1, hg1, hg2⟩ := HCN.out.2.2.2.2.2 rfl rfl
                subst hd1 hg1 hg2
                have hwr : IntKind.i64.wrap (q + 1) = q' := by rw [hq1]; exact wrap13 _ (by omega) (by omega)
                have hqq : (q' == q') = true := beq_self_eq_true _
                clear x0 g0 g2
                go_upto_region 20 with fail
                have x0 : ∀ z : BW wc, z.W.cell? ⟨xb, 0, none⟩ = some (.bool false) := fun z => (HX7.out.keep z.h).cell 0 _ rfl
                have x1 : ∀ z : BW wc, z.W.cell? ⟨xb, 1, none⟩ = some (.string c.path) := fun z => (HX7.out.keep z.h).cell 1 _ rfl
                have x2 : ∀ z : BW wc, z.W.cell? ⟨xb, 2, none⟩ = some (.string c.body) := fun z => (HX7.out.keep z.h).cell 2 _ rfl
                have x3 : ∀ z : BW wc, z.W.cell? ⟨xb, 3, none⟩ = some (.int .i64 c.time) := fun z => (HX7.out.keep z.h).cell 3 _ rfl
                have x4 : ∀ z : BW wc, z.W.cell? ⟨xb, 4, none⟩ = some (.int .i64 c.long) := fun z => (HX7.out.keep z.h).cell 4 _ rfl
                have g0 : ∀ z : BW wc, z.W.cell? ⟨gb, 0, none⟩ = some (.string yb) := fun z => (HWgb.out.1.keep z.h).cell 0 _ rfl
                have g2 : ∀ z : BW wc, z.W.cell? ⟨gb, 2, none⟩ = some (.int .i64 q') := fun z => (HWgb.out.1.keep z.h).cell 2 _ rfl
                have hyy : (yb.toList == yb.toList) = true := beq_self_eq_true _
                have hne : Nonempty (BW wc) := ⟨⟨wc, Below.refl _ _⟩⟩
                refine wp_region_below (by kernel_rfl) (by kernel_rfl) ?_
                repeat (quiet_step (first | (go_at_call 20; exact Calls.below_same (cseq13 _ _ _ _ _ _ (HC7.out.keep (BW.h _)))) | (go_at_call 15; exact Calls.below_of (HLB.out _))))
                refine wpQuiet_nil ?_
                rintro _ ⟨⟨wq, hBq⟩, rfl⟩
                have HC8 := hid' (HC7.out.keep hBq)
                have HB8 := hid' (below_from HB7.out hBq HB7.out.size)
                clear HC7 HB7 HX7 hBq x0 x1 x2 x3 x4 g0 g2
                go_wp2
                go_roundw
                case rel => exact ⟨i + 1, K', q', es', by go_num, by omega, by omega, by omega, HC8, HB8⟩
                case measure => simp [intOf]; omega
              · have hy := HWgb.out.1
                have g0 := HWgb.out.1.cell 0 _ rfl
                have g2 := HWgb.out.1.cell 2 _ rfl
                have HC7 := hid' (HC5.out.keep HWgb.out.2)
                have HX7 := hid' (HX5.out.keep HWgb.out.2)
                have HB7 := hid' (below_from HB5.out HWgb.out.2 HB5.out.size)
                have x0 := HX7.out.cell 0 _ rfl
                clear hy
                have hq1 : q' = q + 1 := HCN.out.2.2.1 rfl
                have hd1 : dg = false := HCN.out.2.2.2.2.1 rfl rfl
                subst hd1
                have hwr : IntKind.i64.wrap (q + 1) = q' := by rw [hq1]; exact wrap13 _ (by omega) (by omega)
                have hqq : (q' == q') = true := beq_self_eq_true _
                go_upto_region 20 with fail
                go_quiet (first | (go_at_call 20; exact Calls.quiet_of_same (cseq13 _ _ _ _ _ _ (HC7.out.keep (bl130 _ _)))))
                go_wp2
                go_roundw
                case rel => exact ⟨i + 1, K', q', es', by go_num, by omega, by omega, by omega, hid' (HC7.out.keep (bl130 _ _)), hid' (bl_dn13 HB7.out _)⟩
                case measure => simp [intOf]; omega
    · have hlt2 : ¬ (i : Int) < (N : Int) := by omega
      clear hlt
      go_wp2_with fail
      refine (awake13 _).mono ?_
      rintro e w8 ⟨rfl, hb8⟩
      have HB8 := hid' (below_from HB.out hb8 HB.out.size)
      go_wp2
      go_ret
      exact ⟨rfl, HB8.out⟩

end Go.Proofs.YtnggablpkgbpaaaDoor
