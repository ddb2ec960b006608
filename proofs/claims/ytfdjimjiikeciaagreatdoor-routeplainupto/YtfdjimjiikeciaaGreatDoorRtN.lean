/-
  The document's Find: by its contract.
-/
import Derived.Test.YtfdjimjiikeciaaGreatDoorRtL
import Derived.Test.YtfdjimjiikeciaaGreatDoorRtM
namespace Go.Proofs.YtfdjimjiikeciaaGreatDoor
open Go.RowKit

theorem sizeMt18 : (Tryz.prog.info? 35).map (·.size) = some 4 := by kernel_rfl
theorem zeroMt18 : (Tryz.prog.info? 35).map (fun i => i.zero) = some (some (.agg #[.int .i64 0, .int .i64 0, .slice none 0 0, .string ⟨#[]⟩])) := by kernel_rfl
theorem ldMt18 {w : World} {b : Nat} {x0 x1 x2 x3 : Value} (h : Ar w b 35 #[x0, x1, x2, x3]) : (loadVar 35 ⟨b, 0, none⟩).run Tryz.prog w = .ok (.agg #[x0, x1, x2, x3]) w :=
  run_loadVar_row (P := Tryz.prog) w b 35 35 _ (0, 0) _ h Tryz.underlying35 rfl sizeMt18
theorem own_ge18 {w : World} {B : Nat} {e : TypeId} {s : Nat} {v : Value} {n : Nat} {xs : List Value} (h : w.ownsRow B e s v n xs) (j : Nat) (hj : v.ownBlock = some j) : B ≤ j := by
  rcases h.2 with ⟨h1, _⟩ | ⟨g, cap, cur, h1, h2, _⟩
  · rw [h1] at hj; simp [Value.ownBlock] at hj
  · rw [h1] at hj; simp [Value.ownBlock] at hj; omega
theorem patR18.cap {w w' : World} {e : Ending} {r : Rt.Ro} (h : patR18 w (Rt.pattern r.p) e w') : ∃ m ro rc b, e = .returned (.tuple #[.slice ro m rc, .bool b]) ∧ (Rt.pat r).length = m ∧ PR18 w' ro (Rt.pat r) ∧ m ≤ rc := by
  rcases h with ⟨h1, rfl⟩ | ⟨ps, m, ro, rc, h1, rfl, h2, h3⟩
  · refine ⟨0, none, 0, false, rfl, ?_, ?_, Nat.le_refl _⟩
    · unfold Rt.pat; rw [h1]; rfl
    · unfold Rt.pat; rw [h1]; exact fun i p hp => by simp at hp
  · have hp : Rt.pat r = ps := by unfold Rt.pat; rw [h1]; rfl
    refine ⟨m, ro, rc, true, rfl, by rw [hp]; exact h2, by rw [hp]; exact PR18.own h3, ?_⟩
    rcases h3.2 with ⟨e1, e2⟩ | ⟨g, cap, cur, e1, _, _, e3, _⟩
    · injection e1 with _ e5 e6; omega
    · injection e1 with _ e5 e6; subst e6; exact e3
/-- What a match is, as the document's Find answers it: its parameters in a row of its own. -/
def mtR18 (w : World) (q : Rt.Mt) (e : Ending) (w' : World) : Prop := ∃ m ro rc, e = .returned (.agg #[.int .i64 q.st, .int .i64 q.ro, .slice ro m rc, .string ⟨q.al.toArray⟩]) ∧ q.ps.length = m ∧ w'.ownsRow w.heap.size 42 2 (.slice ro m rc) m (qC18 q.ps)
namespace Rt
theorem best_step {rs : List Ro} {i : Nat} {r : Ro} (h : rs[i]? = some r) (l : List T8) : best (rs.take (i + 1)) l = better l (best (rs.take i) l) r := by
  unfold best
  rw [List.take_add_one, h, List.foldl_append]
  rfl
theorem best_pat {rs : List Ro} {l : List T8} {q : List Prt} (h : best rs l = some q) : ∃ r ∈ rs, pat r = q := (best_some h).1
theorem sel_def (rs : List Ro) (q : List Prt) (m : T8) : sel rs q m = (byM rs q m).or ((if m == sHEAD then byM rs q sGET else none).or (byM rs q [])) := rfl
theorem find_def (rs : List Ro) (m path : T8) : find rs m path = match best rs (Pt.parts path) with
  | none => ⟨404, -1, [], []⟩
  | some q => match sel rs q m with
    | some k => ⟨200, k, caught ((rs[k]?.map pat).getD []) (Pt.parts path) (ends path), []⟩
    | none => ⟨if m == sOPT then 200 else 405, -1, [], allow rs q⟩ := rfl
end Rt

set_option maxHeartbeats 16000000 in
set_option maxRecDepth 20000 in
theorem rfind18 (ao : Option Addr) (n ac : Nat) (rs : List Rt.Ro) (s : ByteArray) (ml : List UInt8) (hml : s.data.toList = ml) (t : ByteArray) (pl : List UInt8) (hpl : t.data.toList = pl) (hn : rs.length = n) (hnb : n ≤ 65536) (w : World) (h1 : RR18 w ao rs) (ht : t.size ≤ 4194304) :
    Calls Tryz.prog 12 #[.slice ao n ac, .string s, .string t] w fun e w' => mtR18 w (Rt.find rs ml pl) e w' ∧ Below w.heap.size w w' := by
  have H1 := hid' h1
  have HN := hid' hn
  have HPT := hid' (fun W => rparts17 t pl hpl W ht)
  have HLB : Hid ((Pt.parts pl).length ≤ 4194305) := hid' (by
    have := Rt.parts_sum pl
    rw [← hpl, ← Lib.size_eq] at this
    rw [← hpl]
    omega)
  have HSM := hid' hml
  have HTP := hid' hpl
  have hsh : (s.toList == [72, 69, 65, 68]) = (ml == Rt.sHEAD) := by rw [Lib.toList_data, hml]; rfl
  have hso : (s.toList == [79, 80, 84, 73, 79, 78, 83]) = (ml == Rt.sOPT) := by rw [Lib.toList_data, hml]; rfl
  have HFD := hid' (Rt.find_def rs ml pl)
  clear h1 hn hml hpl
  go_enter Tryz.func12, Tryz.ntmps12
  go_wp2_with (refine wpl_alloc 35 rfl rfl _ zeroMt18 ?_)
  intro rb w1 hrb ha1 hl1
  have HA1 := hid' ha1
  have HB1 := hid' hl1
  have HRB := hid' hrb
  clear ha1 hl1 hrb
  go_wp2_with fail
  refine (HPT.out _).mono ?_
  rintro e w2 ⟨⟨lm, lo, lc, rfl, hlm, hown⟩, hb2⟩
  have HLM := hid' hlm
  have HSR := hid' (SR17.own hown)
  have HLC : Hid (lm ≤ lc) := hid' (by
    rcases hown.2 with ⟨h1, h2⟩ | ⟨g, cap, cur, h1, _, _, h3, _⟩
    · injection h1 with _ e2 e3; omega
    · injection h1 with _ e2 e3; subst e3; exact h3)
  have HB2 := hid' (below_two HB1.out hb2)
  have HA2 := hid' (HA1.out.keep hb2)
  have hlmb : lm ≤ 4194305 := by rw [← hlm]; exact HLB.out
  clear hlm hown hb2
  go_wp2
  go_loopw [8, 9, 10] (fun s8 s9 s10 wr => ∃ (i bm bc : Nat) (bo : Option Addr) (f : Bool) (bq : List Rt.Prt), s10 = .int .i64 (i : Int) ∧ s9 = .bool f ∧ s8 = .slice bo bm bc ∧ i ≤ n ∧ bm ≤ 4194305 ∧ Hid (bq.length = bm) ∧ Hid (Rt.best (rs.take i) (Pt.parts pl) = if f then some bq else none) ∧ Hid (PR18 wr bo bq) ∧ Hid (Below w2.heap.size w2 wr)) (fun _ _ s10 _ => n - (intOf s10).toNat)
  case atStart => exact ⟨0, 0, 0, none, false, [], rfl, rfl, rfl, Nat.zero_le _, Nat.zero_le _, hid' rfl, hid' rfl, hid' (fun i p hp => by simp at hp), hid' (Below.refl _ _)⟩
  case round =>
    obtain ⟨i, bm, bc, bo, f, bq, rfl, rfl, rfl, hi, hbm, HBL, HBE, HPQ, HB⟩ := hrel
    have HBw := hid' (below_two HB2.out HB.out)
    by_cases hlt : i < n
    · have hlt2 : (i : Int) < (n : Int) := by omega
      obtain ⟨r, hr⟩ : ∃ r, rs[i]? = some r := ⟨_, List.getElem?_eq_getElem (by rw [HN.out]; exact hlt)⟩
      obtain ⟨a, e1, l1, x0, x1, _, hpl, _⟩ := (H1.out.below HBw.out) i r hr
      subst e1
      obtain ⟨y, hy⟩ : ∃ x : ByteArray, (⟨r.p.toArray⟩ : ByteArray) = x := ⟨_, rfl⟩
      have HRP : Hid (∀ W, Calls Tryz.prog 14 #[.string y] W fun e w' => patR18 W (Rt.pattern r.p) e w' ∧ Below W.heap.size W w') := hid' (fun W => rpat18 y r.p (by rw [← hy]) W (by rw [← hy]; simpa [ByteArray.size] using hpl))
      have HPL : Hid ((Rt.pat r).length ≤ 4194305) := hid' (by have := Rt.pat_len18 r; omega)
      have HBS := hid' (Rt.best_step hr (Pt.parts pl))
      rw [HBE.out] at HBS
      rw [hy] at x1
      clear hr hy l1 hpl x0
      go_wp2_with (go_at_call 14; refine (HRP.out _).mono ?_; rintro e w3 ⟨hp3, hb3⟩; obtain ⟨m3, ro3, rc3, b3, rfl, hm3, hpr3, hc3⟩ := hp3.cap; refine Hid.out ?_)
      refine hid' ?_
      have HB3 := hid' (below_two HB.out hb3)
      have HM3 := hid' hm3
      have HP3 := hid' hpr3
      have HQ3 := hid' (HPQ.out.below hb3)
      have hm3b : m3 ≤ 4194305 := by rw [← hm3]; exact HPL.out
      have HFI : Hid (∀ W, Below w3.heap.size w3 W → Calls Tryz.prog 29 #[.slice ro3 m3 rc3, .slice lo lm lc] W fun e w' => e = .returned (.bool (Rt.fits (Rt.pat r) (Pt.parts pl))) ∧ Below W.heap.size W w') := hid' (fun W hW =>
        rfits18 ro3 lo m3 lm rc3 lc (Rt.pat r) (Pt.parts pl) HM3.out HLM.out hm3b hlmb hc3 HLC.out Rt.pat_wf W (HP3.out.below hW) (HSR.out.below (below_two HB3.out hW)))
      have HFN : Hid (∀ W, Below w3.heap.size w3 W → Calls Tryz.prog 30 #[.slice ro3 m3 rc3, .slice bo bm bc] W fun e w' => e = .returned (.bool (Rt.finer (Rt.pat r) bq)) ∧ Below W.heap.size W w') := hid' (fun W hW =>
        rfiner18 ro3 bo m3 bm rc3 bc (Rt.pat r) bq HM3.out HBL.out hm3b hbm W (HP3.out.below hW) (HQ3.out.below hW))
      clear hp3 hb3 hm3 hpr3 hc3 x1
      cases hft : Rt.fits (Rt.pat r) (Pt.parts pl)
      · have HNX : Hid (Rt.best (rs.take (i + 1)) (Pt.parts pl) = if f then some bq else none) := hid' (by rw [HBS.out]; exact Rt.better_no (by rw [hft]; rfl))
        rw [hft] at HFI
        clear hft
        go_wp2_with (go_at_call 29; refine (HFI.out _ (Below.refl _ _)).mono ?_; rintro e w4 ⟨rfl, hb4⟩; refine Hid.out ?_)
        refine hid' ?_
        have HB4 := hid' (below_two HB3.out hb4)
        have HQ4 := hid' (HQ3.out.below hb4)
        have HP4 := hid' (HP3.out.below hb4)
        have hb4' := hb4
        clear hb4
        clear hb4'
        go_wp2
        go_roundw
        case rel => exact ⟨i + 1, bm, bc, bo, f, bq, by go_num, rfl, rfl, by omega, hbm, HBL, HNX, HQ4, HB4⟩
        case measure => simp [intOf]; omega
      · rw [hft] at HFI
        cases f
        · have HNX : Hid (Rt.best (rs.take (i + 1)) (Pt.parts pl) = if true then some (Rt.pat r) else none) := hid' (by rw [HBS.out]; exact Rt.better_yes (by rw [hft]; rfl))
          clear hft
          go_wp2_with (go_at_call 29; refine (HFI.out _ (Below.refl _ _)).mono ?_; rintro e w4 ⟨rfl, hb4⟩; refine Hid.out ?_)
          refine hid' ?_
          have HB4 := hid' (below_two HB3.out hb4)
          have HQ4 := hid' (HQ3.out.below hb4)
          have HP4 := hid' (HP3.out.below hb4)
          have hb4' := hb4
          clear hb4
          clear hb4'
          go_wp2
          go_roundw
          case rel => exact ⟨i + 1, m3, rc3, ro3, true, Rt.pat r, by go_num, rfl, rfl, by omega, hm3b, HM3, HNX, HP4, HB4⟩
          case measure => simp [intOf]; omega
        · have HBT : Hid (Rt.best (rs.take (i + 1)) (Pt.parts pl) = Rt.better (Pt.parts pl) (some bq) r) := hid' HBS.out
          cases hfn : Rt.finer (Rt.pat r) bq
          · have HNX : Hid (Rt.best (rs.take (i + 1)) (Pt.parts pl) = if true then some bq else none) := hid' (by rw [HBT.out]; exact Rt.better_no (by rw [hft]; exact hfn))
            rw [hfn] at HFN
            clear hft hfn
            go_wp2_with (go_at_call 29; refine (HFI.out _ (Below.refl _ _)).mono ?_; rintro e w4 ⟨rfl, hb4⟩; refine Hid.out ?_)
            refine hid' ?_
            have HB4 := hid' (below_two HB3.out hb4)
            have HQ4 := hid' (HQ3.out.below hb4)
            have HP4 := hid' (HP3.out.below hb4)
            have hb4' := hb4
            clear hb4
            go_wp2_with (go_at_call 30; refine (HFN.out _ hb4').mono ?_; rintro e w5 ⟨rfl, hb5⟩; refine Hid.out ?_)
            refine hid' ?_
            have HB5 := hid' (below_two HB4.out hb5)
            have HQ5 := hid' (HQ4.out.below hb5)
            clear hb5 hb4'
            go_wp2
            go_roundw
            case rel => exact ⟨i + 1, bm, bc, bo, true, bq, by go_num, rfl, rfl, by omega, hbm, HBL, HNX, HQ5, HB5⟩
            case measure => simp [intOf]; omega
          · have HNX : Hid (Rt.best (rs.take (i + 1)) (Pt.parts pl) = if true then some (Rt.pat r) else none) := hid' (by rw [HBT.out]; exact Rt.better_yes (by rw [hft]; exact hfn))
            rw [hfn] at HFN
            clear hft hfn
            go_wp2_with (go_at_call 29; refine (HFI.out _ (Below.refl _ _)).mono ?_; rintro e w4 ⟨rfl, hb4⟩; refine Hid.out ?_)
            refine hid' ?_
            have HB4 := hid' (below_two HB3.out hb4)
            have HQ4 := hid' (HQ3.out.below hb4)
            have HP4 := hid' (HP3.out.below hb4)
            have hb4' := hb4
            clear hb4
            go_wp2_with (go_at_call 30; refine (HFN.out _ hb4').mono ?_; rintro e w5 ⟨rfl, hb5⟩; refine Hid.out ?_)
            refine hid' ?_
            have HB5 := hid' (below_two HB4.out hb5)
            have HP5 := hid' (HP4.out.below hb5)
            clear hb5 hb4'
            go_wp2
            go_roundw
            case rel => exact ⟨i + 1, m3, rc3, ro3, true, Rt.pat r, by go_num, rfl, rfl, by omega, hm3b, HM3, HNX, HP5, HB5⟩
            case measure => simp [intOf]; omega
    · have hlt2 : ¬ (i : Int) < (n : Int) := by omega
      have HBA : Hid (Rt.best rs (Pt.parts pl) = if f then some bq else none) := hid' (by rw [← HBE.out, List.take_of_length_le (by rw [HN.out]; omega)])
      have HAr := hid' (HA2.out.keep HB.out)
      clear hlt
      cases f
      · have HFE : Hid (Rt.find rs ml pl = ⟨404, -1, [], []⟩) := hid' (by rw [HFD.out, HBA.out]; rfl)
        go_wp2_with (refine wpl_store 35 _ _ rfl rfl rb #[.int .i64 404, .int .i64 (-1), .slice none 0 0, .string ⟨#[]⟩] (by kernel_rfl) (by kernel_rfl) _ _ HAr.out sizeMt18 rfl (by simp [Value.oneCell']) ?_)
        intro wf hwf huf
        go_wp2
        have hld := ldMt18 hwf
        refine bodyPost_ret (v := .agg #[.int .i64 404, .int .i64 (-1), .slice none 0 0, .string ⟨#[]⟩]) (by simp [results, Tryz.results12, asAddr, hld]) rfl ⟨⟨0, none, 0, ?_, ?_, ?_⟩, ?_⟩
        · rw [HFE.out]
        · rw [HFE.out]; rfl
        · rw [HFE.out]; exact World.ownsRow_nil _ _ _ _
        · exact HBw.out.trans (huf.below HRB.out)
      · have HBQ : Hid (Rt.best rs (Pt.parts pl) = some bq) := hid' HBA.out
        have HBY : Hid (∀ (z : ByteArray) (zl : List UInt8), z.data.toList = zl → ∀ W, Below wr.heap.size wr W → Calls Tryz.prog 31 #[.slice ao n ac, .slice bo bm bc, .string z] W fun e w' => e = .returned (.int .i64 (Rt.ix (Rt.byM rs bq zl))) ∧ Below W.heap.size W w') := hid' (fun z zl hz W hW =>
          rby18 ao bo n bm ac bc rs bq z zl hz HN.out HBL.out (by omega) hbm W (H1.out.below (below_two HBw.out hW)) (HPQ.out.below hW))
        have HSD := hid' (Rt.sel_def rs bq ml)
        cases k1 : Rt.byM rs bq ml with
        | some kk =>
          have HSE : Hid (Rt.sel rs bq ml = some kk) := hid' (by rw [HSD.out, k1]; rfl)
          have HIX : Hid (Rt.ix (Rt.byM rs bq ml) = (kk : Int)) := hid' (by rw [k1]; rfl)
          have hkz : ¬ (kk : Int) < 0 := by omega
          clear k1
          go_wp2_with (go_at_call 31; refine (HBY.out s ml HSM.out _ (Below.refl _ _)).mono ?_; rintro e wk1 ⟨rfl, hbk⟩; rw [HIX.out]; refine Hid.out ?_)
          refine hid' ?_
          have HK1 := hid' hbk
          have HAK1 := hid' (HAr.out.keep hbk)
          clear hbk
          obtain ⟨r, hr, hsp⟩ := Rt.sel_some HSE.out
          have HFS : Hid (Rt.fits (Rt.pat r) (Pt.parts pl) = true) := hid' (by rw [Rt.shape_fits hsp]; exact (Rt.best_some HBQ.out).2.1)
          have HFE : Hid (Rt.find rs ml pl = ⟨200, (kk : Int), Rt.caught (Rt.pat r) (Pt.parts pl) (Rt.ends pl), []⟩) := hid' (by rw [HFD.out, HBQ.out]; simp only []; rw [HSE.out]; simp only []; rw [hr]; rfl)
          have hkn : kk < n := by rw [← HN.out]; exact (List.getElem?_eq_some_iff.1 hr).1
          have hknI : (kk : Int) < (n : Int) := by omega
          have hk0I : (0 : Int) ≤ (kk : Int) := by omega
          have hk1I : ¬ (kk : Int) < 0 := by omega
          obtain ⟨a, e1, l1, x0, x1, _, hpl, _⟩ := (H1.out.below (below_two HBw.out HK1.out)) kk r hr
          subst e1
          obtain ⟨y, hy⟩ : ∃ x : ByteArray, (⟨r.p.toArray⟩ : ByteArray) = x := ⟨_, rfl⟩
          have HRP : Hid (∀ W, Calls Tryz.prog 14 #[.string y] W fun e w' => patR18 W (Rt.pattern r.p) e w' ∧ Below W.heap.size W w') := hid' (fun W => rpat18 y r.p (by rw [← hy]) W (by rw [← hy]; simpa [ByteArray.size] using hpl))
          have HPL : Hid ((Rt.pat r).length ≤ 4194305) := hid' (by have := Rt.pat_len18 r; omega)
          rw [hy] at x1
          clear hr hy l1 hpl x0 hsp
          go_wp2_with (go_at_call 14; refine (HRP.out _).mono ?_; rintro e w3 ⟨hp3, hb3⟩; obtain ⟨m3, ro3, rc3, b3, rfl, hm3, hpr3, -⟩ := hp3.cap; refine Hid.out ?_)
          refine hid' ?_
          have HB3 := hid' (below_two HK1.out hb3)
          have HA3 := hid' (HAK1.out.keep hb3)
          have HCA : Hid (Calls Tryz.prog 32 #[.slice ro3 m3 rc3, .string t] w3 fun e w' => (∃ m ro rc, e = .returned (.slice ro m rc) ∧ (Rt.caught (Rt.pat r) (Pt.parts pl) (Rt.ends pl)).length = m ∧ w'.ownsRow w3.heap.size 42 2 (.slice ro m rc) m (qC18 (Rt.caught (Rt.pat r) (Pt.parts pl) (Rt.ends pl)))) ∧ Below w3.heap.size w3 w') := hid' (rcaught18 ro3 m3 rc3 (Rt.pat r) t pl HTP.out hm3 (by rw [← hm3]; exact HPL.out) HFS.out w3 hpr3 ht)
          clear hp3 hb3 hm3 hpr3 x1
          go_wp2_with (go_at_call 32; refine HCA.out.mono ?_; rintro e w4 ⟨⟨pm, po, pc, rfl, hpm, hpo⟩, hb4⟩; refine Hid.out ?_)
          refine hid' ?_
          have HB4 := hid' (below_two HB3.out hb4)
          have HA4 := hid' (HA3.out.keep hb4)
          have HPM := hid' hpm
          have HPO := hid' hpo
          have HW3 : Hid (w.heap.size ≤ w3.heap.size) := hid' (below_two HBw.out HB3.out).size
          clear hpm hpo hb4
          go_wp2_with (refine wpl_store 35 _ _ rfl rfl rb #[.int .i64 200, .int .i64 (kk : Int), .slice po pm pc, .string ⟨#[]⟩] (by kernel_rfl) (by kernel_rfl) _ _ HA4.out sizeMt18 rfl (by simp [Value.oneCell']) ?_)
          intro wf hwf huf
          go_wp2
          have hld := ldMt18 hwf
          refine bodyPost_ret (v := .agg #[.int .i64 200, .int .i64 (kk : Int), .slice po pm pc, .string ⟨#[]⟩]) (by simp [results, Tryz.results12, asAddr, hld]) rfl ⟨⟨pm, po, pc, ?_, ?_, ?_⟩, ?_⟩
          · rw [HFE.out]
          · rw [HFE.out]; exact HPM.out
          · rw [HFE.out]
            refine own_base17 (own_same HPO.out (fun j hj => huf.block j (fun e => ?_))) HW3.out
            subst e
            have h5 := own_ge18 HPO.out j hj
            have h6 := HA3.out.lt
            omega
          · exact (below_two HBw.out HB4.out).trans (huf.below HRB.out)
        | none =>
          have HIX : Hid (Rt.ix (Rt.byM rs bq ml) = -1) := hid' (by rw [k1]; rfl)
          cases hhd : (ml == Rt.sHEAD)
          · rw [hhd] at hsh
            cases k2 : Rt.byM rs bq [] with
            | some kk =>
              have HSE : Hid (Rt.sel rs bq ml = some kk) := hid' (by rw [HSD.out, k1, hhd, k2]; rfl)
              have HIY : Hid (Rt.ix (Rt.byM rs bq []) = (kk : Int)) := hid' (by rw [k2]; rfl)
              have hkz : ¬ (kk : Int) < 0 := by omega
              clear k1 k2 hhd
              go_wp2_with (go_at_call 31; refine (HBY.out s ml HSM.out _ (Below.refl _ _)).mono ?_; rintro e wk1 ⟨rfl, hbk⟩; rw [HIX.out]; refine Hid.out ?_)
              refine hid' ?_
              have HK1 := hid' hbk
              have HAK1 := hid' (HAr.out.keep hbk)
              clear hbk
              go_wp2_with (go_at_call 31; refine (HBY.out ⟨#[]⟩ [] rfl _ HK1.out).mono ?_; rintro e wk2 ⟨rfl, hbk⟩; rw [HIY.out]; refine Hid.out ?_)
              refine hid' ?_
              have HK2 := hid' (below_two HK1.out hbk)
              have HAK2 := hid' (HAK1.out.keep hbk)
              clear hbk
              obtain ⟨r, hr, hsp⟩ := Rt.sel_some HSE.out
              have HFS : Hid (Rt.fits (Rt.pat r) (Pt.parts pl) = true) := hid' (by rw [Rt.shape_fits hsp]; exact (Rt.best_some HBQ.out).2.1)
              have HFE : Hid (Rt.find rs ml pl = ⟨200, (kk : Int), Rt.caught (Rt.pat r) (Pt.parts pl) (Rt.ends pl), []⟩) := hid' (by rw [HFD.out, HBQ.out]; simp only []; rw [HSE.out]; simp only []; rw [hr]; rfl)
              have hkn : kk < n := by rw [← HN.out]; exact (List.getElem?_eq_some_iff.1 hr).1
              have hknI : (kk : Int) < (n : Int) := by omega
              have hk0I : (0 : Int) ≤ (kk : Int) := by omega
              have hk1I : ¬ (kk : Int) < 0 := by omega
              obtain ⟨a, e1, l1, x0, x1, _, hpl, _⟩ := (H1.out.below (below_two HBw.out HK2.out)) kk r hr
              subst e1
              obtain ⟨y, hy⟩ : ∃ x : ByteArray, (⟨r.p.toArray⟩ : ByteArray) = x := ⟨_, rfl⟩
              have HRP : Hid (∀ W, Calls Tryz.prog 14 #[.string y] W fun e w' => patR18 W (Rt.pattern r.p) e w' ∧ Below W.heap.size W w') := hid' (fun W => rpat18 y r.p (by rw [← hy]) W (by rw [← hy]; simpa [ByteArray.size] using hpl))
              have HPL : Hid ((Rt.pat r).length ≤ 4194305) := hid' (by have := Rt.pat_len18 r; omega)
              rw [hy] at x1
              clear hr hy l1 hpl x0 hsp
              go_wp2_with (go_at_call 14; refine (HRP.out _).mono ?_; rintro e w3 ⟨hp3, hb3⟩; obtain ⟨m3, ro3, rc3, b3, rfl, hm3, hpr3, -⟩ := hp3.cap; refine Hid.out ?_)
              refine hid' ?_
              have HB3 := hid' (below_two HK2.out hb3)
              have HA3 := hid' (HAK2.out.keep hb3)
              have HCA : Hid (Calls Tryz.prog 32 #[.slice ro3 m3 rc3, .string t] w3 fun e w' => (∃ m ro rc, e = .returned (.slice ro m rc) ∧ (Rt.caught (Rt.pat r) (Pt.parts pl) (Rt.ends pl)).length = m ∧ w'.ownsRow w3.heap.size 42 2 (.slice ro m rc) m (qC18 (Rt.caught (Rt.pat r) (Pt.parts pl) (Rt.ends pl)))) ∧ Below w3.heap.size w3 w') := hid' (rcaught18 ro3 m3 rc3 (Rt.pat r) t pl HTP.out hm3 (by rw [← hm3]; exact HPL.out) HFS.out w3 hpr3 ht)
              clear hp3 hb3 hm3 hpr3 x1
              go_wp2_with (go_at_call 32; refine HCA.out.mono ?_; rintro e w4 ⟨⟨pm, po, pc, rfl, hpm, hpo⟩, hb4⟩; refine Hid.out ?_)
              refine hid' ?_
              have HB4 := hid' (below_two HB3.out hb4)
              have HA4 := hid' (HA3.out.keep hb4)
              have HPM := hid' hpm
              have HPO := hid' hpo
              have HW3 : Hid (w.heap.size ≤ w3.heap.size) := hid' (below_two HBw.out HB3.out).size
              clear hpm hpo hb4
              go_wp2_with (refine wpl_store 35 _ _ rfl rfl rb #[.int .i64 200, .int .i64 (kk : Int), .slice po pm pc, .string ⟨#[]⟩] (by kernel_rfl) (by kernel_rfl) _ _ HA4.out sizeMt18 rfl (by simp [Value.oneCell']) ?_)
              intro wf hwf huf
              go_wp2
              have hld := ldMt18 hwf
              refine bodyPost_ret (v := .agg #[.int .i64 200, .int .i64 (kk : Int), .slice po pm pc, .string ⟨#[]⟩]) (by simp [results, Tryz.results12, asAddr, hld]) rfl ⟨⟨pm, po, pc, ?_, ?_, ?_⟩, ?_⟩
              · rw [HFE.out]
              · rw [HFE.out]; exact HPM.out
              · rw [HFE.out]
                refine own_base17 (own_same HPO.out (fun j hj => huf.block j (fun e => ?_))) HW3.out
                subst e
                have h5 := own_ge18 HPO.out j hj
                have h6 := HA3.out.lt
                omega
              · exact (below_two HBw.out HB4.out).trans (huf.below HRB.out)
            | none =>
              have HSE : Hid (Rt.sel rs bq ml = none) := hid' (by rw [HSD.out, k1, hhd, k2]; rfl)
              have HIY : Hid (Rt.ix (Rt.byM rs bq []) = -1) := hid' (by rw [k2]; rfl)
              clear k1 k2 hhd
              cases hop : (ml == Rt.sOPT)
              · rw [hop] at hso
                have HOP := hid' hop
                clear hop
                go_wp2_with (go_at_call 31; refine (HBY.out s ml HSM.out _ (Below.refl _ _)).mono ?_; rintro e wk1 ⟨rfl, hbk⟩; rw [HIX.out]; refine Hid.out ?_)
                refine hid' ?_
                have HK1 := hid' hbk
                have HAK1 := hid' (HAr.out.keep hbk)
                clear hbk
                go_wp2_with (go_at_call 31; refine (HBY.out ⟨#[]⟩ [] rfl _ HK1.out).mono ?_; rintro e wk2 ⟨rfl, hbk⟩; rw [HIY.out]; refine Hid.out ?_)
                refine hid' ?_
                have HK2 := hid' (below_two HK1.out hbk)
                have HAK2 := hid' (HAK1.out.keep hbk)
                clear hbk
                have HFE : Hid (Rt.find rs ml pl = ⟨405, -1, [], Rt.allow rs bq⟩) := hid' (by rw [HFD.out, HBQ.out]; simp only []; rw [HSE.out]; simp only [HOP.out]; rfl)
                have HAL := hid' (rallow18 ao bo n bm ac bc rs bq HN.out HBL.out hnb hbm _ (H1.out.below (below_two HBw.out HK2.out)) (HPQ.out.below HK2.out))
                go_wp2_with (go_at_call 33; refine HAL.out.mono ?_; rintro e w4 ⟨rfl, hb4⟩; refine Hid.out ?_)
                refine hid' ?_
                have HB4 := hid' (below_two HK2.out hb4)
                have HA4 := hid' (HAK2.out.keep hb4)
                clear hb4
                go_wp2_with (refine wpl_store 35 _ _ rfl rfl rb #[.int .i64 405, .int .i64 (-1), .slice none 0 0, .string ⟨(Rt.allow rs bq).toArray⟩] (by kernel_rfl) (by kernel_rfl) _ _ HA4.out sizeMt18 rfl (by simp [Value.oneCell']) ?_)
                intro wf hwf huf
                go_wp2
                have hld := ldMt18 hwf
                refine bodyPost_ret (v := .agg #[.int .i64 405, .int .i64 (-1), .slice none 0 0, .string ⟨(Rt.allow rs bq).toArray⟩]) (by simp [results, Tryz.results12, asAddr, hld]) rfl ⟨⟨0, none, 0, ?_, ?_, ?_⟩, ?_⟩
                · rw [HFE.out]
                · rw [HFE.out]; rfl
                · rw [HFE.out]; exact World.ownsRow_nil _ _ _ _
                · exact (below_two HBw.out HB4.out).trans (huf.below HRB.out)
              · rw [hop] at hso
                have HOP := hid' hop
                clear hop
                go_wp2_with (go_at_call 31; refine (HBY.out s ml HSM.out _ (Below.refl _ _)).mono ?_; rintro e wk1 ⟨rfl, hbk⟩; rw [HIX.out]; refine Hid.out ?_)
                refine hid' ?_
                have HK1 := hid' hbk
                have HAK1 := hid' (HAr.out.keep hbk)
                clear hbk
                go_wp2_with (go_at_call 31; refine (HBY.out ⟨#[]⟩ [] rfl _ HK1.out).mono ?_; rintro e wk2 ⟨rfl, hbk⟩; rw [HIY.out]; refine Hid.out ?_)
                refine hid' ?_
                have HK2 := hid' (below_two HK1.out hbk)
                have HAK2 := hid' (HAK1.out.keep hbk)
                clear hbk
                have HFE : Hid (Rt.find rs ml pl = ⟨200, -1, [], Rt.allow rs bq⟩) := hid' (by rw [HFD.out, HBQ.out]; simp only []; rw [HSE.out]; simp only [HOP.out]; rfl)
                have HAL := hid' (rallow18 ao bo n bm ac bc rs bq HN.out HBL.out hnb hbm _ (H1.out.below (below_two HBw.out HK2.out)) (HPQ.out.below HK2.out))
                go_wp2_with (go_at_call 33; refine HAL.out.mono ?_; rintro e w4 ⟨rfl, hb4⟩; refine Hid.out ?_)
                refine hid' ?_
                have HB4 := hid' (below_two HK2.out hb4)
                have HA4 := hid' (HAK2.out.keep hb4)
                clear hb4
                go_wp2_with (refine wpl_store 35 _ _ rfl rfl rb #[.int .i64 200, .int .i64 (-1), .slice none 0 0, .string ⟨(Rt.allow rs bq).toArray⟩] (by kernel_rfl) (by kernel_rfl) _ _ HA4.out sizeMt18 rfl (by simp [Value.oneCell']) ?_)
                intro wf hwf huf
                go_wp2
                have hld := ldMt18 hwf
                refine bodyPost_ret (v := .agg #[.int .i64 200, .int .i64 (-1), .slice none 0 0, .string ⟨(Rt.allow rs bq).toArray⟩]) (by simp [results, Tryz.results12, asAddr, hld]) rfl ⟨⟨0, none, 0, ?_, ?_, ?_⟩, ?_⟩
                · rw [HFE.out]
                · rw [HFE.out]; rfl
                · rw [HFE.out]; exact World.ownsRow_nil _ _ _ _
                · exact (below_two HBw.out HB4.out).trans (huf.below HRB.out)
          · rw [hhd] at hsh
            have HOP : Hid ((ml == Rt.sOPT) = false) := hid' (by rw [eq_of_beq hhd]; rfl)
            have hso2 := hso.trans HOP.out
            clear hso
            cases k3 : Rt.byM rs bq Rt.sGET with
            | some kk =>
              have HSE : Hid (Rt.sel rs bq ml = some kk) := hid' (by rw [HSD.out, k1, hhd, k3]; rfl)
              have HIG : Hid (Rt.ix (Rt.byM rs bq Rt.sGET) = (kk : Int)) := hid' (by rw [k3]; rfl)
              have hkz : ¬ (kk : Int) < 0 := by omega
              clear k1 k3 hhd
              go_wp2_with (go_at_call 31; refine (HBY.out s ml HSM.out _ (Below.refl _ _)).mono ?_; rintro e wk1 ⟨rfl, hbk⟩; rw [HIX.out]; refine Hid.out ?_)
              refine hid' ?_
              have HK1 := hid' hbk
              have HAK1 := hid' (HAr.out.keep hbk)
              clear hbk
              go_wp2_with (go_at_call 31; refine (HBY.out ⟨#[71, 69, 84]⟩ Rt.sGET rfl _ HK1.out).mono ?_; rintro e wk2 ⟨rfl, hbk⟩; rw [HIG.out]; refine Hid.out ?_)
              refine hid' ?_
              have HK2 := hid' (below_two HK1.out hbk)
              have HAK2 := hid' (HAK1.out.keep hbk)
              clear hbk
              obtain ⟨r, hr, hsp⟩ := Rt.sel_some HSE.out
              have HFS : Hid (Rt.fits (Rt.pat r) (Pt.parts pl) = true) := hid' (by rw [Rt.shape_fits hsp]; exact (Rt.best_some HBQ.out).2.1)
              have HFE : Hid (Rt.find rs ml pl = ⟨200, (kk : Int), Rt.caught (Rt.pat r) (Pt.parts pl) (Rt.ends pl), []⟩) := hid' (by rw [HFD.out, HBQ.out]; simp only []; rw [HSE.out]; simp only []; rw [hr]; rfl)
              have hkn : kk < n := by rw [← HN.out]; exact (List.getElem?_eq_some_iff.1 hr).1
              have hknI : (kk : Int) < (n : Int) := by omega
              have hk0I : (0 : Int) ≤ (kk : Int) := by omega
              have hk1I : ¬ (kk : Int) < 0 := by omega
              obtain ⟨a, e1, l1, x0, x1, _, hpl, _⟩ := (H1.out.below (below_two HBw.out HK2.out)) kk r hr
              subst e1
              obtain ⟨y, hy⟩ : ∃ x : ByteArray, (⟨r.p.toArray⟩ : ByteArray) = x := ⟨_, rfl⟩
              have HRP : Hid (∀ W, Calls Tryz.prog 14 #[.string y] W fun e w' => patR18 W (Rt.pattern r.p) e w' ∧ Below W.heap.size W w') := hid' (fun W => rpat18 y r.p (by rw [← hy]) W (by rw [← hy]; simpa [ByteArray.size] using hpl))
              have HPL : Hid ((Rt.pat r).length ≤ 4194305) := hid' (by have := Rt.pat_len18 r; omega)
              rw [hy] at x1
              clear hr hy l1 hpl x0 hsp
              go_wp2_with (go_at_call 14; refine (HRP.out _).mono ?_; rintro e w3 ⟨hp3, hb3⟩; obtain ⟨m3, ro3, rc3, b3, rfl, hm3, hpr3, -⟩ := hp3.cap; refine Hid.out ?_)
              refine hid' ?_
              have HB3 := hid' (below_two HK2.out hb3)
              have HA3 := hid' (HAK2.out.keep hb3)
              have HCA : Hid (Calls Tryz.prog 32 #[.slice ro3 m3 rc3, .string t] w3 fun e w' => (∃ m ro rc, e = .returned (.slice ro m rc) ∧ (Rt.caught (Rt.pat r) (Pt.parts pl) (Rt.ends pl)).length = m ∧ w'.ownsRow w3.heap.size 42 2 (.slice ro m rc) m (qC18 (Rt.caught (Rt.pat r) (Pt.parts pl) (Rt.ends pl)))) ∧ Below w3.heap.size w3 w') := hid' (rcaught18 ro3 m3 rc3 (Rt.pat r) t pl HTP.out hm3 (by rw [← hm3]; exact HPL.out) HFS.out w3 hpr3 ht)
              clear hp3 hb3 hm3 hpr3 x1
              go_wp2_with (go_at_call 32; refine HCA.out.mono ?_; rintro e w4 ⟨⟨pm, po, pc, rfl, hpm, hpo⟩, hb4⟩; refine Hid.out ?_)
              refine hid' ?_
              have HB4 := hid' (below_two HB3.out hb4)
              have HA4 := hid' (HA3.out.keep hb4)
              have HPM := hid' hpm
              have HPO := hid' hpo
              have HW3 : Hid (w.heap.size ≤ w3.heap.size) := hid' (below_two HBw.out HB3.out).size
              clear hpm hpo hb4
              go_wp2_with (refine wpl_store 35 _ _ rfl rfl rb #[.int .i64 200, .int .i64 (kk : Int), .slice po pm pc, .string ⟨#[]⟩] (by kernel_rfl) (by kernel_rfl) _ _ HA4.out sizeMt18 rfl (by simp [Value.oneCell']) ?_)
              intro wf hwf huf
              go_wp2
              have hld := ldMt18 hwf
              refine bodyPost_ret (v := .agg #[.int .i64 200, .int .i64 (kk : Int), .slice po pm pc, .string ⟨#[]⟩]) (by simp [results, Tryz.results12, asAddr, hld]) rfl ⟨⟨pm, po, pc, ?_, ?_, ?_⟩, ?_⟩
              · rw [HFE.out]
              · rw [HFE.out]; exact HPM.out
              · rw [HFE.out]
                refine own_base17 (own_same HPO.out (fun j hj => huf.block j (fun e => ?_))) HW3.out
                subst e
                have h5 := own_ge18 HPO.out j hj
                have h6 := HA3.out.lt
                omega
              · exact (below_two HBw.out HB4.out).trans (huf.below HRB.out)
            | none =>
              have HIG : Hid (Rt.ix (Rt.byM rs bq Rt.sGET) = -1) := hid' (by rw [k3]; rfl)
              cases k2 : Rt.byM rs bq [] with
              | some kk =>
                have HSE : Hid (Rt.sel rs bq ml = some kk) := hid' (by rw [HSD.out, k1, hhd, k3, k2]; rfl)
                have HIY : Hid (Rt.ix (Rt.byM rs bq []) = (kk : Int)) := hid' (by rw [k2]; rfl)
                have hkz : ¬ (kk : Int) < 0 := by omega
                clear k1 k2 k3 hhd
                go_wp2_with (go_at_call 31; refine (HBY.out s ml HSM.out _ (Below.refl _ _)).mono ?_; rintro e wk1 ⟨rfl, hbk⟩; rw [HIX.out]; refine Hid.out ?_)
                refine hid' ?_
                have HK1 := hid' hbk
                have HAK1 := hid' (HAr.out.keep hbk)
                clear hbk
                go_wp2_with (go_at_call 31; refine (HBY.out ⟨#[71, 69, 84]⟩ Rt.sGET rfl _ HK1.out).mono ?_; rintro e wk2 ⟨rfl, hbk⟩; rw [HIG.out]; refine Hid.out ?_)
                refine hid' ?_
                have HK2 := hid' (below_two HK1.out hbk)
                have HAK2 := hid' (HAK1.out.keep hbk)
                clear hbk
                go_wp2_with (go_at_call 31; refine (HBY.out ⟨#[]⟩ [] rfl _ HK2.out).mono ?_; rintro e wk3 ⟨rfl, hbk⟩; rw [HIY.out]; refine Hid.out ?_)
                refine hid' ?_
                have HK3 := hid' (below_two HK2.out hbk)
                have HAK3 := hid' (HAK2.out.keep hbk)
                clear hbk
                obtain ⟨r, hr, hsp⟩ := Rt.sel_some HSE.out
                have HFS : Hid (Rt.fits (Rt.pat r) (Pt.parts pl) = true) := hid' (by rw [Rt.shape_fits hsp]; exact (Rt.best_some HBQ.out).2.1)
                have HFE : Hid (Rt.find rs ml pl = ⟨200, (kk : Int), Rt.caught (Rt.pat r) (Pt.parts pl) (Rt.ends pl), []⟩) := hid' (by rw [HFD.out, HBQ.out]; simp only []; rw [HSE.out]; simp only []; rw [hr]; rfl)
                have hkn : kk < n := by rw [← HN.out]; exact (List.getElem?_eq_some_iff.1 hr).1
                have hknI : (kk : Int) < (n : Int) := by omega
                have hk0I : (0 : Int) ≤ (kk : Int) := by omega
                have hk1I : ¬ (kk : Int) < 0 := by omega
                obtain ⟨a, e1, l1, x0, x1, _, hpl, _⟩ := (H1.out.below (below_two HBw.out HK3.out)) kk r hr
                subst e1
                obtain ⟨y, hy⟩ : ∃ x : ByteArray, (⟨r.p.toArray⟩ : ByteArray) = x := ⟨_, rfl⟩
                have HRP : Hid (∀ W, Calls Tryz.prog 14 #[.string y] W fun e w' => patR18 W (Rt.pattern r.p) e w' ∧ Below W.heap.size W w') := hid' (fun W => rpat18 y r.p (by rw [← hy]) W (by rw [← hy]; simpa [ByteArray.size] using hpl))
                have HPL : Hid ((Rt.pat r).length ≤ 4194305) := hid' (by have := Rt.pat_len18 r; omega)
                rw [hy] at x1
                clear hr hy l1 hpl x0 hsp
                go_wp2_with (go_at_call 14; refine (HRP.out _).mono ?_; rintro e w3 ⟨hp3, hb3⟩; obtain ⟨m3, ro3, rc3, b3, rfl, hm3, hpr3, -⟩ := hp3.cap; refine Hid.out ?_)
                refine hid' ?_
                have HB3 := hid' (below_two HK3.out hb3)
                have HA3 := hid' (HAK3.out.keep hb3)
                have HCA : Hid (Calls Tryz.prog 32 #[.slice ro3 m3 rc3, .string t] w3 fun e w' => (∃ m ro rc, e = .returned (.slice ro m rc) ∧ (Rt.caught (Rt.pat r) (Pt.parts pl) (Rt.ends pl)).length = m ∧ w'.ownsRow w3.heap.size 42 2 (.slice ro m rc) m (qC18 (Rt.caught (Rt.pat r) (Pt.parts pl) (Rt.ends pl)))) ∧ Below w3.heap.size w3 w') := hid' (rcaught18 ro3 m3 rc3 (Rt.pat r) t pl HTP.out hm3 (by rw [← hm3]; exact HPL.out) HFS.out w3 hpr3 ht)
                clear hp3 hb3 hm3 hpr3 x1
                go_wp2_with (go_at_call 32; refine HCA.out.mono ?_; rintro e w4 ⟨⟨pm, po, pc, rfl, hpm, hpo⟩, hb4⟩; refine Hid.out ?_)
                refine hid' ?_
                have HB4 := hid' (below_two HB3.out hb4)
                have HA4 := hid' (HA3.out.keep hb4)
                have HPM := hid' hpm
                have HPO := hid' hpo
                have HW3 : Hid (w.heap.size ≤ w3.heap.size) := hid' (below_two HBw.out HB3.out).size
                clear hpm hpo hb4
                go_wp2_with (refine wpl_store 35 _ _ rfl rfl rb #[.int .i64 200, .int .i64 (kk : Int), .slice po pm pc, .string ⟨#[]⟩] (by kernel_rfl) (by kernel_rfl) _ _ HA4.out sizeMt18 rfl (by simp [Value.oneCell']) ?_)
                intro wf hwf huf
                go_wp2
                have hld := ldMt18 hwf
                refine bodyPost_ret (v := .agg #[.int .i64 200, .int .i64 (kk : Int), .slice po pm pc, .string ⟨#[]⟩]) (by simp [results, Tryz.results12, asAddr, hld]) rfl ⟨⟨pm, po, pc, ?_, ?_, ?_⟩, ?_⟩
                · rw [HFE.out]
                · rw [HFE.out]; exact HPM.out
                · rw [HFE.out]
                  refine own_base17 (own_same HPO.out (fun j hj => huf.block j (fun e => ?_))) HW3.out
                  subst e
                  have h5 := own_ge18 HPO.out j hj
                  have h6 := HA3.out.lt
                  omega
                · exact (below_two HBw.out HB4.out).trans (huf.below HRB.out)
              | none =>
                have HSE : Hid (Rt.sel rs bq ml = none) := hid' (by rw [HSD.out, k1, hhd, k3, k2]; rfl)
                have HIY : Hid (Rt.ix (Rt.byM rs bq []) = -1) := hid' (by rw [k2]; rfl)
                clear k1 k2 k3 hhd
                go_wp2_with (go_at_call 31; refine (HBY.out s ml HSM.out _ (Below.refl _ _)).mono ?_; rintro e wk1 ⟨rfl, hbk⟩; rw [HIX.out]; refine Hid.out ?_)
                refine hid' ?_
                have HK1 := hid' hbk
                have HAK1 := hid' (HAr.out.keep hbk)
                clear hbk
                go_wp2_with (go_at_call 31; refine (HBY.out ⟨#[71, 69, 84]⟩ Rt.sGET rfl _ HK1.out).mono ?_; rintro e wk2 ⟨rfl, hbk⟩; rw [HIG.out]; refine Hid.out ?_)
                refine hid' ?_
                have HK2 := hid' (below_two HK1.out hbk)
                have HAK2 := hid' (HAK1.out.keep hbk)
                clear hbk
                go_wp2_with (go_at_call 31; refine (HBY.out ⟨#[]⟩ [] rfl _ HK2.out).mono ?_; rintro e wk3 ⟨rfl, hbk⟩; rw [HIY.out]; refine Hid.out ?_)
                refine hid' ?_
                have HK3 := hid' (below_two HK2.out hbk)
                have HAK3 := hid' (HAK2.out.keep hbk)
                clear hbk
                have HFE : Hid (Rt.find rs ml pl = ⟨405, -1, [], Rt.allow rs bq⟩) := hid' (by rw [HFD.out, HBQ.out]; simp only []; rw [HSE.out]; simp only [HOP.out]; rfl)
                have HAL := hid' (rallow18 ao bo n bm ac bc rs bq HN.out HBL.out hnb hbm _ (H1.out.below (below_two HBw.out HK3.out)) (HPQ.out.below HK3.out))
                go_wp2_with (go_at_call 33; refine HAL.out.mono ?_; rintro e w4 ⟨rfl, hb4⟩; refine Hid.out ?_)
                refine hid' ?_
                have HB4 := hid' (below_two HK3.out hb4)
                have HA4 := hid' (HAK3.out.keep hb4)
                clear hb4
                go_wp2_with (refine wpl_store 35 _ _ rfl rfl rb #[.int .i64 405, .int .i64 (-1), .slice none 0 0, .string ⟨(Rt.allow rs bq).toArray⟩] (by kernel_rfl) (by kernel_rfl) _ _ HA4.out sizeMt18 rfl (by simp [Value.oneCell']) ?_)
                intro wf hwf huf
                go_wp2
                have hld := ldMt18 hwf
                refine bodyPost_ret (v := .agg #[.int .i64 405, .int .i64 (-1), .slice none 0 0, .string ⟨(Rt.allow rs bq).toArray⟩]) (by simp [results, Tryz.results12, asAddr, hld]) rfl ⟨⟨0, none, 0, ?_, ?_, ?_⟩, ?_⟩
                · rw [HFE.out]
                · rw [HFE.out]; rfl
                · rw [HFE.out]; exact World.ownsRow_nil _ _ _ _
                · exact (below_two HBw.out HB4.out).trans (huf.below HRB.out)

end Go.Proofs.YtfdjimjiikeciaaGreatDoor
