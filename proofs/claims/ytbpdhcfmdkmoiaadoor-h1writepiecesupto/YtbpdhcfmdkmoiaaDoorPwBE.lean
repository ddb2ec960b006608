/-
  The code's Pieces: by its contract.
-/
import Derived.Test.YtbpdhcfmdkmoiaaDoorPwAR
import Derived.Test.YtbpdhcfmdkmoiaaDoorPwBD
namespace Go.Proofs.YtbpdhcfmdkmoiaaDoor
open Go.RowKit

theorem zeroEn22 : (Tryd.prog.info? 52).map (fun i => i.zero) = some (some (.agg #[.bool false, .bool false, .bool false])) := by kernel_rfl
theorem sizeEn22 : (Tryd.prog.info? 52).map (·.size) = some 3 := by kernel_rfl
theorem bare0_22 (s : Int) : Ms.bare ⟨#[]⟩ s = Hw.bare0 s := by unfold Ms.bare Hw.bare0; rw [Lib.toList_data]; simp
set_option maxHeartbeats 16000000 in
set_option maxRecDepth 20000 in
theorem cpieces22 (s : Int) (fv : Value) (b : ByteArray) (tv : Value) (fs ts : List Fd) (old head last : Bool) (w : World) (h1 : FW w fv fs) (h2 : FW w tv ts) (k1 : FO22 fs) (k2 : FO22 ts) (hb : b.size ≤ 1073741824) (hT : TB w) (hZ : TZ w) :
    Calls Tryd.prog 7 #[.agg (rp22 s fv b tv), .bool old, .bool head, .bool last] w fun e w' => ∃ ao cap, e = .returned (.tuple #[.slice ao (Hw.pieces ⟨s, fs, b, ts⟩ old head last).1.length cap, .int .i64 (Hw.pieces ⟨s, fs, b, ts⟩ old head last).2]) ∧ w'.ownsRow w.heap.size 9 1 (.slice ao (Hw.pieces ⟨s, fs, b, ts⟩ old head last).1.length cap) (Hw.pieces ⟨s, fs, b, ts⟩ old head last).1.length (sC (Hw.pieces ⟨s, fs, b, ts⟩ old head last).1) ∧ Below w.heap.size w w' := by
  obtain ⟨i0, hi0, hz0, hz1, hz2⟩ := minfo_parts infoS22
  have HI := hid' hi0
  have HZ0 := hid' hz0
  have HZ1 := hid' hz1
  have HZ2 := hid' hz2
  obtain ⟨m1, hm1⟩ : ∃ m1, Hw.may fs = m1 := ⟨_, rfl⟩
  obtain ⟨m2, hm2⟩ : ∃ m2, Hw.may ts = m2 := ⟨_, rfl⟩
  obtain ⟨o, ho⟩ : ∃ o, Ms.lenGo none fs = o := ⟨_, rfl⟩
  obtain ⟨br, hbr⟩ : ∃ br, Hw.bare0 (Hw.stat s) = br := ⟨_, rfl⟩
  obtain ⟨PT, hPT⟩ : ∃ PT, Hw.parts b.data.toList = PT := ⟨_, rfl⟩
  obtain ⟨CK, hCK⟩ : ∃ CK, PT.map Hw.chunk ++ [Hw.fin ts] = CK := ⟨_, rfl⟩
  have HM1 := hid' hm1
  have HM2 := hid' hm2
  have HLO := hid' ho
  have HBR := hid' hbr
  have HPTE := hid' hPT
  have HPTL : Hid (PT.length ≤ 65537) := hid' (by rw [← hPT, Hw.parts_len]; unfold Hw.pn; rw [← Lib.size_eq]; omega)
  have HCKL : Hid (CK.length ≤ 65538) := hid' (by have := HPTL.out; rw [← hCK, List.length_append, List.length_map]; simp; omega)
  have HCKE : Hid ((Hw.parts b.data.toList).map Hw.chunk ++ [Hw.fin ts] = CK) := hid' (by rw [hPT]; exact hCK)
  have HS1 := hid' (fun W (hw : Below w.heap.size w W) => csnd22 fv fs m1 hm1 W (h1.keep hw) k1.len k1.sz)
  have HS2 := hid' (fun W (hw : Below w.heap.size w W) => csnd22 tv ts m2 hm2 W (h2.keep hw) k2.len k2.sz)
  have HLN := hid' (fun W (hw : Below w.heap.size w W) => clen14 fv fs o ho W (h1.keep hw) (hT.keep hw) k1.len k1.sz)
  have HST := hid' (fun W => cstat22 s W)
  have HBA0 := hid' (fun W => cbare14 ⟨#[]⟩ (Hw.stat s) br (by rw [bare0_22]; exact hbr) W)
  have HHD := hid' (fun W (old last opn : Bool) (hw : Below w.heap.size w W) => chead22 s fv b tv fs ts old last opn W (h1.keep hw) k1.len (fun f hf => (k1.sz f hf).1) k1.lns (hT.keep hw))
  have HCK := hid' (fun W (hw : Below w.heap.size w W) => cchunks22 s fv b tv ts W (h2.keep hw) k2.len (fun f hf => (k2.sz f hf).1) k2.lns hb (hZ.keep hw) CK HCKE.out)
  have HPT := hid' (fun W => cparts22 b b.data.toList rfl W (by rw [← Lib.size_eq]; exact hb))
  rw [hPT] at HPT
  have HX := hid' (show Ar (w.alloc (.cells (rp22 s fv b tv) 24)) w.heap.size 24 (rp22 s fv b tv) from heap_alloc_last w _)
  have HBX := hid' (bl_alloc w (.cells (rp22 s fv b tv) 24))
  clear h1 h2 k1 k2 hb hT hZ hm1 hm2 ho hbr hPT hCK hi0 hz0 hz1 hz2
  unfold rp22 at *
  cases head
  rotate_left
  · cases o with
    | none =>
      have HLNv : Hid (∀ W, Below w.heap.size w W → Calls Tryd.prog 24 #[fv] W fun e w' => e = .returned (.tuple #[.int .i64 0, .bool false, .int .i64 142]) ∧ Below W.heap.size W w') := hid' (by exact HLN.out)
      have HLNe := HLN
      clear HLN
      have HLN := HLNv
      clear HLNv
      go_enter Tryd.func7, Tryd.ntmps7
      go_upto_region 1 with fail
      obtain ⟨xb, hxb⟩ : ∃ xb, w.heap.size = xb := ⟨_, rfl⟩
      rw [hxb] at HX ⊢
      generalize w.alloc (.cells #[.int .i64 s, fv, .string b, tv] 24) = w1 at *
      have HA1 := HX
      have HB1 := HBX
      clear HX HBX hxb
      have x0 := HA1.out.cell 0 _ rfl
      have x1 := HA1.out.cell 1 _ rfl
      have x2 := HA1.out.cell 2 _ rfl
      have x3 := HA1.out.cell 3 _ rfl
      go_wp2_with fail
      refine (HS1.out _ HB1.out).mono ?_
      rintro e w2 ⟨rfl, hb2⟩
      have HB2 := hid' (below_two HB1.out hb2)
      have HA2 := hid' (HA1.out.keep hb2)
      clear hb2
      clear x0 x1 x2 x3
      cases m1
      · have HP : Hid (Hw.pieces ⟨s, fs, b, ts⟩ old true last = ([], 220)) := hid' (by unfold Hw.pieces; rw [HM1.out]; rfl)
        have x0 := HA2.out.cell 0 _ rfl
        have x1 := HA2.out.cell 1 _ rfl
        have x2 := HA2.out.cell 2 _ rfl
        have x3 := HA2.out.cell 3 _ rfl
        go_wp2
        go_ret2
        rw [HP.out]
        exact ⟨none, 0, rfl, World.ownsRow_nil _ _ _ _, HB2.out⟩
      · have x0 := HA2.out.cell 0 _ rfl
        have x1 := HA2.out.cell 1 _ rfl
        have x2 := HA2.out.cell 2 _ rfl
        have x3 := HA2.out.cell 3 _ rfl
        go_wp2_with fail
        refine (HS2.out _ HB2.out).mono ?_
        rintro e w3 ⟨rfl, hb3⟩
        have HB3 := hid' (below_two HB2.out hb3)
        have HA3 := hid' (HA2.out.keep hb3)
        clear hb3
        clear x0 x1 x2 x3
        cases m2
        · have HP : Hid (Hw.pieces ⟨s, fs, b, ts⟩ old true last = ([], 220)) := hid' (by unfold Hw.pieces; rw [HM1.out, HM2.out]; rfl)
          have x0 := HA3.out.cell 0 _ rfl
          have x1 := HA3.out.cell 1 _ rfl
          have x2 := HA3.out.cell 2 _ rfl
          have x3 := HA3.out.cell 3 _ rfl
          go_wp2
          go_ret2
          rw [HP.out]
          exact ⟨none, 0, rfl, World.ownsRow_nil _ _ _ _, HB3.out⟩
        · have x0 := HA3.out.cell 0 _ rfl
          have x1 := HA3.out.cell 1 _ rfl
          have x2 := HA3.out.cell 2 _ rfl
          have x3 := HA3.out.cell 3 _ rfl
          go_wp2_with fail
          refine (HLN.out _ HB3.out).mono ?_
          rintro e w4 ⟨rfl, hb4⟩
          have HB4 := hid' (below_two HB3.out hb4)
          have HA4 := hid' (HA3.out.keep hb4)
          clear hb4
          clear x0 x1 x2 x3
          have HP : Hid (Hw.pieces ⟨s, fs, b, ts⟩ old true last = ([], 142)) := hid' (by unfold Hw.pieces; simp only [HM1.out, HM2.out, HLO.out]; rfl)
          have x0 := HA4.out.cell 0 _ rfl
          have x1 := HA4.out.cell 1 _ rfl
          have x2 := HA4.out.cell 2 _ rfl
          have x3 := HA4.out.cell 3 _ rfl
          go_wp2
          go_ret2
          rw [HP.out]
          exact ⟨none, 0, rfl, World.ownsRow_nil _ _ _ _, HB4.out⟩
    | some q => cases q with
      | none =>
        have HLNv : Hid (∀ W, Below w.heap.size w W → Calls Tryd.prog 24 #[fv] W fun e w' => e = .returned (.tuple #[.int .i64 0, .bool false, .int .i64 0]) ∧ Below W.heap.size W w') := hid' (by exact HLN.out)
        have HLNe := HLN
        clear HLN
        have HLN := HLNv
        clear HLNv
        go_enter Tryd.func7, Tryd.ntmps7
        go_upto_region 1 with fail
        obtain ⟨xb, hxb⟩ : ∃ xb, w.heap.size = xb := ⟨_, rfl⟩
        rw [hxb] at HX ⊢
        generalize w.alloc (.cells #[.int .i64 s, fv, .string b, tv] 24) = w1 at *
        have HA1 := HX
        have HB1 := HBX
        clear HX HBX hxb
        have x0 := HA1.out.cell 0 _ rfl
        have x1 := HA1.out.cell 1 _ rfl
        have x2 := HA1.out.cell 2 _ rfl
        have x3 := HA1.out.cell 3 _ rfl
        go_wp2_with fail
        refine (HS1.out _ HB1.out).mono ?_
        rintro e w2 ⟨rfl, hb2⟩
        have HB2 := hid' (below_two HB1.out hb2)
        have HA2 := hid' (HA1.out.keep hb2)
        clear hb2
        clear x0 x1 x2 x3
        cases m1
        · have HP : Hid (Hw.pieces ⟨s, fs, b, ts⟩ old true last = ([], 220)) := hid' (by unfold Hw.pieces; rw [HM1.out]; rfl)
          have x0 := HA2.out.cell 0 _ rfl
          have x1 := HA2.out.cell 1 _ rfl
          have x2 := HA2.out.cell 2 _ rfl
          have x3 := HA2.out.cell 3 _ rfl
          go_wp2
          go_ret2
          rw [HP.out]
          exact ⟨none, 0, rfl, World.ownsRow_nil _ _ _ _, HB2.out⟩
        · have x0 := HA2.out.cell 0 _ rfl
          have x1 := HA2.out.cell 1 _ rfl
          have x2 := HA2.out.cell 2 _ rfl
          have x3 := HA2.out.cell 3 _ rfl
          go_wp2_with fail
          refine (HS2.out _ HB2.out).mono ?_
          rintro e w3 ⟨rfl, hb3⟩
          have HB3 := hid' (below_two HB2.out hb3)
          have HA3 := hid' (HA2.out.keep hb3)
          clear hb3
          clear x0 x1 x2 x3
          cases m2
          · have HP : Hid (Hw.pieces ⟨s, fs, b, ts⟩ old true last = ([], 220)) := hid' (by unfold Hw.pieces; rw [HM1.out, HM2.out]; rfl)
            have x0 := HA3.out.cell 0 _ rfl
            have x1 := HA3.out.cell 1 _ rfl
            have x2 := HA3.out.cell 2 _ rfl
            have x3 := HA3.out.cell 3 _ rfl
            go_wp2
            go_ret2
            rw [HP.out]
            exact ⟨none, 0, rfl, World.ownsRow_nil _ _ _ _, HB3.out⟩
          · have x0 := HA3.out.cell 0 _ rfl
            have x1 := HA3.out.cell 1 _ rfl
            have x2 := HA3.out.cell 2 _ rfl
            have x3 := HA3.out.cell 3 _ rfl
            go_wp2_with fail
            refine (HLN.out _ HB3.out).mono ?_
            rintro e w4 ⟨rfl, hb4⟩
            have HB4 := hid' (below_two HB3.out hb4)
            have HA4 := hid' (HA3.out.keep hb4)
            clear hb4
            clear x0 x1 x2 x3
            have x0 := HA4.out.cell 0 _ rfl
            have x1 := HA4.out.cell 1 _ rfl
            have x2 := HA4.out.cell 2 _ rfl
            have x3 := HA4.out.cell 3 _ rfl
            go_wp2_with (refine wpl_alloc 52 rfl rfl _ zeroEn22 ?_)
            intro yb y1 hyb hay hly
            have HAA := hid' (HA4.out.keep hly)
            have HBA := hid' (below_two HB4.out hly)
            have HAY := hid' hay
            have HYX : Hid (xb ≠ yb) := hid' (fun e => by have h1 := HA4.out.lt; omega)
            have HYG : Hid (w.heap.size ≤ yb) := hid' (by have h1 := HB4.out.size; omega)
            clear hay hly hyb x0 x1 x2 x3
            go_wp2_with (refine wpl_store 52 _ _ rfl rfl yb (en22 old last false) (by kernel_rfl) (by kernel_rfl) _ _ HAY.out sizeEn22 rfl (by simp [Value.oneCell', en22]) ?_)
            intro y2 hay2 huy2
            have HAB := hid' (huy2.keep HAA.out HYX.out)
            have HBB := hid' (HBA.out.trans (huy2.below HYG.out))
            have HAY2 := hid' hay2
            clear hay2 huy2
            unfold en22 at HAY2
            have x0 := HAB.out.cell 0 _ rfl
            have x1 := HAB.out.cell 1 _ rfl
            have x2 := HAB.out.cell 2 _ rfl
            have x3 := HAB.out.cell 3 _ rfl
            have z0 := HAY2.out.cell 0 _ rfl
            have z1 := HAY2.out.cell 1 _ rfl
            have z2 := HAY2.out.cell 2 _ rfl
            go_wp2_with (go_at_call 27; refine (HHD.out _ old last false HBB.out).mono ?_; rintro e y3 ⟨rfl, hb3⟩; refine Hid.out ?_)
            refine hid' ?_
            have HB3 := hid' (below_two HBB.out hb3)
            have HA3 := hid' (HAB.out.keep hb3)
            have HY3 := hid' (HAY2.out.keep hb3)
            clear hb3 x0 x1 x2 x3 z0 z1 z2
            obtain ⟨tp, htp⟩ : ∃ tp, Hw.top ⟨s, fs, b, ts⟩ false old last = tp := ⟨_, rfl⟩
            rw [htp]
            have HTP := hid' htp
            clear htp
            have HP : Hid (Hw.pieces ⟨s, fs, b, ts⟩ old true last = ([tp], 0)) := hid' (by unfold Hw.pieces; simp only [HM1.out, HM2.out, HLO.out]; simp [Hw.bare, HBR.out, Hw.opn, HTP.out])
            have HO1 := hid' (own_one22 y3 (.string ⟨tp.toArray⟩))
            have HB4 := hid' (HB3.out.alloc HB3.out.size (.cells #[.string ⟨tp.toArray⟩] 9))
            have HBS := HB3.out.size
            go_wp2
            go_ret2
            rw [HP.out]
            exact ⟨_, 1, rfl, own_base21 HO1.out HBS, HB4.out⟩
      | some v =>
        obtain ⟨nv, hnv⟩ : ∃ nv, (Tx.num 10 v.data.toList).1 = nv := ⟨_, rfl⟩
        have HLNv : Hid (∀ W, Below w.heap.size w W → Calls Tryd.prog 24 #[fv] W fun e w' => e = .returned (.tuple #[.int .i64 nv, .bool true, .int .i64 0]) ∧ Below W.heap.size W w') := hid' (by rw [← hnv]; exact HLN.out)
        have HLNe := HLN
        clear HLN
        have HLN := HLNv
        clear HLNv
        clear hnv
        go_enter Tryd.func7, Tryd.ntmps7
        go_upto_region 1 with fail
        obtain ⟨xb, hxb⟩ : ∃ xb, w.heap.size = xb := ⟨_, rfl⟩
        rw [hxb] at HX ⊢
        generalize w.alloc (.cells #[.int .i64 s, fv, .string b, tv] 24) = w1 at *
        have HA1 := HX
        have HB1 := HBX
        clear HX HBX hxb
        have x0 := HA1.out.cell 0 _ rfl
        have x1 := HA1.out.cell 1 _ rfl
        have x2 := HA1.out.cell 2 _ rfl
        have x3 := HA1.out.cell 3 _ rfl
        go_wp2_with fail
        refine (HS1.out _ HB1.out).mono ?_
        rintro e w2 ⟨rfl, hb2⟩
        have HB2 := hid' (below_two HB1.out hb2)
        have HA2 := hid' (HA1.out.keep hb2)
        clear hb2
        clear x0 x1 x2 x3
        cases m1
        · have HP : Hid (Hw.pieces ⟨s, fs, b, ts⟩ old true last = ([], 220)) := hid' (by unfold Hw.pieces; rw [HM1.out]; rfl)
          have x0 := HA2.out.cell 0 _ rfl
          have x1 := HA2.out.cell 1 _ rfl
          have x2 := HA2.out.cell 2 _ rfl
          have x3 := HA2.out.cell 3 _ rfl
          go_wp2
          go_ret2
          rw [HP.out]
          exact ⟨none, 0, rfl, World.ownsRow_nil _ _ _ _, HB2.out⟩
        · have x0 := HA2.out.cell 0 _ rfl
          have x1 := HA2.out.cell 1 _ rfl
          have x2 := HA2.out.cell 2 _ rfl
          have x3 := HA2.out.cell 3 _ rfl
          go_wp2_with fail
          refine (HS2.out _ HB2.out).mono ?_
          rintro e w3 ⟨rfl, hb3⟩
          have HB3 := hid' (below_two HB2.out hb3)
          have HA3 := hid' (HA2.out.keep hb3)
          clear hb3
          clear x0 x1 x2 x3
          cases m2
          · have HP : Hid (Hw.pieces ⟨s, fs, b, ts⟩ old true last = ([], 220)) := hid' (by unfold Hw.pieces; rw [HM1.out, HM2.out]; rfl)
            have x0 := HA3.out.cell 0 _ rfl
            have x1 := HA3.out.cell 1 _ rfl
            have x2 := HA3.out.cell 2 _ rfl
            have x3 := HA3.out.cell 3 _ rfl
            go_wp2
            go_ret2
            rw [HP.out]
            exact ⟨none, 0, rfl, World.ownsRow_nil _ _ _ _, HB3.out⟩
          · have x0 := HA3.out.cell 0 _ rfl
            have x1 := HA3.out.cell 1 _ rfl
            have x2 := HA3.out.cell 2 _ rfl
            have x3 := HA3.out.cell 3 _ rfl
            go_wp2_with fail
            refine (HLN.out _ HB3.out).mono ?_
            rintro e w4 ⟨rfl, hb4⟩
            have HB4 := hid' (below_two HB3.out hb4)
            have HA4 := hid' (HA3.out.keep hb4)
            clear hb4
            clear x0 x1 x2 x3
            have x0 := HA4.out.cell 0 _ rfl
            have x1 := HA4.out.cell 1 _ rfl
            have x2 := HA4.out.cell 2 _ rfl
            have x3 := HA4.out.cell 3 _ rfl
            go_wp2_with (refine wpl_alloc 52 rfl rfl _ zeroEn22 ?_)
            intro yb y1 hyb hay hly
            have HAA := hid' (HA4.out.keep hly)
            have HBA := hid' (below_two HB4.out hly)
            have HAY := hid' hay
            have HYX : Hid (xb ≠ yb) := hid' (fun e => by have h1 := HA4.out.lt; omega)
            have HYG : Hid (w.heap.size ≤ yb) := hid' (by have h1 := HB4.out.size; omega)
            clear hay hly hyb x0 x1 x2 x3
            go_wp2_with (refine wpl_store 52 _ _ rfl rfl yb (en22 old last false) (by kernel_rfl) (by kernel_rfl) _ _ HAY.out sizeEn22 rfl (by simp [Value.oneCell', en22]) ?_)
            intro y2 hay2 huy2
            have HAB := hid' (huy2.keep HAA.out HYX.out)
            have HBB := hid' (HBA.out.trans (huy2.below HYG.out))
            have HAY2 := hid' hay2
            clear hay2 huy2
            unfold en22 at HAY2
            have x0 := HAB.out.cell 0 _ rfl
            have x1 := HAB.out.cell 1 _ rfl
            have x2 := HAB.out.cell 2 _ rfl
            have x3 := HAB.out.cell 3 _ rfl
            have z0 := HAY2.out.cell 0 _ rfl
            have z1 := HAY2.out.cell 1 _ rfl
            have z2 := HAY2.out.cell 2 _ rfl
            go_wp2_with (go_at_call 27; refine (HHD.out _ old last false HBB.out).mono ?_; rintro e y3 ⟨rfl, hb3⟩; refine Hid.out ?_)
            refine hid' ?_
            have HB3 := hid' (below_two HBB.out hb3)
            have HA3 := hid' (HAB.out.keep hb3)
            have HY3 := hid' (HAY2.out.keep hb3)
            clear hb3 x0 x1 x2 x3 z0 z1 z2
            obtain ⟨tp, htp⟩ : ∃ tp, Hw.top ⟨s, fs, b, ts⟩ false old last = tp := ⟨_, rfl⟩
            rw [htp]
            have HTP := hid' htp
            clear htp
            have HP : Hid (Hw.pieces ⟨s, fs, b, ts⟩ old true last = ([tp], 0)) := hid' (by unfold Hw.pieces; simp only [HM1.out, HM2.out, HLO.out]; simp [Hw.bare, HBR.out, Hw.opn, HTP.out])
            have HO1 := hid' (own_one22 y3 (.string ⟨tp.toArray⟩))
            have HB4 := hid' (HB3.out.alloc HB3.out.size (.cells #[.string ⟨tp.toArray⟩] 9))
            have HBS := HB3.out.size
            go_wp2
            go_ret2
            rw [HP.out]
            exact ⟨_, 1, rfl, own_base21 HO1.out HBS, HB4.out⟩
  cases br
  rotate_left
  · cases o with
    | none =>
      have HLNv : Hid (∀ W, Below w.heap.size w W → Calls Tryd.prog 24 #[fv] W fun e w' => e = .returned (.tuple #[.int .i64 0, .bool false, .int .i64 142]) ∧ Below W.heap.size W w') := hid' (by exact HLN.out)
      have HLNe := HLN
      clear HLN
      have HLN := HLNv
      clear HLNv
      go_enter Tryd.func7, Tryd.ntmps7
      go_upto_region 1 with fail
      obtain ⟨xb, hxb⟩ : ∃ xb, w.heap.size = xb := ⟨_, rfl⟩
      rw [hxb] at HX ⊢
      generalize w.alloc (.cells #[.int .i64 s, fv, .string b, tv] 24) = w1 at *
      have HA1 := HX
      have HB1 := HBX
      clear HX HBX hxb
      have x0 := HA1.out.cell 0 _ rfl
      have x1 := HA1.out.cell 1 _ rfl
      have x2 := HA1.out.cell 2 _ rfl
      have x3 := HA1.out.cell 3 _ rfl
      go_wp2_with fail
      refine (HS1.out _ HB1.out).mono ?_
      rintro e w2 ⟨rfl, hb2⟩
      have HB2 := hid' (below_two HB1.out hb2)
      have HA2 := hid' (HA1.out.keep hb2)
      clear hb2
      clear x0 x1 x2 x3
      cases m1
      · have HP : Hid (Hw.pieces ⟨s, fs, b, ts⟩ old false last = ([], 220)) := hid' (by unfold Hw.pieces; rw [HM1.out]; rfl)
        have x0 := HA2.out.cell 0 _ rfl
        have x1 := HA2.out.cell 1 _ rfl
        have x2 := HA2.out.cell 2 _ rfl
        have x3 := HA2.out.cell 3 _ rfl
        go_wp2
        go_ret2
        rw [HP.out]
        exact ⟨none, 0, rfl, World.ownsRow_nil _ _ _ _, HB2.out⟩
      · have x0 := HA2.out.cell 0 _ rfl
        have x1 := HA2.out.cell 1 _ rfl
        have x2 := HA2.out.cell 2 _ rfl
        have x3 := HA2.out.cell 3 _ rfl
        go_wp2_with fail
        refine (HS2.out _ HB2.out).mono ?_
        rintro e w3 ⟨rfl, hb3⟩
        have HB3 := hid' (below_two HB2.out hb3)
        have HA3 := hid' (HA2.out.keep hb3)
        clear hb3
        clear x0 x1 x2 x3
        cases m2
        · have HP : Hid (Hw.pieces ⟨s, fs, b, ts⟩ old false last = ([], 220)) := hid' (by unfold Hw.pieces; rw [HM1.out, HM2.out]; rfl)
          have x0 := HA3.out.cell 0 _ rfl
          have x1 := HA3.out.cell 1 _ rfl
          have x2 := HA3.out.cell 2 _ rfl
          have x3 := HA3.out.cell 3 _ rfl
          go_wp2
          go_ret2
          rw [HP.out]
          exact ⟨none, 0, rfl, World.ownsRow_nil _ _ _ _, HB3.out⟩
        · have x0 := HA3.out.cell 0 _ rfl
          have x1 := HA3.out.cell 1 _ rfl
          have x2 := HA3.out.cell 2 _ rfl
          have x3 := HA3.out.cell 3 _ rfl
          go_wp2_with fail
          refine (HLN.out _ HB3.out).mono ?_
          rintro e w4 ⟨rfl, hb4⟩
          have HB4 := hid' (below_two HB3.out hb4)
          have HA4 := hid' (HA3.out.keep hb4)
          clear hb4
          clear x0 x1 x2 x3
          have x0 := HA4.out.cell 0 _ rfl
          have x1 := HA4.out.cell 1 _ rfl
          have x2 := HA4.out.cell 2 _ rfl
          have x3 := HA4.out.cell 3 _ rfl
          go_wp2_with fail
          refine (HST.out _).mono ?_
          rintro e w5 ⟨rfl, hw5⟩
          subst hw5
          have HB5 := HB4
          have HA5 := HA4
          clear x0 x1 x2 x3
          have x0 := HA5.out.cell 0 _ rfl
          have x1 := HA5.out.cell 1 _ rfl
          have x2 := HA5.out.cell 2 _ rfl
          have x3 := HA5.out.cell 3 _ rfl
          go_wp2_with fail
          refine (HBA0.out _).mono ?_
          rintro e w6 ⟨rfl, hw6⟩
          subst hw6
          have HB6 := HB5
          have HA6 := HA5
          clear x0 x1 x2 x3
          have HP : Hid (Hw.pieces ⟨s, fs, b, ts⟩ old false last = ([], 142)) := hid' (by unfold Hw.pieces; simp only [HM1.out, HM2.out, HLO.out]; rfl)
          have x0 := HA6.out.cell 0 _ rfl
          have x1 := HA6.out.cell 1 _ rfl
          have x2 := HA6.out.cell 2 _ rfl
          have x3 := HA6.out.cell 3 _ rfl
          go_wp2
          go_ret2
          rw [HP.out]
          exact ⟨none, 0, rfl, World.ownsRow_nil _ _ _ _, HB6.out⟩
    | some q => cases q with
      | none =>
        have HLNv : Hid (∀ W, Below w.heap.size w W → Calls Tryd.prog 24 #[fv] W fun e w' => e = .returned (.tuple #[.int .i64 0, .bool false, .int .i64 0]) ∧ Below W.heap.size W w') := hid' (by exact HLN.out)
        have HLNe := HLN
        clear HLN
        have HLN := HLNv
        clear HLNv
        go_enter Tryd.func7, Tryd.ntmps7
        go_upto_region 1 with fail
        obtain ⟨xb, hxb⟩ : ∃ xb, w.heap.size = xb := ⟨_, rfl⟩
        rw [hxb] at HX ⊢
        generalize w.alloc (.cells #[.int .i64 s, fv, .string b, tv] 24) = w1 at *
        have HA1 := HX
        have HB1 := HBX
        clear HX HBX hxb
        have x0 := HA1.out.cell 0 _ rfl
        have x1 := HA1.out.cell 1 _ rfl
        have x2 := HA1.out.cell 2 _ rfl
        have x3 := HA1.out.cell 3 _ rfl
        go_wp2_with fail
        refine (HS1.out _ HB1.out).mono ?_
        rintro e w2 ⟨rfl, hb2⟩
        have HB2 := hid' (below_two HB1.out hb2)
        have HA2 := hid' (HA1.out.keep hb2)
        clear hb2
        clear x0 x1 x2 x3
        cases m1
        · have HP : Hid (Hw.pieces ⟨s, fs, b, ts⟩ old false last = ([], 220)) := hid' (by unfold Hw.pieces; rw [HM1.out]; rfl)
          have x0 := HA2.out.cell 0 _ rfl
          have x1 := HA2.out.cell 1 _ rfl
          have x2 := HA2.out.cell 2 _ rfl
          have x3 := HA2.out.cell 3 _ rfl
          go_wp2
          go_ret2
          rw [HP.out]
          exact ⟨none, 0, rfl, World.ownsRow_nil _ _ _ _, HB2.out⟩
        · have x0 := HA2.out.cell 0 _ rfl
          have x1 := HA2.out.cell 1 _ rfl
          have x2 := HA2.out.cell 2 _ rfl
          have x3 := HA2.out.cell 3 _ rfl
          go_wp2_with fail
          refine (HS2.out _ HB2.out).mono ?_
          rintro e w3 ⟨rfl, hb3⟩
          have HB3 := hid' (below_two HB2.out hb3)
          have HA3 := hid' (HA2.out.keep hb3)
          clear hb3
          clear x0 x1 x2 x3
          cases m2
          · have HP : Hid (Hw.pieces ⟨s, fs, b, ts⟩ old false last = ([], 220)) := hid' (by unfold Hw.pieces; rw [HM1.out, HM2.out]; rfl)
            have x0 := HA3.out.cell 0 _ rfl
            have x1 := HA3.out.cell 1 _ rfl
            have x2 := HA3.out.cell 2 _ rfl
            have x3 := HA3.out.cell 3 _ rfl
            go_wp2
            go_ret2
            rw [HP.out]
            exact ⟨none, 0, rfl, World.ownsRow_nil _ _ _ _, HB3.out⟩
          · have x0 := HA3.out.cell 0 _ rfl
            have x1 := HA3.out.cell 1 _ rfl
            have x2 := HA3.out.cell 2 _ rfl
            have x3 := HA3.out.cell 3 _ rfl
            go_wp2_with fail
            refine (HLN.out _ HB3.out).mono ?_
            rintro e w4 ⟨rfl, hb4⟩
            have HB4 := hid' (below_two HB3.out hb4)
            have HA4 := hid' (HA3.out.keep hb4)
            clear hb4
            clear x0 x1 x2 x3
            have x0 := HA4.out.cell 0 _ rfl
            have x1 := HA4.out.cell 1 _ rfl
            have x2 := HA4.out.cell 2 _ rfl
            have x3 := HA4.out.cell 3 _ rfl
            go_wp2_with fail
            refine (HST.out _).mono ?_
            rintro e w5 ⟨rfl, hw5⟩
            subst hw5
            have HB5 := HB4
            have HA5 := HA4
            clear x0 x1 x2 x3
            have x0 := HA5.out.cell 0 _ rfl
            have x1 := HA5.out.cell 1 _ rfl
            have x2 := HA5.out.cell 2 _ rfl
            have x3 := HA5.out.cell 3 _ rfl
            go_wp2_with fail
            refine (HBA0.out _).mono ?_
            rintro e w6 ⟨rfl, hw6⟩
            subst hw6
            have HB6 := HB5
            have HA6 := HA5
            clear x0 x1 x2 x3
            have x0 := HA6.out.cell 0 _ rfl
            have x1 := HA6.out.cell 1 _ rfl
            have x2 := HA6.out.cell 2 _ rfl
            have x3 := HA6.out.cell 3 _ rfl
            go_wp2_with (refine wpl_alloc 52 rfl rfl _ zeroEn22 ?_)
            intro yb y1 hyb hay hly
            have HAA := hid' (HA6.out.keep hly)
            have HBA := hid' (below_two HB6.out hly)
            have HAY := hid' hay
            have HYX : Hid (xb ≠ yb) := hid' (fun e => by have h1 := HA6.out.lt; omega)
            have HYG : Hid (w.heap.size ≤ yb) := hid' (by have h1 := HB6.out.size; omega)
            clear hay hly hyb x0 x1 x2 x3
            go_wp2_with (refine wpl_store 52 _ _ rfl rfl yb (en22 old last false) (by kernel_rfl) (by kernel_rfl) _ _ HAY.out sizeEn22 rfl (by simp [Value.oneCell', en22]) ?_)
            intro y2 hay2 huy2
            have HAB := hid' (huy2.keep HAA.out HYX.out)
            have HBB := hid' (HBA.out.trans (huy2.below HYG.out))
            have HAY2 := hid' hay2
            clear hay2 huy2
            unfold en22 at HAY2
            have x0 := HAB.out.cell 0 _ rfl
            have x1 := HAB.out.cell 1 _ rfl
            have x2 := HAB.out.cell 2 _ rfl
            have x3 := HAB.out.cell 3 _ rfl
            have z0 := HAY2.out.cell 0 _ rfl
            have z1 := HAY2.out.cell 1 _ rfl
            have z2 := HAY2.out.cell 2 _ rfl
            go_wp2_with (go_at_call 27; refine (HHD.out _ old last false HBB.out).mono ?_; rintro e y3 ⟨rfl, hb3⟩; refine Hid.out ?_)
            refine hid' ?_
            have HB3 := hid' (below_two HBB.out hb3)
            have HA3 := hid' (HAB.out.keep hb3)
            have HY3 := hid' (HAY2.out.keep hb3)
            clear hb3 x0 x1 x2 x3 z0 z1 z2
            obtain ⟨tp, htp⟩ : ∃ tp, Hw.top ⟨s, fs, b, ts⟩ false old last = tp := ⟨_, rfl⟩
            rw [htp]
            have HTP := hid' htp
            clear htp
            have HP : Hid (Hw.pieces ⟨s, fs, b, ts⟩ old false last = ([tp], 0)) := hid' (by unfold Hw.pieces; simp only [HM1.out, HM2.out, HLO.out]; simp [Hw.bare, HBR.out, Hw.opn, HTP.out])
            have HO1 := hid' (own_one22 y3 (.string ⟨tp.toArray⟩))
            have HB4 := hid' (HB3.out.alloc HB3.out.size (.cells #[.string ⟨tp.toArray⟩] 9))
            have HBS := HB3.out.size
            go_wp2
            go_ret2
            rw [HP.out]
            exact ⟨_, 1, rfl, own_base21 HO1.out HBS, HB4.out⟩
      | some v =>
        obtain ⟨nv, hnv⟩ : ∃ nv, (Tx.num 10 v.data.toList).1 = nv := ⟨_, rfl⟩
        have HLNv : Hid (∀ W, Below w.heap.size w W → Calls Tryd.prog 24 #[fv] W fun e w' => e = .returned (.tuple #[.int .i64 nv, .bool true, .int .i64 0]) ∧ Below W.heap.size W w') := hid' (by rw [← hnv]; exact HLN.out)
        have HLNe := HLN
        clear HLN
        have HLN := HLNv
        clear HLNv
        clear hnv
        go_enter Tryd.func7, Tryd.ntmps7
        go_upto_region 1 with fail
        obtain ⟨xb, hxb⟩ : ∃ xb, w.heap.size = xb := ⟨_, rfl⟩
        rw [hxb] at HX ⊢
        generalize w.alloc (.cells #[.int .i64 s, fv, .string b, tv] 24) = w1 at *
        have HA1 := HX
        have HB1 := HBX
        clear HX HBX hxb
        have x0 := HA1.out.cell 0 _ rfl
        have x1 := HA1.out.cell 1 _ rfl
        have x2 := HA1.out.cell 2 _ rfl
        have x3 := HA1.out.cell 3 _ rfl
        go_wp2_with fail
        refine (HS1.out _ HB1.out).mono ?_
        rintro e w2 ⟨rfl, hb2⟩
        have HB2 := hid' (below_two HB1.out hb2)
        have HA2 := hid' (HA1.out.keep hb2)
        clear hb2
        clear x0 x1 x2 x3
        cases m1
        · have HP : Hid (Hw.pieces ⟨s, fs, b, ts⟩ old false last = ([], 220)) := hid' (by unfold Hw.pieces; rw [HM1.out]; rfl)
          have x0 := HA2.out.cell 0 _ rfl
          have x1 := HA2.out.cell 1 _ rfl
          have x2 := HA2.out.cell 2 _ rfl
          have x3 := HA2.out.cell 3 _ rfl
          go_wp2
          go_ret2
          rw [HP.out]
          exact ⟨none, 0, rfl, World.ownsRow_nil _ _ _ _, HB2.out⟩
        · have x0 := HA2.out.cell 0 _ rfl
          have x1 := HA2.out.cell 1 _ rfl
          have x2 := HA2.out.cell 2 _ rfl
          have x3 := HA2.out.cell 3 _ rfl
          go_wp2_with fail
          refine (HS2.out _ HB2.out).mono ?_
          rintro e w3 ⟨rfl, hb3⟩
          have HB3 := hid' (below_two HB2.out hb3)
          have HA3 := hid' (HA2.out.keep hb3)
          clear hb3
          clear x0 x1 x2 x3
          cases m2
          · have HP : Hid (Hw.pieces ⟨s, fs, b, ts⟩ old false last = ([], 220)) := hid' (by unfold Hw.pieces; rw [HM1.out, HM2.out]; rfl)
            have x0 := HA3.out.cell 0 _ rfl
            have x1 := HA3.out.cell 1 _ rfl
            have x2 := HA3.out.cell 2 _ rfl
            have x3 := HA3.out.cell 3 _ rfl
            go_wp2
            go_ret2
            rw [HP.out]
            exact ⟨none, 0, rfl, World.ownsRow_nil _ _ _ _, HB3.out⟩
          · have x0 := HA3.out.cell 0 _ rfl
            have x1 := HA3.out.cell 1 _ rfl
            have x2 := HA3.out.cell 2 _ rfl
            have x3 := HA3.out.cell 3 _ rfl
            go_wp2_with fail
            refine (HLN.out _ HB3.out).mono ?_
            rintro e w4 ⟨rfl, hb4⟩
            have HB4 := hid' (below_two HB3.out hb4)
            have HA4 := hid' (HA3.out.keep hb4)
            clear hb4
            clear x0 x1 x2 x3
            have x0 := HA4.out.cell 0 _ rfl
            have x1 := HA4.out.cell 1 _ rfl
            have x2 := HA4.out.cell 2 _ rfl
            have x3 := HA4.out.cell 3 _ rfl
            go_wp2_with fail
            refine (HST.out _).mono ?_
            rintro e w5 ⟨rfl, hw5⟩
            subst hw5
            have HB5 := HB4
            have HA5 := HA4
            clear x0 x1 x2 x3
            have x0 := HA5.out.cell 0 _ rfl
            have x1 := HA5.out.cell 1 _ rfl
            have x2 := HA5.out.cell 2 _ rfl
            have x3 := HA5.out.cell 3 _ rfl
            go_wp2_with fail
            refine (HBA0.out _).mono ?_
            rintro e w6 ⟨rfl, hw6⟩
            subst hw6
            have HB6 := HB5
            have HA6 := HA5
            clear x0 x1 x2 x3
            have x0 := HA6.out.cell 0 _ rfl
            have x1 := HA6.out.cell 1 _ rfl
            have x2 := HA6.out.cell 2 _ rfl
            have x3 := HA6.out.cell 3 _ rfl
            go_wp2_with (refine wpl_alloc 52 rfl rfl _ zeroEn22 ?_)
            intro yb y1 hyb hay hly
            have HAA := hid' (HA6.out.keep hly)
            have HBA := hid' (below_two HB6.out hly)
            have HAY := hid' hay
            have HYX : Hid (xb ≠ yb) := hid' (fun e => by have h1 := HA6.out.lt; omega)
            have HYG : Hid (w.heap.size ≤ yb) := hid' (by have h1 := HB6.out.size; omega)
            clear hay hly hyb x0 x1 x2 x3
            go_wp2_with (refine wpl_store 52 _ _ rfl rfl yb (en22 old last false) (by kernel_rfl) (by kernel_rfl) _ _ HAY.out sizeEn22 rfl (by simp [Value.oneCell', en22]) ?_)
            intro y2 hay2 huy2
            have HAB := hid' (huy2.keep HAA.out HYX.out)
            have HBB := hid' (HBA.out.trans (huy2.below HYG.out))
            have HAY2 := hid' hay2
            clear hay2 huy2
            unfold en22 at HAY2
            have x0 := HAB.out.cell 0 _ rfl
            have x1 := HAB.out.cell 1 _ rfl
            have x2 := HAB.out.cell 2 _ rfl
            have x3 := HAB.out.cell 3 _ rfl
            have z0 := HAY2.out.cell 0 _ rfl
            have z1 := HAY2.out.cell 1 _ rfl
            have z2 := HAY2.out.cell 2 _ rfl
            go_wp2_with (go_at_call 27; refine (HHD.out _ old last false HBB.out).mono ?_; rintro e y3 ⟨rfl, hb3⟩; refine Hid.out ?_)
            refine hid' ?_
            have HB3 := hid' (below_two HBB.out hb3)
            have HA3 := hid' (HAB.out.keep hb3)
            have HY3 := hid' (HAY2.out.keep hb3)
            clear hb3 x0 x1 x2 x3 z0 z1 z2
            obtain ⟨tp, htp⟩ : ∃ tp, Hw.top ⟨s, fs, b, ts⟩ false old last = tp := ⟨_, rfl⟩
            rw [htp]
            have HTP := hid' htp
            clear htp
            have HP : Hid (Hw.pieces ⟨s, fs, b, ts⟩ old false last = ([tp], 0)) := hid' (by unfold Hw.pieces; simp only [HM1.out, HM2.out, HLO.out]; simp [Hw.bare, HBR.out, Hw.opn, HTP.out])
            have HO1 := hid' (own_one22 y3 (.string ⟨tp.toArray⟩))
            have HB4 := hid' (HB3.out.alloc HB3.out.size (.cells #[.string ⟨tp.toArray⟩] 9))
            have HBS := HB3.out.size
            go_wp2
            go_ret2
            rw [HP.out]
            exact ⟨_, 1, rfl, own_base21 HO1.out HBS, HB4.out⟩
  cases o with
  | none =>
    have HLNv : Hid (∀ W, Below w.heap.size w W → Calls Tryd.prog 24 #[fv] W fun e w' => e = .returned (.tuple #[.int .i64 0, .bool false, .int .i64 142]) ∧ Below W.heap.size W w') := hid' (by exact HLN.out)
    have HLNe := HLN
    clear HLN
    have HLN := HLNv
    clear HLNv
    go_enter Tryd.func7, Tryd.ntmps7
    go_upto_region 1 with fail
    obtain ⟨xb, hxb⟩ : ∃ xb, w.heap.size = xb := ⟨_, rfl⟩
    rw [hxb] at HX ⊢
    generalize w.alloc (.cells #[.int .i64 s, fv, .string b, tv] 24) = w1 at *
    have HA1 := HX
    have HB1 := HBX
    clear HX HBX hxb
    have x0 := HA1.out.cell 0 _ rfl
    have x1 := HA1.out.cell 1 _ rfl
    have x2 := HA1.out.cell 2 _ rfl
    have x3 := HA1.out.cell 3 _ rfl
    go_wp2_with fail
    refine (HS1.out _ HB1.out).mono ?_
    rintro e w2 ⟨rfl, hb2⟩
    have HB2 := hid' (below_two HB1.out hb2)
    have HA2 := hid' (HA1.out.keep hb2)
    clear hb2
    clear x0 x1 x2 x3
    cases m1
    · have HP : Hid (Hw.pieces ⟨s, fs, b, ts⟩ old false last = ([], 220)) := hid' (by unfold Hw.pieces; rw [HM1.out]; rfl)
      have x0 := HA2.out.cell 0 _ rfl
      have x1 := HA2.out.cell 1 _ rfl
      have x2 := HA2.out.cell 2 _ rfl
      have x3 := HA2.out.cell 3 _ rfl
      go_wp2
      go_ret2
      rw [HP.out]
      exact ⟨none, 0, rfl, World.ownsRow_nil _ _ _ _, HB2.out⟩
    · have x0 := HA2.out.cell 0 _ rfl
      have x1 := HA2.out.cell 1 _ rfl
      have x2 := HA2.out.cell 2 _ rfl
      have x3 := HA2.out.cell 3 _ rfl
      go_wp2_with fail
      refine (HS2.out _ HB2.out).mono ?_
      rintro e w3 ⟨rfl, hb3⟩
      have HB3 := hid' (below_two HB2.out hb3)
      have HA3 := hid' (HA2.out.keep hb3)
      clear hb3
      clear x0 x1 x2 x3
      cases m2
      · have HP : Hid (Hw.pieces ⟨s, fs, b, ts⟩ old false last = ([], 220)) := hid' (by unfold Hw.pieces; rw [HM1.out, HM2.out]; rfl)
        have x0 := HA3.out.cell 0 _ rfl
        have x1 := HA3.out.cell 1 _ rfl
        have x2 := HA3.out.cell 2 _ rfl
        have x3 := HA3.out.cell 3 _ rfl
        go_wp2
        go_ret2
        rw [HP.out]
        exact ⟨none, 0, rfl, World.ownsRow_nil _ _ _ _, HB3.out⟩
      · have x0 := HA3.out.cell 0 _ rfl
        have x1 := HA3.out.cell 1 _ rfl
        have x2 := HA3.out.cell 2 _ rfl
        have x3 := HA3.out.cell 3 _ rfl
        go_wp2_with fail
        refine (HLN.out _ HB3.out).mono ?_
        rintro e w4 ⟨rfl, hb4⟩
        have HB4 := hid' (below_two HB3.out hb4)
        have HA4 := hid' (HA3.out.keep hb4)
        clear hb4
        clear x0 x1 x2 x3
        have x0 := HA4.out.cell 0 _ rfl
        have x1 := HA4.out.cell 1 _ rfl
        have x2 := HA4.out.cell 2 _ rfl
        have x3 := HA4.out.cell 3 _ rfl
        go_wp2_with fail
        refine (HST.out _).mono ?_
        rintro e w5 ⟨rfl, hw5⟩
        subst hw5
        have HB5 := HB4
        have HA5 := HA4
        clear x0 x1 x2 x3
        have x0 := HA5.out.cell 0 _ rfl
        have x1 := HA5.out.cell 1 _ rfl
        have x2 := HA5.out.cell 2 _ rfl
        have x3 := HA5.out.cell 3 _ rfl
        go_wp2_with fail
        refine (HBA0.out _).mono ?_
        rintro e w6 ⟨rfl, hw6⟩
        subst hw6
        have HB6 := HB5
        have HA6 := HA5
        clear x0 x1 x2 x3
        have HP : Hid (Hw.pieces ⟨s, fs, b, ts⟩ old false last = ([], 142)) := hid' (by unfold Hw.pieces; simp only [HM1.out, HM2.out, HLO.out]; rfl)
        have x0 := HA6.out.cell 0 _ rfl
        have x1 := HA6.out.cell 1 _ rfl
        have x2 := HA6.out.cell 2 _ rfl
        have x3 := HA6.out.cell 3 _ rfl
        go_wp2
        go_ret2
        rw [HP.out]
        exact ⟨none, 0, rfl, World.ownsRow_nil _ _ _ _, HB6.out⟩
  | some q => cases q with
    | none =>
      have HLNv : Hid (∀ W, Below w.heap.size w W → Calls Tryd.prog 24 #[fv] W fun e w' => e = .returned (.tuple #[.int .i64 0, .bool false, .int .i64 0]) ∧ Below W.heap.size W w') := hid' (by exact HLN.out)
      have HLNe := HLN
      clear HLN
      have HLN := HLNv
      clear HLNv
      cases old
      · go_enter Tryd.func7, Tryd.ntmps7
        go_upto_region 1 with fail
        obtain ⟨xb, hxb⟩ : ∃ xb, w.heap.size = xb := ⟨_, rfl⟩
        rw [hxb] at HX ⊢
        generalize w.alloc (.cells #[.int .i64 s, fv, .string b, tv] 24) = w1 at *
        have HA1 := HX
        have HB1 := HBX
        clear HX HBX hxb
        have x0 := HA1.out.cell 0 _ rfl
        have x1 := HA1.out.cell 1 _ rfl
        have x2 := HA1.out.cell 2 _ rfl
        have x3 := HA1.out.cell 3 _ rfl
        go_wp2_with fail
        refine (HS1.out _ HB1.out).mono ?_
        rintro e w2 ⟨rfl, hb2⟩
        have HB2 := hid' (below_two HB1.out hb2)
        have HA2 := hid' (HA1.out.keep hb2)
        clear hb2
        clear x0 x1 x2 x3
        cases m1
        · have HP : Hid (Hw.pieces ⟨s, fs, b, ts⟩ false false last = ([], 220)) := hid' (by unfold Hw.pieces; rw [HM1.out]; rfl)
          have x0 := HA2.out.cell 0 _ rfl
          have x1 := HA2.out.cell 1 _ rfl
          have x2 := HA2.out.cell 2 _ rfl
          have x3 := HA2.out.cell 3 _ rfl
          go_wp2
          go_ret2
          rw [HP.out]
          exact ⟨none, 0, rfl, World.ownsRow_nil _ _ _ _, HB2.out⟩
        · have x0 := HA2.out.cell 0 _ rfl
          have x1 := HA2.out.cell 1 _ rfl
          have x2 := HA2.out.cell 2 _ rfl
          have x3 := HA2.out.cell 3 _ rfl
          go_wp2_with fail
          refine (HS2.out _ HB2.out).mono ?_
          rintro e w3 ⟨rfl, hb3⟩
          have HB3 := hid' (below_two HB2.out hb3)
          have HA3 := hid' (HA2.out.keep hb3)
          clear hb3
          clear x0 x1 x2 x3
          cases m2
          · have HP : Hid (Hw.pieces ⟨s, fs, b, ts⟩ false false last = ([], 220)) := hid' (by unfold Hw.pieces; rw [HM1.out, HM2.out]; rfl)
            have x0 := HA3.out.cell 0 _ rfl
            have x1 := HA3.out.cell 1 _ rfl
            have x2 := HA3.out.cell 2 _ rfl
            have x3 := HA3.out.cell 3 _ rfl
            go_wp2
            go_ret2
            rw [HP.out]
            exact ⟨none, 0, rfl, World.ownsRow_nil _ _ _ _, HB3.out⟩
          · have x0 := HA3.out.cell 0 _ rfl
            have x1 := HA3.out.cell 1 _ rfl
            have x2 := HA3.out.cell 2 _ rfl
            have x3 := HA3.out.cell 3 _ rfl
            go_wp2_with fail
            refine (HLN.out _ HB3.out).mono ?_
            rintro e w4 ⟨rfl, hb4⟩
            have HB4 := hid' (below_two HB3.out hb4)
            have HA4 := hid' (HA3.out.keep hb4)
            clear hb4
            clear x0 x1 x2 x3
            have x0 := HA4.out.cell 0 _ rfl
            have x1 := HA4.out.cell 1 _ rfl
            have x2 := HA4.out.cell 2 _ rfl
            have x3 := HA4.out.cell 3 _ rfl
            go_wp2_with fail
            refine (HST.out _).mono ?_
            rintro e w5 ⟨rfl, hw5⟩
            subst hw5
            have HB5 := HB4
            have HA5 := HA4
            clear x0 x1 x2 x3
            have x0 := HA5.out.cell 0 _ rfl
            have x1 := HA5.out.cell 1 _ rfl
            have x2 := HA5.out.cell 2 _ rfl
            have x3 := HA5.out.cell 3 _ rfl
            go_wp2_with fail
            refine (HBA0.out _).mono ?_
            rintro e w6 ⟨rfl, hw6⟩
            subst hw6
            have HB6 := HB5
            have HA6 := HA5
            clear x0 x1 x2 x3
            have x0 := HA6.out.cell 0 _ rfl
            have x1 := HA6.out.cell 1 _ rfl
            have x2 := HA6.out.cell 2 _ rfl
            have x3 := HA6.out.cell 3 _ rfl
            go_wp2_with (refine wpl_alloc 52 rfl rfl _ zeroEn22 ?_)
            intro yb y1 hyb hay hly
            have HAA := hid' (HA6.out.keep hly)
            have HBA := hid' (below_two HB6.out hly)
            have HAY := hid' hay
            have HYX : Hid (xb ≠ yb) := hid' (fun e => by have h1 := HA6.out.lt; omega)
            have HYG : Hid (w.heap.size ≤ yb) := hid' (by have h1 := HB6.out.size; omega)
            clear hay hly hyb x0 x1 x2 x3
            go_wp2_with (refine wpl_store 52 _ _ rfl rfl yb (en22 false last true) (by kernel_rfl) (by kernel_rfl) _ _ HAY.out sizeEn22 rfl (by simp [Value.oneCell', en22]) ?_)
            intro y2 hay2 huy2
            have HAB := hid' (huy2.keep HAA.out HYX.out)
            have HBB := hid' (HBA.out.trans (huy2.below HYG.out))
            have HAY2 := hid' hay2
            clear hay2 huy2
            unfold en22 at HAY2
            have x0 := HAB.out.cell 0 _ rfl
            have x1 := HAB.out.cell 1 _ rfl
            have x2 := HAB.out.cell 2 _ rfl
            have x3 := HAB.out.cell 3 _ rfl
            have z0 := HAY2.out.cell 0 _ rfl
            have z1 := HAY2.out.cell 1 _ rfl
            have z2 := HAY2.out.cell 2 _ rfl
            go_wp2_with (go_at_call 27; refine (HHD.out _ false last true HBB.out).mono ?_; rintro e y3 ⟨rfl, hb3⟩; refine Hid.out ?_)
            refine hid' ?_
            have HB3 := hid' (below_two HBB.out hb3)
            have HA3 := hid' (HAB.out.keep hb3)
            have HY3 := hid' (HAY2.out.keep hb3)
            clear hb3 x0 x1 x2 x3 z0 z1 z2
            obtain ⟨tp, htp⟩ : ∃ tp, Hw.top ⟨s, fs, b, ts⟩ true false last = tp := ⟨_, rfl⟩
            rw [htp]
            have HTP := hid' htp
            clear htp
            have HO1 := hid' (own_base21 (own_one22 y3 (.string ⟨tp.toArray⟩)) HB3.out.size)
            have HB4 := hid' (HB3.out.alloc HB3.out.size (.cells #[.string ⟨tp.toArray⟩] 9))
            have HA4 := hid' (HA3.out.keep (bl_alloc y3 (.cells #[.string ⟨tp.toArray⟩] 9)))
            have HY4 := hid' (HY3.out.keep (bl_alloc y3 (.cells #[.string ⟨tp.toArray⟩] 9)))
            have z0 := HY4.out.cell 0 _ rfl
            have z1 := HY4.out.cell 1 _ rfl
            have z2 := HY4.out.cell 2 _ rfl
            go_wp2_with fail
            obtain ⟨tb, htb⟩ : ∃ tb, y3.heap.size = tb := ⟨_, rfl⟩
            rw [htb] at HO1 ⊢
            generalize y3.alloc (.cells #[.string ⟨tp.toArray⟩] 9) = y4 at *
            clear htb
            refine (cchk22 false last true y4).mono ?_
            rintro e y5 ⟨rfl, hb5⟩
            have HB5 := hid' (below_two HB4.out hb5)
            have HA5 := hid' (HA4.out.keep hb5)
            have HO5 := hid' (own_same HO1.out (fun j hj => hb5.block j (own_lt HO1.out j hj)))
            clear hb5 z0 z1 z2
            have x0 := HA5.out.cell 0 _ rfl
            have x1 := HA5.out.cell 1 _ rfl
            have x2 := HA5.out.cell 2 _ rfl
            have x3 := HA5.out.cell 3 _ rfl
            go_wp2_with fail
            refine (HCK.out _ HB5.out).mono ?_
            rintro e y6 ⟨⟨po, pc, rfl, ho6⟩, hb6⟩
            have HB6 := hid' (below_two HB5.out hb6)
            have HO6 := hid' (own_same HO5.out (fun j hj => hb6.block j (own_lt HO5.out j hj)))
            have HP6 := hid' (own_base21 ho6 HB5.out.size)
            clear hb6 ho6 x0 x1 x2 x3
            have hlCK := HCKL.out
            go_wp2_with (at_builtin; refine wpl_app21 rfl _ _ 28 rfl w.heap.size w.heap.size 9 i0 (.string ⟨#[]⟩) 1 16 Tryd.underlying28 HI.out HZ0.out HZ1.out HZ2.out rfl (by decide) (.slice (some ⟨tb, 0, none⟩) 1 1) 1 _ rfl HO6.out (.slice po CK.length pc) CK.length _ rfl HP6.out (one_sC22 _) (by unfold maxLen; omega) (by omega) HB6.out.size ?_; intro v3 w9 hown3 hgrow3 hblk3; refine Hid.out ?_)
            refine hid' ?_
            have HB9 : Hid (Below w.heap.size w w9) := hid' (HB6.out.grown hgrow3 HB6.out.size (fun k hk => own_le21 HO6.out k hk))
            rw [Nat.add_comm 1] at hown3
            obtain ⟨v3o, v3c, hv3⟩ := own_shape hown3
            subst hv3
            rw [show ([Value.string ⟨tp.toArray⟩] : List Value) = sC [tp] from rfl, ← Hw.sC_app] at hown3
            have HO9 := hid' hown3
            clear hown3 hgrow3 hblk3
            have HP : Hid (Hw.pieces ⟨s, fs, b, ts⟩ false false last = (tp :: CK, 0)) := hid' (by unfold Hw.pieces; simp only [HM1.out, HM2.out, HLO.out]; simp [Hw.bare, HBR.out, Hw.opn, HTP.out, Hw.rest, HCKE.out])
            go_wp2
            go_ret2
            rw [HP.out]
            refine ⟨v3o, v3c, ?_, HO9.out, HB9.out⟩
            rfl
      · go_enter Tryd.func7, Tryd.ntmps7
        go_upto_region 1 with fail
        obtain ⟨xb, hxb⟩ : ∃ xb, w.heap.size = xb := ⟨_, rfl⟩
        rw [hxb] at HX ⊢
        generalize w.alloc (.cells #[.int .i64 s, fv, .string b, tv] 24) = w1 at *
        have HA1 := HX
        have HB1 := HBX
        clear HX HBX hxb
        have x0 := HA1.out.cell 0 _ rfl
        have x1 := HA1.out.cell 1 _ rfl
        have x2 := HA1.out.cell 2 _ rfl
        have x3 := HA1.out.cell 3 _ rfl
        go_wp2_with fail
        refine (HS1.out _ HB1.out).mono ?_
        rintro e w2 ⟨rfl, hb2⟩
        have HB2 := hid' (below_two HB1.out hb2)
        have HA2 := hid' (HA1.out.keep hb2)
        clear hb2
        clear x0 x1 x2 x3
        cases m1
        · have HP : Hid (Hw.pieces ⟨s, fs, b, ts⟩ true false last = ([], 220)) := hid' (by unfold Hw.pieces; rw [HM1.out]; rfl)
          have x0 := HA2.out.cell 0 _ rfl
          have x1 := HA2.out.cell 1 _ rfl
          have x2 := HA2.out.cell 2 _ rfl
          have x3 := HA2.out.cell 3 _ rfl
          go_wp2
          go_ret2
          rw [HP.out]
          exact ⟨none, 0, rfl, World.ownsRow_nil _ _ _ _, HB2.out⟩
        · have x0 := HA2.out.cell 0 _ rfl
          have x1 := HA2.out.cell 1 _ rfl
          have x2 := HA2.out.cell 2 _ rfl
          have x3 := HA2.out.cell 3 _ rfl
          go_wp2_with fail
          refine (HS2.out _ HB2.out).mono ?_
          rintro e w3 ⟨rfl, hb3⟩
          have HB3 := hid' (below_two HB2.out hb3)
          have HA3 := hid' (HA2.out.keep hb3)
          clear hb3
          clear x0 x1 x2 x3
          cases m2
          · have HP : Hid (Hw.pieces ⟨s, fs, b, ts⟩ true false last = ([], 220)) := hid' (by unfold Hw.pieces; rw [HM1.out, HM2.out]; rfl)
            have x0 := HA3.out.cell 0 _ rfl
            have x1 := HA3.out.cell 1 _ rfl
            have x2 := HA3.out.cell 2 _ rfl
            have x3 := HA3.out.cell 3 _ rfl
            go_wp2
            go_ret2
            rw [HP.out]
            exact ⟨none, 0, rfl, World.ownsRow_nil _ _ _ _, HB3.out⟩
          · have x0 := HA3.out.cell 0 _ rfl
            have x1 := HA3.out.cell 1 _ rfl
            have x2 := HA3.out.cell 2 _ rfl
            have x3 := HA3.out.cell 3 _ rfl
            go_wp2_with fail
            refine (HLN.out _ HB3.out).mono ?_
            rintro e w4 ⟨rfl, hb4⟩
            have HB4 := hid' (below_two HB3.out hb4)
            have HA4 := hid' (HA3.out.keep hb4)
            clear hb4
            clear x0 x1 x2 x3
            have x0 := HA4.out.cell 0 _ rfl
            have x1 := HA4.out.cell 1 _ rfl
            have x2 := HA4.out.cell 2 _ rfl
            have x3 := HA4.out.cell 3 _ rfl
            go_wp2_with fail
            refine (HST.out _).mono ?_
            rintro e w5 ⟨rfl, hw5⟩
            subst hw5
            have HB5 := HB4
            have HA5 := HA4
            clear x0 x1 x2 x3
            have x0 := HA5.out.cell 0 _ rfl
            have x1 := HA5.out.cell 1 _ rfl
            have x2 := HA5.out.cell 2 _ rfl
            have x3 := HA5.out.cell 3 _ rfl
            go_wp2_with fail
            refine (HBA0.out _).mono ?_
            rintro e w6 ⟨rfl, hw6⟩
            subst hw6
            have HB6 := HB5
            have HA6 := HA5
            clear x0 x1 x2 x3
            have x0 := HA6.out.cell 0 _ rfl
            have x1 := HA6.out.cell 1 _ rfl
            have x2 := HA6.out.cell 2 _ rfl
            have x3 := HA6.out.cell 3 _ rfl
            go_wp2_with (refine wpl_alloc 52 rfl rfl _ zeroEn22 ?_)
            intro yb y1 hyb hay hly
            have HAA := hid' (HA6.out.keep hly)
            have HBA := hid' (below_two HB6.out hly)
            have HAY := hid' hay
            have HYX : Hid (xb ≠ yb) := hid' (fun e => by have h1 := HA6.out.lt; omega)
            have HYG : Hid (w.heap.size ≤ yb) := hid' (by have h1 := HB6.out.size; omega)
            clear hay hly hyb x0 x1 x2 x3
            go_wp2_with (refine wpl_store 52 _ _ rfl rfl yb (en22 true last true) (by kernel_rfl) (by kernel_rfl) _ _ HAY.out sizeEn22 rfl (by simp [Value.oneCell', en22]) ?_)
            intro y2 hay2 huy2
            have HAB := hid' (huy2.keep HAA.out HYX.out)
            have HBB := hid' (HBA.out.trans (huy2.below HYG.out))
            have HAY2 := hid' hay2
            clear hay2 huy2
            unfold en22 at HAY2
            have x0 := HAB.out.cell 0 _ rfl
            have x1 := HAB.out.cell 1 _ rfl
            have x2 := HAB.out.cell 2 _ rfl
            have x3 := HAB.out.cell 3 _ rfl
            have z0 := HAY2.out.cell 0 _ rfl
            have z1 := HAY2.out.cell 1 _ rfl
            have z2 := HAY2.out.cell 2 _ rfl
            go_wp2_with (go_at_call 27; refine (HHD.out _ true last true HBB.out).mono ?_; rintro e y3 ⟨rfl, hb3⟩; refine Hid.out ?_)
            refine hid' ?_
            have HB3 := hid' (below_two HBB.out hb3)
            have HA3 := hid' (HAB.out.keep hb3)
            have HY3 := hid' (HAY2.out.keep hb3)
            clear hb3 x0 x1 x2 x3 z0 z1 z2
            obtain ⟨tp, htp⟩ : ∃ tp, Hw.top ⟨s, fs, b, ts⟩ true true last = tp := ⟨_, rfl⟩
            rw [htp]
            have HTP := hid' htp
            clear htp
            have HO1 := hid' (own_base21 (own_one22 y3 (.string ⟨tp.toArray⟩)) HB3.out.size)
            have HB4 := hid' (HB3.out.alloc HB3.out.size (.cells #[.string ⟨tp.toArray⟩] 9))
            have HA4 := hid' (HA3.out.keep (bl_alloc y3 (.cells #[.string ⟨tp.toArray⟩] 9)))
            have HY4 := hid' (HY3.out.keep (bl_alloc y3 (.cells #[.string ⟨tp.toArray⟩] 9)))
            have z0 := HY4.out.cell 0 _ rfl
            have z1 := HY4.out.cell 1 _ rfl
            have z2 := HY4.out.cell 2 _ rfl
            go_wp2_with fail
            obtain ⟨tb, htb⟩ : ∃ tb, y3.heap.size = tb := ⟨_, rfl⟩
            rw [htb] at HO1 ⊢
            generalize y3.alloc (.cells #[.string ⟨tp.toArray⟩] 9) = y4 at *
            clear htb
            refine (cchk22 true last true y4).mono ?_
            rintro e y5 ⟨rfl, hb5⟩
            have HB5 := hid' (below_two HB4.out hb5)
            have HA5 := hid' (HA4.out.keep hb5)
            have HO5 := hid' (own_same HO1.out (fun j hj => hb5.block j (own_lt HO1.out j hj)))
            clear hb5 z0 z1 z2
            have x0 := HA5.out.cell 0 _ rfl
            have x1 := HA5.out.cell 1 _ rfl
            have x2 := HA5.out.cell 2 _ rfl
            have x3 := HA5.out.cell 3 _ rfl
            go_wp2_with fail
            refine (HPT.out _).mono ?_
            rintro e y6 ⟨⟨po, pc, rfl, ho6⟩, hb6⟩
            have HB6 := hid' (below_two HB5.out hb6)
            have HO6 := hid' (own_same HO5.out (fun j hj => hb6.block j (own_lt HO5.out j hj)))
            have HP6 := hid' (own_base21 ho6 HB5.out.size)
            clear hb6 ho6 x0 x1 x2 x3
            have hlPT := HPTL.out
            go_wp2_with (at_builtin; refine wpl_app21 rfl _ _ 28 rfl w.heap.size w.heap.size 9 i0 (.string ⟨#[]⟩) 1 16 Tryd.underlying28 HI.out HZ0.out HZ1.out HZ2.out rfl (by decide) (.slice (some ⟨tb, 0, none⟩) 1 1) 1 _ rfl HO6.out (.slice po PT.length pc) PT.length _ rfl HP6.out (one_sC22 _) (by unfold maxLen; omega) (by omega) HB6.out.size ?_; intro v3 w9 hown3 hgrow3 hblk3; refine Hid.out ?_)
            refine hid' ?_
            have HB9 : Hid (Below w.heap.size w w9) := hid' (HB6.out.grown hgrow3 HB6.out.size (fun k hk => own_le21 HO6.out k hk))
            rw [Nat.add_comm 1] at hown3
            obtain ⟨v3o, v3c, hv3⟩ := own_shape hown3
            subst hv3
            rw [show ([Value.string ⟨tp.toArray⟩] : List Value) = sC [tp] from rfl, ← Hw.sC_app] at hown3
            have HO9 := hid' hown3
            clear hown3 hgrow3 hblk3
            have HP : Hid (Hw.pieces ⟨s, fs, b, ts⟩ true false last = (tp :: PT, 0)) := hid' (by unfold Hw.pieces; simp only [HM1.out, HM2.out, HLO.out]; simp [Hw.bare, HBR.out, Hw.opn, HTP.out, Hw.rest, HPTE.out])
            go_wp2
            go_ret2
            rw [HP.out]
            refine ⟨v3o, v3c, ?_, HO9.out, HB9.out⟩
            rfl
    | some v =>
      obtain ⟨nv, hnv⟩ : ∃ nv, (Tx.num 10 v.data.toList).1 = nv := ⟨_, rfl⟩
      have HNV := hid' hnv
      have HLNv : Hid (∀ W, Below w.heap.size w W → Calls Tryd.prog 24 #[fv] W fun e w' => e = .returned (.tuple #[.int .i64 nv, .bool true, .int .i64 0]) ∧ Below W.heap.size W w') := hid' (by rw [← hnv]; exact HLN.out)
      have HLNe := HLN
      clear HLN
      have HLN := HLNv
      clear HLNv
      clear hnv
      cases c2 : (nv == (b.size : Int))
      · have c3 : (nv != (b.size : Int)) = true := by unfold bne; rw [c2]; rfl
        have HC2 := hid' c2
        have c4 : ¬ nv = (b.size : Int) := by intro e; rw [e] at c2; simp at c2
        go_enter Tryd.func7, Tryd.ntmps7
        go_upto_region 1 with fail
        obtain ⟨xb, hxb⟩ : ∃ xb, w.heap.size = xb := ⟨_, rfl⟩
        rw [hxb] at HX ⊢
        generalize w.alloc (.cells #[.int .i64 s, fv, .string b, tv] 24) = w1 at *
        have HA1 := HX
        have HB1 := HBX
        clear HX HBX hxb
        have x0 := HA1.out.cell 0 _ rfl
        have x1 := HA1.out.cell 1 _ rfl
        have x2 := HA1.out.cell 2 _ rfl
        have x3 := HA1.out.cell 3 _ rfl
        go_wp2_with fail
        refine (HS1.out _ HB1.out).mono ?_
        rintro e w2 ⟨rfl, hb2⟩
        have HB2 := hid' (below_two HB1.out hb2)
        have HA2 := hid' (HA1.out.keep hb2)
        clear hb2
        clear x0 x1 x2 x3
        cases m1
        · have HP : Hid (Hw.pieces ⟨s, fs, b, ts⟩ old false last = ([], 220)) := hid' (by unfold Hw.pieces; rw [HM1.out]; rfl)
          have x0 := HA2.out.cell 0 _ rfl
          have x1 := HA2.out.cell 1 _ rfl
          have x2 := HA2.out.cell 2 _ rfl
          have x3 := HA2.out.cell 3 _ rfl
          go_wp2
          go_ret2
          rw [HP.out]
          exact ⟨none, 0, rfl, World.ownsRow_nil _ _ _ _, HB2.out⟩
        · have x0 := HA2.out.cell 0 _ rfl
          have x1 := HA2.out.cell 1 _ rfl
          have x2 := HA2.out.cell 2 _ rfl
          have x3 := HA2.out.cell 3 _ rfl
          go_wp2_with fail
          refine (HS2.out _ HB2.out).mono ?_
          rintro e w3 ⟨rfl, hb3⟩
          have HB3 := hid' (below_two HB2.out hb3)
          have HA3 := hid' (HA2.out.keep hb3)
          clear hb3
          clear x0 x1 x2 x3
          cases m2
          · have HP : Hid (Hw.pieces ⟨s, fs, b, ts⟩ old false last = ([], 220)) := hid' (by unfold Hw.pieces; rw [HM1.out, HM2.out]; rfl)
            have x0 := HA3.out.cell 0 _ rfl
            have x1 := HA3.out.cell 1 _ rfl
            have x2 := HA3.out.cell 2 _ rfl
            have x3 := HA3.out.cell 3 _ rfl
            go_wp2
            go_ret2
            rw [HP.out]
            exact ⟨none, 0, rfl, World.ownsRow_nil _ _ _ _, HB3.out⟩
          · have x0 := HA3.out.cell 0 _ rfl
            have x1 := HA3.out.cell 1 _ rfl
            have x2 := HA3.out.cell 2 _ rfl
            have x3 := HA3.out.cell 3 _ rfl
            go_wp2_with fail
            refine (HLN.out _ HB3.out).mono ?_
            rintro e w4 ⟨rfl, hb4⟩
            have HB4 := hid' (below_two HB3.out hb4)
            have HA4 := hid' (HA3.out.keep hb4)
            clear hb4
            clear x0 x1 x2 x3
            have x0 := HA4.out.cell 0 _ rfl
            have x1 := HA4.out.cell 1 _ rfl
            have x2 := HA4.out.cell 2 _ rfl
            have x3 := HA4.out.cell 3 _ rfl
            go_wp2_with fail
            refine (HST.out _).mono ?_
            rintro e w5 ⟨rfl, hw5⟩
            subst hw5
            have HB5 := HB4
            have HA5 := HA4
            clear x0 x1 x2 x3
            have x0 := HA5.out.cell 0 _ rfl
            have x1 := HA5.out.cell 1 _ rfl
            have x2 := HA5.out.cell 2 _ rfl
            have x3 := HA5.out.cell 3 _ rfl
            go_wp2_with fail
            refine (HBA0.out _).mono ?_
            rintro e w6 ⟨rfl, hw6⟩
            subst hw6
            have HB6 := HB5
            have HA6 := HA5
            clear x0 x1 x2 x3
            have HP : Hid (Hw.pieces ⟨s, fs, b, ts⟩ old false last = ([], 142)) := hid' (by unfold Hw.pieces; simp only [HM1.out, HM2.out, HLO.out]; simp [Hw.bare, HBR.out, Hw.lenI, HNV.out, HC2.out])
            have x0 := HA6.out.cell 0 _ rfl
            have x1 := HA6.out.cell 1 _ rfl
            have x2 := HA6.out.cell 2 _ rfl
            have x3 := HA6.out.cell 3 _ rfl
            go_wp2
            go_ret2
            rw [HP.out]
            exact ⟨none, 0, rfl, World.ownsRow_nil _ _ _ _, HB6.out⟩
      · have c4 : nv = (b.size : Int) := eq_of_beq c2
        have c3 : (nv != (b.size : Int)) = false := by unfold bne; rw [c2]; rfl
        have HEQ : Hid ((Tx.num 10 v.data.toList).1 = (b.size : Int)) := hid' (by rw [HNV.out]; exact c4)
        subst c4
        clear c2
        go_enter Tryd.func7, Tryd.ntmps7
        go_upto_region 1 with fail
        obtain ⟨xb, hxb⟩ : ∃ xb, w.heap.size = xb := ⟨_, rfl⟩
        rw [hxb] at HX ⊢
        generalize w.alloc (.cells #[.int .i64 s, fv, .string b, tv] 24) = w1 at *
        have HA1 := HX
        have HB1 := HBX
        clear HX HBX hxb
        have x0 := HA1.out.cell 0 _ rfl
        have x1 := HA1.out.cell 1 _ rfl
        have x2 := HA1.out.cell 2 _ rfl
        have x3 := HA1.out.cell 3 _ rfl
        go_wp2_with fail
        refine (HS1.out _ HB1.out).mono ?_
        rintro e w2 ⟨rfl, hb2⟩
        have HB2 := hid' (below_two HB1.out hb2)
        have HA2 := hid' (HA1.out.keep hb2)
        clear hb2
        clear x0 x1 x2 x3
        cases m1
        · have HP : Hid (Hw.pieces ⟨s, fs, b, ts⟩ old false last = ([], 220)) := hid' (by unfold Hw.pieces; rw [HM1.out]; rfl)
          have x0 := HA2.out.cell 0 _ rfl
          have x1 := HA2.out.cell 1 _ rfl
          have x2 := HA2.out.cell 2 _ rfl
          have x3 := HA2.out.cell 3 _ rfl
          go_wp2
          go_ret2
          rw [HP.out]
          exact ⟨none, 0, rfl, World.ownsRow_nil _ _ _ _, HB2.out⟩
        · have x0 := HA2.out.cell 0 _ rfl
          have x1 := HA2.out.cell 1 _ rfl
          have x2 := HA2.out.cell 2 _ rfl
          have x3 := HA2.out.cell 3 _ rfl
          go_wp2_with fail
          refine (HS2.out _ HB2.out).mono ?_
          rintro e w3 ⟨rfl, hb3⟩
          have HB3 := hid' (below_two HB2.out hb3)
          have HA3 := hid' (HA2.out.keep hb3)
          clear hb3
          clear x0 x1 x2 x3
          cases m2
          · have HP : Hid (Hw.pieces ⟨s, fs, b, ts⟩ old false last = ([], 220)) := hid' (by unfold Hw.pieces; rw [HM1.out, HM2.out]; rfl)
            have x0 := HA3.out.cell 0 _ rfl
            have x1 := HA3.out.cell 1 _ rfl
            have x2 := HA3.out.cell 2 _ rfl
            have x3 := HA3.out.cell 3 _ rfl
            go_wp2
            go_ret2
            rw [HP.out]
            exact ⟨none, 0, rfl, World.ownsRow_nil _ _ _ _, HB3.out⟩
          · have x0 := HA3.out.cell 0 _ rfl
            have x1 := HA3.out.cell 1 _ rfl
            have x2 := HA3.out.cell 2 _ rfl
            have x3 := HA3.out.cell 3 _ rfl
            go_wp2_with fail
            refine (HLN.out _ HB3.out).mono ?_
            rintro e w4 ⟨rfl, hb4⟩
            have HB4 := hid' (below_two HB3.out hb4)
            have HA4 := hid' (HA3.out.keep hb4)
            clear hb4
            clear x0 x1 x2 x3
            have x0 := HA4.out.cell 0 _ rfl
            have x1 := HA4.out.cell 1 _ rfl
            have x2 := HA4.out.cell 2 _ rfl
            have x3 := HA4.out.cell 3 _ rfl
            go_wp2_with fail
            refine (HST.out _).mono ?_
            rintro e w5 ⟨rfl, hw5⟩
            subst hw5
            have HB5 := HB4
            have HA5 := HA4
            clear x0 x1 x2 x3
            have x0 := HA5.out.cell 0 _ rfl
            have x1 := HA5.out.cell 1 _ rfl
            have x2 := HA5.out.cell 2 _ rfl
            have x3 := HA5.out.cell 3 _ rfl
            go_wp2_with fail
            refine (HBA0.out _).mono ?_
            rintro e w6 ⟨rfl, hw6⟩
            subst hw6
            have HB6 := HB5
            have HA6 := HA5
            clear x0 x1 x2 x3
            have x0 := HA6.out.cell 0 _ rfl
            have x1 := HA6.out.cell 1 _ rfl
            have x2 := HA6.out.cell 2 _ rfl
            have x3 := HA6.out.cell 3 _ rfl
            go_wp2_with (refine wpl_alloc 52 rfl rfl _ zeroEn22 ?_)
            intro yb y1 hyb hay hly
            have HAA := hid' (HA6.out.keep hly)
            have HBA := hid' (below_two HB6.out hly)
            have HAY := hid' hay
            have HYX : Hid (xb ≠ yb) := hid' (fun e => by have h1 := HA6.out.lt; omega)
            have HYG : Hid (w.heap.size ≤ yb) := hid' (by have h1 := HB6.out.size; omega)
            clear hay hly hyb x0 x1 x2 x3
            go_wp2_with (refine wpl_store 52 _ _ rfl rfl yb (en22 old last false) (by kernel_rfl) (by kernel_rfl) _ _ HAY.out sizeEn22 rfl (by simp [Value.oneCell', en22]) ?_)
            intro y2 hay2 huy2
            have HAB := hid' (huy2.keep HAA.out HYX.out)
            have HBB := hid' (HBA.out.trans (huy2.below HYG.out))
            have HAY2 := hid' hay2
            clear hay2 huy2
            unfold en22 at HAY2
            have x0 := HAB.out.cell 0 _ rfl
            have x1 := HAB.out.cell 1 _ rfl
            have x2 := HAB.out.cell 2 _ rfl
            have x3 := HAB.out.cell 3 _ rfl
            have z0 := HAY2.out.cell 0 _ rfl
            have z1 := HAY2.out.cell 1 _ rfl
            have z2 := HAY2.out.cell 2 _ rfl
            go_wp2_with (go_at_call 27; refine (HHD.out _ old last false HBB.out).mono ?_; rintro e y3 ⟨rfl, hb3⟩; refine Hid.out ?_)
            refine hid' ?_
            have HB3 := hid' (below_two HBB.out hb3)
            have HA3 := hid' (HAB.out.keep hb3)
            have HY3 := hid' (HAY2.out.keep hb3)
            clear hb3 x0 x1 x2 x3 z0 z1 z2
            obtain ⟨tp, htp⟩ : ∃ tp, Hw.top ⟨s, fs, b, ts⟩ false old last = tp := ⟨_, rfl⟩
            rw [htp]
            have HTP := hid' htp
            clear htp
            have HO1 := hid' (own_base21 (own_one22 y3 (.string ⟨tp.toArray⟩)) HB3.out.size)
            have HB4 := hid' (HB3.out.alloc HB3.out.size (.cells #[.string ⟨tp.toArray⟩] 9))
            have HA4 := hid' (HA3.out.keep (bl_alloc y3 (.cells #[.string ⟨tp.toArray⟩] 9)))
            have HY4 := hid' (HY3.out.keep (bl_alloc y3 (.cells #[.string ⟨tp.toArray⟩] 9)))
            have z0 := HY4.out.cell 0 _ rfl
            have z1 := HY4.out.cell 1 _ rfl
            have z2 := HY4.out.cell 2 _ rfl
            go_wp2_with fail
            obtain ⟨tb, htb⟩ : ∃ tb, y3.heap.size = tb := ⟨_, rfl⟩
            rw [htb] at HO1 ⊢
            generalize y3.alloc (.cells #[.string ⟨tp.toArray⟩] 9) = y4 at *
            clear htb
            refine (cchk22 old last false y4).mono ?_
            rintro e y5 ⟨rfl, hb5⟩
            have HB5 := hid' (below_two HB4.out hb5)
            have HA5 := hid' (HA4.out.keep hb5)
            have HO5 := hid' (own_same HO1.out (fun j hj => hb5.block j (own_lt HO1.out j hj)))
            clear hb5 z0 z1 z2
            have x0 := HA5.out.cell 0 _ rfl
            have x1 := HA5.out.cell 1 _ rfl
            have x2 := HA5.out.cell 2 _ rfl
            have x3 := HA5.out.cell 3 _ rfl
            go_wp2_with fail
            refine (HPT.out _).mono ?_
            rintro e y6 ⟨⟨po, pc, rfl, ho6⟩, hb6⟩
            have HB6 := hid' (below_two HB5.out hb6)
            have HO6 := hid' (own_same HO5.out (fun j hj => hb6.block j (own_lt HO5.out j hj)))
            have HP6 := hid' (own_base21 ho6 HB5.out.size)
            clear hb6 ho6 x0 x1 x2 x3
            have hlPT := HPTL.out
            go_wp2_with (at_builtin; refine wpl_app21 rfl _ _ 28 rfl w.heap.size w.heap.size 9 i0 (.string ⟨#[]⟩) 1 16 Tryd.underlying28 HI.out HZ0.out HZ1.out HZ2.out rfl (by decide) (.slice (some ⟨tb, 0, none⟩) 1 1) 1 _ rfl HO6.out (.slice po PT.length pc) PT.length _ rfl HP6.out (one_sC22 _) (by unfold maxLen; omega) (by omega) HB6.out.size ?_; intro v3 w9 hown3 hgrow3 hblk3; refine Hid.out ?_)
            refine hid' ?_
            have HB9 : Hid (Below w.heap.size w w9) := hid' (HB6.out.grown hgrow3 HB6.out.size (fun k hk => own_le21 HO6.out k hk))
            rw [Nat.add_comm 1] at hown3
            obtain ⟨v3o, v3c, hv3⟩ := own_shape hown3
            subst hv3
            rw [show ([Value.string ⟨tp.toArray⟩] : List Value) = sC [tp] from rfl, ← Hw.sC_app] at hown3
            have HO9 := hid' hown3
            clear hown3 hgrow3 hblk3
            have HP : Hid (Hw.pieces ⟨s, fs, b, ts⟩ old false last = (tp :: PT, 0)) := hid' (by unfold Hw.pieces; simp only [HM1.out, HM2.out, HLO.out]; simp [Hw.bare, HBR.out, Hw.opn, HTP.out, HEQ.out, Hw.lenI, Hw.rest, HPTE.out])
            go_wp2
            go_ret2
            rw [HP.out]
            refine ⟨v3o, v3c, ?_, HO9.out, HB9.out⟩
            rfl

end Go.Proofs.YtbpdhcfmdkmoiaaDoor
