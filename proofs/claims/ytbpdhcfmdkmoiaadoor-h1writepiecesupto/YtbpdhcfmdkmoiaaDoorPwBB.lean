/-
  The document's Pieces: by its contract.
-/
import Derived.Test.YtbpdhcfmdkmoiaaDoorPwAR
import Derived.Test.YtbpdhcfmdkmoiaaDoorPwBA
namespace Go.Proofs.YtbpdhcfmdkmoiaaDoor
open Go.RowKit

set_option maxHeartbeats 16000000 in
set_option maxRecDepth 20000 in
theorem rpieces22a (s : Int) (fv : Value) (b : ByteArray) (tv : Value) (fs ts : List Fd) (old head last : Bool) (w : World) (h1 : FW w fv fs) (h2 : FW w tv ts) (k1 : FO22 fs) (k2 : FO22 ts) (hb : b.size ≤ 1073741824) (hbb : head = true ∨ Hw.bare0 (Hw.stat s) = true) :
    Calls Tryd.prog 8 #[.agg (rp22 s fv b tv), .bool old, .bool head, .bool last] w fun e w' => ∃ ao cap, e = .returned (.tuple #[.slice ao (Hw.pieces ⟨s, fs, b, ts⟩ old head last).1.length cap, .int .i64 (Hw.pieces ⟨s, fs, b, ts⟩ old head last).2]) ∧ w'.ownsRow w.heap.size 9 1 (.slice ao (Hw.pieces ⟨s, fs, b, ts⟩ old head last).1.length cap) (Hw.pieces ⟨s, fs, b, ts⟩ old head last).1.length (sC (Hw.pieces ⟨s, fs, b, ts⟩ old head last).1) ∧ Below w.heap.size w w' := by
  obtain ⟨i0, hi0, hz0, hz1, hz2⟩ := minfo_parts infoS22
  have HI := hid' hi0
  have HZ0 := hid' hz0
  have HZ1 := hid' hz1
  have HZ2 := hid' hz2
  obtain ⟨m1, hm1⟩ : ∃ m1, Hw.may fs = m1 := ⟨_, rfl⟩
  obtain ⟨m2, hm2⟩ : ∃ m2, Hw.may ts = m2 := ⟨_, rfl⟩
  obtain ⟨o, ho⟩ : ∃ o, Ms.lenGo none fs = o := ⟨_, rfl⟩
  obtain ⟨t, ht⟩ : ∃ t, Hw.stat s = t := ⟨_, rfl⟩
  obtain ⟨A, hA⟩ : ∃ A, Hw.line1 s = A := ⟨_, rfl⟩
  obtain ⟨F, hF⟩ : ∃ F, Hw.lns fs = F := ⟨_, rfl⟩
  obtain ⟨E, hE⟩ : ∃ E, Hw.lns ts = E := ⟨_, rfl⟩
  obtain ⟨B, hBB⟩ : ∃ B, b.data.toList = B := ⟨_, rfl⟩
  have HM1 := hid' hm1
  have HM2 := hid' hm2
  have HLO := hid' ho
  have HBE := hid' hBB
  have HBL : Hid (b.size = B.length) := hid' (by rw [← hBB, ← Lib.size_eq])
  have HBS : Hid (b.size ≤ 1073741824) := hid' hb
  have HLA := hid' hA
  have HLF := hid' hF
  have HLE := hid' hE
  have HAF : Hid (A.length ≤ 64 ∧ F.length ≤ 70368744177664) := hid' ⟨by rw [← hA]; exact Hw.line1_len s, by rw [← hF]; exact k1.lns⟩
  have kk1 : ¬ 9223372036854775807 < A.length + F.length := by have := HAF.out; omega
  have HSTB : Hid (100 ≤ t) := hid' (by rw [← ht]; exact (Hw.stat_bd s).1)
  have HS1 := hid' (fun W (hw : Below w.heap.size w W) => rmay22 fv fs m1 hm1 W (h1.keep hw) k1.len k1.sz)
  have HS2 := hid' (fun W (hw : Below w.heap.size w W) => rmay22 tv ts m2 hm2 W (h2.keep hw) k2.len k2.sz)
  have HLN := hid' (fun W (hw : Below w.heap.size w W) => rlen14 (fun s W h => rNumber_any s W h) fv fs o ho W (h1.keep hw) k1.len k1.sz)
  have HST := hid' (fun W => rstat22 s W)
  rw [ht] at HST
  have HFI := hid' (fun W => rline22 s W)
  rw [hA] at HFI
  have HLI := hid' (fun W (hw : Below w.heap.size w W) => rlns22 fv fs W (h1.keep hw) k1.len (fun f hf => (k1.sz f hf).1) k1.lns)
  rw [hF] at HLI
  have HLT2 := hid' (fun W (hw : Below w.heap.size w W) => rlns22 tv ts W (h2.keep hw) k2.len (fun f hf => (k2.sz f hf).1) k2.lns)
  rw [hE] at HLT2
  have HEL : Hid (E.length ≤ 70368744177664) := hid' (by rw [← hE]; exact k2.lns)
  have HX := hid' (show Ar (w.alloc (.cells (rp22 s fv b tv) 24)) w.heap.size 24 (rp22 s fv b tv) from heap_alloc_last w _)
  have HBX := hid' (bl_alloc w (.cells (rp22 s fv b tv) 24))
  have HTS := hid' ht
  clear h1 h2 k1 k2 hb hm1 hm2 ho hA hF hE hBB hi0 hz0 hz1 hz2 ht
  unfold rp22 at *
  cases head
  rotate_left
  · have HBR : Hid (True) := hid' trivial
    cases o with
    | none =>
      have HLNv : Hid (∀ W, Below w.heap.size w W → Calls Tryd.prog 21 #[fv] W fun e w' => e = .returned (.tuple #[.int .i64 0, .bool false, .int .i64 142]) ∧ Below W.heap.size W w') := hid' (by exact HLN.out)
      have HLNe := HLN
      clear HLN
      have HLN := HLNv
      clear HLNv
      go_enter Tryd.func8, Tryd.ntmps8
      go_upto_region 1 with fail
      obtain ⟨xb, hxb⟩ : ∃ xb, w.heap.size = xb := ⟨_, rfl⟩
      rw [hxb] at HX ⊢
      generalize w.alloc (.cells #[.int .i64 s, fv, .string b, tv] 24) = w1 at *
      have HA1 := HX
      have HB1 := HBX
      clear HX HBX hxb
      have x0 := HA1.out.cell 0 _ rfl
      have x1 := HA1.out.cell 1 _ rfl
      have x2 := HA1.out.cell 2 _ rfl
      have x3 := HA1.out.cell 3 _ rfl
      go_wp2_with fail
      refine (HS1.out _ HB1.out).mono ?_
      rintro e w2 ⟨rfl, hw2⟩
      subst hw2
      have HB2 := HB1
      have HA2 := HA1
      clear x0 x1 x2 x3
      cases m1
      · have HP : Hid (Hw.pieces ⟨s, fs, b, ts⟩ old true last = ([], 220)) := hid' (by unfold Hw.pieces; rw [HM1.out]; rfl)
        have x0 := HA2.out.cell 0 _ rfl
        have x1 := HA2.out.cell 1 _ rfl
        have x2 := HA2.out.cell 2 _ rfl
        have x3 := HA2.out.cell 3 _ rfl
        go_wp2
        go_ret2
        rw [HP.out]
        exact ⟨none, 0, rfl, World.ownsRow_nil _ _ _ _, HB2.out⟩
      · have x0 := HA2.out.cell 0 _ rfl
        have x1 := HA2.out.cell 1 _ rfl
        have x2 := HA2.out.cell 2 _ rfl
        have x3 := HA2.out.cell 3 _ rfl
        go_wp2_with fail
        refine (HS2.out _ HB2.out).mono ?_
        rintro e w3 ⟨rfl, hw3⟩
        subst hw3
        have HB3 := HB2
        have HA3 := HA2
        clear x0 x1 x2 x3
        cases m2
        · have HP : Hid (Hw.pieces ⟨s, fs, b, ts⟩ old true last = ([], 220)) := hid' (by unfold Hw.pieces; rw [HM1.out, HM2.out]; rfl)
          have x0 := HA3.out.cell 0 _ rfl
          have x1 := HA3.out.cell 1 _ rfl
          have x2 := HA3.out.cell 2 _ rfl
          have x3 := HA3.out.cell 3 _ rfl
          go_wp2
          go_ret2
          rw [HP.out]
          exact ⟨none, 0, rfl, World.ownsRow_nil _ _ _ _, HB3.out⟩
        · have x0 := HA3.out.cell 0 _ rfl
          have x1 := HA3.out.cell 1 _ rfl
          have x2 := HA3.out.cell 2 _ rfl
          have x3 := HA3.out.cell 3 _ rfl
          go_wp2_with fail
          refine (HST.out _).mono ?_
          rintro e w4 ⟨rfl, hw4⟩
          subst hw4
          have HB4 := HB3
          have HA4 := HA3
          clear x0 x1 x2 x3
          have x0 := HA4.out.cell 0 _ rfl
          have x1 := HA4.out.cell 1 _ rfl
          have x2 := HA4.out.cell 2 _ rfl
          have x3 := HA4.out.cell 3 _ rfl
          go_wp2_with fail
          refine (HLN.out _ HB4.out).mono ?_
          rintro e w4b ⟨rfl, hb4b⟩
          have HB4b := hid' (below_two HB4.out hb4b)
          have HA4b := hid' (HA4.out.keep hb4b)
          clear hb4b
          clear x0 x1 x2 x3
          have HP : Hid (Hw.pieces ⟨s, fs, b, ts⟩ old true last = ([], 142)) := hid' (by unfold Hw.pieces; simp only [HM1.out, HM2.out, HLO.out]; rfl)
          have x0 := HA4b.out.cell 0 _ rfl
          have x1 := HA4b.out.cell 1 _ rfl
          have x2 := HA4b.out.cell 2 _ rfl
          have x3 := HA4b.out.cell 3 _ rfl
          go_wp2
          go_ret2
          rw [HP.out]
          exact ⟨none, 0, rfl, World.ownsRow_nil _ _ _ _, HB4b.out⟩
    | some q =>
      obtain ⟨nv, lg, hnl⟩ : ∃ nv lg, Ms.lenV (some q) = .tuple #[.int .i64 nv, .bool lg, .int .i64 0] := by cases q <;> exact ⟨_, _, rfl⟩
      have HLNv : Hid (∀ W, Below w.heap.size w W → Calls Tryd.prog 21 #[fv] W fun e w' => e = .returned (.tuple #[.int .i64 nv, .bool lg, .int .i64 0]) ∧ Below W.heap.size W w') := hid' (by rw [← hnl]; exact HLN.out)
      have HLNe := HLN
      clear HLN
      have HLN := HLNv
      clear HLNv
      clear hnl
      cases last
      · cases old
        · go_enter Tryd.func8, Tryd.ntmps8
          go_upto_region 1 with fail
          obtain ⟨xb, hxb⟩ : ∃ xb, w.heap.size = xb := ⟨_, rfl⟩
          rw [hxb] at HX ⊢
          generalize w.alloc (.cells #[.int .i64 s, fv, .string b, tv] 24) = w1 at *
          have HA1 := HX
          have HB1 := HBX
          clear HX HBX hxb
          have x0 := HA1.out.cell 0 _ rfl
          have x1 := HA1.out.cell 1 _ rfl
          have x2 := HA1.out.cell 2 _ rfl
          have x3 := HA1.out.cell 3 _ rfl
          go_wp2_with fail
          refine (HS1.out _ HB1.out).mono ?_
          rintro e w2 ⟨rfl, hw2⟩
          subst hw2
          have HB2 := HB1
          have HA2 := HA1
          clear x0 x1 x2 x3
          cases m1
          · have HP : Hid (Hw.pieces ⟨s, fs, b, ts⟩ false true false = ([], 220)) := hid' (by unfold Hw.pieces; rw [HM1.out]; rfl)
            have x0 := HA2.out.cell 0 _ rfl
            have x1 := HA2.out.cell 1 _ rfl
            have x2 := HA2.out.cell 2 _ rfl
            have x3 := HA2.out.cell 3 _ rfl
            go_wp2
            go_ret2
            rw [HP.out]
            exact ⟨none, 0, rfl, World.ownsRow_nil _ _ _ _, HB2.out⟩
          · have x0 := HA2.out.cell 0 _ rfl
            have x1 := HA2.out.cell 1 _ rfl
            have x2 := HA2.out.cell 2 _ rfl
            have x3 := HA2.out.cell 3 _ rfl
            go_wp2_with fail
            refine (HS2.out _ HB2.out).mono ?_
            rintro e w3 ⟨rfl, hw3⟩
            subst hw3
            have HB3 := HB2
            have HA3 := HA2
            clear x0 x1 x2 x3
            cases m2
            · have HP : Hid (Hw.pieces ⟨s, fs, b, ts⟩ false true false = ([], 220)) := hid' (by unfold Hw.pieces; rw [HM1.out, HM2.out]; rfl)
              have x0 := HA3.out.cell 0 _ rfl
              have x1 := HA3.out.cell 1 _ rfl
              have x2 := HA3.out.cell 2 _ rfl
              have x3 := HA3.out.cell 3 _ rfl
              go_wp2
              go_ret2
              rw [HP.out]
              exact ⟨none, 0, rfl, World.ownsRow_nil _ _ _ _, HB3.out⟩
            · have x0 := HA3.out.cell 0 _ rfl
              have x1 := HA3.out.cell 1 _ rfl
              have x2 := HA3.out.cell 2 _ rfl
              have x3 := HA3.out.cell 3 _ rfl
              go_wp2_with fail
              refine (HST.out _).mono ?_
              rintro e w4 ⟨rfl, hw4⟩
              subst hw4
              have HB4 := HB3
              have HA4 := HA3
              clear x0 x1 x2 x3
              have x0 := HA4.out.cell 0 _ rfl
              have x1 := HA4.out.cell 1 _ rfl
              have x2 := HA4.out.cell 2 _ rfl
              have x3 := HA4.out.cell 3 _ rfl
              go_wp2_with fail
              refine (HLN.out _ HB4.out).mono ?_
              rintro e w4b ⟨rfl, hb4b⟩
              have HB4b := hid' (below_two HB4.out hb4b)
              have HA4b := hid' (HA4.out.keep hb4b)
              clear hb4b
              clear x0 x1 x2 x3
              have x0 := HA4b.out.cell 0 _ rfl
              have x1 := HA4b.out.cell 1 _ rfl
              have x2 := HA4b.out.cell 2 _ rfl
              have x3 := HA4b.out.cell 3 _ rfl
              go_upto_region 8 with fail
              clear x0 x1 x2 x3
              have q0 : ∀ z : BW w4b, z.W.cell? ⟨xb, 0, none⟩ = some (.int .i64 s) := fun z => (HA4b.out.keep z.h).cell 0 _ rfl
              have q1 : ∀ z : BW w4b, z.W.cell? ⟨xb, 1, none⟩ = some fv := fun z => (HA4b.out.keep z.h).cell 1 _ rfl
              have hne : Nonempty (BW w4b) := ⟨⟨w4b, Below.refl _ _⟩⟩
              have HFI2 := hid' (fun z : BW w4b => HFI.out z.W)
              have HLI2 := hid' (fun z : BW w4b => HLI.out z.W (below_two HB4b.out z.h))
              refine wp_region_below_s (by kernel_rfl) (by kernel_rfl) ?_
              repeat (refine QS.step (fun K hK => ?_); go_simp; first | (refine hK _ ?_; clear hK K) | (apply Exists.intro; refine ⟨fun _ => ?_, hK _ ?_⟩; (first | (go_at_call 33; exact Calls.below_of (HFI2.out _)) | (go_at_call 34; exact Calls.below_of (HLI2.out _))); clear hK K))
              refine QS.nil ?_
              rintro _ ⟨p5, rfl⟩
              obtain ⟨w5, hw5⟩ : ∃ W, p5.W = W := ⟨_, rfl⟩
              have hb5 := p5.h
              rw [hw5] at hb5 ⊢
              clear hw5 p5
              have HB5 := hid' (below_two HB4b.out hb5)
              have HA5 := hid' (HA4b.out.keep hb5)
              clear hb5 q0 q1 hne HFI2 HLI2
              have k2 : ¬ 9223372036854775807 < A.length + F.length + 2 := by have := HAF.out; omega
              have x0 := HA5.out.cell 0 _ rfl
              have x1 := HA5.out.cell 1 _ rfl
              have x2 := HA5.out.cell 2 _ rfl
              have x3 := HA5.out.cell 3 _ rfl
              go_upto_region 16 with fail
              have HTT : Hid (((⟨A.toArray⟩ : ByteArray) ++ ⟨F.toArray⟩) ++ ⟨#[13, 10]⟩ = ⟨(Hw.top ⟨s, fs, b, ts⟩ false false false).toArray⟩) := hid' (by
                apply ByteArray.ext
                unfold Hw.top
                rw [HLA.out, HLF.out]
                simp [ByteArray.data_append, Hw.ends, Hw.crlf])
              obtain ⟨tp, htp⟩ : ∃ tp, Hw.top ⟨s, fs, b, ts⟩ false false false = tp := ⟨_, rfl⟩
              rw [htp] at HTT
              have HTP := hid' htp
              clear htp
              go_upto_region 17 with fail
              rw [HTT.out]
              have HO1 := hid' (own_base21 (own_one22 w5 (.string ⟨tp.toArray⟩)) HB5.out.size)
              have HB6 := hid' (HB5.out.alloc HB5.out.size (.cells #[.string ⟨tp.toArray⟩] 9))
              have HA6 := hid' (HA5.out.keep (bl_alloc w5 (.cells #[.string ⟨tp.toArray⟩] 9)))
              obtain ⟨tb, htb⟩ : ∃ tb, w5.heap.size = tb := ⟨_, rfl⟩
              rw [htb] at HO1 ⊢
              generalize w5.alloc (.cells #[.string ⟨tp.toArray⟩] 9) = w6 at *
              clear htb x0 x1 x2 x3
              have HP : Hid (Hw.pieces ⟨s, fs, b, ts⟩ false true false = ([tp], 0)) := hid' (by unfold Hw.pieces; simp only [HM1.out, HM2.out, HLO.out]; simp [Hw.bare, Hw.opn, HTP.out])
              have x0 := HA6.out.cell 0 _ rfl
              have x1 := HA6.out.cell 1 _ rfl
              have x2 := HA6.out.cell 2 _ rfl
              have x3 := HA6.out.cell 3 _ rfl
              go_wp2
              go_ret2
              rw [HP.out]
              exact ⟨_, 1, rfl, HO1.out, HB6.out⟩
        · go_enter Tryd.func8, Tryd.ntmps8
          go_upto_region 1 with fail
          obtain ⟨xb, hxb⟩ : ∃ xb, w.heap.size = xb := ⟨_, rfl⟩
          rw [hxb] at HX ⊢
          generalize w.alloc (.cells #[.int .i64 s, fv, .string b, tv] 24) = w1 at *
          have HA1 := HX
          have HB1 := HBX
          clear HX HBX hxb
          have x0 := HA1.out.cell 0 _ rfl
          have x1 := HA1.out.cell 1 _ rfl
          have x2 := HA1.out.cell 2 _ rfl
          have x3 := HA1.out.cell 3 _ rfl
          go_wp2_with fail
          refine (HS1.out _ HB1.out).mono ?_
          rintro e w2 ⟨rfl, hw2⟩
          subst hw2
          have HB2 := HB1
          have HA2 := HA1
          clear x0 x1 x2 x3
          cases m1
          · have HP : Hid (Hw.pieces ⟨s, fs, b, ts⟩ true true false = ([], 220)) := hid' (by unfold Hw.pieces; rw [HM1.out]; rfl)
            have x0 := HA2.out.cell 0 _ rfl
            have x1 := HA2.out.cell 1 _ rfl
            have x2 := HA2.out.cell 2 _ rfl
            have x3 := HA2.out.cell 3 _ rfl
            go_wp2
            go_ret2
            rw [HP.out]
            exact ⟨none, 0, rfl, World.ownsRow_nil _ _ _ _, HB2.out⟩
          · have x0 := HA2.out.cell 0 _ rfl
            have x1 := HA2.out.cell 1 _ rfl
            have x2 := HA2.out.cell 2 _ rfl
            have x3 := HA2.out.cell 3 _ rfl
            go_wp2_with fail
            refine (HS2.out _ HB2.out).mono ?_
            rintro e w3 ⟨rfl, hw3⟩
            subst hw3
            have HB3 := HB2
            have HA3 := HA2
            clear x0 x1 x2 x3
            cases m2
            · have HP : Hid (Hw.pieces ⟨s, fs, b, ts⟩ true true false = ([], 220)) := hid' (by unfold Hw.pieces; rw [HM1.out, HM2.out]; rfl)
              have x0 := HA3.out.cell 0 _ rfl
              have x1 := HA3.out.cell 1 _ rfl
              have x2 := HA3.out.cell 2 _ rfl
              have x3 := HA3.out.cell 3 _ rfl
              go_wp2
              go_ret2
              rw [HP.out]
              exact ⟨none, 0, rfl, World.ownsRow_nil _ _ _ _, HB3.out⟩
            · have x0 := HA3.out.cell 0 _ rfl
              have x1 := HA3.out.cell 1 _ rfl
              have x2 := HA3.out.cell 2 _ rfl
              have x3 := HA3.out.cell 3 _ rfl
              go_wp2_with fail
              refine (HST.out _).mono ?_
              rintro e w4 ⟨rfl, hw4⟩
              subst hw4
              have HB4 := HB3
              have HA4 := HA3
              clear x0 x1 x2 x3
              have x0 := HA4.out.cell 0 _ rfl
              have x1 := HA4.out.cell 1 _ rfl
              have x2 := HA4.out.cell 2 _ rfl
              have x3 := HA4.out.cell 3 _ rfl
              go_wp2_with fail
              refine (HLN.out _ HB4.out).mono ?_
              rintro e w4b ⟨rfl, hb4b⟩
              have HB4b := hid' (below_two HB4.out hb4b)
              have HA4b := hid' (HA4.out.keep hb4b)
              clear hb4b
              clear x0 x1 x2 x3
              have x0 := HA4b.out.cell 0 _ rfl
              have x1 := HA4b.out.cell 1 _ rfl
              have x2 := HA4b.out.cell 2 _ rfl
              have x3 := HA4b.out.cell 3 _ rfl
              go_upto_region 8 with fail
              clear x0 x1 x2 x3
              have q0 : ∀ z : BW w4b, z.W.cell? ⟨xb, 0, none⟩ = some (.int .i64 s) := fun z => (HA4b.out.keep z.h).cell 0 _ rfl
              have q1 : ∀ z : BW w4b, z.W.cell? ⟨xb, 1, none⟩ = some fv := fun z => (HA4b.out.keep z.h).cell 1 _ rfl
              have hne : Nonempty (BW w4b) := ⟨⟨w4b, Below.refl _ _⟩⟩
              have HFI2 := hid' (fun z : BW w4b => HFI.out z.W)
              have HLI2 := hid' (fun z : BW w4b => HLI.out z.W (below_two HB4b.out z.h))
              refine wp_region_below_s (by kernel_rfl) (by kernel_rfl) ?_
              repeat (refine QS.step (fun K hK => ?_); go_simp; first | (refine hK _ ?_; clear hK K) | (apply Exists.intro; refine ⟨fun _ => ?_, hK _ ?_⟩; (first | (go_at_call 33; exact Calls.below_of (HFI2.out _)) | (go_at_call 34; exact Calls.below_of (HLI2.out _))); clear hK K))
              refine QS.nil ?_
              rintro _ ⟨p5, rfl⟩
              obtain ⟨w5, hw5⟩ : ∃ W, p5.W = W := ⟨_, rfl⟩
              have hb5 := p5.h
              rw [hw5] at hb5 ⊢
              clear hw5 p5
              have HB5 := hid' (below_two HB4b.out hb5)
              have HA5 := hid' (HA4b.out.keep hb5)
              clear hb5 q0 q1 hne HFI2 HLI2
              have k2 : ¬ 9223372036854775807 < A.length + F.length + 24 := by have := HAF.out; omega
              have k3 : ¬ 9223372036854775807 < A.length + F.length + 24 + 2 := by have := HAF.out; omega
              have x0 := HA5.out.cell 0 _ rfl
              have x1 := HA5.out.cell 1 _ rfl
              have x2 := HA5.out.cell 2 _ rfl
              have x3 := HA5.out.cell 3 _ rfl
              go_upto_region 16 with fail
              have HTT : Hid ((((⟨A.toArray⟩ : ByteArray) ++ ⟨F.toArray⟩) ++ ⟨#[99, 111, 110, 110, 101, 99, 116, 105, 111, 110, 58, 32, 107, 101, 101, 112, 45, 97, 108, 105, 118, 101, 13, 10]⟩) ++ ⟨#[13, 10]⟩ = ⟨(Hw.top ⟨s, fs, b, ts⟩ false true false).toArray⟩) := hid' (by
                apply ByteArray.ext
                unfold Hw.top
                rw [HLA.out, HLF.out]
                simp [ByteArray.data_append, Hw.ends, Hw.kee, Hw.crlf])
              obtain ⟨tp, htp⟩ : ∃ tp, Hw.top ⟨s, fs, b, ts⟩ false true false = tp := ⟨_, rfl⟩
              rw [htp] at HTT
              have HTP := hid' htp
              clear htp
              go_upto_region 17 with fail
              rw [HTT.out]
              have HO1 := hid' (own_base21 (own_one22 w5 (.string ⟨tp.toArray⟩)) HB5.out.size)
              have HB6 := hid' (HB5.out.alloc HB5.out.size (.cells #[.string ⟨tp.toArray⟩] 9))
              have HA6 := hid' (HA5.out.keep (bl_alloc w5 (.cells #[.string ⟨tp.toArray⟩] 9)))
              obtain ⟨tb, htb⟩ : ∃ tb, w5.heap.size = tb := ⟨_, rfl⟩
              rw [htb] at HO1 ⊢
              generalize w5.alloc (.cells #[.string ⟨tp.toArray⟩] 9) = w6 at *
              clear htb x0 x1 x2 x3
              have HP : Hid (Hw.pieces ⟨s, fs, b, ts⟩ true true false = ([tp], 0)) := hid' (by unfold Hw.pieces; simp only [HM1.out, HM2.out, HLO.out]; simp [Hw.bare, Hw.opn, HTP.out])
              have x0 := HA6.out.cell 0 _ rfl
              have x1 := HA6.out.cell 1 _ rfl
              have x2 := HA6.out.cell 2 _ rfl
              have x3 := HA6.out.cell 3 _ rfl
              go_wp2
              go_ret2
              rw [HP.out]
              exact ⟨_, 1, rfl, HO1.out, HB6.out⟩
      · go_enter Tryd.func8, Tryd.ntmps8
        go_upto_region 1 with fail
        obtain ⟨xb, hxb⟩ : ∃ xb, w.heap.size = xb := ⟨_, rfl⟩
        rw [hxb] at HX ⊢
        generalize w.alloc (.cells #[.int .i64 s, fv, .string b, tv] 24) = w1 at *
        have HA1 := HX
        have HB1 := HBX
        clear HX HBX hxb
        have x0 := HA1.out.cell 0 _ rfl
        have x1 := HA1.out.cell 1 _ rfl
        have x2 := HA1.out.cell 2 _ rfl
        have x3 := HA1.out.cell 3 _ rfl
        go_wp2_with fail
        refine (HS1.out _ HB1.out).mono ?_
        rintro e w2 ⟨rfl, hw2⟩
        subst hw2
        have HB2 := HB1
        have HA2 := HA1
        clear x0 x1 x2 x3
        cases m1
        · have HP : Hid (Hw.pieces ⟨s, fs, b, ts⟩ old true true = ([], 220)) := hid' (by unfold Hw.pieces; rw [HM1.out]; rfl)
          have x0 := HA2.out.cell 0 _ rfl
          have x1 := HA2.out.cell 1 _ rfl
          have x2 := HA2.out.cell 2 _ rfl
          have x3 := HA2.out.cell 3 _ rfl
          go_wp2
          go_ret2
          rw [HP.out]
          exact ⟨none, 0, rfl, World.ownsRow_nil _ _ _ _, HB2.out⟩
        · have x0 := HA2.out.cell 0 _ rfl
          have x1 := HA2.out.cell 1 _ rfl
          have x2 := HA2.out.cell 2 _ rfl
          have x3 := HA2.out.cell 3 _ rfl
          go_wp2_with fail
          refine (HS2.out _ HB2.out).mono ?_
          rintro e w3 ⟨rfl, hw3⟩
          subst hw3
          have HB3 := HB2
          have HA3 := HA2
          clear x0 x1 x2 x3
          cases m2
          · have HP : Hid (Hw.pieces ⟨s, fs, b, ts⟩ old true true = ([], 220)) := hid' (by unfold Hw.pieces; rw [HM1.out, HM2.out]; rfl)
            have x0 := HA3.out.cell 0 _ rfl
            have x1 := HA3.out.cell 1 _ rfl
            have x2 := HA3.out.cell 2 _ rfl
            have x3 := HA3.out.cell 3 _ rfl
            go_wp2
            go_ret2
            rw [HP.out]
            exact ⟨none, 0, rfl, World.ownsRow_nil _ _ _ _, HB3.out⟩
          · have x0 := HA3.out.cell 0 _ rfl
            have x1 := HA3.out.cell 1 _ rfl
            have x2 := HA3.out.cell 2 _ rfl
            have x3 := HA3.out.cell 3 _ rfl
            go_wp2_with fail
            refine (HST.out _).mono ?_
            rintro e w4 ⟨rfl, hw4⟩
            subst hw4
            have HB4 := HB3
            have HA4 := HA3
            clear x0 x1 x2 x3
            have x0 := HA4.out.cell 0 _ rfl
            have x1 := HA4.out.cell 1 _ rfl
            have x2 := HA4.out.cell 2 _ rfl
            have x3 := HA4.out.cell 3 _ rfl
            go_wp2_with fail
            refine (HLN.out _ HB4.out).mono ?_
            rintro e w4b ⟨rfl, hb4b⟩
            have HB4b := hid' (below_two HB4.out hb4b)
            have HA4b := hid' (HA4.out.keep hb4b)
            clear hb4b
            clear x0 x1 x2 x3
            have x0 := HA4b.out.cell 0 _ rfl
            have x1 := HA4b.out.cell 1 _ rfl
            have x2 := HA4b.out.cell 2 _ rfl
            have x3 := HA4b.out.cell 3 _ rfl
            go_upto_region 8 with fail
            clear x0 x1 x2 x3
            have q0 : ∀ z : BW w4b, z.W.cell? ⟨xb, 0, none⟩ = some (.int .i64 s) := fun z => (HA4b.out.keep z.h).cell 0 _ rfl
            have q1 : ∀ z : BW w4b, z.W.cell? ⟨xb, 1, none⟩ = some fv := fun z => (HA4b.out.keep z.h).cell 1 _ rfl
            have hne : Nonempty (BW w4b) := ⟨⟨w4b, Below.refl _ _⟩⟩
            have HFI2 := hid' (fun z : BW w4b => HFI.out z.W)
            have HLI2 := hid' (fun z : BW w4b => HLI.out z.W (below_two HB4b.out z.h))
            refine wp_region_below_s (by kernel_rfl) (by kernel_rfl) ?_
            repeat (refine QS.step (fun K hK => ?_); go_simp; first | (refine hK _ ?_; clear hK K) | (apply Exists.intro; refine ⟨fun _ => ?_, hK _ ?_⟩; (first | (go_at_call 33; exact Calls.below_of (HFI2.out _)) | (go_at_call 34; exact Calls.below_of (HLI2.out _))); clear hK K))
            refine QS.nil ?_
            rintro _ ⟨p5, rfl⟩
            obtain ⟨w5, hw5⟩ : ∃ W, p5.W = W := ⟨_, rfl⟩
            have hb5 := p5.h
            rw [hw5] at hb5 ⊢
            clear hw5 p5
            have HB5 := hid' (below_two HB4b.out hb5)
            have HA5 := hid' (HA4b.out.keep hb5)
            clear hb5 q0 q1 hne HFI2 HLI2
            have k2 : ¬ 9223372036854775807 < A.length + F.length + 19 := by have := HAF.out; omega
            have k3 : ¬ 9223372036854775807 < A.length + F.length + 19 + 2 := by have := HAF.out; omega
            have x0 := HA5.out.cell 0 _ rfl
            have x1 := HA5.out.cell 1 _ rfl
            have x2 := HA5.out.cell 2 _ rfl
            have x3 := HA5.out.cell 3 _ rfl
            go_upto_region 16 with fail
            have HTT : Hid ((((⟨A.toArray⟩ : ByteArray) ++ ⟨F.toArray⟩) ++ ⟨#[99, 111, 110, 110, 101, 99, 116, 105, 111, 110, 58, 32, 99, 108, 111, 115, 101, 13, 10]⟩) ++ ⟨#[13, 10]⟩ = ⟨(Hw.top ⟨s, fs, b, ts⟩ false old true).toArray⟩) := hid' (by
              apply ByteArray.ext
              unfold Hw.top
              rw [HLA.out, HLF.out]
              simp [ByteArray.data_append, Hw.ends, Hw.clo, Hw.crlf])
            obtain ⟨tp, htp⟩ : ∃ tp, Hw.top ⟨s, fs, b, ts⟩ false old true = tp := ⟨_, rfl⟩
            rw [htp] at HTT
            have HTP := hid' htp
            clear htp
            go_upto_region 17 with fail
            rw [HTT.out]
            have HO1 := hid' (own_base21 (own_one22 w5 (.string ⟨tp.toArray⟩)) HB5.out.size)
            have HB6 := hid' (HB5.out.alloc HB5.out.size (.cells #[.string ⟨tp.toArray⟩] 9))
            have HA6 := hid' (HA5.out.keep (bl_alloc w5 (.cells #[.string ⟨tp.toArray⟩] 9)))
            obtain ⟨tb, htb⟩ : ∃ tb, w5.heap.size = tb := ⟨_, rfl⟩
            rw [htb] at HO1 ⊢
            generalize w5.alloc (.cells #[.string ⟨tp.toArray⟩] 9) = w6 at *
            clear htb x0 x1 x2 x3
            have HP : Hid (Hw.pieces ⟨s, fs, b, ts⟩ old true true = ([tp], 0)) := hid' (by unfold Hw.pieces; simp only [HM1.out, HM2.out, HLO.out]; simp [Hw.bare, Hw.opn, HTP.out])
            have x0 := HA6.out.cell 0 _ rfl
            have x1 := HA6.out.cell 1 _ rfl
            have x2 := HA6.out.cell 2 _ rfl
            have x3 := HA6.out.cell 3 _ rfl
            go_wp2
            go_ret2
            rw [HP.out]
            exact ⟨_, 1, rfl, HO1.out, HB6.out⟩
  have HBB : Hid (Hw.bare0 t = true) := hid' (by rw [← HTS.out]; rcases hbb with h | h; cases h; exact h)
  clear hbb
  cases d1 : decide (t < 200)
  rotate_left
  · have HBR : Hid (Hw.bare0 (Hw.stat s) = true) := hid' (by rw [HTS.out]; exact HBB.out)
    cases o with
    | none =>
      have HLNv : Hid (∀ W, Below w.heap.size w W → Calls Tryd.prog 21 #[fv] W fun e w' => e = .returned (.tuple #[.int .i64 0, .bool false, .int .i64 142]) ∧ Below W.heap.size W w') := hid' (by exact HLN.out)
      have HLNe := HLN
      clear HLN
      have HLN := HLNv
      clear HLNv
      go_enter Tryd.func8, Tryd.ntmps8
      go_upto_region 1 with fail
      obtain ⟨xb, hxb⟩ : ∃ xb, w.heap.size = xb := ⟨_, rfl⟩
      rw [hxb] at HX ⊢
      generalize w.alloc (.cells #[.int .i64 s, fv, .string b, tv] 24) = w1 at *
      have HA1 := HX
      have HB1 := HBX
      clear HX HBX hxb
      have x0 := HA1.out.cell 0 _ rfl
      have x1 := HA1.out.cell 1 _ rfl
      have x2 := HA1.out.cell 2 _ rfl
      have x3 := HA1.out.cell 3 _ rfl
      go_wp2_with fail
      refine (HS1.out _ HB1.out).mono ?_
      rintro e w2 ⟨rfl, hw2⟩
      subst hw2
      have HB2 := HB1
      have HA2 := HA1
      clear x0 x1 x2 x3
      cases m1
      · have HP : Hid (Hw.pieces ⟨s, fs, b, ts⟩ old false last = ([], 220)) := hid' (by unfold Hw.pieces; rw [HM1.out]; rfl)
        have x0 := HA2.out.cell 0 _ rfl
        have x1 := HA2.out.cell 1 _ rfl
        have x2 := HA2.out.cell 2 _ rfl
        have x3 := HA2.out.cell 3 _ rfl
        go_wp2
        go_ret2
        rw [HP.out]
        exact ⟨none, 0, rfl, World.ownsRow_nil _ _ _ _, HB2.out⟩
      · have x0 := HA2.out.cell 0 _ rfl
        have x1 := HA2.out.cell 1 _ rfl
        have x2 := HA2.out.cell 2 _ rfl
        have x3 := HA2.out.cell 3 _ rfl
        go_wp2_with fail
        refine (HS2.out _ HB2.out).mono ?_
        rintro e w3 ⟨rfl, hw3⟩
        subst hw3
        have HB3 := HB2
        have HA3 := HA2
        clear x0 x1 x2 x3
        cases m2
        · have HP : Hid (Hw.pieces ⟨s, fs, b, ts⟩ old false last = ([], 220)) := hid' (by unfold Hw.pieces; rw [HM1.out, HM2.out]; rfl)
          have x0 := HA3.out.cell 0 _ rfl
          have x1 := HA3.out.cell 1 _ rfl
          have x2 := HA3.out.cell 2 _ rfl
          have x3 := HA3.out.cell 3 _ rfl
          go_wp2
          go_ret2
          rw [HP.out]
          exact ⟨none, 0, rfl, World.ownsRow_nil _ _ _ _, HB3.out⟩
        · have x0 := HA3.out.cell 0 _ rfl
          have x1 := HA3.out.cell 1 _ rfl
          have x2 := HA3.out.cell 2 _ rfl
          have x3 := HA3.out.cell 3 _ rfl
          go_wp2_with fail
          refine (HST.out _).mono ?_
          rintro e w4 ⟨rfl, hw4⟩
          subst hw4
          have HB4 := HB3
          have HA4 := HA3
          clear x0 x1 x2 x3
          have x0 := HA4.out.cell 0 _ rfl
          have x1 := HA4.out.cell 1 _ rfl
          have x2 := HA4.out.cell 2 _ rfl
          have x3 := HA4.out.cell 3 _ rfl
          go_wp2_with fail
          refine (HLN.out _ HB4.out).mono ?_
          rintro e w4b ⟨rfl, hb4b⟩
          have HB4b := hid' (below_two HB4.out hb4b)
          have HA4b := hid' (HA4.out.keep hb4b)
          clear hb4b
          clear x0 x1 x2 x3
          have HP : Hid (Hw.pieces ⟨s, fs, b, ts⟩ old false last = ([], 142)) := hid' (by unfold Hw.pieces; simp only [HM1.out, HM2.out, HLO.out]; rfl)
          have x0 := HA4b.out.cell 0 _ rfl
          have x1 := HA4b.out.cell 1 _ rfl
          have x2 := HA4b.out.cell 2 _ rfl
          have x3 := HA4b.out.cell 3 _ rfl
          go_wp2
          go_ret2
          rw [HP.out]
          exact ⟨none, 0, rfl, World.ownsRow_nil _ _ _ _, HB4b.out⟩
    | some q =>
      obtain ⟨nv, lg, hnl⟩ : ∃ nv lg, Ms.lenV (some q) = .tuple #[.int .i64 nv, .bool lg, .int .i64 0] := by cases q <;> exact ⟨_, _, rfl⟩
      have HLNv : Hid (∀ W, Below w.heap.size w W → Calls Tryd.prog 21 #[fv] W fun e w' => e = .returned (.tuple #[.int .i64 nv, .bool lg, .int .i64 0]) ∧ Below W.heap.size W w') := hid' (by rw [← hnl]; exact HLN.out)
      have HLNe := HLN
      clear HLN
      have HLN := HLNv
      clear HLNv
      clear hnl
      cases last
      · cases old
        · go_enter Tryd.func8, Tryd.ntmps8
          go_upto_region 1 with fail
          obtain ⟨xb, hxb⟩ : ∃ xb, w.heap.size = xb := ⟨_, rfl⟩
          rw [hxb] at HX ⊢
          generalize w.alloc (.cells #[.int .i64 s, fv, .string b, tv] 24) = w1 at *
          have HA1 := HX
          have HB1 := HBX
          clear HX HBX hxb
          have x0 := HA1.out.cell 0 _ rfl
          have x1 := HA1.out.cell 1 _ rfl
          have x2 := HA1.out.cell 2 _ rfl
          have x3 := HA1.out.cell 3 _ rfl
          go_wp2_with fail
          refine (HS1.out _ HB1.out).mono ?_
          rintro e w2 ⟨rfl, hw2⟩
          subst hw2
          have HB2 := HB1
          have HA2 := HA1
          clear x0 x1 x2 x3
          cases m1
          · have HP : Hid (Hw.pieces ⟨s, fs, b, ts⟩ false false false = ([], 220)) := hid' (by unfold Hw.pieces; rw [HM1.out]; rfl)
            have x0 := HA2.out.cell 0 _ rfl
            have x1 := HA2.out.cell 1 _ rfl
            have x2 := HA2.out.cell 2 _ rfl
            have x3 := HA2.out.cell 3 _ rfl
            go_wp2
            go_ret2
            rw [HP.out]
            exact ⟨none, 0, rfl, World.ownsRow_nil _ _ _ _, HB2.out⟩
          · have x0 := HA2.out.cell 0 _ rfl
            have x1 := HA2.out.cell 1 _ rfl
            have x2 := HA2.out.cell 2 _ rfl
            have x3 := HA2.out.cell 3 _ rfl
            go_wp2_with fail
            refine (HS2.out _ HB2.out).mono ?_
            rintro e w3 ⟨rfl, hw3⟩
            subst hw3
            have HB3 := HB2
            have HA3 := HA2
            clear x0 x1 x2 x3
            cases m2
            · have HP : Hid (Hw.pieces ⟨s, fs, b, ts⟩ false false false = ([], 220)) := hid' (by unfold Hw.pieces; rw [HM1.out, HM2.out]; rfl)
              have x0 := HA3.out.cell 0 _ rfl
              have x1 := HA3.out.cell 1 _ rfl
              have x2 := HA3.out.cell 2 _ rfl
              have x3 := HA3.out.cell 3 _ rfl
              go_wp2
              go_ret2
              rw [HP.out]
              exact ⟨none, 0, rfl, World.ownsRow_nil _ _ _ _, HB3.out⟩
            · have x0 := HA3.out.cell 0 _ rfl
              have x1 := HA3.out.cell 1 _ rfl
              have x2 := HA3.out.cell 2 _ rfl
              have x3 := HA3.out.cell 3 _ rfl
              go_wp2_with fail
              refine (HST.out _).mono ?_
              rintro e w4 ⟨rfl, hw4⟩
              subst hw4
              have HB4 := HB3
              have HA4 := HA3
              clear x0 x1 x2 x3
              have x0 := HA4.out.cell 0 _ rfl
              have x1 := HA4.out.cell 1 _ rfl
              have x2 := HA4.out.cell 2 _ rfl
              have x3 := HA4.out.cell 3 _ rfl
              go_wp2_with fail
              refine (HLN.out _ HB4.out).mono ?_
              rintro e w4b ⟨rfl, hb4b⟩
              have HB4b := hid' (below_two HB4.out hb4b)
              have HA4b := hid' (HA4.out.keep hb4b)
              clear hb4b
              clear x0 x1 x2 x3
              have x0 := HA4b.out.cell 0 _ rfl
              have x1 := HA4b.out.cell 1 _ rfl
              have x2 := HA4b.out.cell 2 _ rfl
              have x3 := HA4b.out.cell 3 _ rfl
              go_upto_region 8 with fail
              clear x0 x1 x2 x3
              have q0 : ∀ z : BW w4b, z.W.cell? ⟨xb, 0, none⟩ = some (.int .i64 s) := fun z => (HA4b.out.keep z.h).cell 0 _ rfl
              have q1 : ∀ z : BW w4b, z.W.cell? ⟨xb, 1, none⟩ = some fv := fun z => (HA4b.out.keep z.h).cell 1 _ rfl
              have hne : Nonempty (BW w4b) := ⟨⟨w4b, Below.refl _ _⟩⟩
              have HFI2 := hid' (fun z : BW w4b => HFI.out z.W)
              have HLI2 := hid' (fun z : BW w4b => HLI.out z.W (below_two HB4b.out z.h))
              refine wp_region_below_s (by kernel_rfl) (by kernel_rfl) ?_
              repeat (refine QS.step (fun K hK => ?_); go_simp; first | (refine hK _ ?_; clear hK K) | (apply Exists.intro; refine ⟨fun _ => ?_, hK _ ?_⟩; (first | (go_at_call 33; exact Calls.below_of (HFI2.out _)) | (go_at_call 34; exact Calls.below_of (HLI2.out _))); clear hK K))
              refine QS.nil ?_
              rintro _ ⟨p5, rfl⟩
              obtain ⟨w5, hw5⟩ : ∃ W, p5.W = W := ⟨_, rfl⟩
              have hb5 := p5.h
              rw [hw5] at hb5 ⊢
              clear hw5 p5
              have HB5 := hid' (below_two HB4b.out hb5)
              have HA5 := hid' (HA4b.out.keep hb5)
              clear hb5 q0 q1 hne HFI2 HLI2
              have k2 : ¬ 9223372036854775807 < A.length + F.length + 2 := by have := HAF.out; omega
              have x0 := HA5.out.cell 0 _ rfl
              have x1 := HA5.out.cell 1 _ rfl
              have x2 := HA5.out.cell 2 _ rfl
              have x3 := HA5.out.cell 3 _ rfl
              go_upto_region 16 with fail
              have HTT : Hid (((⟨A.toArray⟩ : ByteArray) ++ ⟨F.toArray⟩) ++ ⟨#[13, 10]⟩ = ⟨(Hw.top ⟨s, fs, b, ts⟩ false false false).toArray⟩) := hid' (by
                apply ByteArray.ext
                unfold Hw.top
                rw [HLA.out, HLF.out]
                simp [ByteArray.data_append, Hw.ends, Hw.crlf])
              obtain ⟨tp, htp⟩ : ∃ tp, Hw.top ⟨s, fs, b, ts⟩ false false false = tp := ⟨_, rfl⟩
              rw [htp] at HTT
              have HTP := hid' htp
              clear htp
              go_upto_region 17 with fail
              rw [HTT.out]
              have HO1 := hid' (own_base21 (own_one22 w5 (.string ⟨tp.toArray⟩)) HB5.out.size)
              have HB6 := hid' (HB5.out.alloc HB5.out.size (.cells #[.string ⟨tp.toArray⟩] 9))
              have HA6 := hid' (HA5.out.keep (bl_alloc w5 (.cells #[.string ⟨tp.toArray⟩] 9)))
              obtain ⟨tb, htb⟩ : ∃ tb, w5.heap.size = tb := ⟨_, rfl⟩
              rw [htb] at HO1 ⊢
              generalize w5.alloc (.cells #[.string ⟨tp.toArray⟩] 9) = w6 at *
              clear htb x0 x1 x2 x3
              have HP : Hid (Hw.pieces ⟨s, fs, b, ts⟩ false false false = ([tp], 0)) := hid' (by unfold Hw.pieces; simp only [HM1.out, HM2.out, HLO.out]; simp [Hw.bare, HBR.out, Hw.opn, HTP.out])
              have x0 := HA6.out.cell 0 _ rfl
              have x1 := HA6.out.cell 1 _ rfl
              have x2 := HA6.out.cell 2 _ rfl
              have x3 := HA6.out.cell 3 _ rfl
              go_wp2
              go_ret2
              rw [HP.out]
              exact ⟨_, 1, rfl, HO1.out, HB6.out⟩
        · go_enter Tryd.func8, Tryd.ntmps8
          go_upto_region 1 with fail
          obtain ⟨xb, hxb⟩ : ∃ xb, w.heap.size = xb := ⟨_, rfl⟩
          rw [hxb] at HX ⊢
          generalize w.alloc (.cells #[.int .i64 s, fv, .string b, tv] 24) = w1 at *
          have HA1 := HX
          have HB1 := HBX
          clear HX HBX hxb
          have x0 := HA1.out.cell 0 _ rfl
          have x1 := HA1.out.cell 1 _ rfl
          have x2 := HA1.out.cell 2 _ rfl
          have x3 := HA1.out.cell 3 _ rfl
          go_wp2_with fail
          refine (HS1.out _ HB1.out).mono ?_
          rintro e w2 ⟨rfl, hw2⟩
          subst hw2
          have HB2 := HB1
          have HA2 := HA1
          clear x0 x1 x2 x3
          cases m1
          · have HP : Hid (Hw.pieces ⟨s, fs, b, ts⟩ true false false = ([], 220)) := hid' (by unfold Hw.pieces; rw [HM1.out]; rfl)
            have x0 := HA2.out.cell 0 _ rfl
            have x1 := HA2.out.cell 1 _ rfl
            have x2 := HA2.out.cell 2 _ rfl
            have x3 := HA2.out.cell 3 _ rfl
            go_wp2
            go_ret2
            rw [HP.out]
            exact ⟨none, 0, rfl, World.ownsRow_nil _ _ _ _, HB2.out⟩
          · have x0 := HA2.out.cell 0 _ rfl
            have x1 := HA2.out.cell 1 _ rfl
            have x2 := HA2.out.cell 2 _ rfl
            have x3 := HA2.out.cell 3 _ rfl
            go_wp2_with fail
            refine (HS2.out _ HB2.out).mono ?_
            rintro e w3 ⟨rfl, hw3⟩
            subst hw3
            have HB3 := HB2
            have HA3 := HA2
            clear x0 x1 x2 x3
            cases m2
            · have HP : Hid (Hw.pieces ⟨s, fs, b, ts⟩ true false false = ([], 220)) := hid' (by unfold Hw.pieces; rw [HM1.out, HM2.out]; rfl)
              have x0 := HA3.out.cell 0 _ rfl
              have x1 := HA3.out.cell 1 _ rfl
              have x2 := HA3.out.cell 2 _ rfl
              have x3 := HA3.out.cell 3 _ rfl
              go_wp2
              go_ret2
              rw [HP.out]
              exact ⟨none, 0, rfl, World.ownsRow_nil _ _ _ _, HB3.out⟩
            · have x0 := HA3.out.cell 0 _ rfl
              have x1 := HA3.out.cell 1 _ rfl
              have x2 := HA3.out.cell 2 _ rfl
              have x3 := HA3.out.cell 3 _ rfl
              go_wp2_with fail
              refine (HST.out _).mono ?_
              rintro e w4 ⟨rfl, hw4⟩
              subst hw4
              have HB4 := HB3
              have HA4 := HA3
              clear x0 x1 x2 x3
              have x0 := HA4.out.cell 0 _ rfl
              have x1 := HA4.out.cell 1 _ rfl
              have x2 := HA4.out.cell 2 _ rfl
              have x3 := HA4.out.cell 3 _ rfl
              go_wp2_with fail
              refine (HLN.out _ HB4.out).mono ?_
              rintro e w4b ⟨rfl, hb4b⟩
              have HB4b := hid' (below_two HB4.out hb4b)
              have HA4b := hid' (HA4.out.keep hb4b)
              clear hb4b
              clear x0 x1 x2 x3
              have x0 := HA4b.out.cell 0 _ rfl
              have x1 := HA4b.out.cell 1 _ rfl
              have x2 := HA4b.out.cell 2 _ rfl
              have x3 := HA4b.out.cell 3 _ rfl
              go_upto_region 8 with fail
              clear x0 x1 x2 x3
              have q0 : ∀ z : BW w4b, z.W.cell? ⟨xb, 0, none⟩ = some (.int .i64 s) := fun z => (HA4b.out.keep z.h).cell 0 _ rfl
              have q1 : ∀ z : BW w4b, z.W.cell? ⟨xb, 1, none⟩ = some fv := fun z => (HA4b.out.keep z.h).cell 1 _ rfl
              have hne : Nonempty (BW w4b) := ⟨⟨w4b, Below.refl _ _⟩⟩
              have HFI2 := hid' (fun z : BW w4b => HFI.out z.W)
              have HLI2 := hid' (fun z : BW w4b => HLI.out z.W (below_two HB4b.out z.h))
              refine wp_region_below_s (by kernel_rfl) (by kernel_rfl) ?_
              repeat (refine QS.step (fun K hK => ?_); go_simp; first | (refine hK _ ?_; clear hK K) | (apply Exists.intro; refine ⟨fun _ => ?_, hK _ ?_⟩; (first | (go_at_call 33; exact Calls.below_of (HFI2.out _)) | (go_at_call 34; exact Calls.below_of (HLI2.out _))); clear hK K))
              refine QS.nil ?_
              rintro _ ⟨p5, rfl⟩
              obtain ⟨w5, hw5⟩ : ∃ W, p5.W = W := ⟨_, rfl⟩
              have hb5 := p5.h
              rw [hw5] at hb5 ⊢
              clear hw5 p5
              have HB5 := hid' (below_two HB4b.out hb5)
              have HA5 := hid' (HA4b.out.keep hb5)
              clear hb5 q0 q1 hne HFI2 HLI2
              have k2 : ¬ 9223372036854775807 < A.length + F.length + 24 := by have := HAF.out; omega
              have k3 : ¬ 9223372036854775807 < A.length + F.length + 24 + 2 := by have := HAF.out; omega
              have x0 := HA5.out.cell 0 _ rfl
              have x1 := HA5.out.cell 1 _ rfl
              have x2 := HA5.out.cell 2 _ rfl
              have x3 := HA5.out.cell 3 _ rfl
              go_upto_region 16 with fail
              have HTT : Hid ((((⟨A.toArray⟩ : ByteArray) ++ ⟨F.toArray⟩) ++ ⟨#[99, 111, 110, 110, 101, 99, 116, 105, 111, 110, 58, 32, 107, 101, 101, 112, 45, 97, 108, 105, 118, 101, 13, 10]⟩) ++ ⟨#[13, 10]⟩ = ⟨(Hw.top ⟨s, fs, b, ts⟩ false true false).toArray⟩) := hid' (by
                apply ByteArray.ext
                unfold Hw.top
                rw [HLA.out, HLF.out]
                simp [ByteArray.data_append, Hw.ends, Hw.kee, Hw.crlf])
              obtain ⟨tp, htp⟩ : ∃ tp, Hw.top ⟨s, fs, b, ts⟩ false true false = tp := ⟨_, rfl⟩
              rw [htp] at HTT
              have HTP := hid' htp
              clear htp
              go_upto_region 17 with fail
              rw [HTT.out]
              have HO1 := hid' (own_base21 (own_one22 w5 (.string ⟨tp.toArray⟩)) HB5.out.size)
              have HB6 := hid' (HB5.out.alloc HB5.out.size (.cells #[.string ⟨tp.toArray⟩] 9))
              have HA6 := hid' (HA5.out.keep (bl_alloc w5 (.cells #[.string ⟨tp.toArray⟩] 9)))
              obtain ⟨tb, htb⟩ : ∃ tb, w5.heap.size = tb := ⟨_, rfl⟩
              rw [htb] at HO1 ⊢
              generalize w5.alloc (.cells #[.string ⟨tp.toArray⟩] 9) = w6 at *
              clear htb x0 x1 x2 x3
              have HP : Hid (Hw.pieces ⟨s, fs, b, ts⟩ true false false = ([tp], 0)) := hid' (by unfold Hw.pieces; simp only [HM1.out, HM2.out, HLO.out]; simp [Hw.bare, HBR.out, Hw.opn, HTP.out])
              have x0 := HA6.out.cell 0 _ rfl
              have x1 := HA6.out.cell 1 _ rfl
              have x2 := HA6.out.cell 2 _ rfl
              have x3 := HA6.out.cell 3 _ rfl
              go_wp2
              go_ret2
              rw [HP.out]
              exact ⟨_, 1, rfl, HO1.out, HB6.out⟩
      · go_enter Tryd.func8, Tryd.ntmps8
        go_upto_region 1 with fail
        obtain ⟨xb, hxb⟩ : ∃ xb, w.heap.size = xb := ⟨_, rfl⟩
        rw [hxb] at HX ⊢
        generalize w.alloc (.cells #[.int .i64 s, fv, .string b, tv] 24) = w1 at *
        have HA1 := HX
        have HB1 := HBX
        clear HX HBX hxb
        have x0 := HA1.out.cell 0 _ rfl
        have x1 := HA1.out.cell 1 _ rfl
        have x2 := HA1.out.cell 2 _ rfl
        have x3 := HA1.out.cell 3 _ rfl
        go_wp2_with fail
        refine (HS1.out _ HB1.out).mono ?_
        rintro e w2 ⟨rfl, hw2⟩
        subst hw2
        have HB2 := HB1
        have HA2 := HA1
        clear x0 x1 x2 x3
        cases m1
        · have HP : Hid (Hw.pieces ⟨s, fs, b, ts⟩ old false true = ([], 220)) := hid' (by unfold Hw.pieces; rw [HM1.out]; rfl)
          have x0 := HA2.out.cell 0 _ rfl
          have x1 := HA2.out.cell 1 _ rfl
          have x2 := HA2.out.cell 2 _ rfl
          have x3 := HA2.out.cell 3 _ rfl
          go_wp2
          go_ret2
          rw [HP.out]
          exact ⟨none, 0, rfl, World.ownsRow_nil _ _ _ _, HB2.out⟩
        · have x0 := HA2.out.cell 0 _ rfl
          have x1 := HA2.out.cell 1 _ rfl
          have x2 := HA2.out.cell 2 _ rfl
          have x3 := HA2.out.cell 3 _ rfl
          go_wp2_with fail
          refine (HS2.out _ HB2.out).mono ?_
          rintro e w3 ⟨rfl, hw3⟩
          subst hw3
          have HB3 := HB2
          have HA3 := HA2
          clear x0 x1 x2 x3
          cases m2
          · have HP : Hid (Hw.pieces ⟨s, fs, b, ts⟩ old false true = ([], 220)) := hid' (by unfold Hw.pieces; rw [HM1.out, HM2.out]; rfl)
            have x0 := HA3.out.cell 0 _ rfl
            have x1 := HA3.out.cell 1 _ rfl
            have x2 := HA3.out.cell 2 _ rfl
            have x3 := HA3.out.cell 3 _ rfl
            go_wp2
            go_ret2
            rw [HP.out]
            exact ⟨none, 0, rfl, World.ownsRow_nil _ _ _ _, HB3.out⟩
          · have x0 := HA3.out.cell 0 _ rfl
            have x1 := HA3.out.cell 1 _ rfl
            have x2 := HA3.out.cell 2 _ rfl
            have x3 := HA3.out.cell 3 _ rfl
            go_wp2_with fail
            refine (HST.out _).mono ?_
            rintro e w4 ⟨rfl, hw4⟩
            subst hw4
            have HB4 := HB3
            have HA4 := HA3
            clear x0 x1 x2 x3
            have x0 := HA4.out.cell 0 _ rfl
            have x1 := HA4.out.cell 1 _ rfl
            have x2 := HA4.out.cell 2 _ rfl
            have x3 := HA4.out.cell 3 _ rfl
            go_wp2_with fail
            refine (HLN.out _ HB4.out).mono ?_
            rintro e w4b ⟨rfl, hb4b⟩
            have HB4b := hid' (below_two HB4.out hb4b)
            have HA4b := hid' (HA4.out.keep hb4b)
            clear hb4b
            clear x0 x1 x2 x3
            have x0 := HA4b.out.cell 0 _ rfl
            have x1 := HA4b.out.cell 1 _ rfl
            have x2 := HA4b.out.cell 2 _ rfl
            have x3 := HA4b.out.cell 3 _ rfl
            go_upto_region 8 with fail
            clear x0 x1 x2 x3
            have q0 : ∀ z : BW w4b, z.W.cell? ⟨xb, 0, none⟩ = some (.int .i64 s) := fun z => (HA4b.out.keep z.h).cell 0 _ rfl
            have q1 : ∀ z : BW w4b, z.W.cell? ⟨xb, 1, none⟩ = some fv := fun z => (HA4b.out.keep z.h).cell 1 _ rfl
            have hne : Nonempty (BW w4b) := ⟨⟨w4b, Below.refl _ _⟩⟩
            have HFI2 := hid' (fun z : BW w4b => HFI.out z.W)
            have HLI2 := hid' (fun z : BW w4b => HLI.out z.W (below_two HB4b.out z.h))
            refine wp_region_below_s (by kernel_rfl) (by kernel_rfl) ?_
            repeat (refine QS.step (fun K hK => ?_); go_simp; first | (refine hK _ ?_; clear hK K) | (apply Exists.intro; refine ⟨fun _ => ?_, hK _ ?_⟩; (first | (go_at_call 33; exact Calls.below_of (HFI2.out _)) | (go_at_call 34; exact Calls.below_of (HLI2.out _))); clear hK K))
            refine QS.nil ?_
            rintro _ ⟨p5, rfl⟩
            obtain ⟨w5, hw5⟩ : ∃ W, p5.W = W := ⟨_, rfl⟩
            have hb5 := p5.h
            rw [hw5] at hb5 ⊢
            clear hw5 p5
            have HB5 := hid' (below_two HB4b.out hb5)
            have HA5 := hid' (HA4b.out.keep hb5)
            clear hb5 q0 q1 hne HFI2 HLI2
            have k2 : ¬ 9223372036854775807 < A.length + F.length + 19 := by have := HAF.out; omega
            have k3 : ¬ 9223372036854775807 < A.length + F.length + 19 + 2 := by have := HAF.out; omega
            have x0 := HA5.out.cell 0 _ rfl
            have x1 := HA5.out.cell 1 _ rfl
            have x2 := HA5.out.cell 2 _ rfl
            have x3 := HA5.out.cell 3 _ rfl
            go_upto_region 16 with fail
            have HTT : Hid ((((⟨A.toArray⟩ : ByteArray) ++ ⟨F.toArray⟩) ++ ⟨#[99, 111, 110, 110, 101, 99, 116, 105, 111, 110, 58, 32, 99, 108, 111, 115, 101, 13, 10]⟩) ++ ⟨#[13, 10]⟩ = ⟨(Hw.top ⟨s, fs, b, ts⟩ false old true).toArray⟩) := hid' (by
              apply ByteArray.ext
              unfold Hw.top
              rw [HLA.out, HLF.out]
              simp [ByteArray.data_append, Hw.ends, Hw.clo, Hw.crlf])
            obtain ⟨tp, htp⟩ : ∃ tp, Hw.top ⟨s, fs, b, ts⟩ false old true = tp := ⟨_, rfl⟩
            rw [htp] at HTT
            have HTP := hid' htp
            clear htp
            go_upto_region 17 with fail
            rw [HTT.out]
            have HO1 := hid' (own_base21 (own_one22 w5 (.string ⟨tp.toArray⟩)) HB5.out.size)
            have HB6 := hid' (HB5.out.alloc HB5.out.size (.cells #[.string ⟨tp.toArray⟩] 9))
            have HA6 := hid' (HA5.out.keep (bl_alloc w5 (.cells #[.string ⟨tp.toArray⟩] 9)))
            obtain ⟨tb, htb⟩ : ∃ tb, w5.heap.size = tb := ⟨_, rfl⟩
            rw [htb] at HO1 ⊢
            generalize w5.alloc (.cells #[.string ⟨tp.toArray⟩] 9) = w6 at *
            clear htb x0 x1 x2 x3
            have HP : Hid (Hw.pieces ⟨s, fs, b, ts⟩ old false true = ([tp], 0)) := hid' (by unfold Hw.pieces; simp only [HM1.out, HM2.out, HLO.out]; simp [Hw.bare, HBR.out, Hw.opn, HTP.out])
            have x0 := HA6.out.cell 0 _ rfl
            have x1 := HA6.out.cell 1 _ rfl
            have x2 := HA6.out.cell 2 _ rfl
            have x3 := HA6.out.cell 3 _ rfl
            go_wp2
            go_ret2
            rw [HP.out]
            exact ⟨_, 1, rfl, HO1.out, HB6.out⟩
  cases d2 : (t == 204)
  rotate_left
  · have HBR : Hid (Hw.bare0 (Hw.stat s) = true) := hid' (by rw [HTS.out]; exact HBB.out)
    cases o with
    | none =>
      have HLNv : Hid (∀ W, Below w.heap.size w W → Calls Tryd.prog 21 #[fv] W fun e w' => e = .returned (.tuple #[.int .i64 0, .bool false, .int .i64 142]) ∧ Below W.heap.size W w') := hid' (by exact HLN.out)
      have HLNe := HLN
      clear HLN
      have HLN := HLNv
      clear HLNv
      go_enter Tryd.func8, Tryd.ntmps8
      go_upto_region 1 with fail
      obtain ⟨xb, hxb⟩ : ∃ xb, w.heap.size = xb := ⟨_, rfl⟩
      rw [hxb] at HX ⊢
      generalize w.alloc (.cells #[.int .i64 s, fv, .string b, tv] 24) = w1 at *
      have HA1 := HX
      have HB1 := HBX
      clear HX HBX hxb
      have x0 := HA1.out.cell 0 _ rfl
      have x1 := HA1.out.cell 1 _ rfl
      have x2 := HA1.out.cell 2 _ rfl
      have x3 := HA1.out.cell 3 _ rfl
      go_wp2_with fail
      refine (HS1.out _ HB1.out).mono ?_
      rintro e w2 ⟨rfl, hw2⟩
      subst hw2
      have HB2 := HB1
      have HA2 := HA1
      clear x0 x1 x2 x3
      cases m1
      · have HP : Hid (Hw.pieces ⟨s, fs, b, ts⟩ old false last = ([], 220)) := hid' (by unfold Hw.pieces; rw [HM1.out]; rfl)
        have x0 := HA2.out.cell 0 _ rfl
        have x1 := HA2.out.cell 1 _ rfl
        have x2 := HA2.out.cell 2 _ rfl
        have x3 := HA2.out.cell 3 _ rfl
        go_wp2
        go_ret2
        rw [HP.out]
        exact ⟨none, 0, rfl, World.ownsRow_nil _ _ _ _, HB2.out⟩
      · have x0 := HA2.out.cell 0 _ rfl
        have x1 := HA2.out.cell 1 _ rfl
        have x2 := HA2.out.cell 2 _ rfl
        have x3 := HA2.out.cell 3 _ rfl
        go_wp2_with fail
        refine (HS2.out _ HB2.out).mono ?_
        rintro e w3 ⟨rfl, hw3⟩
        subst hw3
        have HB3 := HB2
        have HA3 := HA2
        clear x0 x1 x2 x3
        cases m2
        · have HP : Hid (Hw.pieces ⟨s, fs, b, ts⟩ old false last = ([], 220)) := hid' (by unfold Hw.pieces; rw [HM1.out, HM2.out]; rfl)
          have x0 := HA3.out.cell 0 _ rfl
          have x1 := HA3.out.cell 1 _ rfl
          have x2 := HA3.out.cell 2 _ rfl
          have x3 := HA3.out.cell 3 _ rfl
          go_wp2
          go_ret2
          rw [HP.out]
          exact ⟨none, 0, rfl, World.ownsRow_nil _ _ _ _, HB3.out⟩
        · have x0 := HA3.out.cell 0 _ rfl
          have x1 := HA3.out.cell 1 _ rfl
          have x2 := HA3.out.cell 2 _ rfl
          have x3 := HA3.out.cell 3 _ rfl
          go_wp2_with fail
          refine (HST.out _).mono ?_
          rintro e w4 ⟨rfl, hw4⟩
          subst hw4
          have HB4 := HB3
          have HA4 := HA3
          clear x0 x1 x2 x3
          have x0 := HA4.out.cell 0 _ rfl
          have x1 := HA4.out.cell 1 _ rfl
          have x2 := HA4.out.cell 2 _ rfl
          have x3 := HA4.out.cell 3 _ rfl
          go_wp2_with fail
          refine (HLN.out _ HB4.out).mono ?_
          rintro e w4b ⟨rfl, hb4b⟩
          have HB4b := hid' (below_two HB4.out hb4b)
          have HA4b := hid' (HA4.out.keep hb4b)
          clear hb4b
          clear x0 x1 x2 x3
          have HP : Hid (Hw.pieces ⟨s, fs, b, ts⟩ old false last = ([], 142)) := hid' (by unfold Hw.pieces; simp only [HM1.out, HM2.out, HLO.out]; rfl)
          have x0 := HA4b.out.cell 0 _ rfl
          have x1 := HA4b.out.cell 1 _ rfl
          have x2 := HA4b.out.cell 2 _ rfl
          have x3 := HA4b.out.cell 3 _ rfl
          go_wp2
          go_ret2
          rw [HP.out]
          exact ⟨none, 0, rfl, World.ownsRow_nil _ _ _ _, HB4b.out⟩
    | some q =>
      obtain ⟨nv, lg, hnl⟩ : ∃ nv lg, Ms.lenV (some q) = .tuple #[.int .i64 nv, .bool lg, .int .i64 0] := by cases q <;> exact ⟨_, _, rfl⟩
      have HLNv : Hid (∀ W, Below w.heap.size w W → Calls Tryd.prog 21 #[fv] W fun e w' => e = .returned (.tuple #[.int .i64 nv, .bool lg, .int .i64 0]) ∧ Below W.heap.size W w') := hid' (by rw [← hnl]; exact HLN.out)
      have HLNe := HLN
      clear HLN
      have HLN := HLNv
      clear HLNv
      clear hnl
      cases last
      · cases old
        · go_enter Tryd.func8, Tryd.ntmps8
          go_upto_region 1 with fail
          obtain ⟨xb, hxb⟩ : ∃ xb, w.heap.size = xb := ⟨_, rfl⟩
          rw [hxb] at HX ⊢
          generalize w.alloc (.cells #[.int .i64 s, fv, .string b, tv] 24) = w1 at *
          have HA1 := HX
          have HB1 := HBX
          clear HX HBX hxb
          have x0 := HA1.out.cell 0 _ rfl
          have x1 := HA1.out.cell 1 _ rfl
          have x2 := HA1.out.cell 2 _ rfl
          have x3 := HA1.out.cell 3 _ rfl
          go_wp2_with fail
          refine (HS1.out _ HB1.out).mono ?_
          rintro e w2 ⟨rfl, hw2⟩
          subst hw2
          have HB2 := HB1
          have HA2 := HA1
          clear x0 x1 x2 x3
          cases m1
          · have HP : Hid (Hw.pieces ⟨s, fs, b, ts⟩ false false false = ([], 220)) := hid' (by unfold Hw.pieces; rw [HM1.out]; rfl)
            have x0 := HA2.out.cell 0 _ rfl
            have x1 := HA2.out.cell 1 _ rfl
            have x2 := HA2.out.cell 2 _ rfl
            have x3 := HA2.out.cell 3 _ rfl
            go_wp2
            go_ret2
            rw [HP.out]
            exact ⟨none, 0, rfl, World.ownsRow_nil _ _ _ _, HB2.out⟩
          · have x0 := HA2.out.cell 0 _ rfl
            have x1 := HA2.out.cell 1 _ rfl
            have x2 := HA2.out.cell 2 _ rfl
            have x3 := HA2.out.cell 3 _ rfl
            go_wp2_with fail
            refine (HS2.out _ HB2.out).mono ?_
            rintro e w3 ⟨rfl, hw3⟩
            subst hw3
            have HB3 := HB2
            have HA3 := HA2
            clear x0 x1 x2 x3
            cases m2
            · have HP : Hid (Hw.pieces ⟨s, fs, b, ts⟩ false false false = ([], 220)) := hid' (by unfold Hw.pieces; rw [HM1.out, HM2.out]; rfl)
              have x0 := HA3.out.cell 0 _ rfl
              have x1 := HA3.out.cell 1 _ rfl
              have x2 := HA3.out.cell 2 _ rfl
              have x3 := HA3.out.cell 3 _ rfl
              go_wp2
              go_ret2
              rw [HP.out]
              exact ⟨none, 0, rfl, World.ownsRow_nil _ _ _ _, HB3.out⟩
            · have x0 := HA3.out.cell 0 _ rfl
              have x1 := HA3.out.cell 1 _ rfl
              have x2 := HA3.out.cell 2 _ rfl
              have x3 := HA3.out.cell 3 _ rfl
              go_wp2_with fail
              refine (HST.out _).mono ?_
              rintro e w4 ⟨rfl, hw4⟩
              subst hw4
              have HB4 := HB3
              have HA4 := HA3
              clear x0 x1 x2 x3
              have x0 := HA4.out.cell 0 _ rfl
              have x1 := HA4.out.cell 1 _ rfl
              have x2 := HA4.out.cell 2 _ rfl
              have x3 := HA4.out.cell 3 _ rfl
              go_wp2_with fail
              refine (HLN.out _ HB4.out).mono ?_
              rintro e w4b ⟨rfl, hb4b⟩
              have HB4b := hid' (below_two HB4.out hb4b)
              have HA4b := hid' (HA4.out.keep hb4b)
              clear hb4b
              clear x0 x1 x2 x3
              have x0 := HA4b.out.cell 0 _ rfl
              have x1 := HA4b.out.cell 1 _ rfl
              have x2 := HA4b.out.cell 2 _ rfl
              have x3 := HA4b.out.cell 3 _ rfl
              go_upto_region 8 with fail
              clear x0 x1 x2 x3
              have q0 : ∀ z : BW w4b, z.W.cell? ⟨xb, 0, none⟩ = some (.int .i64 s) := fun z => (HA4b.out.keep z.h).cell 0 _ rfl
              have q1 : ∀ z : BW w4b, z.W.cell? ⟨xb, 1, none⟩ = some fv := fun z => (HA4b.out.keep z.h).cell 1 _ rfl
              have hne : Nonempty (BW w4b) := ⟨⟨w4b, Below.refl _ _⟩⟩
              have HFI2 := hid' (fun z : BW w4b => HFI.out z.W)
              have HLI2 := hid' (fun z : BW w4b => HLI.out z.W (below_two HB4b.out z.h))
              refine wp_region_below_s (by kernel_rfl) (by kernel_rfl) ?_
              repeat (refine QS.step (fun K hK => ?_); go_simp; first | (refine hK _ ?_; clear hK K) | (apply Exists.intro; refine ⟨fun _ => ?_, hK _ ?_⟩; (first | (go_at_call 33; exact Calls.below_of (HFI2.out _)) | (go_at_call 34; exact Calls.below_of (HLI2.out _))); clear hK K))
              refine QS.nil ?_
              rintro _ ⟨p5, rfl⟩
              obtain ⟨w5, hw5⟩ : ∃ W, p5.W = W := ⟨_, rfl⟩
              have hb5 := p5.h
              rw [hw5] at hb5 ⊢
              clear hw5 p5
              have HB5 := hid' (below_two HB4b.out hb5)
              have HA5 := hid' (HA4b.out.keep hb5)
              clear hb5 q0 q1 hne HFI2 HLI2
              have k2 : ¬ 9223372036854775807 < A.length + F.length + 2 := by have := HAF.out; omega
              have x0 := HA5.out.cell 0 _ rfl
              have x1 := HA5.out.cell 1 _ rfl
              have x2 := HA5.out.cell 2 _ rfl
              have x3 := HA5.out.cell 3 _ rfl
              go_upto_region 16 with fail
              have HTT : Hid (((⟨A.toArray⟩ : ByteArray) ++ ⟨F.toArray⟩) ++ ⟨#[13, 10]⟩ = ⟨(Hw.top ⟨s, fs, b, ts⟩ false false false).toArray⟩) := hid' (by
                apply ByteArray.ext
                unfold Hw.top
                rw [HLA.out, HLF.out]
                simp [ByteArray.data_append, Hw.ends, Hw.crlf])
              obtain ⟨tp, htp⟩ : ∃ tp, Hw.top ⟨s, fs, b, ts⟩ false false false = tp := ⟨_, rfl⟩
              rw [htp] at HTT
              have HTP := hid' htp
              clear htp
              go_upto_region 17 with fail
              rw [HTT.out]
              have HO1 := hid' (own_base21 (own_one22 w5 (.string ⟨tp.toArray⟩)) HB5.out.size)
              have HB6 := hid' (HB5.out.alloc HB5.out.size (.cells #[.string ⟨tp.toArray⟩] 9))
              have HA6 := hid' (HA5.out.keep (bl_alloc w5 (.cells #[.string ⟨tp.toArray⟩] 9)))
              obtain ⟨tb, htb⟩ : ∃ tb, w5.heap.size = tb := ⟨_, rfl⟩
              rw [htb] at HO1 ⊢
              generalize w5.alloc (.cells #[.string ⟨tp.toArray⟩] 9) = w6 at *
              clear htb x0 x1 x2 x3
              have HP : Hid (Hw.pieces ⟨s, fs, b, ts⟩ false false false = ([tp], 0)) := hid' (by unfold Hw.pieces; simp only [HM1.out, HM2.out, HLO.out]; simp [Hw.bare, HBR.out, Hw.opn, HTP.out])
              have x0 := HA6.out.cell 0 _ rfl
              have x1 := HA6.out.cell 1 _ rfl
              have x2 := HA6.out.cell 2 _ rfl
              have x3 := HA6.out.cell 3 _ rfl
              go_wp2
              go_ret2
              rw [HP.out]
              exact ⟨_, 1, rfl, HO1.out, HB6.out⟩
        · go_enter Tryd.func8, Tryd.ntmps8
          go_upto_region 1 with fail
          obtain ⟨xb, hxb⟩ : ∃ xb, w.heap.size = xb := ⟨_, rfl⟩
          rw [hxb] at HX ⊢
          generalize w.alloc (.cells #[.int .i64 s, fv, .string b, tv] 24) = w1 at *
          have HA1 := HX
          have HB1 := HBX
          clear HX HBX hxb
          have x0 := HA1.out.cell 0 _ rfl
          have x1 := HA1.out.cell 1 _ rfl
          have x2 := HA1.out.cell 2 _ rfl
          have x3 := HA1.out.cell 3 _ rfl
          go_wp2_with fail
          refine (HS1.out _ HB1.out).mono ?_
          rintro e w2 ⟨rfl, hw2⟩
          subst hw2
          have HB2 := HB1
          have HA2 := HA1
          clear x0 x1 x2 x3
          cases m1
          · have HP : Hid (Hw.pieces ⟨s, fs, b, ts⟩ true false false = ([], 220)) := hid' (by unfold Hw.pieces; rw [HM1.out]; rfl)
            have x0 := HA2.out.cell 0 _ rfl
            have x1 := HA2.out.cell 1 _ rfl
            have x2 := HA2.out.cell 2 _ rfl
            have x3 := HA2.out.cell 3 _ rfl
            go_wp2
            go_ret2
            rw [HP.out]
            exact ⟨none, 0, rfl, World.ownsRow_nil _ _ _ _, HB2.out⟩
          · have x0 := HA2.out.cell 0 _ rfl
            have x1 := HA2.out.cell 1 _ rfl
            have x2 := HA2.out.cell 2 _ rfl
            have x3 := HA2.out.cell 3 _ rfl
            go_wp2_with fail
            refine (HS2.out _ HB2.out).mono ?_
            rintro e w3 ⟨rfl, hw3⟩
            subst hw3
            have HB3 := HB2
            have HA3 := HA2
            clear x0 x1 x2 x3
            cases m2
            · have HP : Hid (Hw.pieces ⟨s, fs, b, ts⟩ true false false = ([], 220)) := hid' (by unfold Hw.pieces; rw [HM1.out, HM2.out]; rfl)
              have x0 := HA3.out.cell 0 _ rfl
              have x1 := HA3.out.cell 1 _ rfl
              have x2 := HA3.out.cell 2 _ rfl
              have x3 := HA3.out.cell 3 _ rfl
              go_wp2
              go_ret2
              rw [HP.out]
              exact ⟨none, 0, rfl, World.ownsRow_nil _ _ _ _, HB3.out⟩
            · have x0 := HA3.out.cell 0 _ rfl
              have x1 := HA3.out.cell 1 _ rfl
              have x2 := HA3.out.cell 2 _ rfl
              have x3 := HA3.out.cell 3 _ rfl
              go_wp2_with fail
              refine (HST.out _).mono ?_
              rintro e w4 ⟨rfl, hw4⟩
              subst hw4
              have HB4 := HB3
              have HA4 := HA3
              clear x0 x1 x2 x3
              have x0 := HA4.out.cell 0 _ rfl
              have x1 := HA4.out.cell 1 _ rfl
              have x2 := HA4.out.cell 2 _ rfl
              have x3 := HA4.out.cell 3 _ rfl
              go_wp2_with fail
              refine (HLN.out _ HB4.out).mono ?_
              rintro e w4b ⟨rfl, hb4b⟩
              have HB4b := hid' (below_two HB4.out hb4b)
              have HA4b := hid' (HA4.out.keep hb4b)
              clear hb4b
              clear x0 x1 x2 x3
              have x0 := HA4b.out.cell 0 _ rfl
              have x1 := HA4b.out.cell 1 _ rfl
              have x2 := HA4b.out.cell 2 _ rfl
              have x3 := HA4b.out.cell 3 _ rfl
              go_upto_region 8 with fail
              clear x0 x1 x2 x3
              have q0 : ∀ z : BW w4b, z.W.cell? ⟨xb, 0, none⟩ = some (.int .i64 s) := fun z => (HA4b.out.keep z.h).cell 0 _ rfl
              have q1 : ∀ z : BW w4b, z.W.cell? ⟨xb, 1, none⟩ = some fv := fun z => (HA4b.out.keep z.h).cell 1 _ rfl
              have hne : Nonempty (BW w4b) := ⟨⟨w4b, Below.refl _ _⟩⟩
              have HFI2 := hid' (fun z : BW w4b => HFI.out z.W)
              have HLI2 := hid' (fun z : BW w4b => HLI.out z.W (below_two HB4b.out z.h))
              refine wp_region_below_s (by kernel_rfl) (by kernel_rfl) ?_
              repeat (refine QS.step (fun K hK => ?_); go_simp; first | (refine hK _ ?_; clear hK K) | (apply Exists.intro; refine ⟨fun _ => ?_, hK _ ?_⟩; (first | (go_at_call 33; exact Calls.below_of (HFI2.out _)) | (go_at_call 34; exact Calls.below_of (HLI2.out _))); clear hK K))
              refine QS.nil ?_
              rintro _ ⟨p5, rfl⟩
              obtain ⟨w5, hw5⟩ : ∃ W, p5.W = W := ⟨_, rfl⟩
              have hb5 := p5.h
              rw [hw5] at hb5 ⊢
              clear hw5 p5
              have HB5 := hid' (below_two HB4b.out hb5)
              have HA5 := hid' (HA4b.out.keep hb5)
              clear hb5 q0 q1 hne HFI2 HLI2
              have k2 : ¬ 9223372036854775807 < A.length + F.length + 24 := by have := HAF.out; omega
              have k3 : ¬ 9223372036854775807 < A.length + F.length + 24 + 2 := by have := HAF.out; omega
              have x0 := HA5.out.cell 0 _ rfl
              have x1 := HA5.out.cell 1 _ rfl
              have x2 := HA5.out.cell 2 _ rfl
              have x3 := HA5.out.cell 3 _ rfl
              go_upto_region 16 with fail
              have HTT : Hid ((((⟨A.toArray⟩ : ByteArray) ++ ⟨F.toArray⟩) ++ ⟨#[99, 111, 110, 110, 101, 99, 116, 105, 111, 110, 58, 32, 107, 101, 101, 112, 45, 97, 108, 105, 118, 101, 13, 10]⟩) ++ ⟨#[13, 10]⟩ = ⟨(Hw.top ⟨s, fs, b, ts⟩ false true false).toArray⟩) := hid' (by
                apply ByteArray.ext
                unfold Hw.top
                rw [HLA.out, HLF.out]
                simp [ByteArray.data_append, Hw.ends, Hw.kee, Hw.crlf])
              obtain ⟨tp, htp⟩ : ∃ tp, Hw.top ⟨s, fs, b, ts⟩ false true false = tp := ⟨_, rfl⟩
              rw [htp] at HTT
              have HTP := hid' htp
              clear htp
              go_upto_region 17 with fail
              rw [HTT.out]
              have HO1 := hid' (own_base21 (own_one22 w5 (.string ⟨tp.toArray⟩)) HB5.out.size)
              have HB6 := hid' (HB5.out.alloc HB5.out.size (.cells #[.string ⟨tp.toArray⟩] 9))
              have HA6 := hid' (HA5.out.keep (bl_alloc w5 (.cells #[.string ⟨tp.toArray⟩] 9)))
              obtain ⟨tb, htb⟩ : ∃ tb, w5.heap.size = tb := ⟨_, rfl⟩
              rw [htb] at HO1 ⊢
              generalize w5.alloc (.cells #[.string ⟨tp.toArray⟩] 9) = w6 at *
              clear htb x0 x1 x2 x3
              have HP : Hid (Hw.pieces ⟨s, fs, b, ts⟩ true false false = ([tp], 0)) := hid' (by unfold Hw.pieces; simp only [HM1.out, HM2.out, HLO.out]; simp [Hw.bare, HBR.out, Hw.opn, HTP.out])
              have x0 := HA6.out.cell 0 _ rfl
              have x1 := HA6.out.cell 1 _ rfl
              have x2 := HA6.out.cell 2 _ rfl
              have x3 := HA6.out.cell 3 _ rfl
              go_wp2
              go_ret2
              rw [HP.out]
              exact ⟨_, 1, rfl, HO1.out, HB6.out⟩
      · go_enter Tryd.func8, Tryd.ntmps8
        go_upto_region 1 with fail
        obtain ⟨xb, hxb⟩ : ∃ xb, w.heap.size = xb := ⟨_, rfl⟩
        rw [hxb] at HX ⊢
        generalize w.alloc (.cells #[.int .i64 s, fv, .string b, tv] 24) = w1 at *
        have HA1 := HX
        have HB1 := HBX
        clear HX HBX hxb
        have x0 := HA1.out.cell 0 _ rfl
        have x1 := HA1.out.cell 1 _ rfl
        have x2 := HA1.out.cell 2 _ rfl
        have x3 := HA1.out.cell 3 _ rfl
        go_wp2_with fail
        refine (HS1.out _ HB1.out).mono ?_
        rintro e w2 ⟨rfl, hw2⟩
        subst hw2
        have HB2 := HB1
        have HA2 := HA1
        clear x0 x1 x2 x3
        cases m1
        · have HP : Hid (Hw.pieces ⟨s, fs, b, ts⟩ old false true = ([], 220)) := hid' (by unfold Hw.pieces; rw [HM1.out]; rfl)
          have x0 := HA2.out.cell 0 _ rfl
          have x1 := HA2.out.cell 1 _ rfl
          have x2 := HA2.out.cell 2 _ rfl
          have x3 := HA2.out.cell 3 _ rfl
          go_wp2
          go_ret2
          rw [HP.out]
          exact ⟨none, 0, rfl, World.ownsRow_nil _ _ _ _, HB2.out⟩
        · have x0 := HA2.out.cell 0 _ rfl
          have x1 := HA2.out.cell 1 _ rfl
          have x2 := HA2.out.cell 2 _ rfl
          have x3 := HA2.out.cell 3 _ rfl
          go_wp2_with fail
          refine (HS2.out _ HB2.out).mono ?_
          rintro e w3 ⟨rfl, hw3⟩
          subst hw3
          have HB3 := HB2
          have HA3 := HA2
          clear x0 x1 x2 x3
          cases m2
          · have HP : Hid (Hw.pieces ⟨s, fs, b, ts⟩ old false true = ([], 220)) := hid' (by unfold Hw.pieces; rw [HM1.out, HM2.out]; rfl)
            have x0 := HA3.out.cell 0 _ rfl
            have x1 := HA3.out.cell 1 _ rfl
            have x2 := HA3.out.cell 2 _ rfl
            have x3 := HA3.out.cell 3 _ rfl
            go_wp2
            go_ret2
            rw [HP.out]
            exact ⟨none, 0, rfl, World.ownsRow_nil _ _ _ _, HB3.out⟩
          · have x0 := HA3.out.cell 0 _ rfl
            have x1 := HA3.out.cell 1 _ rfl
            have x2 := HA3.out.cell 2 _ rfl
            have x3 := HA3.out.cell 3 _ rfl
            go_wp2_with fail
            refine (HST.out _).mono ?_
            rintro e w4 ⟨rfl, hw4⟩
            subst hw4
            have HB4 := HB3
            have HA4 := HA3
            clear x0 x1 x2 x3
            have x0 := HA4.out.cell 0 _ rfl
            have x1 := HA4.out.cell 1 _ rfl
            have x2 := HA4.out.cell 2 _ rfl
            have x3 := HA4.out.cell 3 _ rfl
            go_wp2_with fail
            refine (HLN.out _ HB4.out).mono ?_
            rintro e w4b ⟨rfl, hb4b⟩
            have HB4b := hid' (below_two HB4.out hb4b)
            have HA4b := hid' (HA4.out.keep hb4b)
            clear hb4b
            clear x0 x1 x2 x3
            have x0 := HA4b.out.cell 0 _ rfl
            have x1 := HA4b.out.cell 1 _ rfl
            have x2 := HA4b.out.cell 2 _ rfl
            have x3 := HA4b.out.cell 3 _ rfl
            go_upto_region 8 with fail
            clear x0 x1 x2 x3
            have q0 : ∀ z : BW w4b, z.W.cell? ⟨xb, 0, none⟩ = some (.int .i64 s) := fun z => (HA4b.out.keep z.h).cell 0 _ rfl
            have q1 : ∀ z : BW w4b, z.W.cell? ⟨xb, 1, none⟩ = some fv := fun z => (HA4b.out.keep z.h).cell 1 _ rfl
            have hne : Nonempty (BW w4b) := ⟨⟨w4b, Below.refl _ _⟩⟩
            have HFI2 := hid' (fun z : BW w4b => HFI.out z.W)
            have HLI2 := hid' (fun z : BW w4b => HLI.out z.W (below_two HB4b.out z.h))
            refine wp_region_below_s (by kernel_rfl) (by kernel_rfl) ?_
            repeat (refine QS.step (fun K hK => ?_); go_simp; first | (refine hK _ ?_; clear hK K) | (apply Exists.intro; refine ⟨fun _ => ?_, hK _ ?_⟩; (first | (go_at_call 33; exact Calls.below_of (HFI2.out _)) | (go_at_call 34; exact Calls.below_of (HLI2.out _))); clear hK K))
            refine QS.nil ?_
            rintro _ ⟨p5, rfl⟩
            obtain ⟨w5, hw5⟩ : ∃ W, p5.W = W := ⟨_, rfl⟩
            have hb5 := p5.h
            rw [hw5] at hb5 ⊢
            clear hw5 p5
            have HB5 := hid' (below_two HB4b.out hb5)
            have HA5 := hid' (HA4b.out.keep hb5)
            clear hb5 q0 q1 hne HFI2 HLI2
            have k2 : ¬ 9223372036854775807 < A.length + F.length + 19 := by have := HAF.out; omega
            have k3 : ¬ 9223372036854775807 < A.length + F.length + 19 + 2 := by have := HAF.out; omega
            have x0 := HA5.out.cell 0 _ rfl
            have x1 := HA5.out.cell 1 _ rfl
            have x2 := HA5.out.cell 2 _ rfl
            have x3 := HA5.out.cell 3 _ rfl
            go_upto_region 16 with fail
            have HTT : Hid ((((⟨A.toArray⟩ : ByteArray) ++ ⟨F.toArray⟩) ++ ⟨#[99, 111, 110, 110, 101, 99, 116, 105, 111, 110, 58, 32, 99, 108, 111, 115, 101, 13, 10]⟩) ++ ⟨#[13, 10]⟩ = ⟨(Hw.top ⟨s, fs, b, ts⟩ false old true).toArray⟩) := hid' (by
              apply ByteArray.ext
              unfold Hw.top
              rw [HLA.out, HLF.out]
              simp [ByteArray.data_append, Hw.ends, Hw.clo, Hw.crlf])
            obtain ⟨tp, htp⟩ : ∃ tp, Hw.top ⟨s, fs, b, ts⟩ false old true = tp := ⟨_, rfl⟩
            rw [htp] at HTT
            have HTP := hid' htp
            clear htp
            go_upto_region 17 with fail
            rw [HTT.out]
            have HO1 := hid' (own_base21 (own_one22 w5 (.string ⟨tp.toArray⟩)) HB5.out.size)
            have HB6 := hid' (HB5.out.alloc HB5.out.size (.cells #[.string ⟨tp.toArray⟩] 9))
            have HA6 := hid' (HA5.out.keep (bl_alloc w5 (.cells #[.string ⟨tp.toArray⟩] 9)))
            obtain ⟨tb, htb⟩ : ∃ tb, w5.heap.size = tb := ⟨_, rfl⟩
            rw [htb] at HO1 ⊢
            generalize w5.alloc (.cells #[.string ⟨tp.toArray⟩] 9) = w6 at *
            clear htb x0 x1 x2 x3
            have HP : Hid (Hw.pieces ⟨s, fs, b, ts⟩ old false true = ([tp], 0)) := hid' (by unfold Hw.pieces; simp only [HM1.out, HM2.out, HLO.out]; simp [Hw.bare, HBR.out, Hw.opn, HTP.out])
            have x0 := HA6.out.cell 0 _ rfl
            have x1 := HA6.out.cell 1 _ rfl
            have x2 := HA6.out.cell 2 _ rfl
            have x3 := HA6.out.cell 3 _ rfl
            go_wp2
            go_ret2
            rw [HP.out]
            exact ⟨_, 1, rfl, HO1.out, HB6.out⟩
  cases d3 : (t == 304)
  rotate_left
  · have HBR : Hid (Hw.bare0 (Hw.stat s) = true) := hid' (by rw [HTS.out]; exact HBB.out)
    cases o with
    | none =>
      have HLNv : Hid (∀ W, Below w.heap.size w W → Calls Tryd.prog 21 #[fv] W fun e w' => e = .returned (.tuple #[.int .i64 0, .bool false, .int .i64 142]) ∧ Below W.heap.size W w') := hid' (by exact HLN.out)
      have HLNe := HLN
      clear HLN
      have HLN := HLNv
      clear HLNv
      go_enter Tryd.func8, Tryd.ntmps8
      go_upto_region 1 with fail
      obtain ⟨xb, hxb⟩ : ∃ xb, w.heap.size = xb := ⟨_, rfl⟩
      rw [hxb] at HX ⊢
      generalize w.alloc (.cells #[.int .i64 s, fv, .string b, tv] 24) = w1 at *
      have HA1 := HX
      have HB1 := HBX
      clear HX HBX hxb
      have x0 := HA1.out.cell 0 _ rfl
      have x1 := HA1.out.cell 1 _ rfl
      have x2 := HA1.out.cell 2 _ rfl
      have x3 := HA1.out.cell 3 _ rfl
      go_wp2_with fail
      refine (HS1.out _ HB1.out).mono ?_
      rintro e w2 ⟨rfl, hw2⟩
      subst hw2
      have HB2 := HB1
      have HA2 := HA1
      clear x0 x1 x2 x3
      cases m1
      · have HP : Hid (Hw.pieces ⟨s, fs, b, ts⟩ old false last = ([], 220)) := hid' (by unfold Hw.pieces; rw [HM1.out]; rfl)
        have x0 := HA2.out.cell 0 _ rfl
        have x1 := HA2.out.cell 1 _ rfl
        have x2 := HA2.out.cell 2 _ rfl
        have x3 := HA2.out.cell 3 _ rfl
        go_wp2
        go_ret2
        rw [HP.out]
        exact ⟨none, 0, rfl, World.ownsRow_nil _ _ _ _, HB2.out⟩
      · have x0 := HA2.out.cell 0 _ rfl
        have x1 := HA2.out.cell 1 _ rfl
        have x2 := HA2.out.cell 2 _ rfl
        have x3 := HA2.out.cell 3 _ rfl
        go_wp2_with fail
        refine (HS2.out _ HB2.out).mono ?_
        rintro e w3 ⟨rfl, hw3⟩
        subst hw3
        have HB3 := HB2
        have HA3 := HA2
        clear x0 x1 x2 x3
        cases m2
        · have HP : Hid (Hw.pieces ⟨s, fs, b, ts⟩ old false last = ([], 220)) := hid' (by unfold Hw.pieces; rw [HM1.out, HM2.out]; rfl)
          have x0 := HA3.out.cell 0 _ rfl
          have x1 := HA3.out.cell 1 _ rfl
          have x2 := HA3.out.cell 2 _ rfl
          have x3 := HA3.out.cell 3 _ rfl
          go_wp2
          go_ret2
          rw [HP.out]
          exact ⟨none, 0, rfl, World.ownsRow_nil _ _ _ _, HB3.out⟩
        · have x0 := HA3.out.cell 0 _ rfl
          have x1 := HA3.out.cell 1 _ rfl
          have x2 := HA3.out.cell 2 _ rfl
          have x3 := HA3.out.cell 3 _ rfl
          go_wp2_with fail
          refine (HST.out _).mono ?_
          rintro e w4 ⟨rfl, hw4⟩
          subst hw4
          have HB4 := HB3
          have HA4 := HA3
          clear x0 x1 x2 x3
          have x0 := HA4.out.cell 0 _ rfl
          have x1 := HA4.out.cell 1 _ rfl
          have x2 := HA4.out.cell 2 _ rfl
          have x3 := HA4.out.cell 3 _ rfl
          go_wp2_with fail
          refine (HLN.out _ HB4.out).mono ?_
          rintro e w4b ⟨rfl, hb4b⟩
          have HB4b := hid' (below_two HB4.out hb4b)
          have HA4b := hid' (HA4.out.keep hb4b)
          clear hb4b
          clear x0 x1 x2 x3
          have HP : Hid (Hw.pieces ⟨s, fs, b, ts⟩ old false last = ([], 142)) := hid' (by unfold Hw.pieces; simp only [HM1.out, HM2.out, HLO.out]; rfl)
          have x0 := HA4b.out.cell 0 _ rfl
          have x1 := HA4b.out.cell 1 _ rfl
          have x2 := HA4b.out.cell 2 _ rfl
          have x3 := HA4b.out.cell 3 _ rfl
          go_wp2
          go_ret2
          rw [HP.out]
          exact ⟨none, 0, rfl, World.ownsRow_nil _ _ _ _, HB4b.out⟩
    | some q =>
      obtain ⟨nv, lg, hnl⟩ : ∃ nv lg, Ms.lenV (some q) = .tuple #[.int .i64 nv, .bool lg, .int .i64 0] := by cases q <;> exact ⟨_, _, rfl⟩
      have HLNv : Hid (∀ W, Below w.heap.size w W → Calls Tryd.prog 21 #[fv] W fun e w' => e = .returned (.tuple #[.int .i64 nv, .bool lg, .int .i64 0]) ∧ Below W.heap.size W w') := hid' (by rw [← hnl]; exact HLN.out)
      have HLNe := HLN
      clear HLN
      have HLN := HLNv
      clear HLNv
      clear hnl
      cases last
      · cases old
        · go_enter Tryd.func8, Tryd.ntmps8
          go_upto_region 1 with fail
          obtain ⟨xb, hxb⟩ : ∃ xb, w.heap.size = xb := ⟨_, rfl⟩
          rw [hxb] at HX ⊢
          generalize w.alloc (.cells #[.int .i64 s, fv, .string b, tv] 24) = w1 at *
          have HA1 := HX
          have HB1 := HBX
          clear HX HBX hxb
          have x0 := HA1.out.cell 0 _ rfl
          have x1 := HA1.out.cell 1 _ rfl
          have x2 := HA1.out.cell 2 _ rfl
          have x3 := HA1.out.cell 3 _ rfl
          go_wp2_with fail
          refine (HS1.out _ HB1.out).mono ?_
          rintro e w2 ⟨rfl, hw2⟩
          subst hw2
          have HB2 := HB1
          have HA2 := HA1
          clear x0 x1 x2 x3
          cases m1
          · have HP : Hid (Hw.pieces ⟨s, fs, b, ts⟩ false false false = ([], 220)) := hid' (by unfold Hw.pieces; rw [HM1.out]; rfl)
            have x0 := HA2.out.cell 0 _ rfl
            have x1 := HA2.out.cell 1 _ rfl
            have x2 := HA2.out.cell 2 _ rfl
            have x3 := HA2.out.cell 3 _ rfl
            go_wp2
            go_ret2
            rw [HP.out]
            exact ⟨none, 0, rfl, World.ownsRow_nil _ _ _ _, HB2.out⟩
          · have x0 := HA2.out.cell 0 _ rfl
            have x1 := HA2.out.cell 1 _ rfl
            have x2 := HA2.out.cell 2 _ rfl
            have x3 := HA2.out.cell 3 _ rfl
            go_wp2_with fail
            refine (HS2.out _ HB2.out).mono ?_
            rintro e w3 ⟨rfl, hw3⟩
            subst hw3
            have HB3 := HB2
            have HA3 := HA2
            clear x0 x1 x2 x3
            cases m2
            · have HP : Hid (Hw.pieces ⟨s, fs, b, ts⟩ false false false = ([], 220)) := hid' (by unfold Hw.pieces; rw [HM1.out, HM2.out]; rfl)
              have x0 := HA3.out.cell 0 _ rfl
              have x1 := HA3.out.cell 1 _ rfl
              have x2 := HA3.out.cell 2 _ rfl
              have x3 := HA3.out.cell 3 _ rfl
              go_wp2
              go_ret2
              rw [HP.out]
              exact ⟨none, 0, rfl, World.ownsRow_nil _ _ _ _, HB3.out⟩
            · have x0 := HA3.out.cell 0 _ rfl
              have x1 := HA3.out.cell 1 _ rfl
              have x2 := HA3.out.cell 2 _ rfl
              have x3 := HA3.out.cell 3 _ rfl
              go_wp2_with fail
              refine (HST.out _).mono ?_
              rintro e w4 ⟨rfl, hw4⟩
              subst hw4
              have HB4 := HB3
              have HA4 := HA3
              clear x0 x1 x2 x3
              have x0 := HA4.out.cell 0 _ rfl
              have x1 := HA4.out.cell 1 _ rfl
              have x2 := HA4.out.cell 2 _ rfl
              have x3 := HA4.out.cell 3 _ rfl
              go_wp2_with fail
              refine (HLN.out _ HB4.out).mono ?_
              rintro e w4b ⟨rfl, hb4b⟩
              have HB4b := hid' (below_two HB4.out hb4b)
              have HA4b := hid' (HA4.out.keep hb4b)
              clear hb4b
              clear x0 x1 x2 x3
              have x0 := HA4b.out.cell 0 _ rfl
              have x1 := HA4b.out.cell 1 _ rfl
              have x2 := HA4b.out.cell 2 _ rfl
              have x3 := HA4b.out.cell 3 _ rfl
              go_upto_region 8 with fail
              clear x0 x1 x2 x3
              have q0 : ∀ z : BW w4b, z.W.cell? ⟨xb, 0, none⟩ = some (.int .i64 s) := fun z => (HA4b.out.keep z.h).cell 0 _ rfl
              have q1 : ∀ z : BW w4b, z.W.cell? ⟨xb, 1, none⟩ = some fv := fun z => (HA4b.out.keep z.h).cell 1 _ rfl
              have hne : Nonempty (BW w4b) := ⟨⟨w4b, Below.refl _ _⟩⟩
              have HFI2 := hid' (fun z : BW w4b => HFI.out z.W)
              have HLI2 := hid' (fun z : BW w4b => HLI.out z.W (below_two HB4b.out z.h))
              refine wp_region_below_s (by kernel_rfl) (by kernel_rfl) ?_
              repeat (refine QS.step (fun K hK => ?_); go_simp; first | (refine hK _ ?_; clear hK K) | (apply Exists.intro; refine ⟨fun _ => ?_, hK _ ?_⟩; (first | (go_at_call 33; exact Calls.below_of (HFI2.out _)) | (go_at_call 34; exact Calls.below_of (HLI2.out _))); clear hK K))
              refine QS.nil ?_
              rintro _ ⟨p5, rfl⟩
              obtain ⟨w5, hw5⟩ : ∃ W, p5.W = W := ⟨_, rfl⟩
              have hb5 := p5.h
              rw [hw5] at hb5 ⊢
              clear hw5 p5
              have HB5 := hid' (below_two HB4b.out hb5)
              have HA5 := hid' (HA4b.out.keep hb5)
              clear hb5 q0 q1 hne HFI2 HLI2
              have k2 : ¬ 9223372036854775807 < A.length + F.length + 2 := by have := HAF.out; omega
              have x0 := HA5.out.cell 0 _ rfl
              have x1 := HA5.out.cell 1 _ rfl
              have x2 := HA5.out.cell 2 _ rfl
              have x3 := HA5.out.cell 3 _ rfl
              go_upto_region 16 with fail
              have HTT : Hid (((⟨A.toArray⟩ : ByteArray) ++ ⟨F.toArray⟩) ++ ⟨#[13, 10]⟩ = ⟨(Hw.top ⟨s, fs, b, ts⟩ false false false).toArray⟩) := hid' (by
                apply ByteArray.ext
                unfold Hw.top
                rw [HLA.out, HLF.out]
                simp [ByteArray.data_append, Hw.ends, Hw.crlf])
              obtain ⟨tp, htp⟩ : ∃ tp, Hw.top ⟨s, fs, b, ts⟩ false false false = tp := ⟨_, rfl⟩
              rw [htp] at HTT
              have HTP := hid' htp
              clear htp
              go_upto_region 17 with fail
              rw [HTT.out]
              have HO1 := hid' (own_base21 (own_one22 w5 (.string ⟨tp.toArray⟩)) HB5.out.size)
              have HB6 := hid' (HB5.out.alloc HB5.out.size (.cells #[.string ⟨tp.toArray⟩] 9))
              have HA6 := hid' (HA5.out.keep (bl_alloc w5 (.cells #[.string ⟨tp.toArray⟩] 9)))
              obtain ⟨tb, htb⟩ : ∃ tb, w5.heap.size = tb := ⟨_, rfl⟩
              rw [htb] at HO1 ⊢
              generalize w5.alloc (.cells #[.string ⟨tp.toArray⟩] 9) = w6 at *
              clear htb x0 x1 x2 x3
              have HP : Hid (Hw.pieces ⟨s, fs, b, ts⟩ false false false = ([tp], 0)) := hid' (by unfold Hw.pieces; simp only [HM1.out, HM2.out, HLO.out]; simp [Hw.bare, HBR.out, Hw.opn, HTP.out])
              have x0 := HA6.out.cell 0 _ rfl
              have x1 := HA6.out.cell 1 _ rfl
              have x2 := HA6.out.cell 2 _ rfl
              have x3 := HA6.out.cell 3 _ rfl
              go_wp2
              go_ret2
              rw [HP.out]
              exact ⟨_, 1, rfl, HO1.out, HB6.out⟩
        · go_enter Tryd.func8, Tryd.ntmps8
          go_upto_region 1 with fail
          obtain ⟨xb, hxb⟩ : ∃ xb, w.heap.size = xb := ⟨_, rfl⟩
          rw [hxb] at HX ⊢
          generalize w.alloc (.cells #[.int .i64 s, fv, .string b, tv] 24) = w1 at *
          have HA1 := HX
          have HB1 := HBX
          clear HX HBX hxb
          have x0 := HA1.out.cell 0 _ rfl
          have x1 := HA1.out.cell 1 _ rfl
          have x2 := HA1.out.cell 2 _ rfl
          have x3 := HA1.out.cell 3 _ rfl
          go_wp2_with fail
          refine (HS1.out _ HB1.out).mono ?_
          rintro e w2 ⟨rfl, hw2⟩
          subst hw2
          have HB2 := HB1
          have HA2 := HA1
          clear x0 x1 x2 x3
          cases m1
          · have HP : Hid (Hw.pieces ⟨s, fs, b, ts⟩ true false false = ([], 220)) := hid' (by unfold Hw.pieces; rw [HM1.out]; rfl)
            have x0 := HA2.out.cell 0 _ rfl
            have x1 := HA2.out.cell 1 _ rfl
            have x2 := HA2.out.cell 2 _ rfl
            have x3 := HA2.out.cell 3 _ rfl
            go_wp2
            go_ret2
            rw [HP.out]
            exact ⟨none, 0, rfl, World.ownsRow_nil _ _ _ _, HB2.out⟩
          · have x0 := HA2.out.cell 0 _ rfl
            have x1 := HA2.out.cell 1 _ rfl
            have x2 := HA2.out.cell 2 _ rfl
            have x3 := HA2.out.cell 3 _ rfl
            go_wp2_with fail
            refine (HS2.out _ HB2.out).mono ?_
            rintro e w3 ⟨rfl, hw3⟩
            subst hw3
            have HB3 := HB2
            have HA3 := HA2
            clear x0 x1 x2 x3
            cases m2
            · have HP : Hid (Hw.pieces ⟨s, fs, b, ts⟩ true false false = ([], 220)) := hid' (by unfold Hw.pieces; rw [HM1.out, HM2.out]; rfl)
              have x0 := HA3.out.cell 0 _ rfl
              have x1 := HA3.out.cell 1 _ rfl
              have x2 := HA3.out.cell 2 _ rfl
              have x3 := HA3.out.cell 3 _ rfl
              go_wp2
              go_ret2
              rw [HP.out]
              exact ⟨none, 0, rfl, World.ownsRow_nil _ _ _ _, HB3.out⟩
            · have x0 := HA3.out.cell 0 _ rfl
              have x1 := HA3.out.cell 1 _ rfl
              have x2 := HA3.out.cell 2 _ rfl
              have x3 := HA3.out.cell 3 _ rfl
              go_wp2_with fail
              refine (HST.out _).mono ?_
              rintro e w4 ⟨rfl, hw4⟩
              subst hw4
              have HB4 := HB3
              have HA4 := HA3
              clear x0 x1 x2 x3
              have x0 := HA4.out.cell 0 _ rfl
              have x1 := HA4.out.cell 1 _ rfl
              have x2 := HA4.out.cell 2 _ rfl
              have x3 := HA4.out.cell 3 _ rfl
              go_wp2_with fail
              refine (HLN.out _ HB4.out).mono ?_
              rintro e w4b ⟨rfl, hb4b⟩
              have HB4b := hid' (below_two HB4.out hb4b)
              have HA4b := hid' (HA4.out.keep hb4b)
              clear hb4b
              clear x0 x1 x2 x3
              have x0 := HA4b.out.cell 0 _ rfl
              have x1 := HA4b.out.cell 1 _ rfl
              have x2 := HA4b.out.cell 2 _ rfl
              have x3 := HA4b.out.cell 3 _ rfl
              go_upto_region 8 with fail
              clear x0 x1 x2 x3
              have q0 : ∀ z : BW w4b, z.W.cell? ⟨xb, 0, none⟩ = some (.int .i64 s) := fun z => (HA4b.out.keep z.h).cell 0 _ rfl
              have q1 : ∀ z : BW w4b, z.W.cell? ⟨xb, 1, none⟩ = some fv := fun z => (HA4b.out.keep z.h).cell 1 _ rfl
              have hne : Nonempty (BW w4b) := ⟨⟨w4b, Below.refl _ _⟩⟩
              have HFI2 := hid' (fun z : BW w4b => HFI.out z.W)
              have HLI2 := hid' (fun z : BW w4b => HLI.out z.W (below_two HB4b.out z.h))
              refine wp_region_below_s (by kernel_rfl) (by kernel_rfl) ?_
              repeat (refine QS.step (fun K hK => ?_); go_simp; first | (refine hK _ ?_; clear hK K) | (apply Exists.intro; refine ⟨fun _ => ?_, hK _ ?_⟩; (first | (go_at_call 33; exact Calls.below_of (HFI2.out _)) | (go_at_call 34; exact Calls.below_of (HLI2.out _))); clear hK K))
              refine QS.nil ?_
              rintro _ ⟨p5, rfl⟩
              obtain ⟨w5, hw5⟩ : ∃ W, p5.W = W := ⟨_, rfl⟩
              have hb5 := p5.h
              rw [hw5] at hb5 ⊢
              clear hw5 p5
              have HB5 := hid' (below_two HB4b.out hb5)
              have HA5 := hid' (HA4b.out.keep hb5)
              clear hb5 q0 q1 hne HFI2 HLI2
              have k2 : ¬ 9223372036854775807 < A.length + F.length + 24 := by have := HAF.out; omega
              have k3 : ¬ 9223372036854775807 < A.length + F.length + 24 + 2 := by have := HAF.out; omega
              have x0 := HA5.out.cell 0 _ rfl
              have x1 := HA5.out.cell 1 _ rfl
              have x2 := HA5.out.cell 2 _ rfl
              have x3 := HA5.out.cell 3 _ rfl
              go_upto_region 16 with fail
              have HTT : Hid ((((⟨A.toArray⟩ : ByteArray) ++ ⟨F.toArray⟩) ++ ⟨#[99, 111, 110, 110, 101, 99, 116, 105, 111, 110, 58, 32, 107, 101, 101, 112, 45, 97, 108, 105, 118, 101, 13, 10]⟩) ++ ⟨#[13, 10]⟩ = ⟨(Hw.top ⟨s, fs, b, ts⟩ false true false).toArray⟩) := hid' (by
                apply ByteArray.ext
                unfold Hw.top
                rw [HLA.out, HLF.out]
                simp [ByteArray.data_append, Hw.ends, Hw.kee, Hw.crlf])
              obtain ⟨tp, htp⟩ : ∃ tp, Hw.top ⟨s, fs, b, ts⟩ false true false = tp := ⟨_, rfl⟩
              rw [htp] at HTT
              have HTP := hid' htp
              clear htp
              go_upto_region 17 with fail
              rw [HTT.out]
              have HO1 := hid' (own_base21 (own_one22 w5 (.string ⟨tp.toArray⟩)) HB5.out.size)
              have HB6 := hid' (HB5.out.alloc HB5.out.size (.cells #[.string ⟨tp.toArray⟩] 9))
              have HA6 := hid' (HA5.out.keep (bl_alloc w5 (.cells #[.string ⟨tp.toArray⟩] 9)))
              obtain ⟨tb, htb⟩ : ∃ tb, w5.heap.size = tb := ⟨_, rfl⟩
              rw [htb] at HO1 ⊢
              generalize w5.alloc (.cells #[.string ⟨tp.toArray⟩] 9) = w6 at *
              clear htb x0 x1 x2 x3
              have HP : Hid (Hw.pieces ⟨s, fs, b, ts⟩ true false false = ([tp], 0)) := hid' (by unfold Hw.pieces; simp only [HM1.out, HM2.out, HLO.out]; simp [Hw.bare, HBR.out, Hw.opn, HTP.out])
              have x0 := HA6.out.cell 0 _ rfl
              have x1 := HA6.out.cell 1 _ rfl
              have x2 := HA6.out.cell 2 _ rfl
              have x3 := HA6.out.cell 3 _ rfl
              go_wp2
              go_ret2
              rw [HP.out]
              exact ⟨_, 1, rfl, HO1.out, HB6.out⟩
      · go_enter Tryd.func8, Tryd.ntmps8
        go_upto_region 1 with fail
        obtain ⟨xb, hxb⟩ : ∃ xb, w.heap.size = xb := ⟨_, rfl⟩
        rw [hxb] at HX ⊢
        generalize w.alloc (.cells #[.int .i64 s, fv, .string b, tv] 24) = w1 at *
        have HA1 := HX
        have HB1 := HBX
        clear HX HBX hxb
        have x0 := HA1.out.cell 0 _ rfl
        have x1 := HA1.out.cell 1 _ rfl
        have x2 := HA1.out.cell 2 _ rfl
        have x3 := HA1.out.cell 3 _ rfl
        go_wp2_with fail
        refine (HS1.out _ HB1.out).mono ?_
        rintro e w2 ⟨rfl, hw2⟩
        subst hw2
        have HB2 := HB1
        have HA2 := HA1
        clear x0 x1 x2 x3
        cases m1
        · have HP : Hid (Hw.pieces ⟨s, fs, b, ts⟩ old false true = ([], 220)) := hid' (by unfold Hw.pieces; rw [HM1.out]; rfl)
          have x0 := HA2.out.cell 0 _ rfl
          have x1 := HA2.out.cell 1 _ rfl
          have x2 := HA2.out.cell 2 _ rfl
          have x3 := HA2.out.cell 3 _ rfl
          go_wp2
          go_ret2
          rw [HP.out]
          exact ⟨none, 0, rfl, World.ownsRow_nil _ _ _ _, HB2.out⟩
        · have x0 := HA2.out.cell 0 _ rfl
          have x1 := HA2.out.cell 1 _ rfl
          have x2 := HA2.out.cell 2 _ rfl
          have x3 := HA2.out.cell 3 _ rfl
          go_wp2_with fail
          refine (HS2.out _ HB2.out).mono ?_
          rintro e w3 ⟨rfl, hw3⟩
          subst hw3
          have HB3 := HB2
          have HA3 := HA2
          clear x0 x1 x2 x3
          cases m2
          · have HP : Hid (Hw.pieces ⟨s, fs, b, ts⟩ old false true = ([], 220)) := hid' (by unfold Hw.pieces; rw [HM1.out, HM2.out]; rfl)
            have x0 := HA3.out.cell 0 _ rfl
            have x1 := HA3.out.cell 1 _ rfl
            have x2 := HA3.out.cell 2 _ rfl
            have x3 := HA3.out.cell 3 _ rfl
            go_wp2
            go_ret2
            rw [HP.out]
            exact ⟨none, 0, rfl, World.ownsRow_nil _ _ _ _, HB3.out⟩
          · have x0 := HA3.out.cell 0 _ rfl
            have x1 := HA3.out.cell 1 _ rfl
            have x2 := HA3.out.cell 2 _ rfl
            have x3 := HA3.out.cell 3 _ rfl
            go_wp2_with fail
            refine (HST.out _).mono ?_
            rintro e w4 ⟨rfl, hw4⟩
            subst hw4
            have HB4 := HB3
            have HA4 := HA3
            clear x0 x1 x2 x3
            have x0 := HA4.out.cell 0 _ rfl
            have x1 := HA4.out.cell 1 _ rfl
            have x2 := HA4.out.cell 2 _ rfl
            have x3 := HA4.out.cell 3 _ rfl
            go_wp2_with fail
            refine (HLN.out _ HB4.out).mono ?_
            rintro e w4b ⟨rfl, hb4b⟩
            have HB4b := hid' (below_two HB4.out hb4b)
            have HA4b := hid' (HA4.out.keep hb4b)
            clear hb4b
            clear x0 x1 x2 x3
            have x0 := HA4b.out.cell 0 _ rfl
            have x1 := HA4b.out.cell 1 _ rfl
            have x2 := HA4b.out.cell 2 _ rfl
            have x3 := HA4b.out.cell 3 _ rfl
            go_upto_region 8 with fail
            clear x0 x1 x2 x3
            have q0 : ∀ z : BW w4b, z.W.cell? ⟨xb, 0, none⟩ = some (.int .i64 s) := fun z => (HA4b.out.keep z.h).cell 0 _ rfl
            have q1 : ∀ z : BW w4b, z.W.cell? ⟨xb, 1, none⟩ = some fv := fun z => (HA4b.out.keep z.h).cell 1 _ rfl
            have hne : Nonempty (BW w4b) := ⟨⟨w4b, Below.refl _ _⟩⟩
            have HFI2 := hid' (fun z : BW w4b => HFI.out z.W)
            have HLI2 := hid' (fun z : BW w4b => HLI.out z.W (below_two HB4b.out z.h))
            refine wp_region_below_s (by kernel_rfl) (by kernel_rfl) ?_
            repeat (refine QS.step (fun K hK => ?_); go_simp; first | (refine hK _ ?_; clear hK K) | (apply Exists.intro; refine ⟨fun _ => ?_, hK _ ?_⟩; (first | (go_at_call 33; exact Calls.below_of (HFI2.out _)) | (go_at_call 34; exact Calls.below_of (HLI2.out _))); clear hK K))
            refine QS.nil ?_
            rintro _ ⟨p5, rfl⟩
            obtain ⟨w5, hw5⟩ : ∃ W, p5.W = W := ⟨_, rfl⟩
            have hb5 := p5.h
            rw [hw5] at hb5 ⊢
            clear hw5 p5
            have HB5 := hid' (below_two HB4b.out hb5)
            have HA5 := hid' (HA4b.out.keep hb5)
            clear hb5 q0 q1 hne HFI2 HLI2
            have k2 : ¬ 9223372036854775807 < A.length + F.length + 19 := by have := HAF.out; omega
            have k3 : ¬ 9223372036854775807 < A.length + F.length + 19 + 2 := by have := HAF.out; omega
            have x0 := HA5.out.cell 0 _ rfl
            have x1 := HA5.out.cell 1 _ rfl
            have x2 := HA5.out.cell 2 _ rfl
            have x3 := HA5.out.cell 3 _ rfl
            go_upto_region 16 with fail
            have HTT : Hid ((((⟨A.toArray⟩ : ByteArray) ++ ⟨F.toArray⟩) ++ ⟨#[99, 111, 110, 110, 101, 99, 116, 105, 111, 110, 58, 32, 99, 108, 111, 115, 101, 13, 10]⟩) ++ ⟨#[13, 10]⟩ = ⟨(Hw.top ⟨s, fs, b, ts⟩ false old true).toArray⟩) := hid' (by
              apply ByteArray.ext
              unfold Hw.top
              rw [HLA.out, HLF.out]
              simp [ByteArray.data_append, Hw.ends, Hw.clo, Hw.crlf])
            obtain ⟨tp, htp⟩ : ∃ tp, Hw.top ⟨s, fs, b, ts⟩ false old true = tp := ⟨_, rfl⟩
            rw [htp] at HTT
            have HTP := hid' htp
            clear htp
            go_upto_region 17 with fail
            rw [HTT.out]
            have HO1 := hid' (own_base21 (own_one22 w5 (.string ⟨tp.toArray⟩)) HB5.out.size)
            have HB6 := hid' (HB5.out.alloc HB5.out.size (.cells #[.string ⟨tp.toArray⟩] 9))
            have HA6 := hid' (HA5.out.keep (bl_alloc w5 (.cells #[.string ⟨tp.toArray⟩] 9)))
            obtain ⟨tb, htb⟩ : ∃ tb, w5.heap.size = tb := ⟨_, rfl⟩
            rw [htb] at HO1 ⊢
            generalize w5.alloc (.cells #[.string ⟨tp.toArray⟩] 9) = w6 at *
            clear htb x0 x1 x2 x3
            have HP : Hid (Hw.pieces ⟨s, fs, b, ts⟩ old false true = ([tp], 0)) := hid' (by unfold Hw.pieces; simp only [HM1.out, HM2.out, HLO.out]; simp [Hw.bare, HBR.out, Hw.opn, HTP.out])
            have x0 := HA6.out.cell 0 _ rfl
            have x1 := HA6.out.cell 1 _ rfl
            have x2 := HA6.out.cell 2 _ rfl
            have x3 := HA6.out.cell 3 _ rfl
            go_wp2
            go_ret2
            rw [HP.out]
            exact ⟨_, 1, rfl, HO1.out, HB6.out⟩
  exact absurd HBB.out (by unfold Hw.bare0; rw [d2, d3]; have := of_decide_eq_false d1; simp; omega)

end Go.Proofs.YtbpdhcfmdkmoiaaDoor
