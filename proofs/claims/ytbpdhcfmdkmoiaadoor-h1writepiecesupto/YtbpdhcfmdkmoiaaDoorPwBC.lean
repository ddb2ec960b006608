/-
  The document's Pieces: by its contract.
-/
import Derived.Test.YtbpdhcfmdkmoiaaDoorPwAR
import Derived.Test.YtbpdhcfmdkmoiaaDoorPwBA
namespace Go.Proofs.YtbpdhcfmdkmoiaaDoor
open Go.RowKit

set_option maxHeartbeats 16000000 in
set_option maxRecDepth 20000 in
theorem rpieces22b (s : Int) (fv : Value) (b : ByteArray) (tv : Value) (fs ts : List Fd) (old head last : Bool) (w : World) (h1 : FW w fv fs) (h2 : FW w tv ts) (k1 : FO22 fs) (k2 : FO22 ts) (hb : b.size ≤ 1073741824) (hbb : head = false) (hbc : Hw.bare0 (Hw.stat s) = false) :
    Calls Tryd.prog 8 #[.agg (rp22 s fv b tv), .bool old, .bool head, .bool last] w fun e w' => ∃ ao cap, e = .returned (.tuple #[.slice ao (Hw.pieces ⟨s, fs, b, ts⟩ old head last).1.length cap, .int .i64 (Hw.pieces ⟨s, fs, b, ts⟩ old head last).2]) ∧ w'.ownsRow w.heap.size 9 1 (.slice ao (Hw.pieces ⟨s, fs, b, ts⟩ old head last).1.length cap) (Hw.pieces ⟨s, fs, b, ts⟩ old head last).1.length (sC (Hw.pieces ⟨s, fs, b, ts⟩ old head last).1) ∧ Below w.heap.size w w' := by
  obtain ⟨i0, hi0, hz0, hz1, hz2⟩ := minfo_parts infoS22
  have HI := hid' hi0
  have HZ0 := hid' hz0
  have HZ1 := hid' hz1
  have HZ2 := hid' hz2
  obtain ⟨m1, hm1⟩ : ∃ m1, Hw.may fs = m1 := ⟨_, rfl⟩
  obtain ⟨m2, hm2⟩ : ∃ m2, Hw.may ts = m2 := ⟨_, rfl⟩
  obtain ⟨o, ho⟩ : ∃ o, Ms.lenGo none fs = o := ⟨_, rfl⟩
  obtain ⟨t, ht⟩ : ∃ t, Hw.stat s = t := ⟨_, rfl⟩
  obtain ⟨A, hA⟩ : ∃ A, Hw.line1 s = A := ⟨_, rfl⟩
  obtain ⟨F, hF⟩ : ∃ F, Hw.lns fs = F := ⟨_, rfl⟩
  obtain ⟨E, hE⟩ : ∃ E, Hw.lns ts = E := ⟨_, rfl⟩
  obtain ⟨B, hBB⟩ : ∃ B, b.data.toList = B := ⟨_, rfl⟩
  have HM1 := hid' hm1
  have HM2 := hid' hm2
  have HLO := hid' ho
  have HBE := hid' hBB
  have HBL : Hid (b.size = B.length) := hid' (by rw [← hBB, ← Lib.size_eq])
  have HBS : Hid (b.size ≤ 1073741824) := hid' hb
  have HLA := hid' hA
  have HLF := hid' hF
  have HLE := hid' hE
  have HAF : Hid (A.length ≤ 64 ∧ F.length ≤ 70368744177664) := hid' ⟨by rw [← hA]; exact Hw.line1_len s, by rw [← hF]; exact k1.lns⟩
  have kk1 : ¬ 9223372036854775807 < A.length + F.length := by have := HAF.out; omega
  have HSTB : Hid (100 ≤ t) := hid' (by rw [← ht]; exact (Hw.stat_bd s).1)
  have HS1 := hid' (fun W (hw : Below w.heap.size w W) => rmay22 fv fs m1 hm1 W (h1.keep hw) k1.len k1.sz)
  have HS2 := hid' (fun W (hw : Below w.heap.size w W) => rmay22 tv ts m2 hm2 W (h2.keep hw) k2.len k2.sz)
  have HLN := hid' (fun W (hw : Below w.heap.size w W) => rlen14 (fun s W h => rNumber_any s W h) fv fs o ho W (h1.keep hw) k1.len k1.sz)
  have HST := hid' (fun W => rstat22 s W)
  rw [ht] at HST
  have HFI := hid' (fun W => rline22 s W)
  rw [hA] at HFI
  have HLI := hid' (fun W (hw : Below w.heap.size w W) => rlns22 fv fs W (h1.keep hw) k1.len (fun f hf => (k1.sz f hf).1) k1.lns)
  rw [hF] at HLI
  have HLT2 := hid' (fun W (hw : Below w.heap.size w W) => rlns22 tv ts W (h2.keep hw) k2.len (fun f hf => (k2.sz f hf).1) k2.lns)
  rw [hE] at HLT2
  have HEL : Hid (E.length ≤ 70368744177664) := hid' (by rw [← hE]; exact k2.lns)
  have HX := hid' (show Ar (w.alloc (.cells (rp22 s fv b tv) 24)) w.heap.size 24 (rp22 s fv b tv) from heap_alloc_last w _)
  have HBX := hid' (bl_alloc w (.cells (rp22 s fv b tv) 24))
  have HTS := hid' ht
  clear h1 h2 k1 k2 hb hm1 hm2 ho hA hF hE hBB hi0 hz0 hz1 hz2 ht
  unfold rp22 at *
  subst hbb
  have HBR := hid' hbc
  have hbd := hbc
  rw [HTS.out] at hbd
  unfold Hw.bare0 at hbd
  simp only [Bool.or_eq_false_iff] at hbd
  have d2 : (t == 204) = false := hbd.1.2
  have d3 : (t == 304) = false := hbd.2
  have d1 : decide (t < 200) = false := by
    have h1 := hbd.1.1
    have h2 := HSTB.out
    rw [decide_eq_true h2, Bool.true_and] at h1
    have := of_decide_eq_false h1
    exact decide_eq_false (by omega)
  clear hbc hbd
  cases o with
  | none =>
    have HLNv : Hid (∀ W, Below w.heap.size w W → Calls Tryd.prog 21 #[fv] W fun e w' => e = .returned (.tuple #[.int .i64 0, .bool false, .int .i64 142]) ∧ Below W.heap.size W w') := hid' (by exact HLN.out)
    have HLNe := HLN
    clear HLN
    have HLN := HLNv
    clear HLNv
    go_enter Tryd.func8, Tryd.ntmps8
    go_upto_region 1 with fail
    obtain ⟨xb, hxb⟩ : ∃ xb, w.heap.size = xb := ⟨_, rfl⟩
    rw [hxb] at HX ⊢
    generalize w.alloc (.cells #[.int .i64 s, fv, .string b, tv] 24) = w1 at *
    have HA1 := HX
    have HB1 := HBX
    clear HX HBX hxb
    have x0 := HA1.out.cell 0 _ rfl
    have x1 := HA1.out.cell 1 _ rfl
    have x2 := HA1.out.cell 2 _ rfl
    have x3 := HA1.out.cell 3 _ rfl
    go_wp2_with fail
    refine (HS1.out _ HB1.out).mono ?_
    rintro e w2 ⟨rfl, hw2⟩
    subst hw2
    have HB2 := HB1
    have HA2 := HA1
    clear x0 x1 x2 x3
    cases m1
    · have HP : Hid (Hw.pieces ⟨s, fs, b, ts⟩ old false last = ([], 220)) := hid' (by unfold Hw.pieces; rw [HM1.out]; rfl)
      have x0 := HA2.out.cell 0 _ rfl
      have x1 := HA2.out.cell 1 _ rfl
      have x2 := HA2.out.cell 2 _ rfl
      have x3 := HA2.out.cell 3 _ rfl
      go_wp2
      go_ret2
      rw [HP.out]
      exact ⟨none, 0, rfl, World.ownsRow_nil _ _ _ _, HB2.out⟩
    · have x0 := HA2.out.cell 0 _ rfl
      have x1 := HA2.out.cell 1 _ rfl
      have x2 := HA2.out.cell 2 _ rfl
      have x3 := HA2.out.cell 3 _ rfl
      go_wp2_with fail
      refine (HS2.out _ HB2.out).mono ?_
      rintro e w3 ⟨rfl, hw3⟩
      subst hw3
      have HB3 := HB2
      have HA3 := HA2
      clear x0 x1 x2 x3
      cases m2
      · have HP : Hid (Hw.pieces ⟨s, fs, b, ts⟩ old false last = ([], 220)) := hid' (by unfold Hw.pieces; rw [HM1.out, HM2.out]; rfl)
        have x0 := HA3.out.cell 0 _ rfl
        have x1 := HA3.out.cell 1 _ rfl
        have x2 := HA3.out.cell 2 _ rfl
        have x3 := HA3.out.cell 3 _ rfl
        go_wp2
        go_ret2
        rw [HP.out]
        exact ⟨none, 0, rfl, World.ownsRow_nil _ _ _ _, HB3.out⟩
      · have x0 := HA3.out.cell 0 _ rfl
        have x1 := HA3.out.cell 1 _ rfl
        have x2 := HA3.out.cell 2 _ rfl
        have x3 := HA3.out.cell 3 _ rfl
        go_wp2_with fail
        refine (HST.out _).mono ?_
        rintro e w4 ⟨rfl, hw4⟩
        subst hw4
        have HB4 := HB3
        have HA4 := HA3
        clear x0 x1 x2 x3
        have x0 := HA4.out.cell 0 _ rfl
        have x1 := HA4.out.cell 1 _ rfl
        have x2 := HA4.out.cell 2 _ rfl
        have x3 := HA4.out.cell 3 _ rfl
        go_wp2_with fail
        refine (HLN.out _ HB4.out).mono ?_
        rintro e w4b ⟨rfl, hb4b⟩
        have HB4b := hid' (below_two HB4.out hb4b)
        have HA4b := hid' (HA4.out.keep hb4b)
        clear hb4b
        clear x0 x1 x2 x3
        have HP : Hid (Hw.pieces ⟨s, fs, b, ts⟩ old false last = ([], 142)) := hid' (by unfold Hw.pieces; simp only [HM1.out, HM2.out, HLO.out]; rfl)
        have x0 := HA4b.out.cell 0 _ rfl
        have x1 := HA4b.out.cell 1 _ rfl
        have x2 := HA4b.out.cell 2 _ rfl
        have x3 := HA4b.out.cell 3 _ rfl
        go_wp2
        go_ret2
        rw [HP.out]
        exact ⟨none, 0, rfl, World.ownsRow_nil _ _ _ _, HB4b.out⟩
  | some q => cases q with
    | none =>
      have HLNv : Hid (∀ W, Below w.heap.size w W → Calls Tryd.prog 21 #[fv] W fun e w' => e = .returned (.tuple #[.int .i64 0, .bool false, .int .i64 0]) ∧ Below W.heap.size W w') := hid' (by exact HLN.out)
      have HLNe := HLN
      clear HLN
      have HLN := HLNv
      clear HLNv
      cases last
      · cases old
        · go_enter Tryd.func8, Tryd.ntmps8
          go_upto_region 1 with fail
          obtain ⟨xb, hxb⟩ : ∃ xb, w.heap.size = xb := ⟨_, rfl⟩
          rw [hxb] at HX ⊢
          generalize w.alloc (.cells #[.int .i64 s, fv, .string b, tv] 24) = w1 at *
          have HA1 := HX
          have HB1 := HBX
          clear HX HBX hxb
          have x0 := HA1.out.cell 0 _ rfl
          have x1 := HA1.out.cell 1 _ rfl
          have x2 := HA1.out.cell 2 _ rfl
          have x3 := HA1.out.cell 3 _ rfl
          go_wp2_with fail
          refine (HS1.out _ HB1.out).mono ?_
          rintro e w2 ⟨rfl, hw2⟩
          subst hw2
          have HB2 := HB1
          have HA2 := HA1
          clear x0 x1 x2 x3
          cases m1
          · have HP : Hid (Hw.pieces ⟨s, fs, b, ts⟩ false false false = ([], 220)) := hid' (by unfold Hw.pieces; rw [HM1.out]; rfl)
            have x0 := HA2.out.cell 0 _ rfl
            have x1 := HA2.out.cell 1 _ rfl
            have x2 := HA2.out.cell 2 _ rfl
            have x3 := HA2.out.cell 3 _ rfl
            go_wp2
            go_ret2
            rw [HP.out]
            exact ⟨none, 0, rfl, World.ownsRow_nil _ _ _ _, HB2.out⟩
          · have x0 := HA2.out.cell 0 _ rfl
            have x1 := HA2.out.cell 1 _ rfl
            have x2 := HA2.out.cell 2 _ rfl
            have x3 := HA2.out.cell 3 _ rfl
            go_wp2_with fail
            refine (HS2.out _ HB2.out).mono ?_
            rintro e w3 ⟨rfl, hw3⟩
            subst hw3
            have HB3 := HB2
            have HA3 := HA2
            clear x0 x1 x2 x3
            cases m2
            · have HP : Hid (Hw.pieces ⟨s, fs, b, ts⟩ false false false = ([], 220)) := hid' (by unfold Hw.pieces; rw [HM1.out, HM2.out]; rfl)
              have x0 := HA3.out.cell 0 _ rfl
              have x1 := HA3.out.cell 1 _ rfl
              have x2 := HA3.out.cell 2 _ rfl
              have x3 := HA3.out.cell 3 _ rfl
              go_wp2
              go_ret2
              rw [HP.out]
              exact ⟨none, 0, rfl, World.ownsRow_nil _ _ _ _, HB3.out⟩
            · have x0 := HA3.out.cell 0 _ rfl
              have x1 := HA3.out.cell 1 _ rfl
              have x2 := HA3.out.cell 2 _ rfl
              have x3 := HA3.out.cell 3 _ rfl
              go_wp2_with fail
              refine (HST.out _).mono ?_
              rintro e w4 ⟨rfl, hw4⟩
              subst hw4
              have HB4 := HB3
              have HA4 := HA3
              clear x0 x1 x2 x3
              have x0 := HA4.out.cell 0 _ rfl
              have x1 := HA4.out.cell 1 _ rfl
              have x2 := HA4.out.cell 2 _ rfl
              have x3 := HA4.out.cell 3 _ rfl
              go_wp2_with fail
              refine (HLN.out _ HB4.out).mono ?_
              rintro e w4b ⟨rfl, hb4b⟩
              have HB4b := hid' (below_two HB4.out hb4b)
              have HA4b := hid' (HA4.out.keep hb4b)
              clear hb4b
              clear x0 x1 x2 x3
              have x0 := HA4b.out.cell 0 _ rfl
              have x1 := HA4b.out.cell 1 _ rfl
              have x2 := HA4b.out.cell 2 _ rfl
              have x3 := HA4b.out.cell 3 _ rfl
              go_upto_region 8 with fail
              clear x0 x1 x2 x3
              have q0 : ∀ z : BW w4b, z.W.cell? ⟨xb, 0, none⟩ = some (.int .i64 s) := fun z => (HA4b.out.keep z.h).cell 0 _ rfl
              have q1 : ∀ z : BW w4b, z.W.cell? ⟨xb, 1, none⟩ = some fv := fun z => (HA4b.out.keep z.h).cell 1 _ rfl
              have hne : Nonempty (BW w4b) := ⟨⟨w4b, Below.refl _ _⟩⟩
              have HFI2 := hid' (fun z : BW w4b => HFI.out z.W)
              have HLI2 := hid' (fun z : BW w4b => HLI.out z.W (below_two HB4b.out z.h))
              refine wp_region_below_s (by kernel_rfl) (by kernel_rfl) ?_
              repeat (refine QS.step (fun K hK => ?_); go_simp; first | (refine hK _ ?_; clear hK K) | (apply Exists.intro; refine ⟨fun _ => ?_, hK _ ?_⟩; (first | (go_at_call 33; exact Calls.below_of (HFI2.out _)) | (go_at_call 34; exact Calls.below_of (HLI2.out _))); clear hK K))
              refine QS.nil ?_
              rintro _ ⟨p5, rfl⟩
              obtain ⟨w5, hw5⟩ : ∃ W, p5.W = W := ⟨_, rfl⟩
              have hb5 := p5.h
              rw [hw5] at hb5 ⊢
              clear hw5 p5
              have HB5 := hid' (below_two HB4b.out hb5)
              have HA5 := hid' (HA4b.out.keep hb5)
              clear hb5 q0 q1 hne HFI2 HLI2
              have k2 : ¬ 9223372036854775807 < A.length + F.length + 28 := by have := HAF.out; omega
              have k3 : ¬ 9223372036854775807 < A.length + F.length + 28 + 2 := by have := HAF.out; omega
              have x0 := HA5.out.cell 0 _ rfl
              have x1 := HA5.out.cell 1 _ rfl
              have x2 := HA5.out.cell 2 _ rfl
              have x3 := HA5.out.cell 3 _ rfl
              go_upto_region 16 with fail
              have HTT : Hid ((((⟨A.toArray⟩ : ByteArray) ++ ⟨F.toArray⟩) ++ ⟨#[116, 114, 97, 110, 115, 102, 101, 114, 45, 101, 110, 99, 111, 100, 105, 110, 103, 58, 32, 99, 104, 117, 110, 107, 101, 100, 13, 10]⟩) ++ ⟨#[13, 10]⟩ = ⟨(Hw.top ⟨s, fs, b, ts⟩ true false false).toArray⟩) := hid' (by
                apply ByteArray.ext
                unfold Hw.top
                rw [HLA.out, HLF.out]
                simp [ByteArray.data_append, Hw.ends, Hw.te, Hw.crlf])
              obtain ⟨tp, htp⟩ : ∃ tp, Hw.top ⟨s, fs, b, ts⟩ true false false = tp := ⟨_, rfl⟩
              rw [htp] at HTT
              have HTP := hid' htp
              clear htp
              go_upto_region 17 with fail
              rw [HTT.out]
              have HO1 := hid' (own_base21 (own_one22 w5 (.string ⟨tp.toArray⟩)) HB5.out.size)
              have HB6 := hid' (HB5.out.alloc HB5.out.size (.cells #[.string ⟨tp.toArray⟩] 9))
              have HA6 := hid' (HA5.out.keep (bl_alloc w5 (.cells #[.string ⟨tp.toArray⟩] 9)))
              obtain ⟨tb, htb⟩ : ∃ tb, w5.heap.size = tb := ⟨_, rfl⟩
              rw [htb] at HO1 ⊢
              generalize w5.alloc (.cells #[.string ⟨tp.toArray⟩] 9) = w6 at *
              clear htb x0 x1 x2 x3
              have x0 := HA6.out.cell 0 _ rfl
              have x1 := HA6.out.cell 1 _ rfl
              have x2 := HA6.out.cell 2 _ rfl
              have x3 := HA6.out.cell 3 _ rfl
              go_wp2
              clear x0 x1 x2 x3
              go_loopw [17, 18, 19] (fun s17 s18 s19 wr => ∃ (j a : Nat) (ao : Option Addr) (cap : Nat), s18 = .int .i64 (a : Int) ∧ s17 = .slice ao (j + 1) cap ∧ a < b.size + 16384 ∧ j ≤ 65537 ∧ Hid (a = j * 16384) ∧ Hid (wr.ownsRow w.heap.size 9 1 (.slice ao (j + 1) cap) (j + 1) (sC (tp :: (List.range j).map (fun j => Hw.chunk (Hw.part B j))))) ∧ Hid (Below w.heap.size w wr) ∧ Hid (Ar wr xb 24 #[.int .i64 s, fv, .string b, tv])) (fun _ s18 _ _ => b.size + 16384 - (intOf s18).toNat)
              case atStart => exact ⟨0, 0, some ⟨tb, 0, none⟩, 1, rfl, rfl, by omega, by omega, hid' (by rw [Nat.zero_mul]), HO1, HB6, HA6⟩
              case round =>
                obtain ⟨j, a, ao, cap, rfl, rfl, ha, hj, HJ, HO, HB, HA⟩ := hrel
                have x0 := HA.out.cell 0 _ rfl
                have x1 := HA.out.cell 1 _ rfl
                have x2 := HA.out.cell 2 _ rfl
                have x3 := HA.out.cell 3 _ rfl
                by_cases hlt : a < b.size
                · have hlt2 : (a : Int) < (b.size : Int) := by omega
                  have HLT := hid' hlt
                  have HJ1 : Hid (a + 16384 = (j + 1) * 16384) := hid' (by have := HJ.out; omega)
                  have HJP : Hid (j < Hw.pn B.length) := hid' (by rw [Hw.pn_lt]; have h1 := HJ.out; have h2 := HBL.out; omega)
                  have hj6 : j + 1 ≤ 65537 := by have h1 := HJP.out; unfold Hw.pn at h1; have := HBS.out; have h2 := HBL.out; omega
                  have hm : min (wrap64 ((a : Int) + 16384)) (b.size : Int) = ((min (a + 16384) b.size : Nat) : Int) := by
                    have := HBS.out
                    have e : wrap64 ((a : Int) + 16384) = (a : Int) + 16384 := by unfold wrap64; omega
                    rw [e]; omega
                  have hm0 : 0 ≤ min (wrap64 ((a : Int) + 16384)) (b.size : Int) := by rw [hm]; exact Int.natCast_nonneg _
                  have hm1 : min (wrap64 ((a : Int) + 16384)) (b.size : Int) ≤ (b.size : Int) := by rw [hm]; omega
                  have hm2 : (a : Int) ≤ min (wrap64 ((a : Int) + 16384)) (b.size : Int) := by rw [hm]; omega
                  obtain ⟨P, hP⟩ : ∃ P, Hw.part B j = P := ⟨_, rfl⟩
                  have HPE := hid' hP
                  have HPL : Hid (P.length ≤ 16384) := hid' (by rw [← hP]; exact Hw.part_len _ _)
                  have HC : Hid (b.extract a (min (wrap64 ((a : Int) + 16384)) (b.size : Int)).toNat = ⟨P.toArray⟩) := hid' (by
                    rw [hm, Int.toNat_natCast]
                    apply ByteArray.ext
                    apply Array.ext'
                    rw [Lib.extract_data, HBE.out, ← hP]
                    unfold Hw.part
                    rw [← HJ.out]
                    show List.take (min (a + 16384) b.size - a) (List.drop a B) = List.take 16384 (List.drop a B)
                    rcases Nat.le_total (a + 16384) b.size with h | h
                    · rw [Nat.min_eq_left h, Nat.add_sub_cancel_left]
                    · rw [Nat.min_eq_right h, List.take_of_length_le (by rw [List.length_drop, HBL.out]; exact Nat.le_refl _), List.take_of_length_le (by rw [List.length_drop, ← HBL.out]; omega)])
                  clear hm hP
                  go_upto_region 23 with fail
                  rw [HC.out]
                  clear x0 x1 x2 x3 hm0 hm1 hm2
                  obtain ⟨X, hX⟩ : ∃ X, Hw.hex P.length = X := ⟨_, rfl⟩
                  have HHX := hid' (fun W => rhex22 P.length HPL.out W)
                  rw [hX] at HHX
                  have lX : X.length ≤ 16385 := by rw [← hX]; exact Hw.hex_len 16384 _ HPL.out
                  have HCK : Hid (Hw.chunk P = X ++ [13, 10] ++ P ++ [13, 10]) := hid' (by unfold Hw.chunk; rw [hX]; rfl)
                  have lP := HPL.out
                  have q1 : ¬ 9223372036854775807 < X.length + 2 := by omega
                  have q2 : ¬ 9223372036854775807 < X.length + 2 + P.length := by omega
                  have q3 : ¬ 9223372036854775807 < X.length + 2 + P.length + 2 := by omega
                  clear hX lX
                  go_wp2_with (go_at_call 35; refine (HHX.out _).mono ?_; rintro e wq ⟨rfl, hwq⟩; refine Hid.out ?_)
                  refine hid' ?_
                  subst hwq
                  have HOW := HO
                  have HBW := HB
                  go_upto_region 25 with fail
                  obtain ⟨Y, hY⟩ : ∃ Y, X ++ [13, 10] ++ P ++ [13, 10] = Y := ⟨_, rfl⟩
                  rw [Hw.ck_cat, hY]
                  have HYE : Hid (Hw.chunk (Hw.part B j) = Y) := hid' (by rw [HPE.out, HCK.out, hY])
                  clear hY q1 q2 q3
                  go_wp2_with (at_builtin; refine wpl_appk21 rfl _ _ 28 rfl w.heap.size 9 i0 (.string ⟨#[]⟩) 1 16 Tryd.underlying28 HI.out HZ0.out HZ1.out HZ2.out rfl (by decide) (.slice ao (j + 1) cap) (j + 1) _ rfl (HOW.out.alloc _) ⟨wq.heap.size, 0, none⟩ 1 1 [.string (⟨Y.toArray⟩)] rfl rfl (new_s22 _ _) (fun u hu => by rw [List.mem_singleton.1 hu]; rfl) (by unfold maxLen; omega) (by omega) (by simp; have := HBW.out.size; omega) ?_; intro v3 w9 hown3 _ hgrow3 hblk3; refine Hid.out ?_)
                  refine hid' ?_
                  have HB9 : Hid (Below w.heap.size w w9) := hid' ((HBW.out.alloc HBW.out.size _).grown hgrow3 (by simp; have := HBW.out.size; omega) (fun k hk => (HOW.out.lt k hk).1))
                  obtain ⟨v3o, v3c, hv3⟩ := own_shape hown3
                  subst hv3
                  rw [← HYE.out, show ([Value.string ⟨(Hw.chunk (Hw.part B j)).toArray⟩] : List Value) = sC [Hw.chunk (Hw.part B j)] from rfl, ← Hw.sC_app, List.cons_append, show (List.range j).map (fun j => Hw.chunk (Hw.part B j)) ++ [Hw.chunk (Hw.part B j)] = (List.range (j + 1)).map (fun j => Hw.chunk (Hw.part B j)) from (Hw.range_snoc (fun j => Hw.chunk (Hw.part B j)) j).symm] at hown3
                  have HO9 := hid' hown3
                  have HAL := hid' (HA.out.keep (bl_alloc wq (.cells #[.string (⟨Y.toArray⟩)] 9)))
                  have HA9 := hid' (ar_grown HAL.out hgrow3 (own_apart (HOW.out.alloc _) HAL.out (by decide)))
                  clear hown3 hgrow3 hblk3
                  have hlt := HLT.out
                  have hbz := HBS.out
                  go_wp2
                  go_roundw
                  case rel => exact ⟨j + 1, a + 16384, v3o, v3c, by go_num, rfl, by omega, hj6, HJ1, HO9, HB9, HA9⟩
                  case measure => simp [intOf]; omega
                · have HJP : Hid (j = Hw.pn B.length) := hid' (by have h1 := HJ.out; have h2 := HBL.out; unfold Hw.pn; omega)
                  have HRS : Hid ((Hw.parts b.data.toList).map Hw.chunk = (List.range j).map (fun j => Hw.chunk (Hw.part B j))) := hid' (by
                    rw [HBE.out, HJP.out]; unfold Hw.parts; rw [List.map_map]; rfl)
                  have HP : Hid (Hw.pieces ⟨s, fs, b, ts⟩ false false false = (tp :: ((List.range j).map (fun j => Hw.chunk (Hw.part B j)) ++ [Hw.fin ts]), 0)) := hid' (by
                    rw [← HRS.out]
                    unfold Hw.pieces; simp only [HM1.out, HM2.out, HLO.out]
                    simp [Hw.bare, HBR.out, Hw.opn, HTP.out, Hw.rest])
                  have hlt2 : ¬ (a : Int) < (b.size : Int) := by omega
                  have l1 := HEL.out
                  have q1 : ¬ 9223372036854775807 < 3 + E.length := by omega
                  have q2 : ¬ 9223372036854775807 < 3 + E.length + 2 := by omega
                  go_wp2_with (go_at_call 34; refine (HLT2.out _ HB.out).mono ?_; rintro e wq ⟨rfl, hbq⟩; refine Hid.out ?_)
                  refine hid' ?_
                  have HOW := hid' (own_same HO.out (fun i hi => hbq.block i (own_lt HO.out i hi)))
                  have HBW := hid' (below_two HB.out hbq)
                  clear hbq x0 x1 x2 x3
                  go_wp2_with (at_builtin; refine wpl_appk21 rfl _ _ 28 rfl w.heap.size 9 i0 (.string ⟨#[]⟩) 1 16 Tryd.underlying28 HI.out HZ0.out HZ1.out HZ2.out rfl (by decide) (.slice ao (j + 1) cap) (j + 1) _ rfl (HOW.out.alloc _) ⟨wq.heap.size, 0, none⟩ 1 1 [.string (((⟨#[48, 13, 10]⟩ : ByteArray) ++ ⟨E.toArray⟩) ++ ⟨#[13, 10]⟩)] rfl rfl (new_s22 _ _) (fun u hu => by rw [List.mem_singleton.1 hu]; rfl) (by unfold maxLen; omega) (by omega) (by simp; have := HBW.out.size; omega) ?_; intro v3 w9 hown3 _ hgrow3 hblk3; refine Hid.out ?_)
                  refine hid' ?_
                  have HB9 : Hid (Below w.heap.size w w9) := hid' ((HBW.out.alloc HBW.out.size _).grown hgrow3 (by simp; have := HBW.out.size; omega) (fun k hk => (HOW.out.lt k hk).1))
                  obtain ⟨v3o, v3c, hv3⟩ := own_shape hown3
                  subst hv3
                  rw [Hw.fin_cat, show [48, 13, 10] ++ E ++ Hw.crlf = Hw.fin ts by unfold Hw.fin; rw [HLE.out], show ([Value.string ⟨(Hw.fin ts).toArray⟩] : List Value) = sC [Hw.fin ts] from rfl, ← Hw.sC_app, List.cons_append] at hown3
                  have HO9 := hid' hown3
                  have HLN9 : Hid ((tp :: ((List.range j).map (fun j => Hw.chunk (Hw.part B j)) ++ [Hw.fin ts])).length = j + 1 + 1) := hid' (by simp)
                  clear hown3 hgrow3 hblk3
                  go_wp2
                  go_ret2
                  rw [HP.out]
                  refine ⟨v3o, v3c, ?_, ?_, HB9.out⟩
                  · show _ = Ending.returned (.tuple #[.slice v3o (tp :: ((List.range j).map (fun j => Hw.chunk (Hw.part B j)) ++ [Hw.fin ts])).length v3c, _])
                    rw [HLN9.out]; rfl
                  · show World.ownsRow _ _ _ _ (.slice v3o (tp :: ((List.range j).map (fun j => Hw.chunk (Hw.part B j)) ++ [Hw.fin ts])).length v3c) (tp :: ((List.range j).map (fun j => Hw.chunk (Hw.part B j)) ++ [Hw.fin ts])).length _
                    rw [HLN9.out]; exact HO9.out
        · go_enter Tryd.func8, Tryd.ntmps8
          go_upto_region 1 with fail
          obtain ⟨xb, hxb⟩ : ∃ xb, w.heap.size = xb := ⟨_, rfl⟩
          rw [hxb] at HX ⊢
          generalize w.alloc (.cells #[.int .i64 s, fv, .string b, tv] 24) = w1 at *
          have HA1 := HX
          have HB1 := HBX
          clear HX HBX hxb
          have x0 := HA1.out.cell 0 _ rfl
          have x1 := HA1.out.cell 1 _ rfl
          have x2 := HA1.out.cell 2 _ rfl
          have x3 := HA1.out.cell 3 _ rfl
          go_wp2_with fail
          refine (HS1.out _ HB1.out).mono ?_
          rintro e w2 ⟨rfl, hw2⟩
          subst hw2
          have HB2 := HB1
          have HA2 := HA1
          clear x0 x1 x2 x3
          cases m1
          · have HP : Hid (Hw.pieces ⟨s, fs, b, ts⟩ true false false = ([], 220)) := hid' (by unfold Hw.pieces; rw [HM1.out]; rfl)
            have x0 := HA2.out.cell 0 _ rfl
            have x1 := HA2.out.cell 1 _ rfl
            have x2 := HA2.out.cell 2 _ rfl
            have x3 := HA2.out.cell 3 _ rfl
            go_wp2
            go_ret2
            rw [HP.out]
            exact ⟨none, 0, rfl, World.ownsRow_nil _ _ _ _, HB2.out⟩
          · have x0 := HA2.out.cell 0 _ rfl
            have x1 := HA2.out.cell 1 _ rfl
            have x2 := HA2.out.cell 2 _ rfl
            have x3 := HA2.out.cell 3 _ rfl
            go_wp2_with fail
            refine (HS2.out _ HB2.out).mono ?_
            rintro e w3 ⟨rfl, hw3⟩
            subst hw3
            have HB3 := HB2
            have HA3 := HA2
            clear x0 x1 x2 x3
            cases m2
            · have HP : Hid (Hw.pieces ⟨s, fs, b, ts⟩ true false false = ([], 220)) := hid' (by unfold Hw.pieces; rw [HM1.out, HM2.out]; rfl)
              have x0 := HA3.out.cell 0 _ rfl
              have x1 := HA3.out.cell 1 _ rfl
              have x2 := HA3.out.cell 2 _ rfl
              have x3 := HA3.out.cell 3 _ rfl
              go_wp2
              go_ret2
              rw [HP.out]
              exact ⟨none, 0, rfl, World.ownsRow_nil _ _ _ _, HB3.out⟩
            · have x0 := HA3.out.cell 0 _ rfl
              have x1 := HA3.out.cell 1 _ rfl
              have x2 := HA3.out.cell 2 _ rfl
              have x3 := HA3.out.cell 3 _ rfl
              go_wp2_with fail
              refine (HST.out _).mono ?_
              rintro e w4 ⟨rfl, hw4⟩
              subst hw4
              have HB4 := HB3
              have HA4 := HA3
              clear x0 x1 x2 x3
              have x0 := HA4.out.cell 0 _ rfl
              have x1 := HA4.out.cell 1 _ rfl
              have x2 := HA4.out.cell 2 _ rfl
              have x3 := HA4.out.cell 3 _ rfl
              go_wp2_with fail
              refine (HLN.out _ HB4.out).mono ?_
              rintro e w4b ⟨rfl, hb4b⟩
              have HB4b := hid' (below_two HB4.out hb4b)
              have HA4b := hid' (HA4.out.keep hb4b)
              clear hb4b
              clear x0 x1 x2 x3
              have x0 := HA4b.out.cell 0 _ rfl
              have x1 := HA4b.out.cell 1 _ rfl
              have x2 := HA4b.out.cell 2 _ rfl
              have x3 := HA4b.out.cell 3 _ rfl
              go_upto_region 8 with fail
              clear x0 x1 x2 x3
              have q0 : ∀ z : BW w4b, z.W.cell? ⟨xb, 0, none⟩ = some (.int .i64 s) := fun z => (HA4b.out.keep z.h).cell 0 _ rfl
              have q1 : ∀ z : BW w4b, z.W.cell? ⟨xb, 1, none⟩ = some fv := fun z => (HA4b.out.keep z.h).cell 1 _ rfl
              have hne : Nonempty (BW w4b) := ⟨⟨w4b, Below.refl _ _⟩⟩
              have HFI2 := hid' (fun z : BW w4b => HFI.out z.W)
              have HLI2 := hid' (fun z : BW w4b => HLI.out z.W (below_two HB4b.out z.h))
              refine wp_region_below_s (by kernel_rfl) (by kernel_rfl) ?_
              repeat (refine QS.step (fun K hK => ?_); go_simp; first | (refine hK _ ?_; clear hK K) | (apply Exists.intro; refine ⟨fun _ => ?_, hK _ ?_⟩; (first | (go_at_call 33; exact Calls.below_of (HFI2.out _)) | (go_at_call 34; exact Calls.below_of (HLI2.out _))); clear hK K))
              refine QS.nil ?_
              rintro _ ⟨p5, rfl⟩
              obtain ⟨w5, hw5⟩ : ∃ W, p5.W = W := ⟨_, rfl⟩
              have hb5 := p5.h
              rw [hw5] at hb5 ⊢
              clear hw5 p5
              have HB5 := hid' (below_two HB4b.out hb5)
              have HA5 := hid' (HA4b.out.keep hb5)
              clear hb5 q0 q1 hne HFI2 HLI2
              have k2 : ¬ 9223372036854775807 < A.length + F.length + 19 := by have := HAF.out; omega
              have k3 : ¬ 9223372036854775807 < A.length + F.length + 19 + 2 := by have := HAF.out; omega
              have x0 := HA5.out.cell 0 _ rfl
              have x1 := HA5.out.cell 1 _ rfl
              have x2 := HA5.out.cell 2 _ rfl
              have x3 := HA5.out.cell 3 _ rfl
              go_upto_region 16 with fail
              have HTT : Hid ((((⟨A.toArray⟩ : ByteArray) ++ ⟨F.toArray⟩) ++ ⟨#[99, 111, 110, 110, 101, 99, 116, 105, 111, 110, 58, 32, 99, 108, 111, 115, 101, 13, 10]⟩) ++ ⟨#[13, 10]⟩ = ⟨(Hw.top ⟨s, fs, b, ts⟩ true true false).toArray⟩) := hid' (by
                apply ByteArray.ext
                unfold Hw.top
                rw [HLA.out, HLF.out]
                simp [ByteArray.data_append, Hw.ends, Hw.clo, Hw.crlf])
              obtain ⟨tp, htp⟩ : ∃ tp, Hw.top ⟨s, fs, b, ts⟩ true true false = tp := ⟨_, rfl⟩
              rw [htp] at HTT
              have HTP := hid' htp
              clear htp
              go_upto_region 17 with fail
              rw [HTT.out]
              have HO1 := hid' (own_base21 (own_one22 w5 (.string ⟨tp.toArray⟩)) HB5.out.size)
              have HB6 := hid' (HB5.out.alloc HB5.out.size (.cells #[.string ⟨tp.toArray⟩] 9))
              have HA6 := hid' (HA5.out.keep (bl_alloc w5 (.cells #[.string ⟨tp.toArray⟩] 9)))
              obtain ⟨tb, htb⟩ : ∃ tb, w5.heap.size = tb := ⟨_, rfl⟩
              rw [htb] at HO1 ⊢
              generalize w5.alloc (.cells #[.string ⟨tp.toArray⟩] 9) = w6 at *
              clear htb x0 x1 x2 x3
              have x0 := HA6.out.cell 0 _ rfl
              have x1 := HA6.out.cell 1 _ rfl
              have x2 := HA6.out.cell 2 _ rfl
              have x3 := HA6.out.cell 3 _ rfl
              go_wp2
              clear x0 x1 x2 x3
              go_loopw [17, 18, 19] (fun s17 s18 s19 wr => ∃ (j a : Nat) (ao : Option Addr) (cap : Nat), s18 = .int .i64 (a : Int) ∧ s17 = .slice ao (j + 1) cap ∧ a < b.size + 16384 ∧ j ≤ 65537 ∧ Hid (a = j * 16384) ∧ Hid (wr.ownsRow w.heap.size 9 1 (.slice ao (j + 1) cap) (j + 1) (sC (tp :: (List.range j).map (Hw.part B)))) ∧ Hid (Below w.heap.size w wr) ∧ Hid (Ar wr xb 24 #[.int .i64 s, fv, .string b, tv])) (fun _ s18 _ _ => b.size + 16384 - (intOf s18).toNat)
              case atStart => exact ⟨0, 0, some ⟨tb, 0, none⟩, 1, rfl, rfl, by omega, by omega, hid' (by rw [Nat.zero_mul]), HO1, HB6, HA6⟩
              case round =>
                obtain ⟨j, a, ao, cap, rfl, rfl, ha, hj, HJ, HO, HB, HA⟩ := hrel
                have x0 := HA.out.cell 0 _ rfl
                have x1 := HA.out.cell 1 _ rfl
                have x2 := HA.out.cell 2 _ rfl
                have x3 := HA.out.cell 3 _ rfl
                by_cases hlt : a < b.size
                · have hlt2 : (a : Int) < (b.size : Int) := by omega
                  have HLT := hid' hlt
                  have HJ1 : Hid (a + 16384 = (j + 1) * 16384) := hid' (by have := HJ.out; omega)
                  have HJP : Hid (j < Hw.pn B.length) := hid' (by rw [Hw.pn_lt]; have h1 := HJ.out; have h2 := HBL.out; omega)
                  have hj6 : j + 1 ≤ 65537 := by have h1 := HJP.out; unfold Hw.pn at h1; have := HBS.out; have h2 := HBL.out; omega
                  have hm : min (wrap64 ((a : Int) + 16384)) (b.size : Int) = ((min (a + 16384) b.size : Nat) : Int) := by
                    have := HBS.out
                    have e : wrap64 ((a : Int) + 16384) = (a : Int) + 16384 := by unfold wrap64; omega
                    rw [e]; omega
                  have hm0 : 0 ≤ min (wrap64 ((a : Int) + 16384)) (b.size : Int) := by rw [hm]; exact Int.natCast_nonneg _
                  have hm1 : min (wrap64 ((a : Int) + 16384)) (b.size : Int) ≤ (b.size : Int) := by rw [hm]; omega
                  have hm2 : (a : Int) ≤ min (wrap64 ((a : Int) + 16384)) (b.size : Int) := by rw [hm]; omega
                  obtain ⟨P, hP⟩ : ∃ P, Hw.part B j = P := ⟨_, rfl⟩
                  have HPE := hid' hP
                  have HPL : Hid (P.length ≤ 16384) := hid' (by rw [← hP]; exact Hw.part_len _ _)
                  have HC : Hid (b.extract a (min (wrap64 ((a : Int) + 16384)) (b.size : Int)).toNat = ⟨P.toArray⟩) := hid' (by
                    rw [hm, Int.toNat_natCast]
                    apply ByteArray.ext
                    apply Array.ext'
                    rw [Lib.extract_data, HBE.out, ← hP]
                    unfold Hw.part
                    rw [← HJ.out]
                    show List.take (min (a + 16384) b.size - a) (List.drop a B) = List.take 16384 (List.drop a B)
                    rcases Nat.le_total (a + 16384) b.size with h | h
                    · rw [Nat.min_eq_left h, Nat.add_sub_cancel_left]
                    · rw [Nat.min_eq_right h, List.take_of_length_le (by rw [List.length_drop, HBL.out]; exact Nat.le_refl _), List.take_of_length_le (by rw [List.length_drop, ← HBL.out]; omega)])
                  clear hm hP
                  go_upto_region 23 with fail
                  rw [HC.out]
                  clear x0 x1 x2 x3 hm0 hm1 hm2
                  have HOW := HO
                  have HBW := HB
                  go_wp2_with (at_builtin; refine wpl_appk21 rfl _ _ 28 rfl w.heap.size 9 i0 (.string ⟨#[]⟩) 1 16 Tryd.underlying28 HI.out HZ0.out HZ1.out HZ2.out rfl (by decide) (.slice ao (j + 1) cap) (j + 1) _ rfl (HOW.out.alloc _) ⟨wr.heap.size, 0, none⟩ 1 1 [.string (⟨P.toArray⟩)] rfl rfl (new_s22 _ _) (fun u hu => by rw [List.mem_singleton.1 hu]; rfl) (by unfold maxLen; omega) (by omega) (by simp; have := HBW.out.size; omega) ?_; intro v3 w9 hown3 _ hgrow3 hblk3; refine Hid.out ?_)
                  refine hid' ?_
                  have HB9 : Hid (Below w.heap.size w w9) := hid' ((HBW.out.alloc HBW.out.size _).grown hgrow3 (by simp; have := HBW.out.size; omega) (fun k hk => (HOW.out.lt k hk).1))
                  obtain ⟨v3o, v3c, hv3⟩ := own_shape hown3
                  subst hv3
                  rw [← HPE.out, show ([Value.string ⟨(Hw.part B j).toArray⟩] : List Value) = sC [Hw.part B j] from rfl, ← Hw.sC_app, List.cons_append, show (List.range j).map (Hw.part B) ++ [Hw.part B j] = (List.range (j + 1)).map (Hw.part B) from (Hw.range_snoc (Hw.part B) j).symm] at hown3
                  have HO9 := hid' hown3
                  have HAL := hid' (HA.out.keep (bl_alloc wr (.cells #[.string (⟨P.toArray⟩)] 9)))
                  have HA9 := hid' (ar_grown HAL.out hgrow3 (own_apart (HOW.out.alloc _) HAL.out (by decide)))
                  clear hown3 hgrow3 hblk3
                  have hlt := HLT.out
                  have hbz := HBS.out
                  go_wp2
                  go_roundw
                  case rel => exact ⟨j + 1, a + 16384, v3o, v3c, by go_num, rfl, by omega, hj6, HJ1, HO9, HB9, HA9⟩
                  case measure => simp [intOf]; omega
                · have HJP : Hid (j = Hw.pn B.length) := hid' (by have h1 := HJ.out; have h2 := HBL.out; unfold Hw.pn; omega)
                  have HRS : Hid (Hw.parts b.data.toList = (List.range j).map (Hw.part B)) := hid' (by
                    rw [HBE.out, HJP.out]; unfold Hw.parts; rfl)
                  have HP : Hid (Hw.pieces ⟨s, fs, b, ts⟩ true false false = (tp :: ((List.range j).map (Hw.part B) ++ []), 0)) := hid' (by
                    rw [← HRS.out]
                    unfold Hw.pieces; simp only [HM1.out, HM2.out, HLO.out]
                    simp [Hw.bare, HBR.out, Hw.opn, HTP.out, Hw.rest])
                  have hlt2 : ¬ (a : Int) < (b.size : Int) := by omega
                  have HLN9 : Hid ((tp :: ((List.range j).map (Hw.part B) ++ [])).length = j + 1) := hid' (by simp)
                  go_wp2
                  go_ret2
                  rw [HP.out]
                  refine ⟨ao, cap, ?_, ?_, HB.out⟩
                  · show _ = Ending.returned (.tuple #[.slice ao (tp :: ((List.range j).map (Hw.part B) ++ [])).length cap, _])
                    rw [HLN9.out]; rfl
                  · show World.ownsRow _ _ _ _ (.slice ao (tp :: ((List.range j).map (Hw.part B) ++ [])).length cap) (tp :: ((List.range j).map (Hw.part B) ++ [])).length _
                    rw [HLN9.out, List.append_nil]; exact HO.out
      · cases old
        · go_enter Tryd.func8, Tryd.ntmps8
          go_upto_region 1 with fail
          obtain ⟨xb, hxb⟩ : ∃ xb, w.heap.size = xb := ⟨_, rfl⟩
          rw [hxb] at HX ⊢
          generalize w.alloc (.cells #[.int .i64 s, fv, .string b, tv] 24) = w1 at *
          have HA1 := HX
          have HB1 := HBX
          clear HX HBX hxb
          have x0 := HA1.out.cell 0 _ rfl
          have x1 := HA1.out.cell 1 _ rfl
          have x2 := HA1.out.cell 2 _ rfl
          have x3 := HA1.out.cell 3 _ rfl
          go_wp2_with fail
          refine (HS1.out _ HB1.out).mono ?_
          rintro e w2 ⟨rfl, hw2⟩
          subst hw2
          have HB2 := HB1
          have HA2 := HA1
          clear x0 x1 x2 x3
          cases m1
          · have HP : Hid (Hw.pieces ⟨s, fs, b, ts⟩ false false true = ([], 220)) := hid' (by unfold Hw.pieces; rw [HM1.out]; rfl)
            have x0 := HA2.out.cell 0 _ rfl
            have x1 := HA2.out.cell 1 _ rfl
            have x2 := HA2.out.cell 2 _ rfl
            have x3 := HA2.out.cell 3 _ rfl
            go_wp2
            go_ret2
            rw [HP.out]
            exact ⟨none, 0, rfl, World.ownsRow_nil _ _ _ _, HB2.out⟩
          · have x0 := HA2.out.cell 0 _ rfl
            have x1 := HA2.out.cell 1 _ rfl
            have x2 := HA2.out.cell 2 _ rfl
            have x3 := HA2.out.cell 3 _ rfl
            go_wp2_with fail
            refine (HS2.out _ HB2.out).mono ?_
            rintro e w3 ⟨rfl, hw3⟩
            subst hw3
            have HB3 := HB2
            have HA3 := HA2
            clear x0 x1 x2 x3
            cases m2
            · have HP : Hid (Hw.pieces ⟨s, fs, b, ts⟩ false false true = ([], 220)) := hid' (by unfold Hw.pieces; rw [HM1.out, HM2.out]; rfl)
              have x0 := HA3.out.cell 0 _ rfl
              have x1 := HA3.out.cell 1 _ rfl
              have x2 := HA3.out.cell 2 _ rfl
              have x3 := HA3.out.cell 3 _ rfl
              go_wp2
              go_ret2
              rw [HP.out]
              exact ⟨none, 0, rfl, World.ownsRow_nil _ _ _ _, HB3.out⟩
            · have x0 := HA3.out.cell 0 _ rfl
              have x1 := HA3.out.cell 1 _ rfl
              have x2 := HA3.out.cell 2 _ rfl
              have x3 := HA3.out.cell 3 _ rfl
              go_wp2_with fail
              refine (HST.out _).mono ?_
              rintro e w4 ⟨rfl, hw4⟩
              subst hw4
              have HB4 := HB3
              have HA4 := HA3
              clear x0 x1 x2 x3
              have x0 := HA4.out.cell 0 _ rfl
              have x1 := HA4.out.cell 1 _ rfl
              have x2 := HA4.out.cell 2 _ rfl
              have x3 := HA4.out.cell 3 _ rfl
              go_wp2_with fail
              refine (HLN.out _ HB4.out).mono ?_
              rintro e w4b ⟨rfl, hb4b⟩
              have HB4b := hid' (below_two HB4.out hb4b)
              have HA4b := hid' (HA4.out.keep hb4b)
              clear hb4b
              clear x0 x1 x2 x3
              have x0 := HA4b.out.cell 0 _ rfl
              have x1 := HA4b.out.cell 1 _ rfl
              have x2 := HA4b.out.cell 2 _ rfl
              have x3 := HA4b.out.cell 3 _ rfl
              go_upto_region 8 with fail
              clear x0 x1 x2 x3
              have q0 : ∀ z : BW w4b, z.W.cell? ⟨xb, 0, none⟩ = some (.int .i64 s) := fun z => (HA4b.out.keep z.h).cell 0 _ rfl
              have q1 : ∀ z : BW w4b, z.W.cell? ⟨xb, 1, none⟩ = some fv := fun z => (HA4b.out.keep z.h).cell 1 _ rfl
              have hne : Nonempty (BW w4b) := ⟨⟨w4b, Below.refl _ _⟩⟩
              have HFI2 := hid' (fun z : BW w4b => HFI.out z.W)
              have HLI2 := hid' (fun z : BW w4b => HLI.out z.W (below_two HB4b.out z.h))
              refine wp_region_below_s (by kernel_rfl) (by kernel_rfl) ?_
              repeat (refine QS.step (fun K hK => ?_); go_simp; first | (refine hK _ ?_; clear hK K) | (apply Exists.intro; refine ⟨fun _ => ?_, hK _ ?_⟩; (first | (go_at_call 33; exact Calls.below_of (HFI2.out _)) | (go_at_call 34; exact Calls.below_of (HLI2.out _))); clear hK K))
              refine QS.nil ?_
              rintro _ ⟨p5, rfl⟩
              obtain ⟨w5, hw5⟩ : ∃ W, p5.W = W := ⟨_, rfl⟩
              have hb5 := p5.h
              rw [hw5] at hb5 ⊢
              clear hw5 p5
              have HB5 := hid' (below_two HB4b.out hb5)
              have HA5 := hid' (HA4b.out.keep hb5)
              clear hb5 q0 q1 hne HFI2 HLI2
              have k2 : ¬ 9223372036854775807 < A.length + F.length + 28 := by have := HAF.out; omega
              have k3 : ¬ 9223372036854775807 < A.length + F.length + 28 + 19 := by have := HAF.out; omega
              have k4 : ¬ 9223372036854775807 < A.length + F.length + 28 + 19 + 2 := by have := HAF.out; omega
              have x0 := HA5.out.cell 0 _ rfl
              have x1 := HA5.out.cell 1 _ rfl
              have x2 := HA5.out.cell 2 _ rfl
              have x3 := HA5.out.cell 3 _ rfl
              go_upto_region 16 with fail
              have HTT : Hid (((((⟨A.toArray⟩ : ByteArray) ++ ⟨F.toArray⟩) ++ ⟨#[116, 114, 97, 110, 115, 102, 101, 114, 45, 101, 110, 99, 111, 100, 105, 110, 103, 58, 32, 99, 104, 117, 110, 107, 101, 100, 13, 10]⟩) ++ ⟨#[99, 111, 110, 110, 101, 99, 116, 105, 111, 110, 58, 32, 99, 108, 111, 115, 101, 13, 10]⟩) ++ ⟨#[13, 10]⟩ = ⟨(Hw.top ⟨s, fs, b, ts⟩ true false true).toArray⟩) := hid' (by
                apply ByteArray.ext
                unfold Hw.top
                rw [HLA.out, HLF.out]
                simp [ByteArray.data_append, Hw.ends, Hw.te, Hw.clo, Hw.crlf])
              obtain ⟨tp, htp⟩ : ∃ tp, Hw.top ⟨s, fs, b, ts⟩ true false true = tp := ⟨_, rfl⟩
              rw [htp] at HTT
              have HTP := hid' htp
              clear htp
              go_upto_region 17 with fail
              rw [HTT.out]
              have HO1 := hid' (own_base21 (own_one22 w5 (.string ⟨tp.toArray⟩)) HB5.out.size)
              have HB6 := hid' (HB5.out.alloc HB5.out.size (.cells #[.string ⟨tp.toArray⟩] 9))
              have HA6 := hid' (HA5.out.keep (bl_alloc w5 (.cells #[.string ⟨tp.toArray⟩] 9)))
              obtain ⟨tb, htb⟩ : ∃ tb, w5.heap.size = tb := ⟨_, rfl⟩
              rw [htb] at HO1 ⊢
              generalize w5.alloc (.cells #[.string ⟨tp.toArray⟩] 9) = w6 at *
              clear htb x0 x1 x2 x3
              have x0 := HA6.out.cell 0 _ rfl
              have x1 := HA6.out.cell 1 _ rfl
              have x2 := HA6.out.cell 2 _ rfl
              have x3 := HA6.out.cell 3 _ rfl
              go_wp2
              clear x0 x1 x2 x3
              go_loopw [17, 18, 19] (fun s17 s18 s19 wr => ∃ (j a : Nat) (ao : Option Addr) (cap : Nat), s18 = .int .i64 (a : Int) ∧ s17 = .slice ao (j + 1) cap ∧ a < b.size + 16384 ∧ j ≤ 65537 ∧ Hid (a = j * 16384) ∧ Hid (wr.ownsRow w.heap.size 9 1 (.slice ao (j + 1) cap) (j + 1) (sC (tp :: (List.range j).map (fun j => Hw.chunk (Hw.part B j))))) ∧ Hid (Below w.heap.size w wr) ∧ Hid (Ar wr xb 24 #[.int .i64 s, fv, .string b, tv])) (fun _ s18 _ _ => b.size + 16384 - (intOf s18).toNat)
              case atStart => exact ⟨0, 0, some ⟨tb, 0, none⟩, 1, rfl, rfl, by omega, by omega, hid' (by rw [Nat.zero_mul]), HO1, HB6, HA6⟩
              case round =>
                obtain ⟨j, a, ao, cap, rfl, rfl, ha, hj, HJ, HO, HB, HA⟩ := hrel
                have x0 := HA.out.cell 0 _ rfl
                have x1 := HA.out.cell 1 _ rfl
                have x2 := HA.out.cell 2 _ rfl
                have x3 := HA.out.cell 3 _ rfl
                by_cases hlt : a < b.size
                · have hlt2 : (a : Int) < (b.size : Int) := by omega
                  have HLT := hid' hlt
                  have HJ1 : Hid (a + 16384 = (j + 1) * 16384) := hid' (by have := HJ.out; omega)
                  have HJP : Hid (j < Hw.pn B.length) := hid' (by rw [Hw.pn_lt]; have h1 := HJ.out; have h2 := HBL.out; omega)
                  have hj6 : j + 1 ≤ 65537 := by have h1 := HJP.out; unfold Hw.pn at h1; have := HBS.out; have h2 := HBL.out; omega
                  have hm : min (wrap64 ((a : Int) + 16384)) (b.size : Int) = ((min (a + 16384) b.size : Nat) : Int) := by
                    have := HBS.out
                    have e : wrap64 ((a : Int) + 16384) = (a : Int) + 16384 := by unfold wrap64; omega
                    rw [e]; omega
                  have hm0 : 0 ≤ min (wrap64 ((a : Int) + 16384)) (b.size : Int) := by rw [hm]; exact Int.natCast_nonneg _
                  have hm1 : min (wrap64 ((a : Int) + 16384)) (b.size : Int) ≤ (b.size : Int) := by rw [hm]; omega
                  have hm2 : (a : Int) ≤ min (wrap64 ((a : Int) + 16384)) (b.size : Int) := by rw [hm]; omega
                  obtain ⟨P, hP⟩ : ∃ P, Hw.part B j = P := ⟨_, rfl⟩
                  have HPE := hid' hP
                  have HPL : Hid (P.length ≤ 16384) := hid' (by rw [← hP]; exact Hw.part_len _ _)
                  have HC : Hid (b.extract a (min (wrap64 ((a : Int) + 16384)) (b.size : Int)).toNat = ⟨P.toArray⟩) := hid' (by
                    rw [hm, Int.toNat_natCast]
                    apply ByteArray.ext
                    apply Array.ext'
                    rw [Lib.extract_data, HBE.out, ← hP]
                    unfold Hw.part
                    rw [← HJ.out]
                    show List.take (min (a + 16384) b.size - a) (List.drop a B) = List.take 16384 (List.drop a B)
                    rcases Nat.le_total (a + 16384) b.size with h | h
                    · rw [Nat.min_eq_left h, Nat.add_sub_cancel_left]
                    · rw [Nat.min_eq_right h, List.take_of_length_le (by rw [List.length_drop, HBL.out]; exact Nat.le_refl _), List.take_of_length_le (by rw [List.length_drop, ← HBL.out]; omega)])
                  clear hm hP
                  go_upto_region 23 with fail
                  rw [HC.out]
                  clear x0 x1 x2 x3 hm0 hm1 hm2
                  obtain ⟨X, hX⟩ : ∃ X, Hw.hex P.length = X := ⟨_, rfl⟩
                  have HHX := hid' (fun W => rhex22 P.length HPL.out W)
                  rw [hX] at HHX
                  have lX : X.length ≤ 16385 := by rw [← hX]; exact Hw.hex_len 16384 _ HPL.out
                  have HCK : Hid (Hw.chunk P = X ++ [13, 10] ++ P ++ [13, 10]) := hid' (by unfold Hw.chunk; rw [hX]; rfl)
                  have lP := HPL.out
                  have q1 : ¬ 9223372036854775807 < X.length + 2 := by omega
                  have q2 : ¬ 9223372036854775807 < X.length + 2 + P.length := by omega
                  have q3 : ¬ 9223372036854775807 < X.length + 2 + P.length + 2 := by omega
                  clear hX lX
                  go_wp2_with (go_at_call 35; refine (HHX.out _).mono ?_; rintro e wq ⟨rfl, hwq⟩; refine Hid.out ?_)
                  refine hid' ?_
                  subst hwq
                  have HOW := HO
                  have HBW := HB
                  go_upto_region 25 with fail
                  obtain ⟨Y, hY⟩ : ∃ Y, X ++ [13, 10] ++ P ++ [13, 10] = Y := ⟨_, rfl⟩
                  rw [Hw.ck_cat, hY]
                  have HYE : Hid (Hw.chunk (Hw.part B j) = Y) := hid' (by rw [HPE.out, HCK.out, hY])
                  clear hY q1 q2 q3
                  go_wp2_with (at_builtin; refine wpl_appk21 rfl _ _ 28 rfl w.heap.size 9 i0 (.string ⟨#[]⟩) 1 16 Tryd.underlying28 HI.out HZ0.out HZ1.out HZ2.out rfl (by decide) (.slice ao (j + 1) cap) (j + 1) _ rfl (HOW.out.alloc _) ⟨wq.heap.size, 0, none⟩ 1 1 [.string (⟨Y.toArray⟩)] rfl rfl (new_s22 _ _) (fun u hu => by rw [List.mem_singleton.1 hu]; rfl) (by unfold maxLen; omega) (by omega) (by simp; have := HBW.out.size; omega) ?_; intro v3 w9 hown3 _ hgrow3 hblk3; refine Hid.out ?_)
                  refine hid' ?_
                  have HB9 : Hid (Below w.heap.size w w9) := hid' ((HBW.out.alloc HBW.out.size _).grown hgrow3 (by simp; have := HBW.out.size; omega) (fun k hk => (HOW.out.lt k hk).1))
                  obtain ⟨v3o, v3c, hv3⟩ := own_shape hown3
                  subst hv3
                  rw [← HYE.out, show ([Value.string ⟨(Hw.chunk (Hw.part B j)).toArray⟩] : List Value) = sC [Hw.chunk (Hw.part B j)] from rfl, ← Hw.sC_app, List.cons_append, show (List.range j).map (fun j => Hw.chunk (Hw.part B j)) ++ [Hw.chunk (Hw.part B j)] = (List.range (j + 1)).map (fun j => Hw.chunk (Hw.part B j)) from (Hw.range_snoc (fun j => Hw.chunk (Hw.part B j)) j).symm] at hown3
                  have HO9 := hid' hown3
                  have HAL := hid' (HA.out.keep (bl_alloc wq (.cells #[.string (⟨Y.toArray⟩)] 9)))
                  have HA9 := hid' (ar_grown HAL.out hgrow3 (own_apart (HOW.out.alloc _) HAL.out (by decide)))
                  clear hown3 hgrow3 hblk3
                  have hlt := HLT.out
                  have hbz := HBS.out
                  go_wp2
                  go_roundw
                  case rel => exact ⟨j + 1, a + 16384, v3o, v3c, by go_num, rfl, by omega, hj6, HJ1, HO9, HB9, HA9⟩
                  case measure => simp [intOf]; omega
                · have HJP : Hid (j = Hw.pn B.length) := hid' (by have h1 := HJ.out; have h2 := HBL.out; unfold Hw.pn; omega)
                  have HRS : Hid ((Hw.parts b.data.toList).map Hw.chunk = (List.range j).map (fun j => Hw.chunk (Hw.part B j))) := hid' (by
                    rw [HBE.out, HJP.out]; unfold Hw.parts; rw [List.map_map]; rfl)
                  have HP : Hid (Hw.pieces ⟨s, fs, b, ts⟩ false false true = (tp :: ((List.range j).map (fun j => Hw.chunk (Hw.part B j)) ++ [Hw.fin ts]), 0)) := hid' (by
                    rw [← HRS.out]
                    unfold Hw.pieces; simp only [HM1.out, HM2.out, HLO.out]
                    simp [Hw.bare, HBR.out, Hw.opn, HTP.out, Hw.rest])
                  have hlt2 : ¬ (a : Int) < (b.size : Int) := by omega
                  have l1 := HEL.out
                  have q1 : ¬ 9223372036854775807 < 3 + E.length := by omega
                  have q2 : ¬ 9223372036854775807 < 3 + E.length + 2 := by omega
                  go_wp2_with (go_at_call 34; refine (HLT2.out _ HB.out).mono ?_; rintro e wq ⟨rfl, hbq⟩; refine Hid.out ?_)
                  refine hid' ?_
                  have HOW := hid' (own_same HO.out (fun i hi => hbq.block i (own_lt HO.out i hi)))
                  have HBW := hid' (below_two HB.out hbq)
                  clear hbq x0 x1 x2 x3
                  go_wp2_with (at_builtin; refine wpl_appk21 rfl _ _ 28 rfl w.heap.size 9 i0 (.string ⟨#[]⟩) 1 16 Tryd.underlying28 HI.out HZ0.out HZ1.out HZ2.out rfl (by decide) (.slice ao (j + 1) cap) (j + 1) _ rfl (HOW.out.alloc _) ⟨wq.heap.size, 0, none⟩ 1 1 [.string (((⟨#[48, 13, 10]⟩ : ByteArray) ++ ⟨E.toArray⟩) ++ ⟨#[13, 10]⟩)] rfl rfl (new_s22 _ _) (fun u hu => by rw [List.mem_singleton.1 hu]; rfl) (by unfold maxLen; omega) (by omega) (by simp; have := HBW.out.size; omega) ?_; intro v3 w9 hown3 _ hgrow3 hblk3; refine Hid.out ?_)
                  refine hid' ?_
                  have HB9 : Hid (Below w.heap.size w w9) := hid' ((HBW.out.alloc HBW.out.size _).grown hgrow3 (by simp; have := HBW.out.size; omega) (fun k hk => (HOW.out.lt k hk).1))
                  obtain ⟨v3o, v3c, hv3⟩ := own_shape hown3
                  subst hv3
                  rw [Hw.fin_cat, show [48, 13, 10] ++ E ++ Hw.crlf = Hw.fin ts by unfold Hw.fin; rw [HLE.out], show ([Value.string ⟨(Hw.fin ts).toArray⟩] : List Value) = sC [Hw.fin ts] from rfl, ← Hw.sC_app, List.cons_append] at hown3
                  have HO9 := hid' hown3
                  have HLN9 : Hid ((tp :: ((List.range j).map (fun j => Hw.chunk (Hw.part B j)) ++ [Hw.fin ts])).length = j + 1 + 1) := hid' (by simp)
                  clear hown3 hgrow3 hblk3
                  go_wp2
                  go_ret2
                  rw [HP.out]
                  refine ⟨v3o, v3c, ?_, ?_, HB9.out⟩
                  · show _ = Ending.returned (.tuple #[.slice v3o (tp :: ((List.range j).map (fun j => Hw.chunk (Hw.part B j)) ++ [Hw.fin ts])).length v3c, _])
                    rw [HLN9.out]; rfl
                  · show World.ownsRow _ _ _ _ (.slice v3o (tp :: ((List.range j).map (fun j => Hw.chunk (Hw.part B j)) ++ [Hw.fin ts])).length v3c) (tp :: ((List.range j).map (fun j => Hw.chunk (Hw.part B j)) ++ [Hw.fin ts])).length _
                    rw [HLN9.out]; exact HO9.out
        · go_enter Tryd.func8, Tryd.ntmps8
          go_upto_region 1 with fail
          obtain ⟨xb, hxb⟩ : ∃ xb, w.heap.size = xb := ⟨_, rfl⟩
          rw [hxb] at HX ⊢
          generalize w.alloc (.cells #[.int .i64 s, fv, .string b, tv] 24) = w1 at *
          have HA1 := HX
          have HB1 := HBX
          clear HX HBX hxb
          have x0 := HA1.out.cell 0 _ rfl
          have x1 := HA1.out.cell 1 _ rfl
          have x2 := HA1.out.cell 2 _ rfl
          have x3 := HA1.out.cell 3 _ rfl
          go_wp2_with fail
          refine (HS1.out _ HB1.out).mono ?_
          rintro e w2 ⟨rfl, hw2⟩
          subst hw2
          have HB2 := HB1
          have HA2 := HA1
          clear x0 x1 x2 x3
          cases m1
          · have HP : Hid (Hw.pieces ⟨s, fs, b, ts⟩ true false true = ([], 220)) := hid' (by unfold Hw.pieces; rw [HM1.out]; rfl)
            have x0 := HA2.out.cell 0 _ rfl
            have x1 := HA2.out.cell 1 _ rfl
            have x2 := HA2.out.cell 2 _ rfl
            have x3 := HA2.out.cell 3 _ rfl
            go_wp2
            go_ret2
            rw [HP.out]
            exact ⟨none, 0, rfl, World.ownsRow_nil _ _ _ _, HB2.out⟩
          · have x0 := HA2.out.cell 0 _ rfl
            have x1 := HA2.out.cell 1 _ rfl
            have x2 := HA2.out.cell 2 _ rfl
            have x3 := HA2.out.cell 3 _ rfl
            go_wp2_with fail
            refine (HS2.out _ HB2.out).mono ?_
            rintro e w3 ⟨rfl, hw3⟩
            subst hw3
            have HB3 := HB2
            have HA3 := HA2
            clear x0 x1 x2 x3
            cases m2
            · have HP : Hid (Hw.pieces ⟨s, fs, b, ts⟩ true false true = ([], 220)) := hid' (by unfold Hw.pieces; rw [HM1.out, HM2.out]; rfl)
              have x0 := HA3.out.cell 0 _ rfl
              have x1 := HA3.out.cell 1 _ rfl
              have x2 := HA3.out.cell 2 _ rfl
              have x3 := HA3.out.cell 3 _ rfl
              go_wp2
              go_ret2
              rw [HP.out]
              exact ⟨none, 0, rfl, World.ownsRow_nil _ _ _ _, HB3.out⟩
            · have x0 := HA3.out.cell 0 _ rfl
              have x1 := HA3.out.cell 1 _ rfl
              have x2 := HA3.out.cell 2 _ rfl
              have x3 := HA3.out.cell 3 _ rfl
              go_wp2_with fail
              refine (HST.out _).mono ?_
              rintro e w4 ⟨rfl, hw4⟩
              subst hw4
              have HB4 := HB3
              have HA4 := HA3
              clear x0 x1 x2 x3
              have x0 := HA4.out.cell 0 _ rfl
              have x1 := HA4.out.cell 1 _ rfl
              have x2 := HA4.out.cell 2 _ rfl
              have x3 := HA4.out.cell 3 _ rfl
              go_wp2_with fail
              refine (HLN.out _ HB4.out).mono ?_
              rintro e w4b ⟨rfl, hb4b⟩
              have HB4b := hid' (below_two HB4.out hb4b)
              have HA4b := hid' (HA4.out.keep hb4b)
              clear hb4b
              clear x0 x1 x2 x3
              have x0 := HA4b.out.cell 0 _ rfl
              have x1 := HA4b.out.cell 1 _ rfl
              have x2 := HA4b.out.cell 2 _ rfl
              have x3 := HA4b.out.cell 3 _ rfl
              go_upto_region 8 with fail
              clear x0 x1 x2 x3
              have q0 : ∀ z : BW w4b, z.W.cell? ⟨xb, 0, none⟩ = some (.int .i64 s) := fun z => (HA4b.out.keep z.h).cell 0 _ rfl
              have q1 : ∀ z : BW w4b, z.W.cell? ⟨xb, 1, none⟩ = some fv := fun z => (HA4b.out.keep z.h).cell 1 _ rfl
              have hne : Nonempty (BW w4b) := ⟨⟨w4b, Below.refl _ _⟩⟩
              have HFI2 := hid' (fun z : BW w4b => HFI.out z.W)
              have HLI2 := hid' (fun z : BW w4b => HLI.out z.W (below_two HB4b.out z.h))
              refine wp_region_below_s (by kernel_rfl) (by kernel_rfl) ?_
              repeat (refine QS.step (fun K hK => ?_); go_simp; first | (refine hK _ ?_; clear hK K) | (apply Exists.intro; refine ⟨fun _ => ?_, hK _ ?_⟩; (first | (go_at_call 33; exact Calls.below_of (HFI2.out _)) | (go_at_call 34; exact Calls.below_of (HLI2.out _))); clear hK K))
              refine QS.nil ?_
              rintro _ ⟨p5, rfl⟩
              obtain ⟨w5, hw5⟩ : ∃ W, p5.W = W := ⟨_, rfl⟩
              have hb5 := p5.h
              rw [hw5] at hb5 ⊢
              clear hw5 p5
              have HB5 := hid' (below_two HB4b.out hb5)
              have HA5 := hid' (HA4b.out.keep hb5)
              clear hb5 q0 q1 hne HFI2 HLI2
              have k2 : ¬ 9223372036854775807 < A.length + F.length + 19 := by have := HAF.out; omega
              have k3 : ¬ 9223372036854775807 < A.length + F.length + 19 + 2 := by have := HAF.out; omega
              have x0 := HA5.out.cell 0 _ rfl
              have x1 := HA5.out.cell 1 _ rfl
              have x2 := HA5.out.cell 2 _ rfl
              have x3 := HA5.out.cell 3 _ rfl
              go_upto_region 16 with fail
              have HTT : Hid ((((⟨A.toArray⟩ : ByteArray) ++ ⟨F.toArray⟩) ++ ⟨#[99, 111, 110, 110, 101, 99, 116, 105, 111, 110, 58, 32, 99, 108, 111, 115, 101, 13, 10]⟩) ++ ⟨#[13, 10]⟩ = ⟨(Hw.top ⟨s, fs, b, ts⟩ true true true).toArray⟩) := hid' (by
                apply ByteArray.ext
                unfold Hw.top
                rw [HLA.out, HLF.out]
                simp [ByteArray.data_append, Hw.ends, Hw.clo, Hw.crlf])
              obtain ⟨tp, htp⟩ : ∃ tp, Hw.top ⟨s, fs, b, ts⟩ true true true = tp := ⟨_, rfl⟩
              rw [htp] at HTT
              have HTP := hid' htp
              clear htp
              go_upto_region 17 with fail
              rw [HTT.out]
              have HO1 := hid' (own_base21 (own_one22 w5 (.string ⟨tp.toArray⟩)) HB5.out.size)
              have HB6 := hid' (HB5.out.alloc HB5.out.size (.cells #[.string ⟨tp.toArray⟩] 9))
              have HA6 := hid' (HA5.out.keep (bl_alloc w5 (.cells #[.string ⟨tp.toArray⟩] 9)))
              obtain ⟨tb, htb⟩ : ∃ tb, w5.heap.size = tb := ⟨_, rfl⟩
              rw [htb] at HO1 ⊢
              generalize w5.alloc (.cells #[.string ⟨tp.toArray⟩] 9) = w6 at *
              clear htb x0 x1 x2 x3
              have x0 := HA6.out.cell 0 _ rfl
              have x1 := HA6.out.cell 1 _ rfl
              have x2 := HA6.out.cell 2 _ rfl
              have x3 := HA6.out.cell 3 _ rfl
              go_wp2
              clear x0 x1 x2 x3
              go_loopw [17, 18, 19] (fun s17 s18 s19 wr => ∃ (j a : Nat) (ao : Option Addr) (cap : Nat), s18 = .int .i64 (a : Int) ∧ s17 = .slice ao (j + 1) cap ∧ a < b.size + 16384 ∧ j ≤ 65537 ∧ Hid (a = j * 16384) ∧ Hid (wr.ownsRow w.heap.size 9 1 (.slice ao (j + 1) cap) (j + 1) (sC (tp :: (List.range j).map (Hw.part B)))) ∧ Hid (Below w.heap.size w wr) ∧ Hid (Ar wr xb 24 #[.int .i64 s, fv, .string b, tv])) (fun _ s18 _ _ => b.size + 16384 - (intOf s18).toNat)
              case atStart => exact ⟨0, 0, some ⟨tb, 0, none⟩, 1, rfl, rfl, by omega, by omega, hid' (by rw [Nat.zero_mul]), HO1, HB6, HA6⟩
              case round =>
                obtain ⟨j, a, ao, cap, rfl, rfl, ha, hj, HJ, HO, HB, HA⟩ := hrel
                have x0 := HA.out.cell 0 _ rfl
                have x1 := HA.out.cell 1 _ rfl
                have x2 := HA.out.cell 2 _ rfl
                have x3 := HA.out.cell 3 _ rfl
                by_cases hlt : a < b.size
                · have hlt2 : (a : Int) < (b.size : Int) := by omega
                  have HLT := hid' hlt
                  have HJ1 : Hid (a + 16384 = (j + 1) * 16384) := hid' (by have := HJ.out; omega)
                  have HJP : Hid (j < Hw.pn B.length) := hid' (by rw [Hw.pn_lt]; have h1 := HJ.out; have h2 := HBL.out; omega)
                  have hj6 : j + 1 ≤ 65537 := by have h1 := HJP.out; unfold Hw.pn at h1; have := HBS.out; have h2 := HBL.out; omega
                  have hm : min (wrap64 ((a : Int) + 16384)) (b.size : Int) = ((min (a + 16384) b.size : Nat) : Int) := by
                    have := HBS.out
                    have e : wrap64 ((a : Int) + 16384) = (a : Int) + 16384 := by unfold wrap64; omega
                    rw [e]; omega
                  have hm0 : 0 ≤ min (wrap64 ((a : Int) + 16384)) (b.size : Int) := by rw [hm]; exact Int.natCast_nonneg _
                  have hm1 : min (wrap64 ((a : Int) + 16384)) (b.size : Int) ≤ (b.size : Int) := by rw [hm]; omega
                  have hm2 : (a : Int) ≤ min (wrap64 ((a : Int) + 16384)) (b.size : Int) := by rw [hm]; omega
                  obtain ⟨P, hP⟩ : ∃ P, Hw.part B j = P := ⟨_, rfl⟩
                  have HPE := hid' hP
                  have HPL : Hid (P.length ≤ 16384) := hid' (by rw [← hP]; exact Hw.part_len _ _)
                  have HC : Hid (b.extract a (min (wrap64 ((a : Int) + 16384)) (b.size : Int)).toNat = ⟨P.toArray⟩) := hid' (by
                    rw [hm, Int.toNat_natCast]
                    apply ByteArray.ext
                    apply Array.ext'
                    rw [Lib.extract_data, HBE.out, ← hP]
                    unfold Hw.part
                    rw [← HJ.out]
                    show List.take (min (a + 16384) b.size - a) (List.drop a B) = List.take 16384 (List.drop a B)
                    rcases Nat.le_total (a + 16384) b.size with h | h
                    · rw [Nat.min_eq_left h, Nat.add_sub_cancel_left]
                    · rw [Nat.min_eq_right h, List.take_of_length_le (by rw [List.length_drop, HBL.out]; exact Nat.le_refl _), List.take_of_length_le (by rw [List.length_drop, ← HBL.out]; omega)])
                  clear hm hP
                  go_upto_region 23 with fail
                  rw [HC.out]
                  clear x0 x1 x2 x3 hm0 hm1 hm2
                  have HOW := HO
                  have HBW := HB
                  go_wp2_with (at_builtin; refine wpl_appk21 rfl _ _ 28 rfl w.heap.size 9 i0 (.string ⟨#[]⟩) 1 16 Tryd.underlying28 HI.out HZ0.out HZ1.out HZ2.out rfl (by decide) (.slice ao (j + 1) cap) (j + 1) _ rfl (HOW.out.alloc _) ⟨wr.heap.size, 0, none⟩ 1 1 [.string (⟨P.toArray⟩)] rfl rfl (new_s22 _ _) (fun u hu => by rw [List.mem_singleton.1 hu]; rfl) (by unfold maxLen; omega) (by omega) (by simp; have := HBW.out.size; omega) ?_; intro v3 w9 hown3 _ hgrow3 hblk3; refine Hid.out ?_)
                  refine hid' ?_
                  have HB9 : Hid (Below w.heap.size w w9) := hid' ((HBW.out.alloc HBW.out.size _).grown hgrow3 (by simp; have := HBW.out.size; omega) (fun k hk => (HOW.out.lt k hk).1))
                  obtain ⟨v3o, v3c, hv3⟩ := own_shape hown3
                  subst hv3
                  rw [← HPE.out, show ([Value.string ⟨(Hw.part B j).toArray⟩] : List Value) = sC [Hw.part B j] from rfl, ← Hw.sC_app, List.cons_append, show (List.range j).map (Hw.part B) ++ [Hw.part B j] = (List.range (j + 1)).map (Hw.part B) from (Hw.range_snoc (Hw.part B) j).symm] at hown3
                  have HO9 := hid' hown3
                  have HAL := hid' (HA.out.keep (bl_alloc wr (.cells #[.string (⟨P.toArray⟩)] 9)))
                  have HA9 := hid' (ar_grown HAL.out hgrow3 (own_apart (HOW.out.alloc _) HAL.out (by decide)))
                  clear hown3 hgrow3 hblk3
                  have hlt := HLT.out
                  have hbz := HBS.out
                  go_wp2
                  go_roundw
                  case rel => exact ⟨j + 1, a + 16384, v3o, v3c, by go_num, rfl, by omega, hj6, HJ1, HO9, HB9, HA9⟩
                  case measure => simp [intOf]; omega
                · have HJP : Hid (j = Hw.pn B.length) := hid' (by have h1 := HJ.out; have h2 := HBL.out; unfold Hw.pn; omega)
                  have HRS : Hid (Hw.parts b.data.toList = (List.range j).map (Hw.part B)) := hid' (by
                    rw [HBE.out, HJP.out]; unfold Hw.parts; rfl)
                  have HP : Hid (Hw.pieces ⟨s, fs, b, ts⟩ true false true = (tp :: ((List.range j).map (Hw.part B) ++ []), 0)) := hid' (by
                    rw [← HRS.out]
                    unfold Hw.pieces; simp only [HM1.out, HM2.out, HLO.out]
                    simp [Hw.bare, HBR.out, Hw.opn, HTP.out, Hw.rest])
                  have hlt2 : ¬ (a : Int) < (b.size : Int) := by omega
                  have HLN9 : Hid ((tp :: ((List.range j).map (Hw.part B) ++ [])).length = j + 1) := hid' (by simp)
                  go_wp2
                  go_ret2
                  rw [HP.out]
                  refine ⟨ao, cap, ?_, ?_, HB.out⟩
                  · show _ = Ending.returned (.tuple #[.slice ao (tp :: ((List.range j).map (Hw.part B) ++ [])).length cap, _])
                    rw [HLN9.out]; rfl
                  · show World.ownsRow _ _ _ _ (.slice ao (tp :: ((List.range j).map (Hw.part B) ++ [])).length cap) (tp :: ((List.range j).map (Hw.part B) ++ [])).length _
                    rw [HLN9.out, List.append_nil]; exact HO.out
    | some v =>
      obtain ⟨nv, hnv⟩ : ∃ nv, (Tx.num 10 v.data.toList).1 = nv := ⟨_, rfl⟩
      have HNV := hid' hnv
      have HLNv : Hid (∀ W, Below w.heap.size w W → Calls Tryd.prog 21 #[fv] W fun e w' => e = .returned (.tuple #[.int .i64 nv, .bool true, .int .i64 0]) ∧ Below W.heap.size W w') := hid' (by rw [← hnv]; exact HLN.out)
      have HLNe := HLN
      clear HLN
      have HLN := HLNv
      clear HLNv
      clear hnv
      cases c2 : (nv == (b.size : Int))
      · have c3 : (nv != (b.size : Int)) = true := by unfold bne; rw [c2]; rfl
        have HC2 := hid' c2
        have c4 : ¬ nv = (b.size : Int) := by intro e; rw [e] at c2; simp at c2
        go_enter Tryd.func8, Tryd.ntmps8
        go_upto_region 1 with fail
        obtain ⟨xb, hxb⟩ : ∃ xb, w.heap.size = xb := ⟨_, rfl⟩
        rw [hxb] at HX ⊢
        generalize w.alloc (.cells #[.int .i64 s, fv, .string b, tv] 24) = w1 at *
        have HA1 := HX
        have HB1 := HBX
        clear HX HBX hxb
        have x0 := HA1.out.cell 0 _ rfl
        have x1 := HA1.out.cell 1 _ rfl
        have x2 := HA1.out.cell 2 _ rfl
        have x3 := HA1.out.cell 3 _ rfl
        go_wp2_with fail
        refine (HS1.out _ HB1.out).mono ?_
        rintro e w2 ⟨rfl, hw2⟩
        subst hw2
        have HB2 := HB1
        have HA2 := HA1
        clear x0 x1 x2 x3
        cases m1
        · have HP : Hid (Hw.pieces ⟨s, fs, b, ts⟩ old false last = ([], 220)) := hid' (by unfold Hw.pieces; rw [HM1.out]; rfl)
          have x0 := HA2.out.cell 0 _ rfl
          have x1 := HA2.out.cell 1 _ rfl
          have x2 := HA2.out.cell 2 _ rfl
          have x3 := HA2.out.cell 3 _ rfl
          go_wp2
          go_ret2
          rw [HP.out]
          exact ⟨none, 0, rfl, World.ownsRow_nil _ _ _ _, HB2.out⟩
        · have x0 := HA2.out.cell 0 _ rfl
          have x1 := HA2.out.cell 1 _ rfl
          have x2 := HA2.out.cell 2 _ rfl
          have x3 := HA2.out.cell 3 _ rfl
          go_wp2_with fail
          refine (HS2.out _ HB2.out).mono ?_
          rintro e w3 ⟨rfl, hw3⟩
          subst hw3
          have HB3 := HB2
          have HA3 := HA2
          clear x0 x1 x2 x3
          cases m2
          · have HP : Hid (Hw.pieces ⟨s, fs, b, ts⟩ old false last = ([], 220)) := hid' (by unfold Hw.pieces; rw [HM1.out, HM2.out]; rfl)
            have x0 := HA3.out.cell 0 _ rfl
            have x1 := HA3.out.cell 1 _ rfl
            have x2 := HA3.out.cell 2 _ rfl
            have x3 := HA3.out.cell 3 _ rfl
            go_wp2
            go_ret2
            rw [HP.out]
            exact ⟨none, 0, rfl, World.ownsRow_nil _ _ _ _, HB3.out⟩
          · have x0 := HA3.out.cell 0 _ rfl
            have x1 := HA3.out.cell 1 _ rfl
            have x2 := HA3.out.cell 2 _ rfl
            have x3 := HA3.out.cell 3 _ rfl
            go_wp2_with fail
            refine (HST.out _).mono ?_
            rintro e w4 ⟨rfl, hw4⟩
            subst hw4
            have HB4 := HB3
            have HA4 := HA3
            clear x0 x1 x2 x3
            have x0 := HA4.out.cell 0 _ rfl
            have x1 := HA4.out.cell 1 _ rfl
            have x2 := HA4.out.cell 2 _ rfl
            have x3 := HA4.out.cell 3 _ rfl
            go_wp2_with fail
            refine (HLN.out _ HB4.out).mono ?_
            rintro e w4b ⟨rfl, hb4b⟩
            have HB4b := hid' (below_two HB4.out hb4b)
            have HA4b := hid' (HA4.out.keep hb4b)
            clear hb4b
            clear x0 x1 x2 x3
            have HP : Hid (Hw.pieces ⟨s, fs, b, ts⟩ old false last = ([], 142)) := hid' (by unfold Hw.pieces; simp only [HM1.out, HM2.out, HLO.out]; simp [Hw.bare, HBR.out, Hw.lenI, HNV.out, HC2.out])
            have x0 := HA4b.out.cell 0 _ rfl
            have x1 := HA4b.out.cell 1 _ rfl
            have x2 := HA4b.out.cell 2 _ rfl
            have x3 := HA4b.out.cell 3 _ rfl
            go_wp2
            go_ret2
            rw [HP.out]
            exact ⟨none, 0, rfl, World.ownsRow_nil _ _ _ _, HB4b.out⟩
      · have c4 : nv = (b.size : Int) := eq_of_beq c2
        have c3 : (nv != (b.size : Int)) = false := by unfold bne; rw [c2]; rfl
        have HEQ : Hid ((Tx.num 10 v.data.toList).1 = (b.size : Int)) := hid' (by rw [HNV.out]; exact c4)
        subst c4
        clear c2
        cases last
        · cases old
          · go_enter Tryd.func8, Tryd.ntmps8
            go_upto_region 1 with fail
            obtain ⟨xb, hxb⟩ : ∃ xb, w.heap.size = xb := ⟨_, rfl⟩
            rw [hxb] at HX ⊢
            generalize w.alloc (.cells #[.int .i64 s, fv, .string b, tv] 24) = w1 at *
            have HA1 := HX
            have HB1 := HBX
            clear HX HBX hxb
            have x0 := HA1.out.cell 0 _ rfl
            have x1 := HA1.out.cell 1 _ rfl
            have x2 := HA1.out.cell 2 _ rfl
            have x3 := HA1.out.cell 3 _ rfl
            go_wp2_with fail
            refine (HS1.out _ HB1.out).mono ?_
            rintro e w2 ⟨rfl, hw2⟩
            subst hw2
            have HB2 := HB1
            have HA2 := HA1
            clear x0 x1 x2 x3
            cases m1
            · have HP : Hid (Hw.pieces ⟨s, fs, b, ts⟩ false false false = ([], 220)) := hid' (by unfold Hw.pieces; rw [HM1.out]; rfl)
              have x0 := HA2.out.cell 0 _ rfl
              have x1 := HA2.out.cell 1 _ rfl
              have x2 := HA2.out.cell 2 _ rfl
              have x3 := HA2.out.cell 3 _ rfl
              go_wp2
              go_ret2
              rw [HP.out]
              exact ⟨none, 0, rfl, World.ownsRow_nil _ _ _ _, HB2.out⟩
            · have x0 := HA2.out.cell 0 _ rfl
              have x1 := HA2.out.cell 1 _ rfl
              have x2 := HA2.out.cell 2 _ rfl
              have x3 := HA2.out.cell 3 _ rfl
              go_wp2_with fail
              refine (HS2.out _ HB2.out).mono ?_
              rintro e w3 ⟨rfl, hw3⟩
              subst hw3
              have HB3 := HB2
              have HA3 := HA2
              clear x0 x1 x2 x3
              cases m2
              · have HP : Hid (Hw.pieces ⟨s, fs, b, ts⟩ false false false = ([], 220)) := hid' (by unfold Hw.pieces; rw [HM1.out, HM2.out]; rfl)
                have x0 := HA3.out.cell 0 _ rfl
                have x1 := HA3.out.cell 1 _ rfl
                have x2 := HA3.out.cell 2 _ rfl
                have x3 := HA3.out.cell 3 _ rfl
                go_wp2
                go_ret2
                rw [HP.out]
                exact ⟨none, 0, rfl, World.ownsRow_nil _ _ _ _, HB3.out⟩
              · have x0 := HA3.out.cell 0 _ rfl
                have x1 := HA3.out.cell 1 _ rfl
                have x2 := HA3.out.cell 2 _ rfl
                have x3 := HA3.out.cell 3 _ rfl
                go_wp2_with fail
                refine (HST.out _).mono ?_
                rintro e w4 ⟨rfl, hw4⟩
                subst hw4
                have HB4 := HB3
                have HA4 := HA3
                clear x0 x1 x2 x3
                have x0 := HA4.out.cell 0 _ rfl
                have x1 := HA4.out.cell 1 _ rfl
                have x2 := HA4.out.cell 2 _ rfl
                have x3 := HA4.out.cell 3 _ rfl
                go_wp2_with fail
                refine (HLN.out _ HB4.out).mono ?_
                rintro e w4b ⟨rfl, hb4b⟩
                have HB4b := hid' (below_two HB4.out hb4b)
                have HA4b := hid' (HA4.out.keep hb4b)
                clear hb4b
                clear x0 x1 x2 x3
                have x0 := HA4b.out.cell 0 _ rfl
                have x1 := HA4b.out.cell 1 _ rfl
                have x2 := HA4b.out.cell 2 _ rfl
                have x3 := HA4b.out.cell 3 _ rfl
                go_upto_region 8 with fail
                clear x0 x1 x2 x3
                have q0 : ∀ z : BW w4b, z.W.cell? ⟨xb, 0, none⟩ = some (.int .i64 s) := fun z => (HA4b.out.keep z.h).cell 0 _ rfl
                have q1 : ∀ z : BW w4b, z.W.cell? ⟨xb, 1, none⟩ = some fv := fun z => (HA4b.out.keep z.h).cell 1 _ rfl
                have hne : Nonempty (BW w4b) := ⟨⟨w4b, Below.refl _ _⟩⟩
                have HFI2 := hid' (fun z : BW w4b => HFI.out z.W)
                have HLI2 := hid' (fun z : BW w4b => HLI.out z.W (below_two HB4b.out z.h))
                refine wp_region_below_s (by kernel_rfl) (by kernel_rfl) ?_
                repeat (refine QS.step (fun K hK => ?_); go_simp; first | (refine hK _ ?_; clear hK K) | (apply Exists.intro; refine ⟨fun _ => ?_, hK _ ?_⟩; (first | (go_at_call 33; exact Calls.below_of (HFI2.out _)) | (go_at_call 34; exact Calls.below_of (HLI2.out _))); clear hK K))
                refine QS.nil ?_
                rintro _ ⟨p5, rfl⟩
                obtain ⟨w5, hw5⟩ : ∃ W, p5.W = W := ⟨_, rfl⟩
                have hb5 := p5.h
                rw [hw5] at hb5 ⊢
                clear hw5 p5
                have HB5 := hid' (below_two HB4b.out hb5)
                have HA5 := hid' (HA4b.out.keep hb5)
                clear hb5 q0 q1 hne HFI2 HLI2
                have k2 : ¬ 9223372036854775807 < A.length + F.length + 2 := by have := HAF.out; omega
                have x0 := HA5.out.cell 0 _ rfl
                have x1 := HA5.out.cell 1 _ rfl
                have x2 := HA5.out.cell 2 _ rfl
                have x3 := HA5.out.cell 3 _ rfl
                go_upto_region 16 with fail
                have HTT : Hid (((⟨A.toArray⟩ : ByteArray) ++ ⟨F.toArray⟩) ++ ⟨#[13, 10]⟩ = ⟨(Hw.top ⟨s, fs, b, ts⟩ false false false).toArray⟩) := hid' (by
                  apply ByteArray.ext
                  unfold Hw.top
                  rw [HLA.out, HLF.out]
                  simp [ByteArray.data_append, Hw.ends, Hw.crlf])
                obtain ⟨tp, htp⟩ : ∃ tp, Hw.top ⟨s, fs, b, ts⟩ false false false = tp := ⟨_, rfl⟩
                rw [htp] at HTT
                have HTP := hid' htp
                clear htp
                go_upto_region 17 with fail
                rw [HTT.out]
                have HO1 := hid' (own_base21 (own_one22 w5 (.string ⟨tp.toArray⟩)) HB5.out.size)
                have HB6 := hid' (HB5.out.alloc HB5.out.size (.cells #[.string ⟨tp.toArray⟩] 9))
                have HA6 := hid' (HA5.out.keep (bl_alloc w5 (.cells #[.string ⟨tp.toArray⟩] 9)))
                obtain ⟨tb, htb⟩ : ∃ tb, w5.heap.size = tb := ⟨_, rfl⟩
                rw [htb] at HO1 ⊢
                generalize w5.alloc (.cells #[.string ⟨tp.toArray⟩] 9) = w6 at *
                clear htb x0 x1 x2 x3
                have x0 := HA6.out.cell 0 _ rfl
                have x1 := HA6.out.cell 1 _ rfl
                have x2 := HA6.out.cell 2 _ rfl
                have x3 := HA6.out.cell 3 _ rfl
                go_wp2
                clear x0 x1 x2 x3
                go_loopw [17, 18, 19] (fun s17 s18 s19 wr => ∃ (j a : Nat) (ao : Option Addr) (cap : Nat), s18 = .int .i64 (a : Int) ∧ s17 = .slice ao (j + 1) cap ∧ a < b.size + 16384 ∧ j ≤ 65537 ∧ Hid (a = j * 16384) ∧ Hid (wr.ownsRow w.heap.size 9 1 (.slice ao (j + 1) cap) (j + 1) (sC (tp :: (List.range j).map (Hw.part B)))) ∧ Hid (Below w.heap.size w wr) ∧ Hid (Ar wr xb 24 #[.int .i64 s, fv, .string b, tv])) (fun _ s18 _ _ => b.size + 16384 - (intOf s18).toNat)
                case atStart => exact ⟨0, 0, some ⟨tb, 0, none⟩, 1, rfl, rfl, by omega, by omega, hid' (by rw [Nat.zero_mul]), HO1, HB6, HA6⟩
                case round =>
                  obtain ⟨j, a, ao, cap, rfl, rfl, ha, hj, HJ, HO, HB, HA⟩ := hrel
                  have x0 := HA.out.cell 0 _ rfl
                  have x1 := HA.out.cell 1 _ rfl
                  have x2 := HA.out.cell 2 _ rfl
                  have x3 := HA.out.cell 3 _ rfl
                  by_cases hlt : a < b.size
                  · have hlt2 : (a : Int) < (b.size : Int) := by omega
                    have HLT := hid' hlt
                    have HJ1 : Hid (a + 16384 = (j + 1) * 16384) := hid' (by have := HJ.out; omega)
                    have HJP : Hid (j < Hw.pn B.length) := hid' (by rw [Hw.pn_lt]; have h1 := HJ.out; have h2 := HBL.out; omega)
                    have hj6 : j + 1 ≤ 65537 := by have h1 := HJP.out; unfold Hw.pn at h1; have := HBS.out; have h2 := HBL.out; omega
                    have hm : min (wrap64 ((a : Int) + 16384)) (b.size : Int) = ((min (a + 16384) b.size : Nat) : Int) := by
                      have := HBS.out
                      have e : wrap64 ((a : Int) + 16384) = (a : Int) + 16384 := by unfold wrap64; omega
                      rw [e]; omega
                    have hm0 : 0 ≤ min (wrap64 ((a : Int) + 16384)) (b.size : Int) := by rw [hm]; exact Int.natCast_nonneg _
                    have hm1 : min (wrap64 ((a : Int) + 16384)) (b.size : Int) ≤ (b.size : Int) := by rw [hm]; omega
                    have hm2 : (a : Int) ≤ min (wrap64 ((a : Int) + 16384)) (b.size : Int) := by rw [hm]; omega
                    obtain ⟨P, hP⟩ : ∃ P, Hw.part B j = P := ⟨_, rfl⟩
                    have HPE := hid' hP
                    have HPL : Hid (P.length ≤ 16384) := hid' (by rw [← hP]; exact Hw.part_len _ _)
                    have HC : Hid (b.extract a (min (wrap64 ((a : Int) + 16384)) (b.size : Int)).toNat = ⟨P.toArray⟩) := hid' (by
                      rw [hm, Int.toNat_natCast]
                      apply ByteArray.ext
                      apply Array.ext'
                      rw [Lib.extract_data, HBE.out, ← hP]
                      unfold Hw.part
                      rw [← HJ.out]
                      show List.take (min (a + 16384) b.size - a) (List.drop a B) = List.take 16384 (List.drop a B)
                      rcases Nat.le_total (a + 16384) b.size with h | h
                      · rw [Nat.min_eq_left h, Nat.add_sub_cancel_left]
                      · rw [Nat.min_eq_right h, List.take_of_length_le (by rw [List.length_drop, HBL.out]; exact Nat.le_refl _), List.take_of_length_le (by rw [List.length_drop, ← HBL.out]; omega)])
                    clear hm hP
                    go_upto_region 23 with fail
                    rw [HC.out]
                    clear x0 x1 x2 x3 hm0 hm1 hm2
                    have HOW := HO
                    have HBW := HB
                    go_wp2_with (at_builtin; refine wpl_appk21 rfl _ _ 28 rfl w.heap.size 9 i0 (.string ⟨#[]⟩) 1 16 Tryd.underlying28 HI.out HZ0.out HZ1.out HZ2.out rfl (by decide) (.slice ao (j + 1) cap) (j + 1) _ rfl (HOW.out.alloc _) ⟨wr.heap.size, 0, none⟩ 1 1 [.string (⟨P.toArray⟩)] rfl rfl (new_s22 _ _) (fun u hu => by rw [List.mem_singleton.1 hu]; rfl) (by unfold maxLen; omega) (by omega) (by simp; have := HBW.out.size; omega) ?_; intro v3 w9 hown3 _ hgrow3 hblk3; refine Hid.out ?_)
                    refine hid' ?_
                    have HB9 : Hid (Below w.heap.size w w9) := hid' ((HBW.out.alloc HBW.out.size _).grown hgrow3 (by simp; have := HBW.out.size; omega) (fun k hk => (HOW.out.lt k hk).1))
                    obtain ⟨v3o, v3c, hv3⟩ := own_shape hown3
                    subst hv3
                    rw [← HPE.out, show ([Value.string ⟨(Hw.part B j).toArray⟩] : List Value) = sC [Hw.part B j] from rfl, ← Hw.sC_app, List.cons_append, show (List.range j).map (Hw.part B) ++ [Hw.part B j] = (List.range (j + 1)).map (Hw.part B) from (Hw.range_snoc (Hw.part B) j).symm] at hown3
                    have HO9 := hid' hown3
                    have HAL := hid' (HA.out.keep (bl_alloc wr (.cells #[.string (⟨P.toArray⟩)] 9)))
                    have HA9 := hid' (ar_grown HAL.out hgrow3 (own_apart (HOW.out.alloc _) HAL.out (by decide)))
                    clear hown3 hgrow3 hblk3
                    have hlt := HLT.out
                    have hbz := HBS.out
                    go_wp2
                    go_roundw
                    case rel => exact ⟨j + 1, a + 16384, v3o, v3c, by go_num, rfl, by omega, hj6, HJ1, HO9, HB9, HA9⟩
                    case measure => simp [intOf]; omega
                  · have HJP : Hid (j = Hw.pn B.length) := hid' (by have h1 := HJ.out; have h2 := HBL.out; unfold Hw.pn; omega)
                    have HRS : Hid (Hw.parts b.data.toList = (List.range j).map (Hw.part B)) := hid' (by
                      rw [HBE.out, HJP.out]; unfold Hw.parts; rfl)
                    have HP : Hid (Hw.pieces ⟨s, fs, b, ts⟩ false false false = (tp :: ((List.range j).map (Hw.part B) ++ []), 0)) := hid' (by
                      rw [← HRS.out]
                      unfold Hw.pieces; simp only [HM1.out, HM2.out, HLO.out]
                      simp [Hw.bare, HBR.out, Hw.opn, HTP.out, Hw.rest, HEQ.out, Hw.lenI])
                    have hlt2 : ¬ (a : Int) < (b.size : Int) := by omega
                    have HLN9 : Hid ((tp :: ((List.range j).map (Hw.part B) ++ [])).length = j + 1) := hid' (by simp)
                    go_wp2
                    go_ret2
                    rw [HP.out]
                    refine ⟨ao, cap, ?_, ?_, HB.out⟩
                    · show _ = Ending.returned (.tuple #[.slice ao (tp :: ((List.range j).map (Hw.part B) ++ [])).length cap, _])
                      rw [HLN9.out]; rfl
                    · show World.ownsRow _ _ _ _ (.slice ao (tp :: ((List.range j).map (Hw.part B) ++ [])).length cap) (tp :: ((List.range j).map (Hw.part B) ++ [])).length _
                      rw [HLN9.out, List.append_nil]; exact HO.out
          · go_enter Tryd.func8, Tryd.ntmps8
            go_upto_region 1 with fail
            obtain ⟨xb, hxb⟩ : ∃ xb, w.heap.size = xb := ⟨_, rfl⟩
            rw [hxb] at HX ⊢
            generalize w.alloc (.cells #[.int .i64 s, fv, .string b, tv] 24) = w1 at *
            have HA1 := HX
            have HB1 := HBX
            clear HX HBX hxb
            have x0 := HA1.out.cell 0 _ rfl
            have x1 := HA1.out.cell 1 _ rfl
            have x2 := HA1.out.cell 2 _ rfl
            have x3 := HA1.out.cell 3 _ rfl
            go_wp2_with fail
            refine (HS1.out _ HB1.out).mono ?_
            rintro e w2 ⟨rfl, hw2⟩
            subst hw2
            have HB2 := HB1
            have HA2 := HA1
            clear x0 x1 x2 x3
            cases m1
            · have HP : Hid (Hw.pieces ⟨s, fs, b, ts⟩ true false false = ([], 220)) := hid' (by unfold Hw.pieces; rw [HM1.out]; rfl)
              have x0 := HA2.out.cell 0 _ rfl
              have x1 := HA2.out.cell 1 _ rfl
              have x2 := HA2.out.cell 2 _ rfl
              have x3 := HA2.out.cell 3 _ rfl
              go_wp2
              go_ret2
              rw [HP.out]
              exact ⟨none, 0, rfl, World.ownsRow_nil _ _ _ _, HB2.out⟩
            · have x0 := HA2.out.cell 0 _ rfl
              have x1 := HA2.out.cell 1 _ rfl
              have x2 := HA2.out.cell 2 _ rfl
              have x3 := HA2.out.cell 3 _ rfl
              go_wp2_with fail
              refine (HS2.out _ HB2.out).mono ?_
              rintro e w3 ⟨rfl, hw3⟩
              subst hw3
              have HB3 := HB2
              have HA3 := HA2
              clear x0 x1 x2 x3
              cases m2
              · have HP : Hid (Hw.pieces ⟨s, fs, b, ts⟩ true false false = ([], 220)) := hid' (by unfold Hw.pieces; rw [HM1.out, HM2.out]; rfl)
                have x0 := HA3.out.cell 0 _ rfl
                have x1 := HA3.out.cell 1 _ rfl
                have x2 := HA3.out.cell 2 _ rfl
                have x3 := HA3.out.cell 3 _ rfl
                go_wp2
                go_ret2
                rw [HP.out]
                exact ⟨none, 0, rfl, World.ownsRow_nil _ _ _ _, HB3.out⟩
              · have x0 := HA3.out.cell 0 _ rfl
                have x1 := HA3.out.cell 1 _ rfl
                have x2 := HA3.out.cell 2 _ rfl
                have x3 := HA3.out.cell 3 _ rfl
                go_wp2_with fail
                refine (HST.out _).mono ?_
                rintro e w4 ⟨rfl, hw4⟩
                subst hw4
                have HB4 := HB3
                have HA4 := HA3
                clear x0 x1 x2 x3
                have x0 := HA4.out.cell 0 _ rfl
                have x1 := HA4.out.cell 1 _ rfl
                have x2 := HA4.out.cell 2 _ rfl
                have x3 := HA4.out.cell 3 _ rfl
                go_wp2_with fail
                refine (HLN.out _ HB4.out).mono ?_
                rintro e w4b ⟨rfl, hb4b⟩
                have HB4b := hid' (below_two HB4.out hb4b)
                have HA4b := hid' (HA4.out.keep hb4b)
                clear hb4b
                clear x0 x1 x2 x3
                have x0 := HA4b.out.cell 0 _ rfl
                have x1 := HA4b.out.cell 1 _ rfl
                have x2 := HA4b.out.cell 2 _ rfl
                have x3 := HA4b.out.cell 3 _ rfl
                go_upto_region 8 with fail
                clear x0 x1 x2 x3
                have q0 : ∀ z : BW w4b, z.W.cell? ⟨xb, 0, none⟩ = some (.int .i64 s) := fun z => (HA4b.out.keep z.h).cell 0 _ rfl
                have q1 : ∀ z : BW w4b, z.W.cell? ⟨xb, 1, none⟩ = some fv := fun z => (HA4b.out.keep z.h).cell 1 _ rfl
                have hne : Nonempty (BW w4b) := ⟨⟨w4b, Below.refl _ _⟩⟩
                have HFI2 := hid' (fun z : BW w4b => HFI.out z.W)
                have HLI2 := hid' (fun z : BW w4b => HLI.out z.W (below_two HB4b.out z.h))
                refine wp_region_below_s (by kernel_rfl) (by kernel_rfl) ?_
                repeat (refine QS.step (fun K hK => ?_); go_simp; first | (refine hK _ ?_; clear hK K) | (apply Exists.intro; refine ⟨fun _ => ?_, hK _ ?_⟩; (first | (go_at_call 33; exact Calls.below_of (HFI2.out _)) | (go_at_call 34; exact Calls.below_of (HLI2.out _))); clear hK K))
                refine QS.nil ?_
                rintro _ ⟨p5, rfl⟩
                obtain ⟨w5, hw5⟩ : ∃ W, p5.W = W := ⟨_, rfl⟩
                have hb5 := p5.h
                rw [hw5] at hb5 ⊢
                clear hw5 p5
                have HB5 := hid' (below_two HB4b.out hb5)
                have HA5 := hid' (HA4b.out.keep hb5)
                clear hb5 q0 q1 hne HFI2 HLI2
                have k2 : ¬ 9223372036854775807 < A.length + F.length + 24 := by have := HAF.out; omega
                have k3 : ¬ 9223372036854775807 < A.length + F.length + 24 + 2 := by have := HAF.out; omega
                have x0 := HA5.out.cell 0 _ rfl
                have x1 := HA5.out.cell 1 _ rfl
                have x2 := HA5.out.cell 2 _ rfl
                have x3 := HA5.out.cell 3 _ rfl
                go_upto_region 16 with fail
                have HTT : Hid ((((⟨A.toArray⟩ : ByteArray) ++ ⟨F.toArray⟩) ++ ⟨#[99, 111, 110, 110, 101, 99, 116, 105, 111, 110, 58, 32, 107, 101, 101, 112, 45, 97, 108, 105, 118, 101, 13, 10]⟩) ++ ⟨#[13, 10]⟩ = ⟨(Hw.top ⟨s, fs, b, ts⟩ false true false).toArray⟩) := hid' (by
                  apply ByteArray.ext
                  unfold Hw.top
                  rw [HLA.out, HLF.out]
                  simp [ByteArray.data_append, Hw.ends, Hw.kee, Hw.crlf])
                obtain ⟨tp, htp⟩ : ∃ tp, Hw.top ⟨s, fs, b, ts⟩ false true false = tp := ⟨_, rfl⟩
                rw [htp] at HTT
                have HTP := hid' htp
                clear htp
                go_upto_region 17 with fail
                rw [HTT.out]
                have HO1 := hid' (own_base21 (own_one22 w5 (.string ⟨tp.toArray⟩)) HB5.out.size)
                have HB6 := hid' (HB5.out.alloc HB5.out.size (.cells #[.string ⟨tp.toArray⟩] 9))
                have HA6 := hid' (HA5.out.keep (bl_alloc w5 (.cells #[.string ⟨tp.toArray⟩] 9)))
                obtain ⟨tb, htb⟩ : ∃ tb, w5.heap.size = tb := ⟨_, rfl⟩
                rw [htb] at HO1 ⊢
                generalize w5.alloc (.cells #[.string ⟨tp.toArray⟩] 9) = w6 at *
                clear htb x0 x1 x2 x3
                have x0 := HA6.out.cell 0 _ rfl
                have x1 := HA6.out.cell 1 _ rfl
                have x2 := HA6.out.cell 2 _ rfl
                have x3 := HA6.out.cell 3 _ rfl
                go_wp2
                clear x0 x1 x2 x3
                go_loopw [17, 18, 19] (fun s17 s18 s19 wr => ∃ (j a : Nat) (ao : Option Addr) (cap : Nat), s18 = .int .i64 (a : Int) ∧ s17 = .slice ao (j + 1) cap ∧ a < b.size + 16384 ∧ j ≤ 65537 ∧ Hid (a = j * 16384) ∧ Hid (wr.ownsRow w.heap.size 9 1 (.slice ao (j + 1) cap) (j + 1) (sC (tp :: (List.range j).map (Hw.part B)))) ∧ Hid (Below w.heap.size w wr) ∧ Hid (Ar wr xb 24 #[.int .i64 s, fv, .string b, tv])) (fun _ s18 _ _ => b.size + 16384 - (intOf s18).toNat)
                case atStart => exact ⟨0, 0, some ⟨tb, 0, none⟩, 1, rfl, rfl, by omega, by omega, hid' (by rw [Nat.zero_mul]), HO1, HB6, HA6⟩
                case round =>
                  obtain ⟨j, a, ao, cap, rfl, rfl, ha, hj, HJ, HO, HB, HA⟩ := hrel
                  have x0 := HA.out.cell 0 _ rfl
                  have x1 := HA.out.cell 1 _ rfl
                  have x2 := HA.out.cell 2 _ rfl
                  have x3 := HA.out.cell 3 _ rfl
                  by_cases hlt : a < b.size
                  · have hlt2 : (a : Int) < (b.size : Int) := by omega
                    have HLT := hid' hlt
                    have HJ1 : Hid (a + 16384 = (j + 1) * 16384) := hid' (by have := HJ.out; omega)
                    have HJP : Hid (j < Hw.pn B.length) := hid' (by rw [Hw.pn_lt]; have h1 := HJ.out; have h2 := HBL.out; omega)
                    have hj6 : j + 1 ≤ 65537 := by have h1 := HJP.out; unfold Hw.pn at h1; have := HBS.out; have h2 := HBL.out; omega
                    have hm : min (wrap64 ((a : Int) + 16384)) (b.size : Int) = ((min (a + 16384) b.size : Nat) : Int) := by
                      have := HBS.out
                      have e : wrap64 ((a : Int) + 16384) = (a : Int) + 16384 := by unfold wrap64; omega
                      rw [e]; omega
                    have hm0 : 0 ≤ min (wrap64 ((a : Int) + 16384)) (b.size : Int) := by rw [hm]; exact Int.natCast_nonneg _
                    have hm1 : min (wrap64 ((a : Int) + 16384)) (b.size : Int) ≤ (b.size : Int) := by rw [hm]; omega
                    have hm2 : (a : Int) ≤ min (wrap64 ((a : Int) + 16384)) (b.size : Int) := by rw [hm]; omega
                    obtain ⟨P, hP⟩ : ∃ P, Hw.part B j = P := ⟨_, rfl⟩
                    have HPE := hid' hP
                    have HPL : Hid (P.length ≤ 16384) := hid' (by rw [← hP]; exact Hw.part_len _ _)
                    have HC : Hid (b.extract a (min (wrap64 ((a : Int) + 16384)) (b.size : Int)).toNat = ⟨P.toArray⟩) := hid' (by
                      rw [hm, Int.toNat_natCast]
                      apply ByteArray.ext
                      apply Array.ext'
                      rw [Lib.extract_data, HBE.out, ← hP]
                      unfold Hw.part
                      rw [← HJ.out]
                      show List.take (min (a + 16384) b.size - a) (List.drop a B) = List.take 16384 (List.drop a B)
                      rcases Nat.le_total (a + 16384) b.size with h | h
                      · rw [Nat.min_eq_left h, Nat.add_sub_cancel_left]
                      · rw [Nat.min_eq_right h, List.take_of_length_le (by rw [List.length_drop, HBL.out]; exact Nat.le_refl _), List.take_of_length_le (by rw [List.length_drop, ← HBL.out]; omega)])
                    clear hm hP
                    go_upto_region 23 with fail
                    rw [HC.out]
                    clear x0 x1 x2 x3 hm0 hm1 hm2
                    have HOW := HO
                    have HBW := HB
                    go_wp2_with (at_builtin; refine wpl_appk21 rfl _ _ 28 rfl w.heap.size 9 i0 (.string ⟨#[]⟩) 1 16 Tryd.underlying28 HI.out HZ0.out HZ1.out HZ2.out rfl (by decide) (.slice ao (j + 1) cap) (j + 1) _ rfl (HOW.out.alloc _) ⟨wr.heap.size, 0, none⟩ 1 1 [.string (⟨P.toArray⟩)] rfl rfl (new_s22 _ _) (fun u hu => by rw [List.mem_singleton.1 hu]; rfl) (by unfold maxLen; omega) (by omega) (by simp; have := HBW.out.size; omega) ?_; intro v3 w9 hown3 _ hgrow3 hblk3; refine Hid.out ?_)
                    refine hid' ?_
                    have HB9 : Hid (Below w.heap.size w w9) := hid' ((HBW.out.alloc HBW.out.size _).grown hgrow3 (by simp; have := HBW.out.size; omega) (fun k hk => (HOW.out.lt k hk).1))
                    obtain ⟨v3o, v3c, hv3⟩ := own_shape hown3
                    subst hv3
                    rw [← HPE.out, show ([Value.string ⟨(Hw.part B j).toArray⟩] : List Value) = sC [Hw.part B j] from rfl, ← Hw.sC_app, List.cons_append, show (List.range j).map (Hw.part B) ++ [Hw.part B j] = (List.range (j + 1)).map (Hw.part B) from (Hw.range_snoc (Hw.part B) j).symm] at hown3
                    have HO9 := hid' hown3
                    have HAL := hid' (HA.out.keep (bl_alloc wr (.cells #[.string (⟨P.toArray⟩)] 9)))
                    have HA9 := hid' (ar_grown HAL.out hgrow3 (own_apart (HOW.out.alloc _) HAL.out (by decide)))
                    clear hown3 hgrow3 hblk3
                    have hlt := HLT.out
                    have hbz := HBS.out
                    go_wp2
                    go_roundw
                    case rel => exact ⟨j + 1, a + 16384, v3o, v3c, by go_num, rfl, by omega, hj6, HJ1, HO9, HB9, HA9⟩
                    case measure => simp [intOf]; omega
                  · have HJP : Hid (j = Hw.pn B.length) := hid' (by have h1 := HJ.out; have h2 := HBL.out; unfold Hw.pn; omega)
                    have HRS : Hid (Hw.parts b.data.toList = (List.range j).map (Hw.part B)) := hid' (by
                      rw [HBE.out, HJP.out]; unfold Hw.parts; rfl)
                    have HP : Hid (Hw.pieces ⟨s, fs, b, ts⟩ true false false = (tp :: ((List.range j).map (Hw.part B) ++ []), 0)) := hid' (by
                      rw [← HRS.out]
                      unfold Hw.pieces; simp only [HM1.out, HM2.out, HLO.out]
                      simp [Hw.bare, HBR.out, Hw.opn, HTP.out, Hw.rest, HEQ.out, Hw.lenI])
                    have hlt2 : ¬ (a : Int) < (b.size : Int) := by omega
                    have HLN9 : Hid ((tp :: ((List.range j).map (Hw.part B) ++ [])).length = j + 1) := hid' (by simp)
                    go_wp2
                    go_ret2
                    rw [HP.out]
                    refine ⟨ao, cap, ?_, ?_, HB.out⟩
                    · show _ = Ending.returned (.tuple #[.slice ao (tp :: ((List.range j).map (Hw.part B) ++ [])).length cap, _])
                      rw [HLN9.out]; rfl
                    · show World.ownsRow _ _ _ _ (.slice ao (tp :: ((List.range j).map (Hw.part B) ++ [])).length cap) (tp :: ((List.range j).map (Hw.part B) ++ [])).length _
                      rw [HLN9.out, List.append_nil]; exact HO.out
        · go_enter Tryd.func8, Tryd.ntmps8
          go_upto_region 1 with fail
          obtain ⟨xb, hxb⟩ : ∃ xb, w.heap.size = xb := ⟨_, rfl⟩
          rw [hxb] at HX ⊢
          generalize w.alloc (.cells #[.int .i64 s, fv, .string b, tv] 24) = w1 at *
          have HA1 := HX
          have HB1 := HBX
          clear HX HBX hxb
          have x0 := HA1.out.cell 0 _ rfl
          have x1 := HA1.out.cell 1 _ rfl
          have x2 := HA1.out.cell 2 _ rfl
          have x3 := HA1.out.cell 3 _ rfl
          go_wp2_with fail
          refine (HS1.out _ HB1.out).mono ?_
          rintro e w2 ⟨rfl, hw2⟩
          subst hw2
          have HB2 := HB1
          have HA2 := HA1
          clear x0 x1 x2 x3
          cases m1
          · have HP : Hid (Hw.pieces ⟨s, fs, b, ts⟩ old false true = ([], 220)) := hid' (by unfold Hw.pieces; rw [HM1.out]; rfl)
            have x0 := HA2.out.cell 0 _ rfl
            have x1 := HA2.out.cell 1 _ rfl
            have x2 := HA2.out.cell 2 _ rfl
            have x3 := HA2.out.cell 3 _ rfl
            go_wp2
            go_ret2
            rw [HP.out]
            exact ⟨none, 0, rfl, World.ownsRow_nil _ _ _ _, HB2.out⟩
          · have x0 := HA2.out.cell 0 _ rfl
            have x1 := HA2.out.cell 1 _ rfl
            have x2 := HA2.out.cell 2 _ rfl
            have x3 := HA2.out.cell 3 _ rfl
            go_wp2_with fail
            refine (HS2.out _ HB2.out).mono ?_
            rintro e w3 ⟨rfl, hw3⟩
            subst hw3
            have HB3 := HB2
            have HA3 := HA2
            clear x0 x1 x2 x3
            cases m2
            · have HP : Hid (Hw.pieces ⟨s, fs, b, ts⟩ old false true = ([], 220)) := hid' (by unfold Hw.pieces; rw [HM1.out, HM2.out]; rfl)
              have x0 := HA3.out.cell 0 _ rfl
              have x1 := HA3.out.cell 1 _ rfl
              have x2 := HA3.out.cell 2 _ rfl
              have x3 := HA3.out.cell 3 _ rfl
              go_wp2
              go_ret2
              rw [HP.out]
              exact ⟨none, 0, rfl, World.ownsRow_nil _ _ _ _, HB3.out⟩
            · have x0 := HA3.out.cell 0 _ rfl
              have x1 := HA3.out.cell 1 _ rfl
              have x2 := HA3.out.cell 2 _ rfl
              have x3 := HA3.out.cell 3 _ rfl
              go_wp2_with fail
              refine (HST.out _).mono ?_
              rintro e w4 ⟨rfl, hw4⟩
              subst hw4
              have HB4 := HB3
              have HA4 := HA3
              clear x0 x1 x2 x3
              have x0 := HA4.out.cell 0 _ rfl
              have x1 := HA4.out.cell 1 _ rfl
              have x2 := HA4.out.cell 2 _ rfl
              have x3 := HA4.out.cell 3 _ rfl
              go_wp2_with fail
              refine (HLN.out _ HB4.out).mono ?_
              rintro e w4b ⟨rfl, hb4b⟩
              have HB4b := hid' (below_two HB4.out hb4b)
              have HA4b := hid' (HA4.out.keep hb4b)
              clear hb4b
              clear x0 x1 x2 x3
              have x0 := HA4b.out.cell 0 _ rfl
              have x1 := HA4b.out.cell 1 _ rfl
              have x2 := HA4b.out.cell 2 _ rfl
              have x3 := HA4b.out.cell 3 _ rfl
              go_upto_region 8 with fail
              clear x0 x1 x2 x3
              have q0 : ∀ z : BW w4b, z.W.cell? ⟨xb, 0, none⟩ = some (.int .i64 s) := fun z => (HA4b.out.keep z.h).cell 0 _ rfl
              have q1 : ∀ z : BW w4b, z.W.cell? ⟨xb, 1, none⟩ = some fv := fun z => (HA4b.out.keep z.h).cell 1 _ rfl
              have hne : Nonempty (BW w4b) := ⟨⟨w4b, Below.refl _ _⟩⟩
              have HFI2 := hid' (fun z : BW w4b => HFI.out z.W)
              have HLI2 := hid' (fun z : BW w4b => HLI.out z.W (below_two HB4b.out z.h))
              refine wp_region_below_s (by kernel_rfl) (by kernel_rfl) ?_
              repeat (refine QS.step (fun K hK => ?_); go_simp; first | (refine hK _ ?_; clear hK K) | (apply Exists.intro; refine ⟨fun _ => ?_, hK _ ?_⟩; (first | (go_at_call 33; exact Calls.below_of (HFI2.out _)) | (go_at_call 34; exact Calls.below_of (HLI2.out _))); clear hK K))
              refine QS.nil ?_
              rintro _ ⟨p5, rfl⟩
              obtain ⟨w5, hw5⟩ : ∃ W, p5.W = W := ⟨_, rfl⟩
              have hb5 := p5.h
              rw [hw5] at hb5 ⊢
              clear hw5 p5
              have HB5 := hid' (below_two HB4b.out hb5)
              have HA5 := hid' (HA4b.out.keep hb5)
              clear hb5 q0 q1 hne HFI2 HLI2
              have k2 : ¬ 9223372036854775807 < A.length + F.length + 19 := by have := HAF.out; omega
              have k3 : ¬ 9223372036854775807 < A.length + F.length + 19 + 2 := by have := HAF.out; omega
              have x0 := HA5.out.cell 0 _ rfl
              have x1 := HA5.out.cell 1 _ rfl
              have x2 := HA5.out.cell 2 _ rfl
              have x3 := HA5.out.cell 3 _ rfl
              go_upto_region 16 with fail
              have HTT : Hid ((((⟨A.toArray⟩ : ByteArray) ++ ⟨F.toArray⟩) ++ ⟨#[99, 111, 110, 110, 101, 99, 116, 105, 111, 110, 58, 32, 99, 108, 111, 115, 101, 13, 10]⟩) ++ ⟨#[13, 10]⟩ = ⟨(Hw.top ⟨s, fs, b, ts⟩ false old true).toArray⟩) := hid' (by
                apply ByteArray.ext
                unfold Hw.top
                rw [HLA.out, HLF.out]
                simp [ByteArray.data_append, Hw.ends, Hw.clo, Hw.crlf])
              obtain ⟨tp, htp⟩ : ∃ tp, Hw.top ⟨s, fs, b, ts⟩ false old true = tp := ⟨_, rfl⟩
              rw [htp] at HTT
              have HTP := hid' htp
              clear htp
              go_upto_region 17 with fail
              rw [HTT.out]
              have HO1 := hid' (own_base21 (own_one22 w5 (.string ⟨tp.toArray⟩)) HB5.out.size)
              have HB6 := hid' (HB5.out.alloc HB5.out.size (.cells #[.string ⟨tp.toArray⟩] 9))
              have HA6 := hid' (HA5.out.keep (bl_alloc w5 (.cells #[.string ⟨tp.toArray⟩] 9)))
              obtain ⟨tb, htb⟩ : ∃ tb, w5.heap.size = tb := ⟨_, rfl⟩
              rw [htb] at HO1 ⊢
              generalize w5.alloc (.cells #[.string ⟨tp.toArray⟩] 9) = w6 at *
              clear htb x0 x1 x2 x3
              have x0 := HA6.out.cell 0 _ rfl
              have x1 := HA6.out.cell 1 _ rfl
              have x2 := HA6.out.cell 2 _ rfl
              have x3 := HA6.out.cell 3 _ rfl
              go_wp2
              clear x0 x1 x2 x3
              go_loopw [17, 18, 19] (fun s17 s18 s19 wr => ∃ (j a : Nat) (ao : Option Addr) (cap : Nat), s18 = .int .i64 (a : Int) ∧ s17 = .slice ao (j + 1) cap ∧ a < b.size + 16384 ∧ j ≤ 65537 ∧ Hid (a = j * 16384) ∧ Hid (wr.ownsRow w.heap.size 9 1 (.slice ao (j + 1) cap) (j + 1) (sC (tp :: (List.range j).map (Hw.part B)))) ∧ Hid (Below w.heap.size w wr) ∧ Hid (Ar wr xb 24 #[.int .i64 s, fv, .string b, tv])) (fun _ s18 _ _ => b.size + 16384 - (intOf s18).toNat)
              case atStart => exact ⟨0, 0, some ⟨tb, 0, none⟩, 1, rfl, rfl, by omega, by omega, hid' (by rw [Nat.zero_mul]), HO1, HB6, HA6⟩
              case round =>
                obtain ⟨j, a, ao, cap, rfl, rfl, ha, hj, HJ, HO, HB, HA⟩ := hrel
                have x0 := HA.out.cell 0 _ rfl
                have x1 := HA.out.cell 1 _ rfl
                have x2 := HA.out.cell 2 _ rfl
                have x3 := HA.out.cell 3 _ rfl
                by_cases hlt : a < b.size
                · have hlt2 : (a : Int) < (b.size : Int) := by omega
                  have HLT := hid' hlt
                  have HJ1 : Hid (a + 16384 = (j + 1) * 16384) := hid' (by have := HJ.out; omega)
                  have HJP : Hid (j < Hw.pn B.length) := hid' (by rw [Hw.pn_lt]; have h1 := HJ.out; have h2 := HBL.out; omega)
                  have hj6 : j + 1 ≤ 65537 := by have h1 := HJP.out; unfold Hw.pn at h1; have := HBS.out; have h2 := HBL.out; omega
                  have hm : min (wrap64 ((a : Int) + 16384)) (b.size : Int) = ((min (a + 16384) b.size : Nat) : Int) := by
                    have := HBS.out
                    have e : wrap64 ((a : Int) + 16384) = (a : Int) + 16384 := by unfold wrap64; omega
                    rw [e]; omega
                  have hm0 : 0 ≤ min (wrap64 ((a : Int) + 16384)) (b.size : Int) := by rw [hm]; exact Int.natCast_nonneg _
                  have hm1 : min (wrap64 ((a : Int) + 16384)) (b.size : Int) ≤ (b.size : Int) := by rw [hm]; omega
                  have hm2 : (a : Int) ≤ min (wrap64 ((a : Int) + 16384)) (b.size : Int) := by rw [hm]; omega
                  obtain ⟨P, hP⟩ : ∃ P, Hw.part B j = P := ⟨_, rfl⟩
                  have HPE := hid' hP
                  have HPL : Hid (P.length ≤ 16384) := hid' (by rw [← hP]; exact Hw.part_len _ _)
                  have HC : Hid (b.extract a (min (wrap64 ((a : Int) + 16384)) (b.size : Int)).toNat = ⟨P.toArray⟩) := hid' (by
                    rw [hm, Int.toNat_natCast]
                    apply ByteArray.ext
                    apply Array.ext'
                    rw [Lib.extract_data, HBE.out, ← hP]
                    unfold Hw.part
                    rw [← HJ.out]
                    show List.take (min (a + 16384) b.size - a) (List.drop a B) = List.take 16384 (List.drop a B)
                    rcases Nat.le_total (a + 16384) b.size with h | h
                    · rw [Nat.min_eq_left h, Nat.add_sub_cancel_left]
                    · rw [Nat.min_eq_right h, List.take_of_length_le (by rw [List.length_drop, HBL.out]; exact Nat.le_refl _), List.take_of_length_le (by rw [List.length_drop, ← HBL.out]; omega)])
                  clear hm hP
                  go_upto_region 23 with fail
                  rw [HC.out]
                  clear x0 x1 x2 x3 hm0 hm1 hm2
                  have HOW := HO
                  have HBW := HB
                  go_wp2_with (at_builtin; refine wpl_appk21 rfl _ _ 28 rfl w.heap.size 9 i0 (.string ⟨#[]⟩) 1 16 Tryd.underlying28 HI.out HZ0.out HZ1.out HZ2.out rfl (by decide) (.slice ao (j + 1) cap) (j + 1) _ rfl (HOW.out.alloc _) ⟨wr.heap.size, 0, none⟩ 1 1 [.string (⟨P.toArray⟩)] rfl rfl (new_s22 _ _) (fun u hu => by rw [List.mem_singleton.1 hu]; rfl) (by unfold maxLen; omega) (by omega) (by simp; have := HBW.out.size; omega) ?_; intro v3 w9 hown3 _ hgrow3 hblk3; refine Hid.out ?_)
                  refine hid' ?_
                  have HB9 : Hid (Below w.heap.size w w9) := hid' ((HBW.out.alloc HBW.out.size _).grown hgrow3 (by simp; have := HBW.out.size; omega) (fun k hk => (HOW.out.lt k hk).1))
                  obtain ⟨v3o, v3c, hv3⟩ := own_shape hown3
                  subst hv3
                  rw [← HPE.out, show ([Value.string ⟨(Hw.part B j).toArray⟩] : List Value) = sC [Hw.part B j] from rfl, ← Hw.sC_app, List.cons_append, show (List.range j).map (Hw.part B) ++ [Hw.part B j] = (List.range (j + 1)).map (Hw.part B) from (Hw.range_snoc (Hw.part B) j).symm] at hown3
                  have HO9 := hid' hown3
                  have HAL := hid' (HA.out.keep (bl_alloc wr (.cells #[.string (⟨P.toArray⟩)] 9)))
                  have HA9 := hid' (ar_grown HAL.out hgrow3 (own_apart (HOW.out.alloc _) HAL.out (by decide)))
                  clear hown3 hgrow3 hblk3
                  have hlt := HLT.out
                  have hbz := HBS.out
                  go_wp2
                  go_roundw
                  case rel => exact ⟨j + 1, a + 16384, v3o, v3c, by go_num, rfl, by omega, hj6, HJ1, HO9, HB9, HA9⟩
                  case measure => simp [intOf]; omega
                · have HJP : Hid (j = Hw.pn B.length) := hid' (by have h1 := HJ.out; have h2 := HBL.out; unfold Hw.pn; omega)
                  have HRS : Hid (Hw.parts b.data.toList = (List.range j).map (Hw.part B)) := hid' (by
                    rw [HBE.out, HJP.out]; unfold Hw.parts; rfl)
                  have HP : Hid (Hw.pieces ⟨s, fs, b, ts⟩ old false true = (tp :: ((List.range j).map (Hw.part B) ++ []), 0)) := hid' (by
                    rw [← HRS.out]
                    unfold Hw.pieces; simp only [HM1.out, HM2.out, HLO.out]
                    simp [Hw.bare, HBR.out, Hw.opn, HTP.out, Hw.rest, HEQ.out, Hw.lenI])
                  have hlt2 : ¬ (a : Int) < (b.size : Int) := by omega
                  have HLN9 : Hid ((tp :: ((List.range j).map (Hw.part B) ++ [])).length = j + 1) := hid' (by simp)
                  go_wp2
                  go_ret2
                  rw [HP.out]
                  refine ⟨ao, cap, ?_, ?_, HB.out⟩
                  · show _ = Ending.returned (.tuple #[.slice ao (tp :: ((List.range j).map (Hw.part B) ++ [])).length cap, _])
                    rw [HLN9.out]; rfl
                  · show World.ownsRow _ _ _ _ (.slice ao (tp :: ((List.range j).map (Hw.part B) ++ [])).length cap) (tp :: ((List.range j).map (Hw.part B) ++ [])).length _
                    rw [HLN9.out, List.append_nil]; exact HO.out

end Go.Proofs.YtbpdhcfmdkmoiaaDoor
