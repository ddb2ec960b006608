/-
  H1writeLines: no value writes a line of its own: by its contract.
-/
import Derived.Test.YtbpdhcfmdkmoiabDoorHwS
import Derived.Test.YtbpdhcfmdkmoiabDoorDkZ
import Derived.BigQuiet
namespace Go.Proofs.YtbpdhcfmdkmoiabDoor
open Go.RowKit

namespace Hw
theorem pieces_cases (r : Rp) (old head last : Bool) : (∃ c : Int, (c = 220 ∨ c = 142) ∧ pieces r old head last = ([], c)) ∨ ∃ o R, may r.fs = true ∧ may r.ts = true ∧ Ms.lenGo none r.fs = some o ∧ (bare r head = false → o.isSome = true → lenI o = (r.b.size : Int)) ∧ R = (if bare r head then [] else rest r (opn r head o) old) ∧ pieces r old head last = (top r (opn r head o) old last :: R, 0) := by
  unfold pieces
  split
  · exact .inl ⟨220, .inl rfl, rfl⟩
  · rename_i hm
    have h1 : may r.fs = true ∧ may r.ts = true := by
      cases h1 : may r.fs <;> cases h2 : may r.ts <;> simp [h1, h2] at hm ⊢
    split
    · exact .inl ⟨142, .inr rfl, rfl⟩
    · rename_i o ho
      split
      · exact .inl ⟨142, .inr rfl, rfl⟩
      · rename_i hc
        refine .inr ⟨o, _, h1.1, h1.2, ho, fun hb hs => ?_, rfl, rfl⟩
        rw [hb, hs] at hc
        simpa using hc
theorem count_step (l : T8) (i : Nat) (h : i < l.length) : (l.take (i + 1)).count 10 = (l.take i).count 10 + (if l[i] = 10 then 1 else 0) := by
  rw [List.take_add_one, List.getElem?_eq_getElem h, List.count_append]
  congr 1
  simp only [Option.toList_some, List.count_singleton]
  by_cases hc : l[i] = 10
  · rw [if_pos hc, hc]; rfl
  · rw [if_neg hc, if_neg (by simpa using hc)]
theorem count_le (l : T8) (i : Nat) : (l.take i).count 10 ≤ i := Nat.le_trans List.count_le_length (by rw [List.length_take]; omega)
theorem small_len (l : List Fd) : (small l).length = (Ms.strip l).length := List.length_map ..
end Hw

set_option maxHeartbeats 8000000 in
set_option maxRecDepth 20000 in
theorem h1writeLines_any (s : Int) (fv : Value) (b : ByteArray) (tv : Value) (fs ts : List Fd) (old head last : Bool) (w : World) (h1 : FW w fv fs) (h2 : FW w tv ts) (k1 : FO22 fs) (k2 : FO22 ts) (hb : b.size ≤ 1073741824) (hT : TB w) (hZ : TZ w) :
    Calls Tryd.prog 3 #[.agg (rp22 s fv b tv), .agg #[.bool old, .bool head, .bool last]] w fun e w' => e = .returned (.bool true) ∧ Below w.heap.size w w' := by
  have HPC := hid' (fun W (hw : Below w.heap.size w W) => cpieces22 s fv b tv fs ts old head last W (h1.keep hw) (h2.keep hw) k1 k2 hb (hT.keep hw) (hZ.keep hw))
  have HAW := hid' (fun W (hw : Below w.heap.size w W) => awake22 W (hT.keep hw) (hZ.keep hw))
  have HSM := hid' (fun W (hw : Below w.heap.size w W) => csmall22 fv fs W (h1.keep hw) k1.len (fun f hf => (k1.sz f hf).1))
  obtain ⟨k, hk⟩ : ∃ k, (Hw.small fs).length = k := ⟨_, rfl⟩
  have hkb : k ≤ 1048576 := by rw [← hk, Hw.small_len]; exact Nat.le_trans (List.length_filter_le _ _) k1.len
  have hks : (Ms.strip fs).length = k := by rw [← hk, Hw.small_len]
  have hlz := k1.lns
  have HX := hid' (show Ar (w.alloc (.cells #[.int .i64 s, fv, .string b, tv] 24)) w.heap.size 24 #[.int .i64 s, fv, .string b, tv] from heap_alloc_last w _)
  have HB1 := hid' (bl_alloc w (.cells #[.int .i64 s, fv, .string b, tv] 24))
  rw [hk] at HSM
  clear h1 h2 k1 k2 hT hZ
  unfold rp22 at *
  rcases Hw.pieces_cases ⟨s, fs, b, ts⟩ old head last with ⟨c, hc, hp⟩ | ⟨o, R, hm, _, _, _, hR, hp⟩
  · rw [hp] at HPC
    have hc0 : (c != 0) = true := by rcases hc with rfl | rfl <;> rfl
    have hc1 : ¬ c = 0 := by rcases hc with rfl | rfl <;> decide
    clear hp hc hk hks hlz hb
    go_enter Tryd.func3, Tryd.ntmps3
    go_upto_region 1 with fail
    have hsz : (w.alloc (.cells #[.int .i64 s, fv, .string b, tv] 24)).heap.size = w.heap.size + 1 := by simp
    obtain ⟨xb, hxb⟩ : ∃ xb, w.heap.size = xb := ⟨_, rfl⟩
    rw [hxb] at HX hsz ⊢
    generalize w.alloc (.cells #[.int .i64 s, fv, .string b, tv] 24) = w1 at *
    have HY := hid' (show Ar (w1.alloc (.cells #[.bool old, .bool head, .bool last] 26)) w1.heap.size 26 #[.bool old, .bool head, .bool last] from heap_alloc_last w1 _)
    have HX2 := hid' (HX.out.keep (bl_alloc w1 (.cells #[.bool old, .bool head, .bool last] 26)))
    have HB2 := hid' (below_two HB1.out (bl_alloc w1 (.cells #[.bool old, .bool head, .bool last] 26)))
    obtain ⟨yb, hyb⟩ : ∃ yb, xb + 1 = yb := ⟨_, rfl⟩
    rw [hsz, hyb] at HY
    rw [hyb]
    generalize w1.alloc (.cells #[.bool old, .bool head, .bool last] 26) = w2 at *
    clear hxb hyb hsz HX HB1
    have x0 := HX2.out.cell 0 _ rfl
    have x1 := HX2.out.cell 1 _ rfl
    have x2 := HX2.out.cell 2 _ rfl
    have x3 := HX2.out.cell 3 _ rfl
    have y0 := HY.out.cell 0 _ rfl
    have y1 := HY.out.cell 1 _ rfl
    have y2 := HY.out.cell 2 _ rfl
    go_wp2_with (go_at_call 4; refine (HPC.out _ HB2.out).mono ?_; rintro e w3 ⟨po, pc, rfl, hp3, hb3⟩; refine Hid.out ?_)
    refine hid' ?_
    have HB3 := hid' (below_two HB2.out hb3)
    clear hp3 hb3 x0 x1 x2 x3 y0 y1 y2
    go_wp2_with (go_at_call 5; refine (HAW.out _ HB3.out).mono ?_; rintro e w4 ⟨rfl, hb4⟩; refine Hid.out ?_)
    refine hid' ?_
    have HB4 := hid' (below_two HB3.out hb4)
    clear hb4
    go_wp2
    go_ret
    exact ⟨rfl, HB4.out⟩
  · rw [hp] at HPC
    obtain ⟨tp, htp⟩ : ∃ tp, Hw.top ⟨s, fs, b, ts⟩ (Hw.opn ⟨s, fs, b, ts⟩ head o) old last = tp := ⟨_, rfl⟩
    obtain ⟨x, hx⟩ : ∃ x : ByteArray, (⟨tp.toArray⟩ : ByteArray) = x := ⟨_, rfl⟩
    have hxt : x.data.toList = tp := by rw [← hx]
    have hct := Hw.top10 (r := ⟨s, fs, b, ts⟩) hm (Hw.opn ⟨s, fs, b, ts⟩ head o) old last
    obtain ⟨y, hy, hy1⟩ := Hw.top_end ⟨s, fs, b, ts⟩ (Hw.opn ⟨s, fs, b, ts⟩ head o) old last
    rw [htp] at hct hy HPC
    obtain ⟨q, hq⟩ : ∃ q, y.length = q := ⟨_, rfl⟩
    have hxs : x.size = q + 4 := by rw [Lib.size_eq, hxt, hy, List.length_append, hq]; rfl
    have HCT : Hid (k + 2 ≤ tp.count 10 ∧ tp.count 10 ≤ k + 4) := hid' (by rw [← hks]; exact hct)
    have HXC : Hid (x.extract q (q + 4) = ⟨#[13, 10, 13, 10]⟩) := hid' (by
      apply ByteArray.ext
      apply Array.ext'
      rw [Lib.extract_data, hxt, hy, ← hq, List.drop_left, Nat.add_sub_cancel_left]
      rfl)
    have HXB : Hid (x.size ≤ 70368744179000) := hid' (by
      rw [Lib.size_eq, hxt, ← htp]
      unfold Hw.top
      simp only [List.length_append]
      have := Hw.line1_len s
      have := Hw.ends_len (Hw.opn ⟨s, fs, b, ts⟩ head o) old last
      have : Hw.crlf.length = 2 := rfl
      omega)
    have HXT := hid' hxt
    have HXS := hid' hxs
    have HQ1 : Hid (1 ≤ q) := hid' (by omega)
    clear hp hm hR hct hy hy1 hxs hxt hks hlz hb hk htp hq
    go_enter Tryd.func3, Tryd.ntmps3
    go_upto_region 1 with fail
    have hsz : (w.alloc (.cells #[.int .i64 s, fv, .string b, tv] 24)).heap.size = w.heap.size + 1 := by simp
    obtain ⟨xb, hxb⟩ : ∃ xb, w.heap.size = xb := ⟨_, rfl⟩
    rw [hxb] at HX hsz ⊢
    generalize w.alloc (.cells #[.int .i64 s, fv, .string b, tv] 24) = w1 at *
    have HY := hid' (show Ar (w1.alloc (.cells #[.bool old, .bool head, .bool last] 26)) w1.heap.size 26 #[.bool old, .bool head, .bool last] from heap_alloc_last w1 _)
    have HX2 := hid' (HX.out.keep (bl_alloc w1 (.cells #[.bool old, .bool head, .bool last] 26)))
    have HB2 := hid' (below_two HB1.out (bl_alloc w1 (.cells #[.bool old, .bool head, .bool last] 26)))
    obtain ⟨yb, hyb⟩ : ∃ yb, xb + 1 = yb := ⟨_, rfl⟩
    rw [hsz, hyb] at HY
    rw [hyb]
    generalize w1.alloc (.cells #[.bool old, .bool head, .bool last] 26) = w2 at *
    clear hxb hyb hsz HX HB1
    have x0 := HX2.out.cell 0 _ rfl
    have x1 := HX2.out.cell 1 _ rfl
    have x2 := HX2.out.cell 2 _ rfl
    have x3 := HX2.out.cell 3 _ rfl
    have y0 := HY.out.cell 0 _ rfl
    have y1 := HY.out.cell 1 _ rfl
    have y2 := HY.out.cell 2 _ rfl
    go_wp2_with (go_at_call 4; refine (HPC.out _ HB2.out).mono ?_; rintro e w3 ⟨po, pc, rfl, hp3, hb3⟩; refine Hid.out ?_)
    refine hid' ?_
    have HB3 := hid' (below_two HB2.out hb3)
    have HX3 := hid' (HX2.out.keep hb3)
    have HP3 := hid' hp3
    clear hp3 hb3 x0 x1 x2 x3 y0 y1 y2
    obtain ⟨g, rfl⟩ : ∃ g, po = some ⟨g, 0, none⟩ := by
      rcases HP3.out.2 with ⟨_, h2⟩ | ⟨g, cp, cur, h1, _⟩
      · simp at h2
      · injection h1 with h1 _ _; exact ⟨g, h1⟩
    have g0 : w3.cell? ⟨g, 0, none⟩ = some (.string x) := by
      have h1 := HP3.out.cells (g := g) rfl 0 (.string ⟨tp.toArray⟩) rfl
      rw [Addr.add_mid, Nat.zero_add, hx] at h1
      exact h1
    have hl1 : ((tp :: R).length : Int) = (R.length : Int) + 1 := by simp
    clear hx
    have hz0 : ¬ ((R.length : Int) + 1 = 0) := by omega
    go_wp2
    go_loopw [7, 8] (fun s7 s8 wr => ∃ (i c : Nat), s8 = .int .i64 (i : Int) ∧ s7 = .int .i64 (c : Int) ∧ i ≤ x.size ∧ c ≤ i ∧ Hid (c = (tp.take i).count 10) ∧ wr = w3) (fun _ s8 _ => x.size - (intOf s8).toNat)
    case atStart => exact ⟨0, 0, rfl, rfl, Nat.zero_le _, Nat.le_refl _, hid' rfl, rfl⟩
    case round =>
      obtain ⟨i, c, rfl, rfl, hi, hci, HC, hwr⟩ := hrel
      subst hwr
      by_cases hlt : i < x.size
      · have hlt2 : (i : Int) < (x.size : Int) := by omega
        have hib : i ≤ 70368744179000 := by have := HXB.out; omega
        have HLT := hid' hlt
        have HST : Hid ((tp.take (i + 1)).count 10 = c + (if x[i] = 10 then 1 else 0)) := hid' (by
          have hl : i < tp.length := by rw [← HXT.out, ← Lib.size_eq]; exact hlt
          rw [Hw.count_step tp i hl, HC.out]
          have e : tp[i] = x[i] := by simp only [← HXT.out]; rfl
          rw [e])
        by_cases c10 : ((x[i].toNat : Int) == 10) = true
        · have HS1 : Hid (c + 1 = (tp.take (i + 1)).count 10) := hid' (by rw [HST.out, if_pos]; apply UInt8.toNat_inj.1; rw [beq_iff_eq] at c10; show x[i].toNat = 10; omega)
          go_wp2
          go_roundw
          case rel => exact ⟨i + 1, c + 1, by go_num, by go_num, by have := HLT.out; omega, by omega, HS1, by first | rfl | trivial⟩
          case measure => have := HLT.out; simp [intOf]; omega
        · replace c10 : ((x[i].toNat : Int) == 10) = false := by simpa using c10
          have HS1 : Hid (c = (tp.take (i + 1)).count 10) := hid' (by rw [HST.out, if_neg]; · rfl
                                                                      · intro e; rw [e] at c10; simp at c10)
          go_wp2
          go_roundw
          case rel => exact ⟨i + 1, c, by go_num, rfl, by have := HLT.out; omega, by omega, HS1, by first | rfl | trivial⟩
          case measure => have := HLT.out; simp [intOf]; omega
      · obtain rfl : i = x.size := by omega
        have hlt2 : ¬ (x.size : Int) < (x.size : Int) := by omega
        have HCE : Hid (c = tp.count 10) := hid' (by rw [HC.out, List.take_of_length_le (by rw [← HXT.out, ← Lib.size_eq]; exact Nat.le_refl _)])
        have z1 := HX3.out.cell 1 _ rfl
        have hcb : c ≤ k + 4 := by rw [HCE.out]; exact HCT.out.2
        have hca : k + 2 ≤ c := by rw [HCE.out]; exact HCT.out.1
        clear hlt
        go_wp2_with (go_at_call 6; refine (HSM.out _ HB3.out).mono ?_; rintro e w4 ⟨⟨ro, rc, rfl, ho4⟩, hb4⟩; refine Hid.out ?_)
        refine hid' ?_
        have HB4 := hid' (below_two HB3.out hb4)
        have g4 : w4.cell? ⟨g, 0, none⟩ = some (.string x) := (hb4.cell (cell_lt g0)).trans g0
        clear ho4 hb4 z1 g0
        have q0 : ∀ z : BW w4, z.W.cell? ⟨g, 0, none⟩ = some (.string x) := fun z => (z.h.cell (cell_lt g4)).trans g4
        have hne : Nonempty (BW w4) := ⟨⟨w4, Below.refl _ _⟩⟩
        have HAW2 := hid' (fun z : BW w4 => HAW.out z.W (below_two HB4.out z.h))
        have t1 : IntKind.i64.wrap ((k : Int) + 2) ≤ (c : Int) := by rw [wrp _ (by omega) (by omega)]; omega
        have t2 : (c : Int) ≤ IntKind.i64.wrap ((k : Int) + 4) := by rw [wrp _ (by omega) (by omega)]; omega
        have t3 : (4 : Int) < (x.size : Int) := by have h1 := HXS.out; have h2 := HQ1.out; omega
        have hw4 : IntKind.i64.wrap ((x.size : Int) - 4) = (q : Int) := by have h1 := HXS.out; have h2 := HXB.out; rw [wrp _ (by omega) (by omega)]; omega
        have t4 : 0 ≤ IntKind.i64.wrap ((x.size : Int) - 4) := by rw [hw4]; omega
        have t5 : IntKind.i64.wrap ((x.size : Int) - 4) ≤ (x.size : Int) := by rw [hw4]; have h1 := HXS.out; omega
        have t6 : ((x.extract (IntKind.i64.wrap ((x.size : Int) - 4)).toNat x.size).toList == [13, 10, 13, 10]) = true := by
          rw [hw4, Int.toNat_natCast, HXS.out, HXC.out, Lib.toList_data]; rfl
        clear hw4
        go_upto_region 11 with fail
        refine wp_region_below_s (by kernel_rfl) (by kernel_rfl) ?_
        repeat (refine QS.step (fun K hK => ?_); go_simp; first | (refine hK _ ?_; clear hK K) | (apply Exists.intro; refine ⟨fun _ => ?_, hK _ ?_⟩; (first | (go_at_call 5; exact Calls.below_of (HAW2.out _))); clear hK K))
        refine QS.nil ?_
        rintro _ ⟨p5, rfl⟩
        have HB5 := hid' (below_two HB4.out p5.h)
        clear q0 hne HAW2
        go_wp2
        go_ret
        exact ⟨rfl, HB5.out⟩

end Go.Proofs.YtbpdhcfmdkmoiabDoor
