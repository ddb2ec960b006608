/-
  TableBounds answers true.
-/
import Derived.Test.YtjpgnifogacpcaaTabPR
import Derived.Test.YtjpgnifogacpcaaTabPF
namespace Go.Proofs.Ytjpgnifogacpcaa
open Go.RowKit

theorem scr_shape2 {w : World} {v : Value} {cs : List Cl} (h : Scr w v cs) : ∃ ao cap, v = .slice ao cs.length cap := by
  rcases h with ⟨hv, h0⟩ | ⟨a, cap, hv, _⟩
  · exact ⟨none, 0, by rw [hv, h0]; rfl⟩
  · exact ⟨_, _, hv⟩
/-- The code's table, and of what was there in W nothing has changed. -/
structure QC (W w : World) (b : Nat) (v : Value) (M : Nat) (fs : List (List UInt8 × List UInt8)) : Prop where
  tab : CT w W.heap.size b v M fs
  bel : Below W.heap.size W w
theorem QC.keep {W w w' : World} {b : Nat} {v : Value} {M : Nat} {fs : List (List UInt8 × List UInt8)} (h : QC W w b v M fs) (hb : Below w.heap.size w w') : QC W w' b v M fs := ⟨h.tab.keep hb, below_two h.bel hb⟩
theorem QC.of {W w w' : World} {b : Nat} {v v' : Value} {M M' : Nat} {fs fs' : List (List UInt8 × List UInt8)} (h : QC W w b v M fs) (ht : Two b v.ownBlock w w') (hC : CT w' W.heap.size b v' M' fs') : QC W w' b v' M' fs' :=
  ⟨hC, h.bel.trans (ht.below h.tab.ring.ge (fun k hk => (h.tab.ring.row.lt k hk).1) h.bel.size)⟩
theorem QC.ar {W w w' : World} {b x : Nat} {v : Value} {M : Nat} {fs : List (List UInt8 × List UInt8)} {T : TypeId} {cs : Array Value} (h : QC W w b v M fs) (ht : Two b v.ownBlock w w') (ha : Ar w x T cs) (hx : x ≠ b) (hT : T ≠ 32) : Ar w' x T cs :=
  ht.ar ha hx (h.tab.ring.row.ne ha hT)
theorem at_dyn2 (fs : List (List UInt8 × List UInt8)) (j : Nat) : Tb.at? fs (62 + (j : Int)) = fs[j]? := by rw [Int.add_comm]; exact at_dyn fs j

set_option maxHeartbeats 8000000 in
set_option maxRecDepth 20000 in
theorem tableBounds_true (most : Int) (sv : Value) (cs : List Cl) (w : World) (hsc : Scr w sv cs) (hwc : ∀ c ∈ cs, c.what < 256 ∧ (-9223372036854775808 ≤ c.num ∧ c.num ≤ 9223372036854775807)) (hlen : cs.length ≤ 140737488355328) (htx : ∀ c ∈ cs, c.name.length ≤ 140737488355328 ∧ c.val.length ≤ 140737488355328) :
    Calls Try.prog 5 #[.int .i64 most, sv] w fun e w' => e = .returned (.bool true) ∧ Below w.heap.size w w' := by
  have HSC := hid' hsc
  have HWC := hid' hwc
  have HTX := hid' htx
  obtain ⟨ao, cap, rfl⟩ := scr_shape2 hsc
  clear hsc hwc htx
  by_cases hm : most < 0 ∨ 65536 < most
  · have HM := hid' hm
    have hdec : decide (most < 0) = true ∨ (decide (most < 0) = false ∧ decide (65536 < most) = true) := by
      by_cases h0 : most < 0
      · exact .inl (decide_eq_true h0)
      · exact .inr ⟨decide_eq_false h0, decide_eq_true (by omega)⟩
    clear hm
    go_enter Try.func5, Try.ntmps5
    go_wp2_with fail
    refine (cnew_no most HM.out _).mono ?_
    rintro e w1 ⟨rfl, rfl⟩
    go_wp2_with fail
    refine (awake_any _).mono ?_
    rintro e w3 ⟨rfl, hb3⟩
    rcases hdec with hd | ⟨hd, hd2⟩
    · go_wp2
      go_ret
      exact ⟨rfl, hb3⟩
    · go_wp2
      go_ret
      exact ⟨rfl, hb3⟩
  · obtain ⟨M0, hM0, hM1⟩ : ∃ M0 : Nat, most = (M0 : Int) ∧ M0 ≤ 65536 := ⟨most.toNat, by omega, by omega⟩
    subst hM0
    clear hm
    have HM1 := hid' hM1
    go_enter Try.func5, Try.ntmps5
    go_wp2_with fail
    refine (cnew_yes M0 hM1 w.heap.size _ (Nat.le_refl _)).mono ?_
    rintro e w1 ⟨rfl, hC1, hb1⟩
    obtain ⟨b, hb⟩ : ∃ b, w.heap.size = b := ⟨_, rfl⟩
    have HP0 : Hid (QC w w1 b (.slice none 0 0) M0 []) := hid' ⟨by rw [hb] at hC1 ⊢; exact hC1, hb1⟩
    rw [hb]
    clear hC1 hb1
    go_wp2
    go_loopw [7] (fun s7 wr => ∃ i : Nat, s7 = .int .i64 (i : Int) ∧ i ≤ cs.length ∧ Hid (∃ v M fs, QC w wr b v M fs ∧ M ≤ 65536 ∧ Tb.size fs ≤ M)) (fun s7 _ => cs.length - (intOf s7).toNat)
    case atStart => exact ⟨0, rfl, Nat.zero_le _, hid' ⟨_, M0, [], HP0.out, HM1.out, by simp [Tb.size]⟩⟩
    case round =>
      clear HP0
      obtain ⟨i, rfl, hil, HI⟩ := hrel
      obtain ⟨v, M, fs, hP, hM, hS⟩ := HI.out
      have HP := hid' hP
      clear hP HI
      by_cases hlt : i < cs.length
      · have hlt2 : decide ((i : Int) < (cs.length : Int)) = true := decide_eq_true (by omega)
        obtain ⟨cl, hcl⟩ : ∃ cl, cs[i]? = some cl := ⟨_, List.getElem?_eq_getElem hlt⟩
        have hmem : cl ∈ cs := List.mem_of_getElem? hcl
        obtain ⟨hw256, hn0, hn1⟩ := HWC.out cl hmem
        obtain ⟨ht0, ht1⟩ := HTX.out cl hmem
        obtain ⟨a, rfl⟩ : ∃ a, ao = some a := by
          rcases HSC.out with ⟨hv, h0⟩ | ⟨a, _, hv, _⟩
          · subst h0; simp at hlt
          · exact ⟨a, by simp at hv; exact hv.1⟩
        have hcell : (a.add (i * 4)).block < w.heap.size ∧ w.cell? (a.add (i * 4)) = some (.int .u8 (cl.what : Int)) ∧ w.cell? ⟨(a.add (i * 4)).block, (a.add (i * 4)).off + 1, none⟩ = some (.int .i64 cl.num) ∧ w.cell? ⟨(a.add (i * 4)).block, (a.add (i * 4)).off + 2, none⟩ = some (.string ⟨cl.name.toArray⟩) ∧ w.cell? ⟨(a.add (i * 4)).block, (a.add (i * 4)).off + 3, none⟩ = some (.string ⟨cl.val.toArray⟩) := by
          rcases HSC.out with ⟨hv, _⟩ | ⟨a', cap', hv, hh⟩
          · cases hv
          · simp at hv
            obtain ⟨rfl, _⟩ := hv
            exact hh i cl hcl
        obtain ⟨kb, k0, k1, k2, k3⟩ := hcell
        have HBW := hid' HP.out.bel
        have c0 := (HBW.out.cell (p := a.add (i * 4)) kb).trans k0
        have c1 := (HBW.out.cell (p := ⟨(a.add (i * 4)).block, (a.add (i * 4)).off + 1, none⟩) kb).trans k1
        have c2 := (HBW.out.cell (p := ⟨(a.add (i * 4)).block, (a.add (i * 4)).off + 2, none⟩) kb).trans k2
        have c3 := (HBW.out.cell (p := ⟨(a.add (i * 4)).block, (a.add (i * 4)).off + 3, none⟩) kb).trans k3
        obtain ⟨what, num, name, val⟩ := cl
        simp only at c0 c1 c2 c3 hw256 hn0 hn1 ht0 ht1
        clear k0 k1 k2 k3 hcl hmem
        have hb0 : Below wr.heap.size wr (wr.alloc (.cells #[.int .u8 (what : Int), .int .i64 num, .string ⟨name.toArray⟩, .string ⟨val.toArray⟩] 34)) := (Below.refl _ _).alloc (Nat.le_refl _) _
        have HX0 : Hid (Ar (wr.alloc (.cells #[.int .u8 (what : Int), .int .i64 num, .string ⟨name.toArray⟩, .string ⟨val.toArray⟩] 34)) wr.heap.size 34 #[.int .u8 (what : Int), .int .i64 num, .string ⟨name.toArray⟩, .string ⟨val.toArray⟩]) := hid' (heap_alloc_last wr _)
        have HP0 := hid' (HP.out.keep hb0)
        have hxb0 : wr.heap.size ≠ b := by have := HP.out.tab.ring.obj.lt; omega
        have hSb : Tb.size fs ≤ 1048576 := by omega
        have HSB := hid' hSb
        have HSM := hid' hS
        have HMB := hid' hM
        have hkb : Tb.wt (name, val) ≤ 562949953421312 := by unfold Tb.wt; simp only; omega
        have HKB := hid' hkb
        have HNUM := hid' (And.intro hn0 hn1)
        clear hb0 HP hSb hS hkb
        go_wp2_with fail
        all_goals
          clear c0 c1 c2 c3
          obtain ⟨xb, hxb⟩ : ∃ xb, wr.heap.size = xb := ⟨_, rfl⟩
          rw [hxb] at HX0 hxb0 ⊢
          generalize wr.alloc (.cells #[.int .u8 (what : Int), .int .i64 num, .string ⟨name.toArray⟩, .string ⟨val.toArray⟩] 34) = w0 at *
        · -- Add
          have x2 : w0.cell? ⟨xb, 2, none⟩ = some (.string ⟨name.toArray⟩) := HX0.out.cell 2 _ rfl
          have x3 : w0.cell? ⟨xb, 3, none⟩ = some (.string ⟨val.toArray⟩) := HX0.out.cell 3 _ rfl
          refine (cadd_any w.heap.size b v M fs name val _ HP0.out.tab hM HSB.out HP0.out.bel.size ht0 ht1).mono ?_
          rintro e w2 ⟨rfl, v2, hC1, _, hT1⟩
          have HSZ : Hid (Tb.size (Tb.add M fs (name, val)) ≤ M) := hid' (Tb.add_size _ _ _)
          have HMM := HMB
          have HQ := hid' (HP0.out.of hT1 hC1)
          have HX2 := hid' (HP0.out.ar hT1 HX0.out hxb0 (by decide))
          generalize Tb.add M fs (name, val) = gs at *
          obtain ⟨ME, hME⟩ : ∃ ME : Nat, M = ME := ⟨_, rfl⟩
          rw [hME] at HQ HSZ HMM
          clear hC1 hT1 x2 x3 hME
          have hZb : Tb.size gs ≤ 65536 := Nat.le_trans HSZ.out HMM.out
          have HZB : Hid (Tb.size gs ≤ 1048576) := hid' (Nat.le_trans hZb (by decide))
          have hLb : gs.length ≤ 65536 := by have := Tb.size_len gs; omega
          obtain ⟨LE, hLE⟩ : ∃ LE, gs.length = LE := ⟨_, rfl⟩
          rw [hLE] at hLb
          have HLE := hid' hLE
          have HZ65 := hid' hZb
          clear hLE hZb HP0 HX0 HSM HSB HMB
          go_wp2
          go_loopw [9, 10] (fun s9 s10 wq => ∃ n k : Nat, s9 = .int .i64 (n : Int) ∧ s10 = .int .i64 (k : Int) ∧ k ≤ LE ∧ n ≤ 65536 ∧ Hid (n = Tb.size (gs.take k)) ∧ Hid (Below w2.heap.size w2 wq)) (fun _ s10 _ => LE - (intOf s10).toNat)
          case atStart => exact ⟨0, 0, rfl, rfl, Nat.zero_le _, Nat.zero_le _, hid' (by simp [Tb.size]), hid' (Below.refl _ _)⟩
          case round =>
            obtain ⟨n, k, rfl, rfl, hk, hn65, HN, HBQ⟩ := hrel
            have HQ3 := hid' (HQ.out.keep HBQ.out)
            by_cases hkl : k < LE
            · have hkl2 : decide ((k : Int) < (LE : Int)) = true := decide_eq_true (by omega)
              have hkl3 : decide (k < LE) = true := decide_eq_true hkl
              obtain ⟨f, hf⟩ : ∃ f, gs[k]? = some f := ⟨_, List.getElem?_eq_getElem (by rw [HLE.out]; exact hkl)⟩
              obtain ⟨fn, fv⟩ := f
              have HAT : Hid (Tb.at? gs (62 + (k : Int)) = some (fn, fv)) := hid' (by rw [at_dyn2]; exact hf)
              obtain ⟨m, hm⟩ : ∃ m, Tb.wt (fn, fv) = m := ⟨_, rfl⟩
              have hst := Tb.size_take gs k (fn, fv) hf
              have hsl := Tb.size_take_le gs (k + 1)
              rw [hm, ← HN.out] at hst
              have hnm : n + m ≤ 65536 := by have := HZ65.out; omega
              have HM2 := hid' hm
              have HST := hid' hst
              clear hf hm hst hsl
              go_wp2_with fail
              refine (clen_at _ b _ _ gs LE HLE.out _ HQ3.out.tab).mono ?_
              rintro e w3 ⟨rfl, rfl⟩
              go_wp2_with fail
              refine (cat_some _ b _ _ gs _ (fn, fv) _ HQ3.out.tab HZB.out HAT.out).mono ?_
              rintro e w4 ⟨rfl, hb4⟩
              have hb5 : Below w4.heap.size w4 (w4.alloc (.cells #[.string ⟨fn.toArray⟩, .string ⟨fv.toArray⟩] 32)) := (Below.refl _ _).alloc (Nat.le_refl _) _
              have HB5 := hid' (below_two (below_two HBQ.out hb4) hb5)
              clear hb4 hb5
              go_wp2_with fail
              refine (cweight_at fn fv m HM2.out (by omega) _).mono ?_
              rintro e w6 ⟨rfl, hb6⟩
              have HB6 := hid' (below_two HB5.out hb6)
              clear hb6
              go_wp2
              go_roundw
              case rel => exact ⟨n + m, k + 1, by go_num, by go_num, by omega, hnm, hid' HST.out.symm, HB6⟩
              case measure => simp [intOf]; omega
            · have hkl2 : decide ((k : Int) < (LE : Int)) = false := decide_eq_false (by omega)
              have hkl3 : decide (k < LE) = false := decide_eq_false hkl
              have HNZ : Hid (n = Tb.size gs) := hid' (by rw [HN.out, List.take_of_length_le (by rw [HLE.out]; omega)])
              have HAT : Hid (Tb.at? gs (62 + (LE : Int)) = none) := hid' (by rw [at_dyn2]; exact List.getElem?_eq_none (by rw [HLE.out]; exact Nat.le_refl _))
              have hnM : n ≤ ME := by have := HSZ.out; have := HNZ.out; omega
              have hMn : decide ((ME : Int) < (n : Int)) = false := decide_eq_false (by omega)
              have hMn2 : decide (ME < n) = false := decide_eq_false (by omega)
              have hM6 : decide ((65536 : Int) < (ME : Int)) = false := decide_eq_false (by have := HMM.out; omega)
              have hM62 : decide (65536 < ME) = false := decide_eq_false (by have := HMM.out; omega)
              go_wp2_with fail
              refine (clen_at _ b _ _ gs LE HLE.out _ HQ3.out.tab).mono ?_
              rintro e w3 ⟨rfl, rfl⟩
              go_wp2_with fail
              refine (clen_at _ b _ _ gs LE HLE.out _ HQ3.out.tab).mono ?_
              rintro e w3 ⟨rfl, rfl⟩
              go_wp2_with fail
              refine (cat_none _ b _ _ gs _ _ HQ3.out.tab HZB.out HAT.out (by omega) (by omega)).mono ?_
              rintro e w4 ⟨rfl, hb4⟩
              have hb5 : Below w4.heap.size w4 (w4.alloc (.cells #[.string ⟨#[]⟩, .string ⟨#[]⟩] 32)) := (Below.refl _ _).alloc (Nat.le_refl _) _
              have HB5 := hid' (below_two (below_two HBQ.out hb4) hb5)
              have HQ4 := hid' (HQ.out.keep HB5.out)
              have HX4 := hid' (HX2.out.keep HB5.out)
              clear hb4 hb5 HQ3
              go_wp2_with fail
              generalize w4.alloc (.cells #[.string ⟨#[]⟩, .string ⟨#[]⟩] 32) = w5 at *
              refine (csize_at _ b _ _ gs n HNZ.out.symm _ HQ4.out.tab).mono ?_
              rintro e w3 ⟨rfl, rfl⟩
              go_wp2_with fail
              refine (cmost_any _ b _ _ gs _ HQ4.out.tab).mono ?_
              rintro e w3 ⟨rfl, rfl⟩
              go_wp2_with fail
              refine (cmost_any _ b _ _ gs _ HQ4.out.tab).mono ?_
              rintro e w3 ⟨rfl, rfl⟩
              obtain ⟨⟨fk, fw⟩, hfind⟩ : ∃ r, Tb.find gs (name, val) = r := ⟨_, rfl⟩
              have HFN := hid' hfind
              clear hfind
              have x2 := HX4.out.cell 2 _ rfl
              have x3 := HX4.out.cell 3 _ rfl
              go_wp2_with fail
              refine (cfind_any _ b _ _ gs name val _ HQ4.out.tab HZB.out fk fw HFN.out).mono ?_
              rintro e w7 ⟨rfl, hb7⟩
              have HQ7 := hid' (HQ4.out.keep hb7)
              have HX7 := hid' (HX4.out.keep hb7)
              clear hb7 x2 x3 HQ4 HX4 hMn hMn2 hM6 hM62 HB5 HBQ
              have hng := noGuard
              cases fw with
              | true =>
                obtain ⟨hfk, hfat⟩ := Tb.find_whole gs (name, val) fk HFN.out
                have HFAT := hid' hfat
                have hk0 : ((fk : Int) == 0) = false := beq_false_of_ne (by omega)
                have hk1 : (fk == 0) = false := beq_false_of_ne (by omega)
                have heq := neq_field_no name val
                clear hfat
                go_wp2_with fail
                refine (cat_some _ b _ _ gs _ (name, val) _ HQ7.out.tab HZB.out HFAT.out).mono ?_
                rintro e w8 ⟨rfl, hb8⟩
                have hb9 : Below w8.heap.size w8 (w8.alloc (.cells #[.string ⟨name.toArray⟩, .string ⟨val.toArray⟩] 32)) := (Below.refl _ _).alloc (Nat.le_refl _) _
                have HQ5 := hid' (HQ7.out.keep (below_two hb8 hb9))
                have HX5 := hid' (HX7.out.keep (below_two hb8 hb9))
                have x2 := HX5.out.cell 2 _ rfl
                have x3 := HX5.out.cell 3 _ rfl
                clear hb8 hb9
                go_wp2
                go_roundw
                case rel => exact ⟨i + 1, by go_num, by omega, hid' ⟨_, _, _, HQ5.out, HMM.out, HSZ.out⟩⟩
                case measure => simp [intOf]; omega
              | false =>
                rcases Tb.find_named gs (name, val) fk HFN.out with hfk | ⟨hfk, v2, hfat, hne⟩
                · subst hfk
                  have HFAT : Hid (Tb.at? gs 0 = none) := hid' (Tb.at_none gs 0 (.inl (by omega)))
                  go_wp2_with fail
                  refine (cat_none _ b _ _ gs _ _ HQ7.out.tab HZB.out HFAT.out (by omega) (by omega)).mono ?_
                  rintro e w8 ⟨rfl, hb8⟩
                  have hb9 : Below w8.heap.size w8 (w8.alloc (.cells #[.string ⟨#[]⟩, .string ⟨#[]⟩] 32)) := (Below.refl _ _).alloc (Nat.le_refl _) _
                  have HQ5 := hid' (HQ7.out.keep (below_two hb8 hb9))
                  clear hb8 hb9
                  go_wp2
                  go_roundw
                  case rel => exact ⟨i + 1, by go_num, by omega, hid' ⟨_, _, _, HQ5.out, HMM.out, HSZ.out⟩⟩
                  case measure => simp [intOf]; omega
                · have HFAT := hid' hfat
                  have hk0 : ((fk : Int) == 0) = false := beq_false_of_ne (by omega)
                  have hk1 : (fk == 0) = false := beq_false_of_ne (by omega)
                  have hk2 : decide ((0 : Int) < (fk : Int)) = true := decide_eq_true (by omega)
                  have hk3 : decide (0 < fk) = true := decide_eq_true hfk
                  have heq := eq_field_no name v2 name val hne
                  clear hfat hne
                  go_wp2_with fail
                  refine (cat_some _ b _ _ gs _ (name, v2) _ HQ7.out.tab HZB.out HFAT.out).mono ?_
                  rintro e w8 ⟨rfl, hb8⟩
                  have hb9 : Below w8.heap.size w8 (w8.alloc (.cells #[.string ⟨name.toArray⟩, .string ⟨v2.toArray⟩] 32)) := (Below.refl _ _).alloc (Nat.le_refl _) _
                  have HQ5 := hid' (HQ7.out.keep (below_two hb8 hb9))
                  have HX5 := hid' (HX7.out.keep (below_two hb8 hb9))
                  have x2 := HX5.out.cell 2 _ rfl
                  have x3 := HX5.out.cell 3 _ rfl
                  clear hb8 hb9
                  go_wp2
                  go_roundw
                  case rel => exact ⟨i + 1, by go_num, by omega, hid' ⟨_, _, _, HQ5.out, HMM.out, HSZ.out⟩⟩
                  case measure => simp [intOf]; omega
        · -- Resize
          have x1 : w0.cell? ⟨xb, 1, none⟩ = some (.int .i64 num) := HX0.out.cell 1 _ rfl
          by_cases hr : num < 0 ∨ 65536 < num
          · refine (cresize_no _ b _ M fs num _ HP0.out.tab hr).mono ?_
            rintro e w2 ⟨rfl, rfl⟩
            have HQ := HP0
            have HX2 := HX0
            have HSZ := HSM
            have HMM := HMB
            obtain ⟨gs, hgs⟩ : ∃ gs, fs = gs := ⟨_, rfl⟩
            obtain ⟨ME, hME⟩ : ∃ ME : Nat, M = ME := ⟨_, rfl⟩
            rw [hgs, hME] at HQ HSZ
            rw [hME] at HMM
            clear hr x1 hgs hME
            have hZb : Tb.size gs ≤ 65536 := Nat.le_trans HSZ.out HMM.out
            have HZB : Hid (Tb.size gs ≤ 1048576) := hid' (Nat.le_trans hZb (by decide))
            have hLb : gs.length ≤ 65536 := by have := Tb.size_len gs; omega
            obtain ⟨LE, hLE⟩ : ∃ LE, gs.length = LE := ⟨_, rfl⟩
            rw [hLE] at hLb
            have HLE := hid' hLE
            have HZ65 := hid' hZb
            clear hLE hZb HP0 HX0 HSM HSB HMB
            go_wp2
            go_loopw [9, 10] (fun s9 s10 wq => ∃ n k : Nat, s9 = .int .i64 (n : Int) ∧ s10 = .int .i64 (k : Int) ∧ k ≤ LE ∧ n ≤ 65536 ∧ Hid (n = Tb.size (gs.take k)) ∧ Hid (Below w2.heap.size w2 wq)) (fun _ s10 _ => LE - (intOf s10).toNat)
            case atStart => exact ⟨0, 0, rfl, rfl, Nat.zero_le _, Nat.zero_le _, hid' (by simp [Tb.size]), hid' (Below.refl _ _)⟩
            case round =>
              obtain ⟨n, k, rfl, rfl, hk, hn65, HN, HBQ⟩ := hrel
              have HQ3 := hid' (HQ.out.keep HBQ.out)
              by_cases hkl : k < LE
              · have hkl2 : decide ((k : Int) < (LE : Int)) = true := decide_eq_true (by omega)
                have hkl3 : decide (k < LE) = true := decide_eq_true hkl
                obtain ⟨f, hf⟩ : ∃ f, gs[k]? = some f := ⟨_, List.getElem?_eq_getElem (by rw [HLE.out]; exact hkl)⟩
                obtain ⟨fn, fv⟩ := f
                have HAT : Hid (Tb.at? gs (62 + (k : Int)) = some (fn, fv)) := hid' (by rw [at_dyn2]; exact hf)
                obtain ⟨m, hm⟩ : ∃ m, Tb.wt (fn, fv) = m := ⟨_, rfl⟩
                have hst := Tb.size_take gs k (fn, fv) hf
                have hsl := Tb.size_take_le gs (k + 1)
                rw [hm, ← HN.out] at hst
                have hnm : n + m ≤ 65536 := by have := HZ65.out; omega
                have HM2 := hid' hm
                have HST := hid' hst
                clear hf hm hst hsl
                go_wp2_with fail
                refine (clen_at _ b _ _ gs LE HLE.out _ HQ3.out.tab).mono ?_
                rintro e w3 ⟨rfl, rfl⟩
                go_wp2_with fail
                refine (cat_some _ b _ _ gs _ (fn, fv) _ HQ3.out.tab HZB.out HAT.out).mono ?_
                rintro e w4 ⟨rfl, hb4⟩
                have hb5 : Below w4.heap.size w4 (w4.alloc (.cells #[.string ⟨fn.toArray⟩, .string ⟨fv.toArray⟩] 32)) := (Below.refl _ _).alloc (Nat.le_refl _) _
                have HB5 := hid' (below_two (below_two HBQ.out hb4) hb5)
                clear hb4 hb5
                go_wp2_with fail
                refine (cweight_at fn fv m HM2.out (by omega) _).mono ?_
                rintro e w6 ⟨rfl, hb6⟩
                have HB6 := hid' (below_two HB5.out hb6)
                clear hb6
                go_wp2
                go_roundw
                case rel => exact ⟨n + m, k + 1, by go_num, by go_num, by omega, hnm, hid' HST.out.symm, HB6⟩
                case measure => simp [intOf]; omega
              · have hkl2 : decide ((k : Int) < (LE : Int)) = false := decide_eq_false (by omega)
                have hkl3 : decide (k < LE) = false := decide_eq_false hkl
                have HNZ : Hid (n = Tb.size gs) := hid' (by rw [HN.out, List.take_of_length_le (by rw [HLE.out]; omega)])
                have HAT : Hid (Tb.at? gs (62 + (LE : Int)) = none) := hid' (by rw [at_dyn2]; exact List.getElem?_eq_none (by rw [HLE.out]; exact Nat.le_refl _))
                have hnM : n ≤ ME := by have := HSZ.out; have := HNZ.out; omega
                have hMn : decide ((ME : Int) < (n : Int)) = false := decide_eq_false (by omega)
                have hMn2 : decide (ME < n) = false := decide_eq_false (by omega)
                have hM6 : decide ((65536 : Int) < (ME : Int)) = false := decide_eq_false (by have := HMM.out; omega)
                have hM62 : decide (65536 < ME) = false := decide_eq_false (by have := HMM.out; omega)
                go_wp2_with fail
                refine (clen_at _ b _ _ gs LE HLE.out _ HQ3.out.tab).mono ?_
                rintro e w3 ⟨rfl, rfl⟩
                go_wp2_with fail
                refine (clen_at _ b _ _ gs LE HLE.out _ HQ3.out.tab).mono ?_
                rintro e w3 ⟨rfl, rfl⟩
                go_wp2_with fail
                refine (cat_none _ b _ _ gs _ _ HQ3.out.tab HZB.out HAT.out (by omega) (by omega)).mono ?_
                rintro e w4 ⟨rfl, hb4⟩
                have hb5 : Below w4.heap.size w4 (w4.alloc (.cells #[.string ⟨#[]⟩, .string ⟨#[]⟩] 32)) := (Below.refl _ _).alloc (Nat.le_refl _) _
                have HB5 := hid' (below_two (below_two HBQ.out hb4) hb5)
                have HQ4 := hid' (HQ.out.keep HB5.out)
                have HX4 := hid' (HX2.out.keep HB5.out)
                clear hb4 hb5 HQ3
                go_wp2_with fail
                generalize w4.alloc (.cells #[.string ⟨#[]⟩, .string ⟨#[]⟩] 32) = w5 at *
                refine (csize_at _ b _ _ gs n HNZ.out.symm _ HQ4.out.tab).mono ?_
                rintro e w3 ⟨rfl, rfl⟩
                go_wp2_with fail
                refine (cmost_any _ b _ _ gs _ HQ4.out.tab).mono ?_
                rintro e w3 ⟨rfl, rfl⟩
                go_wp2_with fail
                refine (cmost_any _ b _ _ gs _ HQ4.out.tab).mono ?_
                rintro e w3 ⟨rfl, rfl⟩
                obtain ⟨⟨fk, fw⟩, hfind⟩ : ∃ r, Tb.find gs (name, val) = r := ⟨_, rfl⟩
                have HFN := hid' hfind
                clear hfind
                have x2 := HX4.out.cell 2 _ rfl
                have x3 := HX4.out.cell 3 _ rfl
                go_wp2_with fail
                refine (cfind_any _ b _ _ gs name val _ HQ4.out.tab HZB.out fk fw HFN.out).mono ?_
                rintro e w7 ⟨rfl, hb7⟩
                have HQ7 := hid' (HQ4.out.keep hb7)
                have HX7 := hid' (HX4.out.keep hb7)
                clear hb7 x2 x3 HQ4 HX4 hMn hMn2 hM6 hM62 HB5 HBQ
                have hng := noGuard
                cases fw with
                | true =>
                  obtain ⟨hfk, hfat⟩ := Tb.find_whole gs (name, val) fk HFN.out
                  have HFAT := hid' hfat
                  have hk0 : ((fk : Int) == 0) = false := beq_false_of_ne (by omega)
                  have hk1 : (fk == 0) = false := beq_false_of_ne (by omega)
                  have heq := neq_field_no name val
                  clear hfat
                  go_wp2_with fail
                  refine (cat_some _ b _ _ gs _ (name, val) _ HQ7.out.tab HZB.out HFAT.out).mono ?_
                  rintro e w8 ⟨rfl, hb8⟩
                  have hb9 : Below w8.heap.size w8 (w8.alloc (.cells #[.string ⟨name.toArray⟩, .string ⟨val.toArray⟩] 32)) := (Below.refl _ _).alloc (Nat.le_refl _) _
                  have HQ5 := hid' (HQ7.out.keep (below_two hb8 hb9))
                  have HX5 := hid' (HX7.out.keep (below_two hb8 hb9))
                  have x2 := HX5.out.cell 2 _ rfl
                  have x3 := HX5.out.cell 3 _ rfl
                  clear hb8 hb9
                  go_wp2
                  go_roundw
                  case rel => exact ⟨i + 1, by go_num, by omega, hid' ⟨_, _, _, HQ5.out, HMM.out, HSZ.out⟩⟩
                  case measure => simp [intOf]; omega
                | false =>
                  rcases Tb.find_named gs (name, val) fk HFN.out with hfk | ⟨hfk, v2, hfat, hne⟩
                  · subst hfk
                    have HFAT : Hid (Tb.at? gs 0 = none) := hid' (Tb.at_none gs 0 (.inl (by omega)))
                    go_wp2_with fail
                    refine (cat_none _ b _ _ gs _ _ HQ7.out.tab HZB.out HFAT.out (by omega) (by omega)).mono ?_
                    rintro e w8 ⟨rfl, hb8⟩
                    have hb9 : Below w8.heap.size w8 (w8.alloc (.cells #[.string ⟨#[]⟩, .string ⟨#[]⟩] 32)) := (Below.refl _ _).alloc (Nat.le_refl _) _
                    have HQ5 := hid' (HQ7.out.keep (below_two hb8 hb9))
                    clear hb8 hb9
                    go_wp2
                    go_roundw
                    case rel => exact ⟨i + 1, by go_num, by omega, hid' ⟨_, _, _, HQ5.out, HMM.out, HSZ.out⟩⟩
                    case measure => simp [intOf]; omega
                  · have HFAT := hid' hfat
                    have hk0 : ((fk : Int) == 0) = false := beq_false_of_ne (by omega)
                    have hk1 : (fk == 0) = false := beq_false_of_ne (by omega)
                    have hk2 : decide ((0 : Int) < (fk : Int)) = true := decide_eq_true (by omega)
                    have hk3 : decide (0 < fk) = true := decide_eq_true hfk
                    have heq := eq_field_no name v2 name val hne
                    clear hfat hne
                    go_wp2_with fail
                    refine (cat_some _ b _ _ gs _ (name, v2) _ HQ7.out.tab HZB.out HFAT.out).mono ?_
                    rintro e w8 ⟨rfl, hb8⟩
                    have hb9 : Below w8.heap.size w8 (w8.alloc (.cells #[.string ⟨name.toArray⟩, .string ⟨v2.toArray⟩] 32)) := (Below.refl _ _).alloc (Nat.le_refl _) _
                    have HQ5 := hid' (HQ7.out.keep (below_two hb8 hb9))
                    have HX5 := hid' (HX7.out.keep (below_two hb8 hb9))
                    have x2 := HX5.out.cell 2 _ rfl
                    have x3 := HX5.out.cell 3 _ rfl
                    clear hb8 hb9
                    go_wp2
                    go_roundw
                    case rel => exact ⟨i + 1, by go_num, by omega, hid' ⟨_, _, _, HQ5.out, HMM.out, HSZ.out⟩⟩
                    case measure => simp [intOf]; omega
          · obtain ⟨N, hN0, hN1⟩ : ∃ N : Nat, num = (N : Int) ∧ N ≤ 65536 := ⟨num.toNat, by omega, by omega⟩
            subst hN0
            refine (cresize_yes _ b _ M fs N _ HP0.out.tab hN1 HSB.out).mono ?_
            rintro e w2 ⟨rfl, v2, hC1, _, hT1⟩
            have HSZ : Hid (Tb.size (Tb.shr N fs) ≤ N) := hid' (Tb.shr_size _ _)
            have HMM := hid' hN1
            have HQ := hid' (HP0.out.of hT1 hC1)
            have HX2 := hid' (HP0.out.ar hT1 HX0.out hxb0 (by decide))
            generalize Tb.shr N fs = gs at *
            obtain ⟨ME, hME⟩ : ∃ ME : Nat, N = ME := ⟨_, rfl⟩
            rw [hME] at HQ HSZ HMM
            clear hC1 hT1 x1 hME hr
            have hZb : Tb.size gs ≤ 65536 := Nat.le_trans HSZ.out HMM.out
            have HZB : Hid (Tb.size gs ≤ 1048576) := hid' (Nat.le_trans hZb (by decide))
            have hLb : gs.length ≤ 65536 := by have := Tb.size_len gs; omega
            obtain ⟨LE, hLE⟩ : ∃ LE, gs.length = LE := ⟨_, rfl⟩
            rw [hLE] at hLb
            have HLE := hid' hLE
            have HZ65 := hid' hZb
            clear hLE hZb HP0 HX0 HSM HSB HMB
            go_wp2
            go_loopw [9, 10] (fun s9 s10 wq => ∃ n k : Nat, s9 = .int .i64 (n : Int) ∧ s10 = .int .i64 (k : Int) ∧ k ≤ LE ∧ n ≤ 65536 ∧ Hid (n = Tb.size (gs.take k)) ∧ Hid (Below w2.heap.size w2 wq)) (fun _ s10 _ => LE - (intOf s10).toNat)
            case atStart => exact ⟨0, 0, rfl, rfl, Nat.zero_le _, Nat.zero_le _, hid' (by simp [Tb.size]), hid' (Below.refl _ _)⟩
            case round =>
              obtain ⟨n, k, rfl, rfl, hk, hn65, HN, HBQ⟩ := hrel
              have HQ3 := hid' (HQ.out.keep HBQ.out)
              by_cases hkl : k < LE
              · have hkl2 : decide ((k : Int) < (LE : Int)) = true := decide_eq_true (by omega)
                have hkl3 : decide (k < LE) = true := decide_eq_true hkl
                obtain ⟨f, hf⟩ : ∃ f, gs[k]? = some f := ⟨_, List.getElem?_eq_getElem (by rw [HLE.out]; exact hkl)⟩
                obtain ⟨fn, fv⟩ := f
                have HAT : Hid (Tb.at? gs (62 + (k : Int)) = some (fn, fv)) := hid' (by rw [at_dyn2]; exact hf)
                obtain ⟨m, hm⟩ : ∃ m, Tb.wt (fn, fv) = m := ⟨_, rfl⟩
                have hst := Tb.size_take gs k (fn, fv) hf
                have hsl := Tb.size_take_le gs (k + 1)
                rw [hm, ← HN.out] at hst
                have hnm : n + m ≤ 65536 := by have := HZ65.out; omega
                have HM2 := hid' hm
                have HST := hid' hst
                clear hf hm hst hsl
                go_wp2_with fail
                refine (clen_at _ b _ _ gs LE HLE.out _ HQ3.out.tab).mono ?_
                rintro e w3 ⟨rfl, rfl⟩
                go_wp2_with fail
                refine (cat_some _ b _ _ gs _ (fn, fv) _ HQ3.out.tab HZB.out HAT.out).mono ?_
                rintro e w4 ⟨rfl, hb4⟩
                have hb5 : Below w4.heap.size w4 (w4.alloc (.cells #[.string ⟨fn.toArray⟩, .string ⟨fv.toArray⟩] 32)) := (Below.refl _ _).alloc (Nat.le_refl _) _
                have HB5 := hid' (below_two (below_two HBQ.out hb4) hb5)
                clear hb4 hb5
                go_wp2_with fail
                refine (cweight_at fn fv m HM2.out (by omega) _).mono ?_
                rintro e w6 ⟨rfl, hb6⟩
                have HB6 := hid' (below_two HB5.out hb6)
                clear hb6
                go_wp2
                go_roundw
                case rel => exact ⟨n + m, k + 1, by go_num, by go_num, by omega, hnm, hid' HST.out.symm, HB6⟩
                case measure => simp [intOf]; omega
              · have hkl2 : decide ((k : Int) < (LE : Int)) = false := decide_eq_false (by omega)
                have hkl3 : decide (k < LE) = false := decide_eq_false hkl
                have HNZ : Hid (n = Tb.size gs) := hid' (by rw [HN.out, List.take_of_length_le (by rw [HLE.out]; omega)])
                have HAT : Hid (Tb.at? gs (62 + (LE : Int)) = none) := hid' (by rw [at_dyn2]; exact List.getElem?_eq_none (by rw [HLE.out]; exact Nat.le_refl _))
                have hnM : n ≤ ME := by have := HSZ.out; have := HNZ.out; omega
                have hMn : decide ((ME : Int) < (n : Int)) = false := decide_eq_false (by omega)
                have hMn2 : decide (ME < n) = false := decide_eq_false (by omega)
                have hM6 : decide ((65536 : Int) < (ME : Int)) = false := decide_eq_false (by have := HMM.out; omega)
                have hM62 : decide (65536 < ME) = false := decide_eq_false (by have := HMM.out; omega)
                go_wp2_with fail
                refine (clen_at _ b _ _ gs LE HLE.out _ HQ3.out.tab).mono ?_
                rintro e w3 ⟨rfl, rfl⟩
                go_wp2_with fail
                refine (clen_at _ b _ _ gs LE HLE.out _ HQ3.out.tab).mono ?_
                rintro e w3 ⟨rfl, rfl⟩
                go_wp2_with fail
                refine (cat_none _ b _ _ gs _ _ HQ3.out.tab HZB.out HAT.out (by omega) (by omega)).mono ?_
                rintro e w4 ⟨rfl, hb4⟩
                have hb5 : Below w4.heap.size w4 (w4.alloc (.cells #[.string ⟨#[]⟩, .string ⟨#[]⟩] 32)) := (Below.refl _ _).alloc (Nat.le_refl _) _
                have HB5 := hid' (below_two (below_two HBQ.out hb4) hb5)
                have HQ4 := hid' (HQ.out.keep HB5.out)
                have HX4 := hid' (HX2.out.keep HB5.out)
                clear hb4 hb5 HQ3
                go_wp2_with fail
                generalize w4.alloc (.cells #[.string ⟨#[]⟩, .string ⟨#[]⟩] 32) = w5 at *
                refine (csize_at _ b _ _ gs n HNZ.out.symm _ HQ4.out.tab).mono ?_
                rintro e w3 ⟨rfl, rfl⟩
                go_wp2_with fail
                refine (cmost_any _ b _ _ gs _ HQ4.out.tab).mono ?_
                rintro e w3 ⟨rfl, rfl⟩
                go_wp2_with fail
                refine (cmost_any _ b _ _ gs _ HQ4.out.tab).mono ?_
                rintro e w3 ⟨rfl, rfl⟩
                obtain ⟨⟨fk, fw⟩, hfind⟩ : ∃ r, Tb.find gs (name, val) = r := ⟨_, rfl⟩
                have HFN := hid' hfind
                clear hfind
                have x2 := HX4.out.cell 2 _ rfl
                have x3 := HX4.out.cell 3 _ rfl
                go_wp2_with fail
                refine (cfind_any _ b _ _ gs name val _ HQ4.out.tab HZB.out fk fw HFN.out).mono ?_
                rintro e w7 ⟨rfl, hb7⟩
                have HQ7 := hid' (HQ4.out.keep hb7)
                have HX7 := hid' (HX4.out.keep hb7)
                clear hb7 x2 x3 HQ4 HX4 hMn hMn2 hM6 hM62 HB5 HBQ
                have hng := noGuard
                cases fw with
                | true =>
                  obtain ⟨hfk, hfat⟩ := Tb.find_whole gs (name, val) fk HFN.out
                  have HFAT := hid' hfat
                  have hk0 : ((fk : Int) == 0) = false := beq_false_of_ne (by omega)
                  have hk1 : (fk == 0) = false := beq_false_of_ne (by omega)
                  have heq := neq_field_no name val
                  clear hfat
                  go_wp2_with fail
                  refine (cat_some _ b _ _ gs _ (name, val) _ HQ7.out.tab HZB.out HFAT.out).mono ?_
                  rintro e w8 ⟨rfl, hb8⟩
                  have hb9 : Below w8.heap.size w8 (w8.alloc (.cells #[.string ⟨name.toArray⟩, .string ⟨val.toArray⟩] 32)) := (Below.refl _ _).alloc (Nat.le_refl _) _
                  have HQ5 := hid' (HQ7.out.keep (below_two hb8 hb9))
                  have HX5 := hid' (HX7.out.keep (below_two hb8 hb9))
                  have x2 := HX5.out.cell 2 _ rfl
                  have x3 := HX5.out.cell 3 _ rfl
                  clear hb8 hb9
                  go_wp2
                  go_roundw
                  case rel => exact ⟨i + 1, by go_num, by omega, hid' ⟨_, _, _, HQ5.out, HMM.out, HSZ.out⟩⟩
                  case measure => simp [intOf]; omega
                | false =>
                  rcases Tb.find_named gs (name, val) fk HFN.out with hfk | ⟨hfk, v2, hfat, hne⟩
                  · subst hfk
                    have HFAT : Hid (Tb.at? gs 0 = none) := hid' (Tb.at_none gs 0 (.inl (by omega)))
                    go_wp2_with fail
                    refine (cat_none _ b _ _ gs _ _ HQ7.out.tab HZB.out HFAT.out (by omega) (by omega)).mono ?_
                    rintro e w8 ⟨rfl, hb8⟩
                    have hb9 : Below w8.heap.size w8 (w8.alloc (.cells #[.string ⟨#[]⟩, .string ⟨#[]⟩] 32)) := (Below.refl _ _).alloc (Nat.le_refl _) _
                    have HQ5 := hid' (HQ7.out.keep (below_two hb8 hb9))
                    clear hb8 hb9
                    go_wp2
                    go_roundw
                    case rel => exact ⟨i + 1, by go_num, by omega, hid' ⟨_, _, _, HQ5.out, HMM.out, HSZ.out⟩⟩
                    case measure => simp [intOf]; omega
                  · have HFAT := hid' hfat
                    have hk0 : ((fk : Int) == 0) = false := beq_false_of_ne (by omega)
                    have hk1 : (fk == 0) = false := beq_false_of_ne (by omega)
                    have hk2 : decide ((0 : Int) < (fk : Int)) = true := decide_eq_true (by omega)
                    have hk3 : decide (0 < fk) = true := decide_eq_true hfk
                    have heq := eq_field_no name v2 name val hne
                    clear hfat hne
                    go_wp2_with fail
                    refine (cat_some _ b _ _ gs _ (name, v2) _ HQ7.out.tab HZB.out HFAT.out).mono ?_
                    rintro e w8 ⟨rfl, hb8⟩
                    have hb9 : Below w8.heap.size w8 (w8.alloc (.cells #[.string ⟨name.toArray⟩, .string ⟨v2.toArray⟩] 32)) := (Below.refl _ _).alloc (Nat.le_refl _) _
                    have HQ5 := hid' (HQ7.out.keep (below_two hb8 hb9))
                    have HX5 := hid' (HX7.out.keep (below_two hb8 hb9))
                    have x2 := HX5.out.cell 2 _ rfl
                    have x3 := HX5.out.cell 3 _ rfl
                    clear hb8 hb9
                    go_wp2
                    go_roundw
                    case rel => exact ⟨i + 1, by go_num, by omega, hid' ⟨_, _, _, HQ5.out, HMM.out, HSZ.out⟩⟩
                    case measure => simp [intOf]; omega
      · have hlt2 : decide ((i : Int) < (cs.length : Int)) = false := decide_eq_false (by omega)
        have hltN : decide (i < cs.length) = false := decide_eq_false hlt
        have HBW := hid' HP.out.bel
        clear HP
        go_wp2_with fail
        refine (awake_any _).mono ?_
        rintro e w3 ⟨rfl, hb3⟩
        go_wp2
        go_ret
        exact ⟨rfl, below_two HBW.out hb3⟩

end Go.Proofs.Ytjpgnifogacpcaa
