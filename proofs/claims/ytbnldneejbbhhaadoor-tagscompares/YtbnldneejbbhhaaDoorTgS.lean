/-
  The document's Parse: by its contract.
-/
import Derived.Test.YtbnldneejbbhhaaDoorTgR
namespace Go.Proofs.YtbnldneejbbhhaaDoor
open Go.RowKit

namespace Tg
theorem done_none {l : List UInt8} (hs : star l = false) (h : go true l = none) : tags l = [] ∧ err l = 150 := by
  have h1 : tags l = [] := by unfold tags; rw [hs, h]; rfl
  refine ⟨h1, ?_⟩
  unfold err; rw [hs, h1]; rfl
theorem done_some {l : List UInt8} {os : List Tag} (hs : star l = false) (h : go true l = some os) : tags l = os ∧ err l = if os.isEmpty then 150 else 0 := by
  have h1 : tags l = os := by unfold tags; rw [hs, h]; rfl
  refine ⟨h1, ?_⟩
  unfold err; rw [hs, h1]; rfl
theorem done_star {l : List UInt8} (hs : star l = true) : tags l = [] ∧ err l = 0 := by
  unfold err tags; rw [hs]; exact ⟨rfl, rfl⟩
theorem nOf_le {l : List UInt8} (h : isOne l = true) : nOf l ≤ l.length := by
  have hne : l ≠ [] := by rintro rfl; revert h; decide
  exact ((one_app (b := []) hne (fun x hx => by cases hx)).2 h).2.2
theorem nOf_pos (l : List UInt8) : 2 ≤ nOf l := by unfold nOf; omega
theorem drop_c {l : List UInt8} {k : Nat} {c : UInt8} (hc : l[k]? = some c) : l.drop k = c :: l.drop (k + 1) := by
  obtain ⟨h1, h2⟩ := List.getElem?_eq_some_iff.1 hc
  rw [List.drop_eq_getElem_cons h1, h2]
theorem map_app {o : Option (List Tag)} {os : List Tag} {t : Tag} : (o.map (t :: ·)).map (os ++ ·) = o.map ((os ++ [t]) ++ ·) := by
  cases o <;> simp
theorem star_at (s : ByteArray) (l : List UInt8) (h : s.data.toList = Tx.trim l) : (s.toList == [42]) = star l := by
  unfold star
  rw [Lib.toList_data, h]
theorem size_of_l (l : List UInt8) : (⟨l.toArray⟩ : ByteArray).size = l.length := by simp [ByteArray.size]
theorem comma_at (s : ByteArray) (k : Nat) (h : k < s.size) : (s[k] == 44) = ((s[k].toNat : Int) == 44) := by
  rw [Bool.eq_iff_iff, beq_iff_eq, beq_iff_eq]
  constructor
  · intro e; rw [e]; rfl
  · intro e; apply UInt8.toNat_inj.1; simp; omega
end Tg

set_option maxHeartbeats 8000000 in
set_option maxRecDepth 20000 in
theorem rparse15 (s : ByteArray) (l : List UInt8) (hl : s.data.toList = l) (w : World) (hs : s.size ≤ 1048576) :
    Calls Tryd.prog 7 #[.string s] w fun e w' => (∃ m ro rc, e = .returned (.tuple #[.slice ro m rc, .bool (Tg.star l), .int .i64 (Tg.err l)]) ∧ (Tg.tags l).length = m ∧ w'.ownsRow w.heap.size 36 2 (.slice ro m rc) m (tC (Tg.tags l))) ∧ Below w.heap.size w w' := by
  obtain ⟨i0, hi0, hz0, hz1, hz2⟩ := minfo_parts infoR15
  have HI := hid' hi0
  have HZ0 := hid' hz0
  have HZ1 := hid' hz1
  have HZ2 := hid' hz2
  clear hi0 hz0 hz1 hz2
  have hR := rTrim_any s w (by unfold maxLen; omega)
  rw [hl] at hR
  obtain ⟨t, ht⟩ : ∃ t : ByteArray, (⟨(Tx.trim l).toArray⟩ : ByteArray) = t := ⟨_, rfl⟩
  have HT : Hid (t.data.toList = Tx.trim l) := hid' (by rw [← ht])
  have hts : t.size ≤ 1048576 := by
    rw [← ht, Tg.size_of_l]
    have := Tx.trim_le l
    rw [← hl, ← Lib.size_eq] at this
    rw [← hl]; omega
  rw [ht] at hR
  have HR := hid' hR
  clear hR ht hs hl
  cases hst : Tg.star l
  · have HST := hid' hst
    have hs2 : (t.toList == [42]) = false := by rw [Tg.star_at t l HT.out]; exact hst
    clear hst
    go_enter Tryd.func7, Tryd.ntmps7
    go_wp2_with fail
    refine HR.out.mono ?_
    rintro e wq ⟨rfl, hwq⟩
    subst wq
    go_wp2
    clear hs2
    go_loopw [6, 7, 8] (fun s6 s7 s8 wr => ∃ (k m : Nat) (op : Bool) (os : List Tg.Tag) (ro : Option Addr) (rc : Nat), s7 = .int .i64 (k : Int) ∧ s6 = .slice ro m rc ∧ s8 = .bool op ∧ k ≤ t.size ∧ m ≤ k ∧ Hid (os.length = m) ∧ Hid (Tg.go true l = (Tg.go op (t.data.toList.drop k)).map (os ++ ·)) ∧ Hid (wr.ownsRow w.heap.size 36 2 (.slice ro m rc) m (tC os)) ∧ Hid (Below w.heap.size w wr)) (fun _ s7 _ _ => t.size - (intOf s7).toNat)
    case atStart => exact ⟨0, 0, true, [], none, 0, rfl, rfl, rfl, Nat.zero_le _, Nat.zero_le _, hid' rfl, hid' (by rw [List.drop_zero, HT.out, Tg.go_trim]; simp), hid' (World.ownsRow_nil _ _ _ _), hid' (Below.refl _ _)⟩
    case round =>
      obtain ⟨k, m, op, os, ro, rc, rfl, rfl, rfl, hk, hmk, HML, HG, HO, HB⟩ := hrel
      by_cases hlt : k < t.size
      · have hlt2 : (k : Int) < (t.size : Int) := by omega
        have HD : Hid (t.data.toList.drop k = t[k] :: t.data.toList.drop (k + 1)) := hid' (Tg.drop_c (Tx.get_byte t k hlt))
        cases hb : Tx.blkC (t[k].toNat : Int)
        · have HNB : Hid (Tx.blkB t[k] = false) := hid' hb
          cases hc : ((t[k].toNat : Int) == 44)
          · have HNC : Hid ((t[k] == 44) = false) := hid' (by rw [Tg.comma_at t k hlt]; exact hc)
            have HN : Hid (Tg.go op (t.data.toList.drop k) = if Tg.isOne (t.data.toList.drop k) && op then (Tg.go false ((t.data.toList.drop k).drop (Tg.nOf (t.data.toList.drop k)))).map (Tg.tagOf (t.data.toList.drop k) :: ·) else none) := hid' (by rw [HD.out]; exact Tg.go_other op _ _ HNB.out HNC.out)
            obtain ⟨u, hu⟩ : ∃ u, t.data.toList.drop k = u := ⟨_, rfl⟩
            have HU := hid' hu
            rw [hu] at HN
            have HX : Hid ((t.extract k t.size).data.toList = u) := hid' (by rw [Tg.ext_td, ← hu]; exact List.take_of_length_le (by rw [List.length_drop, ← Lib.size_eq]; exact Nat.le_refl _))
            have hks : k ≤ t.size := hk
            clear hu
            cases h1 : Tg.isOne u
            · have HE : Hid (Tg.tags l = [] ∧ Tg.err l = 150) := hid' (Tg.done_none HST.out (by rw [HG.out, HU.out, HN.out, h1]; rfl))
              have HRV := hid' (Tg.rV_no h1)
              clear h1
              go_wp2_with first | (go_at_call 23; refine (rBlank_any _ _).mono ?_; rintro e w' ⟨rfl, rfl⟩; rw [hb]) | fail
              refine (rone15 (t.extract k t.size) u HX.out _ (by rw [ByteArray.size_extract]; omega)).mono ?_
              rw [HRV.out]
              rintro e wq ⟨rfl, hbq⟩
              have HBq := hid' (below_two HB.out hbq)
              clear hbq
              go_wp2
              go_ret3
              exact ⟨⟨0, none, 0, by rw [HE.out.2]; rfl, by rw [HE.out.1]; rfl, by rw [HE.out.1]; exact World.ownsRow_nil _ _ _ _⟩, below_two HBq.out (bl_alloc _ _)⟩
            · cases op
              · have HE : Hid (Tg.tags l = [] ∧ Tg.err l = 150) := hid' (Tg.done_none HST.out (by rw [HG.out, HU.out, HN.out, h1]; rfl))
                have HRV := hid' (Tg.rV_yes h1)
                have hn0 : (((Tg.nOf u : Nat) : Int) == 0) = false := by
                  rw [beq_eq_false_iff_ne]; have := Tg.nOf_pos u; omega
                clear h1
                go_wp2_with first | (go_at_call 23; refine (rBlank_any _ _).mono ?_; rintro e w' ⟨rfl, rfl⟩; rw [hb]) | fail
                refine (rone15 (t.extract k t.size) u HX.out _ (by rw [ByteArray.size_extract]; omega)).mono ?_
                rw [HRV.out]
                rintro e wq ⟨rfl, hbq⟩
                have HBq := hid' (below_two HB.out hbq)
                clear hbq
                go_wp2
                go_ret3
                exact ⟨⟨0, none, 0, by rw [HE.out.2]; rfl, by rw [HE.out.1]; rfl, by rw [HE.out.1]; exact World.ownsRow_nil _ _ _ _⟩, below_two HBq.out (bl_alloc _ _)⟩
              · have HRV := hid' (Tg.rV_yes h1)
                obtain ⟨n, hn⟩ : ∃ n, Tg.nOf u = n := ⟨_, rfl⟩
                obtain ⟨g, hg⟩ : ∃ g, Tg.tagOf u = g := ⟨_, rfl⟩
                have hn1 : 2 ≤ n := by rw [← hn]; exact Tg.nOf_pos u
                have hn2 : k + n ≤ t.size := by
                  have h9 := Tg.nOf_le h1
                  rw [hn, ← HU.out, List.length_drop, ← Lib.size_eq] at h9
                  omega
                have hn0 : ((n : Int) == 0) = false := by
                  rw [beq_eq_false_iff_ne]; omega
                rw [h1, hn, hg] at HN
                rw [hn, hg] at HRV
                have HG2 : Hid (Tg.go true l = (Tg.go false (t.data.toList.drop (k + n))).map ((os ++ [g]) ++ ·)) := hid' (by
                  rw [HG.out, HU.out, HN.out, ← HU.out, List.drop_drop]
                  exact Tg.map_app)
                clear h1 hn hg
                go_wp2_with first | (go_at_call 23; refine (rBlank_any _ _).mono ?_; rintro e w' ⟨rfl, rfl⟩; rw [hb]) | fail
                refine (rone15 (t.extract k t.size) u HX.out _ (by rw [ByteArray.size_extract]; omega)).mono ?_
                rw [HRV.out]
                rintro e wq ⟨rfl, hbq⟩
                have HBq := hid' (below_two HB.out hbq)
                have HOq := hid' (own_keep15 HO.out hbq)
                have HBa := hid' (below_two HBq.out (bl_alloc wq (.cells #[.bool g.w, .string ⟨g.v.toArray⟩] 36)))
                have HOa := hid' (HOq.out.alloc (.cells #[.bool g.w, .string ⟨g.v.toArray⟩] 36))
                clear hbq
                have HL : Hid (Ar (wq.alloc (.cells #[.bool g.w, .string ⟨g.v.toArray⟩] 36)) wq.heap.size 36 #[.bool g.w, .string ⟨g.v.toArray⟩]) := hid' (heap_alloc_last wq _)
                go_upto_region 16 with fail
                obtain ⟨fb, hfb⟩ : ∃ fb, wq.heap.size = fb := ⟨_, rfl⟩
                rw [hfb] at HL ⊢
                generalize wq.alloc (.cells #[.bool g.w, .string ⟨g.v.toArray⟩] 36) = w1 at *
                have p0 := HL.out.cell 0 _ rfl
                have p1 := HL.out.cell 1 _ rfl
                have HA : Hid ((w1.alloc (.cells #[.bool g.w, .string ⟨g.v.toArray⟩] 36)).ownsRow w.heap.size 36 2 (.slice ro m rc) m (tC os)) := hid' (HOa.out.alloc _)
                clear hfb
                go_wp2_with (at_builtin; refine wpList_append_own_at _ rfl _ _ 26 rfl w.heap.size 36 i0 (.agg #[.bool false, .string ⟨#[]⟩]) 2 24 Tryd.underlying26 HI.out HZ0.out HZ1.out HZ2.out rfl (by decide) (.slice ro m rc) m (tC os) rfl HA.out ⟨w1.heap.size, 0, none⟩ 1 1 [.bool g.w, .string ⟨g.v.toArray⟩] rfl rfl (two_new _ _ _ _) (by simp [Value.oneCell']) (by unfold maxLen; omega) (by omega) (by simp; have := HBa.out.size; omega) ?_; intro v3 w3 hown3 hgrow3 _ _; refine Hid.out ?_)
                refine hid' ?_
                have e : tC os ++ [Value.bool g.w, .string ⟨g.v.toArray⟩] = tC (os ++ [g]) := by rw [tC_append]; simp [tV, tC]
                rw [e] at hown3
                obtain ⟨v3o, v3c, hv3⟩ := own_shape hown3
                subst hv3
                have HO3 := hid' hown3
                have HB3 : Hid (Below w.heap.size w w3) := hid' ((HBa.out.alloc HBa.out.size _).grown hgrow3 (by simp; have := HBa.out.size; omega) (fun k hk => (HA.out.lt k hk).1))
                clear hown3 hgrow3 e p0 p1
                go_wp2
                go_roundw
                case rel => exact ⟨k + n, m + 1, false, os ++ [g], v3o, v3c, by go_num, rfl, rfl, hn2, by omega, hid' (by rw [List.length_append, HML.out]; rfl), HG2, HO3, HB3⟩
                case measure => simp [intOf]; omega
          · have hcc : t[k] = 44 := by
              have : (t[k] == 44) = true := by rw [Tg.comma_at t k hlt]; exact hc
              exact eq_of_beq this
            have HG2 : Hid (Tg.go true l = (Tg.go true (t.data.toList.drop (k + 1))).map (os ++ ·)) := hid' (by
              rw [HG.out, HD.out, hcc, Tg.go_comma])
            clear hcc
            go_wp2_with (go_at_call 23; refine (rBlank_any _ _).mono ?_; rintro e w' ⟨rfl, rfl⟩; rw [hb])
            go_roundw
            case rel => exact ⟨k + 1, m, true, os, ro, rc, by go_num, rfl, rfl, by omega, by omega, HML, HG2, HO, HB⟩
            case measure => simp [intOf]; omega
        · have HG2 : Hid (Tg.go true l = (Tg.go op (t.data.toList.drop (k + 1))).map (os ++ ·)) := hid' (by
            rw [HG.out, HD.out, Tg.go_blank op _ _ hb])
          go_wp2_with (go_at_call 23; refine (rBlank_any _ _).mono ?_; rintro e w' ⟨rfl, rfl⟩; rw [hb])
          go_roundw
          case rel => exact ⟨k + 1, m, op, os, ro, rc, by go_num, rfl, rfl, by omega, by omega, HML, HG2, HO, HB⟩
          case measure => simp [intOf]; omega
      · obtain rfl : k = t.size := by omega
        have hlt2 : ¬ (t.size : Int) < (t.size : Int) := by omega
        have HE : Hid (Tg.tags l = os ∧ Tg.err l = if os.isEmpty then 150 else 0) := hid' (Tg.done_some HST.out (by
          rw [HG.out, List.drop_eq_nil_of_le (by rw [← Lib.size_eq]; exact Nat.le_refl _), Tg.go_nil]; simp))
        clear hlt
        by_cases hm0 : m = 0
        · subst hm0
          have hos : os = [] := List.eq_nil_of_length_eq_zero HML.out
          have HE2 : Hid (Tg.tags l = [] ∧ Tg.err l = 150) := hid' (by rw [HE.out.1, HE.out.2, hos]; exact ⟨rfl, rfl⟩)
          clear hos
          go_wp2
          go_ret3
          exact ⟨⟨0, none, 0, by rw [HE2.out.2]; rfl, by rw [HE2.out.1]; rfl, by rw [HE2.out.1]; exact World.ownsRow_nil _ _ _ _⟩, HB.out⟩
        · have hm1 : ((m : Int) == 0) = false := by rw [beq_eq_false_iff_ne]; omega
          have HE2 : Hid (Tg.err l = 0) := hid' (by
            rw [HE.out.2]
            cases os with
            | nil => exact absurd HML.out.symm hm0
            | cons a b => rfl)
          go_wp2
          go_ret3
          exact ⟨⟨m, ro, rc, by rw [HE2.out]; rfl, by rw [HE.out.1]; exact HML.out, by rw [HE.out.1]; exact HO.out⟩, HB.out⟩
  · have HST := hid' hst
    have HE := hid' (Tg.done_star hst)
    have hs2 : (t.toList == [42]) = true := by rw [Tg.star_at t l HT.out]; exact hst
    clear hst
    go_enter Tryd.func7, Tryd.ntmps7
    go_wp2_with fail
    refine HR.out.mono ?_
    rintro e wq ⟨rfl, hwq⟩
    subst wq
    go_wp2
    go_ret3
    exact ⟨⟨0, none, 0, by rw [HE.out.2]; rfl, by rw [HE.out.1]; rfl, by rw [HE.out.1]; exact World.ownsRow_nil _ _ _ _⟩, Below.refl _ _⟩

end Go.Proofs.YtbnldneejbbhhaaDoor
