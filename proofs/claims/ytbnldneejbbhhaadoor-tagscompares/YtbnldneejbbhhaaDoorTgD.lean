/-
  The code's Parse: by its contract.
-/
import Derived.Test.YtbnldneejbbhhaaDoorTgC
namespace Go.Proofs.YtbnldneejbbhhaaDoor
open Go.RowKit

namespace Tg
theorem pieces_le (l : List UInt8) : (pieces l).length ≤ l.length := (List.dropWhile_sublist sepB).length_le
theorem step_no {u : List UInt8} {c : UInt8} {r : List UInt8} (hu : u = c :: r) (hb : Tx.blkB c = false ∧ (c == 44) = false) (h : isOne u = false) : go true u = none := by
  rw [go_step hu hb.1 hb.2, h]; rfl
theorem step_bad {u : List UInt8} {c : UInt8} {r : List UInt8} (hu : u = c :: r) (hb : Tx.blkB c = false ∧ (c == 44) = false) (h : ends (u.drop (nOf u)) = false) : go true u = none := by
  rw [go_step hu hb.1 hb.2, h, Bool.and_false]; rfl
theorem step_yes {u : List UInt8} {c : UInt8} {r : List UInt8} (hu : u = c :: r) (hb : Tx.blkB c = false ∧ (c == 44) = false) (h1 : isOne u = true) (h2 : ends (u.drop (nOf u)) = true) : go true u = (go true (pieces (u.drop (nOf u)))).map (tagOf u :: ·) := by
  rw [go_step hu hb.1 hb.2, h1, h2]; rfl
end Tg

set_option maxHeartbeats 8000000 in
set_option maxRecDepth 20000 in
theorem cparse15 (s : ByteArray) (l : List UInt8) (hl : s.data.toList = l) (w : World) (hs : s.size ≤ 1048576) :
    Calls Tryd.prog 6 #[.string s] w fun e w' => (∃ m ro rc, e = .returned (.tuple #[.slice ro m rc, .bool (Tg.star l), .int .i64 (Tg.err l)]) ∧ (Tg.tags l).length = m ∧ w'.ownsRow w.heap.size 31 2 (.slice ro m rc) m (tC (Tg.tags l))) ∧ Below w.heap.size w w' := by
  obtain ⟨i0, hi0, hz0, hz1, hz2⟩ := minfo_parts infoC15
  have HI := hid' hi0
  have HZ0 := hid' hz0
  have HZ1 := hid' hz1
  have HZ2 := hid' hz2
  clear hi0 hz0 hz1 hz2
  have q22 : ∀ (w : World) (a : Option Addr) (n c : Nat), (binOp .eql 22 (.slice a n c) (.slice none 0 0)).run Tryd.prog w = .ok (.bool a.isNone) w := fun w a n c => Lib.run_eql_slice_nil w _ _ a n c 0 0 Tryd.underlying22
  have hR := trim_any s w (by unfold maxLen; omega)
  rw [hl] at hR
  obtain ⟨t, ht⟩ : ∃ t : ByteArray, (⟨(Tx.trim l).toArray⟩ : ByteArray) = t := ⟨_, rfl⟩
  have HT : Hid (t.data.toList = Tx.trim l) := hid' (by rw [← ht])
  rw [ht] at hR
  have HR := hid' hR
  clear hR ht
  obtain ⟨r0, hr0⟩ : ∃ r0 : ByteArray, (⟨(Tg.pieces l).toArray⟩ : ByteArray) = r0 := ⟨_, rfl⟩
  have HR0 : Hid (r0.data.toList = Tg.pieces l) := hid' (by rw [← hr0])
  have hrs : r0.size ≤ s.size := by
    rw [Lib.size_eq, HR0.out, Lib.size_eq s, hl]; exact Tg.pieces_le l
  have HP0 := hid' (cpieces15 s l hl r0 hr0 w)
  clear hr0
  cases hst : Tg.star l
  · have HST := hid' hst
    have hs2 : (t.toList == [42]) = false := by rw [Tg.star_at t l HT.out]; exact hst
    clear hst
    go_enter Tryd.func6, Tryd.ntmps6
    go_wp2_with fail
    refine HR.out.mono ?_
    rintro e wq ⟨rfl, hwq⟩
    subst wq
    go_wp2_with fail
    refine HP0.out.mono ?_
    rintro e wq ⟨rfl, hbq⟩
    have HBQ := hid' hbq
    clear hbq hs2
    go_wp2
    go_loopw [5, 6] (fun s5 s6 wr => ∃ (m : Nat) (r : ByteArray) (p : List UInt8) (os : List Tg.Tag) (ro : Option Addr) (rc : Nat), s6 = .string r ∧ s5 = .slice ro m rc ∧ m + r.size ≤ s.size ∧ (m = 0 → ro = none) ∧ Hid (r.data.toList = Tg.pieces p) ∧ Hid (os.length = m) ∧ Hid (Tg.go true l = (Tg.go true r.data.toList).map (os ++ ·)) ∧ Hid (wr.ownsRow w.heap.size 31 2 (.slice ro m rc) m (tC os)) ∧ Hid (Below w.heap.size w wr)) (fun _ s6 _ => Tx.strLen s6)
    case atStart => exact ⟨0, r0, l, [], none, 0, rfl, rfl, by omega, fun _ => rfl, HR0, hid' rfl, hid' (by rw [HR0.out, Tg.go_pieces]; simp), hid' (World.ownsRow_nil _ _ _ _), HBQ⟩
    case round =>
      obtain ⟨m, r, p, os, ro, rc, rfl, rfl, hms, hmn, HRP, HML, HG, HO, HB⟩ := hrel
      obtain ⟨u, hu⟩ : ∃ u, r.data.toList = u := ⟨_, rfl⟩
      have HU := hid' hu
      rw [hu] at HG HRP
      have hsz : r.size = u.length := by rw [Lib.size_eq, hu]
      have hne : r.toList.isEmpty = u.isEmpty := by rw [Lib.toList_data, hu]
      clear hu
      cases hc : u with
      | nil =>
        rw [hc] at hne HG hsz
        have hne2 : r.toList.isEmpty = true := by rw [hne]; rfl
        have HE : Hid (Tg.tags l = os ∧ Tg.err l = if os.isEmpty then 150 else 0) := hid' (Tg.done_some HST.out (by rw [HG.out, Tg.go_nil]; simp))
        clear hne
        by_cases hm0 : m = 0
        · obtain rfl := hmn hm0
          subst hm0
          have hos : os = [] := List.eq_nil_of_length_eq_zero HML.out
          have HE2 : Hid (Tg.tags l = [] ∧ Tg.err l = 150) := hid' (by rw [HE.out.1, HE.out.2, hos]; exact ⟨rfl, rfl⟩)
          clear hos
          go_wp2
          go_ret3
          exact ⟨⟨0, none, 0, by rw [HE2.out.2]; rfl, by rw [HE2.out.1]; rfl, by rw [HE2.out.1]; exact World.ownsRow_nil _ _ _ _⟩, HB.out⟩
        · have hsome : ∃ g, ro = some ⟨g, 0, none⟩ := by
            rcases HO.out.2 with ⟨_, h0⟩ | ⟨g, cap, cur, h1, _⟩
            · exact absurd h0 hm0
            · injection h1 with h1 _ _; exact ⟨g, h1⟩
          obtain ⟨g, rfl⟩ := hsome
          have HE2 : Hid (Tg.err l = 0) := hid' (by
            rw [HE.out.2]
            cases os with
            | nil => exact absurd HML.out.symm hm0
            | cons a b => rfl)
          go_wp2
          go_ret3
          exact ⟨⟨m, some ⟨g, 0, none⟩, rc, by rw [HE2.out]; rfl, by rw [HE.out.1]; exact HML.out, by rw [HE.out.1]; exact HO.out⟩, HB.out⟩
      | cons c q =>
        have HC := hid' hc
        have HCB := hid' (Tg.pieces_head (by rw [← HRP.out]; exact hc))
        have hne2 : r.toList.isEmpty = false := by rw [hne, hc]; rfl
        clear hne hc
        cases h1 : Tg.isOne u
        · have HE : Hid (Tg.tags l = [] ∧ Tg.err l = 150) := hid' (Tg.done_none HST.out (by rw [HG.out, Tg.step_no HC.out HCB.out h1]; rfl))
          have HFV := hid' (Tg.fV_no h1)
          clear h1
          go_wp2_with fail
          refine (cfirst15 r u HU.out _ (by omega)).mono ?_
          rw [HFV.out]
          rintro e wq ⟨rfl, hbq⟩
          have HBq := hid' (below_two HB.out hbq)
          clear hbq
          go_wp2
          go_ret3
          exact ⟨⟨0, none, 0, by rw [HE.out.2]; rfl, by rw [HE.out.1]; rfl, by rw [HE.out.1]; exact World.ownsRow_nil _ _ _ _⟩, below_two HBq.out (bl_alloc _ _)⟩
        · have HFV := hid' (Tg.fV_yes h1)
          obtain ⟨n, hn⟩ : ∃ n, Tg.nOf u = n := ⟨_, rfl⟩
          obtain ⟨g, hg⟩ : ∃ g, Tg.tagOf u = g := ⟨_, rfl⟩
          obtain ⟨y, hy⟩ : ∃ y : ByteArray, (⟨(u.drop n).toArray⟩ : ByteArray) = y := ⟨_, rfl⟩
          have HY : Hid (y.data.toList = u.drop n) := hid' (by rw [← hy])
          have hn1 : 2 ≤ n := by rw [← hn]; exact Tg.nOf_pos u
          have hn2 : n ≤ u.length := by rw [← hn]; exact Tg.nOf_le h1
          have hys : y.size + n = r.size := by rw [Lib.size_eq, HY.out, List.length_drop, hsz]; omega
          rw [hn, hg, hy] at HFV
          cases h2 : Tg.ends (u.drop n)
          · have HE : Hid (Tg.tags l = [] ∧ Tg.err l = 150) := hid' (Tg.done_none HST.out (by rw [HG.out, Tg.step_bad HC.out HCB.out (by rw [hn]; exact h2)]; rfl))
            have HEN := hid' h2
            clear h1 h2 hn hg hy
            go_wp2_with fail
            refine (cfirst15 r u HU.out _ (by omega)).mono ?_
            rw [HFV.out]
            rintro e wq ⟨rfl, hbq⟩
            have HBq := hid' (below_two HB.out hbq)
            have HBa := hid' (below_two HBq.out (bl_alloc wq (.cells #[.bool g.w, .string ⟨g.v.toArray⟩] 31)))
            clear hbq
            go_wp2_with fail
            generalize wq.alloc (.cells #[.bool g.w, .string ⟨g.v.toArray⟩] 31) = w1 at *
            refine (cends15 y _ HY.out false HEN.out _).mono ?_
            rintro e w2 ⟨rfl, hb2⟩
            have HB2 := hid' (below_two HBa.out hb2)
            clear hb2
            go_wp2
            go_ret3
            exact ⟨⟨0, none, 0, by rw [HE.out.2]; rfl, by rw [HE.out.1]; rfl, by rw [HE.out.1]; exact World.ownsRow_nil _ _ _ _⟩, HB2.out⟩
          · obtain ⟨r2, hr2⟩ : ∃ r2 : ByteArray, (⟨(Tg.pieces (u.drop n)).toArray⟩ : ByteArray) = r2 := ⟨_, rfl⟩
            have HR2 : Hid (r2.data.toList = Tg.pieces (u.drop n)) := hid' (by rw [← hr2])
            have hr2s : r2.size ≤ y.size := by rw [Lib.size_eq, HR2.out, Lib.size_eq, HY.out]; exact Tg.pieces_le _
            have HP2 := hid' (fun W => cpieces15 y _ HY.out r2 hr2 W)
            have HG2 : Hid (Tg.go true l = (Tg.go true r2.data.toList).map ((os ++ [g]) ++ ·)) := hid' (by
              rw [HG.out, Tg.step_yes HC.out HCB.out h1 (by rw [hn]; exact h2), hn, hg, HR2.out]
              exact Tg.map_app)
            have HEN := hid' h2
            clear h1 h2 hn hg hy hr2
            go_wp2_with fail
            refine (cfirst15 r u HU.out _ (by omega)).mono ?_
            rw [HFV.out]
            rintro e wq ⟨rfl, hbq⟩
            have HBq := hid' (below_two HB.out hbq)
            have HOq := hid' (own_keep15 HO.out hbq)
            have HBa := hid' (below_two HBq.out (bl_alloc wq (.cells #[.bool g.w, .string ⟨g.v.toArray⟩] 31)))
            have HOa := hid' (HOq.out.alloc (.cells #[.bool g.w, .string ⟨g.v.toArray⟩] 31))
            have HL : Hid (Ar (wq.alloc (.cells #[.bool g.w, .string ⟨g.v.toArray⟩] 31)) wq.heap.size 31 #[.bool g.w, .string ⟨g.v.toArray⟩]) := hid' (heap_alloc_last wq _)
            clear hbq
            go_wp2_with fail
            obtain ⟨fb, hfb⟩ : ∃ fb, wq.heap.size = fb := ⟨_, rfl⟩
            rw [hfb] at HL ⊢
            generalize wq.alloc (.cells #[.bool g.w, .string ⟨g.v.toArray⟩] 31) = w1 at *
            clear hfb
            refine (cends15 y _ HY.out true HEN.out _).mono ?_
            rintro e w2 ⟨rfl, hb2⟩
            have HB2 := hid' (below_two HBa.out hb2)
            have HO2 := hid' (own_keep15 HOa.out hb2)
            have HL2 := hid' (HL.out.keep hb2)
            have p0 := HL2.out.cell 0 _ rfl
            have p1 := HL2.out.cell 1 _ rfl
            have HA : Hid ((w2.alloc (.cells #[.bool g.w, .string ⟨g.v.toArray⟩] 31)).ownsRow w.heap.size 31 2 (.slice ro m rc) m (tC os)) := hid' (HO2.out.alloc _)
            clear hb2 HL HBa HOa
            go_wp2_with (at_builtin; refine wpList_append_own_at _ rfl _ _ 22 rfl w.heap.size 31 i0 (.agg #[.bool false, .string ⟨#[]⟩]) 2 24 Tryd.underlying22 HI.out HZ0.out HZ1.out HZ2.out rfl (by decide) (.slice ro m rc) m (tC os) rfl HA.out ⟨w2.heap.size, 0, none⟩ 1 1 [.bool g.w, .string ⟨g.v.toArray⟩] rfl rfl (two_new _ _ _ _) (by simp [Value.oneCell']) (by unfold maxLen; omega) (by omega) (by simp; have := HB2.out.size; omega) ?_; intro v3 w3 hown3 hgrow3 _ _; refine Hid.out ?_)
            refine hid' ?_
            have e : tC os ++ [Value.bool g.w, .string ⟨g.v.toArray⟩] = tC (os ++ [g]) := by rw [tC_append]; simp [tV, tC]
            rw [e] at hown3
            obtain ⟨v3o, v3c, hv3⟩ := own_shape hown3
            subst hv3
            have HO3 := hid' hown3
            have HB3 : Hid (Below w.heap.size w w3) := hid' ((HB2.out.alloc HB2.out.size _).grown hgrow3 (by simp; have := HB2.out.size; omega) (fun k hk => (HA.out.lt k hk).1))
            clear hown3 hgrow3 e p0 p1
            go_wp2_with fail
            refine (HP2.out _).mono ?_
            rintro e w4 ⟨rfl, hb4⟩
            have HB4 := hid' (below_two HB3.out hb4)
            have HO4 := hid' (own_keep15 HO3.out hb4)
            clear hb4
            go_wp2
            go_roundw
            case rel => exact ⟨m + 1, r2, u.drop n, os ++ [g], v3o, v3c, rfl, rfl, by omega, fun h => by omega, HR2, hid' (by rw [List.length_append, HML.out]; rfl), HG2, HO4, HB4⟩
            case measure => simp [Tx.strLen]; omega
  · have HST := hid' hst
    have HE := hid' (Tg.done_star hst)
    have hs2 : (t.toList == [42]) = true := by rw [Tg.star_at t l HT.out]; exact hst
    clear hst
    go_enter Tryd.func6, Tryd.ntmps6
    go_wp2_with fail
    refine HR.out.mono ?_
    rintro e wq ⟨rfl, hwq⟩
    subst wq
    go_wp2
    go_ret3
    exact ⟨⟨0, none, 0, by rw [HE.out.2]; rfl, by rw [HE.out.1]; rfl, by rw [HE.out.1]; exact World.ownsRow_nil _ _ _ _⟩, Below.refl _ _⟩

end Go.Proofs.YtbnldneejbbhhaaDoor
