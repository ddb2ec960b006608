/-
  The document's List: by its contract.
-/
import Derived.Test.YtkfekopenahmdaaGreatDoorMcDE
import Derived.Test.YtkfekopenahmdaaGreatDoorMcKM
import Derived.Test.YtkfekopenahmdaaGreatDoorMcHd
import Derived.Test.YtkfekopenahmdaaGreatDoorDecs
namespace Go.Proofs.YtkfekopenahmdaaGreatDoor
open Go.RowKit

namespace Ms
def LT (s : Int) (l : List Fd) : List Fd := stF s :: (strip l).map small
theorem LT_take {l : List Fd} {k : Nat} {p : Fd} (s : Int) (h : l[k]? = some p) : LT s (l.take (k + 1)) = LT s (l.take k) ++ (if bnd p.n then [] else [small p]) := by
  unfold LT
  rw [strip_take h, List.map_append, ← List.cons_append]
  cases bnd p.n <;> rfl
theorem LT_le (s : Int) (l : List Fd) (k : Nat) : (LT s (l.take k)).length ≤ k + 1 := by
  unfold LT
  rw [List.length_cons, List.length_map]
  have h1 := strip_le (l.take k)
  rw [List.length_take] at h1
  omega
end Ms

theorem add_block14 (a : Addr) (i : Nat) : (a.add i).block = a.block := by
  unfold Addr.add
  split <;> rfl
theorem own_kq {w w' : World} {B : Nat} {e : TypeId} {s : Nat} {v : Value} {n : Nat} {xs : List Value} (h : w.ownsRow B e s v n xs) (hb : Below w.heap.size w w') : w'.ownsRow B e s v n xs := own_same h (fun j hj => hb.block j (own_lt h j hj))

set_option maxHeartbeats 8000000 in
set_option maxRecDepth 20000 in
theorem rlist14 (s : Int) (fv : Value) (b : ByteArray) (tv : Value) (l : List Fd) (w : World) (h : FW w fv l) (hl : l.length ≤ 1048576) (hs : ∀ f ∈ l, f.n.size ≤ 140737488355328) :
    Calls Tryz.prog 18 #[.agg (rpC s fv b tv)] w fun e w' => (∃ m ro rc, e = .returned (.slice ro m rc) ∧ (Ms.lst s l).length = m ∧ w'.ownsRow w.heap.size 42 2 (.slice ro m rc) m (fC (Ms.lst s l))) ∧ Below w.heap.size w w' := by
  obtain ⟨i0, hi0, hz0, hz1, hz2⟩ := minfo_parts infoF14
  have HI := hid' hi0
  have HZ0 := hid' hz0
  have HZ1 := hid' hz1
  have HZ2 := hid' hz2
  clear hi0 hz0 hz1 hz2
  obtain ⟨st, hst⟩ : ∃ st, Ms.stat s = st := ⟨_, rfl⟩
  have HSB : Hid (100 ≤ st ∧ st ≤ 999) := hid' (by rw [← hst]; exact Ms.stat_bd s)
  obtain ⟨yd, hyd⟩ : ∃ y : ByteArray, (⟨(Lib.itoa st).toArray⟩ : ByteArray) = y := ⟨_, rfl⟩
  have HSF : Hid (Ms.stF s = ⟨Ms.bStatus, yd⟩) := hid' (by unfold Ms.stF; rw [hst, hyd])
  have HDC : Hid (∀ W, Calls Tryz.prog 44 #[.int .i64 st] W fun e w' => e = .returned (.string yd) ∧ Below W.heap.size W w') := hid' (fun W => by have := rDecimal_any st (by have := HSB.out; omega) (by have := HSB.out; omega) W; rwa [hyd] at this)
  have H := hid' h
  have HS := hid' hs
  have HFB : Hid (∀ ad n c, fv = .slice (some ad) n c → 0 < l.length → ad.block < w.heap.size) := hid' (fun ad n c e h0 => by
    rcases h with ⟨e1, e2⟩ | ⟨a, cp, e1, _, hc⟩
    · rw [e2] at h0; simp at h0
    · rw [e] at e1
      injection e1 with e1 _ _
      injection e1 with e1
      subst e1
      obtain ⟨u, hu⟩ : ∃ u, (fC l)[0]? = some u := ⟨_, List.getElem?_eq_getElem (by rw [fC_length]; omega)⟩
      have := (hc 0 u hu).1
      simpa [Addr.add] using this)
  have HB0 := hid' (bl_alloc w (.cells (rpC s fv b tv) 35))
  have HA0 : Hid (Ar (w.alloc (.cells (rpC s fv b tv) 35)) w.heap.size 35 (rpC s fv b tv)) := hid' (heap_alloc_last w _)
  obtain ⟨ao, cap, hv⟩ := h.shape
  subst hv
  obtain ⟨n, hn⟩ : ∃ n, l.length = n := ⟨_, rfl⟩
  rw [hn] at H HFB hl HB0 HA0 ⊢
  have HN := hid' hn
  have HST := hid' hst
  unfold rpC at *
  clear h hs hn hyd hst
  go_enter Tryz.func18, Tryz.ntmps18
  go_upto_region 1 with fail
  obtain ⟨xb, hxb⟩ : ∃ xb, w.heap.size = xb := ⟨_, rfl⟩
  have HXB := hid' hxb
  rw [hxb] at HA0 ⊢
  generalize w.alloc (.cells #[.int .i64 s, .slice ao n cap, .string b, tv] 35) = w0 at *
  clear hxb
  have c0 := HA0.out.cell 0 _ rfl
  by_cases d1 : s < 100
  · obtain rfl : st = 500 := by have := HST.out; unfold Ms.stat at this; rw [if_pos (.inl d1)] at this; exact this.symm
    go_wp2_with fail
    refine (HDC.out _).mono ?_
    rintro e w1 ⟨rfl, hb1⟩
    have HB1 := hid' (below_two HB0.out hb1)
    have HA1 := hid' (HA0.out.keep hb1)
    have HO2 := hid' (own_lit w1 42 (fC [⟨Ms.bStatus, yd⟩]) 1 2 rfl (by decide) w.heap.size HB1.out.size)
    have HB2 := hid' (below_two HB1.out (bl_alloc w1 (.cells (fC [⟨Ms.bStatus, yd⟩]).toArray 42)))
    have HA2 := hid' (HA1.out.keep (bl_alloc w1 (.cells (fC [⟨Ms.bStatus, yd⟩]).toArray 42)))
    simp only [fC, fV, Ms.bStatus, List.flatMap_cons, List.flatMap_nil, List.append_nil] at HO2 HB2 HA2
    clear hb1 c0 HB1 HA1
    go_upto_region 5 with fail
    obtain ⟨lb, hlb⟩ : ∃ lb, w1.heap.size = lb := ⟨_, rfl⟩
    rw [hlb] at HO2 ⊢
    clear hlb
    generalize w1.alloc (.cells #[.string ⟨#[58, 115, 116, 97, 116, 117, 115]⟩, .string yd] 42) = w2 at *
    have HL0 : Hid (w2.ownsRow w.heap.size 42 2 (.slice (some ⟨lb, 0, none⟩) 1 1) 1 (fC (Ms.LT s (l.take 0)))) := hid' (by unfold Ms.LT; rw [HSF.out]; exact HO2.out)
    clear HO2
    go_wp2
    go_loopw [4, 5] (fun s4 s5 wr => ∃ (k m : Nat) (qo : Option Addr) (qc : Nat), s5 = .int .i64 (k : Int) ∧ s4 = .slice qo m qc ∧ k ≤ n ∧ m ≤ k + 1 ∧ Hid ((Ms.LT s (l.take k)).length = m) ∧ Hid (wr.ownsRow w.heap.size 42 2 (.slice qo m qc) m (fC (Ms.LT s (l.take k)))) ∧ Hid (Ar wr xb 35 #[.int .i64 s, .slice ao n cap, .string b, tv]) ∧ Hid (Below w.heap.size w wr)) (fun _ s5 _ => n - (intOf s5).toNat)
    case atStart => exact ⟨0, 1, _, _, rfl, rfl, Nat.zero_le _, Nat.le_refl _, hid' rfl, HL0, HA2, HB2⟩
    case round =>
      obtain ⟨k, m, qo, qc, rfl, rfl, hk, hmk, HML, HO, HA, HB⟩ := hrel
      have r1 := HA.out.cell 1 _ rfl
      by_cases hlt : k < n
      · have hlt2 : (k : Int) < (n : Int) := by omega
        obtain ⟨p, hp⟩ : ∃ p, l[k]? = some p := ⟨_, List.getElem?_eq_getElem (by rw [HN.out]; exact hlt)⟩
        obtain ⟨ad, hao, y0, y1⟩ := (H.out.keep HB.out).two k p hp
        subst hao
        have HRT := hid' (Ms.LT_take s hp)
        have HPS := hid' (HS.out p (List.mem_of_getElem? hp))
        obtain ⟨d, hd⟩ : ∃ d, Ms.bnd p.n = d := ⟨_, rfl⟩
        rw [hd] at HRT
        have HBD := hid' (fun W => rbnd14 p.n d hd W HPS.out)
        obtain ⟨y, hy⟩ : ∃ y : ByteArray, (⟨(Tx.lower p.n.data.toList).toArray⟩ : ByteArray) = y := ⟨_, rfl⟩
        have HSM : Hid (Ms.small p = ⟨y, p.v⟩) := hid' (by unfold Ms.small; rw [← hy]; rfl)
        have HLW : Hid (∀ W, Calls Tryz.prog 30 #[.string p.n] W fun e w' => e = .returned (.string y) ∧ Below W.heap.size W w') := hid' (fun W => by have := rLower_any p.n W (by have := HPS.out; unfold maxLen; omega); rwa [hy] at this)
        have HLT := hid' hlt
        clear hp hd hy
        go_wp2_with fail
        refine (HBD.out _).mono ?_
        rintro e wq ⟨rfl, hbq⟩
        have HBq := hid' (below_two HB.out hbq)
        have HOq := hid' (own_kq HO.out hbq)
        have HAq := hid' (HA.out.keep hbq)
        have y0q := (hbq.cell (cell_lt y0)).trans y0
        have y1q := (hbq.cell (cell_lt y1)).trans y1
        clear hbq y0 y1 r1 HB HO HA
        cases d
        · skip
          have q1 := HAq.out.cell 1 _ rfl
          have hSq : wq.cell? ⟨xb, 1, none⟩ = some (.slice (some ad) n cap) ∧ wq.cell? (ad.add (k * 2)) = some (.string p.n) ∧ wq.cell? ⟨(ad.add (k * 2)).block, (ad.add (k * 2)).off + 1, none⟩ = some (.string p.v) := ⟨q1, y0q, y1q⟩
          have sOf : ∀ W W1 : World, (W.cell? ⟨xb, 1, none⟩ = some (.slice (some ad) n cap) ∧ W.cell? (ad.add (k * 2)) = some (.string p.n) ∧ W.cell? ⟨(ad.add (k * 2)).block, (ad.add (k * 2)).off + 1, none⟩ = some (.string p.v)) → Below W.heap.size W W1 → (W1.cell? ⟨xb, 1, none⟩ = some (.slice (some ad) n cap) ∧ W1.cell? (ad.add (k * 2)) = some (.string p.n) ∧ W1.cell? ⟨(ad.add (k * 2)).block, (ad.add (k * 2)).off + 1, none⟩ = some (.string p.v)) := fun W W1 h hb => ⟨(hb.cell (cell_lt h.1)).trans h.1, (hb.cell (cell_lt h.2.1)).trans h.2.1, (hb.cell (cell_lt h.2.2)).trans h.2.2⟩
          go_upto_region 9 with fail
          refine wp_region_held_drew (S := fun W => W.cell? ⟨xb, 1, none⟩ = some (.slice (some ad) n cap) ∧ W.cell? (ad.add (k * 2)) = some (.string p.n) ∧ W.cell? ⟨(ad.add (k * 2)).block, (ad.add (k * 2)).off + 1, none⟩ = some (.string p.v)) (by kernel_rfl) (sOf _ _ hSq ((Below.refl _ _).drew)) (fun hHeld => ?_)
          refine take_d14 (i := 0) (d := some 33) (v := ?_) rfl rfl (by kernel_rfl) (by kernel_rfl) (by kernel_rfl) (fun _ _ _ h => h) (Or.inl ⟨by rfl, ?_⟩) (by assumption) ?_
          rotate_left
          · intro w hSw
            (try dsimp only at hSw)
            obtain ⟨s1, s2, s3⟩ := hSw
            go_simp
            try with_reducible rfl
          try simp only [Act.put, List.setIfInBounds_toArray, List.set_cons_zero, List.set_cons_succ]
          refine take_d14 (i := 1) (d := some 34) (v := ?_) rfl rfl (by kernel_rfl) (by kernel_rfl) (by kernel_rfl) (fun _ _ _ h => h) (Or.inl ⟨by rfl, ?_⟩) (by assumption) ?_
          rotate_left
          · intro w hSw
            (try dsimp only at hSw)
            obtain ⟨s1, s2, s3⟩ := hSw
            go_simp
            try with_reducible rfl
          try simp only [Act.put, List.setIfInBounds_toArray, List.set_cons_zero, List.set_cons_succ]
          refine take_d14 (i := 2) (d := some 35) (v := ?_) rfl rfl (by kernel_rfl) (by kernel_rfl) (by kernel_rfl) (fun _ _ _ h => h) (Or.inl ⟨by rfl, ?_⟩) (by assumption) ?_
          rotate_left
          · intro w hSw
            (try dsimp only at hSw)
            obtain ⟨s1, s2, s3⟩ := hSw
            go_simp
            try with_reducible rfl
          try simp only [Act.put, List.setIfInBounds_toArray, List.set_cons_zero, List.set_cons_succ]
          refine take_d14 (i := 3) (d := some 36) (v := ?_) rfl rfl (by kernel_rfl) (by kernel_rfl) (by kernel_rfl) (fun _ _ _ h => h) (Or.inl ⟨by rfl, ?_⟩) (by assumption) ?_
          rotate_left
          · intro w hSw
            (try dsimp only at hSw)
            obtain ⟨s1, s2, s3⟩ := hSw
            go_simp
            try with_reducible rfl
          try simp only [Act.put, List.setIfInBounds_toArray, List.set_cons_zero, List.set_cons_succ]
          refine take_d14 (i := 4) (d := some 37) (v := ?_) rfl rfl (by kernel_rfl) (by kernel_rfl) (by kernel_rfl) (fun _ _ _ h => h) (Or.inl ⟨by rfl, ?_⟩) (by assumption) ?_
          rotate_left
          · intro w hSw
            (try dsimp only at hSw)
            obtain ⟨s1, s2, s3⟩ := hSw
            go_simp
            try with_reducible rfl
          try simp only [Act.put, List.setIfInBounds_toArray, List.set_cons_zero, List.set_cons_succ]
          refine take_d14 (i := 5) (d := some 38) (v := ?_) rfl rfl (by kernel_rfl) (by kernel_rfl) (by kernel_rfl) (fun _ _ _ h => h) (Or.inl ⟨by rfl, ?_⟩) (by assumption) ?_
          rotate_left
          · intro w hSw
            (try dsimp only at hSw)
            obtain ⟨s1, s2, s3⟩ := hSw
            go_simp
            try with_reducible rfl
          try simp only [Act.put, List.setIfInBounds_toArray, List.set_cons_zero, List.set_cons_succ]
          refine take_d14 (i := 6) (d := some 39) (v := ?_) rfl rfl (by kernel_rfl) (by kernel_rfl) (by kernel_rfl) (fun _ _ _ h => h) (Or.inl ⟨by rfl, ?_⟩) (by assumption) ?_
          rotate_left
          · intro w hSw
            (try dsimp only at hSw)
            obtain ⟨s1, s2, s3⟩ := hSw
            go_simp
            try with_reducible rfl
          try simp only [Act.put, List.setIfInBounds_toArray, List.set_cons_zero, List.set_cons_succ]
          refine take_d14 (i := 8) (d := some 41) (v := ?_) rfl rfl (by kernel_rfl) (by kernel_rfl) (by kernel_rfl) (fun _ _ _ h => h) (Or.inl ⟨by rfl, ?_⟩) (by assumption) ?_
          rotate_left
          · intro w hSw
            (try dsimp only at hSw)
            obtain ⟨s1, s2, s3⟩ := hSw
            go_simp
            try with_reducible rfl
          try simp only [Act.put, List.setIfInBounds_toArray, List.set_cons_zero, List.set_cons_succ]
          refine take_d14 (i := 9) (d := some 42) (v := ?_) rfl rfl (by kernel_rfl) (by kernel_rfl) (by kernel_rfl) (fun _ _ _ h => h) (Or.inl ⟨by rfl, ?_⟩) (by assumption) ?_
          rotate_left
          · intro w hSw
            (try dsimp only at hSw)
            obtain ⟨s1, s2, s3⟩ := hSw
            go_simp
            try with_reducible rfl
          try simp only [Act.put, List.setIfInBounds_toArray, List.set_cons_zero, List.set_cons_succ]
          refine take_d14 (i := 10) (d := some 43) (v := ?_) rfl rfl (by kernel_rfl) (by kernel_rfl) (by kernel_rfl) (fun _ _ _ h => h) (Or.inl ⟨by rfl, ?_⟩) (by assumption) ?_
          rotate_left
          · intro w hSw
            (try dsimp only at hSw)
            obtain ⟨s1, s2, s3⟩ := hSw
            go_simp
            try with_reducible rfl
          try simp only [Act.put, List.setIfInBounds_toArray, List.set_cons_zero, List.set_cons_succ]
          refine take_d14 (i := 11) (d := some 44) (v := ?_) rfl rfl (by kernel_rfl) (by kernel_rfl) (by kernel_rfl) (fun _ _ _ h => h) (Or.inl ⟨by rfl, ?_⟩) (by assumption) ?_
          rotate_left
          · intro w hSw
            (try dsimp only at hSw)
            obtain ⟨s1, s2, s3⟩ := hSw
            go_simp
            try with_reducible rfl
          try simp only [Act.put, List.setIfInBounds_toArray, List.set_cons_zero, List.set_cons_succ]
          refine take_d14 (i := 12) (d := some 45) (v := ?_) rfl rfl (by kernel_rfl) (by kernel_rfl) (by kernel_rfl) (fun _ _ _ h => h) (Or.inl ⟨by rfl, ?_⟩) (by assumption) ?_
          rotate_left
          · intro w hSw
            (try dsimp only at hSw)
            obtain ⟨s1, s2, s3⟩ := hSw
            go_simp
            try with_reducible rfl
          try simp only [Act.put, List.setIfInBounds_toArray, List.set_cons_zero, List.set_cons_succ]
          refine take_d14 (i := 13) (d := some 46) (v := ?_) rfl rfl (by kernel_rfl) (by kernel_rfl) (by kernel_rfl) (fun _ _ _ h => h) (Or.inl ⟨by rfl, ?_⟩) (by assumption) ?_
          rotate_left
          · intro w hSw
            (try dsimp only at hSw)
            obtain ⟨s1, s2, s3⟩ := hSw
            go_simp
            try with_reducible rfl
          try simp only [Act.put, List.setIfInBounds_toArray, List.set_cons_zero, List.set_cons_succ]
          refine wpAnyH_ready (rs := [7]) (by kernel_rfl) (by simp) ?_
          refine AllReadyH.cons rfl (fun K hK => ?_) AllReadyH.nil
          go_simp
          refine (HLW.out _).mono ?_
          rintro e wl ⟨rfl, hbl⟩
          go_wp2_with fail
          refine hK.out _ _ (sOf _ _ (by assumption) hbl) (fun hHeld => ?_)
          have hbl2 : Below wq.heap.size wq wl := ⟨hbl.os, hbl.tape, hbl.output, hbl.size, hbl.block⟩
          have HAl := hid' (HAq.out.keep hbl2)
          have HOl := hid' (own_kq HOq.out hbl2)
          have HBl := hid' (below_two HBq.out hbl2)
          clear hK K hbl hbl2
          try simp only [Act.put, List.setIfInBounds_toArray, List.set_cons_zero, List.set_cons_succ]
          refine take_d14 (i := 14) (d := some 47) (v := ?_) rfl rfl (by kernel_rfl) (by kernel_rfl) (by kernel_rfl) (fun _ _ _ h => h) (Or.inl ⟨by rfl, ?_⟩) (by assumption) ?_
          rotate_left
          · intro w hSw
            (try dsimp only at hSw)
            obtain ⟨s1, s2, s3⟩ := hSw
            go_simp
            try with_reducible rfl
          try simp only [Act.put, List.setIfInBounds_toArray, List.set_cons_zero, List.set_cons_succ]
          refine wpAnyH_ready (rs := [15]) (by kernel_rfl) (by simp) ?_
          refine AllReadyH.cons rfl (fun K hK => ?_) AllReadyH.nil
          go_simp
          refine hK.out _ _ (sOf _ _ (by assumption) (bl_alloc wl _)) (fun hHeld => ?_)
          clear hK K
          have HAn := hid' (HAl.out.keep (bl_alloc wl (.cells #[.string y, .string p.v] 42)))
          have HOn := hid' (own_kq HOl.out (bl_alloc wl (.cells #[.string y, .string p.v] 42)))
          have HBn := hid' (below_two HBl.out (bl_alloc wl (.cells #[.string y, .string p.v] 42)))
          have HNW := hid' (two_new wl 42 (.string y) (.string p.v))
          obtain ⟨lb, hlb⟩ : ∃ lb, wl.heap.size = lb := ⟨_, rfl⟩
          rw [hlb] at HNW ⊢
          generalize wl.alloc (.cells #[.string y, .string p.v] 42) = wn at *
          clear hlb HAl HOl HBl
          try simp only [Act.put, List.setIfInBounds_toArray, List.set_cons_zero, List.set_cons_succ]
          refine wpAnyH_ready (rs := [16]) (by kernel_rfl) (by simp) ?_
          refine AllReadyH.cons rfl (fun K hK => ?_) AllReadyH.nil
          refine step_app14 (by rfl) _ _ 22 (by rfl) w.heap.size 42 i0 (.agg #[.string ⟨#[]⟩, .string ⟨#[]⟩]) 2 32 Tryz.underlying22 HI.out HZ0.out HZ1.out HZ2.out (by rfl) (by decide) (.slice qo m qc) m (fC (Ms.LT s (l.take k))) (by rfl) HOn.out ⟨lb, 0, none⟩ 1 1 [.string y, .string p.v] (by rfl) (by rfl) HNW.out (by simp [Value.oneCell']) (by unfold maxLen; omega) (by omega) HBn.out.size ?_
          intro v3 w3 hrow hgrow _
          obtain ⟨v3o, v3c, hv3⟩ := own_shape hrow
          subst hv3
          have hA3 := ar_grown HAn.out hgrow (own_apart HOn.out HAn.out (by decide))
          have hB3 : Below w.heap.size w w3 := HBn.out.grown hgrow HBn.out.size (fun j hj => (own_ty HOn.out j hj).1)
          have hadb : ad.block < w.heap.size := HFB.out ad n cap rfl (by have := HLT.out; omega)
          have hadk : (ad.add (k * 2)).block < w.heap.size := by rw [add_block14]; exact hadb
          have hS3 : w3.cell? ⟨xb, 1, none⟩ = some (.slice (some ad) n cap) ∧ w3.cell? (ad.add (k * 2)) = some (.string p.n) ∧ w3.cell? ⟨(ad.add (k * 2)).block, (ad.add (k * 2)).off + 1, none⟩ = some (.string p.v) := ⟨hA3.cell 1 _ rfl, ((hB3.cell (p := ad.add (k * 2)) hadk).trans (HBn.out.cell (p := ad.add (k * 2)) hadk).symm).trans hHeld.2.1, ((hB3.cell (p := ⟨(ad.add (k * 2)).block, (ad.add (k * 2)).off + 1, none⟩) hadk).trans (HBn.out.cell (p := ⟨(ad.add (k * 2)).block, (ad.add (k * 2)).off + 1, none⟩) hadk).symm).trans hHeld.2.2⟩
          refine hK.out _ _ hS3 (fun hHeld => ?_)
          clear hK K
          have HA3 := hid' hA3
          have HB3 := hid' hB3
          have HR3 := hid' hrow
          have HKF : Hid (Ms.LT s (l.take (k + 1)) = Ms.LT s (l.take k) ++ [⟨y, p.v⟩]) := hid' (by have hh := HRT.out; rw [if_neg (by decide), HSM.out] at hh; exact hh)
          clear hA3 hB3 hrow hgrow hadb hadk
          try simp only [Act.put, List.setIfInBounds_toArray]
          refine take_d14 (i := 17) (d := some 4) (v := ?_) rfl rfl (by kernel_rfl) (by kernel_rfl) (by kernel_rfl) (fun _ _ _ h => h) (Or.inl ⟨by rfl, ?_⟩) (by assumption) ?_
          rotate_left
          · intro w hSw
            (try dsimp only at hSw)
            obtain ⟨s1, s2, s3⟩ := hSw
            go_simp
            try with_reducible rfl
          try simp only [Act.put]
          refine wpAnyH_done (by kernel_rfl) ?_ _
          go_wp2
          go_roundw
          case rel => exact ⟨k + 1, m + 1, v3o, v3c, by go_num, rfl, by have := HLT.out; omega, by omega, hid' (by rw [HKF.out, List.length_append, HML.out]; rfl), hid' (by rw [HKF.out, fC_append]; exact HR3.out), HA3, HB3⟩
          case measure => have := HLT.out; simp [intOf]; omega
        · have hrt := HRT.out
          rw [if_pos rfl, List.append_nil] at hrt
          have s1 : Hid ((Ms.LT s (l.take (k + 1))).length = m) := hid' (by rw [hrt]; exact HML.out)
          have s2 : Hid (wq.ownsRow w.heap.size 42 2 (.slice qo m qc) m (fC (Ms.LT s (l.take (k + 1))))) := hid' (by rw [hrt]; exact HOq.out)
          clear hrt y0q y1q
          go_wp2
          go_roundw
          case rel => exact ⟨k + 1, m, qo, qc, by go_num, rfl, by omega, by omega, s1, s2, HAq, HBq⟩
          case measure => simp [intOf]; omega
      · have hkn : n = k := by omega
        subst hkn
        have hlt2 : ¬ (n : Int) < (n : Int) := by omega
        have HT : Hid (l.take n = l) := hid' (List.take_of_length_le (by rw [HN.out]; exact Nat.le_refl _))
        clear hlt
        go_wp2
        go_ret
        refine ⟨⟨m, qo, qc, rfl, ?_, ?_⟩, HB.out⟩
        · have := HML.out; rw [HT.out] at this; exact this
        · have := HO.out; rw [HT.out] at this; exact this
  · by_cases d2 : 999 < s
    · obtain rfl : st = 500 := by have := HST.out; unfold Ms.stat at this; rw [if_pos (.inr d2)] at this; exact this.symm
      go_wp2_with fail
      refine (HDC.out _).mono ?_
      rintro e w1 ⟨rfl, hb1⟩
      have HB1 := hid' (below_two HB0.out hb1)
      have HA1 := hid' (HA0.out.keep hb1)
      have HO2 := hid' (own_lit w1 42 (fC [⟨Ms.bStatus, yd⟩]) 1 2 rfl (by decide) w.heap.size HB1.out.size)
      have HB2 := hid' (below_two HB1.out (bl_alloc w1 (.cells (fC [⟨Ms.bStatus, yd⟩]).toArray 42)))
      have HA2 := hid' (HA1.out.keep (bl_alloc w1 (.cells (fC [⟨Ms.bStatus, yd⟩]).toArray 42)))
      simp only [fC, fV, Ms.bStatus, List.flatMap_cons, List.flatMap_nil, List.append_nil] at HO2 HB2 HA2
      clear hb1 c0 HB1 HA1
      go_upto_region 5 with fail
      obtain ⟨lb, hlb⟩ : ∃ lb, w1.heap.size = lb := ⟨_, rfl⟩
      rw [hlb] at HO2 ⊢
      clear hlb
      generalize w1.alloc (.cells #[.string ⟨#[58, 115, 116, 97, 116, 117, 115]⟩, .string yd] 42) = w2 at *
      have HL0 : Hid (w2.ownsRow w.heap.size 42 2 (.slice (some ⟨lb, 0, none⟩) 1 1) 1 (fC (Ms.LT s (l.take 0)))) := hid' (by unfold Ms.LT; rw [HSF.out]; exact HO2.out)
      clear HO2
      go_wp2
      go_loopw [4, 5] (fun s4 s5 wr => ∃ (k m : Nat) (qo : Option Addr) (qc : Nat), s5 = .int .i64 (k : Int) ∧ s4 = .slice qo m qc ∧ k ≤ n ∧ m ≤ k + 1 ∧ Hid ((Ms.LT s (l.take k)).length = m) ∧ Hid (wr.ownsRow w.heap.size 42 2 (.slice qo m qc) m (fC (Ms.LT s (l.take k)))) ∧ Hid (Ar wr xb 35 #[.int .i64 s, .slice ao n cap, .string b, tv]) ∧ Hid (Below w.heap.size w wr)) (fun _ s5 _ => n - (intOf s5).toNat)
      case atStart => exact ⟨0, 1, _, _, rfl, rfl, Nat.zero_le _, Nat.le_refl _, hid' rfl, HL0, HA2, HB2⟩
      case round =>
        obtain ⟨k, m, qo, qc, rfl, rfl, hk, hmk, HML, HO, HA, HB⟩ := hrel
        have r1 := HA.out.cell 1 _ rfl
        by_cases hlt : k < n
        · have hlt2 : (k : Int) < (n : Int) := by omega
          obtain ⟨p, hp⟩ : ∃ p, l[k]? = some p := ⟨_, List.getElem?_eq_getElem (by rw [HN.out]; exact hlt)⟩
          obtain ⟨ad, hao, y0, y1⟩ := (H.out.keep HB.out).two k p hp
          subst hao
          have HRT := hid' (Ms.LT_take s hp)
          have HPS := hid' (HS.out p (List.mem_of_getElem? hp))
          obtain ⟨d, hd⟩ : ∃ d, Ms.bnd p.n = d := ⟨_, rfl⟩
          rw [hd] at HRT
          have HBD := hid' (fun W => rbnd14 p.n d hd W HPS.out)
          obtain ⟨y, hy⟩ : ∃ y : ByteArray, (⟨(Tx.lower p.n.data.toList).toArray⟩ : ByteArray) = y := ⟨_, rfl⟩
          have HSM : Hid (Ms.small p = ⟨y, p.v⟩) := hid' (by unfold Ms.small; rw [← hy]; rfl)
          have HLW : Hid (∀ W, Calls Tryz.prog 30 #[.string p.n] W fun e w' => e = .returned (.string y) ∧ Below W.heap.size W w') := hid' (fun W => by have := rLower_any p.n W (by have := HPS.out; unfold maxLen; omega); rwa [hy] at this)
          have HLT := hid' hlt
          clear hp hd hy
          go_wp2_with fail
          refine (HBD.out _).mono ?_
          rintro e wq ⟨rfl, hbq⟩
          have HBq := hid' (below_two HB.out hbq)
          have HOq := hid' (own_kq HO.out hbq)
          have HAq := hid' (HA.out.keep hbq)
          have y0q := (hbq.cell (cell_lt y0)).trans y0
          have y1q := (hbq.cell (cell_lt y1)).trans y1
          clear hbq y0 y1 r1 HB HO HA
          cases d
          · skip
            have q1 := HAq.out.cell 1 _ rfl
            have hSq : wq.cell? ⟨xb, 1, none⟩ = some (.slice (some ad) n cap) ∧ wq.cell? (ad.add (k * 2)) = some (.string p.n) ∧ wq.cell? ⟨(ad.add (k * 2)).block, (ad.add (k * 2)).off + 1, none⟩ = some (.string p.v) := ⟨q1, y0q, y1q⟩
            have sOf : ∀ W W1 : World, (W.cell? ⟨xb, 1, none⟩ = some (.slice (some ad) n cap) ∧ W.cell? (ad.add (k * 2)) = some (.string p.n) ∧ W.cell? ⟨(ad.add (k * 2)).block, (ad.add (k * 2)).off + 1, none⟩ = some (.string p.v)) → Below W.heap.size W W1 → (W1.cell? ⟨xb, 1, none⟩ = some (.slice (some ad) n cap) ∧ W1.cell? (ad.add (k * 2)) = some (.string p.n) ∧ W1.cell? ⟨(ad.add (k * 2)).block, (ad.add (k * 2)).off + 1, none⟩ = some (.string p.v)) := fun W W1 h hb => ⟨(hb.cell (cell_lt h.1)).trans h.1, (hb.cell (cell_lt h.2.1)).trans h.2.1, (hb.cell (cell_lt h.2.2)).trans h.2.2⟩
            go_upto_region 9 with fail
            refine wp_region_held_drew (S := fun W => W.cell? ⟨xb, 1, none⟩ = some (.slice (some ad) n cap) ∧ W.cell? (ad.add (k * 2)) = some (.string p.n) ∧ W.cell? ⟨(ad.add (k * 2)).block, (ad.add (k * 2)).off + 1, none⟩ = some (.string p.v)) (by kernel_rfl) (sOf _ _ hSq ((Below.refl _ _).drew)) (fun hHeld => ?_)
            refine take_d14 (i := 0) (d := some 33) (v := ?_) rfl rfl (by kernel_rfl) (by kernel_rfl) (by kernel_rfl) (fun _ _ _ h => h) (Or.inl ⟨by rfl, ?_⟩) (by assumption) ?_
            rotate_left
            · intro w hSw
              (try dsimp only at hSw)
              obtain ⟨s1, s2, s3⟩ := hSw
              go_simp
              try with_reducible rfl
            try simp only [Act.put, List.setIfInBounds_toArray, List.set_cons_zero, List.set_cons_succ]
            refine take_d14 (i := 1) (d := some 34) (v := ?_) rfl rfl (by kernel_rfl) (by kernel_rfl) (by kernel_rfl) (fun _ _ _ h => h) (Or.inl ⟨by rfl, ?_⟩) (by assumption) ?_
            rotate_left
            · intro w hSw
              (try dsimp only at hSw)
              obtain ⟨s1, s2, s3⟩ := hSw
              go_simp
              try with_reducible rfl
            try simp only [Act.put, List.setIfInBounds_toArray, List.set_cons_zero, List.set_cons_succ]
            refine take_d14 (i := 2) (d := some 35) (v := ?_) rfl rfl (by kernel_rfl) (by kernel_rfl) (by kernel_rfl) (fun _ _ _ h => h) (Or.inl ⟨by rfl, ?_⟩) (by assumption) ?_
            rotate_left
            · intro w hSw
              (try dsimp only at hSw)
              obtain ⟨s1, s2, s3⟩ := hSw
              go_simp
              try with_reducible rfl
            try simp only [Act.put, List.setIfInBounds_toArray, List.set_cons_zero, List.set_cons_succ]
            refine take_d14 (i := 3) (d := some 36) (v := ?_) rfl rfl (by kernel_rfl) (by kernel_rfl) (by kernel_rfl) (fun _ _ _ h => h) (Or.inl ⟨by rfl, ?_⟩) (by assumption) ?_
            rotate_left
            · intro w hSw
              (try dsimp only at hSw)
              obtain ⟨s1, s2, s3⟩ := hSw
              go_simp
              try with_reducible rfl
            try simp only [Act.put, List.setIfInBounds_toArray, List.set_cons_zero, List.set_cons_succ]
            refine take_d14 (i := 4) (d := some 37) (v := ?_) rfl rfl (by kernel_rfl) (by kernel_rfl) (by kernel_rfl) (fun _ _ _ h => h) (Or.inl ⟨by rfl, ?_⟩) (by assumption) ?_
            rotate_left
            · intro w hSw
              (try dsimp only at hSw)
              obtain ⟨s1, s2, s3⟩ := hSw
              go_simp
              try with_reducible rfl
            try simp only [Act.put, List.setIfInBounds_toArray, List.set_cons_zero, List.set_cons_succ]
            refine take_d14 (i := 5) (d := some 38) (v := ?_) rfl rfl (by kernel_rfl) (by kernel_rfl) (by kernel_rfl) (fun _ _ _ h => h) (Or.inl ⟨by rfl, ?_⟩) (by assumption) ?_
            rotate_left
            · intro w hSw
              (try dsimp only at hSw)
              obtain ⟨s1, s2, s3⟩ := hSw
              go_simp
              try with_reducible rfl
            try simp only [Act.put, List.setIfInBounds_toArray, List.set_cons_zero, List.set_cons_succ]
            refine take_d14 (i := 6) (d := some 39) (v := ?_) rfl rfl (by kernel_rfl) (by kernel_rfl) (by kernel_rfl) (fun _ _ _ h => h) (Or.inl ⟨by rfl, ?_⟩) (by assumption) ?_
            rotate_left
            · intro w hSw
              (try dsimp only at hSw)
              obtain ⟨s1, s2, s3⟩ := hSw
              go_simp
              try with_reducible rfl
            try simp only [Act.put, List.setIfInBounds_toArray, List.set_cons_zero, List.set_cons_succ]
            refine take_d14 (i := 8) (d := some 41) (v := ?_) rfl rfl (by kernel_rfl) (by kernel_rfl) (by kernel_rfl) (fun _ _ _ h => h) (Or.inl ⟨by rfl, ?_⟩) (by assumption) ?_
            rotate_left
            · intro w hSw
              (try dsimp only at hSw)
              obtain ⟨s1, s2, s3⟩ := hSw
              go_simp
              try with_reducible rfl
            try simp only [Act.put, List.setIfInBounds_toArray, List.set_cons_zero, List.set_cons_succ]
            refine take_d14 (i := 9) (d := some 42) (v := ?_) rfl rfl (by kernel_rfl) (by kernel_rfl) (by kernel_rfl) (fun _ _ _ h => h) (Or.inl ⟨by rfl, ?_⟩) (by assumption) ?_
            rotate_left
            · intro w hSw
              (try dsimp only at hSw)
              obtain ⟨s1, s2, s3⟩ := hSw
              go_simp
              try with_reducible rfl
            try simp only [Act.put, List.setIfInBounds_toArray, List.set_cons_zero, List.set_cons_succ]
            refine take_d14 (i := 10) (d := some 43) (v := ?_) rfl rfl (by kernel_rfl) (by kernel_rfl) (by kernel_rfl) (fun _ _ _ h => h) (Or.inl ⟨by rfl, ?_⟩) (by assumption) ?_
            rotate_left
            · intro w hSw
              (try dsimp only at hSw)
              obtain ⟨s1, s2, s3⟩ := hSw
              go_simp
              try with_reducible rfl
            try simp only [Act.put, List.setIfInBounds_toArray, List.set_cons_zero, List.set_cons_succ]
            refine take_d14 (i := 11) (d := some 44) (v := ?_) rfl rfl (by kernel_rfl) (by kernel_rfl) (by kernel_rfl) (fun _ _ _ h => h) (Or.inl ⟨by rfl, ?_⟩) (by assumption) ?_
            rotate_left
            · intro w hSw
              (try dsimp only at hSw)
              obtain ⟨s1, s2, s3⟩ := hSw
              go_simp
              try with_reducible rfl
            try simp only [Act.put, List.setIfInBounds_toArray, List.set_cons_zero, List.set_cons_succ]
            refine take_d14 (i := 12) (d := some 45) (v := ?_) rfl rfl (by kernel_rfl) (by kernel_rfl) (by kernel_rfl) (fun _ _ _ h => h) (Or.inl ⟨by rfl, ?_⟩) (by assumption) ?_
            rotate_left
            · intro w hSw
              (try dsimp only at hSw)
              obtain ⟨s1, s2, s3⟩ := hSw
              go_simp
              try with_reducible rfl
            try simp only [Act.put, List.setIfInBounds_toArray, List.set_cons_zero, List.set_cons_succ]
            refine take_d14 (i := 13) (d := some 46) (v := ?_) rfl rfl (by kernel_rfl) (by kernel_rfl) (by kernel_rfl) (fun _ _ _ h => h) (Or.inl ⟨by rfl, ?_⟩) (by assumption) ?_
            rotate_left
            · intro w hSw
              (try dsimp only at hSw)
              obtain ⟨s1, s2, s3⟩ := hSw
              go_simp
              try with_reducible rfl
            try simp only [Act.put, List.setIfInBounds_toArray, List.set_cons_zero, List.set_cons_succ]
            refine wpAnyH_ready (rs := [7]) (by kernel_rfl) (by simp) ?_
            refine AllReadyH.cons rfl (fun K hK => ?_) AllReadyH.nil
            go_simp
            refine (HLW.out _).mono ?_
            rintro e wl ⟨rfl, hbl⟩
            go_wp2_with fail
            refine hK.out _ _ (sOf _ _ (by assumption) hbl) (fun hHeld => ?_)
            have hbl2 : Below wq.heap.size wq wl := ⟨hbl.os, hbl.tape, hbl.output, hbl.size, hbl.block⟩
            have HAl := hid' (HAq.out.keep hbl2)
            have HOl := hid' (own_kq HOq.out hbl2)
            have HBl := hid' (below_two HBq.out hbl2)
            clear hK K hbl hbl2
            try simp only [Act.put, List.setIfInBounds_toArray, List.set_cons_zero, List.set_cons_succ]
            refine take_d14 (i := 14) (d := some 47) (v := ?_) rfl rfl (by kernel_rfl) (by kernel_rfl) (by kernel_rfl) (fun _ _ _ h => h) (Or.inl ⟨by rfl, ?_⟩) (by assumption) ?_
            rotate_left
            · intro w hSw
              (try dsimp only at hSw)
              obtain ⟨s1, s2, s3⟩ := hSw
              go_simp
              try with_reducible rfl
            try simp only [Act.put, List.setIfInBounds_toArray, List.set_cons_zero, List.set_cons_succ]
            refine wpAnyH_ready (rs := [15]) (by kernel_rfl) (by simp) ?_
            refine AllReadyH.cons rfl (fun K hK => ?_) AllReadyH.nil
            go_simp
            refine hK.out _ _ (sOf _ _ (by assumption) (bl_alloc wl _)) (fun hHeld => ?_)
            clear hK K
            have HAn := hid' (HAl.out.keep (bl_alloc wl (.cells #[.string y, .string p.v] 42)))
            have HOn := hid' (own_kq HOl.out (bl_alloc wl (.cells #[.string y, .string p.v] 42)))
            have HBn := hid' (below_two HBl.out (bl_alloc wl (.cells #[.string y, .string p.v] 42)))
            have HNW := hid' (two_new wl 42 (.string y) (.string p.v))
            obtain ⟨lb, hlb⟩ : ∃ lb, wl.heap.size = lb := ⟨_, rfl⟩
            rw [hlb] at HNW ⊢
            generalize wl.alloc (.cells #[.string y, .string p.v] 42) = wn at *
            clear hlb HAl HOl HBl
            try simp only [Act.put, List.setIfInBounds_toArray, List.set_cons_zero, List.set_cons_succ]
            refine wpAnyH_ready (rs := [16]) (by kernel_rfl) (by simp) ?_
            refine AllReadyH.cons rfl (fun K hK => ?_) AllReadyH.nil
            refine step_app14 (by rfl) _ _ 22 (by rfl) w.heap.size 42 i0 (.agg #[.string ⟨#[]⟩, .string ⟨#[]⟩]) 2 32 Tryz.underlying22 HI.out HZ0.out HZ1.out HZ2.out (by rfl) (by decide) (.slice qo m qc) m (fC (Ms.LT s (l.take k))) (by rfl) HOn.out ⟨lb, 0, none⟩ 1 1 [.string y, .string p.v] (by rfl) (by rfl) HNW.out (by simp [Value.oneCell']) (by unfold maxLen; omega) (by omega) HBn.out.size ?_
            intro v3 w3 hrow hgrow _
            obtain ⟨v3o, v3c, hv3⟩ := own_shape hrow
            subst hv3
            have hA3 := ar_grown HAn.out hgrow (own_apart HOn.out HAn.out (by decide))
            have hB3 : Below w.heap.size w w3 := HBn.out.grown hgrow HBn.out.size (fun j hj => (own_ty HOn.out j hj).1)
            have hadb : ad.block < w.heap.size := HFB.out ad n cap rfl (by have := HLT.out; omega)
            have hadk : (ad.add (k * 2)).block < w.heap.size := by rw [add_block14]; exact hadb
            have hS3 : w3.cell? ⟨xb, 1, none⟩ = some (.slice (some ad) n cap) ∧ w3.cell? (ad.add (k * 2)) = some (.string p.n) ∧ w3.cell? ⟨(ad.add (k * 2)).block, (ad.add (k * 2)).off + 1, none⟩ = some (.string p.v) := ⟨hA3.cell 1 _ rfl, ((hB3.cell (p := ad.add (k * 2)) hadk).trans (HBn.out.cell (p := ad.add (k * 2)) hadk).symm).trans hHeld.2.1, ((hB3.cell (p := ⟨(ad.add (k * 2)).block, (ad.add (k * 2)).off + 1, none⟩) hadk).trans (HBn.out.cell (p := ⟨(ad.add (k * 2)).block, (ad.add (k * 2)).off + 1, none⟩) hadk).symm).trans hHeld.2.2⟩
            refine hK.out _ _ hS3 (fun hHeld => ?_)
            clear hK K
            have HA3 := hid' hA3
            have HB3 := hid' hB3
            have HR3 := hid' hrow
            have HKF : Hid (Ms.LT s (l.take (k + 1)) = Ms.LT s (l.take k) ++ [⟨y, p.v⟩]) := hid' (by have hh := HRT.out; rw [if_neg (by decide), HSM.out] at hh; exact hh)
            clear hA3 hB3 hrow hgrow hadb hadk
            try simp only [Act.put, List.setIfInBounds_toArray]
            refine take_d14 (i := 17) (d := some 4) (v := ?_) rfl rfl (by kernel_rfl) (by kernel_rfl) (by kernel_rfl) (fun _ _ _ h => h) (Or.inl ⟨by rfl, ?_⟩) (by assumption) ?_
            rotate_left
            · intro w hSw
              (try dsimp only at hSw)
              obtain ⟨s1, s2, s3⟩ := hSw
              go_simp
              try with_reducible rfl
            try simp only [Act.put]
            refine wpAnyH_done (by kernel_rfl) ?_ _
            go_wp2
            go_roundw
            case rel => exact ⟨k + 1, m + 1, v3o, v3c, by go_num, rfl, by have := HLT.out; omega, by omega, hid' (by rw [HKF.out, List.length_append, HML.out]; rfl), hid' (by rw [HKF.out, fC_append]; exact HR3.out), HA3, HB3⟩
            case measure => have := HLT.out; simp [intOf]; omega
          · have hrt := HRT.out
            rw [if_pos rfl, List.append_nil] at hrt
            have s1 : Hid ((Ms.LT s (l.take (k + 1))).length = m) := hid' (by rw [hrt]; exact HML.out)
            have s2 : Hid (wq.ownsRow w.heap.size 42 2 (.slice qo m qc) m (fC (Ms.LT s (l.take (k + 1))))) := hid' (by rw [hrt]; exact HOq.out)
            clear hrt y0q y1q
            go_wp2
            go_roundw
            case rel => exact ⟨k + 1, m, qo, qc, by go_num, rfl, by omega, by omega, s1, s2, HAq, HBq⟩
            case measure => simp [intOf]; omega
        · have hkn : n = k := by omega
          subst hkn
          have hlt2 : ¬ (n : Int) < (n : Int) := by omega
          have HT : Hid (l.take n = l) := hid' (List.take_of_length_le (by rw [HN.out]; exact Nat.le_refl _))
          clear hlt
          go_wp2
          go_ret
          refine ⟨⟨m, qo, qc, rfl, ?_, ?_⟩, HB.out⟩
          · have := HML.out; rw [HT.out] at this; exact this
          · have := HO.out; rw [HT.out] at this; exact this
    · have hss : s = st := by have := HST.out; unfold Ms.stat at this; rw [if_neg (by omega)] at this; exact this
      subst hss
      go_wp2_with fail
      refine (HDC.out _).mono ?_
      rintro e w1 ⟨rfl, hb1⟩
      have HB1 := hid' (below_two HB0.out hb1)
      have HA1 := hid' (HA0.out.keep hb1)
      have HO2 := hid' (own_lit w1 42 (fC [⟨Ms.bStatus, yd⟩]) 1 2 rfl (by decide) w.heap.size HB1.out.size)
      have HB2 := hid' (below_two HB1.out (bl_alloc w1 (.cells (fC [⟨Ms.bStatus, yd⟩]).toArray 42)))
      have HA2 := hid' (HA1.out.keep (bl_alloc w1 (.cells (fC [⟨Ms.bStatus, yd⟩]).toArray 42)))
      simp only [fC, fV, Ms.bStatus, List.flatMap_cons, List.flatMap_nil, List.append_nil] at HO2 HB2 HA2
      clear hb1 c0 HB1 HA1
      go_upto_region 5 with fail
      obtain ⟨lb, hlb⟩ : ∃ lb, w1.heap.size = lb := ⟨_, rfl⟩
      rw [hlb] at HO2 ⊢
      clear hlb
      generalize w1.alloc (.cells #[.string ⟨#[58, 115, 116, 97, 116, 117, 115]⟩, .string yd] 42) = w2 at *
      have HL0 : Hid (w2.ownsRow w.heap.size 42 2 (.slice (some ⟨lb, 0, none⟩) 1 1) 1 (fC (Ms.LT s (l.take 0)))) := hid' (by unfold Ms.LT; rw [HSF.out]; exact HO2.out)
      clear HO2
      go_wp2
      go_loopw [4, 5] (fun s4 s5 wr => ∃ (k m : Nat) (qo : Option Addr) (qc : Nat), s5 = .int .i64 (k : Int) ∧ s4 = .slice qo m qc ∧ k ≤ n ∧ m ≤ k + 1 ∧ Hid ((Ms.LT s (l.take k)).length = m) ∧ Hid (wr.ownsRow w.heap.size 42 2 (.slice qo m qc) m (fC (Ms.LT s (l.take k)))) ∧ Hid (Ar wr xb 35 #[.int .i64 s, .slice ao n cap, .string b, tv]) ∧ Hid (Below w.heap.size w wr)) (fun _ s5 _ => n - (intOf s5).toNat)
      case atStart => exact ⟨0, 1, _, _, rfl, rfl, Nat.zero_le _, Nat.le_refl _, hid' rfl, HL0, HA2, HB2⟩
      case round =>
        obtain ⟨k, m, qo, qc, rfl, rfl, hk, hmk, HML, HO, HA, HB⟩ := hrel
        have r1 := HA.out.cell 1 _ rfl
        by_cases hlt : k < n
        · have hlt2 : (k : Int) < (n : Int) := by omega
          obtain ⟨p, hp⟩ : ∃ p, l[k]? = some p := ⟨_, List.getElem?_eq_getElem (by rw [HN.out]; exact hlt)⟩
          obtain ⟨ad, hao, y0, y1⟩ := (H.out.keep HB.out).two k p hp
          subst hao
          have HRT := hid' (Ms.LT_take s hp)
          have HPS := hid' (HS.out p (List.mem_of_getElem? hp))
          obtain ⟨d, hd⟩ : ∃ d, Ms.bnd p.n = d := ⟨_, rfl⟩
          rw [hd] at HRT
          have HBD := hid' (fun W => rbnd14 p.n d hd W HPS.out)
          obtain ⟨y, hy⟩ : ∃ y : ByteArray, (⟨(Tx.lower p.n.data.toList).toArray⟩ : ByteArray) = y := ⟨_, rfl⟩
          have HSM : Hid (Ms.small p = ⟨y, p.v⟩) := hid' (by unfold Ms.small; rw [← hy]; rfl)
          have HLW : Hid (∀ W, Calls Tryz.prog 30 #[.string p.n] W fun e w' => e = .returned (.string y) ∧ Below W.heap.size W w') := hid' (fun W => by have := rLower_any p.n W (by have := HPS.out; unfold maxLen; omega); rwa [hy] at this)
          have HLT := hid' hlt
          clear hp hd hy
          go_wp2_with fail
          refine (HBD.out _).mono ?_
          rintro e wq ⟨rfl, hbq⟩
          have HBq := hid' (below_two HB.out hbq)
          have HOq := hid' (own_kq HO.out hbq)
          have HAq := hid' (HA.out.keep hbq)
          have y0q := (hbq.cell (cell_lt y0)).trans y0
          have y1q := (hbq.cell (cell_lt y1)).trans y1
          clear hbq y0 y1 r1 HB HO HA
          cases d
          · skip
            have q1 := HAq.out.cell 1 _ rfl
            have hSq : wq.cell? ⟨xb, 1, none⟩ = some (.slice (some ad) n cap) ∧ wq.cell? (ad.add (k * 2)) = some (.string p.n) ∧ wq.cell? ⟨(ad.add (k * 2)).block, (ad.add (k * 2)).off + 1, none⟩ = some (.string p.v) := ⟨q1, y0q, y1q⟩
            have sOf : ∀ W W1 : World, (W.cell? ⟨xb, 1, none⟩ = some (.slice (some ad) n cap) ∧ W.cell? (ad.add (k * 2)) = some (.string p.n) ∧ W.cell? ⟨(ad.add (k * 2)).block, (ad.add (k * 2)).off + 1, none⟩ = some (.string p.v)) → Below W.heap.size W W1 → (W1.cell? ⟨xb, 1, none⟩ = some (.slice (some ad) n cap) ∧ W1.cell? (ad.add (k * 2)) = some (.string p.n) ∧ W1.cell? ⟨(ad.add (k * 2)).block, (ad.add (k * 2)).off + 1, none⟩ = some (.string p.v)) := fun W W1 h hb => ⟨(hb.cell (cell_lt h.1)).trans h.1, (hb.cell (cell_lt h.2.1)).trans h.2.1, (hb.cell (cell_lt h.2.2)).trans h.2.2⟩
            go_upto_region 9 with fail
            refine wp_region_held_drew (S := fun W => W.cell? ⟨xb, 1, none⟩ = some (.slice (some ad) n cap) ∧ W.cell? (ad.add (k * 2)) = some (.string p.n) ∧ W.cell? ⟨(ad.add (k * 2)).block, (ad.add (k * 2)).off + 1, none⟩ = some (.string p.v)) (by kernel_rfl) (sOf _ _ hSq ((Below.refl _ _).drew)) (fun hHeld => ?_)
            refine take_d14 (i := 0) (d := some 33) (v := ?_) rfl rfl (by kernel_rfl) (by kernel_rfl) (by kernel_rfl) (fun _ _ _ h => h) (Or.inl ⟨by rfl, ?_⟩) (by assumption) ?_
            rotate_left
            · intro w hSw
              (try dsimp only at hSw)
              obtain ⟨s1, s2, s3⟩ := hSw
              go_simp
              try with_reducible rfl
            try simp only [Act.put, List.setIfInBounds_toArray, List.set_cons_zero, List.set_cons_succ]
            refine take_d14 (i := 1) (d := some 34) (v := ?_) rfl rfl (by kernel_rfl) (by kernel_rfl) (by kernel_rfl) (fun _ _ _ h => h) (Or.inl ⟨by rfl, ?_⟩) (by assumption) ?_
            rotate_left
            · intro w hSw
              (try dsimp only at hSw)
              obtain ⟨s1, s2, s3⟩ := hSw
              go_simp
              try with_reducible rfl
            try simp only [Act.put, List.setIfInBounds_toArray, List.set_cons_zero, List.set_cons_succ]
            refine take_d14 (i := 2) (d := some 35) (v := ?_) rfl rfl (by kernel_rfl) (by kernel_rfl) (by kernel_rfl) (fun _ _ _ h => h) (Or.inl ⟨by rfl, ?_⟩) (by assumption) ?_
            rotate_left
            · intro w hSw
              (try dsimp only at hSw)
              obtain ⟨s1, s2, s3⟩ := hSw
              go_simp
              try with_reducible rfl
            try simp only [Act.put, List.setIfInBounds_toArray, List.set_cons_zero, List.set_cons_succ]
            refine take_d14 (i := 3) (d := some 36) (v := ?_) rfl rfl (by kernel_rfl) (by kernel_rfl) (by kernel_rfl) (fun _ _ _ h => h) (Or.inl ⟨by rfl, ?_⟩) (by assumption) ?_
            rotate_left
            · intro w hSw
              (try dsimp only at hSw)
              obtain ⟨s1, s2, s3⟩ := hSw
              go_simp
              try with_reducible rfl
            try simp only [Act.put, List.setIfInBounds_toArray, List.set_cons_zero, List.set_cons_succ]
            refine take_d14 (i := 4) (d := some 37) (v := ?_) rfl rfl (by kernel_rfl) (by kernel_rfl) (by kernel_rfl) (fun _ _ _ h => h) (Or.inl ⟨by rfl, ?_⟩) (by assumption) ?_
            rotate_left
            · intro w hSw
              (try dsimp only at hSw)
              obtain ⟨s1, s2, s3⟩ := hSw
              go_simp
              try with_reducible rfl
            try simp only [Act.put, List.setIfInBounds_toArray, List.set_cons_zero, List.set_cons_succ]
            refine take_d14 (i := 5) (d := some 38) (v := ?_) rfl rfl (by kernel_rfl) (by kernel_rfl) (by kernel_rfl) (fun _ _ _ h => h) (Or.inl ⟨by rfl, ?_⟩) (by assumption) ?_
            rotate_left
            · intro w hSw
              (try dsimp only at hSw)
              obtain ⟨s1, s2, s3⟩ := hSw
              go_simp
              try with_reducible rfl
            try simp only [Act.put, List.setIfInBounds_toArray, List.set_cons_zero, List.set_cons_succ]
            refine take_d14 (i := 6) (d := some 39) (v := ?_) rfl rfl (by kernel_rfl) (by kernel_rfl) (by kernel_rfl) (fun _ _ _ h => h) (Or.inl ⟨by rfl, ?_⟩) (by assumption) ?_
            rotate_left
            · intro w hSw
              (try dsimp only at hSw)
              obtain ⟨s1, s2, s3⟩ := hSw
              go_simp
              try with_reducible rfl
            try simp only [Act.put, List.setIfInBounds_toArray, List.set_cons_zero, List.set_cons_succ]
            refine take_d14 (i := 8) (d := some 41) (v := ?_) rfl rfl (by kernel_rfl) (by kernel_rfl) (by kernel_rfl) (fun _ _ _ h => h) (Or.inl ⟨by rfl, ?_⟩) (by assumption) ?_
            rotate_left
            · intro w hSw
              (try dsimp only at hSw)
              obtain ⟨s1, s2, s3⟩ := hSw
              go_simp
              try with_reducible rfl
            try simp only [Act.put, List.setIfInBounds_toArray, List.set_cons_zero, List.set_cons_succ]
            refine take_d14 (i := 9) (d := some 42) (v := ?_) rfl rfl (by kernel_rfl) (by kernel_rfl) (by kernel_rfl) (fun _ _ _ h => h) (Or.inl ⟨by rfl, ?_⟩) (by assumption) ?_
            rotate_left
            · intro w hSw
              (try dsimp only at hSw)
              obtain ⟨s1, s2, s3⟩ := hSw
              go_simp
              try with_reducible rfl
            try simp only [Act.put, List.setIfInBounds_toArray, List.set_cons_zero, List.set_cons_succ]
            refine take_d14 (i := 10) (d := some 43) (v := ?_) rfl rfl (by kernel_rfl) (by kernel_rfl) (by kernel_rfl) (fun _ _ _ h => h) (Or.inl ⟨by rfl, ?_⟩) (by assumption) ?_
            rotate_left
            · intro w hSw
              (try dsimp only at hSw)
              obtain ⟨s1, s2, s3⟩ := hSw
              go_simp
              try with_reducible rfl
            try simp only [Act.put, List.setIfInBounds_toArray, List.set_cons_zero, List.set_cons_succ]
            refine take_d14 (i := 11) (d := some 44) (v := ?_) rfl rfl (by kernel_rfl) (by kernel_rfl) (by kernel_rfl) (fun _ _ _ h => h) (Or.inl ⟨by rfl, ?_⟩) (by assumption) ?_
            rotate_left
            · intro w hSw
              (try dsimp only at hSw)
              obtain ⟨s1, s2, s3⟩ := hSw
              go_simp
              try with_reducible rfl
            try simp only [Act.put, List.setIfInBounds_toArray, List.set_cons_zero, List.set_cons_succ]
            refine take_d14 (i := 12) (d := some 45) (v := ?_) rfl rfl (by kernel_rfl) (by kernel_rfl) (by kernel_rfl) (fun _ _ _ h => h) (Or.inl ⟨by rfl, ?_⟩) (by assumption) ?_
            rotate_left
            · intro w hSw
              (try dsimp only at hSw)
              obtain ⟨s1, s2, s3⟩ := hSw
              go_simp
              try with_reducible rfl
            try simp only [Act.put, List.setIfInBounds_toArray, List.set_cons_zero, List.set_cons_succ]
            refine take_d14 (i := 13) (d := some 46) (v := ?_) rfl rfl (by kernel_rfl) (by kernel_rfl) (by kernel_rfl) (fun _ _ _ h => h) (Or.inl ⟨by rfl, ?_⟩) (by assumption) ?_
            rotate_left
            · intro w hSw
              (try dsimp only at hSw)
              obtain ⟨s1, s2, s3⟩ := hSw
              go_simp
              try with_reducible rfl
            try simp only [Act.put, List.setIfInBounds_toArray, List.set_cons_zero, List.set_cons_succ]
            refine wpAnyH_ready (rs := [7]) (by kernel_rfl) (by simp) ?_
            refine AllReadyH.cons rfl (fun K hK => ?_) AllReadyH.nil
            go_simp
            refine (HLW.out _).mono ?_
            rintro e wl ⟨rfl, hbl⟩
            go_wp2_with fail
            refine hK.out _ _ (sOf _ _ (by assumption) hbl) (fun hHeld => ?_)
            have hbl2 : Below wq.heap.size wq wl := ⟨hbl.os, hbl.tape, hbl.output, hbl.size, hbl.block⟩
            have HAl := hid' (HAq.out.keep hbl2)
            have HOl := hid' (own_kq HOq.out hbl2)
            have HBl := hid' (below_two HBq.out hbl2)
            clear hK K hbl hbl2
            try simp only [Act.put, List.setIfInBounds_toArray, List.set_cons_zero, List.set_cons_succ]
            refine take_d14 (i := 14) (d := some 47) (v := ?_) rfl rfl (by kernel_rfl) (by kernel_rfl) (by kernel_rfl) (fun _ _ _ h => h) (Or.inl ⟨by rfl, ?_⟩) (by assumption) ?_
            rotate_left
            · intro w hSw
              (try dsimp only at hSw)
              obtain ⟨s1, s2, s3⟩ := hSw
              go_simp
              try with_reducible rfl
            try simp only [Act.put, List.setIfInBounds_toArray, List.set_cons_zero, List.set_cons_succ]
            refine wpAnyH_ready (rs := [15]) (by kernel_rfl) (by simp) ?_
            refine AllReadyH.cons rfl (fun K hK => ?_) AllReadyH.nil
            go_simp
            refine hK.out _ _ (sOf _ _ (by assumption) (bl_alloc wl _)) (fun hHeld => ?_)
            clear hK K
            have HAn := hid' (HAl.out.keep (bl_alloc wl (.cells #[.string y, .string p.v] 42)))
            have HOn := hid' (own_kq HOl.out (bl_alloc wl (.cells #[.string y, .string p.v] 42)))
            have HBn := hid' (below_two HBl.out (bl_alloc wl (.cells #[.string y, .string p.v] 42)))
            have HNW := hid' (two_new wl 42 (.string y) (.string p.v))
            obtain ⟨lb, hlb⟩ : ∃ lb, wl.heap.size = lb := ⟨_, rfl⟩
            rw [hlb] at HNW ⊢
            generalize wl.alloc (.cells #[.string y, .string p.v] 42) = wn at *
            clear hlb HAl HOl HBl
            try simp only [Act.put, List.setIfInBounds_toArray, List.set_cons_zero, List.set_cons_succ]
            refine wpAnyH_ready (rs := [16]) (by kernel_rfl) (by simp) ?_
            refine AllReadyH.cons rfl (fun K hK => ?_) AllReadyH.nil
            refine step_app14 (by rfl) _ _ 22 (by rfl) w.heap.size 42 i0 (.agg #[.string ⟨#[]⟩, .string ⟨#[]⟩]) 2 32 Tryz.underlying22 HI.out HZ0.out HZ1.out HZ2.out (by rfl) (by decide) (.slice qo m qc) m (fC (Ms.LT s (l.take k))) (by rfl) HOn.out ⟨lb, 0, none⟩ 1 1 [.string y, .string p.v] (by rfl) (by rfl) HNW.out (by simp [Value.oneCell']) (by unfold maxLen; omega) (by omega) HBn.out.size ?_
            intro v3 w3 hrow hgrow _
            obtain ⟨v3o, v3c, hv3⟩ := own_shape hrow
            subst hv3
            have hA3 := ar_grown HAn.out hgrow (own_apart HOn.out HAn.out (by decide))
            have hB3 : Below w.heap.size w w3 := HBn.out.grown hgrow HBn.out.size (fun j hj => (own_ty HOn.out j hj).1)
            have hadb : ad.block < w.heap.size := HFB.out ad n cap rfl (by have := HLT.out; omega)
            have hadk : (ad.add (k * 2)).block < w.heap.size := by rw [add_block14]; exact hadb
            have hS3 : w3.cell? ⟨xb, 1, none⟩ = some (.slice (some ad) n cap) ∧ w3.cell? (ad.add (k * 2)) = some (.string p.n) ∧ w3.cell? ⟨(ad.add (k * 2)).block, (ad.add (k * 2)).off + 1, none⟩ = some (.string p.v) := ⟨hA3.cell 1 _ rfl, ((hB3.cell (p := ad.add (k * 2)) hadk).trans (HBn.out.cell (p := ad.add (k * 2)) hadk).symm).trans hHeld.2.1, ((hB3.cell (p := ⟨(ad.add (k * 2)).block, (ad.add (k * 2)).off + 1, none⟩) hadk).trans (HBn.out.cell (p := ⟨(ad.add (k * 2)).block, (ad.add (k * 2)).off + 1, none⟩) hadk).symm).trans hHeld.2.2⟩
            refine hK.out _ _ hS3 (fun hHeld => ?_)
            clear hK K
            have HA3 := hid' hA3
            have HB3 := hid' hB3
            have HR3 := hid' hrow
            have HKF : Hid (Ms.LT s (l.take (k + 1)) = Ms.LT s (l.take k) ++ [⟨y, p.v⟩]) := hid' (by have hh := HRT.out; rw [if_neg (by decide), HSM.out] at hh; exact hh)
            clear hA3 hB3 hrow hgrow hadb hadk
            try simp only [Act.put, List.setIfInBounds_toArray]
            refine take_d14 (i := 17) (d := some 4) (v := ?_) rfl rfl (by kernel_rfl) (by kernel_rfl) (by kernel_rfl) (fun _ _ _ h => h) (Or.inl ⟨by rfl, ?_⟩) (by assumption) ?_
            rotate_left
            · intro w hSw
              (try dsimp only at hSw)
              obtain ⟨s1, s2, s3⟩ := hSw
              go_simp
              try with_reducible rfl
            try simp only [Act.put]
            refine wpAnyH_done (by kernel_rfl) ?_ _
            go_wp2
            go_roundw
            case rel => exact ⟨k + 1, m + 1, v3o, v3c, by go_num, rfl, by have := HLT.out; omega, by omega, hid' (by rw [HKF.out, List.length_append, HML.out]; rfl), hid' (by rw [HKF.out, fC_append]; exact HR3.out), HA3, HB3⟩
            case measure => have := HLT.out; simp [intOf]; omega
          · have hrt := HRT.out
            rw [if_pos rfl, List.append_nil] at hrt
            have s1 : Hid ((Ms.LT s (l.take (k + 1))).length = m) := hid' (by rw [hrt]; exact HML.out)
            have s2 : Hid (wq.ownsRow w.heap.size 42 2 (.slice qo m qc) m (fC (Ms.LT s (l.take (k + 1))))) := hid' (by rw [hrt]; exact HOq.out)
            clear hrt y0q y1q
            go_wp2
            go_roundw
            case rel => exact ⟨k + 1, m, qo, qc, by go_num, rfl, by omega, by omega, s1, s2, HAq, HBq⟩
            case measure => simp [intOf]; omega
        · have hkn : n = k := by omega
          subst hkn
          have hlt2 : ¬ (n : Int) < (n : Int) := by omega
          have HT : Hid (l.take n = l) := hid' (List.take_of_length_le (by rw [HN.out]; exact Nat.le_refl _))
          clear hlt
          go_wp2
          go_ret
          refine ⟨⟨m, qo, qc, rfl, ?_, ?_⟩, HB.out⟩
          · have := HML.out; rw [HT.out] at this; exact this
          · have := HO.out; rw [HT.out] at this; exact this

end Go.Proofs.YtkfekopenahmdaaGreatDoor
