/-
  The laws' small: by its contract.
-/
import Derived.Test.YtbpdhcfmdkmoiabDoorHwQ
import Derived.RegionTactic
import Derived.Deep.RegionHeld3
import Derived.ChangeAlike
namespace Go.Proofs.YtbpdhcfmdkmoiabDoor
open Go.RowKit

section
variable {P : Program} {md : Region.Mode} {Q : Exit → Act → World → Prop} {S : World → Prop}
theorem take_d22 {ops : Array Oper} {i : Nat} {oi : Oper} {d : Option Tmp} {v : Value} {fuel : Nat} {listed : Array Bool} {a : Act} {w : World} (hi : ops[i]? = some oi) (hd : oi.dst = d)
    (hs : Region.noSelect ops = true) (hf : Region.free md ops listed i = true) (hr : (Region.ready md ops listed).contains i = true)
    (hQ : ∀ c a w, Q (.panic c) (a.put d v) w → Q (.panic c) a w) (hy : YieldsIf P ops S oi v a) (hS : S w)
    (h : wpAnyH P md ops Q S fuel (listed.setIfInBounds i true) (a.put d v) w) : wpAnyH P md ops Q S (fuel + 1) listed a w := by
  subst hd
  exact wpAnyH_take hi hs hf hr hQ hy hS h
/-- A slice is built of a literal, in a region that draws. -/
theorem step_lit22 {w : World} {ops : Array Oper} {o : Oper} {a : Act} {K : Act → World → Prop} {E : Prop} (hgd : o.guard = none) (d : Option Tmp) (hd : o.dst = d) (e : TypeId) (n : Nat) (cs : Array Value)
    (hrun : (execOp a.eval o).run P w = .ok (.value (.slice (some ⟨w.heap.size, 0, none⟩) n n)) (w.alloc (.cells cs e)))
    (h : K (a.put d (.slice (some ⟨w.heap.size, 0, none⟩) n n)) (w.alloc (.cells cs e))) :
    if Region.wanted o (yielded ops a.tmps) = true then Oper.wp P o a w K Q else E := by
  have hw : Region.wanted o (yielded ops a.tmps) = true := by simp [Region.wanted, hgd]
  rw [if_pos hw]
  unfold Oper.wp
  rw [hrun]
  subst hd
  exact h
theorem step_app22 {w : World} {ops : Array Oper} {o : Oper} {a : Act} {K : Act → World → Prop} {E : Prop} (hgd : o.guard = none) (d : Option Tmp) (hd : o.dst = d) (s x : Operand) (t : TypeId)
    (ho : o.op = .call { callee := .builtin .append, args := #[s, x], argTypes := #[t, t] })
    (base : Nat) (e : TypeId) (i : TypeInfo) (z : Value) (size bytes : Nat) (ht : P.underlying t = some (.slice e)) (hi : P.info? e = some i) (hz : i.zero = some z)
    (hsize : i.size = size) (hby : i.bytes = bytes) (hzs : z.cells.size = size) (hsz : 0 < size)
    (v : Value) (n : Nat) (xs : List Value) (hs : a.eval s = v) (hown : w.ownsRow base e size v n xs)
    (ad : Addr) (m c : Nat) (news : List Value) (hx : a.eval x = .slice (some ad) m c) (hl : news.length = m * size) (hnews : ∀ j u, news[j]? = some u → w.cell? (ad.add j) = some u) (h1 : ∀ u ∈ news, u.oneCell' = true)
    (h63 : n + m ≤ maxLen) (hbytes : (n + m) * bytes ≤ 140737488355328) (hbase : base ≤ w.heap.size)
    (h : ∀ v' w', w'.ownsRow base e size v' (n + m) (xs ++ news) → w.grownBy w' v.ownBlock → K (a.put d v') w') :
    if Region.wanted o (yielded ops a.tmps) = true then Oper.wp P o a w K Q else E := by
  subst hd
  have hw : Region.wanted o (yielded ops a.tmps) = true := by simp [Region.wanted, hgd]
  rw [if_pos hw]
  obtain ⟨v', w', hr, h2, h3, _, _⟩ := run_append_own_at (P := P) w base t o.type e i z size bytes ht hi hz hsize hby hzs hsz v n xs hown ad m c news hl hnews h1 h63 hbytes hbase
  unfold Oper.wp execOp
  simp only [ho, resolve, invoke, builtin, Sem.run_bind, Sem.run_pure, Result.andThen_ok, List.map_toArray, List.map_cons, List.map_nil, hs, hx, hr]
  exact h v' w' h2 h3
end

namespace Hw
def sm (f : Fd) : Fd := ⟨⟨(Tx.lower f.n.data.toList).toArray⟩, f.v⟩
def small (l : List Fd) : List Fd := (Ms.strip l).map sm
end Hw

set_option maxHeartbeats 8000000 in
set_option maxRecDepth 20000 in
theorem csmall22 (v : Value) (l : List Fd) (w : World) (h : FW w v l) (hl : l.length ≤ 1048576) (hs : ∀ f ∈ l, f.n.size ≤ 140737488355328) :
    Calls Tryd.prog 6 #[v] w fun e w' => (∃ ro rc, e = .returned (.slice ro (Hw.small l).length rc) ∧ w'.ownsRow w.heap.size 45 2 (.slice ro (Hw.small l).length rc) (Hw.small l).length (fC (Hw.small l))) ∧ Below w.heap.size w w' := by
  obtain ⟨i0, hi0, hz0, hz1, hz2⟩ := minfo_parts infoF14
  have HI := hid' hi0
  have HZ0 := hid' hz0
  have HZ1 := hid' hz1
  have HZ2 := hid' hz2
  have HST := hid' (rstrip14 v l w h hl hs)
  obtain ⟨L, hL⟩ : ∃ L, Ms.strip l = L := ⟨_, rfl⟩
  have HR : Hid (Hw.small l = L.map Hw.sm) := hid' (by unfold Hw.small; rw [hL])
  have HSL : Hid (∀ f ∈ L, f.n.size ≤ 140737488355328) := hid' (fun f hf => hs f (by rw [← hL] at hf; exact (List.mem_filter.1 hf).1))
  have HLL : Hid (L.length ≤ 1048576) := hid' (by rw [← hL]; exact Nat.le_trans (List.length_filter_le _ _) hl)
  rw [hL] at HST
  clear h hl hs hL hi0 hz0 hz1 hz2
  go_enter Tryd.func6, Tryd.ntmps6
  go_wp2_with (go_at_call 17; refine HST.out.mono ?_; rintro e w2 ⟨⟨m, ro, rc, rfl, hm, ho⟩, hb2⟩; refine Hid.out ?_)
  refine hid' ?_
  have HM := hid' hm
  have hm9 : m ≤ 1048576 := by rw [← hm]; exact HLL.out
  have HRW : Hid (FW w2 (.slice ro m rc) L) := hid' (FW.of_own (l := L) (by rw [hm]; exact ho))
  have HB2 := hid' hb2
  clear hm ho hb2
  go_wp2
  go_loopw [3, 4] (fun s3 s4 wr => ∃ (k : Nat) (qo : Option Addr) (qc : Nat), s4 = .int .i64 (k : Int) ∧ s3 = .slice qo k qc ∧ k ≤ m ∧ Hid (wr.ownsRow w2.heap.size 45 2 (.slice qo k qc) k (fC ((L.take k).map Hw.sm))) ∧ Hid (Below w2.heap.size w2 wr)) (fun _ s4 _ => m - (intOf s4).toNat)
  case atStart => exact ⟨0, none, 0, rfl, rfl, Nat.zero_le _, hid' (World.ownsRow_nil _ _ _ _), hid' (Below.refl _ _)⟩
  case round =>
    obtain ⟨k, qo, qc, rfl, rfl, hk, HO, HB⟩ := hrel
    by_cases hlt : k < m
    · have hlt2 : (k : Int) < (m : Int) := by omega
      have HLT := hid' hlt
      obtain ⟨p, hp⟩ : ∃ p, L[k]? = some p := ⟨_, List.getElem?_eq_getElem (by rw [HM.out]; exact hlt)⟩
      have HPP := hid' hp
      obtain ⟨ad, hao, y0, y1⟩ := (HRW.out.keep HB.out).two k p hp
      subst hao
      obtain ⟨y, hy⟩ : ∃ y : ByteArray, (⟨(Tx.lower p.n.data.toList).toArray⟩ : ByteArray) = y := ⟨_, rfl⟩
      have HTK : Hid ((L.take (k + 1)).map Hw.sm = (L.take k).map Hw.sm ++ [⟨y, p.v⟩]) := hid' (by rw [List.take_add_one, hp, List.map_append, ← hy]; rfl)
      have HLW : Hid (∀ W, Calls Tryd.prog 18 #[.string p.n] W fun e w' => e = .returned (.string y) ∧ Below W.heap.size W w') := hid' (fun W => by have := rLower_any p.n W (by have := HSL.out p (List.mem_of_getElem? hp); unfold maxLen; omega); rwa [hy] at this)
      have hSq : wr.cell? (ad.add (k * 2)) = some (.string p.n) ∧ wr.cell? ⟨(ad.add (k * 2)).block, (ad.add (k * 2)).off + 1, none⟩ = some (.string p.v) := ⟨y0, y1⟩
      have sOf : ∀ W W1 : World, (W.cell? (ad.add (k * 2)) = some (.string p.n) ∧ W.cell? ⟨(ad.add (k * 2)).block, (ad.add (k * 2)).off + 1, none⟩ = some (.string p.v)) → Below W.heap.size W W1 → (W1.cell? (ad.add (k * 2)) = some (.string p.n) ∧ W1.cell? ⟨(ad.add (k * 2)).block, (ad.add (k * 2)).off + 1, none⟩ = some (.string p.v)) := fun W W1 h hb => ⟨(hb.cell (cell_lt h.1)).trans h.1, (hb.cell (cell_lt h.2)).trans h.2⟩
      clear hp hy y0 y1
      go_upto_region 6 with fail
      refine wp_region_held_drew (S := fun W => W.cell? (ad.add (k * 2)) = some (.string p.n) ∧ W.cell? ⟨(ad.add (k * 2)).block, (ad.add (k * 2)).off + 1, none⟩ = some (.string p.v)) (by kernel_rfl) (sOf _ _ hSq ((Below.refl _ _).drew)) (fun hHeld => ?_)
      refine take_d22 (i := 0) (d := some 13) (v := ?_) rfl rfl (by kernel_rfl) (by kernel_rfl) (by kernel_rfl) (fun _ _ _ h => h) (Or.inl ⟨by rfl, ?_⟩) (by assumption) ?_
      rotate_left
      · intro w hSw
        (try dsimp only at hSw)
        obtain ⟨s1, s2⟩ := hSw
        go_simp
        try with_reducible rfl
      try simp only [Act.put, List.setIfInBounds_toArray, List.set_cons_zero, List.set_cons_succ]
      refine take_d22 (i := 1) (d := some 14) (v := ?_) rfl rfl (by kernel_rfl) (by kernel_rfl) (by kernel_rfl) (fun _ _ _ h => h) (Or.inl ⟨by rfl, ?_⟩) (by assumption) ?_
      rotate_left
      · intro w hSw
        (try dsimp only at hSw)
        obtain ⟨s1, s2⟩ := hSw
        go_simp
        try with_reducible rfl
      try simp only [Act.put, List.setIfInBounds_toArray, List.set_cons_zero, List.set_cons_succ]
      refine take_d22 (i := 2) (d := some 15) (v := ?_) rfl rfl (by kernel_rfl) (by kernel_rfl) (by kernel_rfl) (fun _ _ _ h => h) (Or.inl ⟨by rfl, ?_⟩) (by assumption) ?_
      rotate_left
      · intro w hSw
        (try dsimp only at hSw)
        obtain ⟨s1, s2⟩ := hSw
        go_simp
        try with_reducible rfl
      try simp only [Act.put, List.setIfInBounds_toArray, List.set_cons_zero, List.set_cons_succ]
      refine take_d22 (i := 3) (d := some 16) (v := ?_) rfl rfl (by kernel_rfl) (by kernel_rfl) (by kernel_rfl) (fun _ _ _ h => h) (Or.inl ⟨by rfl, ?_⟩) (by assumption) ?_
      rotate_left
      · intro w hSw
        (try dsimp only at hSw)
        obtain ⟨s1, s2⟩ := hSw
        go_simp
        try with_reducible rfl
      try simp only [Act.put, List.setIfInBounds_toArray, List.set_cons_zero, List.set_cons_succ]
      refine take_d22 (i := 4) (d := some 17) (v := ?_) rfl rfl (by kernel_rfl) (by kernel_rfl) (by kernel_rfl) (fun _ _ _ h => h) (Or.inl ⟨by rfl, ?_⟩) (by assumption) ?_
      rotate_left
      · intro w hSw
        (try dsimp only at hSw)
        obtain ⟨s1, s2⟩ := hSw
        go_simp
        try with_reducible rfl
      try simp only [Act.put, List.setIfInBounds_toArray, List.set_cons_zero, List.set_cons_succ]
      refine take_d22 (i := 5) (d := some 18) (v := ?_) rfl rfl (by kernel_rfl) (by kernel_rfl) (by kernel_rfl) (fun _ _ _ h => h) (Or.inl ⟨by rfl, ?_⟩) (by assumption) ?_
      rotate_left
      · intro w hSw
        (try dsimp only at hSw)
        obtain ⟨s1, s2⟩ := hSw
        go_simp
        try with_reducible rfl
      try simp only [Act.put, List.setIfInBounds_toArray, List.set_cons_zero, List.set_cons_succ]
      refine take_d22 (i := 7) (d := some 20) (v := ?_) rfl rfl (by kernel_rfl) (by kernel_rfl) (by kernel_rfl) (fun _ _ _ h => h) (Or.inl ⟨by rfl, ?_⟩) (by assumption) ?_
      rotate_left
      · intro w hSw
        (try dsimp only at hSw)
        obtain ⟨s1, s2⟩ := hSw
        go_simp
        try with_reducible rfl
      try simp only [Act.put, List.setIfInBounds_toArray, List.set_cons_zero, List.set_cons_succ]
      refine take_d22 (i := 8) (d := some 21) (v := ?_) rfl rfl (by kernel_rfl) (by kernel_rfl) (by kernel_rfl) (fun _ _ _ h => h) (Or.inl ⟨by rfl, ?_⟩) (by assumption) ?_
      rotate_left
      · intro w hSw
        (try dsimp only at hSw)
        obtain ⟨s1, s2⟩ := hSw
        go_simp
        try with_reducible rfl
      try simp only [Act.put, List.setIfInBounds_toArray, List.set_cons_zero, List.set_cons_succ]
      refine take_d22 (i := 9) (d := some 22) (v := ?_) rfl rfl (by kernel_rfl) (by kernel_rfl) (by kernel_rfl) (fun _ _ _ h => h) (Or.inl ⟨by rfl, ?_⟩) (by assumption) ?_
      rotate_left
      · intro w hSw
        (try dsimp only at hSw)
        obtain ⟨s1, s2⟩ := hSw
        go_simp
        try with_reducible rfl
      try simp only [Act.put, List.setIfInBounds_toArray, List.set_cons_zero, List.set_cons_succ]
      refine take_d22 (i := 10) (d := some 23) (v := ?_) rfl rfl (by kernel_rfl) (by kernel_rfl) (by kernel_rfl) (fun _ _ _ h => h) (Or.inl ⟨by rfl, ?_⟩) (by assumption) ?_
      rotate_left
      · intro w hSw
        (try dsimp only at hSw)
        obtain ⟨s1, s2⟩ := hSw
        go_simp
        try with_reducible rfl
      try simp only [Act.put, List.setIfInBounds_toArray, List.set_cons_zero, List.set_cons_succ]
      refine take_d22 (i := 11) (d := some 24) (v := ?_) rfl rfl (by kernel_rfl) (by kernel_rfl) (by kernel_rfl) (fun _ _ _ h => h) (Or.inl ⟨by rfl, ?_⟩) (by assumption) ?_
      rotate_left
      · intro w hSw
        (try dsimp only at hSw)
        obtain ⟨s1, s2⟩ := hSw
        go_simp
        try with_reducible rfl
      try simp only [Act.put, List.setIfInBounds_toArray, List.set_cons_zero, List.set_cons_succ]
      refine wpAnyH_ready (rs := [6]) (by kernel_rfl) (by simp) ?_
      refine AllReadyH.cons rfl (fun K hK => ?_) AllReadyH.nil
      go_simp
      refine (HLW.out _).mono ?_
      rintro e wl ⟨rfl, hbl⟩
      go_wp2_with fail
      refine hK.out _ _ (sOf _ _ (by assumption) hbl) (fun hHeld => ?_)
      have hbl2 : Below wr.heap.size wr wl := ⟨hbl.os, hbl.tape, hbl.output, hbl.size, hbl.block⟩
      have HOl := hid' (own_same HO.out (fun j hj => hbl2.block j (own_lt HO.out j hj)))
      have HBl := hid' (below_two HB.out hbl2)
      clear hK K hbl hbl2
      try simp only [Act.put, List.setIfInBounds_toArray, List.set_cons_zero, List.set_cons_succ]
      refine take_d22 (i := 12) (d := some 25) (v := ?_) rfl rfl (by kernel_rfl) (by kernel_rfl) (by kernel_rfl) (fun _ _ _ h => h) (Or.inl ⟨by rfl, ?_⟩) (by assumption) ?_
      rotate_left
      · intro w hSw
        (try dsimp only at hSw)
        obtain ⟨s1, s2⟩ := hSw
        go_simp
        try with_reducible rfl
      try simp only [Act.put, List.setIfInBounds_toArray, List.set_cons_zero, List.set_cons_succ]
      refine wpAnyH_ready (rs := [13]) (by kernel_rfl) (by simp) ?_
      refine AllReadyH.cons rfl (fun K hK => ?_) AllReadyH.nil
      go_simp
      refine hK.out _ _ (sOf _ _ (by assumption) (bl_alloc wl _)) (fun hHeld => ?_)
      clear hK K
      have HOn := hid' (own_same HOl.out (fun j hj => (bl_alloc wl (.cells #[.string y, .string p.v] 45)).block j (own_lt HOl.out j hj)))
      have HBn := hid' (below_two HBl.out (bl_alloc wl (.cells #[.string y, .string p.v] 45)))
      have HNW := hid' (two_new wl 45 (.string y) (.string p.v))
      obtain ⟨lb, hlb⟩ : ∃ lb, wl.heap.size = lb := ⟨_, rfl⟩
      rw [hlb] at HNW ⊢
      generalize wl.alloc (.cells #[.string y, .string p.v] 45) = wn at *
      clear hlb HOl HBl
      try simp only [Act.put, List.setIfInBounds_toArray, List.set_cons_zero, List.set_cons_succ]
      refine wpAnyH_ready (rs := [14]) (by kernel_rfl) (by simp) ?_
      refine AllReadyH.cons rfl (fun K hK => ?_) AllReadyH.nil
      refine step_app22 (by rfl) (some 27) rfl _ _ 22 (by rfl) w2.heap.size 45 i0 (.agg #[.string ⟨#[]⟩, .string ⟨#[]⟩]) 2 32 Tryd.underlying22 HI.out HZ0.out HZ1.out HZ2.out (by rfl) (by decide) (.slice qo k qc) k (fC ((L.take k).map Hw.sm)) (by rfl) HOn.out ⟨lb, 0, none⟩ 1 1 [.string y, .string p.v] (by rfl) (by rfl) HNW.out (by simp [Value.oneCell']) (by unfold maxLen; omega) (by omega) HBn.out.size ?_
      intro v3 w3 hrow hgrow
      obtain ⟨v3o, v3c, hv3⟩ := own_shape hrow
      subst hv3
      have hB3 : Below w2.heap.size w2 w3 := HBn.out.grown hgrow HBn.out.size (fun j hj => own_le21 HOn.out j hj)
      have hS3 : w3.cell? (ad.add (k * 2)) = some (.string p.n) ∧ w3.cell? ⟨(ad.add (k * 2)).block, (ad.add (k * 2)).off + 1, none⟩ = some (.string p.v) := by
        obtain ⟨a', ha', t0, t1⟩ := (HRW.out.keep hB3).two k p HPP.out
        injection ha' with ha'
        subst ha'
        exact ⟨t0, t1⟩
      refine hK.out _ _ hS3 (fun hHeld => ?_)
      clear hK K
      have HB3 := hid' hB3
      have HR3 := hid' hrow
      clear hB3 hS3 hrow hgrow
      try simp only [Act.put, List.setIfInBounds_toArray, List.set_cons_zero, List.set_cons_succ]
      refine take_d22 (i := 15) (d := some 3) (v := ?_) rfl rfl (by kernel_rfl) (by kernel_rfl) (by kernel_rfl) (fun _ _ _ h => h) (Or.inl ⟨by rfl, ?_⟩) (by assumption) ?_
      rotate_left
      · intro w hSw
        go_simp
        try with_reducible rfl
      try simp only [Act.put]
      refine wpAnyH_done (by kernel_rfl) ?_ _
      go_wp2
      go_roundw
      case rel =>
        refine ⟨k + 1, v3o, v3c, by go_num, rfl, by have := HLT.out; omega, hid' ?_, HB3⟩
        rw [HTK.out, fC_append]
        exact HR3.out
      case measure => have := HLT.out; simp [intOf]; omega
    · obtain rfl : k = m := by omega
      have hlt2 : ¬ (k : Int) < (k : Int) := by omega
      have HF : Hid ((L.take k).map Hw.sm = L.map Hw.sm) := hid' (by rw [List.take_of_length_le (by rw [HM.out]; exact Nat.le_refl _)])
      have HLN : Hid ((L.map Hw.sm).length = k) := hid' (by rw [List.length_map]; exact HM.out)
      have HB9 := hid' (HB2.out.trans (HB.out.mono HB2.out.size))
      clear hlt
      go_wp2
      go_ret
      rw [HR.out, HLN.out]
      refine ⟨⟨qo, qc, rfl, ?_⟩, HB9.out⟩
      have := HO.out
      rw [HF.out] at this
      exact own_base21 this HB2.out.size

end Go.Proofs.YtbpdhcfmdkmoiabDoor
