/-
  The reader's withHost, isLast, checkCoding, lengthOf: by their contracts.
-/
import Derived.Test.YtbpdhcfmdkmoiaaGreatDoorPnAP
namespace Go.Proofs.YtbpdhcfmdkmoiaaGreatDoor
open Go.RowKit

theorem new_fd21 (w : World) (x y : ByteArray) : ∀ j u, [Value.string x, .string y][j]? = some u → (w.alloc (.cells #[.string x, .string y] 52)).cell? ((⟨w.heap.size, 0, none⟩ : Addr).add j) = some u := by
  intro j u hj
  match j, hj with
  | 0, hj => simp at hj; subst hj; simp [Addr.add]
  | 1, hj => simp at hj; subst hj; simp [Addr.add]
theorem one_fd21 (x y : ByteArray) : ∀ u ∈ [Value.string x, .string y], u.oneCell' = true := by
  intro u hu
  simp only [List.mem_cons, List.not_mem_nil, or_false] at hu
  rcases hu with rfl | rfl <;> rfl
theorem lf_grown21 {w w' : World} {v : Value} (g : w.grownBy w' v.ownBlock) : LF (fun k => v.ownBlock = some k) w w' :=
  ⟨g.os, g.tape, g.output, g.size, fun k hk hs => g.block k hk (fun e => hs e.symm)⟩
theorem fC_one21 (l : List Fd) (f : Fd) : fC (l ++ [f]) = fC l ++ [.string f.n, .string f.v] := by rw [fC_append]; rfl

def hostE21 (old : Bool) (l : List Fd) : List Fd := if old && !Hr.hasB l Hr.sHost then l ++ [Hr.hostF] else l
set_option maxHeartbeats 2000000 in
set_option maxRecDepth 20000 in
theorem cwith21 (B : Nat) (m t : ByteArray) (old : Bool) (fv : Value) (l : List Fd) (w : World) (h : w.ownsRow B 52 2 fv l.length (fC l)) (hB : B ≤ w.heap.size) (hl : l.length ≤ 1048576) :
    Calls Tryz.prog 55 #[.agg #[.string m, .string t, .bool old], fv] w fun e w' => (∃ v', e = .returned v' ∧ w'.ownsRow B 52 2 v' (hostE21 old l).length (fC (hostE21 old l))) ∧ w'.ownsRow B 52 2 fv l.length (fC l) ∧ LF (fun k => fv.ownBlock = some k) w w' := by
  obtain ⟨ao, cap, hv⟩ := own_shape h
  subst hv
  obtain ⟨hh, hhh⟩ : ∃ hh, Hr.hasB l Hr.sHost = hh := ⟨_, rfl⟩
  have HH : Hid (∀ W, Below w.heap.size w W → Calls Tryz.prog 56 #[.slice ao l.length cap, .string ⟨#[104, 111, 115, 116]⟩] W fun e w' => e = .returned (.bool hh) ∧ Below W.heap.size W w') := hid' (fun W hb => chas21 _ l _ hh (by rw [← hhh]; exact congrArg _ (ba_list Hr.sHost)) W (FW.of_own (own_keep21 h hb)) hl)
  obtain ⟨n, hn⟩ : ∃ n, l.length = n := ⟨_, rfl⟩
  rw [hn] at h hl HH ⊢
  have H := hid' h
  have HN := hid' hn
  have HBB := hid' hB
  obtain ⟨i0, hi0, hz0, hz1, hz2⟩ := minfo_parts infoF14
  have HI := hid' hi0
  have HZ0 := hid' hz0
  have HZ1 := hid' hz1
  have HZ2 := hid' hz2
  have HL : Hid (hostE21 old l = if old && !hh then l ++ [Hr.hostF] else l) := hid' (by unfold hostE21; rw [hhh])
  rw [HL.out]
  clear h hn hB hi0 hz0 hz1 hz2 hhh
  cases old
  · go_enter Tryz.func55, Tryz.ntmps55
    go_wp2_with fail
    go_ret
    have hb := bl_alloc w (.cells #[.string m, .string t, .bool false] 62)
    exact ⟨⟨_, rfl, by change World.ownsRow _ _ _ _ _ l.length (fC l); rw [HN.out]; exact own_keep21 H.out hb⟩, own_keep21 H.out hb, LF.of_below hb⟩
  · have hb := bl_alloc w (.cells #[.string m, .string t, .bool true] 62)
    have HB := hid' hb
    clear hb
    cases hh
    · go_enter Tryz.func55, Tryz.ntmps55
      go_wp2_with (refine (HH.out _ HB.out).mono ?_; rintro e w3 ⟨rfl, hb3⟩; refine Hid.out ?_)
      refine hid' ?_
      have HB3 := hid' (below_two HB.out hb3)
      clear hb3
      have HO3 := hid' (own_keep21 H.out HB3.out)
      have HBA := hid' (bl_alloc w3 (.cells #[.string ⟨#[104, 111, 115, 116]⟩, .string ⟨#[]⟩] 52))
      have HO4 := hid' (own_keep21 HO3.out HBA.out)
      have HSZ : Hid (B ≤ (w3.alloc (.cells #[.string ⟨#[104, 111, 115, 116]⟩, .string ⟨#[]⟩] 52)).heap.size) := hid' (Nat.le_trans HBB.out (Nat.le_trans HB3.out.size HBA.out.size))
      go_wp2_with (at_builtin; refine wpl_appk21 rfl _ _ 40 rfl B 52 i0 (.agg #[.string ⟨#[]⟩, .string ⟨#[]⟩]) 2 32 Tryz.underlying40 HI.out HZ0.out HZ1.out HZ2.out rfl (by decide) (.slice ao n cap) n _ rfl HO4.out ⟨w3.heap.size, 0, none⟩ 1 1 [.string ⟨#[104, 111, 115, 116]⟩, .string ⟨#[]⟩] rfl rfl (new_fd21 _ _ _) (one_fd21 _ _) (by unfold maxLen; omega) (by omega) HSZ.out ?_)
      intro v' w4 ho4 hk4 hg4 _
      obtain ⟨ro4, rc4, hv4⟩ := own_shape ho4
      subst hv4
      have HV4 := hid' ho4
      have HK4 := hid' hk4
      have HG4 := hid' hg4
      clear ho4 hk4 hg4
      go_wp2_with fail
      go_ret
      refine ⟨⟨_, rfl, ?_⟩, HK4.out, ((LF.of_below HB3.out).trans (LF.of_below HBA.out) (fun _ _ => id)).trans (lf_grown21 HG4.out) (fun _ _ => id)⟩
      rw [HN.out, fC_one21]
      exact HV4.out
    · go_enter Tryz.func55, Tryz.ntmps55
      go_wp2_with (refine (HH.out _ HB.out).mono ?_; rintro e w3 ⟨rfl, hb3⟩)
      have HB3 := hid' (below_two HB.out hb3)
      clear hb3
      go_wp2_with fail
      go_ret
      exact ⟨⟨_, rfl, by change World.ownsRow _ _ _ _ _ l.length (fC l); rw [HN.out]; exact own_keep21 H.out HB3.out⟩, own_keep21 H.out HB3.out, LF.of_below HB3.out⟩

theorem Hr.mem_size {l : List Fd} {x m : List UInt8} {K : Nat} (hs : ∀ f ∈ l, f.v.size ≤ K) (h : m ∈ Hr.mems l x) : m.length ≤ K := by
  unfold Hr.mems at h
  obtain ⟨f, hf, hm⟩ := List.mem_flatMap.1 h
  have h1 := Hr.list_mem hm
  have h2 := hs f (List.mem_filter.1 hf).1
  rw [Lib.size_eq] at h2
  omega
theorem Hr.mems_bound {l : List Fd} (x : List UInt8) (hl : l.length ≤ 1048576) (hs : ∀ f ∈ l, f.v.size ≤ 1048576) : (Hr.mems l x).length ≤ 1048576 * 1048577 := by
  have := Hr.mems_le x 1048577 l (fun f hf => by
    have h1 := Hr.list_len f.v.data.toList
    have h2 := hs f hf
    rw [Lib.size_eq] at h2
    omega)
  exact Nat.le_trans this (Nat.mul_le_mul_right _ hl)

set_option maxHeartbeats 2000000 in
set_option maxRecDepth 20000 in
theorem clast21 (m t : ByteArray) (old : Bool) (fv : Value) (l : List Fd) (r : Bool) (hr : (Hr.holds (Hr.mems l Hr.sConn) Hr.sClose || (old && !Hr.holds (Hr.mems l Hr.sConn) Hr.sKeep)) = r) (w : World) (h : FW w fv l) (hl : l.length ≤ 1048576) (hs : ∀ f ∈ l, f.v.size ≤ 1048576) :
    Calls Tryz.prog 58 #[.agg #[.string m, .string t, .bool old], fv] w fun e w' => e = .returned (.bool r) ∧ Below w.heap.size w w' := by
  have hb := bl_alloc w (.cells #[.string m, .string t, .bool old] 62)
  have HM := hid' (cmems21 fv l ⟨#[99, 111, 110, 110, 101, 99, 116, 105, 111, 110]⟩ _ (h.keep hb) hl hs)
  have HB := hid' hb
  have HA : Hid (Ar (w.alloc (.cells #[.string m, .string t, .bool old] 62)) w.heap.size 62 #[.string m, .string t, .bool old]) := hid' (heap_alloc_last w _)
  have hbd := Hr.mems_bound Hr.sConn hl hs
  have hms : ∀ x ∈ Hr.mems l Hr.sConn, x.length ≤ 140737488355328 := fun x hx => by have := Hr.mem_size hs hx; omega
  obtain ⟨ms, hmm⟩ : ∃ ms, Hr.mems l Hr.sConn = ms := ⟨_, rfl⟩
  have hme : Hr.mems l (⟨#[99, 111, 110, 110, 101, 99, 116, 105, 111, 110]⟩ : ByteArray).toList = ms := by rw [← hmm]; exact congrArg _ (ba_list Hr.sConn)
  rw [hme] at HM
  rw [hmm] at hbd hms hr
  obtain ⟨c1, h1⟩ : ∃ c1, Hr.holds ms Hr.sClose = c1 := ⟨_, rfl⟩
  obtain ⟨c2, h2⟩ : ∃ c2, Hr.holds ms Hr.sKeep = c2 := ⟨_, rfl⟩
  rw [h1, h2] at hr
  have HC : Hid (∀ (B : Nat) (v : Value) (W : World), W.ownsRow B 9 1 v ms.length (strCells ms) → Calls Tryz.prog 78 #[v, .string ⟨#[99, 108, 111, 115, 101]⟩] W fun e w' => e = .returned (.bool c1) ∧ Below W.heap.size W w') := hid' (fun B v W ho => cholds21 B v ms _ c1 (by rw [← h1]; rfl) W ho (by omega) hms (by decide))
  have HK : Hid (∀ (B : Nat) (v : Value) (W : World), W.ownsRow B 9 1 v ms.length (strCells ms) → Calls Tryz.prog 78 #[v, .string ⟨#[107, 101, 101, 112, 45, 97, 108, 105, 118, 101]⟩] W fun e w' => e = .returned (.bool c2) ∧ Below W.heap.size W w') := hid' (fun B v W ho => cholds21 B v ms _ c2 (by rw [← h2]; rfl) W ho (by omega) hms (by decide))
  clear hmm hme hbd hms h1 h2 hb h hl hs
  go_enter Tryz.func58, Tryz.ntmps58
  go_wp2_with fail
  obtain ⟨hb0, hhb0⟩ : ∃ b, w.heap.size = b := ⟨_, rfl⟩
  have HE := hid' hhb0
  refine HM.out.mono ?_
  rintro e w1 ⟨⟨vo, rfl, ho1⟩, hb1⟩
  obtain ⟨so, sc, hvo⟩ := own_shape ho1
  have HO1 := hid' ho1
  rw [hvo] at HO1 ⊢
  have HB1 := hid' (below_two HB.out hb1)
  have HA1 := hid' (HA.out.keep hb1)
  rw [hhb0] at HA1 ⊢
  have a2 := HA1.out.cell 2 _ rfl
  clear ho1 hb1 hhb0
  go_wp2_with fail
  refine (HC.out _ _ _ HO1.out).mono ?_
  rintro e w2 ⟨rfl, hb2⟩
  have HB2 := hid' (below_two HB1.out hb2)
  have HO2 := hid' (own_keep21 HO1.out hb2)
  have HA2 := hid' (HA1.out.keep hb2)
  clear a2
  have a2 := HA2.out.cell 2 _ rfl
  clear hb2
  cases c1
  · cases old
    · go_wp2_with fail
      go_ret
      exact ⟨by rw [← hr]; rfl, HB2.out⟩
    · go_wp2_with (refine (HK.out _ _ _ HO2.out).mono ?_; rintro e w3 ⟨rfl, hb3⟩)
      go_ret
      exact ⟨by rw [← hr]; rfl, below_two HB2.out hb3⟩
  · go_wp2_with fail
    go_ret
    exact ⟨by rw [← hr]; rfl, HB2.out⟩

end Go.Proofs.YtbpdhcfmdkmoiaaGreatDoor
