/-
  The reader's members, withHost, isLast: by their contracts.
  The reader's withHost, isLast, checkCoding, lengthOf: by their contracts.
-/
import Derived.Test.YthhpejgpfaikaaaGreatDoorPnAT
import Derived.Test.YthhpejgpfaikaaaGreatDoorPnAU
namespace Go.Proofs.YthhpejgpfaikaaaGreatDoor
open Go.RowKit

namespace Hr
theorem mems_len (r : List UInt8) : ∀ (cur : List UInt8) (q e : Bool), (Tx.mems cur q e r).length ≤ r.length + 1 := by
  induction r with
  | nil =>
    intro cur q e
    simp only [Tx.mems, Tx.addm]
    split <;> simp
  | cons c r ih =>
    intro cur q e
    simp only [Tx.mems]
    split
    · have := ih (cur ++ [c]) q false; simp only [List.length_cons]; omega
    · split
      · have := ih (cur ++ [c]) (!q) false; simp only [List.length_cons]; omega
      · split
        · have := ih (cur ++ [c]) q true; simp only [List.length_cons]; omega
        · split
          · have := ih [] q false
            have h2 : (Tx.addm cur).length ≤ 1 := by unfold Tx.addm; split <;> simp
            simp only [List.length_cons, List.length_append]; omega
          · have := ih (cur ++ [c]) q false; simp only [List.length_cons]; omega
theorem mem_flat {ms : List (List UInt8)} {m : List UInt8} (h : m ∈ ms) : m.length ≤ ms.flatten.length := by
  induction ms with
  | nil => cases h
  | cons x r ih =>
    simp only [List.flatten_cons, List.length_append]
    rcases List.mem_cons.1 h with rfl | h
    · omega
    · have := ih h; omega
theorem list_mem {l m : List UInt8} (h : m ∈ Tx.list l) : m.length ≤ l.length := Nat.le_trans (mem_flat h) (Tx.flat_list l)
theorem list_len (l : List UInt8) : (Tx.list l).length ≤ l.length + 1 := mems_len l [] false false
theorem mems_take {l : List Fd} {i : Nat} {p : Fd} (x : T8) (h : l[i]? = some p) : mems (l.take (i + 1)) x = mems (l.take i) x ++ (if p.n.toList == x then Tx.list p.v.data.toList else []) := by
  obtain ⟨hl, rfl⟩ := List.getElem?_eq_some_iff.1 h
  unfold mems
  rw [List.take_succ_eq_append_getElem hl, List.filter_append, List.flatMap_append]
  congr 1
  cases hq : (l[i].n.toList == x) <;> simp [List.filter, hq]
theorem mems_le (x : T8) (K : Nat) : ∀ (l : List Fd), (∀ f ∈ l, (Tx.list f.v.data.toList).length ≤ K) → (mems l x).length ≤ l.length * K
  | [], _ => Nat.zero_le _
  | f :: r, h => by
    have ih := mems_le x K r (fun g hg => h g (List.mem_cons_of_mem _ hg))
    have h0 := h f (List.mem_cons_self ..)
    have e : (f :: r).length * K = r.length * K + K := by rw [List.length_cons, Nat.add_mul, Nat.one_mul]
    rw [e]
    unfold mems at *
    cases hq : (f.n.toList == x)
    · rw [List.filter_cons]; simp only [hq, Bool.false_eq_true, if_false]; omega
    · rw [List.filter_cons]; simp only [hq, if_true, List.flatMap_cons, List.length_append]; omega
end Hr

theorem infoS21 : (Tryz.prog.info? 9).map (fun i => (i.zero, i.size, i.bytes)) = some (some (.string ⟨#[]⟩), 1, 16) := by kernel_rfl
theorem str_one21 (l : List (List UInt8)) : ∀ u ∈ strCells l, u.oneCell' = true := by
  intro u hu
  unfold strCells at hu
  obtain ⟨m, _, rfl⟩ := List.mem_map.1 hu
  rfl

set_option maxHeartbeats 4000000 in
set_option maxRecDepth 20000 in
theorem cmems21 (v : Value) (l : List Fd) (x : ByteArray) (w : World) (h : FW w v l) (hl : l.length ≤ 1048576) (hs : ∀ f ∈ l, f.v.size ≤ 1048576) :
    Calls Tryz.prog 113 #[v, .string x] w fun e w' => (∃ vo, e = .returned vo ∧ w'.ownsRow w.heap.size 9 1 vo (Hr.mems l x.toList).length (strCells (Hr.mems l x.toList))) ∧ Below w.heap.size w w' := by
  obtain ⟨ao, cap, hv⟩ := h.shape
  subst hv
  obtain ⟨n, hn⟩ : ∃ n, l.length = n := ⟨_, rfl⟩
  have HBD : Hid (∀ i, (Hr.mems (l.take i) x.toList).length ≤ 1048576 * 1048577) := hid' (fun i => by
    have := Hr.mems_le x.toList 1048577 (l.take i) (fun f hf => by
      have h1 := Hr.list_len f.v.data.toList
      have h2 := hs f (List.mem_of_mem_take hf)
      rw [Lib.size_eq] at h2
      omega)
    have h3 : (l.take i).length ≤ 1048576 := Nat.le_trans (List.length_take_le' _ _) hl
    exact Nat.le_trans this (Nat.mul_le_mul_right _ h3))
  rw [hn] at h hl ⊢
  have H := hid' h
  have HN := hid' hn
  have HS := hid' hs
  obtain ⟨i0, hi0, hz0, hz1, hz2⟩ := minfo_parts infoS21
  have HI := hid' hi0
  have HZ0 := hid' hz0
  have HZ1 := hid' hz1
  have HZ2 := hid' hz2
  clear h hn hs hi0 hz0 hz1 hz2
  go_enter Tryz.func113, Tryz.ntmps113
  go_wp2
  go_loopw [5, 10] (fun s5 s10 wr => ∃ (i m : Nat) (ro : Option Addr) (rc : Nat), s5 = .slice ro m rc ∧ s10 = .int .i64 (i : Int) ∧ i ≤ n ∧ Hid ((Hr.mems (l.take i) x.toList).length = m ∧ wr.ownsRow w.heap.size 9 1 (.slice ro m rc) m (strCells (Hr.mems (l.take i) x.toList))) ∧ Hid (Below w.heap.size w wr)) (fun _ s10 _ => n - (intOf s10).toNat)
  case atStart => exact ⟨0, 0, none, 0, rfl, rfl, Nat.zero_le _, hid' ⟨rfl, World.ownsRow_nil _ _ _ _⟩, hid' (Below.refl _ _)⟩
  case round =>
    obtain ⟨i, m, ro, rc, rfl, rfl, hi, HO, HBR⟩ := hrel
    by_cases hlt : i < n
    · have hlt2 : (i : Int) < (n : Int) := by omega
      obtain ⟨f, hfi⟩ : ∃ f, l[i]? = some f := ⟨_, List.getElem?_eq_getElem (by rw [HN.out]; exact hlt)⟩
      obtain ⟨a, hfo, y0, y1⟩ := (H.out.keep HBR.out).two i f hfi
      subst hfo
      have HM := hid' (Hr.mems_take x.toList hfi)
      have HV := hid' (HS.out f (List.mem_of_getElem? hfi))
      have HLT := hid' hlt
      clear hfi hlt
      have HW : Hid (Ar (wr.alloc (.cells #[.string f.n, .string f.v] 47)) wr.heap.size 47 #[.string f.n, .string f.v]) := hid' (heap_alloc_last wr _)
      have HB1 := hid' (bl_alloc wr (.cells #[.string f.n, .string f.v] 47))
      have HOW : Hid ((Hr.mems (l.take i) x.toList).length = m ∧ (wr.alloc (.cells #[.string f.n, .string f.v] 47)).ownsRow w.heap.size 9 1 (.slice ro m rc) m (strCells (Hr.mems (l.take i) x.toList))) := hid' ⟨HO.out.1, own_keep21 HO.out.2 HB1.out⟩
      have HBW := hid' (below_two HBR.out HB1.out)
      go_upto_region 5 with fail
      obtain ⟨sb, hsb⟩ : ∃ sb, wr.heap.size = sb := ⟨_, rfl⟩
      rw [hsb] at HW ⊢
      clear HB1 HO HBR
      generalize wr.alloc (.cells #[.string f.n, .string f.v] 47) = w2 at *
      clear hsb y0 y1
      have z0 := HW.out.cell 0 _ rfl
      have z1 := HW.out.cell 1 _ rfl
      cases c1 : (f.n.toList == x.toList)
      · have HE : Hid (Hr.mems (l.take (i + 1)) x.toList = Hr.mems (l.take i) x.toList) := hid' (by rw [HM.out, c1]; simp)
        go_wp2_with fail
        go_roundw
        case rel => exact ⟨i + 1, m, ro, rc, rfl, by go_num, by have := HLT.out; omega, by rw [HE.out]; exact HOW, HBW⟩
        case measure => have := HLT.out; simp [intOf]; omega
      · have HE : Hid (Hr.mems (l.take (i + 1)) x.toList = Hr.mems (l.take i) x.toList ++ Tx.list f.v.data.toList) := hid' (by rw [HM.out, c1]; rfl)
        obtain ⟨k, hk⟩ : ∃ k, (Tx.list f.v.data.toList).length = k := ⟨_, rfl⟩
        have HK := hid' hk
        have hmk : m + k ≤ 1048576 * 1048577 := by have := HBD.out (i + 1); rw [HE.out, List.length_append, HOW.out.1, hk] at this; exact this
        clear hk
        go_wp2_with fail
        refine (list_any f.v _ (by have := HV.out; omega)).mono ?_
        rintro e w3 ⟨vl, rfl, hol, hb3⟩
        obtain ⟨lo, lc, hvl⟩ := own_shape hol
        rw [HK.out] at hol hvl
        subst hvl
        have HOL := hid' hol
        have HO3 := hid' (own_keep21 HOW.out.2 hb3)
        have HB3 := hid' (below_two HBW.out hb3)
        clear hol hb3
        go_wp2_with (at_builtin; refine wpl_app21 rfl _ _ 24 rfl w.heap.size w2.heap.size 9 i0 (.string ⟨#[]⟩) 1 16 Tryz.underlying24 HI.out HZ0.out HZ1.out HZ2.out rfl (by decide) (.slice ro m rc) m _ rfl HO3.out (.slice lo k lc) k _ rfl HOL.out (str_one21 _) (by unfold maxLen; omega) (by omega) HB3.out.size ?_)
        intro v' w4 ho4 hg4 _
        obtain ⟨ro4, rc4, hv4⟩ := own_shape ho4
        subst hv4
        have HO4 := hid' ho4
        have HB4 := hid' (HB3.out.grown hg4 HB3.out.size (fun k hk => (own_ty HO3.out k hk).1))
        clear ho4 hg4
        go_wp2_with fail
        go_roundw
        case rel => exact ⟨i + 1, m + k, ro4, rc4, rfl, by go_num, by have := HLT.out; omega, hid' ⟨by rw [HE.out, List.length_append, HOW.out.1, HK.out], by rw [HE.out, strCells, List.map_append]; exact HO4.out⟩, HB4⟩
        case measure => have := HLT.out; simp [intOf]; omega
    · obtain rfl : i = n := by omega
      have hlt2 : ¬ (i : Int) < (i : Int) := by omega
      have HE : Hid (l.take i = l) := hid' (List.take_of_length_le (by rw [HN.out]; exact Nat.le_refl _))
      clear hlt
      go_wp2_with fail
      go_ret
      exact ⟨⟨_, rfl, by have := HO.out.2; rw [HE.out] at this; rw [← HE.out, HO.out.1, HE.out]; exact this⟩, HBR.out⟩

end Go.Proofs.YthhpejgpfaikaaaGreatDoor

namespace Go.Proofs.YthhpejgpfaikaaaGreatDoor
open Go.RowKit

theorem new_fd21 (w : World) (x y : ByteArray) : ∀ j u, [Value.string x, .string y][j]? = some u → (w.alloc (.cells #[.string x, .string y] 47)).cell? ((⟨w.heap.size, 0, none⟩ : Addr).add j) = some u := by
  intro j u hj
  match j, hj with
  | 0, hj => simp at hj; subst hj; simp [Addr.add]
  | 1, hj => simp at hj; subst hj; simp [Addr.add]
theorem one_fd21 (x y : ByteArray) : ∀ u ∈ [Value.string x, .string y], u.oneCell' = true := by
  intro u hu
  simp only [List.mem_cons, List.not_mem_nil, or_false] at hu
  rcases hu with rfl | rfl <;> rfl
theorem lf_grown21 {w w' : World} {v : Value} (g : w.grownBy w' v.ownBlock) : LF (fun k => v.ownBlock = some k) w w' :=
  ⟨g.os, g.tape, g.output, g.size, fun k hk hs => g.block k hk (fun e => hs e.symm)⟩
theorem fC_one21 (l : List Fd) (f : Fd) : fC (l ++ [f]) = fC l ++ [.string f.n, .string f.v] := by rw [fC_append]; rfl

def hostE21 (old : Bool) (l : List Fd) : List Fd := if old && !Hr.hasB l Hr.sHost then l ++ [Hr.hostF] else l
set_option maxHeartbeats 2000000 in
set_option maxRecDepth 20000 in
theorem cwith21 (B : Nat) (m t : ByteArray) (old : Bool) (fv : Value) (l : List Fd) (w : World) (h : w.ownsRow B 47 2 fv l.length (fC l)) (hB : B ≤ w.heap.size) (hl : l.length ≤ 1048576) :
    Calls Tryz.prog 84 #[.agg #[.string m, .string t, .bool old], fv] w fun e w' => (∃ v', e = .returned v' ∧ w'.ownsRow B 47 2 v' (hostE21 old l).length (fC (hostE21 old l))) ∧ w'.ownsRow B 47 2 fv l.length (fC l) ∧ LF (fun k => fv.ownBlock = some k) w w' := by
  obtain ⟨ao, cap, hv⟩ := own_shape h
  subst hv
  obtain ⟨hh, hhh⟩ : ∃ hh, Hr.hasB l Hr.sHost = hh := ⟨_, rfl⟩
  have HH : Hid (∀ W, Below w.heap.size w W → Calls Tryz.prog 85 #[.slice ao l.length cap, .string ⟨#[104, 111, 115, 116]⟩] W fun e w' => e = .returned (.bool hh) ∧ Below W.heap.size W w') := hid' (fun W hb => chas21 _ l _ hh (by rw [← hhh]; exact congrArg _ (ba_list Hr.sHost)) W (FW.of_own (own_keep21 h hb)) hl)
  obtain ⟨n, hn⟩ : ∃ n, l.length = n := ⟨_, rfl⟩
  rw [hn] at h hl HH ⊢
  have H := hid' h
  have HN := hid' hn
  have HBB := hid' hB
  obtain ⟨i0, hi0, hz0, hz1, hz2⟩ := minfo_parts infoF14
  have HI := hid' hi0
  have HZ0 := hid' hz0
  have HZ1 := hid' hz1
  have HZ2 := hid' hz2
  have HL : Hid (hostE21 old l = if old && !hh then l ++ [Hr.hostF] else l) := hid' (by unfold hostE21; rw [hhh])
  rw [HL.out]
  clear h hn hB hi0 hz0 hz1 hz2 hhh
  cases old
  · go_enter Tryz.func84, Tryz.ntmps84
    go_wp2_with fail
    go_ret
    have hb := bl_alloc w (.cells #[.string m, .string t, .bool false] 71)
    exact ⟨⟨_, rfl, by change World.ownsRow _ _ _ _ _ l.length (fC l); rw [HN.out]; exact own_keep21 H.out hb⟩, own_keep21 H.out hb, LF.of_below hb⟩
  · have hb := bl_alloc w (.cells #[.string m, .string t, .bool true] 71)
    have HB := hid' hb
    clear hb
    cases hh
    · go_enter Tryz.func84, Tryz.ntmps84
      go_wp2_with (refine (HH.out _ HB.out).mono ?_; rintro e w3 ⟨rfl, hb3⟩; refine Hid.out ?_)
      refine hid' ?_
      have HB3 := hid' (below_two HB.out hb3)
      clear hb3
      have HO3 := hid' (own_keep21 H.out HB3.out)
      have HBA := hid' (bl_alloc w3 (.cells #[.string ⟨#[104, 111, 115, 116]⟩, .string ⟨#[]⟩] 47))
      have HO4 := hid' (own_keep21 HO3.out HBA.out)
      have HSZ : Hid (B ≤ (w3.alloc (.cells #[.string ⟨#[104, 111, 115, 116]⟩, .string ⟨#[]⟩] 47)).heap.size) := hid' (Nat.le_trans HBB.out (Nat.le_trans HB3.out.size HBA.out.size))
      go_wp2_with (at_builtin; refine wpl_appk21 rfl _ _ 37 rfl B 47 i0 (.agg #[.string ⟨#[]⟩, .string ⟨#[]⟩]) 2 32 Tryz.underlying37 HI.out HZ0.out HZ1.out HZ2.out rfl (by decide) (.slice ao n cap) n _ rfl HO4.out ⟨w3.heap.size, 0, none⟩ 1 1 [.string ⟨#[104, 111, 115, 116]⟩, .string ⟨#[]⟩] rfl rfl (new_fd21 _ _ _) (one_fd21 _ _) (by unfold maxLen; omega) (by omega) HSZ.out ?_)
      intro v' w4 ho4 hk4 hg4 _
      obtain ⟨ro4, rc4, hv4⟩ := own_shape ho4
      subst hv4
      have HV4 := hid' ho4
      have HK4 := hid' hk4
      have HG4 := hid' hg4
      clear ho4 hk4 hg4
      go_wp2_with fail
      go_ret
      refine ⟨⟨_, rfl, ?_⟩, HK4.out, ((LF.of_below HB3.out).trans (LF.of_below HBA.out) (fun _ _ => id)).trans (lf_grown21 HG4.out) (fun _ _ => id)⟩
      rw [HN.out, fC_one21]
      exact HV4.out
    · go_enter Tryz.func84, Tryz.ntmps84
      go_wp2_with (refine (HH.out _ HB.out).mono ?_; rintro e w3 ⟨rfl, hb3⟩)
      have HB3 := hid' (below_two HB.out hb3)
      clear hb3
      go_wp2_with fail
      go_ret
      exact ⟨⟨_, rfl, by change World.ownsRow _ _ _ _ _ l.length (fC l); rw [HN.out]; exact own_keep21 H.out HB3.out⟩, own_keep21 H.out HB3.out, LF.of_below HB3.out⟩

theorem Hr.mem_size {l : List Fd} {x m : List UInt8} {K : Nat} (hs : ∀ f ∈ l, f.v.size ≤ K) (h : m ∈ Hr.mems l x) : m.length ≤ K := by
  unfold Hr.mems at h
  obtain ⟨f, hf, hm⟩ := List.mem_flatMap.1 h
  have h1 := Hr.list_mem hm
  have h2 := hs f (List.mem_filter.1 hf).1
  rw [Lib.size_eq] at h2
  omega
theorem Hr.mems_bound {l : List Fd} (x : List UInt8) (hl : l.length ≤ 1048576) (hs : ∀ f ∈ l, f.v.size ≤ 1048576) : (Hr.mems l x).length ≤ 1048576 * 1048577 := by
  have := Hr.mems_le x 1048577 l (fun f hf => by
    have h1 := Hr.list_len f.v.data.toList
    have h2 := hs f hf
    rw [Lib.size_eq] at h2
    omega)
  exact Nat.le_trans this (Nat.mul_le_mul_right _ hl)

set_option maxHeartbeats 2000000 in
set_option maxRecDepth 20000 in
theorem clast21 (m t : ByteArray) (old : Bool) (fv : Value) (l : List Fd) (r : Bool) (hr : (Hr.holds (Hr.mems l Hr.sConn) Hr.sClose || (old && !Hr.holds (Hr.mems l Hr.sConn) Hr.sKeep)) = r) (w : World) (h : FW w fv l) (hl : l.length ≤ 1048576) (hs : ∀ f ∈ l, f.v.size ≤ 1048576) :
    Calls Tryz.prog 87 #[.agg #[.string m, .string t, .bool old], fv] w fun e w' => e = .returned (.bool r) ∧ Below w.heap.size w w' := by
  have hb := bl_alloc w (.cells #[.string m, .string t, .bool old] 71)
  have HM := hid' (cmems21 fv l ⟨#[99, 111, 110, 110, 101, 99, 116, 105, 111, 110]⟩ _ (h.keep hb) hl hs)
  have HB := hid' hb
  have HA : Hid (Ar (w.alloc (.cells #[.string m, .string t, .bool old] 71)) w.heap.size 71 #[.string m, .string t, .bool old]) := hid' (heap_alloc_last w _)
  have hbd := Hr.mems_bound Hr.sConn hl hs
  have hms : ∀ x ∈ Hr.mems l Hr.sConn, x.length ≤ 140737488355328 := fun x hx => by have := Hr.mem_size hs hx; omega
  obtain ⟨ms, hmm⟩ : ∃ ms, Hr.mems l Hr.sConn = ms := ⟨_, rfl⟩
  have hme : Hr.mems l (⟨#[99, 111, 110, 110, 101, 99, 116, 105, 111, 110]⟩ : ByteArray).toList = ms := by rw [← hmm]; exact congrArg _ (ba_list Hr.sConn)
  rw [hme] at HM
  rw [hmm] at hbd hms hr
  obtain ⟨c1, h1⟩ : ∃ c1, Hr.holds ms Hr.sClose = c1 := ⟨_, rfl⟩
  obtain ⟨c2, h2⟩ : ∃ c2, Hr.holds ms Hr.sKeep = c2 := ⟨_, rfl⟩
  rw [h1, h2] at hr
  have HC : Hid (∀ (B : Nat) (v : Value) (W : World), W.ownsRow B 9 1 v ms.length (strCells ms) → Calls Tryz.prog 114 #[v, .string ⟨#[99, 108, 111, 115, 101]⟩] W fun e w' => e = .returned (.bool c1) ∧ Below W.heap.size W w') := hid' (fun B v W ho => cholds21 B v ms _ c1 (by rw [← h1]; rfl) W ho (by omega) hms (by decide))
  have HK : Hid (∀ (B : Nat) (v : Value) (W : World), W.ownsRow B 9 1 v ms.length (strCells ms) → Calls Tryz.prog 114 #[v, .string ⟨#[107, 101, 101, 112, 45, 97, 108, 105, 118, 101]⟩] W fun e w' => e = .returned (.bool c2) ∧ Below W.heap.size W w') := hid' (fun B v W ho => cholds21 B v ms _ c2 (by rw [← h2]; rfl) W ho (by omega) hms (by decide))
  clear hmm hme hbd hms h1 h2 hb h hl hs
  go_enter Tryz.func87, Tryz.ntmps87
  go_wp2_with fail
  obtain ⟨hb0, hhb0⟩ : ∃ b, w.heap.size = b := ⟨_, rfl⟩
  have HE := hid' hhb0
  refine HM.out.mono ?_
  rintro e w1 ⟨⟨vo, rfl, ho1⟩, hb1⟩
  obtain ⟨so, sc, hvo⟩ := own_shape ho1
  have HO1 := hid' ho1
  rw [hvo] at HO1 ⊢
  have HB1 := hid' (below_two HB.out hb1)
  have HA1 := hid' (HA.out.keep hb1)
  rw [hhb0] at HA1 ⊢
  have a2 := HA1.out.cell 2 _ rfl
  clear ho1 hb1 hhb0
  go_wp2_with fail
  refine (HC.out _ _ _ HO1.out).mono ?_
  rintro e w2 ⟨rfl, hb2⟩
  have HB2 := hid' (below_two HB1.out hb2)
  have HO2 := hid' (own_keep21 HO1.out hb2)
  have HA2 := hid' (HA1.out.keep hb2)
  clear a2
  have a2 := HA2.out.cell 2 _ rfl
  clear hb2
  cases c1
  · cases old
    · go_wp2_with fail
      go_ret
      exact ⟨by rw [← hr]; rfl, HB2.out⟩
    · go_wp2_with (refine (HK.out _ _ _ HO2.out).mono ?_; rintro e w3 ⟨rfl, hb3⟩)
      go_ret
      exact ⟨by rw [← hr]; rfl, below_two HB2.out hb3⟩
  · go_wp2_with fail
    go_ret
    exact ⟨by rw [← hr]; rfl, HB2.out⟩

end Go.Proofs.YthhpejgpfaikaaaGreatDoor
