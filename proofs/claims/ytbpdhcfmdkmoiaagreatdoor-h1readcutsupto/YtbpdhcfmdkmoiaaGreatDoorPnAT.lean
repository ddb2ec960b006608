/-
  The code's onlyHost, areSound, aim: by their contracts.
-/
import Derived.Lib.IndexMore
import Derived.Test.YtbpdhcfmdkmoiaaGreatDoorPnAL
import Derived.Test.YtbpdhcfmdkmoiaaGreatDoorPnAS
namespace Go.Proofs.YtbpdhcfmdkmoiaaGreatDoor
open Go.RowKit

namespace Ms
def sep3 : T8 := [58, 47, 47]
theorem beg_pre (t x : ByteArray) : beg t x = (tx x).isPrefixOf (tx t) := by
  unfold beg
  have hx := tx_len x
  have ht := tx_len t
  rw [Bool.eq_iff_iff, Bool.and_eq_true, decide_eq_true_eq, beq_iff_eq, List.isPrefixOf_iff_prefix, tl_tx, tl_tx]
  have e : tx (t.extract 0 x.size) = (tx t).take x.size := by
    unfold tx
    rw [ByteArray.data_extract, Array.toList_extract, List.extract_eq_take_drop]
    simp
  rw [e]
  constructor
  · rintro ⟨_, h⟩
    rw [← h]
    exact List.take_prefix _ _
  · intro h
    exact ⟨by rw [← hx, ← ht]; exact h.length_le, by rw [← hx]; exact (List.prefix_iff_eq_take.1 h).symm⟩
theorem occ_head {L : T8} {j : Nat} {c : UInt8} (hc : L[j]? = some c) (h : c ≠ 58) : Lib.occAt L sep3 j = false := by
  unfold Lib.occAt sep3
  obtain ⟨h1, h2⟩ := List.getElem?_eq_some_iff.1 hc
  rw [List.drop_eq_getElem_cons h1, h2]
  simp only [List.isPrefixOf]
  rw [beq_false_of_ne (fun e => h e.symm)]
  rfl
/-- A text whose beginning has no colon is cut where the beginning ends. -/
theorem cut_yes {L p : T8} (hp : ∀ c ∈ p, c ≠ 58) (h : (p ++ sep3).isPrefixOf L = true) : Lib.cut L sep3 = (p, L.drop (p.length + 3), true) := by
  obtain ⟨r, hr⟩ := List.isPrefixOf_iff_prefix.1 h
  have hi : Lib.index L sep3 = (p.length : Int) := by
    refine Lib.index_first (by rw [← hr]; simp) ?_ ?_
    · unfold Lib.occAt
      rw [← hr, List.append_assoc, List.drop_left]
      exact List.isPrefixOf_iff_prefix.2 ⟨r, rfl⟩
    · intro j hj
      refine occ_head (c := p[j]) ?_ (hp _ (List.getElem_mem hj))
      rw [← hr, List.append_assoc, List.getElem?_append_left hj]
      exact List.getElem?_eq_getElem hj
  unfold Lib.cut
  rw [hi, if_pos (by omega)]
  have e : L.take p.length = p := by rw [← hr, List.append_assoc, List.take_left]
  simp only [Int.toNat_natCast, e]
  rfl
theorem cut_no {L p : T8} (h : (p ++ sep3).isPrefixOf L = false) (hf : (Lib.cut L sep3).2.2 = true) : (Lib.cut L sep3).1 ≠ p := by
  intro e
  unfold Lib.cut at hf e
  by_cases h0 : 0 ≤ Lib.index L sep3
  · rw [if_pos h0] at e
    rcases Lib.index_spec L sep3 with ⟨h1, _⟩ | ⟨i, h1, h2, h3, _⟩
    · omega
    · rw [h1] at e
      simp only [Int.toNat_natCast] at e
      obtain ⟨r, hr⟩ := List.isPrefixOf_iff_prefix.1 h3
      have : (p ++ sep3).isPrefixOf L = true := List.isPrefixOf_iff_prefix.2 ⟨r, by rw [← e, List.append_assoc, hr, List.take_append_drop]⟩
      rw [this] at h
      cases h
  · rw [if_neg h0] at hf
    cases hf
/-- What a target names: scheme, authority, path, and whether it names no empty authority. -/
def absS (sch rest : ByteArray) : ByteArray × ByteArray × ByteArray × Bool :=
  (sch, rest.extract 0 (stop (tx rest)), head47 (rest.extract (stop (tx rest)) rest.size), decide (0 < stop (tx rest)))
def aimS (t host : ByteArray) : ByteArray × ByteArray × ByteArray × Bool :=
  if beg t bHttps3 then absS bHttps (t.extract 8 t.size) else if beg t bHttp3 then absS bHttp (t.extract 7 t.size) else (bHttp, host, t, true)
theorem abs_S (m sch rest : ByteArray) : absT m sch rest = ((absS sch rest).1, (absS sch rest).2.1, (absS sch rest).2.2.1, (absS sch rest).2.2.2 && goes m (absS sch rest).2.2.1) := rfl
theorem aim_S (m t host : ByteArray) : aim m t host = ((aimS t host).1, (aimS t host).2.1, (aimS t host).2.2.1, (aimS t host).2.2.2 && goes m (aimS t host).2.2.1) := by
  unfold aim aimS
  generalize t.extract 8 t.size = r8
  generalize t.extract 7 t.size = r7
  cases beg t bHttps3
  · cases beg t bHttp3
    · simp only [Bool.false_eq_true, if_false, Bool.true_and]
    · simp only [Bool.false_eq_true, if_false, if_true]
      exact abs_S m bHttp r7
  · simp only [if_true]
    exact abs_S m bHttps r8
end Ms
theorem ba_drop (t : ByteArray) (k : Nat) : (⟨((Ms.tx t).drop k).toArray⟩ : ByteArray) = t.extract k t.size := by
  apply ByteArray.ext
  rw [ByteArray.data_extract]
  apply Array.toList_inj.1
  rw [Array.toList_extract, List.extract_eq_take_drop, List.take_of_length_le (by rw [List.length_drop, ← Lib.size_eq]; exact Nat.le_refl _)]
  rfl

set_option maxHeartbeats 2000000 in
set_option maxRecDepth 20000 in
theorem conly14 (v : Value) (l : List Fd) (w : World) (h : FW w v l) (hl : l.length ≤ 1048576) (hs : ∀ f ∈ l, f.n.size ≤ 140737488355328 ∧ f.v.size ≤ 140737488355328) :
    Calls Tryz.prog 69 #[v] w fun e w' => e = .returned (.tuple #[.string (Ms.hostOf l), .bool ((Ms.hosts l).length == 1)]) ∧ Below w.heap.size w w' := by
  obtain ⟨ao, cap, hv⟩ := h.shape
  subst hv
  obtain ⟨n, hn⟩ : ∃ n, l.length = n := ⟨_, rfl⟩
  rw [hn] at h hl ⊢
  have H := hid' h
  have HN := hid' hn
  have HS := hid' hs
  clear h hn hs
  go_enter Tryz.func69, Tryz.ntmps69
  go_wp2
  go_loopw [4, 5, 10] (fun s4 s5 s10 wr => ∃ (k c : Nat) (ho : ByteArray), s10 = .int .i64 (k : Int) ∧ s5 = .int .i64 (c : Int) ∧ s4 = .string ho ∧ k ≤ n ∧ c ≤ k ∧ Hid (Ms.hostOf (l.take k) = ho) ∧ Hid ((Ms.hosts (l.take k)).length = c) ∧ Hid (Below w.heap.size w wr)) (fun _ _ s10 _ => n - (intOf s10).toNat)
  case atStart => exact ⟨0, 0, ⟨#[]⟩, rfl, rfl, rfl, Nat.zero_le _, Nat.le_refl _, hid' rfl, hid' rfl, hid' (Below.refl _ _)⟩
  case round =>
    obtain ⟨k, c, ho, rfl, rfl, rfl, hk, hck, HO, HCT, HB⟩ := hrel
    by_cases hlt : k < n
    · have hlt2 : (k : Int) < (n : Int) := by omega
      obtain ⟨p, hp⟩ : ∃ p, l[k]? = some p := ⟨_, List.getElem?_eq_getElem (by rw [HN.out]; exact hlt)⟩
      obtain ⟨a, hao, y0, y1⟩ := (H.out.keep HB.out).two k p hp
      subst hao
      have HPS := hid' (HS.out p (List.mem_of_getElem? hp))
      have HTK : Hid (l.take (k + 1) = l.take k ++ [p]) := hid' (by rw [List.take_add_one, hp]; rfl)
      obtain ⟨sm, hsm⟩ : ∃ sm, Ms.isHost p = sm := ⟨_, rfl⟩
      have HSM : Hid ((Tx.lower p.n.data.toList == Tx.lower (⟨#[104, 111, 115, 116]⟩ : ByteArray).data.toList) = sm) := hid' hsm
      have HH := hid' hsm
      have HX := hid' (fd_new wr p)
      have HB1 := hid' (below_two HB.out (bl_alloc wr (.cells #[.string p.n, .string p.v] 52)))
      clear hp hsm
      go_wp2_with fail
      obtain ⟨xb, hxb⟩ : ∃ xb, wr.heap.size = xb := ⟨_, rfl⟩
      rw [hxb] at HX ⊢
      clear hxb y0 y1 HB
      generalize wr.alloc (.cells #[.string p.n, .string p.v] 52) = w1 at *
      refine (csame14 p.n _ sm HSM.out w1 HPS.out.1 (by decide)).mono ?_
      rintro e w2 ⟨rfl, hb2⟩
      have HB2 := hid' (below_two HB1.out hb2)
      have HX2 := hid' (HX.out.keep hb2)
      have x1 := HX2.out.cell 1 _ rfl
      clear hb2 HB1 HX
      cases sm
      · have HQ : Hid (Ms.hosts (l.take (k + 1)) = Ms.hosts (l.take k)) := hid' (by rw [HTK.out]; unfold Ms.hosts; rw [List.filter_append, List.filter_cons, HH.out]; simp)
        go_wp2
        go_roundw
        case rel => exact ⟨k + 1, c, ho, by go_num, rfl, rfl, by omega, by omega, hid' (by unfold Ms.hostOf; rw [HQ.out]; exact HO.out), hid' (by rw [HQ.out]; exact HCT.out), HB2⟩
        case measure => simp [intOf]; omega
      · have HQ : Hid (Ms.hosts (l.take (k + 1)) = Ms.hosts (l.take k) ++ [p]) := hid' (by rw [HTK.out]; unfold Ms.hosts; rw [List.filter_append, List.filter_cons, HH.out]; simp)
        go_wp2
        go_roundw
        case rel => exact ⟨k + 1, c + 1, p.v, by go_num, by go_num, rfl, by omega, by omega, hid' (by unfold Ms.hostOf; rw [HQ.out]; simp), hid' (by rw [HQ.out, List.length_append, HCT.out]; rfl), HB2⟩
        case measure => simp [intOf]; omega
    · obtain rfl : k = n := by omega
      have hlt2 : ¬ (k : Int) < (k : Int) := by omega
      have HTK : Hid (l.take k = l) := hid' (List.take_of_length_le (by rw [HN.out]; exact Nat.le_refl _))
      have HC2 : Hid (((c : Int) == 1) = ((Ms.hosts l).length == 1)) := hid' (by rw [← HTK.out, HCT.out, Bool.eq_iff_iff, beq_iff_eq, beq_iff_eq]; omega)
      clear hlt
      go_wp2
      go_ret2
      exact ⟨by rw [← HC2.out, ← HO.out, HTK.out]; rfl, HB.out⟩

set_option maxHeartbeats 2000000 in
set_option maxRecDepth 20000 in
theorem csnds14 (v : Value) (l : List Fd) (r : Bool) (hr : l.all Ms.sound = r) (w : World) (h : FW w v l) (hl : l.length ≤ 1048576) (hs : ∀ f ∈ l, f.n.size ≤ 140737488355328 ∧ f.v.size ≤ 140737488355328) :
    Calls Tryz.prog 70 #[v] w fun e w' => e = .returned (.bool r) ∧ Below w.heap.size w w' := by
  obtain ⟨ao, cap, hv⟩ := h.shape
  subst hv
  obtain ⟨n, hn⟩ : ∃ n, l.length = n := ⟨_, rfl⟩
  rw [hn] at h hl ⊢
  have H := hid' h
  have HN := hid' hn
  have HS := hid' hs
  have HR := hid' hr
  clear h hn hs hr
  go_enter Tryz.func70, Tryz.ntmps70
  go_wp2
  go_loopw [7] (fun s7 wr => ∃ (k : Nat), s7 = .int .i64 (k : Int) ∧ k ≤ n ∧ Hid ((l.drop k).all Ms.sound = r) ∧ Hid (Below w.heap.size w wr)) (fun s7 _ => n - (intOf s7).toNat)
  case atStart => exact ⟨0, rfl, Nat.zero_le _, HR, hid' (Below.refl _ _)⟩
  case round =>
    obtain ⟨k, rfl, hk, HI, HB⟩ := hrel
    by_cases hlt : k < n
    · have hlt2 : (k : Int) < (n : Int) := by omega
      obtain ⟨p, hp⟩ : ∃ p, l[k]? = some p := ⟨_, List.getElem?_eq_getElem (by rw [HN.out]; exact hlt)⟩
      obtain ⟨a, hao, y0, y1⟩ := (H.out.keep HB.out).two k p hp
      subst hao
      have HPS := hid' (HS.out p (List.mem_of_getElem? hp))
      obtain ⟨sm, hsm⟩ : ∃ sm, Ms.sound p = sm := ⟨_, rfl⟩
      have HD : Hid (r = (sm && (l.drop (k + 1)).all Ms.sound)) := hid' (by
        obtain ⟨h1, h2⟩ := List.getElem?_eq_some_iff.1 hp
        rw [← HI.out, List.drop_eq_getElem_cons h1, h2, List.all_cons, hsm])
      have HSM := hid' hsm
      have HX := hid' (fd_new wr p)
      have HB1 := hid' (below_two HB.out (bl_alloc wr (.cells #[.string p.n, .string p.v] 52)))
      clear hp hsm
      go_wp2_with fail
      generalize wr.alloc (.cells #[.string p.n, .string p.v] 52) = w1 at *
      clear y0 y1 HB
      refine (csound14 p sm HSM.out w1 HPS.out.1 HPS.out.2).mono ?_
      rintro e w2 ⟨rfl, hb2⟩
      have HB2 := hid' (below_two HB1.out hb2)
      clear hb2 HB1 HX
      cases sm
      · have HE : Hid (r = false) := hid' (by rw [HD.out]; rfl)
        go_wp2
        go_ret
        exact ⟨by rw [HE.out]; rfl, HB2.out⟩
      · have HE : Hid ((l.drop (k + 1)).all Ms.sound = r) := hid' (by rw [HD.out]; rfl)
        go_wp2
        go_roundw
        case rel => exact ⟨k + 1, by go_num, by omega, HE, HB2⟩
        case measure => simp [intOf]; omega
    · obtain rfl : k = n := by omega
      have hlt2 : ¬ (k : Int) < (k : Int) := by omega
      have HE : Hid (r = true) := hid' (by rw [← HI.out, List.drop_of_length_le (by rw [HN.out]; exact Nat.le_refl _)]; rfl)
      clear hlt
      go_wp2
      go_ret
      exact ⟨by rw [HE.out]; rfl, HB.out⟩

end Go.Proofs.YtbpdhcfmdkmoiaaGreatDoor
