/-
  The code's aim: by its contract.
-/
import Derived.Shelf.Strings.Cut
import Derived.Test.YtbpdhcfmdkmoiaaGreatDoorPnAT
namespace Go.Proofs.YtbpdhcfmdkmoiaaGreatDoor
open Go.RowKit

theorem dnB (w : World) (n : Nat) : Below w.heap.size w (w.drewN n) := ⟨rfl, rfl, rfl, Nat.le_refl _, fun _ _ => rfl⟩
theorem mk_tx (b : ByteArray) : (⟨(Ms.tx b).toArray⟩ : ByteArray) = b := Lib.mk_data b
/-- The request that aim answers. -/
def aimV (A : ByteArray × ByteArray × ByteArray × Bool) : Value := .tuple #[.agg (rqC ⟨#[]⟩ A.1 A.2.1 A.2.2.1 (.slice none 0 0) ⟨#[]⟩ (.slice none 0 0)), .bool A.2.2.2]
theorem hp_head (p : ByteArray) : Ms.head47 p = if Lib.hasPrefix p.data.toList [47] then p else ⟨#[47]⟩ ++ p := by
  unfold Ms.head47
  have h1 : ((Ms.tx p).head? == some 47) = Lib.hasPrefix p.data.toList [47] := Ms.head_pre _
  rw [h1]
  by_cases h0 : 0 < p.size
  · rw [decide_eq_true h0, Bool.true_and]
  · have h9 : p.data.toList = [] := List.eq_nil_of_length_eq_zero (by rw [← Lib.size_eq]; omega)
    have h2 : Lib.hasPrefix p.data.toList [47] = false := by rw [h9]; rfl
    rw [h2, Bool.and_false]
theorem ext_all (x : ByteArray) : x.extract 0 x.size = x := by
  apply ByteArray.ext
  rw [ByteArray.data_extract]
  apply Array.toList_inj.1
  rw [Array.toList_extract, List.extract_eq_take_drop, List.drop_zero, List.take_of_length_le (by rw [Lib.size_eq]; exact Nat.le_refl _)]
theorem ext_none (x : ByteArray) : x.extract x.size x.size = ⟨#[]⟩ := by
  apply ByteArray.ext
  rw [ByteArray.data_extract]
  apply Array.toList_inj.1
  rw [Array.toList_extract, List.extract_eq_take_drop, Nat.sub_self, List.take_zero]

set_option maxHeartbeats 4000000 in
set_option maxRecDepth 20000 in
theorem caim_rel (t host : ByteArray) (hc : (Lib.cut (Ms.tx t) Ms.sep3).2.2 = true → (Lib.cut (Ms.tx t) Ms.sep3).1 ≠ Ms.sHttp ∧ (Lib.cut (Ms.tx t) Ms.sep3).1 ≠ Ms.sHttps) (w : World) (hT : TB w) (ht : t.size ≤ 1048576) :
    Calls Tryz.prog 71 #[.string t, .string host] w fun e w' => e = .returned (aimV (Ms.bHttp, host, t, true)) ∧ Below w.heap.size w w' := by
  have hz := rq_zero w
  have hbz := bl_alloc w (.cells (rqC ⟨#[]⟩ ⟨#[]⟩ ⟨#[]⟩ ⟨#[]⟩ (.slice none 0 0) ⟨#[]⟩ (.slice none 0 0)) 47)
  have HT0 := hid' (hT.keep hbz)
  unfold rqC at hz hbz HT0
  go_enter Tryz.func71, Tryz.ntmps71
  go_wp2_with fail
  obtain ⟨rb, hrb⟩ : ∃ rb, w.heap.size = rb := ⟨_, rfl⟩
  have HRB := hid' hrb
  have HBZ := hid' hbz
  have HZ := hid' (hrb ▸ hz)
  clear hz hbz
  generalize w.alloc (.cells #[.string ⟨#[]⟩, .string ⟨#[]⟩, .string ⟨#[]⟩, .string ⟨#[]⟩, .slice none 0 0, .string ⟨#[]⟩, .slice none 0 0] 47) = w0 at *
  obtain ⟨mm, hmm⟩ := HT0.out.2
  refine (Tryz.strings_Cut t ⟨#[58, 47, 47]⟩ mm w0 (by omega) hmm).mono ?_
  clear hmm
  rw [hrb]
  clear hrb
  obtain ⟨x, hx⟩ : ∃ x : ByteArray, (⟨(Lib.cut t.data.toList (⟨#[58, 47, 47]⟩ : ByteArray).data.toList).1.toArray⟩ : ByteArray) = x := ⟨_, rfl⟩
  obtain ⟨y, hy⟩ : ∃ y : ByteArray, (⟨(Lib.cut t.data.toList (⟨#[58, 47, 47]⟩ : ByteArray).data.toList).2.1.toArray⟩ : ByteArray) = y := ⟨_, rfl⟩
  obtain ⟨is, his⟩ : ∃ is, (Lib.cut t.data.toList (⟨#[58, 47, 47]⟩ : ByteArray).data.toList).2.2 = is := ⟨_, rfl⟩
  rw [hx, hy, his]
  have hx2 : x.toList = (Lib.cut (Ms.tx t) Ms.sep3).1 := by rw [← hx, ba_list]; rfl
  rintro e w1 ⟨rfl, nq, hw1⟩
  have HB1 : Hid (Below w.heap.size w w1) := hid' (by rw [hw1]; exact below_two HBZ.out (dnB w0 nq))
  have HR : Hid (Ar w1 rb 47 #[.string ⟨#[]⟩, .string ⟨#[]⟩, .string ⟨#[]⟩, .string ⟨#[]⟩, .slice none 0 0, .string ⟨#[]⟩, .slice none 0 0]) := hid' (by rw [hw1]; exact HZ.out.keep (dnB w0 nq))
  clear hw1 hx hy
  cases is
  · go_wp2_with (refine wpl_store 47 _ _ rfl rfl rb (#[.string ⟨#[]⟩, .string ⟨#[104, 116, 116, 112]⟩, .string host, .string t, .slice none 0 0, .string ⟨#[]⟩, .slice none 0 0]) (by kernel_rfl) (by kernel_rfl) _ _ HR.out sizeRq14 rfl (by simp [Value.oneCell']) ?_)
    intro w4 hA4 hU4
    have HB4 : Hid (Below w.heap.size w w4) := hid' (HB1.out.trans (hU4.below (Nat.le_of_eq HRB.out)))
    have o0 := hA4.cell 0 _ rfl
    have o1 := hA4.cell 1 _ rfl
    have o2 := hA4.cell 2 _ rfl
    have o3 := hA4.cell 3 _ rfl
    have o4 := hA4.cell 4 _ rfl
    have o5 := hA4.cell 5 _ rfl
    have o6 := hA4.cell 6 _ rfl
    clear hU4 hA4
    go_wp2
    exact bodyPost_ret (v := .tuple #[.agg (rqC ⟨#[]⟩ Ms.bHttp host t (.slice none 0 0) ⟨#[]⟩ (.slice none 0 0)), .bool true]) (by simp [Ms.bHttp, results, Tryz.results71, go_sem, rqC, o0, o1, o2, o3, o4, o5, o6]) rfl ⟨rfl, HB4.out⟩
  · obtain ⟨k1, k2⟩ := hc his
    have c1 : (x.toList == [104, 116, 116, 112]) = false := beq_false_of_ne (by rw [hx2]; exact k1)
    have c2 : (x.toList == [104, 116, 116, 112, 115]) = false := beq_false_of_ne (by rw [hx2]; exact k2)
    have c3 : (x.toList != [104, 116, 116, 112]) = true := by unfold bne; rw [c1]; rfl
    have c4 : (x.toList != [104, 116, 116, 112, 115]) = true := by unfold bne; rw [c2]; rfl
    clear hx2 his k1 k2
    go_wp2_with (refine wpl_store 47 _ _ rfl rfl rb (#[.string ⟨#[]⟩, .string ⟨#[104, 116, 116, 112]⟩, .string host, .string t, .slice none 0 0, .string ⟨#[]⟩, .slice none 0 0]) (by kernel_rfl) (by kernel_rfl) _ _ HR.out sizeRq14 rfl (by simp [Value.oneCell']) ?_)
    intro w4 hA4 hU4
    have HB4 : Hid (Below w.heap.size w w4) := hid' (HB1.out.trans (hU4.below (Nat.le_of_eq HRB.out)))
    have o0 := hA4.cell 0 _ rfl
    have o1 := hA4.cell 1 _ rfl
    have o2 := hA4.cell 2 _ rfl
    have o3 := hA4.cell 3 _ rfl
    have o4 := hA4.cell 4 _ rfl
    have o5 := hA4.cell 5 _ rfl
    have o6 := hA4.cell 6 _ rfl
    clear hU4 hA4
    go_wp2
    exact bodyPost_ret (v := .tuple #[.agg (rqC ⟨#[]⟩ Ms.bHttp host t (.slice none 0 0) ⟨#[]⟩ (.slice none 0 0)), .bool true]) (by simp [Ms.bHttp, results, Tryz.results71, go_sem, rqC, o0, o1, o2, o3, o4, o5, o6]) rfl ⟨rfl, HB4.out⟩

set_option maxHeartbeats 4000000 in
set_option maxRecDepth 20000 in
theorem caim_abs (t host sch rest : ByteArray) (hc : Lib.cut (Ms.tx t) Ms.sep3 = (Ms.tx sch, Ms.tx rest, true)) (hsch : sch = Ms.bHttp ∨ sch = Ms.bHttps) (w : World) (hT : TB w) (ht : t.size ≤ 1048576) :
    Calls Tryz.prog 71 #[.string t, .string host] w fun e w' => e = .returned (aimV (Ms.absS sch rest)) ∧ Below w.heap.size w w' := by
  have hz := rq_zero w
  have hbz := bl_alloc w (.cells (rqC ⟨#[]⟩ ⟨#[]⟩ ⟨#[]⟩ ⟨#[]⟩ (.slice none 0 0) ⟨#[]⟩ (.slice none 0 0)) 47)
  have HT0 := hid' (hT.keep hbz)
  unfold rqC at hz hbz HT0
  have hrs : rest.size ≤ 1048576 := by
    have h1 : (Ms.tx rest).length ≤ (Ms.tx t).length := by
      have h2 : Ms.tx rest = (Lib.cut (Ms.tx t) Ms.sep3).2.1 := by rw [hc]
      rw [h2]
      unfold Lib.cut
      split
      · simp only [List.length_drop]; omega
      · simp
    rw [Ms.tx_len, Ms.tx_len] at h1
    omega
  have hcl : ((sch.toList == [104, 116, 116, 112]) = true ∧ (sch.toList != [104, 116, 116, 112]) = false) ∨ ((sch.toList == [104, 116, 116, 112]) = false ∧ (sch.toList != [104, 116, 116, 112]) = true ∧ (sch.toList != [104, 116, 116, 112, 115]) = false ∧ (sch.toList == [104, 116, 116, 112, 115]) = true) := by
    rw [Ms.tl_tx]
    rcases hsch with rfl | rfl
    · exact .inl (by decide)
    · exact .inr (by decide)
  obtain ⟨k, hk⟩ : ∃ k, Ms.stop (Ms.tx rest) = k := ⟨_, rfl⟩
  have hkl : k ≤ rest.size := by rw [← hk, ← Ms.tx_len]; exact Ms.stop_le _
  obtain ⟨au, hau⟩ : ∃ au, rest.extract 0 k = au := ⟨_, rfl⟩
  obtain ⟨p0, hp0⟩ : ∃ p0, rest.extract k rest.size = p0 := ⟨_, rfl⟩
  obtain ⟨hp, hhp⟩ : ∃ hp, Lib.hasPrefix p0.data.toList [47] = hp := ⟨_, rfl⟩
  have HHP : Hid (∀ W, Calls Tryz.prog 93 #[.string p0, .string ⟨#[47]⟩] W fun e w' => e = .returned (.bool hp) ∧ w' = W) := hid' (fun W => by have := Tryz.strings_HasPrefix p0 ⟨#[47]⟩ W; rw [← hhp]; exact this)
  have hp0s : p0.size ≤ 1048576 := by rw [← hp0, ByteArray.size_extract]; omega
  obtain ⟨pa, hpa⟩ : ∃ pa, ⟨#[47]⟩ ++ p0 = pa := ⟨_, rfl⟩
  have HAU : Hid ((au.toList != []) = decide (0 < k)) := hid' (by
    have h1 : au.data.toList.length = k := by rw [← Lib.size_eq, ← hau, ByteArray.size_extract]; omega
    unfold bne
    rw [Lib.toList_data]
    by_cases h0 : 0 < k
    · rw [decide_eq_true h0]
      cases hq : au.data.toList with
      | nil => rw [hq] at h1; simp at h1; omega
      | cons a r => rfl
    · rw [decide_eq_false h0]
      cases hq : au.data.toList with
      | nil => rfl
      | cons a r => rw [hq] at h1; simp at h1; omega)
  have HRES : Hid (aimV (Ms.absS sch rest) = .tuple #[.agg (rqC ⟨#[]⟩ sch au (if hp then p0 else pa) (.slice none 0 0) ⟨#[]⟩ (.slice none 0 0)), .bool (decide (0 < k))]) := hid' (by
    unfold Ms.absS aimV
    simp only [hk, hau, hp0]
    rw [hp_head, hhp, hpa])
  have HIX : Hid (∀ W, Calls Tryz.prog 92 #[.string rest, .string ⟨#[47, 63]⟩] W fun e w' => e = .returned (.int .i64 (if k = rest.size then -1 else (k : Int))) ∧ Below W.heap.size W w') := hid' (fun W => by have := cidx14 rest W hrs; unfold ixV at this; rw [hk, Ms.tx_len] at this; exact this)
  obtain ⟨ne, hne⟩ : ∃ ne, (au.toList != []) = ne := ⟨_, rfl⟩
  rw [hne] at HAU
  have hne2 : au.toList.isEmpty = !ne := by rw [← hne]; cases au.toList <;> rfl
  go_enter Tryz.func71, Tryz.ntmps71
  go_wp2_with fail
  obtain ⟨rb, hrb⟩ : ∃ rb, w.heap.size = rb := ⟨_, rfl⟩
  have HRB := hid' hrb
  have HBZ := hid' hbz
  have HZ := hid' (hrb ▸ hz)
  clear hz hbz
  generalize w.alloc (.cells #[.string ⟨#[]⟩, .string ⟨#[]⟩, .string ⟨#[]⟩, .string ⟨#[]⟩, .slice none 0 0, .string ⟨#[]⟩, .slice none 0 0] 47) = w0 at *
  obtain ⟨mm, hmm⟩ := HT0.out.2
  refine (Tryz.strings_Cut t ⟨#[58, 47, 47]⟩ mm w0 (by omega) hmm).mono ?_
  clear hmm
  rw [hrb]
  clear hrb
  have e1 : Lib.cut t.data.toList (⟨#[58, 47, 47]⟩ : ByteArray).data.toList = (Ms.tx sch, Ms.tx rest, true) := hc
  rw [e1]
  simp only [mk_tx]
  rintro e w1 ⟨rfl, nq, hw1⟩
  have HB1 : Hid (Below w.heap.size w w1) := hid' (by rw [hw1]; exact below_two HBZ.out (dnB w0 nq))
  have HR1 : Hid (Ar w1 rb 47 #[.string ⟨#[]⟩, .string ⟨#[]⟩, .string ⟨#[]⟩, .string ⟨#[]⟩, .slice none 0 0, .string ⟨#[]⟩, .slice none 0 0]) := hid' (by rw [hw1]; exact HZ.out.keep (dnB w0 nq))
  clear hw1 e1 hc hsch
  by_cases hks : k = rest.size
  · have h1 : au = rest := by rw [← hau, hks]; exact ext_all rest
    have h2 : p0 = ⟨#[]⟩ := by rw [← hp0, hks]; exact ext_none rest
    rw [if_pos hks] at HIX
    have h3 : hp = false := by rw [← hhp, h2]; rfl
    clear hau hp0 hk hks hkl hhp
    subst h1 h2 h3
    have hng : ¬ (0 : Int) ≤ -1 := by decide
    rcases hcl with ⟨c1, c2⟩ | ⟨c1, c2, c3, c4⟩
    · go_wp2_with fail
      refine (HIX.out _).mono ?_
      rintro e w3 ⟨rfl, hb3⟩
      have HB3 := hid' (below_two HB1.out hb3)
      have HR := hid' (HR1.out.keep hb3)
      clear hb3
      go_wp2_with fail
      refine (HHP.out _).mono ?_
      rintro e w5 ⟨rfl, hw5⟩
      subst w5
      go_wp2_with (refine wpl_store 47 _ _ rfl rfl rb (#[.string ⟨#[]⟩, .string sch, .string au, .string pa, .slice none 0 0, .string ⟨#[]⟩, .slice none 0 0]) (by kernel_rfl) (by kernel_rfl) _ _ HR.out sizeRq14 rfl (by simp [Value.oneCell']) ?_)
      intro w4 hA4 hU4
      have HB4 : Hid (Below w.heap.size w w4) := hid' (HB3.out.trans (hU4.below (Nat.le_of_eq HRB.out)))
      have o0 := hA4.cell 0 _ rfl
      have o1 := hA4.cell 1 _ rfl
      have o2 := hA4.cell 2 _ rfl
      have o3 := hA4.cell 3 _ rfl
      have o4 := hA4.cell 4 _ rfl
      have o5 := hA4.cell 5 _ rfl
      have o6 := hA4.cell 6 _ rfl
      clear hU4 hA4
      go_wp2
      exact bodyPost_ret (v := .tuple #[.agg (rqC ⟨#[]⟩ sch au pa (.slice none 0 0) ⟨#[]⟩ (.slice none 0 0)), .bool ne]) (by simp [results, Tryz.results71, go_sem, rqC, o0, o1, o2, o3, o4, o5, o6]) rfl ⟨by rw [HRES.out, HAU.out]; rfl, HB4.out⟩
    · go_wp2_with fail
      refine (HIX.out _).mono ?_
      rintro e w3 ⟨rfl, hb3⟩
      have HB3 := hid' (below_two HB1.out hb3)
      have HR := hid' (HR1.out.keep hb3)
      clear hb3
      go_wp2_with fail
      refine (HHP.out _).mono ?_
      rintro e w5 ⟨rfl, hw5⟩
      subst w5
      go_wp2_with (refine wpl_store 47 _ _ rfl rfl rb (#[.string ⟨#[]⟩, .string sch, .string au, .string pa, .slice none 0 0, .string ⟨#[]⟩, .slice none 0 0]) (by kernel_rfl) (by kernel_rfl) _ _ HR.out sizeRq14 rfl (by simp [Value.oneCell']) ?_)
      intro w4 hA4 hU4
      have HB4 : Hid (Below w.heap.size w w4) := hid' (HB3.out.trans (hU4.below (Nat.le_of_eq HRB.out)))
      have o0 := hA4.cell 0 _ rfl
      have o1 := hA4.cell 1 _ rfl
      have o2 := hA4.cell 2 _ rfl
      have o3 := hA4.cell 3 _ rfl
      have o4 := hA4.cell 4 _ rfl
      have o5 := hA4.cell 5 _ rfl
      have o6 := hA4.cell 6 _ rfl
      clear hU4 hA4
      go_wp2
      exact bodyPost_ret (v := .tuple #[.agg (rqC ⟨#[]⟩ sch au pa (.slice none 0 0) ⟨#[]⟩ (.slice none 0 0)), .bool ne]) (by simp [results, Tryz.results71, go_sem, rqC, o0, o1, o2, o3, o4, o5, o6]) rfl ⟨by rw [HRES.out, HAU.out]; rfl, HB4.out⟩
  · rw [if_neg hks] at HIX
    have g1 : (0 : Int) ≤ (k : Int) := by omega
    have g2 : (k : Int) ≤ (rest.size : Int) := by omega
    clear hk hks hhp
    rcases hcl with ⟨c1, c2⟩ | ⟨c1, c2, c3, c4⟩
    · go_wp2_with fail
      refine (HIX.out _).mono ?_
      rintro e w3 ⟨rfl, hb3⟩
      have HBq := hid' (below_two HB1.out hb3)
      have HRq := hid' (HR1.out.keep hb3)
      clear hb3
      go_wp2
      go_quiet (fail)
      have HB3 := hid' (below_two HBq.out (dnB w3 nq))
      have HR := hid' (HRq.out.keep (dnB w3 nq))
      generalize w3.drewN nq = w6 at *
      go_wp2_with fail
      refine (HHP.out _).mono ?_
      rintro e w5 ⟨rfl, hw5⟩
      subst w5
      cases hp
      · go_wp2_with (refine wpl_store 47 _ _ rfl rfl rb (#[.string ⟨#[]⟩, .string sch, .string au, .string pa, .slice none 0 0, .string ⟨#[]⟩, .slice none 0 0]) (by kernel_rfl) (by kernel_rfl) _ _ HR.out sizeRq14 rfl (by simp [Value.oneCell']) ?_)
        intro w4 hA4 hU4
        have HB4 : Hid (Below w.heap.size w w4) := hid' (HB3.out.trans (hU4.below (Nat.le_of_eq HRB.out)))
        have o0 := hA4.cell 0 _ rfl
        have o1 := hA4.cell 1 _ rfl
        have o2 := hA4.cell 2 _ rfl
        have o3 := hA4.cell 3 _ rfl
        have o4 := hA4.cell 4 _ rfl
        have o5 := hA4.cell 5 _ rfl
        have o6 := hA4.cell 6 _ rfl
        clear hU4 hA4
        go_wp2
        exact bodyPost_ret (v := .tuple #[.agg (rqC ⟨#[]⟩ sch au pa (.slice none 0 0) ⟨#[]⟩ (.slice none 0 0)), .bool ne]) (by simp [results, Tryz.results71, go_sem, rqC, o0, o1, o2, o3, o4, o5, o6]) rfl ⟨by rw [HRES.out, HAU.out]; rfl, HB4.out⟩
      · go_wp2_with (refine wpl_store 47 _ _ rfl rfl rb (#[.string ⟨#[]⟩, .string sch, .string au, .string p0, .slice none 0 0, .string ⟨#[]⟩, .slice none 0 0]) (by kernel_rfl) (by kernel_rfl) _ _ HR.out sizeRq14 rfl (by simp [Value.oneCell']) ?_)
        intro w4 hA4 hU4
        have HB4 : Hid (Below w.heap.size w w4) := hid' (HB3.out.trans (hU4.below (Nat.le_of_eq HRB.out)))
        have o0 := hA4.cell 0 _ rfl
        have o1 := hA4.cell 1 _ rfl
        have o2 := hA4.cell 2 _ rfl
        have o3 := hA4.cell 3 _ rfl
        have o4 := hA4.cell 4 _ rfl
        have o5 := hA4.cell 5 _ rfl
        have o6 := hA4.cell 6 _ rfl
        clear hU4 hA4
        go_wp2
        exact bodyPost_ret (v := .tuple #[.agg (rqC ⟨#[]⟩ sch au p0 (.slice none 0 0) ⟨#[]⟩ (.slice none 0 0)), .bool ne]) (by simp [results, Tryz.results71, go_sem, rqC, o0, o1, o2, o3, o4, o5, o6]) rfl ⟨by rw [HRES.out, HAU.out]; rfl, HB4.out⟩
    · go_wp2_with fail
      refine (HIX.out _).mono ?_
      rintro e w3 ⟨rfl, hb3⟩
      have HBq := hid' (below_two HB1.out hb3)
      have HRq := hid' (HR1.out.keep hb3)
      clear hb3
      go_wp2
      go_quiet (fail)
      have HB3 := hid' (below_two HBq.out (dnB w3 nq))
      have HR := hid' (HRq.out.keep (dnB w3 nq))
      generalize w3.drewN nq = w6 at *
      go_wp2_with fail
      refine (HHP.out _).mono ?_
      rintro e w5 ⟨rfl, hw5⟩
      subst w5
      cases hp
      · go_wp2_with (refine wpl_store 47 _ _ rfl rfl rb (#[.string ⟨#[]⟩, .string sch, .string au, .string pa, .slice none 0 0, .string ⟨#[]⟩, .slice none 0 0]) (by kernel_rfl) (by kernel_rfl) _ _ HR.out sizeRq14 rfl (by simp [Value.oneCell']) ?_)
        intro w4 hA4 hU4
        have HB4 : Hid (Below w.heap.size w w4) := hid' (HB3.out.trans (hU4.below (Nat.le_of_eq HRB.out)))
        have o0 := hA4.cell 0 _ rfl
        have o1 := hA4.cell 1 _ rfl
        have o2 := hA4.cell 2 _ rfl
        have o3 := hA4.cell 3 _ rfl
        have o4 := hA4.cell 4 _ rfl
        have o5 := hA4.cell 5 _ rfl
        have o6 := hA4.cell 6 _ rfl
        clear hU4 hA4
        go_wp2
        exact bodyPost_ret (v := .tuple #[.agg (rqC ⟨#[]⟩ sch au pa (.slice none 0 0) ⟨#[]⟩ (.slice none 0 0)), .bool ne]) (by simp [results, Tryz.results71, go_sem, rqC, o0, o1, o2, o3, o4, o5, o6]) rfl ⟨by rw [HRES.out, HAU.out]; rfl, HB4.out⟩
      · go_wp2_with (refine wpl_store 47 _ _ rfl rfl rb (#[.string ⟨#[]⟩, .string sch, .string au, .string p0, .slice none 0 0, .string ⟨#[]⟩, .slice none 0 0]) (by kernel_rfl) (by kernel_rfl) _ _ HR.out sizeRq14 rfl (by simp [Value.oneCell']) ?_)
        intro w4 hA4 hU4
        have HB4 : Hid (Below w.heap.size w w4) := hid' (HB3.out.trans (hU4.below (Nat.le_of_eq HRB.out)))
        have o0 := hA4.cell 0 _ rfl
        have o1 := hA4.cell 1 _ rfl
        have o2 := hA4.cell 2 _ rfl
        have o3 := hA4.cell 3 _ rfl
        have o4 := hA4.cell 4 _ rfl
        have o5 := hA4.cell 5 _ rfl
        have o6 := hA4.cell 6 _ rfl
        clear hU4 hA4
        go_wp2
        exact bodyPost_ret (v := .tuple #[.agg (rqC ⟨#[]⟩ sch au p0 (.slice none 0 0) ⟨#[]⟩ (.slice none 0 0)), .bool ne]) (by simp [results, Tryz.results71, go_sem, rqC, o0, o1, o2, o3, o4, o5, o6]) rfl ⟨by rw [HRES.out, HAU.out]; rfl, HB4.out⟩

theorem caim14 (t host : ByteArray) (w : World) (hT : TB w) (ht : t.size ≤ 1048576) :
    Calls Tryz.prog 71 #[.string t, .string host] w fun e w' => e = .returned (aimV (Ms.aimS t host)) ∧ Below w.heap.size w w' := by
  unfold Ms.aimS
  have p1 : Ms.beg t Ms.bHttps3 = (Ms.sHttps ++ Ms.sep3).isPrefixOf (Ms.tx t) := Ms.beg_pre t Ms.bHttps3
  have p2 : Ms.beg t Ms.bHttp3 = (Ms.sHttp ++ Ms.sep3).isPrefixOf (Ms.tx t) := Ms.beg_pre t Ms.bHttp3
  cases h1 : Ms.beg t Ms.bHttps3
  · cases h2 : Ms.beg t Ms.bHttp3
    · rw [h1] at p1
      rw [h2] at p2
      exact caim_rel t host (fun hf => ⟨Ms.cut_no p2.symm hf, Ms.cut_no p1.symm hf⟩) w hT ht
    · rw [h2] at p2
      have hc := Ms.cut_yes (L := Ms.tx t) (p := Ms.sHttp) (by decide) p2.symm
      refine caim_abs t host Ms.bHttp (t.extract 7 t.size) ?_ (.inl rfl) w hT ht
      rw [hc]
      congr 2
      rw [← ba_drop t 7]
      rfl
  · rw [h1] at p1
    have hc := Ms.cut_yes (L := Ms.tx t) (p := Ms.sHttps) (by decide) p1.symm
    refine caim_abs t host Ms.bHttps (t.extract 8 t.size) ?_ (.inr rfl) w hT ht
    rw [hc]
    congr 2
    rw [← ba_drop t 8]
    rfl

end Go.Proofs.YtbpdhcfmdkmoiaaGreatDoor
