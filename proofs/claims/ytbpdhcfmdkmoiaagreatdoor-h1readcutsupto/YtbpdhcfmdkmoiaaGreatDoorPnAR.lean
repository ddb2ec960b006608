/-
  The reader's checkCoding, lengthOf: by their contracts.
-/
import Derived.Test.YtbpdhcfmdkmoiaaGreatDoorPnAQ
namespace Go.Proofs.YtbpdhcfmdkmoiaaGreatDoor
open Go.RowKit

set_option maxHeartbeats 4000000 in
set_option maxRecDepth 20000 in
theorem ccod21 (m t : ByteArray) (s : Hr.St) (fv : Value) (w : World) (h : FW w fv s.fs) (hl : s.fs.length ≤ 1048576) (hs : ∀ f ∈ s.fs, f.v.size ≤ 1048576) :
    Calls Tryz.prog 66 #[.agg #[.string m, .string t, .bool s.old], fv] w fun e w' => e = .returned (.int .i64 (Hr.codE s)) ∧ Below w.heap.size w w' := by
  obtain ⟨te, hte⟩ : ∃ te, Hr.hasB s.fs Hr.sTE = te := ⟨_, rfl⟩
  obtain ⟨cl, hcl⟩ : ∃ cl, Hr.hasB s.fs Hr.sCL = cl := ⟨_, rfl⟩
  obtain ⟨ms, hms⟩ : ∃ ms, Hr.mems s.fs Hr.sTE = ms := ⟨_, rfl⟩
  obtain ⟨old, hold⟩ : ∃ old, s.old = old := ⟨_, rfl⟩
  have HT : Hid (∀ W, Below w.heap.size w W → Calls Tryz.prog 56 #[fv, .string ⟨#[116, 114, 97, 110, 115, 102, 101, 114, 45, 101, 110, 99, 111, 100, 105, 110, 103]⟩] W fun e w' => e = .returned (.bool te) ∧ Below W.heap.size W w') := hid' (fun W hb => chas21 _ s.fs _ te (by rw [← hte]; exact congrArg _ (ba_list Hr.sTE)) W (h.keep hb) hl)
  have HC : Hid (∀ W, Below w.heap.size w W → Calls Tryz.prog 56 #[fv, .string ⟨#[99, 111, 110, 116, 101, 110, 116, 45, 108, 101, 110, 103, 116, 104]⟩] W fun e w' => e = .returned (.bool cl) ∧ Below W.heap.size W w') := hid' (fun W hb => chas21 _ s.fs _ cl (by rw [← hcl]; exact congrArg _ (ba_list Hr.sCL)) W (h.keep hb) hl)
  have HM : Hid (∀ W, Below w.heap.size w W → Calls Tryz.prog 77 #[fv, .string ⟨#[116, 114, 97, 110, 115, 102, 101, 114, 45, 101, 110, 99, 111, 100, 105, 110, 103]⟩] W fun e w' => (∃ vo, e = .returned vo ∧ w'.ownsRow W.heap.size 9 1 vo ms.length (strCells ms)) ∧ Below W.heap.size W w') := hid' (fun W hb => by
    have := cmems21 fv s.fs ⟨#[116, 114, 97, 110, 115, 102, 101, 114, 45, 101, 110, 99, 111, 100, 105, 110, 103]⟩ W (h.keep hb) hl hs
    rwa [show Hr.mems s.fs (⟨#[116, 114, 97, 110, 115, 102, 101, 114, 45, 101, 110, 99, 111, 100, 105, 110, 103]⟩ : ByteArray).toList = ms from (congrArg _ (ba_list Hr.sTE)).trans hms] at this)
  have HE : Hid (Hr.codE s = if te then (if old || cl || ms.isEmpty then 400 else if decide (1 < ms.length) || !(Tx.lower (ms.headD []) == Hr.sChk) then 501 else 0) else 0) := hid' (by unfold Hr.codE; rw [hte, hcl, hms, hold])
  have HBD : Hid (ms.length ≤ 1048576 * 1048577) := hid' (by rw [← hms]; exact Hr.mems_bound Hr.sTE hl hs)
  have HMS : Hid (∀ x ∈ ms, x.length ≤ 140737488355328) := hid' (fun x hx => by have := Hr.mem_size (x := Hr.sTE) hs (by rw [hms]; exact hx); omega)
  have HB := hid' (bl_alloc w (.cells #[.string m, .string t, .bool old] 62))
  have HA : Hid (Ar (w.alloc (.cells #[.string m, .string t, .bool old] 62)) w.heap.size 62 #[.string m, .string t, .bool old]) := hid' (heap_alloc_last w _)
  rw [hold]
  obtain ⟨xb, hxb⟩ : ∃ xb, w.heap.size = xb := ⟨_, rfl⟩
  have HX := hid' hxb
  clear hte hcl hms hold h hl hs
  cases te
  · clear hxb
    go_enter Tryz.func66, Tryz.ntmps66
    go_wp2_with (refine (HT.out _ HB.out).mono ?_; rintro e w3 ⟨rfl, hb3⟩)
    go_ret
    exact ⟨ret_int HE.out.symm, below_two HB.out hb3⟩
  go_enter Tryz.func66, Tryz.ntmps66
  go_wp2_with fail
  refine (HT.out _ HB.out).mono ?_
  rintro e w1 ⟨rfl, hb1⟩
  have HB1 := hid' (below_two HB.out hb1)
  have HA1 := hid' (HA.out.keep hb1)
  rw [hxb] at HA1
  clear hb1 HA HB hxb
  go_wp2_with fail
  refine (HM.out _ HB1.out).mono ?_
  rintro e w2 ⟨⟨vo, rfl, ho2⟩, hb2⟩
  obtain ⟨so, sc, hvo⟩ := own_shape ho2
  have HO2 := hid' ho2
  rw [hvo] at HO2 ⊢
  have HB2 := hid' (below_two HB1.out hb2)
  have a2 := (HA1.out.keep hb2).cell 2 _ rfl
  clear ho2 hb2 HA1 hvo
  cases old
  · cases cl
    · cases ms with
      | nil =>
        go_wp2_with (refine (HC.out _ HB2.out).mono ?_; rintro e w3 ⟨rfl, hb3⟩)
        go_ret
        exact ⟨ret_int HE.out.symm, below_two HB2.out hb3⟩
      | cons c r =>
        cases r with
        | nil =>
          obtain ⟨g, hg, y0⟩ := str_at21 HO2.out 0 c rfl
          subst hg
          have HY := hid' y0
          obtain ⟨sm, hsm⟩ : ∃ sm, (Tx.lower c == Hr.sChk) = sm := ⟨_, rfl⟩
          have HS : Hid (∀ W, Calls Tryz.prog 89 #[.string ⟨c.toArray⟩, .string ⟨#[99, 104, 117, 110, 107, 101, 100]⟩] W fun e w' => e = .returned (.bool sm) ∧ Below W.heap.size W w') := hid' (fun W => csame14 _ _ sm (by rw [← hsm]; rfl) W (by rw [Lib.size_eq]; exact HMS.out c (by simp)) (by decide))
          have HR : Hid ((if (true : Bool) then (if (false : Bool) || false || [c].isEmpty then (400 : Int) else if decide (1 < [c].length) || !(Tx.lower ([c].headD []) == Hr.sChk) then 501 else 0) else 0) = if sm then 0 else 501) := hid' (by
            rw [← hsm]
            cases hq : (Tx.lower c == Hr.sChk) <;> simp [hq])
          clear hsm y0
          simp only [List.length_cons, List.length_nil, Nat.zero_add]
          go_wp2_with (first | (go_at_call 56; refine (HC.out _ HB2.out).mono ?_; rintro e w3 ⟨rfl, hb3⟩; refine Hid.out ?_))
          refine hid' ?_
          have HB3 := hid' (below_two HB2.out hb3)
          have y0 := (hb3.cell (cell_lt HY.out)).trans HY.out
          clear hb3
          cases sm
          · go_wp2_with (go_at_call 89; refine (HS.out _).mono ?_; rintro e w4 ⟨rfl, hb4⟩)
            go_ret
            exact ⟨ret_int (HE.out.trans HR.out).symm, below_two HB3.out hb4⟩
          · go_wp2_with (go_at_call 89; refine (HS.out _).mono ?_; rintro e w4 ⟨rfl, hb4⟩)
            go_ret
            exact ⟨ret_int (HE.out.trans HR.out).symm, below_two HB3.out hb4⟩
        | cons d q =>
          obtain ⟨n, hn⟩ : ∃ n, (c :: d :: q).length = n := ⟨_, rfl⟩
          have hn1 : 2 ≤ n := by rw [← hn]; simp
          have hn2 : n ≤ 1048576 * 1048577 := by rw [← hn]; exact HBD.out
          have HR : Hid ((if (true : Bool) then (if (false : Bool) || false || (c :: d :: q).isEmpty then (400 : Int) else if decide (1 < (c :: d :: q).length) || !(Tx.lower ((c :: d :: q).headD []) == Hr.sChk) then 501 else 0) else 0) = 501) := hid' (by simp)
          rw [hn] at HO2 ⊢
          have h1 : ((n : Int) == 0) = false := by rw [beq_eq_false_iff_ne]; omega
          have h2 : (1 : Int) < (n : Int) := by omega
          go_wp2_with (refine (HC.out _ HB2.out).mono ?_; rintro e w3 ⟨rfl, hb3⟩)
          go_ret
          exact ⟨ret_int (HE.out.trans HR.out).symm, below_two HB2.out hb3⟩
    · go_wp2_with (refine (HC.out _ HB2.out).mono ?_; rintro e w3 ⟨rfl, hb3⟩)
      go_ret
      exact ⟨ret_int HE.out.symm, below_two HB2.out hb3⟩
  · go_wp2_with fail
    go_ret
    exact ⟨ret_int HE.out.symm, HB2.out⟩

def Hr.lenO (o : Option (Option ByteArray)) : Int := match o with | some (some v) => (Tx.num 10 v.data.toList).1 | _ => 0
/-- What lengthOf answers. -/
def lenP21 (s : Hr.St) : Value := .tuple #[.int .i64 (if Hr.lenE s == 0 then Hr.lenN s.fs else 0), .int .i64 (Hr.lenE s)]
set_option maxHeartbeats 4000000 in
set_option maxRecDepth 20000 in
theorem clen21 (m t : ByteArray) (s : Hr.St) (fv : Value) (w : World) (h : FW w fv s.fs) (hT : TB w) (hl : s.fs.length ≤ 1048576) (hs : ∀ f ∈ s.fs, f.n.size ≤ 1048576 ∧ f.v.size ≤ 1048576) :
    Calls Tryz.prog 53 #[.agg #[.string m, .string t, .bool s.old], fv, .int .i64 (s.M : Int)] w fun e w' => e = .returned (lenP21 s) ∧ Below w.heap.size w w' := by
  have hs2 : ∀ f ∈ s.fs, f.v.size ≤ 1048576 := fun f hf => (hs f hf).2
  obtain ⟨ce, hce⟩ : ∃ ce, Hr.codE s = ce := ⟨_, rfl⟩
  obtain ⟨o, ho⟩ : ∃ o, Ms.lenGo none s.fs = o := ⟨_, rfl⟩
  obtain ⟨ex, hex⟩ : ∃ ex, Hr.expE s.fs = ex := ⟨_, rfl⟩
  obtain ⟨old, hold⟩ : ∃ old, s.old = old := ⟨_, rfl⟩
  have HK : Hid (∀ W, Below w.heap.size w W → Calls Tryz.prog 66 #[.agg #[.string m, .string t, .bool old], fv] W fun e w' => e = .returned (.int .i64 ce) ∧ Below W.heap.size W w') := hid' (fun W hb => by rw [← hce, ← hold]; exact ccod21 m t s fv W (h.keep hb) hl hs2)
  have HN : Hid (∀ W, Below w.heap.size w W → Calls Tryz.prog 67 #[fv] W fun e w' => e = .returned (Ms.lenV o) ∧ Below W.heap.size W w') := hid' (fun W hb => clen14 fv s.fs o ho W (h.keep hb) (hT.keep hb) hl (fun f hf => ⟨by have := (hs f hf).1; omega, by have := (hs f hf).2; omega⟩))
  have HX : Hid (∀ W, Below w.heap.size w W → Calls Tryz.prog 68 #[fv] W fun e w' => e = .returned (.bool ex) ∧ Below W.heap.size W w') := hid' (fun W hb => cexp21 fv s.fs ex hex W (h.keep hb) hl (fun f hf => by have := (hs f hf).2; omega))
  have HCE : Hid (ce = 0 ∨ ce = 400 ∨ ce = 501) := hid' (by rw [← hce]; exact Hr.codE_ne s)
  have HE : Hid (Hr.lenE s = if ce == 0 then (if o.isNone then 400 else if (s.M : Int) < Hr.lenN s.fs then 413 else if ex then 417 else 0) else ce) := hid' (by unfold Hr.lenE; rw [hce, ho, hex])
  have HL : Hid (Hr.lenN s.fs = Hr.lenO o) := hid' (by show Hr.lenO (Ms.lenGo none s.fs) = Hr.lenO o; rw [ho])
  have HB := hid' (bl_alloc w (.cells #[.string m, .string t, .bool old] 62))
  have HLD : Hid ((loadVar 62 ⟨w.heap.size, 0, none⟩).run Tryz.prog (w.alloc (.cells #[.string m, .string t, .bool old] 62)) = .ok (.agg #[.string m, .string t, .bool old]) (w.alloc (.cells #[.string m, .string t, .bool old] 62))) := hid' (run_loadVar_row (P := Tryz.prog) _ _ 62 62 _ (0, 0) _ (heap_alloc_last w _) Tryz.underlying62 rfl (by kernel_rfl))
  rw [hold]
  obtain ⟨M, hMM⟩ : ∃ M, s.M = M := ⟨_, rfl⟩
  rw [hMM] at HE ⊢
  clear hce ho hex hold h hT hl hs hs2 hMM
  by_cases h0 : ce = 0
  · subst h0
    have HR : Hid (Hr.lenE s = (if o.isNone then 400 else if (M : Int) < Hr.lenN s.fs then 413 else if ex then 417 else 0)) := hid' HE.out
    clear HE HCE
    cases o with
    | none =>
      have HP : Hid (lenP21 s = .tuple #[.int .i64 0, .int .i64 400]) := hid' (by unfold lenP21; rw [HR.out]; rfl)
      rw [HP.out]
      go_enter Tryz.func53, Tryz.ntmps53
      go_wp2_with (first | (go_at_call 66; refine (HK.out _ HB.out).mono ?_; rintro e w3 ⟨rfl, hb3⟩; refine Hid.out ?_))
      refine hid' ?_
      have HB3 := hid' (below_two HB.out hb3)
      clear hb3
      go_wp2_with (go_at_call 67; refine (HN.out _ HB3.out).mono ?_; rintro e w4 ⟨rfl, hb4⟩; unfold Ms.lenV)
      go_ret2
      exact ⟨rfl, below_two HB3.out hb4⟩
    | some o =>
      have hv : ∃ (x : Int) (lg : Bool), Ms.lenV (some o) = .tuple #[.int .i64 x, .bool lg, .int .i64 0] ∧ Hr.lenN s.fs = x := by
        cases o with
        | none => exact ⟨0, false, rfl, HL.out⟩
        | some v => exact ⟨_, true, rfl, HL.out⟩
      obtain ⟨x, lg, hx1, hx2⟩ := hv
      have HR2 : Hid (lenP21 s = .tuple #[.int .i64 (if (if (M : Int) < x then (413 : Int) else if ex then 417 else 0) == 0 then x else 0), .int .i64 (if (M : Int) < x then (413 : Int) else if ex then 417 else 0)]) := hid' (by
        have : Hr.lenE s = (if (M : Int) < x then 413 else if ex then 417 else 0) := by rw [HR.out, hx2]; rfl
        unfold lenP21; rw [hx2, this])
      rw [hx1] at HN
      clear hx1 HR HL hx2
      by_cases hlt : (M : Int) < x
      · have HP : Hid (lenP21 s = .tuple #[.int .i64 0, .int .i64 413]) := hid' (by rw [HR2.out, if_pos hlt]; rfl)
        rw [HP.out]
        go_enter Tryz.func53, Tryz.ntmps53
        go_wp2_with (first | (go_at_call 66; refine (HK.out _ HB.out).mono ?_; rintro e w3 ⟨rfl, hb3⟩; refine Hid.out ?_))
        refine hid' ?_
        have HB3 := hid' (below_two HB.out hb3)
        clear hb3
        go_wp2_with (go_at_call 67; refine (HN.out _ HB3.out).mono ?_; rintro e w4 ⟨rfl, hb4⟩)
        go_ret2
        exact ⟨rfl, below_two HB3.out hb4⟩
      · cases ex
        · have HP : Hid (lenP21 s = .tuple #[.int .i64 x, .int .i64 0]) := hid' (by rw [HR2.out, if_neg hlt]; rfl)
          rw [HP.out]
          go_enter Tryz.func53, Tryz.ntmps53
          go_wp2_with (first | (go_at_call 66; refine (HK.out _ HB.out).mono ?_; rintro e w3 ⟨rfl, hb3⟩; refine Hid.out ?_))
          refine hid' ?_
          have HB3 := hid' (below_two HB.out hb3)
          clear hb3
          go_wp2_with (first | (go_at_call 67; refine (HN.out _ HB3.out).mono ?_; rintro e w4 ⟨rfl, hb4⟩; refine Hid.out ?_))
          refine hid' ?_
          have HB4 := hid' (below_two HB3.out hb4)
          clear hb4
          go_wp2_with (go_at_call 68; refine (HX.out _ HB4.out).mono ?_; rintro e w5 ⟨rfl, hb5⟩)
          go_ret2
          exact ⟨rfl, below_two HB4.out hb5⟩
        · have HP : Hid (lenP21 s = .tuple #[.int .i64 0, .int .i64 417]) := hid' (by rw [HR2.out, if_neg hlt]; rfl)
          rw [HP.out]
          go_enter Tryz.func53, Tryz.ntmps53
          go_wp2_with (first | (go_at_call 66; refine (HK.out _ HB.out).mono ?_; rintro e w3 ⟨rfl, hb3⟩; refine Hid.out ?_))
          refine hid' ?_
          have HB3 := hid' (below_two HB.out hb3)
          clear hb3
          go_wp2_with (first | (go_at_call 67; refine (HN.out _ HB3.out).mono ?_; rintro e w4 ⟨rfl, hb4⟩; refine Hid.out ?_))
          refine hid' ?_
          have HB4 := hid' (below_two HB3.out hb4)
          clear hb4
          go_wp2_with (go_at_call 68; refine (HX.out _ HB4.out).mono ?_; rintro e w5 ⟨rfl, hb5⟩)
          go_ret2
          exact ⟨rfl, below_two HB4.out hb5⟩
  · have hne : (ce == 0) = false := by rw [beq_eq_false_iff_ne]; exact h0
    have HP : Hid (lenP21 s = .tuple #[.int .i64 0, .int .i64 ce]) := hid' (by unfold lenP21; rw [show Hr.lenE s = ce from by rw [HE.out, hne]; rfl, hne]; rfl)
    rw [HP.out]
    go_enter Tryz.func53, Tryz.ntmps53
    go_wp2_with (go_at_call 66; refine (HK.out _ HB.out).mono ?_; rintro e w3 ⟨rfl, hb3⟩)
    go_ret2
    exact ⟨rfl, below_two HB.out hb3⟩

end Go.Proofs.YtbpdhcfmdkmoiaaGreatDoor
