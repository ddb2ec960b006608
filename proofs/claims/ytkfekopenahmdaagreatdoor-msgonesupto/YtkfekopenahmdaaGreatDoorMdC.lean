/-
  The document's One: by its contract.
-/
import Derived.Test.YtkfekopenahmdaaGreatDoorMdB
import Derived.Test.YtkfekopenahmdaaGreatDoorMsJ
import Derived.Test.YtkfekopenahmdaaGreatDoorMcQ
import Derived.Test.YtkfekopenahmdaaGreatDoorMcRS
namespace Go.Proofs.YtkfekopenahmdaaGreatDoor
open Go.RowKit

theorem rsplit14 (m t : ByteArray) (ht : t.size ≤ 140737488355326) : ∃ (sc au pa : ByteArray) (gd : Bool), (∀ W, Calls Tryz.prog 31 #[.string m, .string t] W fun e w' => e = .returned (.tuple #[.string sc, .string au, .string pa, .bool gd]) ∧ Below W.heap.size W w') ∧
    (((sc.toList == []) = true ∧ ∀ host, Ms.aim m t host = (Ms.bHttp, host, pa, gd)) ∨ ((sc.toList == []) = false ∧ ∀ host, Ms.aim m t host = (sc, au, pa, gd))) := by
  cases b1 : Ms.beg t Ms.bHttp3
  · cases b2 : Ms.beg t Ms.bHttps3
    · refine ⟨⟨#[]⟩, ⟨#[]⟩, t, Ms.goes m t, fun W => ?_, .inl ⟨by rw [Ms.tl_tx]; rfl, fun host => by unfold Ms.aim; rw [b1, b2]; rfl⟩⟩
      refine (rsplit_none m t b1 b2 _ rfl W (by omega)).mono ?_
      rintro e w' ⟨he, hw⟩
      subst w'
      exact ⟨he, Below.refl _ _⟩
    · have hq := fun W => rsplit_abs m t Ms.bHttps (.inl ⟨rfl, b1, b2⟩) (t.extract 8 t.size) (by rfl) W ht
      unfold absV at hq
      exact ⟨_, _, _, _, hq, .inr ⟨by rw [Ms.tl_tx]; rfl, fun host => by unfold Ms.aim Ms.absT; rw [if_pos b2]; rfl⟩⟩
  · cases b2 : Ms.beg t Ms.bHttps3
    · have hq := fun W => rsplit_abs m t Ms.bHttp (.inr ⟨rfl, b1, b2⟩) (t.extract 7 t.size) (by rfl) W ht
      unfold absV at hq
      exact ⟨_, _, _, _, hq, .inr ⟨by rw [Ms.tl_tx]; rfl, fun host => by unfold Ms.aim Ms.absT; rw [if_neg (by rw [b2]; decide), if_pos b1]; rfl⟩⟩
    · exfalso
      rw [Ms.beg_pre, List.isPrefixOf_iff_prefix] at b1 b2
      obtain ⟨r1, e1⟩ := b1
      obtain ⟨r2, e2⟩ := b2
      have e := e1.trans e2.symm
      simp [Ms.bHttp3, Ms.bHttps3, Ms.tx] at e
def Ms.PS (nm : List Ms.T8) (l : List Fd) : List Fd := (l.filter (Ms.passB nm)).map Ms.small
theorem Ms.PS_take {l : List Fd} {k : Nat} {p : Fd} (nm : List Ms.T8) (h : l[k]? = some p) : Ms.PS nm (l.take (k + 1)) = Ms.PS nm (l.take k) ++ (if Ms.passB nm p then [Ms.small p] else []) := by
  unfold Ms.PS
  rw [List.take_add_one, h]
  simp only [Option.toList_some, List.filter_append, List.map_append, List.filter_cons, List.filter_nil]
  cases Ms.passB nm p <;> rfl

theorem own_diff {w : World} {B B' : Nat} {e e' : TypeId} {s s' : Nat} {v v' : Value} {n n' : Nat} {xs xs' : List Value} (h : w.ownsRow B e s v n xs) (h' : w.ownsRow B' e' s' v' n' xs') (hne : e ≠ e') : ∀ k, v.ownBlock = some k → v'.ownBlock ≠ some k := fun k hk hk' => by
  obtain ⟨_, c1, h1⟩ := own_ty h k hk
  obtain ⟨_, c2, h2⟩ := own_ty h' k hk'
  rw [h1] at h2
  simp at h2
  exact hne h2.2
theorem own_kp {w w' : World} {B : Nat} {e : TypeId} {s : Nat} {v : Value} {n : Nat} {xs : List Value} (h : w.ownsRow B e s v n xs) (hb : Below w.heap.size w w') : w'.ownsRow B e s v n xs := own_same h (fun j hj => hb.block j (own_lt h j hj))
theorem Ms.lenV_some (o : Option ByteArray) : ∃ (a : Int) (b : Bool), Ms.lenV (some o) = .tuple #[.int .i64 a, .bool b, .int .i64 0] := by
  cases o with
  | none => exact ⟨_, _, rfl⟩
  | some x => exact ⟨_, _, rfl⟩
theorem Ms.low_fin : ∀ n : Fin 256, Tx.lowC (Tx.lowC (UInt8.ofNat n.val)) = Tx.lowC (UInt8.ofNat n.val) := by decide +kernel
theorem Ms.low_low (l : List UInt8) : Tx.lower (Tx.lower l) = Tx.lower l := by
  unfold Tx.lower; rw [List.map_map]
  refine List.map_congr_left fun c _ => ?_
  have h := Ms.low_fin ⟨c.toNat, c.toNat_lt⟩
  simp only [UInt8.ofNat_toNat] at h
  exact h
theorem Ms.bnd_low (x y : ByteArray) (h : y.data.toList = Ms.lo x) : Ms.bnd y = Ms.bnd x := by
  unfold Ms.bnd
  rw [show Ms.lo y = Ms.lo x by unfold Ms.lo at *; rw [h, Ms.low_low]]
theorem Ms.pass_PS (l : List Fd) : Ms.pass l = Ms.PS (Ms.nms l) l := rfl
theorem Ms.PS_le (nm : List Ms.T8) (l : List Fd) (k : Nat) : (Ms.PS nm (l.take k)).length ≤ k := by
  unfold Ms.PS
  rw [List.length_map]
  exact Nat.le_trans (List.length_filter_le _ _) (by rw [List.length_take]; omega)

set_option maxHeartbeats 16000000 in
set_option maxRecDepth 20000 in
theorem rone14 (NM : ∀ (s : ByteArray) (w : World), s.size ≤ maxLen → Calls Tryz.prog 59 #[.string s] w fun e w' => e = .returned (.tuple #[.int .i64 (Tx.num 10 s.data.toList).1, .int .i64 (Tx.num 10 s.data.toList).2]) ∧ Below w.heap.size w w')
    (m t : ByteArray) (v : Value) (l : List Fd) (w : World) (h : FW w v l) (hl : l.length ≤ 1048576) (hs : ∀ f ∈ l, f.n.size ≤ 1048576 ∧ f.v.size ≤ 1048576) (hm : m.size ≤ 140737488355328) (ht : t.size ≤ 1048576) :
    Calls Tryz.prog 7 #[.string m, .string t, v] w fun e w' => (∃ fv, e = .returned (.tuple #[rqV (Ms.oneR m t l) fv, .int .i64 (Ms.oneE m t l)]) ∧ w'.ownsRow w.heap.size 42 2 fv (Ms.oneR m t l).fs.length (fC (Ms.oneR m t l).fs)) ∧ Below w.heap.size w w' := by
  obtain ⟨i0, hi0, hz0, hz1, hz2⟩ := minfo_parts infoF14
  have HI := hid' hi0
  have HZ0 := hid' hz0
  have HZ1 := hid' hz1
  have HZ2 := hid' hz2
  clear hi0 hz0 hz1 hz2
  have hs2 : ∀ f ∈ l, f.n.size ≤ 140737488355328 ∧ f.v.size ≤ 140737488355328 := fun f hf => ⟨by have := (hs f hf).1; omega, by have := (hs f hf).2; omega⟩
  obtain ⟨tk, htk⟩ : ∃ tk, Tx.isTok (Ms.tx m) = tk := ⟨_, rfl⟩
  have HTM : Hid (∀ W, Calls Tryz.prog 28 #[.string m] W fun e w' => e = .returned (.bool tk) ∧ w' = W) := hid' (fun W => by have := rToken_any m W (by unfold maxLen; omega); unfold Ms.tx at htk; rwa [htk] at this)
  have HTK := hid' htk
  obtain ⟨sc, au, pa, gd, hsp, hcs⟩ := rsplit14 m t (by omega)
  have HSP := hid' hsp
  have HCS := hid' hcs
  obtain ⟨o, hle⟩ : ∃ o, Ms.lenGo none l = o := ⟨_, rfl⟩
  have HLO := hid' hle
  have HLE : Hid (∀ W, FW W v l → Calls Tryz.prog 32 #[v] W fun e w' => e = .returned (Ms.lenV o) ∧ Below W.heap.size W w') := hid' (fun W hW => rlen14 NM _ l o hle W hW hl hs2)
  have HNA : Hid (∀ W, FW W v l → Calls Tryz.prog 33 #[v] W fun e w' => (∃ vo n vc, e = .returned (.slice vo n vc) ∧ (Ms.nms l).length = n ∧ n ≤ 1099512676352 ∧ w'.ownsRow W.heap.size 9 1 (.slice vo n vc) n (sC (Ms.nms l))) ∧ Below W.heap.size W w') := hid' (fun W hW => rnamed14 v l W hW hl hs)
  obtain ⟨ao, cap, hv⟩ := h.shape
  subst hv
  obtain ⟨n, hn⟩ : ∃ n, l.length = n := ⟨_, rfl⟩
  rw [hn] at h hl HLE HNA ⊢
  have HN := hid' hn
  have HS := hid' hs2
  have H := hid' h
  have hz := rq_zero w
  have hbz := bl_alloc w (.cells (rqC ⟨#[]⟩ ⟨#[]⟩ ⟨#[]⟩ ⟨#[]⟩ (.slice none 0 0) ⟨#[]⟩ (.slice none 0 0)) 25)
  unfold rqC at hz hbz
  have HZ := hid' hz
  have HBZ := hid' hbz
  clear h hn hs hs2 hz hbz htk hsp hcs hle NM hm ht
  go_enter Tryz.func7, Tryz.ntmps7
  go_upto_region 1 with fail
  obtain ⟨rb, hrb⟩ : ∃ rb, w.heap.size = rb := ⟨_, rfl⟩
  have HRB := hid' hrb
  rw [hrb] at HZ ⊢
  generalize w.alloc (.cells #[.string ⟨#[]⟩, .string ⟨#[]⟩, .string ⟨#[]⟩, .string ⟨#[]⟩, .slice none 0 0, .string ⟨#[]⟩, .slice none 0 0] 25) = w0 at *
  clear hrb
  go_wp2_with fail
  refine (HTM.out _).mono ?_
  rintro e w' ⟨rfl, hw⟩
  subst w'
  cases tk
  · have HE : Hid (Ms.oneE m t l = 140) := hid' (by unfold Ms.oneE; rw [HTK.out]; rfl)
    have HRR : Hid (Ms.oneR m t l = Ms.rq0) := hid' (by unfold Ms.oneR; rw [HE.out]; rfl)
    go_wp2_with (refine wpl_store 25 _ _ rfl rfl rb (#[.string ⟨#[]⟩, .string ⟨#[]⟩, .string ⟨#[]⟩, .string ⟨#[]⟩, .slice none 0 0, .string ⟨#[]⟩, .slice none 0 0]) (by kernel_rfl) (by kernel_rfl) _ _ HZ.out sizeRq14 rfl (by simp [Value.oneCell']) ?_)
    intro w4 hA4 hU4
    have HB4 : Hid (Below w.heap.size w w4) := hid' (HBZ.out.trans (hU4.below (by have := HRB.out; omega)))
    have o0 := hA4.cell 0 _ rfl
    have o1 := hA4.cell 1 _ rfl
    have o2 := hA4.cell 2 _ rfl
    have o3 := hA4.cell 3 _ rfl
    have o4 := hA4.cell 4 _ rfl
    have o5 := hA4.cell 5 _ rfl
    have o6 := hA4.cell 6 _ rfl
    clear hU4 hA4
    go_wp2
    exact bodyPost_ret (v := .tuple #[rqV Ms.rq0 (.slice none 0 0), .int .i64 140]) (by simp [results, Tryz.results7, go_sem, rqV, rqC, Ms.rq0, Ms.e0, o0, o1, o2, o3, o4, o5, o6]) rfl ⟨⟨_, ret_two14 (by rw [HRR.out]) HE.out.symm, by rw [HRR.out]; exact World.ownsRow_nil _ _ _ _⟩, HB4.out⟩
  go_wp2
  go_loopw [8, 9, 10] (fun s8 s9 s10 wr => ∃ (k c : Nat) (ho : ByteArray), s10 = .int .i64 (k : Int) ∧ s8 = .int .i64 (c : Int) ∧ s9 = .string ho ∧ k ≤ n ∧ c ≤ k ∧ Hid ((l.take k).all Ms.sound = true) ∧ Hid (Ms.hostOf (l.take k) = ho) ∧ Hid ((Ms.hosts (l.take k)).length = c) ∧ Hid (Below w0.heap.size w0 wr)) (fun _ _ s10 _ => n - (intOf s10).toNat)
  case atStart => exact ⟨0, 0, ⟨#[]⟩, rfl, rfl, rfl, Nat.zero_le _, Nat.le_refl _, hid' rfl, hid' rfl, hid' rfl, hid' (Below.refl _ _)⟩
  case round =>
    obtain ⟨k, c, ho, rfl, rfl, rfl, hk, hck, HSN, HO, HCT, HB⟩ := hrel
    have HBW : Hid (Below w.heap.size w wr) := hid' (below_two HBZ.out HB.out)
    have HR := hid' (HZ.out.keep HB.out)
    by_cases hlt : k < n
    · have hlt2 : (k : Int) < (n : Int) := by omega
      obtain ⟨p, hp⟩ : ∃ p, l[k]? = some p := ⟨_, List.getElem?_eq_getElem (by rw [HN.out]; exact hlt)⟩
      have HMEM := hid' (List.mem_of_getElem? hp)
      obtain ⟨a, hao, y0, y1⟩ := (H.out.keep HBW.out).two k p hp
      subst hao
      have HPS := hid' (HS.out p HMEM.out)
      have HTA : Hid (l.take (k + 1) = l.take k ++ [p]) := hid' (by rw [List.take_add_one, hp]; rfl)
      have HPP := hid' hp
      have hno : Ms.sound p = false → Ms.oneE m t l = 141 := fun e => by
        have ha : l.all Ms.sound = false := by
          rw [Bool.eq_false_iff]; intro ht
          have := List.all_eq_true.1 ht p HMEM.out
          rw [e] at this; cases this
        unfold Ms.oneE; rw [HTK.out, ha]; rfl
      have HNO := hid' hno
      obtain ⟨t1, ht1⟩ : ∃ t1, Tx.isTok p.n.data.toList = t1 := ⟨_, rfl⟩
      obtain ⟨t2, ht2⟩ : ∃ t2, Tx.isVal p.v.data.toList = t2 := ⟨_, rfl⟩
      have HSO : Hid (Ms.sound p = (t1 && t2)) := hid' (by unfold Ms.sound Ms.tx; rw [ht1, ht2])
      have HT1 : Hid (∀ W, Calls Tryz.prog 28 #[.string p.n] W fun e w' => e = .returned (.bool t1) ∧ w' = W) := hid' (fun W => by have := rToken_any p.n W (by have := HPS.out.1; unfold maxLen; omega); rwa [ht1] at this)
      have HT2 : Hid (∀ W, Calls Tryz.prog 29 #[.string p.v] W fun e w' => e = .returned (.bool t2) ∧ w' = W) := hid' (fun W => by have := rValue_any p.v W (by have := HPS.out.2; unfold maxLen; omega); rwa [ht2] at this)
      clear hp ht1 ht2 hno
      go_wp2_with fail
      refine (HT1.out _).mono ?_
      rintro e w' ⟨rfl, hw⟩
      subst w'
      cases t1
      · have HE : Hid (Ms.oneE m t l = 141) := hid' (HNO.out (by rw [HSO.out]; rfl))
        have HRR : Hid (Ms.oneR m t l = Ms.rq0) := hid' (by unfold Ms.oneR; rw [HE.out]; rfl)
        go_wp2_with (refine wpl_store 25 _ _ rfl rfl rb (#[.string ⟨#[]⟩, .string ⟨#[]⟩, .string ⟨#[]⟩, .string ⟨#[]⟩, .slice none 0 0, .string ⟨#[]⟩, .slice none 0 0]) (by kernel_rfl) (by kernel_rfl) _ _ HR.out sizeRq14 rfl (by simp [Value.oneCell']) ?_)
        intro w4 hA4 hU4
        have HB4 : Hid (Below w.heap.size w w4) := hid' (HBW.out.trans (hU4.below (by have := HRB.out; omega)))
        have o0 := hA4.cell 0 _ rfl
        have o1 := hA4.cell 1 _ rfl
        have o2 := hA4.cell 2 _ rfl
        have o3 := hA4.cell 3 _ rfl
        have o4 := hA4.cell 4 _ rfl
        have o5 := hA4.cell 5 _ rfl
        have o6 := hA4.cell 6 _ rfl
        clear hU4 hA4
        go_wp2
        exact bodyPost_ret (v := .tuple #[rqV Ms.rq0 (.slice none 0 0), .int .i64 141]) (by simp [results, Tryz.results7, go_sem, rqV, rqC, Ms.rq0, Ms.e0, o0, o1, o2, o3, o4, o5, o6]) rfl ⟨⟨_, ret_two14 (by rw [HRR.out]) HE.out.symm, by rw [HRR.out]; exact World.ownsRow_nil _ _ _ _⟩, HB4.out⟩
      go_wp2_with fail
      refine (HT2.out _).mono ?_
      rintro e w' ⟨rfl, hw⟩
      subst w'
      cases t2
      · have HE : Hid (Ms.oneE m t l = 141) := hid' (HNO.out (by rw [HSO.out]; rfl))
        have HRR : Hid (Ms.oneR m t l = Ms.rq0) := hid' (by unfold Ms.oneR; rw [HE.out]; rfl)
        go_wp2_with (refine wpl_store 25 _ _ rfl rfl rb (#[.string ⟨#[]⟩, .string ⟨#[]⟩, .string ⟨#[]⟩, .string ⟨#[]⟩, .slice none 0 0, .string ⟨#[]⟩, .slice none 0 0]) (by kernel_rfl) (by kernel_rfl) _ _ HR.out sizeRq14 rfl (by simp [Value.oneCell']) ?_)
        intro w4 hA4 hU4
        have HB4 : Hid (Below w.heap.size w w4) := hid' (HBW.out.trans (hU4.below (by have := HRB.out; omega)))
        have o0 := hA4.cell 0 _ rfl
        have o1 := hA4.cell 1 _ rfl
        have o2 := hA4.cell 2 _ rfl
        have o3 := hA4.cell 3 _ rfl
        have o4 := hA4.cell 4 _ rfl
        have o5 := hA4.cell 5 _ rfl
        have o6 := hA4.cell 6 _ rfl
        clear hU4 hA4
        go_wp2
        exact bodyPost_ret (v := .tuple #[rqV Ms.rq0 (.slice none 0 0), .int .i64 141]) (by simp [results, Tryz.results7, go_sem, rqV, rqC, Ms.rq0, Ms.e0, o0, o1, o2, o3, o4, o5, o6]) rfl ⟨⟨_, ret_two14 (by rw [HRR.out]) HE.out.symm, by rw [HRR.out]; exact World.ownsRow_nil _ _ _ _⟩, HB4.out⟩
      have HS1 : Hid ((l.take (k + 1)).all Ms.sound = true) := hid' (by rw [HTA.out, List.all_append, HSN.out, List.all_cons, HSO.out]; rfl)
      obtain ⟨y, hy⟩ : ∃ y : ByteArray, (⟨(Tx.lower p.n.data.toList).toArray⟩ : ByteArray) = y := ⟨_, rfl⟩
      have HYL : Hid (y.toList = Ms.lo p.n) := hid' (by rw [← hy, Lib.toList_data]; rfl)
      have HLW : Hid (∀ W, Calls Tryz.prog 30 #[.string p.n] W fun e w' => e = .returned (.string y) ∧ Below W.heap.size W w') := hid' (fun W => by have := rLower_any p.n W (by have := HPS.out.1; unfold maxLen; omega); rwa [hy] at this)
      clear hy
      go_wp2_with fail
      refine (HLW.out _).mono ?_
      rintro e wq ⟨rfl, hbq⟩
      have HBq := hid' (below_two HB.out hbq)
      have y1q := (hbq.cell (cell_lt y1)).trans y1
      clear hbq y0 y1
      cases sm : (y.toList == [104, 111, 115, 116])
      · have HH : Hid (Ms.isHost p = false) := hid' (by unfold Ms.isHost; rw [← HYL.out]; exact sm)
        have HQ : Hid (Ms.hosts (l.take (k + 1)) = Ms.hosts (l.take k)) := hid' (by rw [HTA.out]; unfold Ms.hosts; rw [List.filter_append, List.filter_cons, HH.out]; simp)
        go_wp2
        go_roundw
        case rel => exact ⟨k + 1, c, ho, by go_num, rfl, rfl, by omega, by omega, HS1, hid' (by unfold Ms.hostOf; rw [HQ.out]; exact HO.out), hid' (by rw [HQ.out]; exact HCT.out), HBq⟩
        case measure => simp [intOf]; omega
      · have HH : Hid (Ms.isHost p = true) := hid' (by unfold Ms.isHost; rw [← HYL.out]; exact sm)
        have HQ : Hid (Ms.hosts (l.take (k + 1)) = Ms.hosts (l.take k) ++ [p]) := hid' (by rw [HTA.out]; unfold Ms.hosts; rw [List.filter_append, List.filter_cons, HH.out]; simp)
        go_wp2
        go_roundw
        case rel => exact ⟨k + 1, c + 1, p.v, by go_num, by go_num, rfl, by omega, by omega, HS1, hid' (by unfold Ms.hostOf; rw [HQ.out]; simp), hid' (by rw [HQ.out, List.length_append, HCT.out]; rfl), HBq⟩
        case measure => simp [intOf]; omega
    · have hkn : n = k := by omega
      subst hkn
      have hlt2 : ¬ (n : Int) < (n : Int) := by omega
      have HTA : Hid (l.take n = l) := hid' (List.take_of_length_le (by rw [HN.out]; exact Nat.le_refl _))
      rw [HTA.out] at HSN HO HCT
      clear hlt
      cases hc1 : ((c : Int) == 1)
      · have hc2 : ((c : Int) != 1) = true := by unfold bne; rw [hc1]; rfl
        have HC1 : Hid (((Ms.hosts l).length == 1) = false) := hid' (by rw [HCT.out, beq_eq_false_iff_ne]; intro e; rw [beq_eq_false_iff_ne] at hc1; exact hc1 (by omega))
        have HE : Hid (Ms.oneE m t l = 141) := hid' (by unfold Ms.oneE; rw [HTK.out, HC1.out, Bool.and_false]; rfl)
        have HRR : Hid (Ms.oneR m t l = Ms.rq0) := hid' (by unfold Ms.oneR; rw [HE.out]; rfl)
        go_wp2_with (refine wpl_store 25 _ _ rfl rfl rb (#[.string ⟨#[]⟩, .string ⟨#[]⟩, .string ⟨#[]⟩, .string ⟨#[]⟩, .slice none 0 0, .string ⟨#[]⟩, .slice none 0 0]) (by kernel_rfl) (by kernel_rfl) _ _ HR.out sizeRq14 rfl (by simp [Value.oneCell']) ?_)
        intro w4 hA4 hU4
        have HB4 : Hid (Below w.heap.size w w4) := hid' (HBW.out.trans (hU4.below (by have := HRB.out; omega)))
        have o0 := hA4.cell 0 _ rfl
        have o1 := hA4.cell 1 _ rfl
        have o2 := hA4.cell 2 _ rfl
        have o3 := hA4.cell 3 _ rfl
        have o4 := hA4.cell 4 _ rfl
        have o5 := hA4.cell 5 _ rfl
        have o6 := hA4.cell 6 _ rfl
        clear hU4 hA4
        go_wp2
        exact bodyPost_ret (v := .tuple #[rqV Ms.rq0 (.slice none 0 0), .int .i64 141]) (by simp [results, Tryz.results7, go_sem, rqV, rqC, Ms.rq0, Ms.e0, o0, o1, o2, o3, o4, o5, o6]) rfl ⟨⟨_, ret_two14 (by rw [HRR.out]) HE.out.symm, by rw [HRR.out]; exact World.ownsRow_nil _ _ _ _⟩, HB4.out⟩
      have hc2 : ((c : Int) != 1) = false := by unfold bne; rw [hc1]; rfl
      have HC1 : Hid (((Ms.hosts l).length == 1) = true) := hid' (by rw [HCT.out, beq_iff_eq]; have := beq_iff_eq.1 hc1; omega)
      have HE0 : Hid (Ms.oneE m t l = if (Ms.aim m t ho).2.2.2 then (if o.isNone then 142 else 0) else 140) := hid' (by unfold Ms.oneE; rw [HTK.out, HSN.out, HC1.out, HO.out, HLO.out]; rfl)
      have HGD : Hid ((Ms.aim m t ho).2.2.2 = gd) := hid' (by rcases HCS.out with ⟨_, e⟩ | ⟨_, e⟩ <;> rw [e ho])
      rw [HGD.out] at HE0
      clear hc1
      go_wp2_with fail
      refine (HSP.out _).mono ?_
      rintro e ws ⟨rfl, hbs⟩
      have HBs := hid' (below_two HB.out hbs)
      have HWs := hid' (below_two HBW.out hbs)
      have HRs := hid' (HR.out.keep hbs)
      clear hbs hc2 HB HBW HR
      cases gd
      · have HE : Hid (Ms.oneE m t l = 140) := hid' (HE0.out)
        have HRR : Hid (Ms.oneR m t l = Ms.rq0) := hid' (by unfold Ms.oneR; rw [HE.out]; rfl)
        go_wp2_with (refine wpl_store 25 _ _ rfl rfl rb (#[.string ⟨#[]⟩, .string ⟨#[]⟩, .string ⟨#[]⟩, .string ⟨#[]⟩, .slice none 0 0, .string ⟨#[]⟩, .slice none 0 0]) (by kernel_rfl) (by kernel_rfl) _ _ HRs.out sizeRq14 rfl (by simp [Value.oneCell']) ?_)
        intro w4 hA4 hU4
        have HB4 : Hid (Below w.heap.size w w4) := hid' (HWs.out.trans (hU4.below (by have := HRB.out; omega)))
        have o0 := hA4.cell 0 _ rfl
        have o1 := hA4.cell 1 _ rfl
        have o2 := hA4.cell 2 _ rfl
        have o3 := hA4.cell 3 _ rfl
        have o4 := hA4.cell 4 _ rfl
        have o5 := hA4.cell 5 _ rfl
        have o6 := hA4.cell 6 _ rfl
        clear hU4 hA4
        go_wp2
        exact bodyPost_ret (v := .tuple #[rqV Ms.rq0 (.slice none 0 0), .int .i64 140]) (by simp [results, Tryz.results7, go_sem, rqV, rqC, Ms.rq0, Ms.e0, o0, o1, o2, o3, o4, o5, o6]) rfl ⟨⟨_, ret_two14 (by rw [HRR.out]) HE.out.symm, by rw [HRR.out]; exact World.ownsRow_nil _ _ _ _⟩, HB4.out⟩
      go_wp2_with fail
      refine (HLE.out _ (H.out.keep HWs.out)).mono ?_
      rintro e w1 ⟨he, hb1⟩
      have HB1 := hid' (below_two HWs.out hb1)
      have HR1 := hid' (HRs.out.keep hb1)
      subst he
      clear hb1 HWs HRs HBs
      rcases o with _ | o'
      · simp only [Ms.lenV]
        have HE : Hid (Ms.oneE m t l = 142) := hid' (HE0.out)
        have HRR : Hid (Ms.oneR m t l = Ms.rq0) := hid' (by unfold Ms.oneR; rw [HE.out]; rfl)
        go_wp2_with (refine wpl_store 25 _ _ rfl rfl rb (#[.string ⟨#[]⟩, .string ⟨#[]⟩, .string ⟨#[]⟩, .string ⟨#[]⟩, .slice none 0 0, .string ⟨#[]⟩, .slice none 0 0]) (by kernel_rfl) (by kernel_rfl) _ _ HR1.out sizeRq14 rfl (by simp [Value.oneCell']) ?_)
        intro w4 hA4 hU4
        have HB4 : Hid (Below w.heap.size w w4) := hid' (HB1.out.trans (hU4.below (by have := HRB.out; omega)))
        have o0 := hA4.cell 0 _ rfl
        have o1 := hA4.cell 1 _ rfl
        have o2 := hA4.cell 2 _ rfl
        have o3 := hA4.cell 3 _ rfl
        have o4 := hA4.cell 4 _ rfl
        have o5 := hA4.cell 5 _ rfl
        have o6 := hA4.cell 6 _ rfl
        clear hU4 hA4
        go_wp2
        exact bodyPost_ret (v := .tuple #[rqV Ms.rq0 (.slice none 0 0), .int .i64 142]) (by simp [results, Tryz.results7, go_sem, rqV, rqC, Ms.rq0, Ms.e0, o0, o1, o2, o3, o4, o5, o6]) rfl ⟨⟨_, ret_two14 (by rw [HRR.out]) HE.out.symm, by rw [HRR.out]; exact World.ownsRow_nil _ _ _ _⟩, HB4.out⟩
      have HE : Hid (Ms.oneE m t l = 0) := hid' HE0.out
      obtain ⟨la, lb, hlab⟩ := Ms.lenV_some o'
      rw [hlab]
      clear hlab
      rcases HCS.out with ⟨hsc, haim⟩ | ⟨hsc, haim⟩
      · have HAI : Hid (Ms.aim m t ho = (⟨#[104, 116, 116, 112]⟩, ho, pa, true)) := hid' (haim ho)
        have hz1 := rq_zero w1
        have hbz1 := bl_alloc w1 (.cells (rqC ⟨#[]⟩ ⟨#[]⟩ ⟨#[]⟩ ⟨#[]⟩ (.slice none 0 0) ⟨#[]⟩ (.slice none 0 0)) 25)
        unfold rqC at hz1 hbz1
        have HZ1' := hid' hz1
        have HBZ1 := hid' hbz1
        clear hz1 hbz1
        go_wp2_with (refine wpl_store 25 _ _ rfl rfl w1.heap.size (#[.string m, .string ⟨#[104, 116, 116, 112]⟩, .string ho, .string pa, .slice none 0 0, .string ⟨#[]⟩, .slice none 0 0]) (by rfl) (by rfl) _ _ HZ1'.out sizeRq14 rfl (by simp [Value.oneCell']) ?_)
        intro w2 hA2 hU2
        have HB2 : Hid (Below w1.heap.size w1 w2) := hid' (HBZ1.out.trans (hU2.below (Nat.le_refl _)))
        have HRQ : Hid (rb < w1.heap.size) := hid' HR1.out.lt
        obtain ⟨qb, hqb⟩ : ∃ qb, w1.heap.size = qb := ⟨_, rfl⟩
        have HQB := hid' hqb
        rw [hqb] at hA2 HB2 HRQ ⊢
        have HA2 : Hid (Ar w2 qb 25 (rqA m ⟨#[104, 116, 116, 112]⟩ ho pa (.slice none 0 0))) := hid' hA2
        have HWQ : Hid (w.heap.size ≤ qb) := hid' (by have := HRB.out; have := HRQ.out; omega)
        have HBW2 : Hid (Below w.heap.size w w2) := hid' (HB1.out.trans (HB2.out.mono HWQ.out))
        clear hA2 hU2 HZ1' HBZ1 hqb
        go_wp2_with fail
        refine (HNA.out _ (H.out.keep HBW2.out)).mono ?_
        rintro e w3 ⟨⟨vo, nn, vc, rfl, hnn, hnb, hrow⟩, hb3⟩
        obtain ⟨nb, hnbe⟩ : ∃ nb, w2.heap.size = nb := ⟨_, rfl⟩
        rw [hnbe] at hrow
        obtain ⟨nm, hnm⟩ : ∃ nm, Ms.nms l = nm := ⟨_, rfl⟩
        rw [hnm] at hrow hnn
        have HNM := hid' hnm
        have HNN := hid' hnn
        have HNB := hid' hnb
        have HNR := hid' hrow
        have HA3 := hid' (HA2.out.keep hb3)
        have HB3 : Hid (Below qb w1 w3) := hid' (HB2.out.trans (hb3.mono (Nat.le_of_lt HA2.out.lt)))
        clear hb3 hrow hnm hnn hnb hnbe HA2 HB2 HBW2
        go_wp2
        go_loopw [20, 21] (fun s20 _ wr => ∃ (k c : Nat) (fo : Option Addr) (fc : Nat), s20 = .int .i64 (k : Int) ∧ k ≤ n ∧ c ≤ k ∧ Hid ((Ms.PS nm (l.take k)).length = c) ∧ Hid (Ar wr qb 25 (rqA m ⟨#[104, 116, 116, 112]⟩ ho pa (.slice fo c fc))) ∧ Hid (wr.ownsRow qb 42 2 (.slice fo c fc) c (fC (Ms.PS nm (l.take k)))) ∧ Hid (wr.ownsRow nb 9 1 (.slice vo nn vc) nn (sC nm)) ∧ Hid (Below qb w1 wr)) (fun s20 _ _ => n - (intOf s20).toNat)
        case atStart => exact ⟨0, 0, none, 0, rfl, Nat.zero_le _, Nat.le_refl _, hid' rfl, HA3, hid' (World.ownsRow_nil _ _ _ _), HNR, HB3⟩
        case round =>
          obtain ⟨k, c, fo, fc, rfl, hk, hck, HCN, HAq, HOq, HNq, HBq⟩ := hrel
          have HBW : Hid (Below w.heap.size w wr) := hid' (HB1.out.trans (HBq.out.mono HWQ.out))
          by_cases hlt : k < n
          · have hlt2 : (k : Int) < (n : Int) := by omega
            obtain ⟨f, hf⟩ : ∃ f, l[k]? = some f := ⟨_, List.getElem?_eq_getElem (by rw [HN.out]; exact hlt)⟩
            have HFW := hid' (H.out.keep HBW.out)
            obtain ⟨ad, hao, y0, y1⟩ := HFW.out.two k f hf
            subst hao
            have HKT := hid' (Ms.PS_take nm hf)
            have HPS := hid' (HS.out f (List.mem_of_getElem? hf))
            have HFK := hid' hf
            have HBQ : Hid (Below wr.heap.size wr wr) := hid' (Below.refl _ _)
            obtain ⟨y, hy⟩ : ∃ y : ByteArray, (⟨(Tx.lower f.n.data.toList).toArray⟩ : ByteArray) = y := ⟨_, rfl⟩
            have HYD : Hid (y.data.toList = Ms.lo f.n) := hid' (by rw [← hy]; rfl)
            have HYL : Hid (y.toList = Ms.lo f.n) := hid' (by rw [Lib.toList_data]; exact HYD.out)
            have HSM : Hid (Ms.small f = ⟨y, f.v⟩) := hid' (by unfold Ms.small; rw [← hy]; rfl)
            have HYS : Hid (y.size ≤ 140737488355328) := hid' (by
              have h1 : y.size = f.n.size := by rw [Lib.size_eq, HYD.out, Lib.size_eq]; unfold Ms.lo Tx.lower; rw [List.length_map]
              rw [h1]; exact HPS.out.1)
            have HLW : Hid (∀ W, Calls Tryz.prog 30 #[.string f.n] W fun e w' => e = .returned (.string y) ∧ Below W.heap.size W w') := hid' (fun W => by have := rLower_any f.n W (by have := HPS.out.1; unfold maxLen; omega); rwa [hy] at this)
            obtain ⟨d, hd⟩ : ∃ d, Ms.bnd y = d := ⟨_, rfl⟩
            have HBD := hid' (fun W => rbnd14 y d hd W HYS.out)
            obtain ⟨ix, hix⟩ : ∃ ix, nm.contains y.toList = ix := ⟨_, rfl⟩
            have HIX := hid' hix
            obtain ⟨c1, hc1⟩ : ∃ c1, (y.toList == [104, 111, 115, 116]) = c1 := ⟨_, rfl⟩
            obtain ⟨c2, hc2⟩ : ∃ c2, (y.toList == [116, 101]) = c2 := ⟨_, rfl⟩
            obtain ⟨c3, hc3⟩ : ∃ c3, (y.toList == [99, 111, 110, 116, 101, 110, 116, 45, 108, 101, 110, 103, 116, 104]) = c3 := ⟨_, rfl⟩
            have HPB : Hid (Ms.passB nm f = (!c1 && !c2 && !d && (!ix || c3))) := hid' (by
              unfold Ms.passB
              rw [← Ms.bnd_low f.n y HYD.out, hd, ← HYL.out, hix, ← hc1, ← hc2, ← hc3]; rfl)
            have d1 : (y.toList != [104, 111, 115, 116]) = !c1 := by unfold bne; rw [hc1]
            have d2 : (y.toList != [116, 101]) = !c2 := by unfold bne; rw [hc2]
            clear hf hy hd hix
            go_wp2_with fail
            refine (HLW.out _).mono ?_
            rintro e wq ⟨rfl, hbn⟩
            have HAn := hid' (HAq.out.keep hbn)
            have HOn := hid' (own_kp HOq.out hbn)
            have HNn := hid' (own_kp HNq.out hbn)
            have HBn : Hid (Below qb w1 wq) := hid' (HBq.out.trans (hbn.mono (Nat.le_of_lt HAq.out.lt)))
            have HBQn := hid' (below_two HBQ.out hbn)
            clear hbn HAq HOq HNq HBq HBQ
            have HAq := HAn
            have HOq := HOn
            have HNq := HNn
            have HBq := HBn
            have HBQ := HBQn
            clear HAn HOn HNn HBn HBQn
            clear y0 y1
            cases c1
            rotate_left
            · have hh := HKT.out
              rw [show Ms.passB nm f = false by rw [HPB.out]; rfl, if_neg (by simp), List.append_nil] at hh
              have s1' : Hid ((Ms.PS nm (l.take (k + 1))).length = c) := hid' (by rw [hh]; exact HCN.out)
              have s2' : Hid (wq.ownsRow qb 42 2 (.slice fo c fc) c (fC (Ms.PS nm (l.take (k + 1))))) := hid' (by rw [hh]; exact HOq.out)
              clear hh
              go_wp2
              go_roundw
              case rel => exact ⟨k + 1, c, fo, fc, by go_num, by omega, by omega, s1', HAq, s2', HNq, HBq⟩
              case measure => simp [intOf]; omega
            cases c2
            rotate_left
            · have hh := HKT.out
              rw [show Ms.passB nm f = false by rw [HPB.out]; rfl, if_neg (by simp), List.append_nil] at hh
              have s1' : Hid ((Ms.PS nm (l.take (k + 1))).length = c) := hid' (by rw [hh]; exact HCN.out)
              have s2' : Hid (wq.ownsRow qb 42 2 (.slice fo c fc) c (fC (Ms.PS nm (l.take (k + 1))))) := hid' (by rw [hh]; exact HOq.out)
              clear hh
              go_wp2
              go_roundw
              case rel => exact ⟨k + 1, c, fo, fc, by go_num, by omega, by omega, s1', HAq, s2', HNq, HBq⟩
              case measure => simp [intOf]; omega
            go_wp2_with fail
            refine (HBD.out _).mono ?_
            rintro e wq ⟨rfl, hbn⟩
            have HAn := hid' (HAq.out.keep hbn)
            have HOn := hid' (own_kp HOq.out hbn)
            have HNn := hid' (own_kp HNq.out hbn)
            have HBn : Hid (Below qb w1 wq) := hid' (HBq.out.trans (hbn.mono (Nat.le_of_lt HAq.out.lt)))
            have HBQn := hid' (below_two HBQ.out hbn)
            clear hbn HAq HOq HNq HBq HBQ
            have HAq := HAn
            have HOq := HOn
            have HNq := HNn
            have HBq := HBn
            have HBQ := HBQn
            clear HAn HOn HNn HBn HBQn
            cases d
            rotate_left
            · have hh := HKT.out
              rw [show Ms.passB nm f = false by rw [HPB.out]; rfl, if_neg (by simp), List.append_nil] at hh
              have s1' : Hid ((Ms.PS nm (l.take (k + 1))).length = c) := hid' (by rw [hh]; exact HCN.out)
              have s2' : Hid (wq.ownsRow qb 42 2 (.slice fo c fc) c (fC (Ms.PS nm (l.take (k + 1))))) := hid' (by rw [hh]; exact HOq.out)
              clear hh
              go_wp2
              go_roundw
              case rel => exact ⟨k + 1, c, fo, fc, by go_num, by omega, by omega, s1', HAq, s2', HNq, HBq⟩
              case measure => simp [intOf]; omega
            go_wp2_with fail
            refine (rinS14 nb vo nn vc nm y ix HIX.out _ HNq.out HNN.out (by have := HNB.out; omega)).mono ?_
            rintro e w' ⟨rfl, hw⟩
            subst w'
            cases ix
            · have hpb : Ms.passB nm f = true := by rw [HPB.out]; rfl
              have HKF : Hid (Ms.PS nm (l.take (k + 1)) = Ms.PS nm (l.take k) ++ [⟨y, f.v⟩]) := hid' (by have hh := HKT.out; rw [hpb, if_pos rfl] at hh; rw [hh, HSM.out])
              obtain ⟨xs, hxs⟩ : ∃ xs, fC (Ms.PS nm (l.take k)) = xs := ⟨_, rfl⟩
              have HXS := hid' hxs
              rw [hxs] at HOq
              clear hpb hxs HKT
              have g4 : wq.cell? ⟨qb, 4, none⟩ = some (.slice fo c fc) := HAq.out.cell 4 _ rfl
              have f4 := HAq.out.free 4
              have HOB : Hid (∀ j, (Value.slice fo c fc).ownBlock = some j → j ≠ qb) := hid' (own_apart HOq.out HAq.out (by decide))
              have HQW : Hid (qb ≤ wq.heap.size) := hid' (Nat.le_of_lt HAq.out.lt)
              obtain ⟨ad1, had1, _, y1⟩ := (HFW.out.keep HBQ.out).two k f HFK.out
              injection had1 with had1
              subst had1
              obtain ⟨w00, hw00⟩ : ∃ w00, w00 = (wq.alloc (.cells #[.string y, .string f.v] 42)).drew := ⟨_, rfl⟩
              have hb00 : Below wq.heap.size wq w00 := by rw [hw00]; exact ((Below.refl _ _).alloc (Nat.le_refl _) _).drew
              have HW00 := hid' hw00
              have HO00 := hid' (HAq.out.keep hb00)
              have HR00 : Hid (w00.ownsRow qb 42 2 (.slice fo c fc) c xs) := hid' (own_kp HOq.out hb00)
              have HN00 : Hid (w00.ownsRow nb 9 1 (.slice vo nn vc) nn (sC nm)) := hid' (own_kp HNq.out hb00)
              have HNW : Hid (∀ j u, [Value.string y, .string f.v][j]? = some u → w00.cell? ((⟨wq.heap.size, 0, none⟩ : Addr).add j) = some u) := hid' (by
                intro j u hj
                have hA : Ar w00 wq.heap.size 42 #[.string y, .string f.v] := by rw [hw00]; exact heap_alloc_last wq _
                rw [Addr.add_mid, Nat.zero_add]
                exact hA.cell j u (by simpa using hj))
              have HSZ : Hid (qb ≤ w00.heap.size) := hid' (Nat.le_trans HQW.out hb00.size)
              have HB00 : Hid (Below qb w1 w00) := hid' (HBq.out.trans (hb00.mono HQW.out))
              rw [hw00] at HR00 HNW HSZ HN00
              have g4' : (wq.alloc (.cells #[.string y, .string f.v] 42)).cell? ⟨qb, 4, none⟩ = some (.slice fo c fc) := ((bl_alloc wq _).cell (cell_lt g4)).trans g4
              clear hb00 hw00
              go_wp2
              go_region_law (refine step_app14 (by rfl) _ _ 22 (by rfl) qb 42 i0 (.agg #[.string ⟨#[]⟩, .string ⟨#[]⟩]) 2 32 Tryz.underlying22 HI.out HZ0.out HZ1.out HZ2.out (by rfl) (by decide) (.slice fo c fc) c xs (by rfl) HR00.out ⟨wq.heap.size, 0, none⟩ 1 1 [.string y, .string f.v] (by rfl) (by rfl) HNW.out (by simp [Value.oneCell']) (by unfold maxLen; omega) (by omega) HSZ.out ?_; intro v2 w3 hrow hgrow _; obtain ⟨v2o, v2c, hv2⟩ := own_shape hrow; subst hv2; have hO2 := ar_grown (HW00.out ▸ HO00.out) hgrow HOB.out; have c11 := hO2.cell 4 _ rfl; have e11 := hO2.free 4)
              all_goals
                have HB2 : Hid (Below qb w1 w3) := hid' ((HW00.out ▸ HB00.out).grown hgrow HSZ.out (fun j hj => (own_ty HR00.out j hj).1))
                have HN2 : Hid (w3.ownsRow nb 9 1 (.slice vo nn vc) nn (sC nm)) := hid' (own_grown HN00.out hgrow (fun j hj e => own_diff HN00.out HR00.out (by decide) j hj e.symm))
                have HO2 := hid' hO2
                have HR2 := hid' hrow
                clear hO2 hrow hgrow
                go_wp2
                go_roundw
                case rel =>
                  have h2 : w3.ownsRow qb 42 2 (.slice v2o (c + 1) v2c) (c + 1) (fC (Ms.PS nm (l.take (k + 1)))) := by
                    rw [HKF.out, fC_append, HXS.out]
                    exact HR2.out
                  refine ⟨k + 1, c + 1, v2o, v2c, by go_num, by omega, by omega, hid' (by rw [HKF.out, List.length_append, HCN.out]; rfl), hid' ?_, hid' (own_same h2 (fun j hj => (upd_setCell w3 qb 4 _).block j (own_apart h2 HO2.out (by decide) j hj))), hid' (own_same HN2.out (fun j hj => (upd_setCell w3 qb 4 _).block j (own_apart HN2.out HO2.out (by decide) j hj))), hid' (HB2.out.setCell (Nat.le_refl _) _)⟩
                  exact HO2.out.set 4 (.slice v2o (c + 1) v2c)
                case measure => simp [intOf]; omega
            cases c3
            · have hh := HKT.out
              rw [show Ms.passB nm f = false by rw [HPB.out]; rfl, if_neg (by simp), List.append_nil] at hh
              have s1' : Hid ((Ms.PS nm (l.take (k + 1))).length = c) := hid' (by rw [hh]; exact HCN.out)
              have s2' : Hid (wq.ownsRow qb 42 2 (.slice fo c fc) c (fC (Ms.PS nm (l.take (k + 1))))) := hid' (by rw [hh]; exact HOq.out)
              clear hh
              go_wp2
              go_roundw
              case rel => exact ⟨k + 1, c, fo, fc, by go_num, by omega, by omega, s1', HAq, s2', HNq, HBq⟩
              case measure => simp [intOf]; omega
            · have hpb : Ms.passB nm f = true := by rw [HPB.out]; rfl
              have HKF : Hid (Ms.PS nm (l.take (k + 1)) = Ms.PS nm (l.take k) ++ [⟨y, f.v⟩]) := hid' (by have hh := HKT.out; rw [hpb, if_pos rfl] at hh; rw [hh, HSM.out])
              obtain ⟨xs, hxs⟩ : ∃ xs, fC (Ms.PS nm (l.take k)) = xs := ⟨_, rfl⟩
              have HXS := hid' hxs
              rw [hxs] at HOq
              clear hpb hxs HKT
              have g4 : wq.cell? ⟨qb, 4, none⟩ = some (.slice fo c fc) := HAq.out.cell 4 _ rfl
              have f4 := HAq.out.free 4
              have HOB : Hid (∀ j, (Value.slice fo c fc).ownBlock = some j → j ≠ qb) := hid' (own_apart HOq.out HAq.out (by decide))
              have HQW : Hid (qb ≤ wq.heap.size) := hid' (Nat.le_of_lt HAq.out.lt)
              obtain ⟨ad1, had1, _, y1⟩ := (HFW.out.keep HBQ.out).two k f HFK.out
              injection had1 with had1
              subst had1
              obtain ⟨w00, hw00⟩ : ∃ w00, w00 = (wq.alloc (.cells #[.string y, .string f.v] 42)).drew := ⟨_, rfl⟩
              have hb00 : Below wq.heap.size wq w00 := by rw [hw00]; exact ((Below.refl _ _).alloc (Nat.le_refl _) _).drew
              have HW00 := hid' hw00
              have HO00 := hid' (HAq.out.keep hb00)
              have HR00 : Hid (w00.ownsRow qb 42 2 (.slice fo c fc) c xs) := hid' (own_kp HOq.out hb00)
              have HN00 : Hid (w00.ownsRow nb 9 1 (.slice vo nn vc) nn (sC nm)) := hid' (own_kp HNq.out hb00)
              have HNW : Hid (∀ j u, [Value.string y, .string f.v][j]? = some u → w00.cell? ((⟨wq.heap.size, 0, none⟩ : Addr).add j) = some u) := hid' (by
                intro j u hj
                have hA : Ar w00 wq.heap.size 42 #[.string y, .string f.v] := by rw [hw00]; exact heap_alloc_last wq _
                rw [Addr.add_mid, Nat.zero_add]
                exact hA.cell j u (by simpa using hj))
              have HSZ : Hid (qb ≤ w00.heap.size) := hid' (Nat.le_trans HQW.out hb00.size)
              have HB00 : Hid (Below qb w1 w00) := hid' (HBq.out.trans (hb00.mono HQW.out))
              rw [hw00] at HR00 HNW HSZ HN00
              have g4' : (wq.alloc (.cells #[.string y, .string f.v] 42)).cell? ⟨qb, 4, none⟩ = some (.slice fo c fc) := ((bl_alloc wq _).cell (cell_lt g4)).trans g4
              clear hb00 hw00
              go_wp2
              go_region_law (refine step_app14 (by rfl) _ _ 22 (by rfl) qb 42 i0 (.agg #[.string ⟨#[]⟩, .string ⟨#[]⟩]) 2 32 Tryz.underlying22 HI.out HZ0.out HZ1.out HZ2.out (by rfl) (by decide) (.slice fo c fc) c xs (by rfl) HR00.out ⟨wq.heap.size, 0, none⟩ 1 1 [.string y, .string f.v] (by rfl) (by rfl) HNW.out (by simp [Value.oneCell']) (by unfold maxLen; omega) (by omega) HSZ.out ?_; intro v2 w3 hrow hgrow _; obtain ⟨v2o, v2c, hv2⟩ := own_shape hrow; subst hv2; have hO2 := ar_grown (HW00.out ▸ HO00.out) hgrow HOB.out; have c11 := hO2.cell 4 _ rfl; have e11 := hO2.free 4)
              all_goals
                have HB2 : Hid (Below qb w1 w3) := hid' ((HW00.out ▸ HB00.out).grown hgrow HSZ.out (fun j hj => (own_ty HR00.out j hj).1))
                have HN2 : Hid (w3.ownsRow nb 9 1 (.slice vo nn vc) nn (sC nm)) := hid' (own_grown HN00.out hgrow (fun j hj e => own_diff HN00.out HR00.out (by decide) j hj e.symm))
                have HO2 := hid' hO2
                have HR2 := hid' hrow
                clear hO2 hrow hgrow
                go_wp2
                go_roundw
                case rel =>
                  have h2 : w3.ownsRow qb 42 2 (.slice v2o (c + 1) v2c) (c + 1) (fC (Ms.PS nm (l.take (k + 1)))) := by
                    rw [HKF.out, fC_append, HXS.out]
                    exact HR2.out
                  refine ⟨k + 1, c + 1, v2o, v2c, by go_num, by omega, by omega, hid' (by rw [HKF.out, List.length_append, HCN.out]; rfl), hid' ?_, hid' (own_same h2 (fun j hj => (upd_setCell w3 qb 4 _).block j (own_apart h2 HO2.out (by decide) j hj))), hid' (own_same HN2.out (fun j hj => (upd_setCell w3 qb 4 _).block j (own_apart HN2.out HO2.out (by decide) j hj))), hid' (HB2.out.setCell (Nat.le_refl _) _)⟩
                  exact HO2.out.set 4 (.slice v2o (c + 1) v2c)
                case measure => simp [intOf]; omega
          · have hkn : n = k := by omega
            subst hkn
            have hlt2 : ¬ (n : Int) < (n : Int) := by omega
            have HTK' : Hid (l.take n = l) := hid' (List.take_of_length_le (by rw [HN.out]; exact Nat.le_refl _))
            rw [HTK'.out] at HCN HOq
            clear hlt
            have HR5 := hid' (ar_bel HR1.out HBq.out HRQ.out)
            have HRR : Hid (Ms.oneR m t l = ⟨m, ⟨#[104, 116, 116, 112]⟩, ho, pa, Ms.PS nm l⟩) := hid' (by unfold Ms.oneR; rw [HE.out, HO.out, HAI.out, Ms.pass_PS, HNM.out]; rfl)
            have p0 : wr.cell? ⟨qb, 0, none⟩ = some (.string m) := HAq.out.cell 0 _ rfl
            have p1 : wr.cell? ⟨qb, 1, none⟩ = some (.string ⟨#[104, 116, 116, 112]⟩) := HAq.out.cell 1 _ rfl
            have p2 : wr.cell? ⟨qb, 2, none⟩ = some (.string ho) := HAq.out.cell 2 _ rfl
            have p3 : wr.cell? ⟨qb, 3, none⟩ = some (.string pa) := HAq.out.cell 3 _ rfl
            have p4 : wr.cell? ⟨qb, 4, none⟩ = some (.slice fo c fc) := HAq.out.cell 4 _ rfl
            have p5 : wr.cell? ⟨qb, 5, none⟩ = some (.string ⟨#[]⟩) := HAq.out.cell 5 _ rfl
            have p6 : wr.cell? ⟨qb, 6, none⟩ = some (.slice none 0 0) := HAq.out.cell 6 _ rfl
            go_wp2_with (refine wpl_store 25 _ _ rfl rfl rb (#[.string m, .string ⟨#[104, 116, 116, 112]⟩, .string ho, .string pa, .slice fo c fc, .string ⟨#[]⟩, .slice none 0 0]) (by rfl) (by rfl) _ _ HR5.out sizeRq14 rfl (by simp [Value.oneCell']) ?_)
            intro w4 hA4 hU4
            have HB4 : Hid (Below w.heap.size w w4) := hid' (HBW.out.trans (hU4.below (by have := HRB.out; omega)))
            have HRW : Hid (w4.ownsRow w.heap.size 42 2 (.slice fo c fc) c (fC (Ms.PS nm l))) := hid' (own_base (own_same HOq.out (fun j hj => hU4.block j (by have := (own_ty HOq.out j hj).1; have := HRQ.out; omega))) HWQ.out)
            have o0 := hA4.cell 0 _ rfl
            have o1 := hA4.cell 1 _ rfl
            have o2 := hA4.cell 2 _ rfl
            have o3 := hA4.cell 3 _ rfl
            have o4 := hA4.cell 4 _ rfl
            have o5 := hA4.cell 5 _ rfl
            have o6 := hA4.cell 6 _ rfl
            clear hU4 hA4
            go_wp2
            exact bodyPost_ret (v := .tuple #[rqV ⟨m, ⟨#[104, 116, 116, 112]⟩, ho, pa, Ms.PS nm l⟩ (.slice fo c fc), .int .i64 0]) (by simp [results, Tryz.results7, go_sem, rqV, rqC, o0, o1, o2, o3, o4, o5, o6]) rfl ⟨⟨_, ret_two14 (by rw [HRR.out]) HE.out.symm, by rw [HRR.out, HCN.out]; exact HRW.out⟩, HB4.out⟩
      · have HAI : Hid (Ms.aim m t ho = (sc, au, pa, true)) := hid' (haim ho)
        have hz1 := rq_zero w1
        have hbz1 := bl_alloc w1 (.cells (rqC ⟨#[]⟩ ⟨#[]⟩ ⟨#[]⟩ ⟨#[]⟩ (.slice none 0 0) ⟨#[]⟩ (.slice none 0 0)) 25)
        unfold rqC at hz1 hbz1
        have HZ1' := hid' hz1
        have HBZ1 := hid' hbz1
        clear hz1 hbz1
        go_wp2_with (refine wpl_store 25 _ _ rfl rfl w1.heap.size (#[.string m, .string sc, .string au, .string pa, .slice none 0 0, .string ⟨#[]⟩, .slice none 0 0]) (by rfl) (by rfl) _ _ HZ1'.out sizeRq14 rfl (by simp [Value.oneCell']) ?_)
        intro w2 hA2 hU2
        have HB2 : Hid (Below w1.heap.size w1 w2) := hid' (HBZ1.out.trans (hU2.below (Nat.le_refl _)))
        have HRQ : Hid (rb < w1.heap.size) := hid' HR1.out.lt
        obtain ⟨qb, hqb⟩ : ∃ qb, w1.heap.size = qb := ⟨_, rfl⟩
        have HQB := hid' hqb
        rw [hqb] at hA2 HB2 HRQ ⊢
        have HA2 : Hid (Ar w2 qb 25 (rqA m sc au pa (.slice none 0 0))) := hid' hA2
        have HWQ : Hid (w.heap.size ≤ qb) := hid' (by have := HRB.out; have := HRQ.out; omega)
        have HBW2 : Hid (Below w.heap.size w w2) := hid' (HB1.out.trans (HB2.out.mono HWQ.out))
        clear hA2 hU2 HZ1' HBZ1 hqb
        go_wp2_with fail
        refine (HNA.out _ (H.out.keep HBW2.out)).mono ?_
        rintro e w3 ⟨⟨vo, nn, vc, rfl, hnn, hnb, hrow⟩, hb3⟩
        obtain ⟨nb, hnbe⟩ : ∃ nb, w2.heap.size = nb := ⟨_, rfl⟩
        rw [hnbe] at hrow
        obtain ⟨nm, hnm⟩ : ∃ nm, Ms.nms l = nm := ⟨_, rfl⟩
        rw [hnm] at hrow hnn
        have HNM := hid' hnm
        have HNN := hid' hnn
        have HNB := hid' hnb
        have HNR := hid' hrow
        have HA3 := hid' (HA2.out.keep hb3)
        have HB3 : Hid (Below qb w1 w3) := hid' (HB2.out.trans (hb3.mono (Nat.le_of_lt HA2.out.lt)))
        clear hb3 hrow hnm hnn hnb hnbe HA2 HB2 HBW2
        go_wp2
        go_loopw [20, 21] (fun s20 _ wr => ∃ (k c : Nat) (fo : Option Addr) (fc : Nat), s20 = .int .i64 (k : Int) ∧ k ≤ n ∧ c ≤ k ∧ Hid ((Ms.PS nm (l.take k)).length = c) ∧ Hid (Ar wr qb 25 (rqA m sc au pa (.slice fo c fc))) ∧ Hid (wr.ownsRow qb 42 2 (.slice fo c fc) c (fC (Ms.PS nm (l.take k)))) ∧ Hid (wr.ownsRow nb 9 1 (.slice vo nn vc) nn (sC nm)) ∧ Hid (Below qb w1 wr)) (fun s20 _ _ => n - (intOf s20).toNat)
        case atStart => exact ⟨0, 0, none, 0, rfl, Nat.zero_le _, Nat.le_refl _, hid' rfl, HA3, hid' (World.ownsRow_nil _ _ _ _), HNR, HB3⟩
        case round =>
          obtain ⟨k, c, fo, fc, rfl, hk, hck, HCN, HAq, HOq, HNq, HBq⟩ := hrel
          have HBW : Hid (Below w.heap.size w wr) := hid' (HB1.out.trans (HBq.out.mono HWQ.out))
          by_cases hlt : k < n
          · have hlt2 : (k : Int) < (n : Int) := by omega
            obtain ⟨f, hf⟩ : ∃ f, l[k]? = some f := ⟨_, List.getElem?_eq_getElem (by rw [HN.out]; exact hlt)⟩
            have HFW := hid' (H.out.keep HBW.out)
            obtain ⟨ad, hao, y0, y1⟩ := HFW.out.two k f hf
            subst hao
            have HKT := hid' (Ms.PS_take nm hf)
            have HPS := hid' (HS.out f (List.mem_of_getElem? hf))
            have HFK := hid' hf
            have HBQ : Hid (Below wr.heap.size wr wr) := hid' (Below.refl _ _)
            obtain ⟨y, hy⟩ : ∃ y : ByteArray, (⟨(Tx.lower f.n.data.toList).toArray⟩ : ByteArray) = y := ⟨_, rfl⟩
            have HYD : Hid (y.data.toList = Ms.lo f.n) := hid' (by rw [← hy]; rfl)
            have HYL : Hid (y.toList = Ms.lo f.n) := hid' (by rw [Lib.toList_data]; exact HYD.out)
            have HSM : Hid (Ms.small f = ⟨y, f.v⟩) := hid' (by unfold Ms.small; rw [← hy]; rfl)
            have HYS : Hid (y.size ≤ 140737488355328) := hid' (by
              have h1 : y.size = f.n.size := by rw [Lib.size_eq, HYD.out, Lib.size_eq]; unfold Ms.lo Tx.lower; rw [List.length_map]
              rw [h1]; exact HPS.out.1)
            have HLW : Hid (∀ W, Calls Tryz.prog 30 #[.string f.n] W fun e w' => e = .returned (.string y) ∧ Below W.heap.size W w') := hid' (fun W => by have := rLower_any f.n W (by have := HPS.out.1; unfold maxLen; omega); rwa [hy] at this)
            obtain ⟨d, hd⟩ : ∃ d, Ms.bnd y = d := ⟨_, rfl⟩
            have HBD := hid' (fun W => rbnd14 y d hd W HYS.out)
            obtain ⟨ix, hix⟩ : ∃ ix, nm.contains y.toList = ix := ⟨_, rfl⟩
            have HIX := hid' hix
            obtain ⟨c1, hc1⟩ : ∃ c1, (y.toList == [104, 111, 115, 116]) = c1 := ⟨_, rfl⟩
            obtain ⟨c2, hc2⟩ : ∃ c2, (y.toList == [116, 101]) = c2 := ⟨_, rfl⟩
            obtain ⟨c3, hc3⟩ : ∃ c3, (y.toList == [99, 111, 110, 116, 101, 110, 116, 45, 108, 101, 110, 103, 116, 104]) = c3 := ⟨_, rfl⟩
            have HPB : Hid (Ms.passB nm f = (!c1 && !c2 && !d && (!ix || c3))) := hid' (by
              unfold Ms.passB
              rw [← Ms.bnd_low f.n y HYD.out, hd, ← HYL.out, hix, ← hc1, ← hc2, ← hc3]; rfl)
            have d1 : (y.toList != [104, 111, 115, 116]) = !c1 := by unfold bne; rw [hc1]
            have d2 : (y.toList != [116, 101]) = !c2 := by unfold bne; rw [hc2]
            clear hf hy hd hix
            go_wp2_with fail
            refine (HLW.out _).mono ?_
            rintro e wq ⟨rfl, hbn⟩
            have HAn := hid' (HAq.out.keep hbn)
            have HOn := hid' (own_kp HOq.out hbn)
            have HNn := hid' (own_kp HNq.out hbn)
            have HBn : Hid (Below qb w1 wq) := hid' (HBq.out.trans (hbn.mono (Nat.le_of_lt HAq.out.lt)))
            have HBQn := hid' (below_two HBQ.out hbn)
            clear hbn HAq HOq HNq HBq HBQ
            have HAq := HAn
            have HOq := HOn
            have HNq := HNn
            have HBq := HBn
            have HBQ := HBQn
            clear HAn HOn HNn HBn HBQn
            clear y0 y1
            cases c1
            rotate_left
            · have hh := HKT.out
              rw [show Ms.passB nm f = false by rw [HPB.out]; rfl, if_neg (by simp), List.append_nil] at hh
              have s1' : Hid ((Ms.PS nm (l.take (k + 1))).length = c) := hid' (by rw [hh]; exact HCN.out)
              have s2' : Hid (wq.ownsRow qb 42 2 (.slice fo c fc) c (fC (Ms.PS nm (l.take (k + 1))))) := hid' (by rw [hh]; exact HOq.out)
              clear hh
              go_wp2
              go_roundw
              case rel => exact ⟨k + 1, c, fo, fc, by go_num, by omega, by omega, s1', HAq, s2', HNq, HBq⟩
              case measure => simp [intOf]; omega
            cases c2
            rotate_left
            · have hh := HKT.out
              rw [show Ms.passB nm f = false by rw [HPB.out]; rfl, if_neg (by simp), List.append_nil] at hh
              have s1' : Hid ((Ms.PS nm (l.take (k + 1))).length = c) := hid' (by rw [hh]; exact HCN.out)
              have s2' : Hid (wq.ownsRow qb 42 2 (.slice fo c fc) c (fC (Ms.PS nm (l.take (k + 1))))) := hid' (by rw [hh]; exact HOq.out)
              clear hh
              go_wp2
              go_roundw
              case rel => exact ⟨k + 1, c, fo, fc, by go_num, by omega, by omega, s1', HAq, s2', HNq, HBq⟩
              case measure => simp [intOf]; omega
            go_wp2_with fail
            refine (HBD.out _).mono ?_
            rintro e wq ⟨rfl, hbn⟩
            have HAn := hid' (HAq.out.keep hbn)
            have HOn := hid' (own_kp HOq.out hbn)
            have HNn := hid' (own_kp HNq.out hbn)
            have HBn : Hid (Below qb w1 wq) := hid' (HBq.out.trans (hbn.mono (Nat.le_of_lt HAq.out.lt)))
            have HBQn := hid' (below_two HBQ.out hbn)
            clear hbn HAq HOq HNq HBq HBQ
            have HAq := HAn
            have HOq := HOn
            have HNq := HNn
            have HBq := HBn
            have HBQ := HBQn
            clear HAn HOn HNn HBn HBQn
            cases d
            rotate_left
            · have hh := HKT.out
              rw [show Ms.passB nm f = false by rw [HPB.out]; rfl, if_neg (by simp), List.append_nil] at hh
              have s1' : Hid ((Ms.PS nm (l.take (k + 1))).length = c) := hid' (by rw [hh]; exact HCN.out)
              have s2' : Hid (wq.ownsRow qb 42 2 (.slice fo c fc) c (fC (Ms.PS nm (l.take (k + 1))))) := hid' (by rw [hh]; exact HOq.out)
              clear hh
              go_wp2
              go_roundw
              case rel => exact ⟨k + 1, c, fo, fc, by go_num, by omega, by omega, s1', HAq, s2', HNq, HBq⟩
              case measure => simp [intOf]; omega
            go_wp2_with fail
            refine (rinS14 nb vo nn vc nm y ix HIX.out _ HNq.out HNN.out (by have := HNB.out; omega)).mono ?_
            rintro e w' ⟨rfl, hw⟩
            subst w'
            cases ix
            · have hpb : Ms.passB nm f = true := by rw [HPB.out]; rfl
              have HKF : Hid (Ms.PS nm (l.take (k + 1)) = Ms.PS nm (l.take k) ++ [⟨y, f.v⟩]) := hid' (by have hh := HKT.out; rw [hpb, if_pos rfl] at hh; rw [hh, HSM.out])
              obtain ⟨xs, hxs⟩ : ∃ xs, fC (Ms.PS nm (l.take k)) = xs := ⟨_, rfl⟩
              have HXS := hid' hxs
              rw [hxs] at HOq
              clear hpb hxs HKT
              have g4 : wq.cell? ⟨qb, 4, none⟩ = some (.slice fo c fc) := HAq.out.cell 4 _ rfl
              have f4 := HAq.out.free 4
              have HOB : Hid (∀ j, (Value.slice fo c fc).ownBlock = some j → j ≠ qb) := hid' (own_apart HOq.out HAq.out (by decide))
              have HQW : Hid (qb ≤ wq.heap.size) := hid' (Nat.le_of_lt HAq.out.lt)
              obtain ⟨ad1, had1, _, y1⟩ := (HFW.out.keep HBQ.out).two k f HFK.out
              injection had1 with had1
              subst had1
              obtain ⟨w00, hw00⟩ : ∃ w00, w00 = (wq.alloc (.cells #[.string y, .string f.v] 42)).drew := ⟨_, rfl⟩
              have hb00 : Below wq.heap.size wq w00 := by rw [hw00]; exact ((Below.refl _ _).alloc (Nat.le_refl _) _).drew
              have HW00 := hid' hw00
              have HO00 := hid' (HAq.out.keep hb00)
              have HR00 : Hid (w00.ownsRow qb 42 2 (.slice fo c fc) c xs) := hid' (own_kp HOq.out hb00)
              have HN00 : Hid (w00.ownsRow nb 9 1 (.slice vo nn vc) nn (sC nm)) := hid' (own_kp HNq.out hb00)
              have HNW : Hid (∀ j u, [Value.string y, .string f.v][j]? = some u → w00.cell? ((⟨wq.heap.size, 0, none⟩ : Addr).add j) = some u) := hid' (by
                intro j u hj
                have hA : Ar w00 wq.heap.size 42 #[.string y, .string f.v] := by rw [hw00]; exact heap_alloc_last wq _
                rw [Addr.add_mid, Nat.zero_add]
                exact hA.cell j u (by simpa using hj))
              have HSZ : Hid (qb ≤ w00.heap.size) := hid' (Nat.le_trans HQW.out hb00.size)
              have HB00 : Hid (Below qb w1 w00) := hid' (HBq.out.trans (hb00.mono HQW.out))
              rw [hw00] at HR00 HNW HSZ HN00
              have g4' : (wq.alloc (.cells #[.string y, .string f.v] 42)).cell? ⟨qb, 4, none⟩ = some (.slice fo c fc) := ((bl_alloc wq _).cell (cell_lt g4)).trans g4
              clear hb00 hw00
              go_wp2
              go_region_law (refine step_app14 (by rfl) _ _ 22 (by rfl) qb 42 i0 (.agg #[.string ⟨#[]⟩, .string ⟨#[]⟩]) 2 32 Tryz.underlying22 HI.out HZ0.out HZ1.out HZ2.out (by rfl) (by decide) (.slice fo c fc) c xs (by rfl) HR00.out ⟨wq.heap.size, 0, none⟩ 1 1 [.string y, .string f.v] (by rfl) (by rfl) HNW.out (by simp [Value.oneCell']) (by unfold maxLen; omega) (by omega) HSZ.out ?_; intro v2 w3 hrow hgrow _; obtain ⟨v2o, v2c, hv2⟩ := own_shape hrow; subst hv2; have hO2 := ar_grown (HW00.out ▸ HO00.out) hgrow HOB.out; have c11 := hO2.cell 4 _ rfl; have e11 := hO2.free 4)
              all_goals
                have HB2 : Hid (Below qb w1 w3) := hid' ((HW00.out ▸ HB00.out).grown hgrow HSZ.out (fun j hj => (own_ty HR00.out j hj).1))
                have HN2 : Hid (w3.ownsRow nb 9 1 (.slice vo nn vc) nn (sC nm)) := hid' (own_grown HN00.out hgrow (fun j hj e => own_diff HN00.out HR00.out (by decide) j hj e.symm))
                have HO2 := hid' hO2
                have HR2 := hid' hrow
                clear hO2 hrow hgrow
                go_wp2
                go_roundw
                case rel =>
                  have h2 : w3.ownsRow qb 42 2 (.slice v2o (c + 1) v2c) (c + 1) (fC (Ms.PS nm (l.take (k + 1)))) := by
                    rw [HKF.out, fC_append, HXS.out]
                    exact HR2.out
                  refine ⟨k + 1, c + 1, v2o, v2c, by go_num, by omega, by omega, hid' (by rw [HKF.out, List.length_append, HCN.out]; rfl), hid' ?_, hid' (own_same h2 (fun j hj => (upd_setCell w3 qb 4 _).block j (own_apart h2 HO2.out (by decide) j hj))), hid' (own_same HN2.out (fun j hj => (upd_setCell w3 qb 4 _).block j (own_apart HN2.out HO2.out (by decide) j hj))), hid' (HB2.out.setCell (Nat.le_refl _) _)⟩
                  exact HO2.out.set 4 (.slice v2o (c + 1) v2c)
                case measure => simp [intOf]; omega
            cases c3
            · have hh := HKT.out
              rw [show Ms.passB nm f = false by rw [HPB.out]; rfl, if_neg (by simp), List.append_nil] at hh
              have s1' : Hid ((Ms.PS nm (l.take (k + 1))).length = c) := hid' (by rw [hh]; exact HCN.out)
              have s2' : Hid (wq.ownsRow qb 42 2 (.slice fo c fc) c (fC (Ms.PS nm (l.take (k + 1))))) := hid' (by rw [hh]; exact HOq.out)
              clear hh
              go_wp2
              go_roundw
              case rel => exact ⟨k + 1, c, fo, fc, by go_num, by omega, by omega, s1', HAq, s2', HNq, HBq⟩
              case measure => simp [intOf]; omega
            · have hpb : Ms.passB nm f = true := by rw [HPB.out]; rfl
              have HKF : Hid (Ms.PS nm (l.take (k + 1)) = Ms.PS nm (l.take k) ++ [⟨y, f.v⟩]) := hid' (by have hh := HKT.out; rw [hpb, if_pos rfl] at hh; rw [hh, HSM.out])
              obtain ⟨xs, hxs⟩ : ∃ xs, fC (Ms.PS nm (l.take k)) = xs := ⟨_, rfl⟩
              have HXS := hid' hxs
              rw [hxs] at HOq
              clear hpb hxs HKT
              have g4 : wq.cell? ⟨qb, 4, none⟩ = some (.slice fo c fc) := HAq.out.cell 4 _ rfl
              have f4 := HAq.out.free 4
              have HOB : Hid (∀ j, (Value.slice fo c fc).ownBlock = some j → j ≠ qb) := hid' (own_apart HOq.out HAq.out (by decide))
              have HQW : Hid (qb ≤ wq.heap.size) := hid' (Nat.le_of_lt HAq.out.lt)
              obtain ⟨ad1, had1, _, y1⟩ := (HFW.out.keep HBQ.out).two k f HFK.out
              injection had1 with had1
              subst had1
              obtain ⟨w00, hw00⟩ : ∃ w00, w00 = (wq.alloc (.cells #[.string y, .string f.v] 42)).drew := ⟨_, rfl⟩
              have hb00 : Below wq.heap.size wq w00 := by rw [hw00]; exact ((Below.refl _ _).alloc (Nat.le_refl _) _).drew
              have HW00 := hid' hw00
              have HO00 := hid' (HAq.out.keep hb00)
              have HR00 : Hid (w00.ownsRow qb 42 2 (.slice fo c fc) c xs) := hid' (own_kp HOq.out hb00)
              have HN00 : Hid (w00.ownsRow nb 9 1 (.slice vo nn vc) nn (sC nm)) := hid' (own_kp HNq.out hb00)
              have HNW : Hid (∀ j u, [Value.string y, .string f.v][j]? = some u → w00.cell? ((⟨wq.heap.size, 0, none⟩ : Addr).add j) = some u) := hid' (by
                intro j u hj
                have hA : Ar w00 wq.heap.size 42 #[.string y, .string f.v] := by rw [hw00]; exact heap_alloc_last wq _
                rw [Addr.add_mid, Nat.zero_add]
                exact hA.cell j u (by simpa using hj))
              have HSZ : Hid (qb ≤ w00.heap.size) := hid' (Nat.le_trans HQW.out hb00.size)
              have HB00 : Hid (Below qb w1 w00) := hid' (HBq.out.trans (hb00.mono HQW.out))
              rw [hw00] at HR00 HNW HSZ HN00
              have g4' : (wq.alloc (.cells #[.string y, .string f.v] 42)).cell? ⟨qb, 4, none⟩ = some (.slice fo c fc) := ((bl_alloc wq _).cell (cell_lt g4)).trans g4
              clear hb00 hw00
              go_wp2
              go_region_law (refine step_app14 (by rfl) _ _ 22 (by rfl) qb 42 i0 (.agg #[.string ⟨#[]⟩, .string ⟨#[]⟩]) 2 32 Tryz.underlying22 HI.out HZ0.out HZ1.out HZ2.out (by rfl) (by decide) (.slice fo c fc) c xs (by rfl) HR00.out ⟨wq.heap.size, 0, none⟩ 1 1 [.string y, .string f.v] (by rfl) (by rfl) HNW.out (by simp [Value.oneCell']) (by unfold maxLen; omega) (by omega) HSZ.out ?_; intro v2 w3 hrow hgrow _; obtain ⟨v2o, v2c, hv2⟩ := own_shape hrow; subst hv2; have hO2 := ar_grown (HW00.out ▸ HO00.out) hgrow HOB.out; have c11 := hO2.cell 4 _ rfl; have e11 := hO2.free 4)
              all_goals
                have HB2 : Hid (Below qb w1 w3) := hid' ((HW00.out ▸ HB00.out).grown hgrow HSZ.out (fun j hj => (own_ty HR00.out j hj).1))
                have HN2 : Hid (w3.ownsRow nb 9 1 (.slice vo nn vc) nn (sC nm)) := hid' (own_grown HN00.out hgrow (fun j hj e => own_diff HN00.out HR00.out (by decide) j hj e.symm))
                have HO2 := hid' hO2
                have HR2 := hid' hrow
                clear hO2 hrow hgrow
                go_wp2
                go_roundw
                case rel =>
                  have h2 : w3.ownsRow qb 42 2 (.slice v2o (c + 1) v2c) (c + 1) (fC (Ms.PS nm (l.take (k + 1)))) := by
                    rw [HKF.out, fC_append, HXS.out]
                    exact HR2.out
                  refine ⟨k + 1, c + 1, v2o, v2c, by go_num, by omega, by omega, hid' (by rw [HKF.out, List.length_append, HCN.out]; rfl), hid' ?_, hid' (own_same h2 (fun j hj => (upd_setCell w3 qb 4 _).block j (own_apart h2 HO2.out (by decide) j hj))), hid' (own_same HN2.out (fun j hj => (upd_setCell w3 qb 4 _).block j (own_apart HN2.out HO2.out (by decide) j hj))), hid' (HB2.out.setCell (Nat.le_refl _) _)⟩
                  exact HO2.out.set 4 (.slice v2o (c + 1) v2c)
                case measure => simp [intOf]; omega
          · have hkn : n = k := by omega
            subst hkn
            have hlt2 : ¬ (n : Int) < (n : Int) := by omega
            have HTK' : Hid (l.take n = l) := hid' (List.take_of_length_le (by rw [HN.out]; exact Nat.le_refl _))
            rw [HTK'.out] at HCN HOq
            clear hlt
            have HR5 := hid' (ar_bel HR1.out HBq.out HRQ.out)
            have HRR : Hid (Ms.oneR m t l = ⟨m, sc, au, pa, Ms.PS nm l⟩) := hid' (by unfold Ms.oneR; rw [HE.out, HO.out, HAI.out, Ms.pass_PS, HNM.out]; rfl)
            have p0 : wr.cell? ⟨qb, 0, none⟩ = some (.string m) := HAq.out.cell 0 _ rfl
            have p1 : wr.cell? ⟨qb, 1, none⟩ = some (.string sc) := HAq.out.cell 1 _ rfl
            have p2 : wr.cell? ⟨qb, 2, none⟩ = some (.string au) := HAq.out.cell 2 _ rfl
            have p3 : wr.cell? ⟨qb, 3, none⟩ = some (.string pa) := HAq.out.cell 3 _ rfl
            have p4 : wr.cell? ⟨qb, 4, none⟩ = some (.slice fo c fc) := HAq.out.cell 4 _ rfl
            have p5 : wr.cell? ⟨qb, 5, none⟩ = some (.string ⟨#[]⟩) := HAq.out.cell 5 _ rfl
            have p6 : wr.cell? ⟨qb, 6, none⟩ = some (.slice none 0 0) := HAq.out.cell 6 _ rfl
            go_wp2_with (refine wpl_store 25 _ _ rfl rfl rb (#[.string m, .string sc, .string au, .string pa, .slice fo c fc, .string ⟨#[]⟩, .slice none 0 0]) (by rfl) (by rfl) _ _ HR5.out sizeRq14 rfl (by simp [Value.oneCell']) ?_)
            intro w4 hA4 hU4
            have HB4 : Hid (Below w.heap.size w w4) := hid' (HBW.out.trans (hU4.below (by have := HRB.out; omega)))
            have HRW : Hid (w4.ownsRow w.heap.size 42 2 (.slice fo c fc) c (fC (Ms.PS nm l))) := hid' (own_base (own_same HOq.out (fun j hj => hU4.block j (by have := (own_ty HOq.out j hj).1; have := HRQ.out; omega))) HWQ.out)
            have o0 := hA4.cell 0 _ rfl
            have o1 := hA4.cell 1 _ rfl
            have o2 := hA4.cell 2 _ rfl
            have o3 := hA4.cell 3 _ rfl
            have o4 := hA4.cell 4 _ rfl
            have o5 := hA4.cell 5 _ rfl
            have o6 := hA4.cell 6 _ rfl
            clear hU4 hA4
            go_wp2
            exact bodyPost_ret (v := .tuple #[rqV ⟨m, sc, au, pa, Ms.PS nm l⟩ (.slice fo c fc), .int .i64 0]) (by simp [results, Tryz.results7, go_sem, rqV, rqC, o0, o1, o2, o3, o4, o5, o6]) rfl ⟨⟨_, ret_two14 (by rw [HRR.out]) HE.out.symm, by rw [HRR.out, HCN.out]; exact HRW.out⟩, HB4.out⟩

end Go.Proofs.YtkfekopenahmdaaGreatDoor
