/-
  The code's Two: by its contract.
-/
import Derived.Test.YtcljepppdljnlabDoorMcK
import Derived.Test.YtcljepppdljnlabDoorMcL
namespace Go.Proofs.YtcljepppdljnlabDoor
open Go.RowKit

/-- A request's value: its parts, its fields' row. -/
def rqV (R : Ms.Rq) (fv : Value) : Value := .agg (rqC R.m R.s R.a R.p fv ⟨#[]⟩ (.slice none 0 0))
theorem fnd_size {x : Ms.T8} {l : List Fd} {n : Nat} (hs : ∀ f ∈ l, f.n.size ≤ n ∧ f.v.size ≤ n) : ((Ms.fnd x l).getD ⟨#[]⟩).size ≤ n := by
  induction l with
  | nil => exact Nat.zero_le _
  | cons f r ih =>
    rw [Ms.fnd]
    split
    · exact (hs f (by simp)).2
    · exact ih (fun g hg => hs g (by simp [hg]))
theorem zeroHd : (Tryd.prog.info? 52).map (fun i => i.zero) = some (some (.agg (hdC (Ms.hof []) (.slice none 0 0)))) := by kernel_rfl
theorem auV_hof (l : List Fd) : auV (Ms.hof l) = Ms.auth l := rfl
theorem ret_two14 {a b : Value} {c d : Int} (h1 : a = b) (h2 : c = d) : Ending.returned (.tuple #[a, .int .i64 c]) = .returned (.tuple #[b, .int .i64 d]) := by rw [h1, h2]

theorem ar_bel {w w' : World} {a B : Nat} {T : TypeId} {c : Array Value} (h : Ar w a T c) (hb : Below B w w') (hl : a < B) : Ar w' a T c := by
  unfold Ar at *
  rw [hb.block a hl]
  exact h
theorem own_base {w : World} {B B' : Nat} {e : TypeId} {s : Nat} {v : Value} {n : Nat} {xs : List Value} (h : w.ownsRow B e s v n xs) (hB : B' ≤ B) : w.ownsRow B' e s v n xs := by
  refine ⟨h.1, ?_⟩
  rcases h.2 with h2 | ⟨g, cap, cur, h1, h2, h3⟩
  · exact .inl h2
  · exact .inr ⟨g, cap, cur, h1, Nat.le_trans hB h2, h3⟩

set_option maxHeartbeats 4000000 in
set_option maxRecDepth 20000 in
theorem ctwo14 (v : Value) (l : List Fd) (w : World) (h : FW w v l) (hT : TB w) (hl : l.length ≤ 1048576) (hs : ∀ f ∈ l, f.n.size ≤ 140737488355328 ∧ f.v.size ≤ 140737488355328) :
    Calls Tryd.prog 17 #[v] w fun e w' => (∃ fv, e = .returned (.tuple #[rqV (Ms.twoR l) fv, .int .i64 (Ms.twoE l)]) ∧ w'.ownsRow w.heap.size 28 2 fv (Ms.twoR l).fs.length (fC (Ms.twoR l).fs)) ∧ Below w.heap.size w w' := by
  obtain ⟨ao, cap, hv⟩ := h.shape
  subst hv
  obtain ⟨n, hn⟩ : ∃ n, l.length = n := ⟨_, rfl⟩
  rw [hn] at h ⊢
  obtain ⟨c0, hc0⟩ : ∃ c0, Ms.walk [] false l = c0 := ⟨_, rfl⟩
  have H := hid' h
  have HN := hid' hn
  have HS := hid' hs
  have HTB := hid' hT
  have HC0 := hid' hc0
  have HL := hid' hl
  have hz := rq_zero w
  have hbz := bl_alloc w (.cells (rqC ⟨#[]⟩ ⟨#[]⟩ ⟨#[]⟩ ⟨#[]⟩ (.slice none 0 0) ⟨#[]⟩ (.slice none 0 0)) 42)
  have hsz : (w.alloc (.cells (rqC ⟨#[]⟩ ⟨#[]⟩ ⟨#[]⟩ ⟨#[]⟩ (.slice none 0 0) ⟨#[]⟩ (.slice none 0 0)) 42)).heap.size = w.heap.size + 1 := by simp
  unfold rqC at hz hbz hsz
  clear h hn hs hT hc0
  have hn2 : n ≤ 1048576 := by have := HN.out; omega
  go_enter Tryd.func17, Tryd.ntmps17
  go_upto_region 1 with fail
  generalize w.alloc (.cells #[.string ⟨#[]⟩, .string ⟨#[]⟩, .string ⟨#[]⟩, .string ⟨#[]⟩, .slice none 0 0, .string ⟨#[]⟩, .slice none 0 0] 42) = w0 at *
  have hA1 : Ar (w0.alloc (.cells (hdC (Ms.hof []) (.slice none 0 0)) 52)) w0.heap.size 52 (hdC (Ms.hof []) (.slice none 0 0)) := heap_alloc_last w0 _
  have hB1 := bl_alloc w0 (.cells (hdC (Ms.hof []) (.slice none 0 0)) 52)
  have HT0 := hid' (HTB.out.keep hbz)
  have HM1 : Hid (HM (w0.alloc (.cells (hdC (Ms.hof []) (.slice none 0 0)) 52)) w0.heap.size w0.heap.size (Ms.hof []) (.slice none 0 0)) := hid' ⟨Nat.le_refl _, hA1, World.ownsRow_nil _ _ _ _⟩
  have HBW := hid' (below_two hbz hB1)
  have HR1 : Hid (Ar (w0.alloc (.cells (hdC (Ms.hof []) (.slice none 0 0)) 52)) w.heap.size 42 #[.string ⟨#[]⟩, .string ⟨#[]⟩, .string ⟨#[]⟩, .string ⟨#[]⟩, .slice none 0 0, .string ⟨#[]⟩, .slice none 0 0]) := hid' (hz.keep hB1)
  go_upto_region 2 with fail
  change Code.wp _ _ _ _ (w0.alloc (.cells (hdC (Ms.hof []) (.slice none 0 0)) 52))
  obtain ⟨rb, hrb⟩ : ∃ rb, w.heap.size = rb := ⟨_, rfl⟩
  have HRB := hid' hrb
  obtain ⟨b, hb⟩ : ∃ b, w0.heap.size = b := ⟨_, rfl⟩
  have HBB : Hid (rb < b) := hid' (by omega)
  rw [hrb] at HR1 ⊢
  have hb2 : rb + 1 = b := by omega
  rw [hb2]
  rw [hb] at HM1
  clear hA1 hB1 hz hbz hsz hrb hb hb2
  generalize w0.alloc (.cells (hdC (Ms.hof []) (.slice none 0 0)) 52) = w1 at *
  go_wp2
  go_loopw [11] (fun s11 wr => ∃ (k : Nat) (fv : Value), s11 = .int .i64 (k : Int) ∧ k ≤ n ∧ Hid (HM wr b b (Ms.hof (l.take k)) fv) ∧ Hid (Below b w1 wr) ∧ Hid (Ms.walk (l.take k) (Ms.hof (l.take k)).bg (l.drop k) = c0)) (fun s11 _ => n - (intOf s11).toNat)
  case atStart => exact ⟨0, _, rfl, Nat.zero_le _, HM1, hid' (Below.refl _ _), HC0⟩
  case round =>
    obtain ⟨k, fv, rfl, hk, HX, HB, HI⟩ := hrel
    have HBWr : Hid (Below w.heap.size w wr) := hid' (HBW.out.trans (HB.out.mono (by have := HRB.out; have := HBB.out; omega)))
    have HR := hid' (ar_bel HR1.out HB.out HBB.out)
    by_cases hlt : k < n
    · have hlt2 : (k : Int) < (n : Int) := by omega
      obtain ⟨p, hp⟩ : ∃ p, l[k]? = some p := ⟨_, List.getElem?_eq_getElem (by rw [HN.out]; exact hlt)⟩
      obtain ⟨a, hao, y0, y1⟩ := (H.out.keep HBWr.out).two k p hp
      subst hao
      have HST := hid' (Ms.walk_step hp)
      have HTS := hid' (Ms.take_snoc hp)
      have HPS := hid' (HS.out p (List.mem_of_getElem? hp))
      obtain ⟨c, hc⟩ : ∃ c, Ms.step1 (l.take k) p = c := ⟨_, rfl⟩
      have HC := hid' hc
      clear hp hc
      have hba := bl_alloc wr (.cells #[.string p.n, .string p.v] 28)
      have HX1 := hid' (HX.out.keep hba)
      have HB1 : Hid (Below b w1 (wr.alloc (.cells #[.string p.n, .string p.v] 28))) := hid' (HB.out.trans (hba.mono (by have := HX.out.obj.lt; omega)))
      clear hba HX HB HR HBWr
      go_wp2_with fail
      generalize wr.alloc (.cells #[.string p.n, .string p.v] 28) = w2 at *
      clear y0 y1
      refine (cadd14 b b (l.take k) p fv c HC.out w2 HX1.out (by rw [List.length_take]; omega) HPS.out.1 HPS.out.2).mono ?_
      rintro e w3 ⟨rfl, hb3, hm3⟩
      have HB3 : Hid (Below b w1 w3) := hid' (HB1.out.trans hb3)
      have HM3 := hid' hm3
      have HR := hid' (ar_bel HR1.out HB3.out HBB.out)
      clear hb3 hm3 HB1 HX1
      cases e0 : (c == 0)
      · have e1 : (c != 0) = true := by unfold bne; rw [e0]; rfl
        have e2 : ¬ c = 0 := by intro e; rw [e] at e0; simp at e0
        have HCC : Hid (c0 = c) := hid' (by have h1 := HST.out; rw [HI.out, HC.out, e0] at h1; exact h1)
        have HE : Hid (Ms.twoE l = c) := hid' (by unfold Ms.twoE; rw [HC0.out, HCC.out, e0]; rfl)
        have HRR : Hid (Ms.twoR l = Ms.rq0) := hid' (by unfold Ms.twoR; rw [HE.out, e0]; rfl)
        go_wp2_with (refine wpl_store 42 _ _ rfl rfl rb (#[.string ⟨#[]⟩, .string ⟨#[]⟩, .string ⟨#[]⟩, .string ⟨#[]⟩, .slice none 0 0, .string ⟨#[]⟩, .slice none 0 0]) (by kernel_rfl) (by kernel_rfl) _ _ HR.out sizeRq14 rfl (by simp [Value.oneCell']) ?_)
        intro w4 hA4 hU4
        have HB4 : Hid (Below w.heap.size w w4) := hid' ((HBW.out.trans (HB3.out.mono (by have := HRB.out; have := HBB.out; omega))).trans (hU4.below (by have := HRB.out; omega)))
        have o0 := hA4.cell 0 _ rfl
        have o1 := hA4.cell 1 _ rfl
        have o2 := hA4.cell 2 _ rfl
        have o3 := hA4.cell 3 _ rfl
        have o4 := hA4.cell 4 _ rfl
        have o5 := hA4.cell 5 _ rfl
        have o6 := hA4.cell 6 _ rfl
        clear hU4 hA4
        go_wp2
        exact bodyPost_ret (v := .tuple #[rqV Ms.rq0 (.slice none 0 0), .int .i64 c]) (by simp [results, Tryd.results17, go_sem, rqV, rqC, Ms.rq0, Ms.e0, o0, o1, o2, o3, o4, o5, o6]) rfl ⟨⟨_, ret_two14 (by rw [HRR.out]) HE.out.symm, by rw [HRR.out]; exact World.ownsRow_nil _ _ _ _⟩, HB4.out⟩
      · obtain rfl : c = 0 := beq_iff_eq.1 e0
        obtain ⟨fv', hm'⟩ := HM3.out rfl
        have HM' : Hid (HM w3 b b (Ms.hof (l.take (k + 1))) fv') := hid' (by rw [HTS.out]; exact hm')
        have HCC : Hid (Ms.walk (l.take (k + 1)) (Ms.hof (l.take (k + 1))).bg (l.drop (k + 1)) = c0) := hid' (by have h1 := HST.out; rw [HI.out, HC.out] at h1; exact h1.symm)
        clear hm' e0
        go_wp2
        go_roundw
        case rel => exact ⟨k + 1, fv', by go_num, by omega, HM', HB3, HCC⟩
        case measure => simp [intOf]; omega
    · obtain rfl : k = n := by omega
      have hlt2 : ¬ (k : Int) < (k : Int) := by omega
      have HTK : Hid (l.take k = l) := hid' (List.take_of_length_le (by rw [HN.out]; exact Nat.le_refl _))
      have HXL : Hid (HM wr b b (Ms.hof l) fv) := hid' (by have := HX.out; rwa [HTK.out] at this)
      have HW0 : Hid (Ms.walk [] false l = 0) := hid' (by rw [HC0.out, ← HI.out, List.drop_of_length_le (by rw [HN.out]; exact Nat.le_refl _)]; rfl)
      obtain ⟨c, hc⟩ : ∃ c, Ms.faultE (Ms.hof l) = c := ⟨_, rfl⟩
      have HE : Hid (Ms.twoE l = c) := hid' (by rw [Ms.twoE_fault, HW0.out, ← hc]; rfl)
      have HC := hid' hc
      have HKS : Hid (∀ f ∈ Ms.keep l, f.n.size ≤ 140737488355328 ∧ f.v.size ≤ 140737488355328) := hid' (fun f hf => HS.out f (List.mem_filter.1 hf).1)
      clear hlt hc
      go_wp2_with fail
      refine (cfault14 b b (Ms.hof l) fv c HC.out wr HXL.out (HTB.out.keep HBWr.out) (Nat.le_trans (List.length_filter_le _ _) HL.out) HKS.out (fnd_size HS.out) (fnd_size HS.out)).mono ?_
      rintro e w3 ⟨rfl, hb3⟩
      have HX3 := hid' (HXL.out.keep hb3)
      have HB3 : Hid (Below b w1 w3) := hid' (HB.out.trans (hb3.mono (Nat.le_of_lt HXL.out.obj.lt)))
      have HR := hid' (ar_bel HR1.out HB3.out HBB.out)
      clear hb3
      cases e0 : (c == 0)
      · have e1 : (c != 0) = true := by unfold bne; rw [e0]; rfl
        have e2 : ¬ c = 0 := by intro e; rw [e] at e0; simp at e0
        have HRR : Hid (Ms.twoR l = Ms.rq0) := hid' (by unfold Ms.twoR; rw [HE.out, e0]; rfl)
        go_wp2_with (refine wpl_store 42 _ _ rfl rfl rb (#[.string ⟨#[]⟩, .string ⟨#[]⟩, .string ⟨#[]⟩, .string ⟨#[]⟩, .slice none 0 0, .string ⟨#[]⟩, .slice none 0 0]) (by kernel_rfl) (by kernel_rfl) _ _ HR.out sizeRq14 rfl (by simp [Value.oneCell']) ?_)
        intro w4 hA4 hU4
        have HB4 : Hid (Below w.heap.size w w4) := hid' ((HBW.out.trans (HB3.out.mono (by have := HRB.out; have := HBB.out; omega))).trans (hU4.below (by have := HRB.out; omega)))
        have o0 := hA4.cell 0 _ rfl
        have o1 := hA4.cell 1 _ rfl
        have o2 := hA4.cell 2 _ rfl
        have o3 := hA4.cell 3 _ rfl
        have o4 := hA4.cell 4 _ rfl
        have o5 := hA4.cell 5 _ rfl
        have o6 := hA4.cell 6 _ rfl
        clear hU4 hA4
        go_wp2
        exact bodyPost_ret (v := .tuple #[rqV Ms.rq0 (.slice none 0 0), .int .i64 c]) (by simp [results, Tryd.results17, go_sem, rqV, rqC, Ms.rq0, Ms.e0, o0, o1, o2, o3, o4, o5, o6]) rfl ⟨⟨_, ret_two14 (by rw [HRR.out]) HE.out.symm, by rw [HRR.out]; exact World.ownsRow_nil _ _ _ _⟩, HB4.out⟩
      · obtain rfl : c = 0 := beq_iff_eq.1 e0
        have HRR : Hid (Ms.twoR l = ⟨Ms.gd Ms.sMethod l, Ms.gd Ms.sScheme l, Ms.auth l, Ms.gd Ms.sPath l, Ms.keep l⟩) := hid' (by unfold Ms.twoR; rw [HE.out]; rfl)
        clear e0
        go_wp2_with fail
        refine (creq14 b b (Ms.hof l) fv w3 HX3.out).mono ?_
        rintro e w5 ⟨he, hb5⟩
        have hee : e = .returned (.agg (rqC (Ms.gd Ms.sMethod l) (Ms.gd Ms.sScheme l) (Ms.auth l) (Ms.gd Ms.sPath l) fv ⟨#[]⟩ (.slice none 0 0))) := he
        subst hee
        have HX5 := hid' (HX3.out.keep hb5)
        have HB5 : Hid (Below b w1 w5) := hid' (HB3.out.trans (hb5.mono (Nat.le_of_lt HX3.out.obj.lt)))
        clear HR he
        have HR := hid' (ar_bel HR1.out HB5.out HBB.out)
        obtain ⟨fo, fc, hfv⟩ := own_shape HX5.out.row
        subst hfv
        obtain ⟨fn, hfn⟩ : ∃ fn, (Ms.hof l).fs.length = fn := ⟨_, rfl⟩
        have HROW : Hid (w5.ownsRow b 28 2 (.slice fo fn fc) fn (fC (Ms.keep l))) := hid' (by have := HX5.out.row; rwa [hfn] at this)
        have HFN : Hid ((Ms.keep l).length = fn) := hid' hfn
        rw [hfn]
        clear hfn hb5 HX5 HX3 HXL HX
        obtain ⟨m, hm⟩ : ∃ m, Ms.gd Ms.sMethod l = m := ⟨_, rfl⟩
        obtain ⟨s, hs⟩ : ∃ s, Ms.gd Ms.sScheme l = s := ⟨_, rfl⟩
        obtain ⟨au, hau⟩ : ∃ au, Ms.auth l = au := ⟨_, rfl⟩
        obtain ⟨p, hp⟩ : ∃ p, Ms.gd Ms.sPath l = p := ⟨_, rfl⟩
        rw [hm, hs, hau, hp] at HRR ⊢
        unfold rqC
        clear hm hs hau hp
        go_wp2_with (refine wpl_store 42 _ _ rfl rfl rb (#[.string m, .string s, .string au, .string p, .slice fo fn fc, .string ⟨#[]⟩, .slice none 0 0]) (by kernel_rfl) (by kernel_rfl) _ _ HR.out sizeRq14 rfl (by simp [Value.oneCell']) ?_)
        intro w4 hA4 hU4
        have HB4 : Hid (Below w.heap.size w w4) := hid' ((HBW.out.trans (HB5.out.mono (by have := HRB.out; have := HBB.out; omega))).trans (hU4.below (by have := HRB.out; omega)))
        have HRW : Hid (w4.ownsRow w.heap.size 28 2 (.slice fo fn fc) fn (fC (Ms.keep l))) := hid' (own_base (own_same HROW.out (fun k hk => hU4.block k (by have := (own_ty HROW.out k hk).1; have := HBB.out; omega))) (by have := HBB.out; have := HRB.out; omega))
        have o0 := hA4.cell 0 _ rfl
        have o1 := hA4.cell 1 _ rfl
        have o2 := hA4.cell 2 _ rfl
        have o3 := hA4.cell 3 _ rfl
        have o4 := hA4.cell 4 _ rfl
        have o5 := hA4.cell 5 _ rfl
        have o6 := hA4.cell 6 _ rfl
        clear hU4 hA4
        go_wp2
        exact bodyPost_ret (v := .tuple #[rqV ⟨m, s, au, p, Ms.keep l⟩ (.slice fo fn fc), .int .i64 0]) (by simp [results, Tryd.results17, go_sem, rqV, rqC, o0, o1, o2, o3, o4, o5, o6]) rfl ⟨⟨_, ret_two14 (by rw [HRR.out]) HE.out.symm, by rw [HRR.out, HFN.out]; exact HRW.out⟩, HB4.out⟩

end Go.Proofs.YtcljepppdljnlabDoor
