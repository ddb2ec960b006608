/-
  The code's One: by its contract.
-/
import Derived.Test.YtbpdhcfmdkmoiaaGreatDoorPnAU
import Derived.Test.YtbpdhcfmdkmoiaaGreatDoorPnBC
namespace Go.Proofs.YtbpdhcfmdkmoiaaGreatDoor
open Go.RowKit

theorem Ms.head47_le (p : ByteArray) : (Ms.head47 p).size ≤ p.size + 1 := by
  unfold Ms.head47
  split
  · omega
  · have h1 : ((⟨#[47]⟩ : ByteArray) ++ p).size = 1 + p.size := by rw [ByteArray.size_append]; rfl
    omega
theorem Ms.abs_size (sch rest : ByteArray) : (Ms.absS sch rest).2.2.1.size ≤ rest.size + 1 := by
  unfold Ms.absS
  refine Nat.le_trans (Ms.head47_le _) ?_
  rw [ByteArray.size_extract]
  omega
theorem Ms.aimS_size (t host : ByteArray) : (Ms.aimS t host).2.2.1.size ≤ t.size + 1 := by
  have h8 : (t.extract 8 t.size).size ≤ t.size := by rw [ByteArray.size_extract]; omega
  have h7 : (t.extract 7 t.size).size ≤ t.size := by rw [ByteArray.size_extract]; omega
  unfold Ms.aimS
  generalize t.extract 8 t.size = r8 at *
  generalize t.extract 7 t.size = r7 at *
  split
  · exact Nat.le_trans (Ms.abs_size _ _) (by omega)
  · split
    · exact Nat.le_trans (Ms.abs_size _ _) (by omega)
    · simp only
      omega

set_option maxHeartbeats 8000000 in
set_option maxRecDepth 20000 in
theorem cone14 (m t : ByteArray) (v : Value) (l : List Fd) (w : World) (h : FW w v l) (hT : TB w) (hl : l.length ≤ 1048576) (hs : ∀ f ∈ l, f.n.size ≤ 1048576 ∧ f.v.size ≤ 1048576) (hm : m.size ≤ 140737488355328) (ht : t.size ≤ 1048576) :
    Calls Tryz.prog 54 #[.string m, .string t, v] w fun e w' => (∃ fv, e = .returned (.tuple #[rqV (Ms.oneR m t l) fv, .int .i64 (Ms.oneE m t l)]) ∧ w'.ownsRow w.heap.size 52 2 fv (Ms.oneR m t l).fs.length (fC (Ms.oneR m t l).fs)) ∧ Below w.heap.size w w' := by
  obtain ⟨tk, htk⟩ : ∃ tk, Tx.isTok (Ms.tx m) = tk := ⟨_, rfl⟩
  obtain ⟨snd, hsnd⟩ : ∃ snd, l.all Ms.sound = snd := ⟨_, rfl⟩
  obtain ⟨hh, hhh⟩ : ∃ hh, ((Ms.hosts l).length == 1) = hh := ⟨_, rfl⟩
  obtain ⟨host, hho⟩ : ∃ host, Ms.hostOf l = host := ⟨_, rfl⟩
  obtain ⟨sch, hsch⟩ : ∃ sch, (Ms.aimS t host).1 = sch := ⟨_, rfl⟩
  obtain ⟨au, hau⟩ : ∃ au, (Ms.aimS t host).2.1 = au := ⟨_, rfl⟩
  obtain ⟨pa, hpa⟩ : ∃ pa, (Ms.aimS t host).2.2.1 = pa := ⟨_, rfl⟩
  obtain ⟨ai, hai⟩ : ∃ ai, (Ms.aimS t host).2.2.2 = ai := ⟨_, rfl⟩
  obtain ⟨go, hgo⟩ : ∃ go, Ms.goes m pa = go := ⟨_, rfl⟩
  obtain ⟨o, ho⟩ : ∃ o, Ms.lenGo none l = o := ⟨_, rfl⟩
  have hs2 : ∀ f ∈ l, f.n.size ≤ 140737488355328 ∧ f.v.size ≤ 140737488355328 := fun f hf => ⟨by have := (hs f hf).1; omega, by have := (hs f hf).2; omega⟩
  have hpas : pa.size ≤ 140737488355328 := by rw [← hpa]; exact Nat.le_trans (Ms.aimS_size t host) (by omega)
  have HAIM : Hid (Ms.aim m t host = (sch, au, pa, ai && go)) := hid' (by rw [Ms.aim_S, hsch, hau, hpa, hai, hgo])
  have HTK : Hid (∀ W, Calls Tryz.prog 35 #[.string m] W fun e w' => e = .returned (.bool tk) ∧ w' = W) := hid' (fun W => by have := token_any m W (by unfold maxLen; omega); unfold Ms.tx at htk; rwa [htk] at this)
  have HON : Hid (∀ W, Below w.heap.size w W → Calls Tryz.prog 69 #[v] W fun e w' => e = .returned (.tuple #[.string host, .bool hh]) ∧ Below W.heap.size W w') := hid' (fun W hb => by have := conly14 v l W (h.keep hb) hl hs2; rwa [hho, hhh] at this)
  have HSN : Hid (∀ W, Below w.heap.size w W → Calls Tryz.prog 70 #[v] W fun e w' => e = .returned (.bool snd) ∧ Below W.heap.size W w') := hid' (fun W hb => csnds14 v l snd hsnd W (h.keep hb) hl hs2)
  have HAI : Hid (∀ W, Below w.heap.size w W → Calls Tryz.prog 71 #[.string t, .string host] W fun e w' => e = .returned (.tuple #[.agg #[.string ⟨#[]⟩, .string sch, .string au, .string pa, .slice none 0 0, .string ⟨#[]⟩, .slice none 0 0], .bool ai]) ∧ Below W.heap.size W w') := hid' (fun W hb => by have := caim14 t host W (hT.keep hb) ht; unfold aimV at this; rwa [hsch, hau, hpa, hai] at this)
  have HGO : Hid (∀ W, Calls Tryz.prog 72 #[.string m, .string pa] W fun e w' => e = .returned (.bool go) ∧ w' = W) := hid' (fun W => cpath14 m pa go hgo W hpas)
  have HLE : Hid (∀ W, Below w.heap.size w W → Calls Tryz.prog 67 #[v] W fun e w' => e = .returned (Ms.lenV o) ∧ Below W.heap.size W w') := hid' (fun W hb => clen14 v l o ho W (h.keep hb) (hT.keep hb) hl hs2)
  have HPA : Hid (∀ W, Below w.heap.size w W → Calls Tryz.prog 73 #[v] W fun e w' => (∃ m ro rc, e = .returned (.slice ro m rc) ∧ (Ms.pass l).length = m ∧ w'.ownsRow W.heap.size 52 2 (.slice ro m rc) m (fC (Ms.pass l))) ∧ Below W.heap.size W w') := hid' (fun W hb => cpass14 v l W (h.keep hb) (hT.keep hb) hl hs)
  have H1 := hid' (And.intro htk (And.intro hsnd (And.intro hhh (And.intro hho ho))))
  obtain ⟨ao, cap, hv⟩ := h.shape
  subst hv
  have hz := rq_zero w
  have hbz := bl_alloc w (.cells (rqC ⟨#[]⟩ ⟨#[]⟩ ⟨#[]⟩ ⟨#[]⟩ (.slice none 0 0) ⟨#[]⟩ (.slice none 0 0)) 47)
  unfold rqC at hz hbz
  clear h hT hs hs2 hm ht hl htk hsnd hhh hho hsch hau hpa hai hgo ho hpas
  go_enter Tryz.func54, Tryz.ntmps54
  go_wp2_with fail
  obtain ⟨rb, hrb⟩ : ∃ rb, w.heap.size = rb := ⟨_, rfl⟩
  have HRB := hid' hrb
  have HB0 := hid' hbz
  have HR0 := hid' (hrb ▸ hz)
  rw [hrb]
  clear hz hbz hrb
  generalize w.alloc (.cells #[.string ⟨#[]⟩, .string ⟨#[]⟩, .string ⟨#[]⟩, .string ⟨#[]⟩, .slice none 0 0, .string ⟨#[]⟩, .slice none 0 0] 47) = w0 at *
  refine (HTK.out _).mono ?_
  rintro e w1 ⟨rfl, hw1⟩
  subst w1
  cases tk
  · have HR := HR0
    have HB := HB0
    have HE : Hid (Ms.oneE m t l = 140) := hid' (by unfold Ms.oneE; rw [H1.out.1]; rfl)
    have HRR : Hid (Ms.oneR m t l = Ms.rq0) := hid' (by unfold Ms.oneR; rw [HE.out]; rfl)
    go_wp2_with (refine wpl_store 47 _ _ rfl rfl rb (#[.string ⟨#[]⟩, .string ⟨#[]⟩, .string ⟨#[]⟩, .string ⟨#[]⟩, .slice none 0 0, .string ⟨#[]⟩, .slice none 0 0]) (by kernel_rfl) (by kernel_rfl) _ _ HR.out sizeRq14 rfl (by simp [Value.oneCell']) ?_)
    intro w9 hA4 hU4
    have HB9 : Hid (Below w.heap.size w w9) := hid' (HB.out.trans (hU4.below (Nat.le_of_eq HRB.out)))
    have o0 := hA4.cell 0 _ rfl
    have o1 := hA4.cell 1 _ rfl
    have o2 := hA4.cell 2 _ rfl
    have o3 := hA4.cell 3 _ rfl
    have o4 := hA4.cell 4 _ rfl
    have o5 := hA4.cell 5 _ rfl
    have o6 := hA4.cell 6 _ rfl
    clear hU4 hA4
    go_wp2
    exact bodyPost_ret (v := .tuple #[rqV Ms.rq0 (.slice none 0 0), .int .i64 140]) (by simp [results, Tryz.results54, go_sem, rqV, rqC, Ms.rq0, Ms.e0, o0, o1, o2, o3, o4, o5, o6]) rfl ⟨⟨_, ret_two14 (by rw [HRR.out]) HE.out.symm, by rw [HRR.out]; exact World.ownsRow_nil _ _ _ _⟩, HB9.out⟩
  go_wp2_with fail
  refine (HON.out _ HB0.out).mono ?_
  rintro e w2 ⟨rfl, hb2⟩
  have HB2 := hid' (below_two HB0.out hb2)
  have HR2 := hid' (HR0.out.keep hb2)
  clear hb2 HB0 HR0
  cases hh
  · have HR := HR2
    have HB := HB2
    have HE : Hid (Ms.oneE m t l = 141) := hid' (by unfold Ms.oneE; rw [H1.out.1, H1.out.2.1, H1.out.2.2.1, Bool.and_false]; rfl)
    have HRR : Hid (Ms.oneR m t l = Ms.rq0) := hid' (by unfold Ms.oneR; rw [HE.out]; rfl)
    go_wp2_with (refine wpl_store 47 _ _ rfl rfl rb (#[.string ⟨#[]⟩, .string ⟨#[]⟩, .string ⟨#[]⟩, .string ⟨#[]⟩, .slice none 0 0, .string ⟨#[]⟩, .slice none 0 0]) (by kernel_rfl) (by kernel_rfl) _ _ HR.out sizeRq14 rfl (by simp [Value.oneCell']) ?_)
    intro w9 hA4 hU4
    have HB9 : Hid (Below w.heap.size w w9) := hid' (HB.out.trans (hU4.below (Nat.le_of_eq HRB.out)))
    have o0 := hA4.cell 0 _ rfl
    have o1 := hA4.cell 1 _ rfl
    have o2 := hA4.cell 2 _ rfl
    have o3 := hA4.cell 3 _ rfl
    have o4 := hA4.cell 4 _ rfl
    have o5 := hA4.cell 5 _ rfl
    have o6 := hA4.cell 6 _ rfl
    clear hU4 hA4
    go_wp2
    exact bodyPost_ret (v := .tuple #[rqV Ms.rq0 (.slice none 0 0), .int .i64 141]) (by simp [results, Tryz.results54, go_sem, rqV, rqC, Ms.rq0, Ms.e0, o0, o1, o2, o3, o4, o5, o6]) rfl ⟨⟨_, ret_two14 (by rw [HRR.out]) HE.out.symm, by rw [HRR.out]; exact World.ownsRow_nil _ _ _ _⟩, HB9.out⟩
  go_wp2_with fail
  refine (HSN.out _ HB2.out).mono ?_
  rintro e w3 ⟨rfl, hb3⟩
  have HB3 := hid' (below_two HB2.out hb3)
  have HR3 := hid' (HR2.out.keep hb3)
  clear hb3 HB2 HR2
  cases snd
  · have HR := HR3
    have HB := HB3
    have HE : Hid (Ms.oneE m t l = 141) := hid' (by unfold Ms.oneE; rw [H1.out.1, H1.out.2.1]; rfl)
    have HRR : Hid (Ms.oneR m t l = Ms.rq0) := hid' (by unfold Ms.oneR; rw [HE.out]; rfl)
    go_wp2_with (refine wpl_store 47 _ _ rfl rfl rb (#[.string ⟨#[]⟩, .string ⟨#[]⟩, .string ⟨#[]⟩, .string ⟨#[]⟩, .slice none 0 0, .string ⟨#[]⟩, .slice none 0 0]) (by kernel_rfl) (by kernel_rfl) _ _ HR.out sizeRq14 rfl (by simp [Value.oneCell']) ?_)
    intro w9 hA4 hU4
    have HB9 : Hid (Below w.heap.size w w9) := hid' (HB.out.trans (hU4.below (Nat.le_of_eq HRB.out)))
    have o0 := hA4.cell 0 _ rfl
    have o1 := hA4.cell 1 _ rfl
    have o2 := hA4.cell 2 _ rfl
    have o3 := hA4.cell 3 _ rfl
    have o4 := hA4.cell 4 _ rfl
    have o5 := hA4.cell 5 _ rfl
    have o6 := hA4.cell 6 _ rfl
    clear hU4 hA4
    go_wp2
    exact bodyPost_ret (v := .tuple #[rqV Ms.rq0 (.slice none 0 0), .int .i64 141]) (by simp [results, Tryz.results54, go_sem, rqV, rqC, Ms.rq0, Ms.e0, o0, o1, o2, o3, o4, o5, o6]) rfl ⟨⟨_, ret_two14 (by rw [HRR.out]) HE.out.symm, by rw [HRR.out]; exact World.ownsRow_nil _ _ _ _⟩, HB9.out⟩
  go_wp2_with fail
  refine (HAI.out _ HB3.out).mono ?_
  rintro e w4 ⟨rfl, hb4⟩
  have HB4' := hid' (below_two HB3.out hb4)
  have HR4' := hid' (HR3.out.keep hb4)
  clear hb4 HB3 HR3
  have hb5 := bl_alloc w4 (.cells #[.string ⟨#[]⟩, .string sch, .string au, .string pa, .slice none 0 0, .string ⟨#[]⟩, .slice none 0 0] 47)
  have hA5 := rq_cells w4 #[.string ⟨#[]⟩, .string sch, .string au, .string pa, .slice none 0 0, .string ⟨#[]⟩, .slice none 0 0] 47
  have HB := hid' (below_two HB4'.out hb5)
  have HR := hid' (HR4'.out.keep hb5)
  have HQB : Hid (rb < w4.heap.size) := hid' HR4'.out.lt
  cases ai
  · clear hb5 hA5
    go_upto_region 7 with fail
    generalize w4.alloc (.cells #[.string ⟨#[]⟩, .string sch, .string au, .string pa, .slice none 0 0, .string ⟨#[]⟩, .slice none 0 0] 47) = w5 at *
    have HE : Hid (Ms.oneE m t l = 140) := hid' (by unfold Ms.oneE; rw [H1.out.1, H1.out.2.1, H1.out.2.2.1, H1.out.2.2.2.1, HAIM.out]; rfl)
    have HRR : Hid (Ms.oneR m t l = Ms.rq0) := hid' (by unfold Ms.oneR; rw [HE.out]; rfl)
    go_wp2_with (refine wpl_store 47 _ _ rfl rfl rb (#[.string ⟨#[]⟩, .string ⟨#[]⟩, .string ⟨#[]⟩, .string ⟨#[]⟩, .slice none 0 0, .string ⟨#[]⟩, .slice none 0 0]) (by kernel_rfl) (by kernel_rfl) _ _ HR.out sizeRq14 rfl (by simp [Value.oneCell']) ?_)
    intro w9 hA4 hU4
    have HB9 : Hid (Below w.heap.size w w9) := hid' (HB.out.trans (hU4.below (Nat.le_of_eq HRB.out)))
    have o0 := hA4.cell 0 _ rfl
    have o1 := hA4.cell 1 _ rfl
    have o2 := hA4.cell 2 _ rfl
    have o3 := hA4.cell 3 _ rfl
    have o4 := hA4.cell 4 _ rfl
    have o5 := hA4.cell 5 _ rfl
    have o6 := hA4.cell 6 _ rfl
    clear hU4 hA4
    go_wp2
    exact bodyPost_ret (v := .tuple #[rqV Ms.rq0 (.slice none 0 0), .int .i64 140]) (by simp [results, Tryz.results54, go_sem, rqV, rqC, Ms.rq0, Ms.e0, o0, o1, o2, o3, o4, o5, o6]) rfl ⟨⟨_, ret_two14 (by rw [HRR.out]) HE.out.symm, by rw [HRR.out]; exact World.ownsRow_nil _ _ _ _⟩, HB9.out⟩
  go_upto_region 7 with fail
  obtain ⟨qb, hqb⟩ : ∃ qb, w4.heap.size = qb := ⟨_, rfl⟩
  rw [hqb] at hA5 HQB ⊢
  have HQ2 : Hid (w.heap.size ≤ qb) := hid' (by have := HRB.out; have := HQB.out; omega)
  have HA5 := hid' hA5
  clear hb5 hA5 hqb
  generalize w4.alloc (.cells #[.string ⟨#[]⟩, .string sch, .string au, .string pa, .slice none 0 0, .string ⟨#[]⟩, .slice none 0 0] 47) = w5 at *
  have a3 := HA5.out.cell 3 _ rfl
  go_wp2_with fail
  refine (HGO.out _).mono ?_
  rintro e w6 ⟨rfl, hw6⟩
  subst w6
  cases go
  · have HE : Hid (Ms.oneE m t l = 140) := hid' (by unfold Ms.oneE; rw [H1.out.1, H1.out.2.1, H1.out.2.2.1, H1.out.2.2.2.1, HAIM.out]; rfl)
    have HRR : Hid (Ms.oneR m t l = Ms.rq0) := hid' (by unfold Ms.oneR; rw [HE.out]; rfl)
    go_wp2_with (refine wpl_store 47 _ _ rfl rfl rb (#[.string ⟨#[]⟩, .string ⟨#[]⟩, .string ⟨#[]⟩, .string ⟨#[]⟩, .slice none 0 0, .string ⟨#[]⟩, .slice none 0 0]) (by kernel_rfl) (by kernel_rfl) _ _ HR.out sizeRq14 rfl (by simp [Value.oneCell']) ?_)
    intro w9 hA4 hU4
    have HB9 : Hid (Below w.heap.size w w9) := hid' (HB.out.trans (hU4.below (Nat.le_of_eq HRB.out)))
    have o0 := hA4.cell 0 _ rfl
    have o1 := hA4.cell 1 _ rfl
    have o2 := hA4.cell 2 _ rfl
    have o3 := hA4.cell 3 _ rfl
    have o4 := hA4.cell 4 _ rfl
    have o5 := hA4.cell 5 _ rfl
    have o6 := hA4.cell 6 _ rfl
    clear hU4 hA4
    go_wp2
    exact bodyPost_ret (v := .tuple #[rqV Ms.rq0 (.slice none 0 0), .int .i64 140]) (by simp [results, Tryz.results54, go_sem, rqV, rqC, Ms.rq0, Ms.e0, o0, o1, o2, o3, o4, o5, o6]) rfl ⟨⟨_, ret_two14 (by rw [HRR.out]) HE.out.symm, by rw [HRR.out]; exact World.ownsRow_nil _ _ _ _⟩, HB9.out⟩
  go_wp2_with fail
  refine (HLE.out _ HB.out).mono ?_
  rintro e w6 ⟨he, hb6⟩
  have HB6 := hid' (below_two HB.out hb6)
  have HR6 := hid' (HR.out.keep hb6)
  have HA6 := hid' (HA5.out.keep hb6)
  subst he
  clear hb6 HB HR HA5 a3
  cases hoo : o.isNone
  rotate_left
  · obtain rfl : o = none := by simpa using hoo
    simp only [Ms.lenV]
    have HR := HR6
    have HB := HB6
    have HE : Hid (Ms.oneE m t l = 142) := hid' (by unfold Ms.oneE; rw [H1.out.1, H1.out.2.1, H1.out.2.2.1, H1.out.2.2.2.1, HAIM.out, H1.out.2.2.2.2]; rfl)
    have HRR : Hid (Ms.oneR m t l = Ms.rq0) := hid' (by unfold Ms.oneR; rw [HE.out]; rfl)
    go_wp2_with (refine wpl_store 47 _ _ rfl rfl rb (#[.string ⟨#[]⟩, .string ⟨#[]⟩, .string ⟨#[]⟩, .string ⟨#[]⟩, .slice none 0 0, .string ⟨#[]⟩, .slice none 0 0]) (by kernel_rfl) (by kernel_rfl) _ _ HR.out sizeRq14 rfl (by simp [Value.oneCell']) ?_)
    intro w9 hA4 hU4
    have HB9 : Hid (Below w.heap.size w w9) := hid' (HB.out.trans (hU4.below (Nat.le_of_eq HRB.out)))
    have o0 := hA4.cell 0 _ rfl
    have o1 := hA4.cell 1 _ rfl
    have o2 := hA4.cell 2 _ rfl
    have o3 := hA4.cell 3 _ rfl
    have o4 := hA4.cell 4 _ rfl
    have o5 := hA4.cell 5 _ rfl
    have o6 := hA4.cell 6 _ rfl
    clear hU4 hA4
    go_wp2
    exact bodyPost_ret (v := .tuple #[rqV Ms.rq0 (.slice none 0 0), .int .i64 142]) (by simp [results, Tryz.results54, go_sem, rqV, rqC, Ms.rq0, Ms.e0, o0, o1, o2, o3, o4, o5, o6]) rfl ⟨⟨_, ret_two14 (by rw [HRR.out]) HE.out.symm, by rw [HRR.out]; exact World.ownsRow_nil _ _ _ _⟩, HB9.out⟩
  have HE : Hid (Ms.oneE m t l = 0) := hid' (by unfold Ms.oneE; rw [H1.out.1, H1.out.2.1, H1.out.2.2.1, H1.out.2.2.2.1, HAIM.out, H1.out.2.2.2.2, hoo]; rfl)
  have HRR : Hid (Ms.oneR m t l = ⟨m, sch, au, pa, Ms.pass l⟩) := hid' (by unfold Ms.oneR; rw [HE.out, H1.out.2.2.2.1, HAIM.out]; rfl)
  obtain ⟨ln, sd, hlv⟩ : ∃ (ln : Int) (sd : Bool), Ms.lenV o = .tuple #[.int .i64 ln, .bool sd, .int .i64 0] := by
    rcases o with _ | _ | x
    · cases hoo
    · exact ⟨_, _, rfl⟩
    · exact ⟨_, _, rfl⟩
  rw [hlv]
  have a0 := HA6.out.cell 0 _ rfl
  have f0 := HA6.out.free 0
  clear hlv hoo
  go_upto_region 13 with fail
  have hU7 := upd_setCell w6 qb 0 (.string m)
  have HA7 : Hid (Ar (w6.setCell ⟨qb, 0, none⟩ (.string m)) qb 47 #[.string m, .string sch, .string au, .string pa, .slice none 0 0, .string ⟨#[]⟩, .slice none 0 0]) := hid' (HA6.out.set 0 _)
  have HB7 : Hid (Below w.heap.size w (w6.setCell ⟨qb, 0, none⟩ (.string m))) := hid' (HB6.out.trans (hU7.below HQ2.out))
  have HR7 := hid' (ar_upd HR6.out hU7 (by have := HQB.out; omega))
  clear hU7 a0 f0 HB6 HR6 HA6
  generalize w6.setCell ⟨qb, 0, none⟩ (.string m) = w7 at *
  go_wp2_with fail
  refine (HPA.out _ HB7.out).mono ?_
  rintro e w8 ⟨⟨fn, ro, rc, rfl, hfn, hrow⟩, hb8⟩
  have HB8 := hid' (below_two HB7.out hb8)
  have HR8 := hid' (HR7.out.keep hb8)
  have HA8 := hid' (HA7.out.keep hb8)
  have HFN := hid' hfn
  have HROW := hid' hrow
  have HQL : Hid (qb < w7.heap.size) := hid' HA7.out.lt
  have a4 := HA8.out.cell 4 _ rfl
  have f4 := HA8.out.free 4
  clear hfn hrow hb8 HB7 HR7 HA7
  go_upto_region 14 with fail
  have hU8 := upd_setCell w8 qb 4 (.slice ro fn rc)
  have HA9 : Hid (Ar (w8.setCell ⟨qb, 4, none⟩ (.slice ro fn rc)) qb 47 #[.string m, .string sch, .string au, .string pa, .slice ro fn rc, .string ⟨#[]⟩, .slice none 0 0]) := hid' (HA8.out.set 4 _)
  have HB9' : Hid (Below w.heap.size w (w8.setCell ⟨qb, 4, none⟩ (.slice ro fn rc))) := hid' (HB8.out.trans (hU8.below HQ2.out))
  have HR := hid' (ar_upd HR8.out hU8 (by have := HQB.out; omega))
  have HRW := hid' (own_same HROW.out (fun k hk => hU8.block k (by have := (own_ty HROW.out k hk).1; have := HQL.out; omega)))
  clear hU8 a4 f4 HB8 HR8 HA8 HROW
  generalize w8.setCell ⟨qb, 4, none⟩ (.slice ro fn rc) = w10 at *
  have b0 := HA9.out.cell 0 _ rfl
  have b1 := HA9.out.cell 1 _ rfl
  have b2 := HA9.out.cell 2 _ rfl
  have b3 := HA9.out.cell 3 _ rfl
  have b4 := HA9.out.cell 4 _ rfl
  have b5 := HA9.out.cell 5 _ rfl
  have b6 := HA9.out.cell 6 _ rfl
  go_wp2_with (refine wpl_store 47 _ _ rfl rfl rb (#[.string m, .string sch, .string au, .string pa, .slice ro fn rc, .string ⟨#[]⟩, .slice none 0 0]) (by kernel_rfl) (by kernel_rfl) _ _ HR.out sizeRq14 rfl (by simp [Value.oneCell']) ?_)
  intro w9 hA4 hU4
  have HB9 : Hid (Below w.heap.size w w9) := hid' (HB9'.out.trans (hU4.below (Nat.le_of_eq HRB.out)))
  have HR9 : Hid (w9.ownsRow w.heap.size 52 2 (.slice ro fn rc) fn (fC (Ms.pass l))) := hid' (own_base (own_same HRW.out (fun k hk => hU4.block k (by have := (own_ty HRW.out k hk).1; have := HQL.out; have := HQB.out; omega))) (by have := HQL.out; have := HQ2.out; omega))
  have o0 := hA4.cell 0 _ rfl
  have o1 := hA4.cell 1 _ rfl
  have o2 := hA4.cell 2 _ rfl
  have o3 := hA4.cell 3 _ rfl
  have o4 := hA4.cell 4 _ rfl
  have o5 := hA4.cell 5 _ rfl
  have o6 := hA4.cell 6 _ rfl
  clear hU4 hA4
  go_wp2
  exact bodyPost_ret (v := .tuple #[rqV ⟨m, sch, au, pa, Ms.pass l⟩ (.slice ro fn rc), .int .i64 0]) (by simp [results, Tryz.results54, go_sem, rqV, rqC, o0, o1, o2, o3, o4, o5, o6]) rfl ⟨⟨_, ret_two14 (by rw [HRR.out]) HE.out.symm, by rw [HRR.out, HFN.out]; exact HR9.out⟩, HB9.out⟩

end Go.Proofs.YtbpdhcfmdkmoiaaGreatDoor
