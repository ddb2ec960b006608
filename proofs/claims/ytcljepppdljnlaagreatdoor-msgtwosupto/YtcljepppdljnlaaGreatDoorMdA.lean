/-
  The document's Two: by its contract.
-/
import Derived.Test.YtcljepppdljnlaaGreatDoorMcKM
import Derived.Test.YtcljepppdljnlaaGreatDoorMsDI
import Derived.Test.YtcljepppdljnlaaGreatDoorMsAC
namespace Go.Proofs.YtcljepppdljnlaaGreatDoor
open Go.RowKit

theorem Ms.keep_take {l : List Fd} {k : Nat} {p : Fd} (h : l[k]? = some p) : Ms.keep (l.take (k + 1)) = Ms.keep (l.take k) ++ (if Ms.keepB p then [p] else []) := by
  unfold Ms.keep
  rw [List.take_add_one, h]
  simp only [Option.toList_some, List.filter_append, List.filter_cons, List.filter_nil]
theorem Ms.keep_len (l : List Fd) (k : Nat) : (Ms.keep (l.take k)).length ≤ k := Nat.le_trans (List.length_filter_le _ _) (by rw [List.length_take]; omega)
def rqA (m s au p : ByteArray) (fv : Value) : Array Value := #[.string m, .string s, .string au, .string p, fv, .string ⟨#[]⟩, .slice none 0 0]
theorem rq_size (m s au p : ByteArray) (fv : Value) : (rqA m s au p fv).size = 7 := rfl

set_option maxHeartbeats 8000000 in
set_option maxRecDepth 20000 in
theorem rtwo14 (NM : ∀ (s : ByteArray) (w : World), s.size ≤ maxLen → Calls Tryz.prog 58 #[.string s] w fun e w' => e = .returned (.tuple #[.int .i64 (Tx.num 10 s.data.toList).1, .int .i64 (Tx.num 10 s.data.toList).2]) ∧ Below w.heap.size w w')
    (v : Value) (l : List Fd) (w : World) (h : FW w v l) (hl : l.length ≤ 1048576) (hs : ∀ f ∈ l, f.n.size ≤ 140737488355328 ∧ f.v.size ≤ 140737488355328) :
    Calls Tryz.prog 9 #[v] w fun e w' => (∃ fv, e = .returned (.tuple #[rqV (Ms.twoR l) fv, .int .i64 (Ms.twoE l)]) ∧ w'.ownsRow w.heap.size 50 2 fv (Ms.twoR l).fs.length (fC (Ms.twoR l).fs)) ∧ Below w.heap.size w w' := by
  have HNM := hid' NM
  obtain ⟨i0, hi0, hz0, hz1, hz2⟩ := minfo_parts infoF14
  have HI := hid' hi0
  have HZ0 := hid' hz0
  have HZ1 := hid' hz1
  have HZ2 := hid' hz2
  clear hi0 hz0 hz1 hz2
  obtain ⟨ao, cap, hv⟩ := h.shape
  subst hv
  obtain ⟨n, hn⟩ : ∃ n, l.length = n := ⟨_, rfl⟩
  rw [hn] at h ⊢
  obtain ⟨c0, hc0⟩ : ∃ c0, Ms.walk [] false l = c0 := ⟨_, rfl⟩
  have HN := hid' hn
  have HS := hid' hs
  have HC0 := hid' hc0
  have HL := hid' hl
  have hl2 : l.length ≤ 140737488355328 := by omega
  obtain ⟨m, hm⟩ : ∃ x, (Ms.fnd Ms.sMethod l).getD ⟨#[]⟩ = x := ⟨_, rfl⟩
  obtain ⟨mb, hmb⟩ : ∃ x, (Ms.fnd Ms.sMethod l).isSome = x := ⟨_, rfl⟩
  have HFM : Hid (∀ W, FW W (.slice ao n cap) l → Calls Tryz.prog 39 #[.slice ao n cap, .string ⟨#[58, 109, 101, 116, 104, 111, 100]⟩] W fun e w' => e = .returned (.tuple #[.string m, .bool mb]) ∧ w' = W) := hid' (fun W hW => by have := rfind14 (.slice ao n cap) l ⟨#[58, 109, 101, 116, 104, 111, 100]⟩ (Ms.fnd Ms.sMethod l) (by rw [Ms.tl_tx]; rfl) W hW hl2; unfold fndV at this; rwa [hm, hmb] at this)
  obtain ⟨s, hs'⟩ : ∃ x, (Ms.fnd Ms.sScheme l).getD ⟨#[]⟩ = x := ⟨_, rfl⟩
  obtain ⟨sb, hsb⟩ : ∃ x, (Ms.fnd Ms.sScheme l).isSome = x := ⟨_, rfl⟩
  have HFS : Hid (∀ W, FW W (.slice ao n cap) l → Calls Tryz.prog 39 #[.slice ao n cap, .string ⟨#[58, 115, 99, 104, 101, 109, 101]⟩] W fun e w' => e = .returned (.tuple #[.string s, .bool sb]) ∧ w' = W) := hid' (fun W hW => by have := rfind14 (.slice ao n cap) l ⟨#[58, 115, 99, 104, 101, 109, 101]⟩ (Ms.fnd Ms.sScheme l) (by rw [Ms.tl_tx]; rfl) W hW hl2; unfold fndV at this; rwa [hs', hsb] at this)
  obtain ⟨p, hp⟩ : ∃ x, (Ms.fnd Ms.sPath l).getD ⟨#[]⟩ = x := ⟨_, rfl⟩
  obtain ⟨pb, hpb⟩ : ∃ x, (Ms.fnd Ms.sPath l).isSome = x := ⟨_, rfl⟩
  have HFP : Hid (∀ W, FW W (.slice ao n cap) l → Calls Tryz.prog 39 #[.slice ao n cap, .string ⟨#[58, 112, 97, 116, 104]⟩] W fun e w' => e = .returned (.tuple #[.string p, .bool pb]) ∧ w' = W) := hid' (fun W hW => by have := rfind14 (.slice ao n cap) l ⟨#[58, 112, 97, 116, 104]⟩ (Ms.fnd Ms.sPath l) (by rw [Ms.tl_tx]; rfl) W hW hl2; unfold fndV at this; rwa [hp, hpb] at this)
  obtain ⟨a, ha⟩ : ∃ x, (Ms.fnd Ms.sAuth l).getD ⟨#[]⟩ = x := ⟨_, rfl⟩
  obtain ⟨ab, hab⟩ : ∃ x, (Ms.fnd Ms.sAuth l).isSome = x := ⟨_, rfl⟩
  have HFA : Hid (∀ W, FW W (.slice ao n cap) l → Calls Tryz.prog 39 #[.slice ao n cap, .string ⟨#[58, 97, 117, 116, 104, 111, 114, 105, 116, 121]⟩] W fun e w' => e = .returned (.tuple #[.string a, .bool ab]) ∧ w' = W) := hid' (fun W hW => by have := rfind14 (.slice ao n cap) l ⟨#[58, 97, 117, 116, 104, 111, 114, 105, 116, 121]⟩ (Ms.fnd Ms.sAuth l) (by rw [Ms.tl_tx]; rfl) W hW hl2; unfold fndV at this; rwa [ha, hab] at this)
  obtain ⟨ho, hho⟩ : ∃ x, (Ms.fnd Ms.sHost l).getD ⟨#[]⟩ = x := ⟨_, rfl⟩
  obtain ⟨hb, hhb⟩ : ∃ x, (Ms.fnd Ms.sHost l).isSome = x := ⟨_, rfl⟩
  have HFH : Hid (∀ W, FW W (.slice ao n cap) l → Calls Tryz.prog 39 #[.slice ao n cap, .string ⟨#[104, 111, 115, 116]⟩] W fun e w' => e = .returned (.tuple #[.string ho, .bool hb]) ∧ w' = W) := hid' (fun W hW => by have := rfind14 (.slice ao n cap) l ⟨#[104, 111, 115, 116]⟩ (Ms.fnd Ms.sHost l) (by rw [Ms.tl_tx]; rfl) W hW hl2; unfold fndV at this; rwa [hho, hhb] at this)
  obtain ⟨t1, h1⟩ : ∃ t1, Tx.isTok m.data.toList = t1 := ⟨_, rfl⟩
  obtain ⟨s1, hs1⟩ : ∃ s1, (s.toList == [104, 116, 116, 112]) = s1 := ⟨_, rfl⟩
  obtain ⟨s2, hs2⟩ : ∃ s2, (s.toList == [104, 116, 116, 112, 115]) = s2 := ⟨_, rfl⟩
  obtain ⟨t3, h3⟩ : ∃ t3, Ms.goes m p = t3 := ⟨_, rfl⟩
  have hli : Ms.lines m s p = (t1 && (s1 || s2) && t3) := by unfold Ms.lines Ms.tx; rw [h1, h3, ← hs1, ← hs2]; rfl
  have n1 : (s.toList != [104, 116, 116, 112]) = !s1 := by unfold bne; rw [hs1]
  have n2 : (s.toList != [104, 116, 116, 112, 115]) = !s2 := by unfold bne; rw [hs2]
  obtain ⟨q, hq⟩ : ∃ q, (a.toList == ho.toList) = q := ⟨_, rfl⟩
  have n3 : (a.toList != ho.toList) = !q := by unfold bne; rw [hq]
  have hms : m.size ≤ 140737488355328 := by rw [← hm]; exact fnd_size hs
  have hps : p.size ≤ 140737488355328 := by rw [← hp]; exact fnd_size hs
  have HTK : Hid (∀ W, Calls Tryz.prog 40 #[.string m] W fun e w' => e = .returned (.bool t1) ∧ w' = W) := hid' (fun W => by have := rToken_any m W (by unfold maxLen; omega); rwa [h1] at this)
  have HGO : Hid (∀ W, Calls Tryz.prog 41 #[.string m, .string p] W fun e w' => e = .returned (.bool t3) ∧ w' = W) := hid' (fun W => rgoes14 m p t3 h3 W hps)
  have HMB : Hid (mb = false → t1 = false) := hid' (fun e => by rw [e] at hmb; rw [Option.isSome_eq_false_iff, Option.isNone_iff_eq_none] at hmb; rw [hmb] at hm; subst hm; rw [← h1]; rfl)
  have HSB : Hid (sb = false → (s1 || s2) = false) := hid' (fun e => by rw [e] at hsb; rw [Option.isSome_eq_false_iff, Option.isNone_iff_eq_none] at hsb; rw [hsb] at hs'; subst hs'; rw [← hs1, ← hs2]; rw [Ms.tl_tx]; rfl)
  have HPB : Hid (pb = false → t3 = false) := hid' (fun e => by rw [e] at hpb; rw [Option.isSome_eq_false_iff, Option.isNone_iff_eq_none] at hpb; rw [hpb] at hp; subst hp; rw [← h3]; unfold Ms.goes; simp [Ms.tx])
  obtain ⟨o, hle⟩ : ∃ o, Ms.lenGo none l = o := ⟨_, rfl⟩
  have HLE : Hid (∀ W, FW W (.slice ao n cap) l → Calls Tryz.prog 18 #[.slice ao n cap] W fun e w' => e = .returned (Ms.lenV o) ∧ Below W.heap.size W w') := hid' (fun W hW => rlen14 HNM.out _ l o hle W hW hl hs)
  have HE0 : Hid (Ms.twoE l = if c0 == 0 then (if (t1 && (s1 || s2) && t3) then (if ab && hb && !q then 141 else if o.isNone then 142 else 0) else 140) else c0) := hid' (by
    unfold Ms.twoE Ms.clash Ms.gd Ms.e0
    rw [hc0, hm, hs', hp, ha, hho, hab, hhb, hli, hq, hle])
  have HAU : Hid (Ms.auth l = if ab then a else ho) := hid' (by unfold Ms.auth Ms.gd Ms.e0; rw [hab, ha, hho])
  have HMM : Hid (Ms.gd Ms.sMethod l = m) := hid' hm
  have HSS : Hid (Ms.gd Ms.sScheme l = s) := hid' hs'
  have HPP : Hid (Ms.gd Ms.sPath l = p) := hid' hp
  have hz := rq_zero w
  have hbz := bl_alloc w (.cells (rqC ⟨#[]⟩ ⟨#[]⟩ ⟨#[]⟩ ⟨#[]⟩ (.slice none 0 0) ⟨#[]⟩ (.slice none 0 0)) 25)
  unfold rqC at hz hbz
  have H := hid' h
  have HZ := hid' hz
  have HBZ := hid' hbz
  clear h hn hs hc0 hz hbz hm hs' hp ha hho hmb hsb hpb hab hhb h1 h3 hli hle hl2 hms hps NM
  have hn2 : n ≤ 1048576 := by have := HN.out; have := HL.out; omega
  clear hl
  go_enter Tryz.func9, Tryz.ntmps9
  go_upto_region 1 with fail
  obtain ⟨rb, hrb⟩ : ∃ rb, w.heap.size = rb := ⟨_, rfl⟩
  have HRB := hid' hrb
  rw [hrb] at HZ ⊢
  generalize w.alloc (.cells #[.string ⟨#[]⟩, .string ⟨#[]⟩, .string ⟨#[]⟩, .string ⟨#[]⟩, .slice none 0 0, .string ⟨#[]⟩, .slice none 0 0] 25) = w0 at *
  clear hrb
  go_wp2_with fail
  refine (rwalk14 _ l c0 HC0.out w0 (H.out.keep HBZ.out) HL.out HS.out).mono ?_
  rintro e w1 ⟨rfl, hb1⟩
  have HR1 := hid' (HZ.out.keep hb1)
  have HB1 := hid' (below_two HBZ.out hb1)
  have H1 := hid' (H.out.keep HB1.out)
  clear hb1 HZ HBZ
  cases e0 : (c0 == 0)
  · have e1 : (c0 != 0) = true := by unfold bne; rw [e0]; rfl
    have e2 : ¬ c0 = 0 := by intro e; rw [e] at e0; simp at e0
    have HE : Hid (Ms.twoE l = c0) := hid' (by rw [HE0.out, e0]; rfl)
    have HRR : Hid (Ms.twoR l = Ms.rq0) := hid' (by unfold Ms.twoR; rw [HE.out, e0]; rfl)
    go_wp2_with (refine wpl_store 25 _ _ rfl rfl rb (#[.string ⟨#[]⟩, .string ⟨#[]⟩, .string ⟨#[]⟩, .string ⟨#[]⟩, .slice none 0 0, .string ⟨#[]⟩, .slice none 0 0]) (by kernel_rfl) (by kernel_rfl) _ _ HR1.out sizeRq14 rfl (by simp [Value.oneCell']) ?_)
    intro w4 hA4 hU4
    have HB4 : Hid (Below w.heap.size w w4) := hid' (HB1.out.trans (hU4.below (by have := HRB.out; omega)))
    have o0 := hA4.cell 0 _ rfl
    have o1 := hA4.cell 1 _ rfl
    have o2 := hA4.cell 2 _ rfl
    have o3 := hA4.cell 3 _ rfl
    have o4 := hA4.cell 4 _ rfl
    have o5 := hA4.cell 5 _ rfl
    have o6 := hA4.cell 6 _ rfl
    clear hU4 hA4
    go_wp2
    exact bodyPost_ret (v := .tuple #[rqV Ms.rq0 (.slice none 0 0), .int .i64 c0]) (by simp [results, Tryz.results9, go_sem, rqV, rqC, Ms.rq0, Ms.e0, o0, o1, o2, o3, o4, o5, o6]) rfl ⟨⟨_, ret_two14 (by rw [HRR.out]) HE.out.symm, by rw [HRR.out]; exact World.ownsRow_nil _ _ _ _⟩, HB4.out⟩
  obtain rfl : c0 = 0 := beq_iff_eq.1 e0
  have HE0 : Hid (Ms.twoE l = if (t1 && (s1 || s2) && t3) then (if ab && hb && !q then 141 else if o.isNone then 142 else 0) else 140) := HE0
  clear e0
  go_wp2_with fail
  refine (HFM.out _ H1.out).mono ?_
  rintro e w' ⟨rfl, hw⟩
  subst w'
  go_wp2_with fail
  refine (HFS.out _ H1.out).mono ?_
  rintro e w' ⟨rfl, hw⟩
  subst w'
  go_wp2_with fail
  refine (HFP.out _ H1.out).mono ?_
  rintro e w' ⟨rfl, hw⟩
  subst w'
  cases mb
  · have hno := HMB.out rfl
    have HE : Hid (Ms.twoE l = 140) := hid' (HE0.out.trans (by simp [hno]))
    clear hno
    have HRR : Hid (Ms.twoR l = Ms.rq0) := hid' (by unfold Ms.twoR; rw [HE.out]; rfl)
    go_wp2_with (refine wpl_store 25 _ _ rfl rfl rb (#[.string ⟨#[]⟩, .string ⟨#[]⟩, .string ⟨#[]⟩, .string ⟨#[]⟩, .slice none 0 0, .string ⟨#[]⟩, .slice none 0 0]) (by kernel_rfl) (by kernel_rfl) _ _ HR1.out sizeRq14 rfl (by simp [Value.oneCell']) ?_)
    intro w4 hA4 hU4
    have HB4 : Hid (Below w.heap.size w w4) := hid' (HB1.out.trans (hU4.below (by have := HRB.out; omega)))
    have o0 := hA4.cell 0 _ rfl
    have o1 := hA4.cell 1 _ rfl
    have o2 := hA4.cell 2 _ rfl
    have o3 := hA4.cell 3 _ rfl
    have o4 := hA4.cell 4 _ rfl
    have o5 := hA4.cell 5 _ rfl
    have o6 := hA4.cell 6 _ rfl
    clear hU4 hA4
    go_wp2
    exact bodyPost_ret (v := .tuple #[rqV Ms.rq0 (.slice none 0 0), .int .i64 140]) (by simp [results, Tryz.results9, go_sem, rqV, rqC, Ms.rq0, Ms.e0, o0, o1, o2, o3, o4, o5, o6]) rfl ⟨⟨_, ret_two14 (by rw [HRR.out]) HE.out.symm, by rw [HRR.out]; exact World.ownsRow_nil _ _ _ _⟩, HB4.out⟩
  cases sb
  · have hno := HSB.out rfl
    have HE : Hid (Ms.twoE l = 140) := hid' (HE0.out.trans (by simp [hno]))
    clear hno
    have HRR : Hid (Ms.twoR l = Ms.rq0) := hid' (by unfold Ms.twoR; rw [HE.out]; rfl)
    go_wp2_with (refine wpl_store 25 _ _ rfl rfl rb (#[.string ⟨#[]⟩, .string ⟨#[]⟩, .string ⟨#[]⟩, .string ⟨#[]⟩, .slice none 0 0, .string ⟨#[]⟩, .slice none 0 0]) (by kernel_rfl) (by kernel_rfl) _ _ HR1.out sizeRq14 rfl (by simp [Value.oneCell']) ?_)
    intro w4 hA4 hU4
    have HB4 : Hid (Below w.heap.size w w4) := hid' (HB1.out.trans (hU4.below (by have := HRB.out; omega)))
    have o0 := hA4.cell 0 _ rfl
    have o1 := hA4.cell 1 _ rfl
    have o2 := hA4.cell 2 _ rfl
    have o3 := hA4.cell 3 _ rfl
    have o4 := hA4.cell 4 _ rfl
    have o5 := hA4.cell 5 _ rfl
    have o6 := hA4.cell 6 _ rfl
    clear hU4 hA4
    go_wp2
    exact bodyPost_ret (v := .tuple #[rqV Ms.rq0 (.slice none 0 0), .int .i64 140]) (by simp [results, Tryz.results9, go_sem, rqV, rqC, Ms.rq0, Ms.e0, o0, o1, o2, o3, o4, o5, o6]) rfl ⟨⟨_, ret_two14 (by rw [HRR.out]) HE.out.symm, by rw [HRR.out]; exact World.ownsRow_nil _ _ _ _⟩, HB4.out⟩
  cases pb
  · have hno := HPB.out rfl
    have HE : Hid (Ms.twoE l = 140) := hid' (HE0.out.trans (by simp [hno]))
    clear hno
    have HRR : Hid (Ms.twoR l = Ms.rq0) := hid' (by unfold Ms.twoR; rw [HE.out]; rfl)
    go_wp2_with (refine wpl_store 25 _ _ rfl rfl rb (#[.string ⟨#[]⟩, .string ⟨#[]⟩, .string ⟨#[]⟩, .string ⟨#[]⟩, .slice none 0 0, .string ⟨#[]⟩, .slice none 0 0]) (by kernel_rfl) (by kernel_rfl) _ _ HR1.out sizeRq14 rfl (by simp [Value.oneCell']) ?_)
    intro w4 hA4 hU4
    have HB4 : Hid (Below w.heap.size w w4) := hid' (HB1.out.trans (hU4.below (by have := HRB.out; omega)))
    have o0 := hA4.cell 0 _ rfl
    have o1 := hA4.cell 1 _ rfl
    have o2 := hA4.cell 2 _ rfl
    have o3 := hA4.cell 3 _ rfl
    have o4 := hA4.cell 4 _ rfl
    have o5 := hA4.cell 5 _ rfl
    have o6 := hA4.cell 6 _ rfl
    clear hU4 hA4
    go_wp2
    exact bodyPost_ret (v := .tuple #[rqV Ms.rq0 (.slice none 0 0), .int .i64 140]) (by simp [results, Tryz.results9, go_sem, rqV, rqC, Ms.rq0, Ms.e0, o0, o1, o2, o3, o4, o5, o6]) rfl ⟨⟨_, ret_two14 (by rw [HRR.out]) HE.out.symm, by rw [HRR.out]; exact World.ownsRow_nil _ _ _ _⟩, HB4.out⟩
  go_wp2_with fail
  refine (HTK.out _).mono ?_
  rintro e w' ⟨rfl, hw⟩
  subst w'
  cases t1
  · have HE : Hid (Ms.twoE l = 140) := hid' (HE0.out.trans (by simp))
    have HRR : Hid (Ms.twoR l = Ms.rq0) := hid' (by unfold Ms.twoR; rw [HE.out]; rfl)
    go_wp2_with (refine wpl_store 25 _ _ rfl rfl rb (#[.string ⟨#[]⟩, .string ⟨#[]⟩, .string ⟨#[]⟩, .string ⟨#[]⟩, .slice none 0 0, .string ⟨#[]⟩, .slice none 0 0]) (by kernel_rfl) (by kernel_rfl) _ _ HR1.out sizeRq14 rfl (by simp [Value.oneCell']) ?_)
    intro w4 hA4 hU4
    have HB4 : Hid (Below w.heap.size w w4) := hid' (HB1.out.trans (hU4.below (by have := HRB.out; omega)))
    have o0 := hA4.cell 0 _ rfl
    have o1 := hA4.cell 1 _ rfl
    have o2 := hA4.cell 2 _ rfl
    have o3 := hA4.cell 3 _ rfl
    have o4 := hA4.cell 4 _ rfl
    have o5 := hA4.cell 5 _ rfl
    have o6 := hA4.cell 6 _ rfl
    clear hU4 hA4
    go_wp2
    exact bodyPost_ret (v := .tuple #[rqV Ms.rq0 (.slice none 0 0), .int .i64 140]) (by simp [results, Tryz.results9, go_sem, rqV, rqC, Ms.rq0, Ms.e0, o0, o1, o2, o3, o4, o5, o6]) rfl ⟨⟨_, ret_two14 (by rw [HRR.out]) HE.out.symm, by rw [HRR.out]; exact World.ownsRow_nil _ _ _ _⟩, HB4.out⟩
  have hsch : (s1 = true) ∨ (s1 = false ∧ s2 = true) ∨ (s1 = false ∧ s2 = false) := by cases s1 <;> cases s2 <;> simp
  rcases hsch with rfl | ⟨rfl, rfl⟩ | ⟨rfl, rfl⟩
  rotate_right
  · have HE : Hid (Ms.twoE l = 140) := hid' (HE0.out.trans (by simp))
    have HRR : Hid (Ms.twoR l = Ms.rq0) := hid' (by unfold Ms.twoR; rw [HE.out]; rfl)
    go_wp2_with (refine wpl_store 25 _ _ rfl rfl rb (#[.string ⟨#[]⟩, .string ⟨#[]⟩, .string ⟨#[]⟩, .string ⟨#[]⟩, .slice none 0 0, .string ⟨#[]⟩, .slice none 0 0]) (by kernel_rfl) (by kernel_rfl) _ _ HR1.out sizeRq14 rfl (by simp [Value.oneCell']) ?_)
    intro w4 hA4 hU4
    have HB4 : Hid (Below w.heap.size w w4) := hid' (HB1.out.trans (hU4.below (by have := HRB.out; omega)))
    have o0 := hA4.cell 0 _ rfl
    have o1 := hA4.cell 1 _ rfl
    have o2 := hA4.cell 2 _ rfl
    have o3 := hA4.cell 3 _ rfl
    have o4 := hA4.cell 4 _ rfl
    have o5 := hA4.cell 5 _ rfl
    have o6 := hA4.cell 6 _ rfl
    clear hU4 hA4
    go_wp2
    exact bodyPost_ret (v := .tuple #[rqV Ms.rq0 (.slice none 0 0), .int .i64 140]) (by simp [results, Tryz.results9, go_sem, rqV, rqC, Ms.rq0, Ms.e0, o0, o1, o2, o3, o4, o5, o6]) rfl ⟨⟨_, ret_two14 (by rw [HRR.out]) HE.out.symm, by rw [HRR.out]; exact World.ownsRow_nil _ _ _ _⟩, HB4.out⟩
  · go_wp2_with fail
    refine (HGO.out _).mono ?_
    rintro e w' ⟨rfl, hw⟩
    subst w'
    cases t3
    · have HE : Hid (Ms.twoE l = 140) := hid' (HE0.out.trans (by simp))
      have HRR : Hid (Ms.twoR l = Ms.rq0) := hid' (by unfold Ms.twoR; rw [HE.out]; rfl)
      go_wp2_with (refine wpl_store 25 _ _ rfl rfl rb (#[.string ⟨#[]⟩, .string ⟨#[]⟩, .string ⟨#[]⟩, .string ⟨#[]⟩, .slice none 0 0, .string ⟨#[]⟩, .slice none 0 0]) (by kernel_rfl) (by kernel_rfl) _ _ HR1.out sizeRq14 rfl (by simp [Value.oneCell']) ?_)
      intro w4 hA4 hU4
      have HB4 : Hid (Below w.heap.size w w4) := hid' (HB1.out.trans (hU4.below (by have := HRB.out; omega)))
      have o0 := hA4.cell 0 _ rfl
      have o1 := hA4.cell 1 _ rfl
      have o2 := hA4.cell 2 _ rfl
      have o3 := hA4.cell 3 _ rfl
      have o4 := hA4.cell 4 _ rfl
      have o5 := hA4.cell 5 _ rfl
      have o6 := hA4.cell 6 _ rfl
      clear hU4 hA4
      go_wp2
      exact bodyPost_ret (v := .tuple #[rqV Ms.rq0 (.slice none 0 0), .int .i64 140]) (by simp [results, Tryz.results9, go_sem, rqV, rqC, Ms.rq0, Ms.e0, o0, o1, o2, o3, o4, o5, o6]) rfl ⟨⟨_, ret_two14 (by rw [HRR.out]) HE.out.symm, by rw [HRR.out]; exact World.ownsRow_nil _ _ _ _⟩, HB4.out⟩
    go_wp2_with fail
    refine (HFA.out _ H1.out).mono ?_
    rintro e w' ⟨rfl, hw⟩
    subst w'
    go_wp2_with fail
    refine (HFH.out _ H1.out).mono ?_
    rintro e w' ⟨rfl, hw⟩
    subst w'
    have HE1 : Hid (Ms.twoE l = if ab && hb && !q then 141 else if o.isNone then 142 else 0) := hid' (HE0.out.trans (by simp))
    clear HE0
    have hways : ab = false ∨ (ab = true ∧ hb = false) ∨ (ab = true ∧ hb = true ∧ q = true) ∨ (ab = true ∧ hb = true ∧ q = false) := by cases ab <;> cases hb <;> cases q <;> simp
    rcases hways with rfl | ⟨rfl, rfl⟩ | ⟨rfl, rfl, rfl⟩ | ⟨rfl, rfl, rfl⟩
    rotate_right
    · have HE : Hid (Ms.twoE l = 141) := hid' (HE1.out.trans (by simp))
      have HRR : Hid (Ms.twoR l = Ms.rq0) := hid' (by unfold Ms.twoR; rw [HE.out]; rfl)
      go_wp2_with (refine wpl_store 25 _ _ rfl rfl rb (#[.string ⟨#[]⟩, .string ⟨#[]⟩, .string ⟨#[]⟩, .string ⟨#[]⟩, .slice none 0 0, .string ⟨#[]⟩, .slice none 0 0]) (by kernel_rfl) (by kernel_rfl) _ _ HR1.out sizeRq14 rfl (by simp [Value.oneCell']) ?_)
      intro w4 hA4 hU4
      have HB4 : Hid (Below w.heap.size w w4) := hid' (HB1.out.trans (hU4.below (by have := HRB.out; omega)))
      have o0 := hA4.cell 0 _ rfl
      have o1 := hA4.cell 1 _ rfl
      have o2 := hA4.cell 2 _ rfl
      have o3 := hA4.cell 3 _ rfl
      have o4 := hA4.cell 4 _ rfl
      have o5 := hA4.cell 5 _ rfl
      have o6 := hA4.cell 6 _ rfl
      clear hU4 hA4
      go_wp2
      exact bodyPost_ret (v := .tuple #[rqV Ms.rq0 (.slice none 0 0), .int .i64 141]) (by simp [results, Tryz.results9, go_sem, rqV, rqC, Ms.rq0, Ms.e0, o0, o1, o2, o3, o4, o5, o6]) rfl ⟨⟨_, ret_two14 (by rw [HRR.out]) HE.out.symm, by rw [HRR.out]; exact World.ownsRow_nil _ _ _ _⟩, HB4.out⟩
    · have HAV : Hid (Ms.auth l = ho) := hid' (HAU.out.trans (by simp))
      have HE2 : Hid (Ms.twoE l = if o.isNone then 142 else 0) := hid' (HE1.out.trans (by simp))
      clear HE1
      have hz1 := rq_zero w1
      have hbz1 := bl_alloc w1 (.cells (rqC ⟨#[]⟩ ⟨#[]⟩ ⟨#[]⟩ ⟨#[]⟩ (.slice none 0 0) ⟨#[]⟩ (.slice none 0 0)) 25)
      unfold rqC at hz1 hbz1
      have HZ1' := hid' hz1
      have HBZ1 := hid' hbz1
      clear hz1 hbz1
      go_wp2_with (refine wpl_store 25 _ _ rfl rfl w1.heap.size (#[.string m, .string s, .string ho, .string p, .slice none 0 0, .string ⟨#[]⟩, .slice none 0 0]) (by kernel_rfl) (by kernel_rfl) _ _ HZ1'.out sizeRq14 rfl (by simp [Value.oneCell']) ?_)
      intro w2 hA2 hU2
      have HB2 : Hid (Below w1.heap.size w1 w2) := hid' (HBZ1.out.trans (hU2.below (Nat.le_refl _)))
      have HRQ : Hid (rb < w1.heap.size) := hid' HR1.out.lt
      obtain ⟨qb, hqb⟩ : ∃ qb, w1.heap.size = qb := ⟨_, rfl⟩
      have HQB := hid' hqb
      rw [hqb] at hA2 HB2 HRQ ⊢
      have HA2 : Hid (Ar w2 qb 25 (rqA m s ho p (.slice none 0 0))) := hid' hA2
      have HWQ : Hid (w.heap.size ≤ qb) := hid' (by have := HRB.out; have := HRQ.out; omega)
      clear hA2 hU2 HZ1' HBZ1 hqb
      go_wp2
      go_loopw [16, 17] (fun s16 _ wr => ∃ (k c : Nat) (fo : Option Addr) (fc : Nat), s16 = .int .i64 (k : Int) ∧ k ≤ n ∧ c ≤ k ∧ Hid ((Ms.keep (l.take k)).length = c) ∧ Hid (Ar wr qb 25 (rqA m s ho p (.slice fo c fc))) ∧ Hid (wr.ownsRow qb 50 2 (.slice fo c fc) c (fC (Ms.keep (l.take k)))) ∧ Hid (Below qb w1 wr)) (fun s16 _ _ => n - (intOf s16).toNat)
      case atStart => exact ⟨0, 0, none, 0, rfl, Nat.zero_le _, Nat.le_refl _, hid' rfl, HA2, hid' (World.ownsRow_nil _ _ _ _), HB2⟩
      case round =>
        obtain ⟨k, c, fo, fc, rfl, hk, hck, HCN, HA, HO, HB⟩ := hrel
        have HBW : Hid (Below w.heap.size w wr) := hid' (HB1.out.trans (HB.out.mono HWQ.out))
        by_cases hlt : k < n
        · have hlt2 : (k : Int) < (n : Int) := by omega
          obtain ⟨f, hf⟩ : ∃ f, l[k]? = some f := ⟨_, List.getElem?_eq_getElem (by rw [HN.out]; exact hlt)⟩
          obtain ⟨ad, hao, y0, y1⟩ := (H.out.keep HBW.out).two k f hf
          subst hao
          have HKT := hid' (Ms.keep_take hf)
          have HPS := hid' (HS.out f (List.mem_of_getElem? hf))
          obtain ⟨ps, hps⟩ : ∃ ps, Ms.psd f.n = ps := ⟨_, rfl⟩
          have HPD := hid' hps
          clear hf hps
          go_wp2_with fail
          refine (rpsd14 f.n ps HPD.out wr HPS.out.1).mono ?_
          rintro e w' ⟨rfl, hw⟩
          subst w'
          have hskip : Ms.keepB f = false → Hid ((Ms.keep (l.take (k + 1))).length = c) ∧ Hid (wr.ownsRow qb 50 2 (.slice fo c fc) c (fC (Ms.keep (l.take (k + 1))))) := fun e => by
            have hh := HKT.out
            rw [e, if_neg (by simp), List.append_nil] at hh
            exact ⟨hid' (by rw [hh]; exact HCN.out), hid' (by rw [hh]; exact HO.out)⟩
          have HSK := hid' hskip
          clear hskip
          cases ps
          · cases c1 : (f.n.toList == [104, 111, 115, 116])
            · have d1 : (f.n.toList != [104, 111, 115, 116]) = true := by unfold bne; rw [c1]; rfl
              cases c2 : (f.n.toList == [116, 101])
              · have d2 : (f.n.toList != [116, 101]) = true := by unfold bne; rw [c2]; rfl
                have hkb : Ms.keepB f = true := by unfold Ms.keepB; rw [HPD.out, c1, c2]; rfl
                have HKF : Hid (Ms.keep (l.take (k + 1)) = Ms.keep (l.take k) ++ [f]) := hid' (by have hh := HKT.out; rwa [hkb, if_pos rfl] at hh)
                obtain ⟨xs, hxs⟩ : ∃ xs, fC (Ms.keep (l.take k)) = xs := ⟨_, rfl⟩
                have HXS := hid' hxs
                rw [hxs] at HO
                clear hkb hxs HSK HKT
                have g4 : wr.cell? ⟨qb, 4, none⟩ = some (.slice fo c fc) := HA.out.cell 4 _ rfl
                have f4 := HA.out.free 4
                have HOB : Hid (∀ j, (Value.slice fo c fc).ownBlock = some j → j ≠ qb) := hid' (own_apart HO.out HA.out (by decide))
                have HQW : Hid (qb ≤ wr.heap.size) := hid' (Nat.le_of_lt HA.out.lt)
                obtain ⟨w00, hw00⟩ : ∃ w00, w00 = (wr.alloc (.cells #[.string f.n, .string f.v] 50)).drew := ⟨_, rfl⟩
                have hb00 : Below wr.heap.size wr w00 := by rw [hw00]; exact ((Below.refl _ _).alloc (Nat.le_refl _) _).drew
                have HW00 := hid' hw00
                have HO00 := hid' (HA.out.keep hb00)
                have HR00 : Hid (w00.ownsRow qb 50 2 (.slice fo c fc) c xs) := hid' (own_same HO.out (fun j hj => hb00.block j (own_lt HO.out j hj)))
                have HNW : Hid (∀ j u, [Value.string f.n, .string f.v][j]? = some u → w00.cell? ((⟨wr.heap.size, 0, none⟩ : Addr).add j) = some u) := hid' (by
                  intro j u hj
                  have hA : Ar w00 wr.heap.size 50 #[.string f.n, .string f.v] := by rw [hw00]; exact heap_alloc_last wr _
                  rw [Addr.add_mid, Nat.zero_add]
                  exact hA.cell j u (by simpa using hj))
                have HSZ : Hid (qb ≤ w00.heap.size) := hid' (Nat.le_trans HQW.out hb00.size)
                have HB00 : Hid (Below qb w1 w00) := hid' (HB.out.trans (hb00.mono HQW.out))
                rw [hw00] at HR00 HNW HSZ
                have g4' : (wr.alloc (.cells #[.string f.n, .string f.v] 50)).cell? ⟨qb, 4, none⟩ = some (.slice fo c fc) := ((bl_alloc wr _).cell (cell_lt g4)).trans g4
                clear hb00 hw00
                go_wp2
                go_region_law (refine step_app14 (by rfl) _ _ 22 (by rfl) qb 50 i0 (.agg #[.string ⟨#[]⟩, .string ⟨#[]⟩]) 2 32 Tryz.underlying22 HI.out HZ0.out HZ1.out HZ2.out (by rfl) (by decide) (.slice fo c fc) c xs (by rfl) HR00.out ⟨wr.heap.size, 0, none⟩ 1 1 [.string f.n, .string f.v] (by rfl) (by rfl) HNW.out (by simp [Value.oneCell']) (by unfold maxLen; omega) (by omega) HSZ.out ?_; intro v2 w3 hrow hgrow _; obtain ⟨v2o, v2c, hv2⟩ := own_shape hrow; subst hv2; have hO2 := ar_grown (HW00.out ▸ HO00.out) hgrow HOB.out; have c11 := hO2.cell 4 _ rfl; have e11 := hO2.free 4)
                all_goals
                  have HB2 : Hid (Below qb w1 w3) := hid' ((HW00.out ▸ HB00.out).grown hgrow HSZ.out (fun j hj => (own_ty HR00.out j hj).1))
                  have HO2 := hid' hO2
                  have HR2 := hid' hrow
                  clear hO2 hrow hgrow
                  go_wp2
                  go_roundw
                  case rel =>
                    have h2 : w3.ownsRow qb 50 2 (.slice v2o (c + 1) v2c) (c + 1) (fC (Ms.keep (l.take (k + 1)))) := by
                      rw [HKF.out, fC_append, HXS.out]
                      exact HR2.out
                    refine ⟨k + 1, c + 1, v2o, v2c, by go_num, by omega, by omega, hid' (by rw [HKF.out, List.length_append, HCN.out]; rfl), hid' ?_, hid' (own_same h2 (fun j hj => (upd_setCell w3 qb 4 _).block j (own_apart h2 HO2.out (by decide) j hj))), hid' (HB2.out.setCell (Nat.le_refl _) _)⟩
                    have h1 := HO2.out.set 4 (.slice v2o (c + 1) v2c)
                    exact h1
                  case measure => simp [intOf]; omega
              · have d2 : (f.n.toList != [116, 101]) = false := by unfold bne; rw [c2]; rfl
                obtain ⟨s1', s2'⟩ := HSK.out (by unfold Ms.keepB; rw [HPD.out, c1, c2]; rfl)
                go_wp2
                go_roundw
                case rel => exact ⟨k + 1, c, fo, fc, by go_num, by omega, by omega, s1', HA, s2', HB⟩
                case measure => simp [intOf]; omega
            · have d1 : (f.n.toList != [104, 111, 115, 116]) = false := by unfold bne; rw [c1]; rfl
              obtain ⟨s1', s2'⟩ := HSK.out (by unfold Ms.keepB; rw [HPD.out, c1]; rfl)
              go_wp2
              go_roundw
              case rel => exact ⟨k + 1, c, fo, fc, by go_num, by omega, by omega, s1', HA, s2', HB⟩
              case measure => simp [intOf]; omega
          · obtain ⟨s1', s2'⟩ := HSK.out (by unfold Ms.keepB; rw [HPD.out]; rfl)
            go_wp2
            go_roundw
            case rel => exact ⟨k + 1, c, fo, fc, by go_num, by omega, by omega, s1', HA, s2', HB⟩
            case measure => simp [intOf]; omega
        · obtain rfl : k = n := by omega
          have hlt2 : ¬ (k : Int) < (k : Int) := by omega
          have HTK' : Hid (l.take k = l) := hid' (List.take_of_length_le (by rw [HN.out]; exact Nat.le_refl _))
          rw [HTK'.out] at HCN HO
          clear hlt
          go_wp2_with fail
          refine (HLE.out wr (H.out.keep HBW.out)).mono ?_
          rintro e w5 ⟨he, hb5⟩
          have HB5 := hid' (below_two HBW.out hb5)
          have HA5 := hid' (HA.out.keep hb5)
          have HO5 := hid' (own_same HO.out (fun j hj => hb5.block j (own_lt HO.out j hj)))
          have HR5 := hid' ((ar_bel HR1.out HB.out HRQ.out).keep hb5)
          subst he
          clear hb5 HA HO HB
          rcases o with _ | o'
          · have HE : Hid (Ms.twoE l = 142) := hid' (HE2.out.trans (by simp))
            simp only [Ms.lenV]
            have HRR : Hid (Ms.twoR l = Ms.rq0) := hid' (by unfold Ms.twoR; rw [HE.out]; rfl)
            go_wp2_with (refine wpl_store 25 _ _ rfl rfl rb (#[.string ⟨#[]⟩, .string ⟨#[]⟩, .string ⟨#[]⟩, .string ⟨#[]⟩, .slice none 0 0, .string ⟨#[]⟩, .slice none 0 0]) (by kernel_rfl) (by kernel_rfl) _ _ HR5.out sizeRq14 rfl (by simp [Value.oneCell']) ?_)
            intro w4 hA4 hU4
            have HB4 : Hid (Below w.heap.size w w4) := hid' (HB5.out.trans (hU4.below (by have := HRB.out; omega)))
            have o0 := hA4.cell 0 _ rfl
            have o1 := hA4.cell 1 _ rfl
            have o2 := hA4.cell 2 _ rfl
            have o3 := hA4.cell 3 _ rfl
            have o4 := hA4.cell 4 _ rfl
            have o5 := hA4.cell 5 _ rfl
            have o6 := hA4.cell 6 _ rfl
            clear hU4 hA4
            go_wp2
            exact bodyPost_ret (v := .tuple #[rqV Ms.rq0 (.slice none 0 0), .int .i64 142]) (by simp [results, Tryz.results9, go_sem, rqV, rqC, Ms.rq0, Ms.e0, o0, o1, o2, o3, o4, o5, o6]) rfl ⟨⟨_, ret_two14 (by rw [HRR.out]) HE.out.symm, by rw [HRR.out]; exact World.ownsRow_nil _ _ _ _⟩, HB4.out⟩
          · have HE : Hid (Ms.twoE l = 0) := hid' (HE2.out.trans (by simp))
            have HRR : Hid (Ms.twoR l = ⟨m, s, ho, p, Ms.keep l⟩) := hid' (by unfold Ms.twoR; rw [HE.out, HMM.out, HSS.out, HPP.out, HAV.out]; rfl)
            have p0 : w5.cell? ⟨qb, 0, none⟩ = some (.string m) := HA5.out.cell 0 _ rfl
            have p1 : w5.cell? ⟨qb, 1, none⟩ = some (.string s) := HA5.out.cell 1 _ rfl
            have p2 : w5.cell? ⟨qb, 2, none⟩ = some (.string ho) := HA5.out.cell 2 _ rfl
            have p3 : w5.cell? ⟨qb, 3, none⟩ = some (.string p) := HA5.out.cell 3 _ rfl
            have p4 : w5.cell? ⟨qb, 4, none⟩ = some (.slice fo c fc) := HA5.out.cell 4 _ rfl
            have p5 : w5.cell? ⟨qb, 5, none⟩ = some (.string ⟨#[]⟩) := HA5.out.cell 5 _ rfl
            have p6 : w5.cell? ⟨qb, 6, none⟩ = some (.slice none 0 0) := HA5.out.cell 6 _ rfl
            rcases o' with _ | x
            all_goals
              simp only [Ms.lenV]
              go_wp2_with (refine wpl_store 25 _ _ rfl rfl rb (#[.string m, .string s, .string ho, .string p, .slice fo c fc, .string ⟨#[]⟩, .slice none 0 0]) (by kernel_rfl) (by kernel_rfl) _ _ HR5.out sizeRq14 rfl (by simp [Value.oneCell']) ?_)
              intro w4 hA4 hU4
              have HB4 : Hid (Below w.heap.size w w4) := hid' (HB5.out.trans (hU4.below (by have := HRB.out; omega)))
              have HRW : Hid (w4.ownsRow w.heap.size 50 2 (.slice fo c fc) c (fC (Ms.keep l))) := hid' (own_base (own_same HO5.out (fun j hj => hU4.block j (by have := (own_ty HO5.out j hj).1; have := HRQ.out; omega))) HWQ.out)
              have o0 := hA4.cell 0 _ rfl
              have o1 := hA4.cell 1 _ rfl
              have o2 := hA4.cell 2 _ rfl
              have o3 := hA4.cell 3 _ rfl
              have o4 := hA4.cell 4 _ rfl
              have o5 := hA4.cell 5 _ rfl
              have o6 := hA4.cell 6 _ rfl
              clear hU4 hA4
              go_wp2
              exact bodyPost_ret (v := .tuple #[rqV ⟨m, s, ho, p, Ms.keep l⟩ (.slice fo c fc), .int .i64 0]) (by simp [results, Tryz.results9, go_sem, rqV, rqC, o0, o1, o2, o3, o4, o5, o6]) rfl ⟨⟨_, ret_two14 (by rw [HRR.out]) HE.out.symm, by rw [HRR.out, HCN.out]; exact HRW.out⟩, HB4.out⟩
    · have HAV : Hid (Ms.auth l = a) := hid' (HAU.out.trans (by simp))
      have HE2 : Hid (Ms.twoE l = if o.isNone then 142 else 0) := hid' (HE1.out.trans (by simp))
      clear HE1
      have hz1 := rq_zero w1
      have hbz1 := bl_alloc w1 (.cells (rqC ⟨#[]⟩ ⟨#[]⟩ ⟨#[]⟩ ⟨#[]⟩ (.slice none 0 0) ⟨#[]⟩ (.slice none 0 0)) 25)
      unfold rqC at hz1 hbz1
      have HZ1' := hid' hz1
      have HBZ1 := hid' hbz1
      clear hz1 hbz1
      go_wp2_with (refine wpl_store 25 _ _ rfl rfl w1.heap.size (#[.string m, .string s, .string a, .string p, .slice none 0 0, .string ⟨#[]⟩, .slice none 0 0]) (by kernel_rfl) (by kernel_rfl) _ _ HZ1'.out sizeRq14 rfl (by simp [Value.oneCell']) ?_)
      intro w2 hA2 hU2
      have HB2 : Hid (Below w1.heap.size w1 w2) := hid' (HBZ1.out.trans (hU2.below (Nat.le_refl _)))
      have HRQ : Hid (rb < w1.heap.size) := hid' HR1.out.lt
      obtain ⟨qb, hqb⟩ : ∃ qb, w1.heap.size = qb := ⟨_, rfl⟩
      have HQB := hid' hqb
      rw [hqb] at hA2 HB2 HRQ ⊢
      have HA2 : Hid (Ar w2 qb 25 (rqA m s a p (.slice none 0 0))) := hid' hA2
      have HWQ : Hid (w.heap.size ≤ qb) := hid' (by have := HRB.out; have := HRQ.out; omega)
      clear hA2 hU2 HZ1' HBZ1 hqb
      go_wp2
      go_loopw [16, 17] (fun s16 _ wr => ∃ (k c : Nat) (fo : Option Addr) (fc : Nat), s16 = .int .i64 (k : Int) ∧ k ≤ n ∧ c ≤ k ∧ Hid ((Ms.keep (l.take k)).length = c) ∧ Hid (Ar wr qb 25 (rqA m s a p (.slice fo c fc))) ∧ Hid (wr.ownsRow qb 50 2 (.slice fo c fc) c (fC (Ms.keep (l.take k)))) ∧ Hid (Below qb w1 wr)) (fun s16 _ _ => n - (intOf s16).toNat)
      case atStart => exact ⟨0, 0, none, 0, rfl, Nat.zero_le _, Nat.le_refl _, hid' rfl, HA2, hid' (World.ownsRow_nil _ _ _ _), HB2⟩
      case round =>
        obtain ⟨k, c, fo, fc, rfl, hk, hck, HCN, HA, HO, HB⟩ := hrel
        have HBW : Hid (Below w.heap.size w wr) := hid' (HB1.out.trans (HB.out.mono HWQ.out))
        by_cases hlt : k < n
        · have hlt2 : (k : Int) < (n : Int) := by omega
          obtain ⟨f, hf⟩ : ∃ f, l[k]? = some f := ⟨_, List.getElem?_eq_getElem (by rw [HN.out]; exact hlt)⟩
          obtain ⟨ad, hao, y0, y1⟩ := (H.out.keep HBW.out).two k f hf
          subst hao
          have HKT := hid' (Ms.keep_take hf)
          have HPS := hid' (HS.out f (List.mem_of_getElem? hf))
          obtain ⟨ps, hps⟩ : ∃ ps, Ms.psd f.n = ps := ⟨_, rfl⟩
          have HPD := hid' hps
          clear hf hps
          go_wp2_with fail
          refine (rpsd14 f.n ps HPD.out wr HPS.out.1).mono ?_
          rintro e w' ⟨rfl, hw⟩
          subst w'
          have hskip : Ms.keepB f = false → Hid ((Ms.keep (l.take (k + 1))).length = c) ∧ Hid (wr.ownsRow qb 50 2 (.slice fo c fc) c (fC (Ms.keep (l.take (k + 1))))) := fun e => by
            have hh := HKT.out
            rw [e, if_neg (by simp), List.append_nil] at hh
            exact ⟨hid' (by rw [hh]; exact HCN.out), hid' (by rw [hh]; exact HO.out)⟩
          have HSK := hid' hskip
          clear hskip
          cases ps
          · cases c1 : (f.n.toList == [104, 111, 115, 116])
            · have d1 : (f.n.toList != [104, 111, 115, 116]) = true := by unfold bne; rw [c1]; rfl
              cases c2 : (f.n.toList == [116, 101])
              · have d2 : (f.n.toList != [116, 101]) = true := by unfold bne; rw [c2]; rfl
                have hkb : Ms.keepB f = true := by unfold Ms.keepB; rw [HPD.out, c1, c2]; rfl
                have HKF : Hid (Ms.keep (l.take (k + 1)) = Ms.keep (l.take k) ++ [f]) := hid' (by have hh := HKT.out; rwa [hkb, if_pos rfl] at hh)
                obtain ⟨xs, hxs⟩ : ∃ xs, fC (Ms.keep (l.take k)) = xs := ⟨_, rfl⟩
                have HXS := hid' hxs
                rw [hxs] at HO
                clear hkb hxs HSK HKT
                have g4 : wr.cell? ⟨qb, 4, none⟩ = some (.slice fo c fc) := HA.out.cell 4 _ rfl
                have f4 := HA.out.free 4
                have HOB : Hid (∀ j, (Value.slice fo c fc).ownBlock = some j → j ≠ qb) := hid' (own_apart HO.out HA.out (by decide))
                have HQW : Hid (qb ≤ wr.heap.size) := hid' (Nat.le_of_lt HA.out.lt)
                obtain ⟨w00, hw00⟩ : ∃ w00, w00 = (wr.alloc (.cells #[.string f.n, .string f.v] 50)).drew := ⟨_, rfl⟩
                have hb00 : Below wr.heap.size wr w00 := by rw [hw00]; exact ((Below.refl _ _).alloc (Nat.le_refl _) _).drew
                have HW00 := hid' hw00
                have HO00 := hid' (HA.out.keep hb00)
                have HR00 : Hid (w00.ownsRow qb 50 2 (.slice fo c fc) c xs) := hid' (own_same HO.out (fun j hj => hb00.block j (own_lt HO.out j hj)))
                have HNW : Hid (∀ j u, [Value.string f.n, .string f.v][j]? = some u → w00.cell? ((⟨wr.heap.size, 0, none⟩ : Addr).add j) = some u) := hid' (by
                  intro j u hj
                  have hA : Ar w00 wr.heap.size 50 #[.string f.n, .string f.v] := by rw [hw00]; exact heap_alloc_last wr _
                  rw [Addr.add_mid, Nat.zero_add]
                  exact hA.cell j u (by simpa using hj))
                have HSZ : Hid (qb ≤ w00.heap.size) := hid' (Nat.le_trans HQW.out hb00.size)
                have HB00 : Hid (Below qb w1 w00) := hid' (HB.out.trans (hb00.mono HQW.out))
                rw [hw00] at HR00 HNW HSZ
                have g4' : (wr.alloc (.cells #[.string f.n, .string f.v] 50)).cell? ⟨qb, 4, none⟩ = some (.slice fo c fc) := ((bl_alloc wr _).cell (cell_lt g4)).trans g4
                clear hb00 hw00
                go_wp2
                go_region_law (refine step_app14 (by rfl) _ _ 22 (by rfl) qb 50 i0 (.agg #[.string ⟨#[]⟩, .string ⟨#[]⟩]) 2 32 Tryz.underlying22 HI.out HZ0.out HZ1.out HZ2.out (by rfl) (by decide) (.slice fo c fc) c xs (by rfl) HR00.out ⟨wr.heap.size, 0, none⟩ 1 1 [.string f.n, .string f.v] (by rfl) (by rfl) HNW.out (by simp [Value.oneCell']) (by unfold maxLen; omega) (by omega) HSZ.out ?_; intro v2 w3 hrow hgrow _; obtain ⟨v2o, v2c, hv2⟩ := own_shape hrow; subst hv2; have hO2 := ar_grown (HW00.out ▸ HO00.out) hgrow HOB.out; have c11 := hO2.cell 4 _ rfl; have e11 := hO2.free 4)
                all_goals
                  have HB2 : Hid (Below qb w1 w3) := hid' ((HW00.out ▸ HB00.out).grown hgrow HSZ.out (fun j hj => (own_ty HR00.out j hj).1))
                  have HO2 := hid' hO2
                  have HR2 := hid' hrow
                  clear hO2 hrow hgrow
                  go_wp2
                  go_roundw
                  case rel =>
                    have h2 : w3.ownsRow qb 50 2 (.slice v2o (c + 1) v2c) (c + 1) (fC (Ms.keep (l.take (k + 1)))) := by
                      rw [HKF.out, fC_append, HXS.out]
                      exact HR2.out
                    refine ⟨k + 1, c + 1, v2o, v2c, by go_num, by omega, by omega, hid' (by rw [HKF.out, List.length_append, HCN.out]; rfl), hid' ?_, hid' (own_same h2 (fun j hj => (upd_setCell w3 qb 4 _).block j (own_apart h2 HO2.out (by decide) j hj))), hid' (HB2.out.setCell (Nat.le_refl _) _)⟩
                    have h1 := HO2.out.set 4 (.slice v2o (c + 1) v2c)
                    exact h1
                  case measure => simp [intOf]; omega
              · have d2 : (f.n.toList != [116, 101]) = false := by unfold bne; rw [c2]; rfl
                obtain ⟨s1', s2'⟩ := HSK.out (by unfold Ms.keepB; rw [HPD.out, c1, c2]; rfl)
                go_wp2
                go_roundw
                case rel => exact ⟨k + 1, c, fo, fc, by go_num, by omega, by omega, s1', HA, s2', HB⟩
                case measure => simp [intOf]; omega
            · have d1 : (f.n.toList != [104, 111, 115, 116]) = false := by unfold bne; rw [c1]; rfl
              obtain ⟨s1', s2'⟩ := HSK.out (by unfold Ms.keepB; rw [HPD.out, c1]; rfl)
              go_wp2
              go_roundw
              case rel => exact ⟨k + 1, c, fo, fc, by go_num, by omega, by omega, s1', HA, s2', HB⟩
              case measure => simp [intOf]; omega
          · obtain ⟨s1', s2'⟩ := HSK.out (by unfold Ms.keepB; rw [HPD.out]; rfl)
            go_wp2
            go_roundw
            case rel => exact ⟨k + 1, c, fo, fc, by go_num, by omega, by omega, s1', HA, s2', HB⟩
            case measure => simp [intOf]; omega
        · obtain rfl : k = n := by omega
          have hlt2 : ¬ (k : Int) < (k : Int) := by omega
          have HTK' : Hid (l.take k = l) := hid' (List.take_of_length_le (by rw [HN.out]; exact Nat.le_refl _))
          rw [HTK'.out] at HCN HO
          clear hlt
          go_wp2_with fail
          refine (HLE.out wr (H.out.keep HBW.out)).mono ?_
          rintro e w5 ⟨he, hb5⟩
          have HB5 := hid' (below_two HBW.out hb5)
          have HA5 := hid' (HA.out.keep hb5)
          have HO5 := hid' (own_same HO.out (fun j hj => hb5.block j (own_lt HO.out j hj)))
          have HR5 := hid' ((ar_bel HR1.out HB.out HRQ.out).keep hb5)
          subst he
          clear hb5 HA HO HB
          rcases o with _ | o'
          · have HE : Hid (Ms.twoE l = 142) := hid' (HE2.out.trans (by simp))
            simp only [Ms.lenV]
            have HRR : Hid (Ms.twoR l = Ms.rq0) := hid' (by unfold Ms.twoR; rw [HE.out]; rfl)
            go_wp2_with (refine wpl_store 25 _ _ rfl rfl rb (#[.string ⟨#[]⟩, .string ⟨#[]⟩, .string ⟨#[]⟩, .string ⟨#[]⟩, .slice none 0 0, .string ⟨#[]⟩, .slice none 0 0]) (by kernel_rfl) (by kernel_rfl) _ _ HR5.out sizeRq14 rfl (by simp [Value.oneCell']) ?_)
            intro w4 hA4 hU4
            have HB4 : Hid (Below w.heap.size w w4) := hid' (HB5.out.trans (hU4.below (by have := HRB.out; omega)))
            have o0 := hA4.cell 0 _ rfl
            have o1 := hA4.cell 1 _ rfl
            have o2 := hA4.cell 2 _ rfl
            have o3 := hA4.cell 3 _ rfl
            have o4 := hA4.cell 4 _ rfl
            have o5 := hA4.cell 5 _ rfl
            have o6 := hA4.cell 6 _ rfl
            clear hU4 hA4
            go_wp2
            exact bodyPost_ret (v := .tuple #[rqV Ms.rq0 (.slice none 0 0), .int .i64 142]) (by simp [results, Tryz.results9, go_sem, rqV, rqC, Ms.rq0, Ms.e0, o0, o1, o2, o3, o4, o5, o6]) rfl ⟨⟨_, ret_two14 (by rw [HRR.out]) HE.out.symm, by rw [HRR.out]; exact World.ownsRow_nil _ _ _ _⟩, HB4.out⟩
          · have HE : Hid (Ms.twoE l = 0) := hid' (HE2.out.trans (by simp))
            have HRR : Hid (Ms.twoR l = ⟨m, s, a, p, Ms.keep l⟩) := hid' (by unfold Ms.twoR; rw [HE.out, HMM.out, HSS.out, HPP.out, HAV.out]; rfl)
            have p0 : w5.cell? ⟨qb, 0, none⟩ = some (.string m) := HA5.out.cell 0 _ rfl
            have p1 : w5.cell? ⟨qb, 1, none⟩ = some (.string s) := HA5.out.cell 1 _ rfl
            have p2 : w5.cell? ⟨qb, 2, none⟩ = some (.string a) := HA5.out.cell 2 _ rfl
            have p3 : w5.cell? ⟨qb, 3, none⟩ = some (.string p) := HA5.out.cell 3 _ rfl
            have p4 : w5.cell? ⟨qb, 4, none⟩ = some (.slice fo c fc) := HA5.out.cell 4 _ rfl
            have p5 : w5.cell? ⟨qb, 5, none⟩ = some (.string ⟨#[]⟩) := HA5.out.cell 5 _ rfl
            have p6 : w5.cell? ⟨qb, 6, none⟩ = some (.slice none 0 0) := HA5.out.cell 6 _ rfl
            rcases o' with _ | x
            all_goals
              simp only [Ms.lenV]
              go_wp2_with (refine wpl_store 25 _ _ rfl rfl rb (#[.string m, .string s, .string a, .string p, .slice fo c fc, .string ⟨#[]⟩, .slice none 0 0]) (by kernel_rfl) (by kernel_rfl) _ _ HR5.out sizeRq14 rfl (by simp [Value.oneCell']) ?_)
              intro w4 hA4 hU4
              have HB4 : Hid (Below w.heap.size w w4) := hid' (HB5.out.trans (hU4.below (by have := HRB.out; omega)))
              have HRW : Hid (w4.ownsRow w.heap.size 50 2 (.slice fo c fc) c (fC (Ms.keep l))) := hid' (own_base (own_same HO5.out (fun j hj => hU4.block j (by have := (own_ty HO5.out j hj).1; have := HRQ.out; omega))) HWQ.out)
              have o0 := hA4.cell 0 _ rfl
              have o1 := hA4.cell 1 _ rfl
              have o2 := hA4.cell 2 _ rfl
              have o3 := hA4.cell 3 _ rfl
              have o4 := hA4.cell 4 _ rfl
              have o5 := hA4.cell 5 _ rfl
              have o6 := hA4.cell 6 _ rfl
              clear hU4 hA4
              go_wp2
              exact bodyPost_ret (v := .tuple #[rqV ⟨m, s, a, p, Ms.keep l⟩ (.slice fo c fc), .int .i64 0]) (by simp [results, Tryz.results9, go_sem, rqV, rqC, o0, o1, o2, o3, o4, o5, o6]) rfl ⟨⟨_, ret_two14 (by rw [HRR.out]) HE.out.symm, by rw [HRR.out, HCN.out]; exact HRW.out⟩, HB4.out⟩
    · have HAV : Hid (Ms.auth l = a) := hid' (HAU.out.trans (by simp))
      have HE2 : Hid (Ms.twoE l = if o.isNone then 142 else 0) := hid' (HE1.out.trans (by simp))
      clear HE1
      have hz1 := rq_zero w1
      have hbz1 := bl_alloc w1 (.cells (rqC ⟨#[]⟩ ⟨#[]⟩ ⟨#[]⟩ ⟨#[]⟩ (.slice none 0 0) ⟨#[]⟩ (.slice none 0 0)) 25)
      unfold rqC at hz1 hbz1
      have HZ1' := hid' hz1
      have HBZ1 := hid' hbz1
      clear hz1 hbz1
      go_wp2_with (refine wpl_store 25 _ _ rfl rfl w1.heap.size (#[.string m, .string s, .string a, .string p, .slice none 0 0, .string ⟨#[]⟩, .slice none 0 0]) (by kernel_rfl) (by kernel_rfl) _ _ HZ1'.out sizeRq14 rfl (by simp [Value.oneCell']) ?_)
      intro w2 hA2 hU2
      have HB2 : Hid (Below w1.heap.size w1 w2) := hid' (HBZ1.out.trans (hU2.below (Nat.le_refl _)))
      have HRQ : Hid (rb < w1.heap.size) := hid' HR1.out.lt
      obtain ⟨qb, hqb⟩ : ∃ qb, w1.heap.size = qb := ⟨_, rfl⟩
      have HQB := hid' hqb
      rw [hqb] at hA2 HB2 HRQ ⊢
      have HA2 : Hid (Ar w2 qb 25 (rqA m s a p (.slice none 0 0))) := hid' hA2
      have HWQ : Hid (w.heap.size ≤ qb) := hid' (by have := HRB.out; have := HRQ.out; omega)
      clear hA2 hU2 HZ1' HBZ1 hqb
      go_wp2
      go_loopw [16, 17] (fun s16 _ wr => ∃ (k c : Nat) (fo : Option Addr) (fc : Nat), s16 = .int .i64 (k : Int) ∧ k ≤ n ∧ c ≤ k ∧ Hid ((Ms.keep (l.take k)).length = c) ∧ Hid (Ar wr qb 25 (rqA m s a p (.slice fo c fc))) ∧ Hid (wr.ownsRow qb 50 2 (.slice fo c fc) c (fC (Ms.keep (l.take k)))) ∧ Hid (Below qb w1 wr)) (fun s16 _ _ => n - (intOf s16).toNat)
      case atStart => exact ⟨0, 0, none, 0, rfl, Nat.zero_le _, Nat.le_refl _, hid' rfl, HA2, hid' (World.ownsRow_nil _ _ _ _), HB2⟩
      case round =>
        obtain ⟨k, c, fo, fc, rfl, hk, hck, HCN, HA, HO, HB⟩ := hrel
        have HBW : Hid (Below w.heap.size w wr) := hid' (HB1.out.trans (HB.out.mono HWQ.out))
        by_cases hlt : k < n
        · have hlt2 : (k : Int) < (n : Int) := by omega
          obtain ⟨f, hf⟩ : ∃ f, l[k]? = some f := ⟨_, List.getElem?_eq_getElem (by rw [HN.out]; exact hlt)⟩
          obtain ⟨ad, hao, y0, y1⟩ := (H.out.keep HBW.out).two k f hf
          subst hao
          have HKT := hid' (Ms.keep_take hf)
          have HPS := hid' (HS.out f (List.mem_of_getElem? hf))
          obtain ⟨ps, hps⟩ : ∃ ps, Ms.psd f.n = ps := ⟨_, rfl⟩
          have HPD := hid' hps
          clear hf hps
          go_wp2_with fail
          refine (rpsd14 f.n ps HPD.out wr HPS.out.1).mono ?_
          rintro e w' ⟨rfl, hw⟩
          subst w'
          have hskip : Ms.keepB f = false → Hid ((Ms.keep (l.take (k + 1))).length = c) ∧ Hid (wr.ownsRow qb 50 2 (.slice fo c fc) c (fC (Ms.keep (l.take (k + 1))))) := fun e => by
            have hh := HKT.out
            rw [e, if_neg (by simp), List.append_nil] at hh
            exact ⟨hid' (by rw [hh]; exact HCN.out), hid' (by rw [hh]; exact HO.out)⟩
          have HSK := hid' hskip
          clear hskip
          cases ps
          · cases c1 : (f.n.toList == [104, 111, 115, 116])
            · have d1 : (f.n.toList != [104, 111, 115, 116]) = true := by unfold bne; rw [c1]; rfl
              cases c2 : (f.n.toList == [116, 101])
              · have d2 : (f.n.toList != [116, 101]) = true := by unfold bne; rw [c2]; rfl
                have hkb : Ms.keepB f = true := by unfold Ms.keepB; rw [HPD.out, c1, c2]; rfl
                have HKF : Hid (Ms.keep (l.take (k + 1)) = Ms.keep (l.take k) ++ [f]) := hid' (by have hh := HKT.out; rwa [hkb, if_pos rfl] at hh)
                obtain ⟨xs, hxs⟩ : ∃ xs, fC (Ms.keep (l.take k)) = xs := ⟨_, rfl⟩
                have HXS := hid' hxs
                rw [hxs] at HO
                clear hkb hxs HSK HKT
                have g4 : wr.cell? ⟨qb, 4, none⟩ = some (.slice fo c fc) := HA.out.cell 4 _ rfl
                have f4 := HA.out.free 4
                have HOB : Hid (∀ j, (Value.slice fo c fc).ownBlock = some j → j ≠ qb) := hid' (own_apart HO.out HA.out (by decide))
                have HQW : Hid (qb ≤ wr.heap.size) := hid' (Nat.le_of_lt HA.out.lt)
                obtain ⟨w00, hw00⟩ : ∃ w00, w00 = (wr.alloc (.cells #[.string f.n, .string f.v] 50)).drew := ⟨_, rfl⟩
                have hb00 : Below wr.heap.size wr w00 := by rw [hw00]; exact ((Below.refl _ _).alloc (Nat.le_refl _) _).drew
                have HW00 := hid' hw00
                have HO00 := hid' (HA.out.keep hb00)
                have HR00 : Hid (w00.ownsRow qb 50 2 (.slice fo c fc) c xs) := hid' (own_same HO.out (fun j hj => hb00.block j (own_lt HO.out j hj)))
                have HNW : Hid (∀ j u, [Value.string f.n, .string f.v][j]? = some u → w00.cell? ((⟨wr.heap.size, 0, none⟩ : Addr).add j) = some u) := hid' (by
                  intro j u hj
                  have hA : Ar w00 wr.heap.size 50 #[.string f.n, .string f.v] := by rw [hw00]; exact heap_alloc_last wr _
                  rw [Addr.add_mid, Nat.zero_add]
                  exact hA.cell j u (by simpa using hj))
                have HSZ : Hid (qb ≤ w00.heap.size) := hid' (Nat.le_trans HQW.out hb00.size)
                have HB00 : Hid (Below qb w1 w00) := hid' (HB.out.trans (hb00.mono HQW.out))
                rw [hw00] at HR00 HNW HSZ
                have g4' : (wr.alloc (.cells #[.string f.n, .string f.v] 50)).cell? ⟨qb, 4, none⟩ = some (.slice fo c fc) := ((bl_alloc wr _).cell (cell_lt g4)).trans g4
                clear hb00 hw00
                go_wp2
                go_region_law (refine step_app14 (by rfl) _ _ 22 (by rfl) qb 50 i0 (.agg #[.string ⟨#[]⟩, .string ⟨#[]⟩]) 2 32 Tryz.underlying22 HI.out HZ0.out HZ1.out HZ2.out (by rfl) (by decide) (.slice fo c fc) c xs (by rfl) HR00.out ⟨wr.heap.size, 0, none⟩ 1 1 [.string f.n, .string f.v] (by rfl) (by rfl) HNW.out (by simp [Value.oneCell']) (by unfold maxLen; omega) (by omega) HSZ.out ?_; intro v2 w3 hrow hgrow _; obtain ⟨v2o, v2c, hv2⟩ := own_shape hrow; subst hv2; have hO2 := ar_grown (HW00.out ▸ HO00.out) hgrow HOB.out; have c11 := hO2.cell 4 _ rfl; have e11 := hO2.free 4)
                all_goals
                  have HB2 : Hid (Below qb w1 w3) := hid' ((HW00.out ▸ HB00.out).grown hgrow HSZ.out (fun j hj => (own_ty HR00.out j hj).1))
                  have HO2 := hid' hO2
                  have HR2 := hid' hrow
                  clear hO2 hrow hgrow
                  go_wp2
                  go_roundw
                  case rel =>
                    have h2 : w3.ownsRow qb 50 2 (.slice v2o (c + 1) v2c) (c + 1) (fC (Ms.keep (l.take (k + 1)))) := by
                      rw [HKF.out, fC_append, HXS.out]
                      exact HR2.out
                    refine ⟨k + 1, c + 1, v2o, v2c, by go_num, by omega, by omega, hid' (by rw [HKF.out, List.length_append, HCN.out]; rfl), hid' ?_, hid' (own_same h2 (fun j hj => (upd_setCell w3 qb 4 _).block j (own_apart h2 HO2.out (by decide) j hj))), hid' (HB2.out.setCell (Nat.le_refl _) _)⟩
                    have h1 := HO2.out.set 4 (.slice v2o (c + 1) v2c)
                    exact h1
                  case measure => simp [intOf]; omega
              · have d2 : (f.n.toList != [116, 101]) = false := by unfold bne; rw [c2]; rfl
                obtain ⟨s1', s2'⟩ := HSK.out (by unfold Ms.keepB; rw [HPD.out, c1, c2]; rfl)
                go_wp2
                go_roundw
                case rel => exact ⟨k + 1, c, fo, fc, by go_num, by omega, by omega, s1', HA, s2', HB⟩
                case measure => simp [intOf]; omega
            · have d1 : (f.n.toList != [104, 111, 115, 116]) = false := by unfold bne; rw [c1]; rfl
              obtain ⟨s1', s2'⟩ := HSK.out (by unfold Ms.keepB; rw [HPD.out, c1]; rfl)
              go_wp2
              go_roundw
              case rel => exact ⟨k + 1, c, fo, fc, by go_num, by omega, by omega, s1', HA, s2', HB⟩
              case measure => simp [intOf]; omega
          · obtain ⟨s1', s2'⟩ := HSK.out (by unfold Ms.keepB; rw [HPD.out]; rfl)
            go_wp2
            go_roundw
            case rel => exact ⟨k + 1, c, fo, fc, by go_num, by omega, by omega, s1', HA, s2', HB⟩
            case measure => simp [intOf]; omega
        · obtain rfl : k = n := by omega
          have hlt2 : ¬ (k : Int) < (k : Int) := by omega
          have HTK' : Hid (l.take k = l) := hid' (List.take_of_length_le (by rw [HN.out]; exact Nat.le_refl _))
          rw [HTK'.out] at HCN HO
          clear hlt
          go_wp2_with fail
          refine (HLE.out wr (H.out.keep HBW.out)).mono ?_
          rintro e w5 ⟨he, hb5⟩
          have HB5 := hid' (below_two HBW.out hb5)
          have HA5 := hid' (HA.out.keep hb5)
          have HO5 := hid' (own_same HO.out (fun j hj => hb5.block j (own_lt HO.out j hj)))
          have HR5 := hid' ((ar_bel HR1.out HB.out HRQ.out).keep hb5)
          subst he
          clear hb5 HA HO HB
          rcases o with _ | o'
          · have HE : Hid (Ms.twoE l = 142) := hid' (HE2.out.trans (by simp))
            simp only [Ms.lenV]
            have HRR : Hid (Ms.twoR l = Ms.rq0) := hid' (by unfold Ms.twoR; rw [HE.out]; rfl)
            go_wp2_with (refine wpl_store 25 _ _ rfl rfl rb (#[.string ⟨#[]⟩, .string ⟨#[]⟩, .string ⟨#[]⟩, .string ⟨#[]⟩, .slice none 0 0, .string ⟨#[]⟩, .slice none 0 0]) (by kernel_rfl) (by kernel_rfl) _ _ HR5.out sizeRq14 rfl (by simp [Value.oneCell']) ?_)
            intro w4 hA4 hU4
            have HB4 : Hid (Below w.heap.size w w4) := hid' (HB5.out.trans (hU4.below (by have := HRB.out; omega)))
            have o0 := hA4.cell 0 _ rfl
            have o1 := hA4.cell 1 _ rfl
            have o2 := hA4.cell 2 _ rfl
            have o3 := hA4.cell 3 _ rfl
            have o4 := hA4.cell 4 _ rfl
            have o5 := hA4.cell 5 _ rfl
            have o6 := hA4.cell 6 _ rfl
            clear hU4 hA4
            go_wp2
            exact bodyPost_ret (v := .tuple #[rqV Ms.rq0 (.slice none 0 0), .int .i64 142]) (by simp [results, Tryz.results9, go_sem, rqV, rqC, Ms.rq0, Ms.e0, o0, o1, o2, o3, o4, o5, o6]) rfl ⟨⟨_, ret_two14 (by rw [HRR.out]) HE.out.symm, by rw [HRR.out]; exact World.ownsRow_nil _ _ _ _⟩, HB4.out⟩
          · have HE : Hid (Ms.twoE l = 0) := hid' (HE2.out.trans (by simp))
            have HRR : Hid (Ms.twoR l = ⟨m, s, a, p, Ms.keep l⟩) := hid' (by unfold Ms.twoR; rw [HE.out, HMM.out, HSS.out, HPP.out, HAV.out]; rfl)
            have p0 : w5.cell? ⟨qb, 0, none⟩ = some (.string m) := HA5.out.cell 0 _ rfl
            have p1 : w5.cell? ⟨qb, 1, none⟩ = some (.string s) := HA5.out.cell 1 _ rfl
            have p2 : w5.cell? ⟨qb, 2, none⟩ = some (.string a) := HA5.out.cell 2 _ rfl
            have p3 : w5.cell? ⟨qb, 3, none⟩ = some (.string p) := HA5.out.cell 3 _ rfl
            have p4 : w5.cell? ⟨qb, 4, none⟩ = some (.slice fo c fc) := HA5.out.cell 4 _ rfl
            have p5 : w5.cell? ⟨qb, 5, none⟩ = some (.string ⟨#[]⟩) := HA5.out.cell 5 _ rfl
            have p6 : w5.cell? ⟨qb, 6, none⟩ = some (.slice none 0 0) := HA5.out.cell 6 _ rfl
            rcases o' with _ | x
            all_goals
              simp only [Ms.lenV]
              go_wp2_with (refine wpl_store 25 _ _ rfl rfl rb (#[.string m, .string s, .string a, .string p, .slice fo c fc, .string ⟨#[]⟩, .slice none 0 0]) (by kernel_rfl) (by kernel_rfl) _ _ HR5.out sizeRq14 rfl (by simp [Value.oneCell']) ?_)
              intro w4 hA4 hU4
              have HB4 : Hid (Below w.heap.size w w4) := hid' (HB5.out.trans (hU4.below (by have := HRB.out; omega)))
              have HRW : Hid (w4.ownsRow w.heap.size 50 2 (.slice fo c fc) c (fC (Ms.keep l))) := hid' (own_base (own_same HO5.out (fun j hj => hU4.block j (by have := (own_ty HO5.out j hj).1; have := HRQ.out; omega))) HWQ.out)
              have o0 := hA4.cell 0 _ rfl
              have o1 := hA4.cell 1 _ rfl
              have o2 := hA4.cell 2 _ rfl
              have o3 := hA4.cell 3 _ rfl
              have o4 := hA4.cell 4 _ rfl
              have o5 := hA4.cell 5 _ rfl
              have o6 := hA4.cell 6 _ rfl
              clear hU4 hA4
              go_wp2
              exact bodyPost_ret (v := .tuple #[rqV ⟨m, s, a, p, Ms.keep l⟩ (.slice fo c fc), .int .i64 0]) (by simp [results, Tryz.results9, go_sem, rqV, rqC, o0, o1, o2, o3, o4, o5, o6]) rfl ⟨⟨_, ret_two14 (by rw [HRR.out]) HE.out.symm, by rw [HRR.out, HCN.out]; exact HRW.out⟩, HB4.out⟩
  · go_wp2_with fail
    refine (HGO.out _).mono ?_
    rintro e w' ⟨rfl, hw⟩
    subst w'
    cases t3
    · have HE : Hid (Ms.twoE l = 140) := hid' (HE0.out.trans (by simp))
      have HRR : Hid (Ms.twoR l = Ms.rq0) := hid' (by unfold Ms.twoR; rw [HE.out]; rfl)
      go_wp2_with (refine wpl_store 25 _ _ rfl rfl rb (#[.string ⟨#[]⟩, .string ⟨#[]⟩, .string ⟨#[]⟩, .string ⟨#[]⟩, .slice none 0 0, .string ⟨#[]⟩, .slice none 0 0]) (by kernel_rfl) (by kernel_rfl) _ _ HR1.out sizeRq14 rfl (by simp [Value.oneCell']) ?_)
      intro w4 hA4 hU4
      have HB4 : Hid (Below w.heap.size w w4) := hid' (HB1.out.trans (hU4.below (by have := HRB.out; omega)))
      have o0 := hA4.cell 0 _ rfl
      have o1 := hA4.cell 1 _ rfl
      have o2 := hA4.cell 2 _ rfl
      have o3 := hA4.cell 3 _ rfl
      have o4 := hA4.cell 4 _ rfl
      have o5 := hA4.cell 5 _ rfl
      have o6 := hA4.cell 6 _ rfl
      clear hU4 hA4
      go_wp2
      exact bodyPost_ret (v := .tuple #[rqV Ms.rq0 (.slice none 0 0), .int .i64 140]) (by simp [results, Tryz.results9, go_sem, rqV, rqC, Ms.rq0, Ms.e0, o0, o1, o2, o3, o4, o5, o6]) rfl ⟨⟨_, ret_two14 (by rw [HRR.out]) HE.out.symm, by rw [HRR.out]; exact World.ownsRow_nil _ _ _ _⟩, HB4.out⟩
    go_wp2_with fail
    refine (HFA.out _ H1.out).mono ?_
    rintro e w' ⟨rfl, hw⟩
    subst w'
    go_wp2_with fail
    refine (HFH.out _ H1.out).mono ?_
    rintro e w' ⟨rfl, hw⟩
    subst w'
    have HE1 : Hid (Ms.twoE l = if ab && hb && !q then 141 else if o.isNone then 142 else 0) := hid' (HE0.out.trans (by simp))
    clear HE0
    have hways : ab = false ∨ (ab = true ∧ hb = false) ∨ (ab = true ∧ hb = true ∧ q = true) ∨ (ab = true ∧ hb = true ∧ q = false) := by cases ab <;> cases hb <;> cases q <;> simp
    rcases hways with rfl | ⟨rfl, rfl⟩ | ⟨rfl, rfl, rfl⟩ | ⟨rfl, rfl, rfl⟩
    rotate_right
    · have HE : Hid (Ms.twoE l = 141) := hid' (HE1.out.trans (by simp))
      have HRR : Hid (Ms.twoR l = Ms.rq0) := hid' (by unfold Ms.twoR; rw [HE.out]; rfl)
      go_wp2_with (refine wpl_store 25 _ _ rfl rfl rb (#[.string ⟨#[]⟩, .string ⟨#[]⟩, .string ⟨#[]⟩, .string ⟨#[]⟩, .slice none 0 0, .string ⟨#[]⟩, .slice none 0 0]) (by kernel_rfl) (by kernel_rfl) _ _ HR1.out sizeRq14 rfl (by simp [Value.oneCell']) ?_)
      intro w4 hA4 hU4
      have HB4 : Hid (Below w.heap.size w w4) := hid' (HB1.out.trans (hU4.below (by have := HRB.out; omega)))
      have o0 := hA4.cell 0 _ rfl
      have o1 := hA4.cell 1 _ rfl
      have o2 := hA4.cell 2 _ rfl
      have o3 := hA4.cell 3 _ rfl
      have o4 := hA4.cell 4 _ rfl
      have o5 := hA4.cell 5 _ rfl
      have o6 := hA4.cell 6 _ rfl
      clear hU4 hA4
      go_wp2
      exact bodyPost_ret (v := .tuple #[rqV Ms.rq0 (.slice none 0 0), .int .i64 141]) (by simp [results, Tryz.results9, go_sem, rqV, rqC, Ms.rq0, Ms.e0, o0, o1, o2, o3, o4, o5, o6]) rfl ⟨⟨_, ret_two14 (by rw [HRR.out]) HE.out.symm, by rw [HRR.out]; exact World.ownsRow_nil _ _ _ _⟩, HB4.out⟩
    · have HAV : Hid (Ms.auth l = ho) := hid' (HAU.out.trans (by simp))
      have HE2 : Hid (Ms.twoE l = if o.isNone then 142 else 0) := hid' (HE1.out.trans (by simp))
      clear HE1
      have hz1 := rq_zero w1
      have hbz1 := bl_alloc w1 (.cells (rqC ⟨#[]⟩ ⟨#[]⟩ ⟨#[]⟩ ⟨#[]⟩ (.slice none 0 0) ⟨#[]⟩ (.slice none 0 0)) 25)
      unfold rqC at hz1 hbz1
      have HZ1' := hid' hz1
      have HBZ1 := hid' hbz1
      clear hz1 hbz1
      go_wp2_with (refine wpl_store 25 _ _ rfl rfl w1.heap.size (#[.string m, .string s, .string ho, .string p, .slice none 0 0, .string ⟨#[]⟩, .slice none 0 0]) (by kernel_rfl) (by kernel_rfl) _ _ HZ1'.out sizeRq14 rfl (by simp [Value.oneCell']) ?_)
      intro w2 hA2 hU2
      have HB2 : Hid (Below w1.heap.size w1 w2) := hid' (HBZ1.out.trans (hU2.below (Nat.le_refl _)))
      have HRQ : Hid (rb < w1.heap.size) := hid' HR1.out.lt
      obtain ⟨qb, hqb⟩ : ∃ qb, w1.heap.size = qb := ⟨_, rfl⟩
      have HQB := hid' hqb
      rw [hqb] at hA2 HB2 HRQ ⊢
      have HA2 : Hid (Ar w2 qb 25 (rqA m s ho p (.slice none 0 0))) := hid' hA2
      have HWQ : Hid (w.heap.size ≤ qb) := hid' (by have := HRB.out; have := HRQ.out; omega)
      clear hA2 hU2 HZ1' HBZ1 hqb
      go_wp2
      go_loopw [16, 17] (fun s16 _ wr => ∃ (k c : Nat) (fo : Option Addr) (fc : Nat), s16 = .int .i64 (k : Int) ∧ k ≤ n ∧ c ≤ k ∧ Hid ((Ms.keep (l.take k)).length = c) ∧ Hid (Ar wr qb 25 (rqA m s ho p (.slice fo c fc))) ∧ Hid (wr.ownsRow qb 50 2 (.slice fo c fc) c (fC (Ms.keep (l.take k)))) ∧ Hid (Below qb w1 wr)) (fun s16 _ _ => n - (intOf s16).toNat)
      case atStart => exact ⟨0, 0, none, 0, rfl, Nat.zero_le _, Nat.le_refl _, hid' rfl, HA2, hid' (World.ownsRow_nil _ _ _ _), HB2⟩
      case round =>
        obtain ⟨k, c, fo, fc, rfl, hk, hck, HCN, HA, HO, HB⟩ := hrel
        have HBW : Hid (Below w.heap.size w wr) := hid' (HB1.out.trans (HB.out.mono HWQ.out))
        by_cases hlt : k < n
        · have hlt2 : (k : Int) < (n : Int) := by omega
          obtain ⟨f, hf⟩ : ∃ f, l[k]? = some f := ⟨_, List.getElem?_eq_getElem (by rw [HN.out]; exact hlt)⟩
          obtain ⟨ad, hao, y0, y1⟩ := (H.out.keep HBW.out).two k f hf
          subst hao
          have HKT := hid' (Ms.keep_take hf)
          have HPS := hid' (HS.out f (List.mem_of_getElem? hf))
          obtain ⟨ps, hps⟩ : ∃ ps, Ms.psd f.n = ps := ⟨_, rfl⟩
          have HPD := hid' hps
          clear hf hps
          go_wp2_with fail
          refine (rpsd14 f.n ps HPD.out wr HPS.out.1).mono ?_
          rintro e w' ⟨rfl, hw⟩
          subst w'
          have hskip : Ms.keepB f = false → Hid ((Ms.keep (l.take (k + 1))).length = c) ∧ Hid (wr.ownsRow qb 50 2 (.slice fo c fc) c (fC (Ms.keep (l.take (k + 1))))) := fun e => by
            have hh := HKT.out
            rw [e, if_neg (by simp), List.append_nil] at hh
            exact ⟨hid' (by rw [hh]; exact HCN.out), hid' (by rw [hh]; exact HO.out)⟩
          have HSK := hid' hskip
          clear hskip
          cases ps
          · cases c1 : (f.n.toList == [104, 111, 115, 116])
            · have d1 : (f.n.toList != [104, 111, 115, 116]) = true := by unfold bne; rw [c1]; rfl
              cases c2 : (f.n.toList == [116, 101])
              · have d2 : (f.n.toList != [116, 101]) = true := by unfold bne; rw [c2]; rfl
                have hkb : Ms.keepB f = true := by unfold Ms.keepB; rw [HPD.out, c1, c2]; rfl
                have HKF : Hid (Ms.keep (l.take (k + 1)) = Ms.keep (l.take k) ++ [f]) := hid' (by have hh := HKT.out; rwa [hkb, if_pos rfl] at hh)
                obtain ⟨xs, hxs⟩ : ∃ xs, fC (Ms.keep (l.take k)) = xs := ⟨_, rfl⟩
                have HXS := hid' hxs
                rw [hxs] at HO
                clear hkb hxs HSK HKT
                have g4 : wr.cell? ⟨qb, 4, none⟩ = some (.slice fo c fc) := HA.out.cell 4 _ rfl
                have f4 := HA.out.free 4
                have HOB : Hid (∀ j, (Value.slice fo c fc).ownBlock = some j → j ≠ qb) := hid' (own_apart HO.out HA.out (by decide))
                have HQW : Hid (qb ≤ wr.heap.size) := hid' (Nat.le_of_lt HA.out.lt)
                obtain ⟨w00, hw00⟩ : ∃ w00, w00 = (wr.alloc (.cells #[.string f.n, .string f.v] 50)).drew := ⟨_, rfl⟩
                have hb00 : Below wr.heap.size wr w00 := by rw [hw00]; exact ((Below.refl _ _).alloc (Nat.le_refl _) _).drew
                have HW00 := hid' hw00
                have HO00 := hid' (HA.out.keep hb00)
                have HR00 : Hid (w00.ownsRow qb 50 2 (.slice fo c fc) c xs) := hid' (own_same HO.out (fun j hj => hb00.block j (own_lt HO.out j hj)))
                have HNW : Hid (∀ j u, [Value.string f.n, .string f.v][j]? = some u → w00.cell? ((⟨wr.heap.size, 0, none⟩ : Addr).add j) = some u) := hid' (by
                  intro j u hj
                  have hA : Ar w00 wr.heap.size 50 #[.string f.n, .string f.v] := by rw [hw00]; exact heap_alloc_last wr _
                  rw [Addr.add_mid, Nat.zero_add]
                  exact hA.cell j u (by simpa using hj))
                have HSZ : Hid (qb ≤ w00.heap.size) := hid' (Nat.le_trans HQW.out hb00.size)
                have HB00 : Hid (Below qb w1 w00) := hid' (HB.out.trans (hb00.mono HQW.out))
                rw [hw00] at HR00 HNW HSZ
                have g4' : (wr.alloc (.cells #[.string f.n, .string f.v] 50)).cell? ⟨qb, 4, none⟩ = some (.slice fo c fc) := ((bl_alloc wr _).cell (cell_lt g4)).trans g4
                clear hb00 hw00
                go_wp2
                go_region_law (refine step_app14 (by rfl) _ _ 22 (by rfl) qb 50 i0 (.agg #[.string ⟨#[]⟩, .string ⟨#[]⟩]) 2 32 Tryz.underlying22 HI.out HZ0.out HZ1.out HZ2.out (by rfl) (by decide) (.slice fo c fc) c xs (by rfl) HR00.out ⟨wr.heap.size, 0, none⟩ 1 1 [.string f.n, .string f.v] (by rfl) (by rfl) HNW.out (by simp [Value.oneCell']) (by unfold maxLen; omega) (by omega) HSZ.out ?_; intro v2 w3 hrow hgrow _; obtain ⟨v2o, v2c, hv2⟩ := own_shape hrow; subst hv2; have hO2 := ar_grown (HW00.out ▸ HO00.out) hgrow HOB.out; have c11 := hO2.cell 4 _ rfl; have e11 := hO2.free 4)
                all_goals
                  have HB2 : Hid (Below qb w1 w3) := hid' ((HW00.out ▸ HB00.out).grown hgrow HSZ.out (fun j hj => (own_ty HR00.out j hj).1))
                  have HO2 := hid' hO2
                  have HR2 := hid' hrow
                  clear hO2 hrow hgrow
                  go_wp2
                  go_roundw
                  case rel =>
                    have h2 : w3.ownsRow qb 50 2 (.slice v2o (c + 1) v2c) (c + 1) (fC (Ms.keep (l.take (k + 1)))) := by
                      rw [HKF.out, fC_append, HXS.out]
                      exact HR2.out
                    refine ⟨k + 1, c + 1, v2o, v2c, by go_num, by omega, by omega, hid' (by rw [HKF.out, List.length_append, HCN.out]; rfl), hid' ?_, hid' (own_same h2 (fun j hj => (upd_setCell w3 qb 4 _).block j (own_apart h2 HO2.out (by decide) j hj))), hid' (HB2.out.setCell (Nat.le_refl _) _)⟩
                    have h1 := HO2.out.set 4 (.slice v2o (c + 1) v2c)
                    exact h1
                  case measure => simp [intOf]; omega
              · have d2 : (f.n.toList != [116, 101]) = false := by unfold bne; rw [c2]; rfl
                obtain ⟨s1', s2'⟩ := HSK.out (by unfold Ms.keepB; rw [HPD.out, c1, c2]; rfl)
                go_wp2
                go_roundw
                case rel => exact ⟨k + 1, c, fo, fc, by go_num, by omega, by omega, s1', HA, s2', HB⟩
                case measure => simp [intOf]; omega
            · have d1 : (f.n.toList != [104, 111, 115, 116]) = false := by unfold bne; rw [c1]; rfl
              obtain ⟨s1', s2'⟩ := HSK.out (by unfold Ms.keepB; rw [HPD.out, c1]; rfl)
              go_wp2
              go_roundw
              case rel => exact ⟨k + 1, c, fo, fc, by go_num, by omega, by omega, s1', HA, s2', HB⟩
              case measure => simp [intOf]; omega
          · obtain ⟨s1', s2'⟩ := HSK.out (by unfold Ms.keepB; rw [HPD.out]; rfl)
            go_wp2
            go_roundw
            case rel => exact ⟨k + 1, c, fo, fc, by go_num, by omega, by omega, s1', HA, s2', HB⟩
            case measure => simp [intOf]; omega
        · obtain rfl : k = n := by omega
          have hlt2 : ¬ (k : Int) < (k : Int) := by omega
          have HTK' : Hid (l.take k = l) := hid' (List.take_of_length_le (by rw [HN.out]; exact Nat.le_refl _))
          rw [HTK'.out] at HCN HO
          clear hlt
          go_wp2_with fail
          refine (HLE.out wr (H.out.keep HBW.out)).mono ?_
          rintro e w5 ⟨he, hb5⟩
          have HB5 := hid' (below_two HBW.out hb5)
          have HA5 := hid' (HA.out.keep hb5)
          have HO5 := hid' (own_same HO.out (fun j hj => hb5.block j (own_lt HO.out j hj)))
          have HR5 := hid' ((ar_bel HR1.out HB.out HRQ.out).keep hb5)
          subst he
          clear hb5 HA HO HB
          rcases o with _ | o'
          · have HE : Hid (Ms.twoE l = 142) := hid' (HE2.out.trans (by simp))
            simp only [Ms.lenV]
            have HRR : Hid (Ms.twoR l = Ms.rq0) := hid' (by unfold Ms.twoR; rw [HE.out]; rfl)
            go_wp2_with (refine wpl_store 25 _ _ rfl rfl rb (#[.string ⟨#[]⟩, .string ⟨#[]⟩, .string ⟨#[]⟩, .string ⟨#[]⟩, .slice none 0 0, .string ⟨#[]⟩, .slice none 0 0]) (by kernel_rfl) (by kernel_rfl) _ _ HR5.out sizeRq14 rfl (by simp [Value.oneCell']) ?_)
            intro w4 hA4 hU4
            have HB4 : Hid (Below w.heap.size w w4) := hid' (HB5.out.trans (hU4.below (by have := HRB.out; omega)))
            have o0 := hA4.cell 0 _ rfl
            have o1 := hA4.cell 1 _ rfl
            have o2 := hA4.cell 2 _ rfl
            have o3 := hA4.cell 3 _ rfl
            have o4 := hA4.cell 4 _ rfl
            have o5 := hA4.cell 5 _ rfl
            have o6 := hA4.cell 6 _ rfl
            clear hU4 hA4
            go_wp2
            exact bodyPost_ret (v := .tuple #[rqV Ms.rq0 (.slice none 0 0), .int .i64 142]) (by simp [results, Tryz.results9, go_sem, rqV, rqC, Ms.rq0, Ms.e0, o0, o1, o2, o3, o4, o5, o6]) rfl ⟨⟨_, ret_two14 (by rw [HRR.out]) HE.out.symm, by rw [HRR.out]; exact World.ownsRow_nil _ _ _ _⟩, HB4.out⟩
          · have HE : Hid (Ms.twoE l = 0) := hid' (HE2.out.trans (by simp))
            have HRR : Hid (Ms.twoR l = ⟨m, s, ho, p, Ms.keep l⟩) := hid' (by unfold Ms.twoR; rw [HE.out, HMM.out, HSS.out, HPP.out, HAV.out]; rfl)
            have p0 : w5.cell? ⟨qb, 0, none⟩ = some (.string m) := HA5.out.cell 0 _ rfl
            have p1 : w5.cell? ⟨qb, 1, none⟩ = some (.string s) := HA5.out.cell 1 _ rfl
            have p2 : w5.cell? ⟨qb, 2, none⟩ = some (.string ho) := HA5.out.cell 2 _ rfl
            have p3 : w5.cell? ⟨qb, 3, none⟩ = some (.string p) := HA5.out.cell 3 _ rfl
            have p4 : w5.cell? ⟨qb, 4, none⟩ = some (.slice fo c fc) := HA5.out.cell 4 _ rfl
            have p5 : w5.cell? ⟨qb, 5, none⟩ = some (.string ⟨#[]⟩) := HA5.out.cell 5 _ rfl
            have p6 : w5.cell? ⟨qb, 6, none⟩ = some (.slice none 0 0) := HA5.out.cell 6 _ rfl
            rcases o' with _ | x
            all_goals
              simp only [Ms.lenV]
              go_wp2_with (refine wpl_store 25 _ _ rfl rfl rb (#[.string m, .string s, .string ho, .string p, .slice fo c fc, .string ⟨#[]⟩, .slice none 0 0]) (by kernel_rfl) (by kernel_rfl) _ _ HR5.out sizeRq14 rfl (by simp [Value.oneCell']) ?_)
              intro w4 hA4 hU4
              have HB4 : Hid (Below w.heap.size w w4) := hid' (HB5.out.trans (hU4.below (by have := HRB.out; omega)))
              have HRW : Hid (w4.ownsRow w.heap.size 50 2 (.slice fo c fc) c (fC (Ms.keep l))) := hid' (own_base (own_same HO5.out (fun j hj => hU4.block j (by have := (own_ty HO5.out j hj).1; have := HRQ.out; omega))) HWQ.out)
              have o0 := hA4.cell 0 _ rfl
              have o1 := hA4.cell 1 _ rfl
              have o2 := hA4.cell 2 _ rfl
              have o3 := hA4.cell 3 _ rfl
              have o4 := hA4.cell 4 _ rfl
              have o5 := hA4.cell 5 _ rfl
              have o6 := hA4.cell 6 _ rfl
              clear hU4 hA4
              go_wp2
              exact bodyPost_ret (v := .tuple #[rqV ⟨m, s, ho, p, Ms.keep l⟩ (.slice fo c fc), .int .i64 0]) (by simp [results, Tryz.results9, go_sem, rqV, rqC, o0, o1, o2, o3, o4, o5, o6]) rfl ⟨⟨_, ret_two14 (by rw [HRR.out]) HE.out.symm, by rw [HRR.out, HCN.out]; exact HRW.out⟩, HB4.out⟩
    · have HAV : Hid (Ms.auth l = a) := hid' (HAU.out.trans (by simp))
      have HE2 : Hid (Ms.twoE l = if o.isNone then 142 else 0) := hid' (HE1.out.trans (by simp))
      clear HE1
      have hz1 := rq_zero w1
      have hbz1 := bl_alloc w1 (.cells (rqC ⟨#[]⟩ ⟨#[]⟩ ⟨#[]⟩ ⟨#[]⟩ (.slice none 0 0) ⟨#[]⟩ (.slice none 0 0)) 25)
      unfold rqC at hz1 hbz1
      have HZ1' := hid' hz1
      have HBZ1 := hid' hbz1
      clear hz1 hbz1
      go_wp2_with (refine wpl_store 25 _ _ rfl rfl w1.heap.size (#[.string m, .string s, .string a, .string p, .slice none 0 0, .string ⟨#[]⟩, .slice none 0 0]) (by kernel_rfl) (by kernel_rfl) _ _ HZ1'.out sizeRq14 rfl (by simp [Value.oneCell']) ?_)
      intro w2 hA2 hU2
      have HB2 : Hid (Below w1.heap.size w1 w2) := hid' (HBZ1.out.trans (hU2.below (Nat.le_refl _)))
      have HRQ : Hid (rb < w1.heap.size) := hid' HR1.out.lt
      obtain ⟨qb, hqb⟩ : ∃ qb, w1.heap.size = qb := ⟨_, rfl⟩
      have HQB := hid' hqb
      rw [hqb] at hA2 HB2 HRQ ⊢
      have HA2 : Hid (Ar w2 qb 25 (rqA m s a p (.slice none 0 0))) := hid' hA2
      have HWQ : Hid (w.heap.size ≤ qb) := hid' (by have := HRB.out; have := HRQ.out; omega)
      clear hA2 hU2 HZ1' HBZ1 hqb
      go_wp2
      go_loopw [16, 17] (fun s16 _ wr => ∃ (k c : Nat) (fo : Option Addr) (fc : Nat), s16 = .int .i64 (k : Int) ∧ k ≤ n ∧ c ≤ k ∧ Hid ((Ms.keep (l.take k)).length = c) ∧ Hid (Ar wr qb 25 (rqA m s a p (.slice fo c fc))) ∧ Hid (wr.ownsRow qb 50 2 (.slice fo c fc) c (fC (Ms.keep (l.take k)))) ∧ Hid (Below qb w1 wr)) (fun s16 _ _ => n - (intOf s16).toNat)
      case atStart => exact ⟨0, 0, none, 0, rfl, Nat.zero_le _, Nat.le_refl _, hid' rfl, HA2, hid' (World.ownsRow_nil _ _ _ _), HB2⟩
      case round =>
        obtain ⟨k, c, fo, fc, rfl, hk, hck, HCN, HA, HO, HB⟩ := hrel
        have HBW : Hid (Below w.heap.size w wr) := hid' (HB1.out.trans (HB.out.mono HWQ.out))
        by_cases hlt : k < n
        · have hlt2 : (k : Int) < (n : Int) := by omega
          obtain ⟨f, hf⟩ : ∃ f, l[k]? = some f := ⟨_, List.getElem?_eq_getElem (by rw [HN.out]; exact hlt)⟩
          obtain ⟨ad, hao, y0, y1⟩ := (H.out.keep HBW.out).two k f hf
          subst hao
          have HKT := hid' (Ms.keep_take hf)
          have HPS := hid' (HS.out f (List.mem_of_getElem? hf))
          obtain ⟨ps, hps⟩ : ∃ ps, Ms.psd f.n = ps := ⟨_, rfl⟩
          have HPD := hid' hps
          clear hf hps
          go_wp2_with fail
          refine (rpsd14 f.n ps HPD.out wr HPS.out.1).mono ?_
          rintro e w' ⟨rfl, hw⟩
          subst w'
          have hskip : Ms.keepB f = false → Hid ((Ms.keep (l.take (k + 1))).length = c) ∧ Hid (wr.ownsRow qb 50 2 (.slice fo c fc) c (fC (Ms.keep (l.take (k + 1))))) := fun e => by
            have hh := HKT.out
            rw [e, if_neg (by simp), List.append_nil] at hh
            exact ⟨hid' (by rw [hh]; exact HCN.out), hid' (by rw [hh]; exact HO.out)⟩
          have HSK := hid' hskip
          clear hskip
          cases ps
          · cases c1 : (f.n.toList == [104, 111, 115, 116])
            · have d1 : (f.n.toList != [104, 111, 115, 116]) = true := by unfold bne; rw [c1]; rfl
              cases c2 : (f.n.toList == [116, 101])
              · have d2 : (f.n.toList != [116, 101]) = true := by unfold bne; rw [c2]; rfl
                have hkb : Ms.keepB f = true := by unfold Ms.keepB; rw [HPD.out, c1, c2]; rfl
                have HKF : Hid (Ms.keep (l.take (k + 1)) = Ms.keep (l.take k) ++ [f]) := hid' (by have hh := HKT.out; rwa [hkb, if_pos rfl] at hh)
                obtain ⟨xs, hxs⟩ : ∃ xs, fC (Ms.keep (l.take k)) = xs := ⟨_, rfl⟩
                have HXS := hid' hxs
                rw [hxs] at HO
                clear hkb hxs HSK HKT
                have g4 : wr.cell? ⟨qb, 4, none⟩ = some (.slice fo c fc) := HA.out.cell 4 _ rfl
                have f4 := HA.out.free 4
                have HOB : Hid (∀ j, (Value.slice fo c fc).ownBlock = some j → j ≠ qb) := hid' (own_apart HO.out HA.out (by decide))
                have HQW : Hid (qb ≤ wr.heap.size) := hid' (Nat.le_of_lt HA.out.lt)
                obtain ⟨w00, hw00⟩ : ∃ w00, w00 = (wr.alloc (.cells #[.string f.n, .string f.v] 50)).drew := ⟨_, rfl⟩
                have hb00 : Below wr.heap.size wr w00 := by rw [hw00]; exact ((Below.refl _ _).alloc (Nat.le_refl _) _).drew
                have HW00 := hid' hw00
                have HO00 := hid' (HA.out.keep hb00)
                have HR00 : Hid (w00.ownsRow qb 50 2 (.slice fo c fc) c xs) := hid' (own_same HO.out (fun j hj => hb00.block j (own_lt HO.out j hj)))
                have HNW : Hid (∀ j u, [Value.string f.n, .string f.v][j]? = some u → w00.cell? ((⟨wr.heap.size, 0, none⟩ : Addr).add j) = some u) := hid' (by
                  intro j u hj
                  have hA : Ar w00 wr.heap.size 50 #[.string f.n, .string f.v] := by rw [hw00]; exact heap_alloc_last wr _
                  rw [Addr.add_mid, Nat.zero_add]
                  exact hA.cell j u (by simpa using hj))
                have HSZ : Hid (qb ≤ w00.heap.size) := hid' (Nat.le_trans HQW.out hb00.size)
                have HB00 : Hid (Below qb w1 w00) := hid' (HB.out.trans (hb00.mono HQW.out))
                rw [hw00] at HR00 HNW HSZ
                have g4' : (wr.alloc (.cells #[.string f.n, .string f.v] 50)).cell? ⟨qb, 4, none⟩ = some (.slice fo c fc) := ((bl_alloc wr _).cell (cell_lt g4)).trans g4
                clear hb00 hw00
                go_wp2
                go_region_law (refine step_app14 (by rfl) _ _ 22 (by rfl) qb 50 i0 (.agg #[.string ⟨#[]⟩, .string ⟨#[]⟩]) 2 32 Tryz.underlying22 HI.out HZ0.out HZ1.out HZ2.out (by rfl) (by decide) (.slice fo c fc) c xs (by rfl) HR00.out ⟨wr.heap.size, 0, none⟩ 1 1 [.string f.n, .string f.v] (by rfl) (by rfl) HNW.out (by simp [Value.oneCell']) (by unfold maxLen; omega) (by omega) HSZ.out ?_; intro v2 w3 hrow hgrow _; obtain ⟨v2o, v2c, hv2⟩ := own_shape hrow; subst hv2; have hO2 := ar_grown (HW00.out ▸ HO00.out) hgrow HOB.out; have c11 := hO2.cell 4 _ rfl; have e11 := hO2.free 4)
                all_goals
                  have HB2 : Hid (Below qb w1 w3) := hid' ((HW00.out ▸ HB00.out).grown hgrow HSZ.out (fun j hj => (own_ty HR00.out j hj).1))
                  have HO2 := hid' hO2
                  have HR2 := hid' hrow
                  clear hO2 hrow hgrow
                  go_wp2
                  go_roundw
                  case rel =>
                    have h2 : w3.ownsRow qb 50 2 (.slice v2o (c + 1) v2c) (c + 1) (fC (Ms.keep (l.take (k + 1)))) := by
                      rw [HKF.out, fC_append, HXS.out]
                      exact HR2.out
                    refine ⟨k + 1, c + 1, v2o, v2c, by go_num, by omega, by omega, hid' (by rw [HKF.out, List.length_append, HCN.out]; rfl), hid' ?_, hid' (own_same h2 (fun j hj => (upd_setCell w3 qb 4 _).block j (own_apart h2 HO2.out (by decide) j hj))), hid' (HB2.out.setCell (Nat.le_refl _) _)⟩
                    have h1 := HO2.out.set 4 (.slice v2o (c + 1) v2c)
                    exact h1
                  case measure => simp [intOf]; omega
              · have d2 : (f.n.toList != [116, 101]) = false := by unfold bne; rw [c2]; rfl
                obtain ⟨s1', s2'⟩ := HSK.out (by unfold Ms.keepB; rw [HPD.out, c1, c2]; rfl)
                go_wp2
                go_roundw
                case rel => exact ⟨k + 1, c, fo, fc, by go_num, by omega, by omega, s1', HA, s2', HB⟩
                case measure => simp [intOf]; omega
            · have d1 : (f.n.toList != [104, 111, 115, 116]) = false := by unfold bne; rw [c1]; rfl
              obtain ⟨s1', s2'⟩ := HSK.out (by unfold Ms.keepB; rw [HPD.out, c1]; rfl)
              go_wp2
              go_roundw
              case rel => exact ⟨k + 1, c, fo, fc, by go_num, by omega, by omega, s1', HA, s2', HB⟩
              case measure => simp [intOf]; omega
          · obtain ⟨s1', s2'⟩ := HSK.out (by unfold Ms.keepB; rw [HPD.out]; rfl)
            go_wp2
            go_roundw
            case rel => exact ⟨k + 1, c, fo, fc, by go_num, by omega, by omega, s1', HA, s2', HB⟩
            case measure => simp [intOf]; omega
        · obtain rfl : k = n := by omega
          have hlt2 : ¬ (k : Int) < (k : Int) := by omega
          have HTK' : Hid (l.take k = l) := hid' (List.take_of_length_le (by rw [HN.out]; exact Nat.le_refl _))
          rw [HTK'.out] at HCN HO
          clear hlt
          go_wp2_with fail
          refine (HLE.out wr (H.out.keep HBW.out)).mono ?_
          rintro e w5 ⟨he, hb5⟩
          have HB5 := hid' (below_two HBW.out hb5)
          have HA5 := hid' (HA.out.keep hb5)
          have HO5 := hid' (own_same HO.out (fun j hj => hb5.block j (own_lt HO.out j hj)))
          have HR5 := hid' ((ar_bel HR1.out HB.out HRQ.out).keep hb5)
          subst he
          clear hb5 HA HO HB
          rcases o with _ | o'
          · have HE : Hid (Ms.twoE l = 142) := hid' (HE2.out.trans (by simp))
            simp only [Ms.lenV]
            have HRR : Hid (Ms.twoR l = Ms.rq0) := hid' (by unfold Ms.twoR; rw [HE.out]; rfl)
            go_wp2_with (refine wpl_store 25 _ _ rfl rfl rb (#[.string ⟨#[]⟩, .string ⟨#[]⟩, .string ⟨#[]⟩, .string ⟨#[]⟩, .slice none 0 0, .string ⟨#[]⟩, .slice none 0 0]) (by kernel_rfl) (by kernel_rfl) _ _ HR5.out sizeRq14 rfl (by simp [Value.oneCell']) ?_)
            intro w4 hA4 hU4
            have HB4 : Hid (Below w.heap.size w w4) := hid' (HB5.out.trans (hU4.below (by have := HRB.out; omega)))
            have o0 := hA4.cell 0 _ rfl
            have o1 := hA4.cell 1 _ rfl
            have o2 := hA4.cell 2 _ rfl
            have o3 := hA4.cell 3 _ rfl
            have o4 := hA4.cell 4 _ rfl
            have o5 := hA4.cell 5 _ rfl
            have o6 := hA4.cell 6 _ rfl
            clear hU4 hA4
            go_wp2
            exact bodyPost_ret (v := .tuple #[rqV Ms.rq0 (.slice none 0 0), .int .i64 142]) (by simp [results, Tryz.results9, go_sem, rqV, rqC, Ms.rq0, Ms.e0, o0, o1, o2, o3, o4, o5, o6]) rfl ⟨⟨_, ret_two14 (by rw [HRR.out]) HE.out.symm, by rw [HRR.out]; exact World.ownsRow_nil _ _ _ _⟩, HB4.out⟩
          · have HE : Hid (Ms.twoE l = 0) := hid' (HE2.out.trans (by simp))
            have HRR : Hid (Ms.twoR l = ⟨m, s, a, p, Ms.keep l⟩) := hid' (by unfold Ms.twoR; rw [HE.out, HMM.out, HSS.out, HPP.out, HAV.out]; rfl)
            have p0 : w5.cell? ⟨qb, 0, none⟩ = some (.string m) := HA5.out.cell 0 _ rfl
            have p1 : w5.cell? ⟨qb, 1, none⟩ = some (.string s) := HA5.out.cell 1 _ rfl
            have p2 : w5.cell? ⟨qb, 2, none⟩ = some (.string a) := HA5.out.cell 2 _ rfl
            have p3 : w5.cell? ⟨qb, 3, none⟩ = some (.string p) := HA5.out.cell 3 _ rfl
            have p4 : w5.cell? ⟨qb, 4, none⟩ = some (.slice fo c fc) := HA5.out.cell 4 _ rfl
            have p5 : w5.cell? ⟨qb, 5, none⟩ = some (.string ⟨#[]⟩) := HA5.out.cell 5 _ rfl
            have p6 : w5.cell? ⟨qb, 6, none⟩ = some (.slice none 0 0) := HA5.out.cell 6 _ rfl
            rcases o' with _ | x
            all_goals
              simp only [Ms.lenV]
              go_wp2_with (refine wpl_store 25 _ _ rfl rfl rb (#[.string m, .string s, .string a, .string p, .slice fo c fc, .string ⟨#[]⟩, .slice none 0 0]) (by kernel_rfl) (by kernel_rfl) _ _ HR5.out sizeRq14 rfl (by simp [Value.oneCell']) ?_)
              intro w4 hA4 hU4
              have HB4 : Hid (Below w.heap.size w w4) := hid' (HB5.out.trans (hU4.below (by have := HRB.out; omega)))
              have HRW : Hid (w4.ownsRow w.heap.size 50 2 (.slice fo c fc) c (fC (Ms.keep l))) := hid' (own_base (own_same HO5.out (fun j hj => hU4.block j (by have := (own_ty HO5.out j hj).1; have := HRQ.out; omega))) HWQ.out)
              have o0 := hA4.cell 0 _ rfl
              have o1 := hA4.cell 1 _ rfl
              have o2 := hA4.cell 2 _ rfl
              have o3 := hA4.cell 3 _ rfl
              have o4 := hA4.cell 4 _ rfl
              have o5 := hA4.cell 5 _ rfl
              have o6 := hA4.cell 6 _ rfl
              clear hU4 hA4
              go_wp2
              exact bodyPost_ret (v := .tuple #[rqV ⟨m, s, a, p, Ms.keep l⟩ (.slice fo c fc), .int .i64 0]) (by simp [results, Tryz.results9, go_sem, rqV, rqC, o0, o1, o2, o3, o4, o5, o6]) rfl ⟨⟨_, ret_two14 (by rw [HRR.out]) HE.out.symm, by rw [HRR.out, HCN.out]; exact HRW.out⟩, HB4.out⟩
    · have HAV : Hid (Ms.auth l = a) := hid' (HAU.out.trans (by simp))
      have HE2 : Hid (Ms.twoE l = if o.isNone then 142 else 0) := hid' (HE1.out.trans (by simp))
      clear HE1
      have hz1 := rq_zero w1
      have hbz1 := bl_alloc w1 (.cells (rqC ⟨#[]⟩ ⟨#[]⟩ ⟨#[]⟩ ⟨#[]⟩ (.slice none 0 0) ⟨#[]⟩ (.slice none 0 0)) 25)
      unfold rqC at hz1 hbz1
      have HZ1' := hid' hz1
      have HBZ1 := hid' hbz1
      clear hz1 hbz1
      go_wp2_with (refine wpl_store 25 _ _ rfl rfl w1.heap.size (#[.string m, .string s, .string a, .string p, .slice none 0 0, .string ⟨#[]⟩, .slice none 0 0]) (by kernel_rfl) (by kernel_rfl) _ _ HZ1'.out sizeRq14 rfl (by simp [Value.oneCell']) ?_)
      intro w2 hA2 hU2
      have HB2 : Hid (Below w1.heap.size w1 w2) := hid' (HBZ1.out.trans (hU2.below (Nat.le_refl _)))
      have HRQ : Hid (rb < w1.heap.size) := hid' HR1.out.lt
      obtain ⟨qb, hqb⟩ : ∃ qb, w1.heap.size = qb := ⟨_, rfl⟩
      have HQB := hid' hqb
      rw [hqb] at hA2 HB2 HRQ ⊢
      have HA2 : Hid (Ar w2 qb 25 (rqA m s a p (.slice none 0 0))) := hid' hA2
      have HWQ : Hid (w.heap.size ≤ qb) := hid' (by have := HRB.out; have := HRQ.out; omega)
      clear hA2 hU2 HZ1' HBZ1 hqb
      go_wp2
      go_loopw [16, 17] (fun s16 _ wr => ∃ (k c : Nat) (fo : Option Addr) (fc : Nat), s16 = .int .i64 (k : Int) ∧ k ≤ n ∧ c ≤ k ∧ Hid ((Ms.keep (l.take k)).length = c) ∧ Hid (Ar wr qb 25 (rqA m s a p (.slice fo c fc))) ∧ Hid (wr.ownsRow qb 50 2 (.slice fo c fc) c (fC (Ms.keep (l.take k)))) ∧ Hid (Below qb w1 wr)) (fun s16 _ _ => n - (intOf s16).toNat)
      case atStart => exact ⟨0, 0, none, 0, rfl, Nat.zero_le _, Nat.le_refl _, hid' rfl, HA2, hid' (World.ownsRow_nil _ _ _ _), HB2⟩
      case round =>
        obtain ⟨k, c, fo, fc, rfl, hk, hck, HCN, HA, HO, HB⟩ := hrel
        have HBW : Hid (Below w.heap.size w wr) := hid' (HB1.out.trans (HB.out.mono HWQ.out))
        by_cases hlt : k < n
        · have hlt2 : (k : Int) < (n : Int) := by omega
          obtain ⟨f, hf⟩ : ∃ f, l[k]? = some f := ⟨_, List.getElem?_eq_getElem (by rw [HN.out]; exact hlt)⟩
          obtain ⟨ad, hao, y0, y1⟩ := (H.out.keep HBW.out).two k f hf
          subst hao
          have HKT := hid' (Ms.keep_take hf)
          have HPS := hid' (HS.out f (List.mem_of_getElem? hf))
          obtain ⟨ps, hps⟩ : ∃ ps, Ms.psd f.n = ps := ⟨_, rfl⟩
          have HPD := hid' hps
          clear hf hps
          go_wp2_with fail
          refine (rpsd14 f.n ps HPD.out wr HPS.out.1).mono ?_
          rintro e w' ⟨rfl, hw⟩
          subst w'
          have hskip : Ms.keepB f = false → Hid ((Ms.keep (l.take (k + 1))).length = c) ∧ Hid (wr.ownsRow qb 50 2 (.slice fo c fc) c (fC (Ms.keep (l.take (k + 1))))) := fun e => by
            have hh := HKT.out
            rw [e, if_neg (by simp), List.append_nil] at hh
            exact ⟨hid' (by rw [hh]; exact HCN.out), hid' (by rw [hh]; exact HO.out)⟩
          have HSK := hid' hskip
          clear hskip
          cases ps
          · cases c1 : (f.n.toList == [104, 111, 115, 116])
            · have d1 : (f.n.toList != [104, 111, 115, 116]) = true := by unfold bne; rw [c1]; rfl
              cases c2 : (f.n.toList == [116, 101])
              · have d2 : (f.n.toList != [116, 101]) = true := by unfold bne; rw [c2]; rfl
                have hkb : Ms.keepB f = true := by unfold Ms.keepB; rw [HPD.out, c1, c2]; rfl
                have HKF : Hid (Ms.keep (l.take (k + 1)) = Ms.keep (l.take k) ++ [f]) := hid' (by have hh := HKT.out; rwa [hkb, if_pos rfl] at hh)
                obtain ⟨xs, hxs⟩ : ∃ xs, fC (Ms.keep (l.take k)) = xs := ⟨_, rfl⟩
                have HXS := hid' hxs
                rw [hxs] at HO
                clear hkb hxs HSK HKT
                have g4 : wr.cell? ⟨qb, 4, none⟩ = some (.slice fo c fc) := HA.out.cell 4 _ rfl
                have f4 := HA.out.free 4
                have HOB : Hid (∀ j, (Value.slice fo c fc).ownBlock = some j → j ≠ qb) := hid' (own_apart HO.out HA.out (by decide))
                have HQW : Hid (qb ≤ wr.heap.size) := hid' (Nat.le_of_lt HA.out.lt)
                obtain ⟨w00, hw00⟩ : ∃ w00, w00 = (wr.alloc (.cells #[.string f.n, .string f.v] 50)).drew := ⟨_, rfl⟩
                have hb00 : Below wr.heap.size wr w00 := by rw [hw00]; exact ((Below.refl _ _).alloc (Nat.le_refl _) _).drew
                have HW00 := hid' hw00
                have HO00 := hid' (HA.out.keep hb00)
                have HR00 : Hid (w00.ownsRow qb 50 2 (.slice fo c fc) c xs) := hid' (own_same HO.out (fun j hj => hb00.block j (own_lt HO.out j hj)))
                have HNW : Hid (∀ j u, [Value.string f.n, .string f.v][j]? = some u → w00.cell? ((⟨wr.heap.size, 0, none⟩ : Addr).add j) = some u) := hid' (by
                  intro j u hj
                  have hA : Ar w00 wr.heap.size 50 #[.string f.n, .string f.v] := by rw [hw00]; exact heap_alloc_last wr _
                  rw [Addr.add_mid, Nat.zero_add]
                  exact hA.cell j u (by simpa using hj))
                have HSZ : Hid (qb ≤ w00.heap.size) := hid' (Nat.le_trans HQW.out hb00.size)
                have HB00 : Hid (Below qb w1 w00) := hid' (HB.out.trans (hb00.mono HQW.out))
                rw [hw00] at HR00 HNW HSZ
                have g4' : (wr.alloc (.cells #[.string f.n, .string f.v] 50)).cell? ⟨qb, 4, none⟩ = some (.slice fo c fc) := ((bl_alloc wr _).cell (cell_lt g4)).trans g4
                clear hb00 hw00
                go_wp2
                go_region_law (refine step_app14 (by rfl) _ _ 22 (by rfl) qb 50 i0 (.agg #[.string ⟨#[]⟩, .string ⟨#[]⟩]) 2 32 Tryz.underlying22 HI.out HZ0.out HZ1.out HZ2.out (by rfl) (by decide) (.slice fo c fc) c xs (by rfl) HR00.out ⟨wr.heap.size, 0, none⟩ 1 1 [.string f.n, .string f.v] (by rfl) (by rfl) HNW.out (by simp [Value.oneCell']) (by unfold maxLen; omega) (by omega) HSZ.out ?_; intro v2 w3 hrow hgrow _; obtain ⟨v2o, v2c, hv2⟩ := own_shape hrow; subst hv2; have hO2 := ar_grown (HW00.out ▸ HO00.out) hgrow HOB.out; have c11 := hO2.cell 4 _ rfl; have e11 := hO2.free 4)
                all_goals
                  have HB2 : Hid (Below qb w1 w3) := hid' ((HW00.out ▸ HB00.out).grown hgrow HSZ.out (fun j hj => (own_ty HR00.out j hj).1))
                  have HO2 := hid' hO2
                  have HR2 := hid' hrow
                  clear hO2 hrow hgrow
                  go_wp2
                  go_roundw
                  case rel =>
                    have h2 : w3.ownsRow qb 50 2 (.slice v2o (c + 1) v2c) (c + 1) (fC (Ms.keep (l.take (k + 1)))) := by
                      rw [HKF.out, fC_append, HXS.out]
                      exact HR2.out
                    refine ⟨k + 1, c + 1, v2o, v2c, by go_num, by omega, by omega, hid' (by rw [HKF.out, List.length_append, HCN.out]; rfl), hid' ?_, hid' (own_same h2 (fun j hj => (upd_setCell w3 qb 4 _).block j (own_apart h2 HO2.out (by decide) j hj))), hid' (HB2.out.setCell (Nat.le_refl _) _)⟩
                    have h1 := HO2.out.set 4 (.slice v2o (c + 1) v2c)
                    exact h1
                  case measure => simp [intOf]; omega
              · have d2 : (f.n.toList != [116, 101]) = false := by unfold bne; rw [c2]; rfl
                obtain ⟨s1', s2'⟩ := HSK.out (by unfold Ms.keepB; rw [HPD.out, c1, c2]; rfl)
                go_wp2
                go_roundw
                case rel => exact ⟨k + 1, c, fo, fc, by go_num, by omega, by omega, s1', HA, s2', HB⟩
                case measure => simp [intOf]; omega
            · have d1 : (f.n.toList != [104, 111, 115, 116]) = false := by unfold bne; rw [c1]; rfl
              obtain ⟨s1', s2'⟩ := HSK.out (by unfold Ms.keepB; rw [HPD.out, c1]; rfl)
              go_wp2
              go_roundw
              case rel => exact ⟨k + 1, c, fo, fc, by go_num, by omega, by omega, s1', HA, s2', HB⟩
              case measure => simp [intOf]; omega
          · obtain ⟨s1', s2'⟩ := HSK.out (by unfold Ms.keepB; rw [HPD.out]; rfl)
            go_wp2
            go_roundw
            case rel => exact ⟨k + 1, c, fo, fc, by go_num, by omega, by omega, s1', HA, s2', HB⟩
            case measure => simp [intOf]; omega
        · obtain rfl : k = n := by omega
          have hlt2 : ¬ (k : Int) < (k : Int) := by omega
          have HTK' : Hid (l.take k = l) := hid' (List.take_of_length_le (by rw [HN.out]; exact Nat.le_refl _))
          rw [HTK'.out] at HCN HO
          clear hlt
          go_wp2_with fail
          refine (HLE.out wr (H.out.keep HBW.out)).mono ?_
          rintro e w5 ⟨he, hb5⟩
          have HB5 := hid' (below_two HBW.out hb5)
          have HA5 := hid' (HA.out.keep hb5)
          have HO5 := hid' (own_same HO.out (fun j hj => hb5.block j (own_lt HO.out j hj)))
          have HR5 := hid' ((ar_bel HR1.out HB.out HRQ.out).keep hb5)
          subst he
          clear hb5 HA HO HB
          rcases o with _ | o'
          · have HE : Hid (Ms.twoE l = 142) := hid' (HE2.out.trans (by simp))
            simp only [Ms.lenV]
            have HRR : Hid (Ms.twoR l = Ms.rq0) := hid' (by unfold Ms.twoR; rw [HE.out]; rfl)
            go_wp2_with (refine wpl_store 25 _ _ rfl rfl rb (#[.string ⟨#[]⟩, .string ⟨#[]⟩, .string ⟨#[]⟩, .string ⟨#[]⟩, .slice none 0 0, .string ⟨#[]⟩, .slice none 0 0]) (by kernel_rfl) (by kernel_rfl) _ _ HR5.out sizeRq14 rfl (by simp [Value.oneCell']) ?_)
            intro w4 hA4 hU4
            have HB4 : Hid (Below w.heap.size w w4) := hid' (HB5.out.trans (hU4.below (by have := HRB.out; omega)))
            have o0 := hA4.cell 0 _ rfl
            have o1 := hA4.cell 1 _ rfl
            have o2 := hA4.cell 2 _ rfl
            have o3 := hA4.cell 3 _ rfl
            have o4 := hA4.cell 4 _ rfl
            have o5 := hA4.cell 5 _ rfl
            have o6 := hA4.cell 6 _ rfl
            clear hU4 hA4
            go_wp2
            exact bodyPost_ret (v := .tuple #[rqV Ms.rq0 (.slice none 0 0), .int .i64 142]) (by simp [results, Tryz.results9, go_sem, rqV, rqC, Ms.rq0, Ms.e0, o0, o1, o2, o3, o4, o5, o6]) rfl ⟨⟨_, ret_two14 (by rw [HRR.out]) HE.out.symm, by rw [HRR.out]; exact World.ownsRow_nil _ _ _ _⟩, HB4.out⟩
          · have HE : Hid (Ms.twoE l = 0) := hid' (HE2.out.trans (by simp))
            have HRR : Hid (Ms.twoR l = ⟨m, s, a, p, Ms.keep l⟩) := hid' (by unfold Ms.twoR; rw [HE.out, HMM.out, HSS.out, HPP.out, HAV.out]; rfl)
            have p0 : w5.cell? ⟨qb, 0, none⟩ = some (.string m) := HA5.out.cell 0 _ rfl
            have p1 : w5.cell? ⟨qb, 1, none⟩ = some (.string s) := HA5.out.cell 1 _ rfl
            have p2 : w5.cell? ⟨qb, 2, none⟩ = some (.string a) := HA5.out.cell 2 _ rfl
            have p3 : w5.cell? ⟨qb, 3, none⟩ = some (.string p) := HA5.out.cell 3 _ rfl
            have p4 : w5.cell? ⟨qb, 4, none⟩ = some (.slice fo c fc) := HA5.out.cell 4 _ rfl
            have p5 : w5.cell? ⟨qb, 5, none⟩ = some (.string ⟨#[]⟩) := HA5.out.cell 5 _ rfl
            have p6 : w5.cell? ⟨qb, 6, none⟩ = some (.slice none 0 0) := HA5.out.cell 6 _ rfl
            rcases o' with _ | x
            all_goals
              simp only [Ms.lenV]
              go_wp2_with (refine wpl_store 25 _ _ rfl rfl rb (#[.string m, .string s, .string a, .string p, .slice fo c fc, .string ⟨#[]⟩, .slice none 0 0]) (by kernel_rfl) (by kernel_rfl) _ _ HR5.out sizeRq14 rfl (by simp [Value.oneCell']) ?_)
              intro w4 hA4 hU4
              have HB4 : Hid (Below w.heap.size w w4) := hid' (HB5.out.trans (hU4.below (by have := HRB.out; omega)))
              have HRW : Hid (w4.ownsRow w.heap.size 50 2 (.slice fo c fc) c (fC (Ms.keep l))) := hid' (own_base (own_same HO5.out (fun j hj => hU4.block j (by have := (own_ty HO5.out j hj).1; have := HRQ.out; omega))) HWQ.out)
              have o0 := hA4.cell 0 _ rfl
              have o1 := hA4.cell 1 _ rfl
              have o2 := hA4.cell 2 _ rfl
              have o3 := hA4.cell 3 _ rfl
              have o4 := hA4.cell 4 _ rfl
              have o5 := hA4.cell 5 _ rfl
              have o6 := hA4.cell 6 _ rfl
              clear hU4 hA4
              go_wp2
              exact bodyPost_ret (v := .tuple #[rqV ⟨m, s, a, p, Ms.keep l⟩ (.slice fo c fc), .int .i64 0]) (by simp [results, Tryz.results9, go_sem, rqV, rqC, o0, o1, o2, o3, o4, o5, o6]) rfl ⟨⟨_, ret_two14 (by rw [HRR.out]) HE.out.symm, by rw [HRR.out, HCN.out]; exact HRW.out⟩, HB4.out⟩

end Go.Proofs.YtcljepppdljnlaaGreatDoor
