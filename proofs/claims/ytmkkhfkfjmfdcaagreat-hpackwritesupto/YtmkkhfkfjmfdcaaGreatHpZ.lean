/-
  Encoder.represent as a whole; Encoder.Write, Encoder.Limit: by their contracts.
-/
import Derived.Test.YtmkkhfkfjmfdcaaGreatHpY
namespace Go.Proofs.YtmkkhfkfjmfdcaaGreat
namespace Hp
theorem one_len2 (M : Nat) (fs : List (List UInt8 × List UInt8)) (f : List UInt8 × List UInt8) (hs : Tb.size fs ≤ 65536) (h1 : f.1.length ≤ 134217728) (h2 : f.2.length ≤ 134217728) : (one Pm.str M fs f).1.length ≤ Tb.wt f := by
  have hk : (Tb.find fs f).1 ≤ 2147483647 := by have := find_le fs f; have := Tb.size_len fs; omega
  have ht : ∀ h b, ((Pm.num h b (Tb.find fs f).1) ++ texts Pm.str (Tb.find fs f).1 f).length ≤ Tb.wt f := by
    intro h b
    have := (Pm.num_length h b _ hk).2
    have s1 := (Pm.str_length f.1 (by omega)).2
    have s2 := (Pm.str_length f.2 (by omega)).2
    unfold texts Tb.wt
    rw [List.length_append, List.length_append]
    split
    · omega
    · simp only [List.length_nil]; omega
  unfold one
  split
  · exact ht _ _
  · split
    · have := (Pm.num_length 128 7 _ hk).2
      unfold Tb.wt
      simp only
      omega
    · split
      · exact ht _ _
      · exact ht _ _
theorem many_len2 (M : Nat) (hM : M ≤ 65536) (l : List (List UInt8 × List UInt8)) : ∀ fs, Tb.size fs ≤ M → (∀ f ∈ l, f.1.length ≤ 134217728 ∧ f.2.length ≤ 134217728) → (many Pm.str M fs l).1.length ≤ Tb.size l := by
  induction l with
  | nil => intro fs _ _; simp [many]
  | cons f r ih =>
    intro fs hs hb
    simp only [many, List.length_append, Tb.size_cons]
    have h1 := one_len2 M fs f (by omega) (hb f (by simp)).1 (hb f (by simp)).2
    have h2 := ih (one Pm.str M fs f).2 (one_size Pm.str M fs f hs) (fun g hg => hb g (by simp [hg]))
    omega
end Hp
open Go.RowKit

theorem rep_any (B d b : Nat) (v : Value) (least told M : Nat) (fs : List (List UInt8 × List UInt8)) (n val : List UInt8) (w : World) (h : CE w B d b v least told M fs) (hs : Tb.size fs ≤ M) (hM : M ≤ 65536) (hB : B ≤ w.heap.size) (hn : n.length ≤ 134217728) (hv : val.length ≤ 134217728) (s : List UInt8) (gs : List (List UInt8 × List UInt8)) (ho : Hp.one Pm.str M fs (n, val) = (s, gs)) :
    Calls Tryz.prog 22 #[.pointer (some ⟨d, 0, none⟩), .agg #[.string ⟨n.toArray⟩, .string ⟨val.toArray⟩]] w fun e w' => e = .returned (.string ⟨s.toArray⟩) ∧ ∃ v', CE w' B d b v' least told M gs ∧ (∀ k, v'.ownBlock = some k → v.ownBlock = some k ∨ w.heap.size ≤ k) ∧ Two b v.ownBlock w w' := by
  have hs2 : Tb.size fs ≤ 65536 := Nat.le_trans hs hM
  obtain ⟨k, wh, hk⟩ : ∃ k wh, Tb.find fs (n, val) = (k, wh) := ⟨_, _, rfl⟩
  unfold Hp.one at ho
  rw [hk] at ho
  simp only at ho
  have plain : ∀ (K : Nat) (x : UInt8) (hx : x.toNat = K) (hx4 : (Hp.kind x).2 = 4) (hK16 : K % 16 = 0) (hK1 : ((K : Int) == 128) = false) (hK2 : ((K : Int) == 64) = false) (hK : kindOf M n val wh = K) (hs' : Pm.num K 4 k ++ Hp.texts Pm.str k (n, val) = s) (hg : fs = gs),
      Calls Tryz.prog 22 #[.pointer (some ⟨d, 0, none⟩), .agg #[.string ⟨n.toArray⟩, .string ⟨val.toArray⟩]] w fun e w' => e = .returned (.string ⟨s.toArray⟩) ∧ ∃ v', CE w' B d b v' least told M gs ∧ (∀ k, v'.ownBlock = some k → v.ownBlock = some k ∨ w.heap.size ≤ k) ∧ Two b v.ownBlock w w' := by
    intro K x hx hx4 hK16 hK1 hK2 hK hs' hg
    subst hg
    unfold Hp.texts at hs'
    by_cases hz : k = 0
    · rw [if_pos hz, ← List.append_assoc] at hs'
      simp only at hs'
      refine (rep_plain0 B d b v least told M fs n val k wh w h hs2 hk hn hv K x hx hx4 hK16 hK1 hK2 hK hz).mono ?_
      rintro e w' ⟨rfl, hb⟩
      rw [hs']
      exact ⟨rfl, v, h.keep hb, fun _ h => .inl h, Two.of_below hb⟩
    · rw [if_neg hz, List.nil_append] at hs'
      simp only at hs'
      refine (rep_plain B d b v least told M fs n val k wh w h hs2 hk hn hv K x hx hx4 hK16 hK1 hK2 hK hz).mono ?_
      rintro e w' ⟨rfl, hb⟩
      rw [hs']
      exact ⟨rfl, v, h.keep hb, fun _ h => .inl h, Two.of_below hb⟩
  by_cases c1 : Hp.never n = true
  · rw [if_pos c1] at ho
    injection ho with h1 h2
    exact plain 16 16 rfl rfl rfl rfl rfl (by unfold kindOf; rw [if_pos c1]) h1 h2
  · rw [if_neg c1] at ho
    by_cases c2 : wh = true
    · rw [if_pos c2] at ho
      injection ho with h1 h2
      subst h2
      refine (rep_ind B d b v least told M fs n val k wh w h hs2 hk hn hv (by unfold kindOf; rw [if_neg c1, if_pos c2])).mono ?_
      rintro e w' ⟨rfl, hb⟩
      rw [h1]
      exact ⟨rfl, v, h.keep hb, fun _ h => .inl h, Two.of_below hb⟩
    · rw [if_neg c2] at ho
      by_cases c3 : Hp.nots n = true ∨ M < Tb.wt (n, val)
      · rw [if_pos c3] at ho
        injection ho with h1 h2
        exact plain 0 0 rfl rfl rfl rfl rfl (by unfold kindOf; rw [if_neg c1, if_neg c2, if_pos c3]) h1 h2
      · rw [if_neg c3] at ho
        injection ho with h1 h2
        subst h2
        have hK : kindOf M n val wh = 64 := by unfold kindOf; rw [if_neg c1, if_neg c2, if_neg c3]
        unfold Hp.texts at h1
        by_cases hz : k = 0
        · rw [if_pos hz, ← List.append_assoc] at h1
          simp only at h1
          rw [← h1]
          exact rep_add0 B d b v least told M fs n val k wh w h hs2 hk hn hv hK hz hM hB
        · rw [if_neg hz, List.nil_append] at h1
          simp only at h1
          rw [← h1]
          exact rep_add B d b v least told M fs n val k wh w h hs2 hk hn hv hK hz hM hB

def WInv (w wr : World) (B d b : Nat) (v : Value) (M bb : Nat) (l : List (List UInt8 × List UInt8)) (tot : List UInt8) (fsf : List (List UInt8 × List UInt8)) (i : Nat) : Prop :=
  ∃ v' fs' acc, CE wr B d b v' M M M fs' ∧ (∀ k, v'.ownBlock = some k → v.ownBlock = some k ∨ w.heap.size ≤ k) ∧ Bld wr w.heap.size bb acc ∧ Fr (RSet d b v) w wr ∧ Tb.size fs' ≤ M ∧ acc ++ (Hp.many Pm.str M fs' (l.drop i)).1 = tot ∧ (Hp.many Pm.str M fs' (l.drop i)).2 = fsf

set_option maxHeartbeats 2000000 in
set_option maxRecDepth 20000 in
theorem write_any (B d b : Nat) (v : Value) (least told M : Nat) (fs : List (List UInt8 × List UInt8)) (w : World) (h : CE w B d b v least told M fs) (hle : least ≤ 65536) (hM : M ≤ 65536) (hs : Tb.size fs ≤ M) (hB : B ≤ w.heap.size)
    (B3 : Nat) (ao : Option Addr) (cap : Nat) (l : List (List UInt8 × List UInt8)) (hsl : Sl w B3 54 2 (.slice ao l.length cap) l.length (Tb.cells l)) (hav : ∀ k, (Value.slice ao l.length cap).ownBlock = some k → v.ownBlock ≠ some k)
    (hb : ∀ f ∈ l, f.1.length ≤ 134217728 ∧ f.2.length ≤ 134217728) (hsum : Tb.size l ≤ 35184372088832)
    (tot : List UInt8) (fsf : List (List UInt8 × List UInt8)) (htot : Hp.head told least M ++ (Hp.many Pm.str M fs l).1 = tot) (hfsf : (Hp.many Pm.str M fs l).2 = fsf) :
    Calls Tryz.prog 9 #[.pointer (some ⟨d, 0, none⟩), .slice ao l.length cap] w fun e w' => e = .returned (.string ⟨tot.toArray⟩) ∧ ∃ v', CE w' B d b v' M M M fsf ∧ (∀ k, v'.ownBlock = some k → v.ownBlock = some k ∨ w.heap.size ≤ k) ∧ Fr (RSet d b v) w w' := by
  have htl : tot.length ≤ 70368744177664 := by
    rw [← htot, List.length_append]
    have h1 := Hp.many_len2 M hM l fs hs hb
    have h2 : (Hp.head told least M).length ≤ 12 := by
      have e1 := (Pm.num_length 32 5 least (by omega)).2
      have e2 := (Pm.num_length 32 5 M (by omega)).2
      unfold Hp.head
      split
      · rw [List.length_append]; omega
      · split
        · omega
        · simp
    omega
  obtain ⟨n, hnl⟩ : ∃ n, l.length = n := ⟨_, rfl⟩
  have hnb : n ≤ 35184372088832 := by have := Tb.size_len l; omega
  obtain ⟨hd, hhd⟩ : ∃ hd, Hp.head told least M = hd := ⟨_, rfl⟩
  rw [hhd] at htot
  rw [hnl] at hsl hav ⊢
  have hb0 : Below w.heap.size w (w.alloc (.cells #[.pointer none, .slice none 0 0] 59)) := (Below.refl _ _).alloc (Nat.le_refl _) _
  have hA : Ar (w.alloc (.cells #[.pointer none, .slice none 0 0] 59)) w.heap.size 59 #[.pointer none, .slice none 0 0] := heap_alloc_last w _
  have HB0 := hid' hb0
  have HBLD := hid' (bld_new w w.heap.size _ (Nat.le_refl _) hA)
  have H0 := hid' (h.keep hb0)
  have H := hid' h
  have HLE := hid' hle
  have HM := hid' hM
  have HS := hid' hs
  have HB := hid' hB
  have HSL := hid' hsl
  have HAV := hid' hav
  have HBF := hid' hb
  have HTOT := hid' htot
  have HFSF := hid' hfsf
  have HTL := hid' htl
  have HHD := hid' hhd
  have HNL := hid' hnl
  clear h hle hM hs hB hsl hav hb hsum htot hfsf htl hhd hb0 hA hnl
  go_enter Tryz.func9, Tryz.ntmps9
  go_wp2_with fail
  obtain ⟨bb, hbb⟩ : ∃ bb, w.heap.size = bb := ⟨_, rfl⟩
  have HBB := hid' hbb
  have HBLD2 : Hid (Bld (w.alloc (.cells #[.pointer none, .slice none 0 0] 59)) w.heap.size bb []) := hid' (by rw [← hbb]; exact HBLD.out)
  rw [hbb]
  clear hbb HBLD
  generalize (w.alloc (.cells #[.pointer none, .slice none 0 0] 59)) = w0 at *
  refine (updates_any B d b v least told M fs _ H0.out HLE.out HM.out hd HHD.out).mono ?_
  rintro e w1 ⟨rfl, hC1, hf1⟩
  have HC1 := hid' hC1
  have hdb : d ≠ bb := by have := H.out.obj.lt; have := HBB.out; omega
  have HDB := hid' hdb
  have HF1 : Hid (Fr (RSet d b v) w w1) := hid' ((Fr.of_below (S := RSet d b v) HB0.out).and (hf1.mono (fun k hk => .inl hk)))
  have HBL1 : Hid (Bld w1 w.heap.size bb []) := hid' (bld_fr HBLD2.out hf1 (fun e => hdb e.symm) (fun k cs hk e => hk.ne H0.out.obj (by decide) e))
  clear hC1 hf1 hdb HBLD2
  go_wp2_with fail
  refine (writeString_any w.heap.size bb [] hd _ HBL1.out (by have := congrArg List.length HTOT.out; have := HTL.out; rw [List.length_append] at *; simp only [List.length_nil]; omega) HF1.out.size).mono ?_
  rintro e w2 ⟨rfl, hL2, hb2, hu2⟩
  obtain ⟨p1, q1, hO1⟩ := bld_obj HBL1.out
  have HI : Hid (WInv w w2 B d b v M bb l tot fsf 0) := hid' ⟨v, fs, hd, ⟨HC1.out.ge, hu2.ar HC1.out.obj (HC1.out.obj.ne hO1 (by decide)) (by decide), hu2.ct HC1.out.tab hO1⟩, fun k hk => .inl hk, by simpa using hL2, ⟨hb2.os.trans HF1.out.os, hb2.tape.trans HF1.out.tape, hb2.output.trans HF1.out.output, Nat.le_trans HF1.out.size hb2.size, fun k hk hn => (hb2.block k hk).trans (HF1.out.block k hk hn)⟩, HS.out, by simpa using HTOT.out, by simpa using HFSF.out⟩
  clear hL2 hb2 hu2 hO1 HBL1 HF1 HC1
  go_wp2
  go_loopw [15] (fun s15 wr => ∃ i : Nat, s15 = .int .i64 (i : Int) ∧ i ≤ n ∧ Hid (WInv w wr B d b v M bb l tot fsf i)) (fun s15 _ => n - (intOf s15).toNat)
  case atStart => exact ⟨0, rfl, Nat.zero_le _, HI⟩
  case round =>
    clear HI
    obtain ⟨i, rfl, hin, hinv⟩ := hrel
    obtain ⟨v', fs', acc, hC, hv, hL, hF, hsz, htt, hff⟩ := Hid.out hinv
    clear hinv
    have HC := hid' hC
    have HV := hid' hv
    have HL := hid' hL
    have HF := hid' hF
    have HSZ := hid' hsz
    have HTT := hid' htt
    have HFF := hid' hff
    clear hC hv hL hF hsz htt hff
    by_cases hlt : i < n
    · obtain ⟨g, q, cap', hao, hcc, hmx, hge, hgl⟩ := HSL.out.form (by omega)
      have hil : i < l.length := by have := HNL.out; omega
      obtain ⟨f, hf⟩ : ∃ f, l[i]? = some f := ⟨_, List.getElem?_eq_getElem hil⟩
      obtain ⟨fn, fv⟩ := f
      have hfm : (fn, fv) ∈ l := List.mem_of_getElem? hf
      obtain ⟨hf1, hf2⟩ := HBF.out _ hfm
      simp only at hf1 hf2
      have hdrop : l.drop i = (fn, fv) :: l.drop (i + 1) := by
        rw [List.drop_eq_getElem_cons hil]
        have : l[i] = (fn, fv) := by rw [List.getElem?_eq_getElem hil] at hf; exact Option.some.inj hf
        rw [this]
      obtain ⟨s1, gs1, ho1⟩ : ∃ s1 gs1, Hp.one Pm.str M fs' (fn, fv) = (s1, gs1) := ⟨_, _, rfl⟩
      have HT1 : Hid (acc ++ s1 ++ (Hp.many Pm.str M gs1 (l.drop (i + 1))).1 = tot ∧ (Hp.many Pm.str M gs1 (l.drop (i + 1))).2 = fsf) := hid' (by
        have h1 := HTT.out
        have h2 := HFF.out
        rw [hdrop] at h1 h2
        simp only [Hp.many, ho1] at h1 h2
        exact ⟨by rw [List.append_assoc]; exact h1, h2⟩)
      have hslr := HF.out.sl HSL.out (fun k hk => by
        rintro (e | e | e)
        · exact HSL.out.nak H.out.obj (by decide) k hk e
        · exact HSL.out.nak H.out.tab.ring.obj (by decide) k hk e
        · exact HAV.out k hk e)
      injection hao with hao1 hao2 hao3
      subst hao1 hao3
      obtain ⟨e0, e1⟩ := Tb.cells_at _ _ _ hf
      simp only at e0 e1
      have c0 : wr.cell? ⟨g, q + i * 2, none⟩ = some (.string ⟨fn.toArray⟩) := (hslr.cellAt (i * 2) (by omega)).trans e0
      have c1 : wr.cell? ⟨g, q + i * 2 + 1, none⟩ = some (.string ⟨fv.toArray⟩) := (hslr.cellAt (i * 2 + 1) (by omega)).trans e1
      have hlt2 : decide ((i : Int) < (n : Int)) = true := decide_eq_true (by omega)
      have hlt3 : decide (i < n) = true := decide_eq_true hlt
      have HLT := hid' hlt
      have HO1 := hid' ho1
      have HF1 := hid' hf1
      have HF2 := hid' hf2
      have HONES := hid' (Hp.one_size Pm.str M fs' (fn, fv) HSZ.out)
      have hltI : (i : Int) < (n : Int) := by omega
      clear hil hf hfm hf1 hf2 hdrop ho1 hslr e0 e1 hao2 hcc hmx hge hgl
      go_wp2_with fail
      have hb4 : Below wr.heap.size wr (wr.alloc (.cells #[.string ⟨fn.toArray⟩, .string ⟨fv.toArray⟩] 54)) := (Below.refl _ _).alloc (Nat.le_refl _) _
      have HC4 := hid' (HC.out.keep hb4)
      have HL4 := hid' (bld_keep HL.out hb4)
      have HF4 := hid' (HF.out.and (Fr.of_below hb4))
      clear hb4 c0 c1
      generalize (wr.alloc (.cells #[.string ⟨fn.toArray⟩, .string ⟨fv.toArray⟩] 54)) = w4 at *
      refine (rep_any B d b v' M M M fs' fn fv _ HC4.out HSZ.out HM.out (Nat.le_trans HB.out HF4.out.size) HF1.out HF2.out s1 gs1 HO1.out).mono ?_
      rintro e w5 ⟨rfl, v5, hC5, hv5, hT5⟩
      have HC5 := hid' hC5
      have HV5 : Hid (∀ k, v5.ownBlock = some k → v.ownBlock = some k ∨ w.heap.size ≤ k) := hid' fun k hk => by
        rcases hv5 k hk with h | h
        · exact HV.out k h
        · exact .inr (Nat.le_trans HF4.out.size h)
      have hfr5 : Fr (fun k => k = b ∨ v'.ownBlock = some k) w4 w5 := Fr.of_two hT5 (.inl rfl) (fun k hk => .inr hk)
      have HF5 : Hid (Fr (RSet d b v) w w5) := hid' (HF4.out.trans hfr5 fun k hk => by
        rcases hk with h | h
        · exact .inl (.inr (.inl h))
        · rcases HV.out k h with h1 | h1
          · exact .inl (.inr (.inr h1))
          · exact .inr h1)
      obtain ⟨p4, q4, hO4⟩ := bld_obj HL4.out
      have HL5 : Hid (Bld w5 w.heap.size bb acc) := hid' (bld_fr HL4.out hfr5 (by
        rintro (e | e)
        · exact hO4.ne HC4.out.tab.ring.obj (by decide) e
        · exact HC4.out.tab.ring.row.ne hO4 (by decide) e) (fun k cs hk => by
        rintro (e | e)
        · exact hk.ne HC4.out.tab.ring.obj (by decide) e
        · exact HC4.out.tab.ring.row.ne hk (by decide) e))
      clear hC5 hv5 hT5 hfr5 hO4 HC4 HL4 HF4
      go_wp2_with fail
      refine (writeString_any w.heap.size bb acc s1 _ HL5.out (by have h1 := congrArg List.length HT1.out.1; have h2 := HTL.out; rw [List.length_append, List.length_append] at h1; omega) HF5.out.size).mono ?_
      rintro e w6 ⟨rfl, hL6, hb6, hu6⟩
      obtain ⟨p5, q5, hO5⟩ := bld_obj HL5.out
      have HI6 : Hid (WInv w w6 B d b v M bb l tot fsf (i + 1)) := hid' ⟨v5, gs1, acc ++ s1, ⟨HC5.out.ge, hu6.ar HC5.out.obj (HC5.out.obj.ne hO5 (by decide)) (by decide), hu6.ct HC5.out.tab hO5⟩, HV5.out, hL6, ⟨hb6.os.trans HF5.out.os, hb6.tape.trans HF5.out.tape, hb6.output.trans HF5.out.output, Nat.le_trans HF5.out.size hb6.size, fun k hk hn => (hb6.block k hk).trans (HF5.out.block k hk hn)⟩, by have := HONES.out; rw [HO1.out] at this; exact this, HT1.out.1, HT1.out.2⟩
      clear hL6 hb6 hu6 hO5 HC5 HL5 HF5 HV5
      go_wp2
      go_roundw
      case rel => exact ⟨i + 1, by simp, by have := HLT.out; omega, HI6⟩
      case measure => have := HLT.out; simp [intOf]; omega
    · have hlt2 : decide ((i : Int) < (n : Int)) = false := decide_eq_false (by omega)
      have hlt3 : decide (i < n) = false := decide_eq_false hlt
      have hie : l.drop i = [] := by rw [List.drop_eq_nil_iff]; have := HNL.out; omega
      have HE : Hid (acc = tot ∧ fs' = fsf) := hid' (by have h1 := HTT.out; have h2 := HFF.out; rw [hie] at h1 h2; simp only [Hp.many, List.append_nil] at h1 h2; exact ⟨h1, h2⟩)
      clear hlt hie
      go_wp2_with fail
      refine (string_any w.heap.size bb acc _ HL.out HF.out.size).mono ?_
      rintro e w3 ⟨rfl, hb3, hu3⟩
      obtain ⟨p3, q3, hO3⟩ := bld_obj HL.out
      have HC3 : Hid (CE w3 B d b v' M M M fs') := hid' ⟨HC.out.ge, hu3.ar HC.out.obj (HC.out.obj.ne hO3 (by decide)) (by decide), hu3.ct HC.out.tab hO3⟩
      have HF3 : Hid (Fr (RSet d b v) w w3) := hid' ⟨hb3.os.trans HF.out.os, hb3.tape.trans HF.out.tape, hb3.output.trans HF.out.output, Nat.le_trans HF.out.size hb3.size, fun k hk hn => (hb3.block k hk).trans (HF.out.block k hk hn)⟩
      clear hb3 hu3 hO3
      go_wp2
      go_ret
      exact ⟨by rw [← HE.out.1]; rfl, v', by rw [← HE.out.2]; exact HC3.out, HV.out, HF3.out⟩

end Go.Proofs.YtmkkhfkfjmfdcaaGreat
