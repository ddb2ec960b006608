/-
  ostlerref06.Encoder.Write: by its contract. Written by mkhprw.py.
-/
import Derived.Test.YtmkkhfkfjmfdcaaGreatHpRe
import Derived.Test.YtmkkhfkfjmfdcaaGreatHpLn
import Derived.Test.YtmkkhfkfjmfdcaaGreatHuffRf
namespace Go.Proofs.YtmkkhfkfjmfdcaaGreat
open Go.RowKit

def RWInv (w wr : World) (B d b : Nat) (v : Value) (M : Nat) (l : List (List UInt8 × List UInt8)) (tot : List UInt8) (fsf : List (List UInt8 × List UInt8)) (s5 : Value) (i : Nat) : Prop :=
  ∃ v' fs' acc, RE wr B d b v' M M M fs' ∧ (∀ k, v'.ownBlock = some k → v.ownBlock = some k ∨ w.heap.size ≤ k) ∧ wr.ownsRow w.heap.size 5 1 s5 acc.length (Lib.byteCells acc) ∧ Fr (fun k => k = d ∨ k = b) w wr ∧ Tb.size fs' ≤ M ∧ acc ++ (Hp.many Pm.str M fs' (l.drop i)).1 = tot ∧ (Hp.many Pm.str M fs' (l.drop i)).2 = fsf
theorem RE.grown {w w' : World} {B d b : Nat} {v : Value} {was least M : Nat} {fs : List (List UInt8 × List UInt8)} {C n : Nat} {u : Value} {xs : List Value} (h : RE w B d b v was least M fs) (hu : w.ownsRow C 5 1 u n xs) (hg : w.grownBy w' u.ownBlock) : RE w' B d b v was least M fs := by
  have hf : Fr (fun k => u.ownBlock = some k) w w' := ⟨hg.os, hg.tape, hg.output, hg.size, fun k hk hn => hg.block k hk (fun e => hn e.symm)⟩
  refine h.fr hf (own_ne hu h.obj (by decide)) (own_ne hu h.tab.obj (by decide)) (fun k hk e => ?_)
  rcases h.tab.row.2 with ⟨rfl, _⟩ | ⟨g, cap, cur, rfl, _, hg', _⟩
  · simp [Value.ownBlock] at hk
  · simp [Value.ownBlock] at hk
    subst hk
    exact own_ne hu (show Ar w g 54 cur from hg') (by decide) e
theorem strCells_l (s : List UInt8) : Lib.strCells ⟨s.toArray⟩ = Lib.byteCells s := by simp [Lib.byteCells, Lib.strCells]
theorem byteCells_app (a s : List UInt8) : Lib.byteCells a ++ Lib.byteCells s = Lib.byteCells (a ++ s) := by simp [Lib.byteCells]

set_option maxHeartbeats 8000000 in
set_option maxRecDepth 20000 in
theorem rwrite_any (B d b : Nat) (v : Value) (was least M : Nat) (fs : List (List UInt8 × List UInt8)) (w : World) (h : RE w B d b v was least M fs) (hle : least ≤ 65536) (hM : M ≤ 65536) (hs : Tb.size fs ≤ M) (hB : B ≤ w.heap.size)
    (W0 : World) (hW0 : Below W0.heap.size W0 w) (hWB : W0.heap.size ≤ B) (ao : Option Addr) (cap : Nat) (l : List (List UInt8 × List UInt8)) (hfs : FS W0 (.slice ao l.length cap) l)
    (hb : ∀ f ∈ l, f.1.length ≤ 134217728 ∧ f.2.length ≤ 134217728) (hsum : Tb.size l ≤ 35184372088832)
    (tot : List UInt8) (fsf : List (List UInt8 × List UInt8)) (htot : Hp.head was least M ++ (Hp.many Pm.str M fs l).1 = tot) (hfsf : (Hp.many Pm.str M fs l).2 = fsf) :
    Calls Tryz.prog 10 #[.pointer (some ⟨d, 0, none⟩), .slice ao l.length cap] w fun e w' => e = .returned (.string ⟨tot.toArray⟩) ∧ ∃ v', RE w' B d b v' M M M fsf ∧ (∀ k, v'.ownBlock = some k → v.ownBlock = some k ∨ w.heap.size ≤ k) ∧ Fr (fun k => k = d ∨ k = b) w w' := by
  obtain ⟨i0, hi, hz0, hz1, hz2⟩ := info_parts infoByte
  have HI0 := hid' hi
  have HZ0 := hid' hz0
  have HZ1 := hid' hz1
  have HZ2 := hid' hz2
  clear hi hz0 hz1 hz2
  have hll := Hp.many_len2 M hM l fs hs hb
  obtain ⟨n, hnl⟩ : ∃ n, l.length = n := ⟨_, rfl⟩
  have hnb : n ≤ 35184372088832 := by have := Tb.size_len l; omega
  rw [hnl] at hfs ⊢
  have h1l := (Pm.num_length 32 5 least (by omega)).2
  have h2l := (Pm.num_length 32 5 M (by omega)).2
  have c0 := h.obj.cell 0 _ rfl
  have c1 := h.obj.cell 1 _ rfl
  have c2 := h.obj.cell 2 _ rfl
  have f1 := h.obj.free 1
  have f2 := h.obj.free 2
  have t0 := h.tab.obj.cell 0 _ rfl
  have H := hid' h
  have HLE := hid' hle
  have HM := hid' hM
  have HS := hid' hs
  have HB := hid' hB
  have HW0 := hid' hW0
  have HWB := hid' hWB
  have HFS := hid' hfs
  have HBF := hid' hb
  have HFSF := hid' hfsf
  have HNL := hid' hnl
  have HNO : Hid (∀ W : World, W.ownsRow w.heap.size 5 1 (.slice none 0 0) 0 []) := hid' fun W => World.ownsRow_nil _ _ _ _
  obtain ⟨A, hA⟩ : ∃ A, (Hp.many Pm.str M fs l).1 = A := ⟨_, rfl⟩
  rw [hA] at htot hll
  have HA := hid' hA
  have HAL : Hid (A.length ≤ 35184372088832) := hid' (by omega)
  clear h hle hM hs hB hW0 hWB hfs hb hsum hfsf hnl hA hll
  have HSET : Hid (∀ (X : World) (v : Value) (fs : List (List UInt8 × List UInt8)), RE X B d b v was least M fs → RE ((X.setCell ⟨d, 1, none⟩ (.int .i64 (M : Int))).setCell ⟨d, 2, none⟩ (.int .i64 (M : Int))) B d b v M M M fs ∧ Fr (· = d) X ((X.setCell ⟨d, 1, none⟩ (.int .i64 (M : Int))).setCell ⟨d, 2, none⟩ (.int .i64 (M : Int)))) := hid' fun X v fs h => by
    have hf : Fr (· = d) X ((X.setCell ⟨d, 1, none⟩ (.int .i64 (M : Int))).setCell ⟨d, 2, none⟩ (.int .i64 (M : Int))) := (Fr.of_set (S := (· = d)) d 1 _ X rfl).and (Fr.of_set d 2 _ _ rfl)
    refine ⟨⟨h.ge, by have := (h.obj.set 1 (.int .i64 (M : Int))).set 2 (.int .i64 (M : Int)); simpa using this, hf.rt h.tab (fun e => h.db e.symm) (fun k hk e => own_ne h.tab.row h.obj (by decide) (by rw [hk, e]))⟩, hf⟩
  have hTL : ∀ hd : List UInt8, hd.length ≤ 12 → hd ++ A = tot → tot.length ≤ 70368744177664 := fun hd h1 h2 => by rw [← h2, List.length_append]; have := HAL.out; omega
  unfold Hp.head at htot
  by_cases c : least < M
  · rw [if_pos c] at htot
    have hd1 : decide ((least : Int) < (M : Int)) = true := decide_eq_true (by omega)
    have hd2 : decide (least < M) = true := decide_eq_true c
    obtain ⟨a1, ha1⟩ : ∃ hd, Pm.num 32 5 least = hd := ⟨_, rfl⟩
    obtain ⟨a2, ha2⟩ : ∃ hd, Pm.num 32 5 M = hd := ⟨_, rfl⟩
    rw [ha1] at htot h1l
    rw [ha2] at htot h2l
    obtain ⟨hd, hhd⟩ : ∃ hd, a1 ++ a2 = hd := ⟨_, rfl⟩
    rw [hhd] at htot
    have HTOT := hid' htot
    have HTL := hid' (hTL hd (by rw [← hhd, List.length_append]; omega) htot)
    have HA1 := hid' ha1
    have HA2 := hid' ha2
    have HHD := hid' hhd
    clear c htot hTL ha1 ha2 hhd
    go_enter Tryz.func10, Tryz.ntmps10
    go_wp2_with fail
    refine (rnumber_at 32 5 least a1 HA1.out (by decide) (by decide) (by decide) (by decide) (by have := HLE.out; omega) _).mono ?_
    rintro e w1 ⟨rfl, hb1⟩
    have HB1 := hid' hb1
    clear hb1
    go_wp2_with (at_builtin; refine Lib.wpList_append_own_string _ rfl _ _ 57 9 rfl w.heap.size 5 i0 Tryz.underlying57 Tryz.underlying9 HI0.out HZ0.out HZ1.out HZ2.out (.slice none 0 0) 0 [] rfl (HNO.out _) ⟨a1.toArray⟩ rfl (by unfold maxLen; rw [size_l]; omega) (by rw [size_l]; omega) HB1.out.size ?_; intro u9 w9 hown9 hgrow9 _; refine Hid.out ?_)
    refine hid' ?_
    rw [size_l, strCells_l, Nat.zero_add, List.nil_append] at hown9
    have HR9 := hid' ((H.out.keep HB1.out).grown (HNO.out w1) hgrow9)
    have HB9 : Hid (Below w.heap.size w w9) := hid' (below_two HB1.out ⟨hgrow9.os, hgrow9.tape, hgrow9.output, hgrow9.size, fun k hk => hgrow9.block k hk (by simp [Value.ownBlock])⟩)
    have HO9 := hid' hown9
    clear c0 c1 c2 f1 f2 t0 hown9 hgrow9
    go_wp2_with fail
    refine (rnumber_at 32 5 M a2 HA2.out (by decide) (by decide) (by decide) (by decide) (by have := HM.out; omega) _).mono ?_
    rintro e w8 ⟨rfl, hb8⟩
    have HB8 := hid' (below_two HB9.out hb8)
    have HO8 : Hid (w8.ownsRow w.heap.size 5 1 u9 a1.length (Lib.byteCells a1)) := hid' (HO9.out.kept (row := none) (grown_of_below hb8 _) (by cases u9.ownBlock <;> simp))
    have HR8 := hid' (HR9.out.keep hb8)
    clear hb8
    go_wp2_with (at_builtin; refine Lib.wpList_append_own_string _ rfl _ _ 57 9 rfl w.heap.size 5 i0 Tryz.underlying57 Tryz.underlying9 HI0.out HZ0.out HZ1.out HZ2.out u9 a1.length (Lib.byteCells a1) rfl HO8.out ⟨a2.toArray⟩ rfl (by unfold maxLen; rw [size_l]; omega) (by rw [size_l]; omega) HB8.out.size ?_; intro u2 w2 hown2 hgrow2 _; refine Hid.out ?_)
    refine hid' ?_
    rw [size_l, strCells_l, byteCells_app, ← List.length_append, HHD.out] at hown2
    have HR2 := hid' (HR8.out.grown HO8.out hgrow2)
    have HF2 : Hid (Fr (fun k => k = d ∨ k = b) w w2) := hid' ⟨hgrow2.os.trans HB8.out.os, hgrow2.tape.trans HB8.out.tape, hgrow2.output.trans HB8.out.output, Nat.le_trans HB8.out.size hgrow2.size, fun k hk _ => (hgrow2.block k (Nat.lt_of_lt_of_le hk HB8.out.size) (fun e => by have := (HO8.out.lt k e.symm).1; omega)).trans (HB8.out.block k hk)⟩
    have HO2 := hid' hown2
    clear hown2 hgrow2
    have c1 := HR2.out.obj.cell 1 _ rfl
    have c2 := HR2.out.obj.cell 2 _ rfl
    have f1 := HR2.out.obj.free 1
    have f2 := HR2.out.obj.free 2
    have HI : Hid (RWInv w ((w2.setCell ⟨d, 1, none⟩ (.int .i64 (M : Int))).setCell ⟨d, 2, none⟩ (.int .i64 (M : Int))) B d b v M l tot fsf u2 0) := hid' ⟨v, fs, hd, (HSET.out w2 v fs HR2.out).1, fun k hk => .inl hk, ((HSET.out w2 v fs HR2.out).2.own HO2.out (fun k hk e => own_ne HO2.out HR2.out.obj (by decide) (by rw [hk, e]))), HF2.out.and ((HSET.out w2 v fs HR2.out).2.mono (fun k hk => .inl hk)), HS.out, by rw [List.drop_zero, HA.out]; exact HTOT.out, by rw [List.drop_zero]; exact HFSF.out⟩
    go_wp2
    clear c1 c2 f1 f2
    generalize ((w2.setCell ⟨d, 1, none⟩ (.int .i64 (M : Int))).setCell ⟨d, 2, none⟩ (.int .i64 (M : Int))) = wq at *
    go_loopw [5, 7] (fun s5 s7 wr => ∃ (i : Nat) (u : Value), u = s5 ∧ s7 = .int .i64 (i : Int) ∧ i ≤ n ∧ Hid (RWInv w wr B d b v M l tot fsf u i)) (fun _ s7 _ => n - (intOf s7).toNat)
    case atStart => exact ⟨0, _, rfl, rfl, Nat.zero_le _, HI⟩
    case round =>
      clear HI
      obtain ⟨i, s5, rfl, rfl, hin, hinv⟩ := hrel
      obtain ⟨v', fs', acc, hC, hv, hL, hF, hsz, htt, hff⟩ := Hid.out hinv
      clear hinv
      have HC := hid' hC
      have HV := hid' hv
      have HL := hid' hL
      have HF := hid' hF
      have HSZ := hid' hsz
      have HTT := hid' htt
      have HFF := hid' hff
      clear hC hv hL hF hsz htt hff
      by_cases hlt : i < n
      · have hil : i < l.length := by have := HNL.out; omega
        obtain ⟨f, hf⟩ : ∃ f, l[i]? = some f := ⟨_, List.getElem?_eq_getElem hil⟩
        obtain ⟨fn, fv⟩ := f
        have hfm : (fn, fv) ∈ l := List.mem_of_getElem? hf
        obtain ⟨hf1, hf2⟩ := HBF.out _ hfm
        simp only at hf1 hf2
        have hdrop : l.drop i = (fn, fv) :: l.drop (i + 1) := by
          rw [List.drop_eq_getElem_cons hil]
          have : l[i] = (fn, fv) := by rw [List.getElem?_eq_getElem hil] at hf; exact Option.some.inj hf
          rw [this]
        obtain ⟨s1, gs1, ho1⟩ : ∃ s1 gs1, Hp.one Pm.str M fs' (fn, fv) = (s1, gs1) := ⟨_, _, rfl⟩
        have HT1 : Hid (acc ++ s1 ++ (Hp.many Pm.str M gs1 (l.drop (i + 1))).1 = tot ∧ (Hp.many Pm.str M gs1 (l.drop (i + 1))).2 = fsf) := hid' (by
          have h1 := HTT.out
          have h2 := HFF.out
          rw [hdrop] at h1 h2
          simp only [Hp.many, ho1] at h1 h2
          exact ⟨by rw [List.append_assoc]; exact h1, h2⟩)
        have hal : acc.length + s1.length ≤ 70368744177664 := by have h1 := congrArg List.length HT1.out.1; have h2 := HTL.out; rw [List.length_append, List.length_append] at h1; omega
        have hbw : Below W0.heap.size W0 wr := HW0.out.trans (HF.out.below (fun k hk => by
          have h3 := HWB.out
          rcases hk with e | e
          · rw [e]; have := H.out.ge; omega
          · rw [e]; have := H.out.tab.ge; omega) HW0.out.size)
        obtain ⟨a, rfl, c0, c1⟩ := (HFS.out.below hbw (Nat.le_refl _)).two i (fn, fv) hf
        simp only at c0 c1
        have hlt2 : decide ((i : Int) < (n : Int)) = true := decide_eq_true (by omega)
        have hlt3 : decide (i < n) = true := decide_eq_true hlt
        have hltI : (i : Int) < (n : Int) := by omega
        have HLT := hid' hlt
        have HO1 := hid' ho1
        have HF1 := hid' hf1
        have HF2 := hid' hf2
        have HONES := hid' (Hp.one_size Pm.str M fs' (fn, fv) HSZ.out)
        clear hil hf hfm hf1 hf2 hdrop ho1 hbw
        go_wp2_with fail
        refine (rone_any B d b v' M M M fs' fn fv _ HC.out HSZ.out HM.out (Nat.le_trans HB.out HF.out.size) HF1.out HF2.out s1 gs1 HO1.out).mono ?_
        rintro e w5 ⟨rfl, v5, hC5, hv5, hT5⟩
        have HC5 := hid' hC5
        have HV5 : Hid (∀ k, v5.ownBlock = some k → v.ownBlock = some k ∨ w.heap.size ≤ k) := hid' fun k hk => by
          rcases hv5 k hk with h | h
          · exact HV.out k h
          · exact .inr (Nat.le_trans HF.out.size h)
        have HF5 : Hid (Fr (fun k => k = d ∨ k = b) w w5) := hid' (HF.out.and (hT5.mono (fun k hk => .inr hk)))
        have HL5 : Hid (w5.ownsRow w.heap.size 5 1 s5 acc.length (Lib.byteCells acc)) := hid' (hT5.own HL.out (fun k hk e => own_ne HL.out HC.out.tab.obj (by decide) (by rw [hk, e])))
        clear hC5 hv5 hT5 c0 c1
        go_wp2_with (at_builtin; refine Lib.wpList_append_own_string _ rfl _ _ 57 9 rfl w.heap.size 5 i0 Tryz.underlying57 Tryz.underlying9 HI0.out HZ0.out HZ1.out HZ2.out s5 acc.length (Lib.byteCells acc) rfl HL5.out ⟨s1.toArray⟩ rfl (by unfold maxLen; rw [size_l]; omega) (by rw [size_l]; omega) HF5.out.size ?_; intro u6 w6 hown6 hgrow6 _; refine Hid.out ?_)
        refine hid' ?_
        rw [size_l, strCells_l, byteCells_app, ← List.length_append] at hown6
        have HI6 : Hid (RWInv w w6 B d b v M l tot fsf u6 (i + 1)) := hid' ⟨v5, gs1, acc ++ s1, HC5.out.grown HL5.out hgrow6, HV5.out, hown6, ⟨hgrow6.os.trans HF5.out.os, hgrow6.tape.trans HF5.out.tape, hgrow6.output.trans HF5.out.output, Nat.le_trans HF5.out.size hgrow6.size, fun k hk hn => (hgrow6.block k (Nat.lt_of_lt_of_le hk HF5.out.size) (fun e => by have := (HL5.out.lt k e.symm).1; omega)).trans (HF5.out.block k hk hn)⟩, by have := HONES.out; rw [HO1.out] at this; exact this, HT1.out.1, HT1.out.2⟩
        clear hown6 hgrow6 HC5 HL5 HF5 HV5
        go_wp2
        go_roundw
        case rel => exact ⟨i + 1, _, rfl, by simp, by have := HLT.out; omega, HI6⟩
        case measure => have := HLT.out; simp [intOf]; omega
      · have hlt2 : decide ((i : Int) < (n : Int)) = false := decide_eq_false (by omega)
        have hlt3 : decide (i < n) = false := decide_eq_false hlt
        have hie : l.drop i = [] := by rw [List.drop_eq_nil_iff]; have := HNL.out; omega
        have HE : Hid (acc = tot ∧ fs' = fsf) := hid' (by have h1 := HTT.out; have h2 := HFF.out; rw [hie] at h1 h2; simp only [Hp.many, List.append_nil] at h1 h2; exact ⟨h1, h2⟩)
        have hcv := own_str HL.out rfl
        clear hlt hie
        go_wp2
        go_ret
        exact ⟨by rw [← HE.out.1]; rfl, v', by rw [← HE.out.2]; exact HC.out, HV.out, HF.out⟩
  · rw [if_neg c] at htot
    have hd1 : decide ((least : Int) < (M : Int)) = false := decide_eq_false (by omega)
    have hd2 : decide (least < M) = false := decide_eq_false c
    by_cases c' : M ≠ was
    · rw [if_pos c'] at htot
      obtain ⟨hd, hhd⟩ : ∃ hd, Pm.num 32 5 M = hd := ⟨_, rfl⟩
      rw [hhd] at htot h2l
      have HTOT := hid' htot
      have HTL := hid' (hTL hd (by omega) htot)
      have HHD := hid' hhd
      have he1 : ((M : Int) == (was : Int)) = false := beq_false_of_ne (by omega)
      have he2 : (M == was) = false := beq_false_of_ne c'
      clear c c' htot hTL hhd
      go_enter Tryz.func10, Tryz.ntmps10
      go_wp2_with fail
      refine (rnumber_at 32 5 M hd HHD.out (by decide) (by decide) (by decide) (by decide) (by have := HM.out; omega) _).mono ?_
      rintro e w1 ⟨rfl, hb1⟩
      have HB1 := hid' hb1
      clear hb1
      go_wp2_with (at_builtin; refine Lib.wpList_append_own_string _ rfl _ _ 57 9 rfl w.heap.size 5 i0 Tryz.underlying57 Tryz.underlying9 HI0.out HZ0.out HZ1.out HZ2.out (.slice none 0 0) 0 [] rfl (HNO.out _) ⟨hd.toArray⟩ rfl (by unfold maxLen; rw [size_l]; omega) (by rw [size_l]; omega) HB1.out.size ?_; intro u2 w2 hown2 hgrow2 _; refine Hid.out ?_)
      refine hid' ?_
      rw [size_l, strCells_l, Nat.zero_add, List.nil_append] at hown2
      have HR2 := hid' ((H.out.keep HB1.out).grown (HNO.out w1) hgrow2)
      have HF2 : Hid (Fr (fun k => k = d ∨ k = b) w w2) := hid' ((Fr.of_below HB1.out).and ⟨hgrow2.os, hgrow2.tape, hgrow2.output, hgrow2.size, fun k hk _ => hgrow2.block k hk (by simp [Value.ownBlock])⟩)
      have HO2 := hid' hown2
      clear c0 c1 c2 f1 f2 t0 hown2 hgrow2
      have c1 := HR2.out.obj.cell 1 _ rfl
      have c2 := HR2.out.obj.cell 2 _ rfl
      have f1 := HR2.out.obj.free 1
      have f2 := HR2.out.obj.free 2
      have HI : Hid (RWInv w ((w2.setCell ⟨d, 1, none⟩ (.int .i64 (M : Int))).setCell ⟨d, 2, none⟩ (.int .i64 (M : Int))) B d b v M l tot fsf u2 0) := hid' ⟨v, fs, hd, (HSET.out w2 v fs HR2.out).1, fun k hk => .inl hk, ((HSET.out w2 v fs HR2.out).2.own HO2.out (fun k hk e => own_ne HO2.out HR2.out.obj (by decide) (by rw [hk, e]))), HF2.out.and ((HSET.out w2 v fs HR2.out).2.mono (fun k hk => .inl hk)), HS.out, by rw [List.drop_zero, HA.out]; exact HTOT.out, by rw [List.drop_zero]; exact HFSF.out⟩
      go_wp2
      clear c1 c2 f1 f2
      generalize ((w2.setCell ⟨d, 1, none⟩ (.int .i64 (M : Int))).setCell ⟨d, 2, none⟩ (.int .i64 (M : Int))) = wq at *
      go_loopw [5, 7] (fun s5 s7 wr => ∃ (i : Nat) (u : Value), u = s5 ∧ s7 = .int .i64 (i : Int) ∧ i ≤ n ∧ Hid (RWInv w wr B d b v M l tot fsf u i)) (fun _ s7 _ => n - (intOf s7).toNat)
      case atStart => exact ⟨0, _, rfl, rfl, Nat.zero_le _, HI⟩
      case round =>
        clear HI
        obtain ⟨i, s5, rfl, rfl, hin, hinv⟩ := hrel
        obtain ⟨v', fs', acc, hC, hv, hL, hF, hsz, htt, hff⟩ := Hid.out hinv
        clear hinv
        have HC := hid' hC
        have HV := hid' hv
        have HL := hid' hL
        have HF := hid' hF
        have HSZ := hid' hsz
        have HTT := hid' htt
        have HFF := hid' hff
        clear hC hv hL hF hsz htt hff
        by_cases hlt : i < n
        · have hil : i < l.length := by have := HNL.out; omega
          obtain ⟨f, hf⟩ : ∃ f, l[i]? = some f := ⟨_, List.getElem?_eq_getElem hil⟩
          obtain ⟨fn, fv⟩ := f
          have hfm : (fn, fv) ∈ l := List.mem_of_getElem? hf
          obtain ⟨hf1, hf2⟩ := HBF.out _ hfm
          simp only at hf1 hf2
          have hdrop : l.drop i = (fn, fv) :: l.drop (i + 1) := by
            rw [List.drop_eq_getElem_cons hil]
            have : l[i] = (fn, fv) := by rw [List.getElem?_eq_getElem hil] at hf; exact Option.some.inj hf
            rw [this]
          obtain ⟨s1, gs1, ho1⟩ : ∃ s1 gs1, Hp.one Pm.str M fs' (fn, fv) = (s1, gs1) := ⟨_, _, rfl⟩
          have HT1 : Hid (acc ++ s1 ++ (Hp.many Pm.str M gs1 (l.drop (i + 1))).1 = tot ∧ (Hp.many Pm.str M gs1 (l.drop (i + 1))).2 = fsf) := hid' (by
            have h1 := HTT.out
            have h2 := HFF.out
            rw [hdrop] at h1 h2
            simp only [Hp.many, ho1] at h1 h2
            exact ⟨by rw [List.append_assoc]; exact h1, h2⟩)
          have hal : acc.length + s1.length ≤ 70368744177664 := by have h1 := congrArg List.length HT1.out.1; have h2 := HTL.out; rw [List.length_append, List.length_append] at h1; omega
          have hbw : Below W0.heap.size W0 wr := HW0.out.trans (HF.out.below (fun k hk => by
            have h3 := HWB.out
            rcases hk with e | e
            · rw [e]; have := H.out.ge; omega
            · rw [e]; have := H.out.tab.ge; omega) HW0.out.size)
          obtain ⟨a, rfl, c0, c1⟩ := (HFS.out.below hbw (Nat.le_refl _)).two i (fn, fv) hf
          simp only at c0 c1
          have hlt2 : decide ((i : Int) < (n : Int)) = true := decide_eq_true (by omega)
          have hlt3 : decide (i < n) = true := decide_eq_true hlt
          have hltI : (i : Int) < (n : Int) := by omega
          have HLT := hid' hlt
          have HO1 := hid' ho1
          have HF1 := hid' hf1
          have HF2 := hid' hf2
          have HONES := hid' (Hp.one_size Pm.str M fs' (fn, fv) HSZ.out)
          clear hil hf hfm hf1 hf2 hdrop ho1 hbw
          go_wp2_with fail
          refine (rone_any B d b v' M M M fs' fn fv _ HC.out HSZ.out HM.out (Nat.le_trans HB.out HF.out.size) HF1.out HF2.out s1 gs1 HO1.out).mono ?_
          rintro e w5 ⟨rfl, v5, hC5, hv5, hT5⟩
          have HC5 := hid' hC5
          have HV5 : Hid (∀ k, v5.ownBlock = some k → v.ownBlock = some k ∨ w.heap.size ≤ k) := hid' fun k hk => by
            rcases hv5 k hk with h | h
            · exact HV.out k h
            · exact .inr (Nat.le_trans HF.out.size h)
          have HF5 : Hid (Fr (fun k => k = d ∨ k = b) w w5) := hid' (HF.out.and (hT5.mono (fun k hk => .inr hk)))
          have HL5 : Hid (w5.ownsRow w.heap.size 5 1 s5 acc.length (Lib.byteCells acc)) := hid' (hT5.own HL.out (fun k hk e => own_ne HL.out HC.out.tab.obj (by decide) (by rw [hk, e])))
          clear hC5 hv5 hT5 c0 c1
          go_wp2_with (at_builtin; refine Lib.wpList_append_own_string _ rfl _ _ 57 9 rfl w.heap.size 5 i0 Tryz.underlying57 Tryz.underlying9 HI0.out HZ0.out HZ1.out HZ2.out s5 acc.length (Lib.byteCells acc) rfl HL5.out ⟨s1.toArray⟩ rfl (by unfold maxLen; rw [size_l]; omega) (by rw [size_l]; omega) HF5.out.size ?_; intro u6 w6 hown6 hgrow6 _; refine Hid.out ?_)
          refine hid' ?_
          rw [size_l, strCells_l, byteCells_app, ← List.length_append] at hown6
          have HI6 : Hid (RWInv w w6 B d b v M l tot fsf u6 (i + 1)) := hid' ⟨v5, gs1, acc ++ s1, HC5.out.grown HL5.out hgrow6, HV5.out, hown6, ⟨hgrow6.os.trans HF5.out.os, hgrow6.tape.trans HF5.out.tape, hgrow6.output.trans HF5.out.output, Nat.le_trans HF5.out.size hgrow6.size, fun k hk hn => (hgrow6.block k (Nat.lt_of_lt_of_le hk HF5.out.size) (fun e => by have := (HL5.out.lt k e.symm).1; omega)).trans (HF5.out.block k hk hn)⟩, by have := HONES.out; rw [HO1.out] at this; exact this, HT1.out.1, HT1.out.2⟩
          clear hown6 hgrow6 HC5 HL5 HF5 HV5
          go_wp2
          go_roundw
          case rel => exact ⟨i + 1, _, rfl, by simp, by have := HLT.out; omega, HI6⟩
          case measure => have := HLT.out; simp [intOf]; omega
        · have hlt2 : decide ((i : Int) < (n : Int)) = false := decide_eq_false (by omega)
          have hlt3 : decide (i < n) = false := decide_eq_false hlt
          have hie : l.drop i = [] := by rw [List.drop_eq_nil_iff]; have := HNL.out; omega
          have HE : Hid (acc = tot ∧ fs' = fsf) := hid' (by have h1 := HTT.out; have h2 := HFF.out; rw [hie] at h1 h2; simp only [Hp.many, List.append_nil] at h1 h2; exact ⟨h1, h2⟩)
          have hcv := own_str HL.out rfl
          clear hlt hie
          go_wp2
          go_ret
          exact ⟨by rw [← HE.out.1]; rfl, v', by rw [← HE.out.2]; exact HC.out, HV.out, HF.out⟩
    · rw [if_neg c'] at htot
      have he : M = was := by omega
      have HTOT := hid' htot
      have HTL := hid' (hTL [] (by decide) htot)
      clear c c' htot hTL
      subst he
      have he1 : ((M : Int) == (M : Int)) = true := beq_self_eq_true _
      obtain ⟨hd, hhd⟩ : ∃ hd : List UInt8, [] = hd := ⟨_, rfl⟩
      rw [hhd] at HTOT
      go_enter Tryz.func10, Tryz.ntmps10
      have HI : Hid (RWInv w ((w.setCell ⟨d, 1, none⟩ (.int .i64 (M : Int))).setCell ⟨d, 2, none⟩ (.int .i64 (M : Int))) B d b v M l tot fsf (.slice none 0 0) 0) := hid' ⟨v, fs, hd, (HSET.out w v fs H.out).1, fun k hk => .inl hk, (by rw [← hhd]; exact HNO.out _), (HSET.out w v fs H.out).2.mono (fun k hk => .inl hk), HS.out, by rw [List.drop_zero, HA.out]; exact HTOT.out, by rw [List.drop_zero]; exact HFSF.out⟩
      go_wp2
      clear hhd c0 c1 c2 f1 f2 t0
      generalize ((w.setCell ⟨d, 1, none⟩ (.int .i64 (M : Int))).setCell ⟨d, 2, none⟩ (.int .i64 (M : Int))) = wq at *
      go_loopw [5, 7] (fun s5 s7 wr => ∃ (i : Nat) (u : Value), u = s5 ∧ s7 = .int .i64 (i : Int) ∧ i ≤ n ∧ Hid (RWInv w wr B d b v M l tot fsf u i)) (fun _ s7 _ => n - (intOf s7).toNat)
      case atStart => exact ⟨0, _, rfl, rfl, Nat.zero_le _, HI⟩
      case round =>
        clear HI
        obtain ⟨i, s5, rfl, rfl, hin, hinv⟩ := hrel
        obtain ⟨v', fs', acc, hC, hv, hL, hF, hsz, htt, hff⟩ := Hid.out hinv
        clear hinv
        have HC := hid' hC
        have HV := hid' hv
        have HL := hid' hL
        have HF := hid' hF
        have HSZ := hid' hsz
        have HTT := hid' htt
        have HFF := hid' hff
        clear hC hv hL hF hsz htt hff
        by_cases hlt : i < n
        · have hil : i < l.length := by have := HNL.out; omega
          obtain ⟨f, hf⟩ : ∃ f, l[i]? = some f := ⟨_, List.getElem?_eq_getElem hil⟩
          obtain ⟨fn, fv⟩ := f
          have hfm : (fn, fv) ∈ l := List.mem_of_getElem? hf
          obtain ⟨hf1, hf2⟩ := HBF.out _ hfm
          simp only at hf1 hf2
          have hdrop : l.drop i = (fn, fv) :: l.drop (i + 1) := by
            rw [List.drop_eq_getElem_cons hil]
            have : l[i] = (fn, fv) := by rw [List.getElem?_eq_getElem hil] at hf; exact Option.some.inj hf
            rw [this]
          obtain ⟨s1, gs1, ho1⟩ : ∃ s1 gs1, Hp.one Pm.str M fs' (fn, fv) = (s1, gs1) := ⟨_, _, rfl⟩
          have HT1 : Hid (acc ++ s1 ++ (Hp.many Pm.str M gs1 (l.drop (i + 1))).1 = tot ∧ (Hp.many Pm.str M gs1 (l.drop (i + 1))).2 = fsf) := hid' (by
            have h1 := HTT.out
            have h2 := HFF.out
            rw [hdrop] at h1 h2
            simp only [Hp.many, ho1] at h1 h2
            exact ⟨by rw [List.append_assoc]; exact h1, h2⟩)
          have hal : acc.length + s1.length ≤ 70368744177664 := by have h1 := congrArg List.length HT1.out.1; have h2 := HTL.out; rw [List.length_append, List.length_append] at h1; omega
          have hbw : Below W0.heap.size W0 wr := HW0.out.trans (HF.out.below (fun k hk => by
            have h3 := HWB.out
            rcases hk with e | e
            · rw [e]; have := H.out.ge; omega
            · rw [e]; have := H.out.tab.ge; omega) HW0.out.size)
          obtain ⟨a, rfl, c0, c1⟩ := (HFS.out.below hbw (Nat.le_refl _)).two i (fn, fv) hf
          simp only at c0 c1
          have hlt2 : decide ((i : Int) < (n : Int)) = true := decide_eq_true (by omega)
          have hlt3 : decide (i < n) = true := decide_eq_true hlt
          have hltI : (i : Int) < (n : Int) := by omega
          have HLT := hid' hlt
          have HO1 := hid' ho1
          have HF1 := hid' hf1
          have HF2 := hid' hf2
          have HONES := hid' (Hp.one_size Pm.str M fs' (fn, fv) HSZ.out)
          clear hil hf hfm hf1 hf2 hdrop ho1 hbw
          go_wp2_with fail
          refine (rone_any B d b v' M M M fs' fn fv _ HC.out HSZ.out HM.out (Nat.le_trans HB.out HF.out.size) HF1.out HF2.out s1 gs1 HO1.out).mono ?_
          rintro e w5 ⟨rfl, v5, hC5, hv5, hT5⟩
          have HC5 := hid' hC5
          have HV5 : Hid (∀ k, v5.ownBlock = some k → v.ownBlock = some k ∨ w.heap.size ≤ k) := hid' fun k hk => by
            rcases hv5 k hk with h | h
            · exact HV.out k h
            · exact .inr (Nat.le_trans HF.out.size h)
          have HF5 : Hid (Fr (fun k => k = d ∨ k = b) w w5) := hid' (HF.out.and (hT5.mono (fun k hk => .inr hk)))
          have HL5 : Hid (w5.ownsRow w.heap.size 5 1 s5 acc.length (Lib.byteCells acc)) := hid' (hT5.own HL.out (fun k hk e => own_ne HL.out HC.out.tab.obj (by decide) (by rw [hk, e])))
          clear hC5 hv5 hT5 c0 c1
          go_wp2_with (at_builtin; refine Lib.wpList_append_own_string _ rfl _ _ 57 9 rfl w.heap.size 5 i0 Tryz.underlying57 Tryz.underlying9 HI0.out HZ0.out HZ1.out HZ2.out s5 acc.length (Lib.byteCells acc) rfl HL5.out ⟨s1.toArray⟩ rfl (by unfold maxLen; rw [size_l]; omega) (by rw [size_l]; omega) HF5.out.size ?_; intro u6 w6 hown6 hgrow6 _; refine Hid.out ?_)
          refine hid' ?_
          rw [size_l, strCells_l, byteCells_app, ← List.length_append] at hown6
          have HI6 : Hid (RWInv w w6 B d b v M l tot fsf u6 (i + 1)) := hid' ⟨v5, gs1, acc ++ s1, HC5.out.grown HL5.out hgrow6, HV5.out, hown6, ⟨hgrow6.os.trans HF5.out.os, hgrow6.tape.trans HF5.out.tape, hgrow6.output.trans HF5.out.output, Nat.le_trans HF5.out.size hgrow6.size, fun k hk hn => (hgrow6.block k (Nat.lt_of_lt_of_le hk HF5.out.size) (fun e => by have := (HL5.out.lt k e.symm).1; omega)).trans (HF5.out.block k hk hn)⟩, by have := HONES.out; rw [HO1.out] at this; exact this, HT1.out.1, HT1.out.2⟩
          clear hown6 hgrow6 HC5 HL5 HF5 HV5
          go_wp2
          go_roundw
          case rel => exact ⟨i + 1, _, rfl, by simp, by have := HLT.out; omega, HI6⟩
          case measure => have := HLT.out; simp [intOf]; omega
        · have hlt2 : decide ((i : Int) < (n : Int)) = false := decide_eq_false (by omega)
          have hlt3 : decide (i < n) = false := decide_eq_false hlt
          have hie : l.drop i = [] := by rw [List.drop_eq_nil_iff]; have := HNL.out; omega
          have HE : Hid (acc = tot ∧ fs' = fsf) := hid' (by have h1 := HTT.out; have h2 := HFF.out; rw [hie] at h1 h2; simp only [Hp.many, List.append_nil] at h1 h2; exact ⟨h1, h2⟩)
          have hcv := own_str HL.out rfl
          clear hlt hie
          go_wp2
          go_ret
          exact ⟨by rw [← HE.out.1]; rfl, v', by rw [← HE.out.2]; exact HC.out, HV.out, HF.out⟩

end Go.Proofs.YtmkkhfkfjmfdcaaGreat
