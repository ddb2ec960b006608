/-
  The reader's startBody, useSize, useTrailer: by their contracts.
-/
import Derived.Test.YtbpdhcfmdkmoiaaGreatDoorPnAY
namespace Go.Proofs.YtbpdhcfmdkmoiaaGreatDoor
open Go.RowKit

/-- A piece that was read, laid into a box of one's own. -/
theorem up_on21 {w0 w w2 wf : World} {B b rb : Nat} {lv fv lv' fv' : Value} {p : Hr.Pc} {s' : Hr.St} {v : Value} {c : Array Value} (ha : Ar w2 rb 49 c) (hb : Below w0.heap.size w0 w) (hr : w0.heap.size ≤ rb) (hrw : rb < w.heap.size)
    (h1 : LF (RS b lv fv) w w2) (h2 : RN w2 B b (rnx b s'.md) lv' fv' s') (h3 : RW w.heap.size lv fv lv' fv') (h4 : PcW w2 B (RS b lv' fv') v p) (hrl : ∀ k, RS b lv fv k → k < w0.heap.size) (hu : Upd rb w2 wf) :
    UP w0 B b lv fv p s' (.returned v) wf :=
  up_box21 hb hr hrw h1 h2 h3 h4 hrl (by
    rintro k ⟨rv, tv, hv, hk⟩
    obtain ⟨rv', tv', hv', k1, k2, _, _⟩ := h4
    have e : pcC p rv tv = pcC p rv' tv' := by have := hv.symm.trans hv'; injection this
    have e1 : rv = rv' := by have := congrArg (fun a : Array Value => a[5]?) e; simpa [pcC] using this
    have e2 : tv = tv' := by have := congrArg (fun a : Array Value => a[13]?) e; simpa [pcC] using this
    subst e1 e2
    rcases hk with hk | hk
    · exact own_apart k1 ha (by decide) k hk
    · exact own_apart k2 ha (by decide) k hk) hu
/-- The state behind a head. -/
def afterB21 (s : Hr.St) (n : Nat) (ch : Bool) : Hr.St :=
  if ch then { Hr.zero s.L s.M (.inr .i8) with bg := true, room := s.M } else if 0 < n then { Hr.zero s.L s.M (.inr .i32) with bg := true, left := n } else Hr.fresh s
theorem lf_set21 {w : World} {b : Nat} (i : Nat) (v : Value) : LF (fun k => k = b) w (w.setCell ⟨b, i, none⟩ v) := LF.of_upd (upd_setCell w b i v) rfl

set_option maxHeartbeats 4000000 in
set_option maxRecDepth 20000 in
theorem cbody21 (B b : Nat) (nv lv fv : Value) (s : Hr.St) (n : Nat) (ch : Bool) (w : World) (h : RN w B b nv lv fv s) :
    Calls Tryz.prog 57 #[.pointer (some ⟨b, 0, none⟩), .int .i64 (n : Int), .bool ch] w fun e w' => e = .returned (.tuple #[]) ∧ RN w' B b (rnx b (afterB21 s n ch).md) (.slice none 0 0) (.slice none 0 0) (afterB21 s n ch) ∧ LF (fun k => k = b) w w' := by
  have hmf := hmf21
  have H := hid' (cforgetB21 B b nv lv fv s w h)
  clear h
  go_enter Tryz.func57, Tryz.ntmps57
  go_wp2_with (go_at_call 40; refine H.out.mono ?_; rintro e w1 ⟨rfl, h1, hf1⟩; refine Hid.out ?_)
  refine hid' ?_
  have H1 := hid' h1
  have HF1 := hid' hf1
  have c1 : w1.cell? ⟨b, 1, none⟩ = some (.int .i64 (s.M : Int)) := h1.obj.cell 1 _ rfl
  have c2 : w1.cell? ⟨b, 2, none⟩ = some .nilFunc := h1.obj.cell 2 _ rfl
  have c3 : w1.cell? ⟨b, 3, none⟩ = some (.bool false) := h1.obj.cell 3 _ rfl
  have c11 : w1.cell? ⟨b, 11, none⟩ = some (.int .i64 0) := h1.obj.cell 11 _ rfl
  have c12 : w1.cell? ⟨b, 12, none⟩ = some (.int .i64 0) := h1.obj.cell 12 _ rfl
  have f2 := h1.obj.free 2
  have f3 := h1.obj.free 3
  have f11 := h1.obj.free 11
  have f12 := h1.obj.free 12
  clear h1 hf1 H
  cases ch
  · by_cases h0 : 0 < n
    · have h01 : (0 : Int) < (n : Int) := by omega
      have HA : Hid (afterB21 s n false = { Hr.zero s.L s.M (.inr .i32) with bg := true, left := n }) := hid' (by unfold afterB21; rw [if_neg (by decide), if_pos h0])
      go_wp2
      go_end0
      go_wp2
      rw [HA.out]
      exact ⟨((H1.out.set (nv' := .nilFunc) (s' := { Hr.fresh s with bg := true }) 3 _ rfl rfl rfl).set (nv' := .nilFunc) (s' := { Hr.fresh s with bg := true, left := n }) 11 _ rfl rfl rfl).next _ rfl rfl rfl, ((HF1.out.trans (lf_set21 3 _) (fun _ _ => id)).trans (lf_set21 11 _) (fun _ _ => id)).trans (lf_set21 2 _) (fun _ _ => id)⟩
    · have h01 : ¬ (0 : Int) < (n : Int) := by omega
      have HA : Hid (afterB21 s n false = Hr.fresh s) := hid' (by unfold afterB21; rw [if_neg (by decide), if_neg h0])
      have H2 : Hid (RN (w1.setCell ⟨b, 3, none⟩ (.bool true)) B b .nilFunc (.slice none 0 0) (.slice none 0 0) { Hr.fresh s with bg := true }) := hid' (H1.out.set (nv' := .nilFunc) (s' := { Hr.fresh s with bg := true }) 3 _ rfl rfl rfl)
      go_wp2_with (go_at_call 76; refine (cfinishB21 B b _ _ _ _ _ H2.out).mono ?_; rintro e w2 ⟨rfl, h2, hf2⟩; refine Hid.out ?_)
      refine hid' ?_
      have HF2 := hid' hf2
      have H3 := hid' h2
      clear h2 hf2
      go_wp2
      go_end0
      go_wp2
      rw [HA.out]
      exact ⟨H3.out, (HF1.out.trans (lf_set21 3 _) (fun _ _ => id)).trans HF2.out (fun _ _ => id)⟩
  · have HA : Hid (afterB21 s n true = { Hr.zero s.L s.M (.inr .i8) with bg := true, room := s.M }) := hid' (by unfold afterB21; rw [if_pos rfl])
    go_wp2
    go_end0
    go_wp2
    rw [HA.out]
    exact ⟨((H1.out.set (nv' := .nilFunc) (s' := { Hr.fresh s with bg := true }) 3 _ rfl rfl rfl).set (nv' := .nilFunc) (s' := { Hr.fresh s with bg := true, room := s.M }) 12 _ rfl rfl rfl).next _ rfl rfl rfl, ((HF1.out.trans (lf_set21 3 _) (fun _ _ => id)).trans (lf_set21 12 _) (fun _ _ => id)).trans (lf_set21 2 _) (fun _ _ => id)⟩

set_option maxHeartbeats 4000000 in
set_option maxRecDepth 20000 in
theorem csizeU21 (B b : Nat) (lv fv : Value) (s : Hr.St) (x : ByteArray) (w : World) (h : RN w B b (rnx b s.md) lv fv s) (hT : TB w) (hx : x.size ≤ 1048576) (hroom : s.room ≤ 9223372036854775807) :
    Calls Tryz.prog 99 #[.pointer (some ⟨b, 0, none⟩), .string x] w (UP w B b lv fv (Hr.useSize s x.data.toList).1 (Hr.useSize s x.data.toList).2) := by
  obtain ⟨d, hd⟩ : ∃ d : ByteArray, (⟨(Lib.cut x.data.toList (⟨#[59]⟩ : ByteArray).data.toList).1.toArray⟩ : ByteArray) = d := ⟨_, rfl⟩
  obtain ⟨y, hy⟩ : ∃ y : ByteArray, (⟨(Lib.cut x.data.toList (⟨#[59]⟩ : ByteArray).data.toList).2.1.toArray⟩ : ByteArray) = y := ⟨_, rfl⟩
  obtain ⟨is, his⟩ : ∃ is, (Lib.cut x.data.toList (⟨#[59]⟩ : ByteArray).data.toList).2.2 = is := ⟨_, rfl⟩
  have hdl : d.data.toList = Hr.digs x.data.toList := by rw [← hd]; rfl
  have hlen := Hr.cut_len 59 x.data.toList
  rw [← Lib.size_eq] at hlen
  have hds : d.size ≤ 1048576 := by rw [Lib.size_eq, hdl]; unfold Hr.digs; omega
  obtain ⟨k, hk⟩ : ∃ k : Nat, (Tx.num 16 d.data.toList).1 = (k : Int) := ⟨_, (Int.toNat_of_nonneg (Hr.hex_nn _)).symm⟩
  obtain ⟨er, her⟩ : ∃ er, (Tx.num 16 d.data.toList).2 = er := ⟨_, rfl⟩
  have HX : Hid (∀ W, Calls Tryz.prog 117 #[.string d] W fun e w' => e = .returned (.tuple #[.int .i64 (k : Int), .int .i64 er]) ∧ w' = W) := hid' (fun W => by have := hex_any d W (by unfold maxLen; omega); rwa [hk, her] at this)
  obtain ⟨P, hP⟩ : ∃ P, Hr.useSize s x.data.toList = P := ⟨_, rfl⟩
  have HP : Hid (P = if !(er == 0) || decide (15 < d.size) then Hr.broke s 400 else if s.room < k then Hr.broke s 413 else if k = 0 then (Hr.pc0, { s with md := (.inr .i16) }) else (Hr.pc0, { s with md := (.inr .i64), room := s.room - k, left := k })) := hid' (by
    rw [← hP]
    unfold Hr.useSize
    rw [← hdl, her, hk, ← Lib.size_eq]
    congr 1
    by_cases h1 : s.room < k
    · rw [if_pos (by omega), if_pos h1]
    · rw [if_neg (by omega), if_neg h1]
      by_cases h2 : k = 0
      · rw [if_pos (by rw [h2]; rfl), if_pos h2]
      · rw [if_neg (by rw [beq_iff_eq]; omega), if_neg h2]
        simp)
  rw [hP]
  have HTB := hid' hT
  clear hdl hlen hk her hP hT
  have H := hid' h
  have HLT : Hid (∀ k, RS b lv fv k → k < w.heap.size) := hid' (fun k hk => (h.rs k hk).2)
  have HB0 := hid' h.lb
  clear h
  go_enter Tryz.func99, Tryz.ntmps99
  go_wp2_with (refine wpl_alloc 49 rfl rfl _ zeroPc21 ?_)
  intro rb w1 hrb ha1 hl1
  have HB1 := hid' hl1
  have HA1 := hid' ha1
  have HRB : Hid (w.heap.size ≤ rb) := hid' (by omega)
  have HR1 := hid' (H.out.keep hl1)
  have HRL1 : Hid (rb < w1.heap.size) := hid' ha1.lt
  have HN0 : Hid (¬ RS b lv fv rb) := hid' (fun hk => by have := HLT.out rb hk; omega)
  clear ha1 hl1 hrb
  obtain ⟨mm, hmm⟩ := (HTB.out.keep HB1.out).2
  go_wp2_with fail
  refine (Tryz.strings_Cut x ⟨#[59]⟩ mm w1 (by omega) hmm).mono ?_
  clear hmm
  rw [hd, hy, his]
  rintro e w2 ⟨rfl, nq, hw2⟩
  have hb2 : Below w1.heap.size w1 w2 := by rw [hw2]; exact dnB w1 nq
  clear hw2 hd hy his
  have HB2 := hid' (below_two HB1.out hb2)
  have HA2 := hid' (HA1.out.keep hb2)
  have HR2 := hid' (HR1.out.keep hb2)
  have HRL2 : Hid (rb < w2.heap.size) := hid' (Nat.lt_of_lt_of_le HRL1.out hb2.size)
  clear hb2
  by_cases her : er = 0
  rotate_left
  · have hne : (er != 0) = true := by rw [bne_iff_ne]; exact her
    have HE : Hid (P = Hr.broke s 400) := hid' (by rw [HP.out, show (er == 0) = false from by rw [beq_eq_false_iff_ne]; exact her]; rfl)
    go_wp2_with (go_at_call 117; refine (HX.out _).mono ?_; rintro e w3 ⟨rfl, hw3⟩; subst w3; refine Hid.out ?_)
    refine hid' ?_
    go_wp2_with (go_at_call 33; refine (cbreaks21 B b _ _ _ _ 400 _ HR2.out).mono ?_; rintro e w9 ⟨rfl, h9, hf9⟩; refine Hid.out ?_)
    refine hid' ?_
    have H9 := hid' h9
    have HF9 := hid' hf9
    have HA9 := hid' (hf9.ar HA2.out HN0.out)
    clear h9 hf9
    go_wp2_with (refine wpl_store 49 _ _ rfl rfl rb (pcC (Hr.brk 400) (.slice none 0 0) (.slice none 0 0)) (by kernel_rfl) (by kernel_rfl) _ _ HA9.out sizePc21 rfl (by simp [Value.oneCell', pcC]) ?_)
    intro wf hwf huf
    go_wp2
    have hld := ldPc21 hwf
    exact bodyPost_ret (v := pv0 (Hr.brk 400)) (by simp [results, Tryz.results99, asAddr, hld, pv0]) rfl (by rw [HE.out]; exact up_plain21 HB2.out HRB.out HRL2.out (HF9.out) H9.out (RW.none _ _ _) rfl rfl HLT.out huf)
  subst her
  by_cases h15 : 15 < d.size
  · have h15i : (15 : Int) < (d.size : Int) := by omega
    have HE : Hid (P = Hr.broke s 400) := hid' (by rw [HP.out, show decide (15 < d.size) = true from decide_eq_true h15]; rfl)
    go_wp2_with (go_at_call 117; refine (HX.out _).mono ?_; rintro e w3 ⟨rfl, hw3⟩; subst w3; refine Hid.out ?_)
    refine hid' ?_
    go_wp2_with (go_at_call 33; refine (cbreaks21 B b _ _ _ _ 400 _ HR2.out).mono ?_; rintro e w9 ⟨rfl, h9, hf9⟩; refine Hid.out ?_)
    refine hid' ?_
    have H9 := hid' h9
    have HF9 := hid' hf9
    have HA9 := hid' (hf9.ar HA2.out HN0.out)
    clear h9 hf9
    go_wp2_with (refine wpl_store 49 _ _ rfl rfl rb (pcC (Hr.brk 400) (.slice none 0 0) (.slice none 0 0)) (by kernel_rfl) (by kernel_rfl) _ _ HA9.out sizePc21 rfl (by simp [Value.oneCell', pcC]) ?_)
    intro wf hwf huf
    go_wp2
    have hld := ldPc21 hwf
    exact bodyPost_ret (v := pv0 (Hr.brk 400)) (by simp [results, Tryz.results99, asAddr, hld, pv0]) rfl (by rw [HE.out]; exact up_plain21 HB2.out HRB.out HRL2.out (HF9.out) H9.out (RW.none _ _ _) rfl rfl HLT.out huf)
  have h15i : ¬ (15 : Int) < (d.size : Int) := by omega
  have HP2 : Hid (P = if s.room < k then Hr.broke s 413 else if k = 0 then (Hr.pc0, { s with md := (.inr .i16) }) else (Hr.pc0, { s with md := (.inr .i64), room := s.room - k, left := k })) := hid' (by rw [HP.out, show decide (15 < d.size) = false from decide_eq_false h15]; rfl)
  have k12 : w2.cell? ⟨b, 12, none⟩ = some (.int .i64 (s.room : Int)) := HR2.out.obj.cell 12 _ rfl
  have k11 : w2.cell? ⟨b, 11, none⟩ = some (.int .i64 (s.left : Int)) := HR2.out.obj.cell 11 _ rfl
  have f12 := HR2.out.obj.free 12
  have f11 := HR2.out.obj.free 11
  clear h15 HP
  by_cases hrk : s.room < k
  · have hrki : (s.room : Int) < (k : Int) := by omega
    have HE : Hid (P = Hr.broke s 413) := hid' (by rw [HP2.out, if_pos hrk])
    go_wp2_with (go_at_call 117; refine (HX.out _).mono ?_; rintro e w3 ⟨rfl, hw3⟩; subst w3; refine Hid.out ?_)
    refine hid' ?_
    go_wp2_with (go_at_call 33; refine (cbreaks21 B b _ _ _ _ 413 _ HR2.out).mono ?_; rintro e w9 ⟨rfl, h9, hf9⟩; refine Hid.out ?_)
    refine hid' ?_
    have H9 := hid' h9
    have HF9 := hid' hf9
    have HA9 := hid' (hf9.ar HA2.out HN0.out)
    clear h9 hf9
    go_wp2_with (refine wpl_store 49 _ _ rfl rfl rb (pcC (Hr.brk 413) (.slice none 0 0) (.slice none 0 0)) (by kernel_rfl) (by kernel_rfl) _ _ HA9.out sizePc21 rfl (by simp [Value.oneCell', pcC]) ?_)
    intro wf hwf huf
    go_wp2
    have hld := ldPc21 hwf
    exact bodyPost_ret (v := pv0 (Hr.brk 413)) (by simp [results, Tryz.results99, asAddr, hld, pv0]) rfl (by rw [HE.out]; exact up_plain21 HB2.out HRB.out HRL2.out (HF9.out) H9.out (RW.none _ _ _) rfl rfl HLT.out huf)
  have hrki : ¬ (s.room : Int) < (k : Int) := by omega
  by_cases hk0 : k = 0
  · have HE : Hid (P = (Hr.pc0, { s with md := (.inr .i16) })) := hid' (by rw [HP2.out, if_neg hrk, if_pos hk0])
    have hk0i : ((k : Int) == 0) = true := by rw [beq_iff_eq]; omega
    clear hk0 k11 f12 f11
    go_wp2_with (go_at_call 117; refine (HX.out _).mono ?_; rintro e w3 ⟨rfl, hw3⟩; subst w3; refine Hid.out ?_)
    refine hid' ?_
    have HNE : Hid (rb ≠ b) := hid' (fun e => HN0.out (.inl e))
    have c2 : w2.cell? ⟨b, 2, none⟩ = some (rnx b s.md) := HR2.out.obj.cell 2 _ rfl
    have f2 := HR2.out.obj.free 2
    have hmf := hmf21
    unfold rnx mV at c2
    go_upto_region 12 with fail
    have H4 : Hid (RN (w2.setCell ⟨b, 2, none⟩ (rnx b (.inr .i16))) B b (rnx b (.inr .i16)) lv fv { s with md := (.inr .i16) }) := hid' (HR2.out.next _ rfl rfl rfl)
    have HA4 : Hid (Ar (w2.setCell ⟨b, 2, none⟩ (rnx b (.inr .i16))) rb 49 pcZ) := hid' (HA2.out.other (Ne.symm HNE.out) 2 _)
    have HF4 : Hid (LF (RS b lv fv) w2 (w2.setCell ⟨b, 2, none⟩ (rnx b (.inr .i16)))) := hid' ((LF.refl _ _).trans (RN.lf_set 2 _) (fun _ _ => id))
    unfold rnx mV rnum at H4 HA4 HF4
    clear c2 f2 hmf
    generalize w2.setCell ⟨b, 2, none⟩ (.func (.func 118) #[.pointer (some ⟨b, 0, none⟩)] #[]) = w4 at *
    go_wp2_with (refine wpl_store 49 _ _ rfl rfl rb (pcC (Hr.pc0) (.slice none 0 0) (.slice none 0 0)) (by kernel_rfl) (by kernel_rfl) _ _ HA4.out sizePc21 rfl (by simp [Value.oneCell', pcC]) ?_)
    intro wf hwf huf
    go_wp2
    have hld := ldPc21 hwf
    exact bodyPost_ret (v := pv0 (Hr.pc0)) (by simp [results, Tryz.results99, asAddr, hld, pv0]) rfl (by rw [HE.out]; exact up_plain21 HB2.out HRB.out HRL2.out HF4.out H4.out (RW.refl _ _ _) rfl rfl HLT.out huf)
  · have HE : Hid (P = (Hr.pc0, { s with md := (.inr .i64), room := s.room - k, left := k })) := hid' (by rw [HP2.out, if_neg hrk, if_neg hk0])
    have hk0i : ((k : Int) == 0) = false := by rw [beq_eq_false_iff_ne]; omega
    have HC12 : Hid ((rdC (rnx b s.md) lv fv s).setIfInBounds 12 (.int .i64 ((s.room : Int) - (k : Int))) = rdC (rnx b s.md) lv fv { s with room := s.room - k }) := hid' (by
      have e : ((s.room - k : Nat) : Int) = (s.room : Int) - (k : Int) := by omega
      simp only [rdC, e]
      rfl)
    have HC11 : Hid ((rdC (rnx b s.md) lv fv { s with room := s.room - k }).setIfInBounds 11 (.int .i64 (k : Int)) = rdC (rnx b s.md) lv fv { s with room := s.room - k, left := k }) := hid' rfl
    clear hk0
    go_wp2_with (go_at_call 117; refine (HX.out _).mono ?_; rintro e w3 ⟨rfl, hw3⟩; subst w3; refine Hid.out ?_)
    refine hid' ?_
    have HNE : Hid (rb ≠ b) := hid' (fun e => HN0.out (.inl e))
    have c2 : w2.cell? ⟨b, 2, none⟩ = some (rnx b s.md) := HR2.out.obj.cell 2 _ rfl
    have f2 := HR2.out.obj.free 2
    have hmf := hmf21
    unfold rnx mV at c2
    go_upto_region 12 with fail
    have H4 : Hid (RN (((w2.setCell ⟨b, 12, none⟩ (.int .i64 ((s.room : Int) - (k : Int)))).setCell ⟨b, 11, none⟩ (.int .i64 (k : Int))).setCell ⟨b, 2, none⟩ (rnx b (.inr .i64))) B b (rnx b (.inr .i64)) lv fv { s with md := (.inr .i64), room := s.room - k, left := k }) := hid' (((HR2.out.set (nv' := rnx b s.md) (s' := { s with room := s.room - k }) 12 (.int .i64 ((s.room : Int) - (k : Int))) (HC12.out) rfl rfl).set (nv' := rnx b s.md) (s' := { s with room := s.room - k, left := k }) 11 (.int .i64 (k : Int)) (HC11.out) rfl rfl).next _ rfl rfl rfl)
    have HA4 : Hid (Ar (((w2.setCell ⟨b, 12, none⟩ (.int .i64 ((s.room : Int) - (k : Int)))).setCell ⟨b, 11, none⟩ (.int .i64 (k : Int))).setCell ⟨b, 2, none⟩ (rnx b (.inr .i64))) rb 49 pcZ) := hid' (((HA2.out.other (Ne.symm HNE.out) 12 (.int .i64 ((s.room : Int) - (k : Int)))).other (Ne.symm HNE.out) 11 (.int .i64 (k : Int))).other (Ne.symm HNE.out) 2 _)
    have HF4 : Hid (LF (RS b lv fv) w2 (((w2.setCell ⟨b, 12, none⟩ (.int .i64 ((s.room : Int) - (k : Int)))).setCell ⟨b, 11, none⟩ (.int .i64 (k : Int))).setCell ⟨b, 2, none⟩ (rnx b (.inr .i64)))) := hid' ((((((LF.refl _ _).trans (RN.lf_set 12 _) (fun _ _ => id))).trans (RN.lf_set 11 _) (fun _ _ => id))).trans (RN.lf_set 2 _) (fun _ _ => id))
    unfold rnx mV rnum at H4 HA4 HF4
    clear c2 f2 hmf
    generalize ((w2.setCell ⟨b, 12, none⟩ (.int .i64 ((s.room : Int) - (k : Int)))).setCell ⟨b, 11, none⟩ (.int .i64 (k : Int))).setCell ⟨b, 2, none⟩ (.func (.func 119) #[.pointer (some ⟨b, 0, none⟩)] #[]) = w4 at *
    go_wp2_with (refine wpl_store 49 _ _ rfl rfl rb (pcC (Hr.pc0) (.slice none 0 0) (.slice none 0 0)) (by kernel_rfl) (by kernel_rfl) _ _ HA4.out sizePc21 rfl (by simp [Value.oneCell', pcC]) ?_)
    intro wf hwf huf
    go_wp2
    have hld := ldPc21 hwf
    exact bodyPost_ret (v := pv0 (Hr.pc0)) (by simp [results, Tryz.results99, asAddr, hld, pv0]) rfl (by rw [HE.out]; exact up_plain21 HB2.out HRB.out HRL2.out HF4.out H4.out (RW.refl _ _ _) rfl rfl HLT.out huf)

set_option maxHeartbeats 4000000 in
set_option maxRecDepth 20000 in
theorem ctrailU21 (B b : Nat) (lv fv : Value) (s : Hr.St) (x : ByteArray) (w : World) (h : RN w B b (rnx b s.md) lv fv s) (hT : TB w) (hc : Hr.cost s + x.size ≤ 1048576) :
    Calls Tryz.prog 124 #[.pointer (some ⟨b, 0, none⟩), .string x] w (UP w B b lv fv (Hr.useTrailer s x.data.toList).1 (Hr.useTrailer s x.data.toList).2) := by
  have hcl := Hr.cost_len hc
  have hem : x.data.toList.isEmpty = (x.toList == []) := by rw [Lib.toList_data]; cases x.data.toList <;> rfl
  obtain ⟨P, hP⟩ : ∃ P, Hr.useTrailer s x.data.toList = P := ⟨_, rfl⟩
  obtain ⟨c, hct⟩ : ∃ c, Ms.trail s.fs = c := ⟨_, rfl⟩
  have HP : Hid (P = if (x.toList == []) then (if c == 0 then (Hr.allP s.fs, Hr.fresh s) else Hr.broke s 400) else Hr.addF s x.data.toList) := hid' (by rw [← hP, ← hem, ← hct]; rfl)
  rw [hP]
  have HCT := hid' hct
  have HC := hid' hc
  have HCL := hid' hcl
  have HTB := hid' hT
  clear hP hT hc hct hem hcl
  have H := hid' h
  have HLT : Hid (∀ k, RS b lv fv k → k < w.heap.size) := hid' (fun k hk => (h.rs k hk).2)
  have HB0 := hid' h.lb
  clear h
  go_enter Tryz.func124, Tryz.ntmps124
  go_wp2_with (refine wpl_alloc 49 rfl rfl _ zeroPc21 ?_)
  intro rb w1 hrb ha1 hl1
  have HB1 := hid' hl1
  have HA1 := hid' ha1
  have HRB : Hid (w.heap.size ≤ rb) := hid' (by omega)
  have HR1 := hid' (H.out.keep hl1)
  have HRL1 : Hid (rb < w1.heap.size) := hid' ha1.lt
  have HN0 : Hid (¬ RS b lv fv rb) := hid' (fun hk => by have := HLT.out rb hk; omega)
  clear ha1 hl1 hrb
  cases c0 : (x.toList == [])
  · have HE : Hid (P = Hr.addF s x.data.toList) := hid' (by rw [HP.out, c0]; rfl)
    obtain ⟨p, s', hps⟩ : ∃ p s', Hr.addF s x.data.toList = (p, s') := ⟨_, _, rfl⟩
    have HU := hid' (caddf21 B b lv fv s x w1 HR1.out (HTB.out.keep HB1.out) HC.out)
    rw [hps] at HU HE
    clear hps
    go_wp2_with fail
    refine HU.out.mono ?_
    rintro e w2 ⟨v, lv2, fv2, rfl, ⟨rv, tv, rfl, k1, k2, k3, k4⟩, hn2, hf2, hr2⟩
    obtain ⟨ro, rc, hrv⟩ := own_shape k1
    obtain ⟨tq, tc, htv⟩ := own_shape k2
    have HP4 : Hid (PcW w2 B (RS b lv2 fv2) (.agg (pcC p rv tv)) p) := hid' ⟨rv, tv, rfl, k1, k2, k3, k4⟩
    have HN2 := hid' hn2
    have HF2 := hid' hf2
    have HR2 := hid' hr2
    have HA2 := hid' (hf2.ar HA1.out HN0.out)
    subst hrv htv
    clear k1 k2 k3 k4 hn2 hf2 hr2
    go_wp2_with (refine wpl_store 49 _ _ rfl rfl rb (pcC p (.slice ro p.rq.fs.length rc) (.slice tq p.fs.length tc)) (by kernel_rfl) (by kernel_rfl) _ _ HA2.out sizePc21 rfl (by simp [Value.oneCell', pcC]) ?_)
    intro wf hwf huf
    go_wp2
    have hld := ldPc21 hwf
    exact bodyPost_ret (v := .agg (pcC p (.slice ro p.rq.fs.length rc) (.slice tq p.fs.length tc))) (by simp [results, Tryz.results124, asAddr, hld]) rfl (by rw [HE.out]; exact up_on21 HA2.out HB1.out HRB.out HRL1.out HF2.out HN2.out HR2.out HP4.out HLT.out huf)
  · have HP2 : Hid (P = if c == 0 then (Hr.allP s.fs, Hr.fresh s) else Hr.broke s 400) := hid' (by rw [HP.out, c0]; rfl)
    have k9 : w1.cell? ⟨b, 9, none⟩ = some fv := HR1.out.obj.cell 9 _ rfl
    have HTR := hid' (ctrail14 fv s.fs c HCT.out w1 (FW.of_own HR1.out.fl) HCL.out.2.1 (fun f hf => ⟨by have := (HCL.out.2.2.2.1 f hf).1; omega, by have := (HCL.out.2.2.2.1 f hf).2; omega⟩))
    go_wp2_with (go_at_call 128; refine (HTR.out).mono ?_; rintro e w2 ⟨rfl, hb2⟩; refine Hid.out ?_)
    refine hid' ?_
    have HB2 := hid' (below_two HB1.out hb2)
    have HA2 := hid' (HA1.out.keep hb2)
    have HR2 := hid' (HR1.out.keep hb2)
    have HRL2 : Hid (rb < w2.heap.size) := hid' (Nat.lt_of_lt_of_le HRL1.out hb2.size)
    clear hb2
    by_cases hc0 : c = 0
    · subst hc0
      have HE : Hid (P = (Hr.allP s.fs, Hr.fresh s)) := hid' (by rw [HP2.out]; rfl)
      obtain ⟨fo, fc, hfv⟩ := own_shape HR2.out.fl
      have HFO := hid' HR2.out.fl
      have HFB := hid' HR2.out.flb
      go_wp2_with (go_at_call 76; refine (cfinishB21 B b _ _ _ _ _ HR2.out).mono ?_; rintro e w3 ⟨rfl, h3, hf3⟩; refine Hid.out ?_)
      refine hid' ?_
      have H3 := hid' h3
      have HF3 := hid' hf3
      have HA3 := hid' (hf3.ar HA2.out (fun e => HN0.out (.inl e)))
      have HFO3 := hid' (own_same HFO.out (fun k hk => hf3.block k (own_lt HFO.out k hk) (HFB.out k hk)))
      subst hfv
      clear h3 hf3 k9
      have HP4 : Hid (PcW w3 B (RS b (.slice none 0 0) (.slice none 0 0)) (.agg (pcC (Hr.allP s.fs) (.slice none 0 0) (.slice fo s.fs.length fc))) (Hr.allP s.fs)) := hid' ⟨.slice none 0 0, .slice fo s.fs.length fc, rfl, World.ownsRow_nil _ _ _ _, HFO3.out, fun k hk => by simp [Value.ownBlock] at hk, fun k hk hr => HFB.out k hk (rs_none b k hr)⟩
      go_wp2_with (refine wpl_store 49 _ _ rfl rfl rb (pcC (Hr.allP s.fs) (.slice none 0 0) (.slice fo s.fs.length fc)) (by kernel_rfl) (by kernel_rfl) _ _ HA3.out sizePc21 rfl (by simp [Value.oneCell', pcC]) ?_)
      intro wf hwf huf
      go_wp2
      have hld := ldPc21 hwf
      exact bodyPost_ret (v := .agg (pcC (Hr.allP s.fs) (.slice none 0 0) (.slice fo s.fs.length fc))) (by simp [results, Tryz.results124, asAddr, hld]) rfl (by rw [HE.out]; exact up_on21 HA3.out HB2.out HRB.out HRL2.out (lf_b21 HF3.out) H3.out (RW.none _ _ _) HP4.out HLT.out huf)
    · have hne : (c != 0) = true := by rw [bne_iff_ne]; exact hc0
      have HE : Hid (P = Hr.broke s 400) := hid' (by rw [HP2.out, show (c == 0) = false from by rw [beq_eq_false_iff_ne]; exact hc0]; rfl)
      go_wp2_with (go_at_call 33; refine (cbreaks21 B b _ _ _ _ 400 _ HR2.out).mono ?_; rintro e w9 ⟨rfl, h9, hf9⟩; refine Hid.out ?_)
      refine hid' ?_
      have H9 := hid' h9
      have HF9 := hid' hf9
      have HA9 := hid' (hf9.ar HA2.out HN0.out)
      clear h9 hf9
      go_wp2_with (refine wpl_store 49 _ _ rfl rfl rb (pcC (Hr.brk 400) (.slice none 0 0) (.slice none 0 0)) (by kernel_rfl) (by kernel_rfl) _ _ HA9.out sizePc21 rfl (by simp [Value.oneCell', pcC]) ?_)
      intro wf hwf huf
      go_wp2
      have hld := ldPc21 hwf
      exact bodyPost_ret (v := pv0 (Hr.brk 400)) (by simp [results, Tryz.results124, asAddr, hld, pv0]) rfl (by rw [HE.out]; exact up_plain21 HB2.out HRB.out HRL2.out (HF9.out) H9.out (RW.none _ _ _) rfl rfl HLT.out huf)

end Go.Proofs.YtbpdhcfmdkmoiaaGreatDoor
