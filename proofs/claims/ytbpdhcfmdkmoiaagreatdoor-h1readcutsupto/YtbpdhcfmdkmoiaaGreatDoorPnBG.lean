/-
  The reader's ways to read: readStart, readField, readSize, readTrailer, readPart, readBody, readChunk, readOne, readCR, readLF, readEnd, readNothing: by their contracts.
-/
import Derived.Test.YtbpdhcfmdkmoiaaGreatDoorPnBF
namespace Go.Proofs.YtbpdhcfmdkmoiaaGreatDoor
open Go.RowKit

theorem ext_ba21 (d : ByteArray) (k : Nat) : d.extract 0 k = Hr.ba (d.data.toList.take k) := by
  have h := Lib.extract_from_zero d k
  unfold Hr.ba
  rw [← h]

set_option maxHeartbeats 4000000 in
set_option maxRecDepth 20000 in
theorem cstartR21 (B b : Nat) (lv fv : Value) (s : Hr.St) (d : ByteArray) (w : World) (h : RN w B b (rnx b s.md) lv fv s) (hm : s.md = (.inl false)) (hT : TBr B w) (hc : Hr.cost s + d.size ≤ 1048576) (hr : s.room ≤ 9223372036854775807) (hl63 : s.L ≤ 9223372036854775807) :
    Calls Tryz.prog 18 #[.pointer (some ⟨b, 0, none⟩), .string d] w (NP w B b lv fv (Hr.nx s d.data.toList)) := by
  have HRD : Hid (∀ W, RN W B b (rnx b s.md) lv fv s → TBr B W → Calls Tryz.prog 27 #[.pointer (some ⟨b, 0, none⟩), .string d, .int .i64 ((s.L : Nat) : Int), .int .i64 414, .func (.func 28) #[.pointer (some ⟨b, 0, none⟩)] #[]] W (NP W B b lv fv (Hr.rl s d.data.toList))) := hid' (fun W h1 h2 => by
    have := creadL21 B b lv fv s d W h1 (by unfold Hr.lineM; rw [hm]) h2 hc hr hl63
    rw [show Hr.most s = (s.L : Nat) from by unfold Hr.most; rw [hm], show Hr.code s = 414 from by unfold Hr.code; rw [hm], show mV b (unum s.md) = .func (.func 28) #[.pointer (some ⟨b, 0, none⟩)] #[] from by rw [hm]; rfl] at this
    exact this)
  have HNX : Hid (Hr.nx s d.data.toList = Hr.rl s d.data.toList) := hid' (by unfold Hr.nx; rw [hm])
  obtain ⟨qn, p, s', hq⟩ : ∃ qn p s', Hr.rl s d.data.toList = (qn, p, s') := ⟨_, _, _, rfl⟩
  have HE : Hid (Hr.nx s d.data.toList = (qn, p, s')) := hid' (HNX.out.trans hq)
  rw [hq] at HRD
  have HT := hid' hT
  have hmf := hmf21
  clear hm hT hc hr hl63 hq HNX
  have H := hid' h
  have HLT : Hid (∀ k, RS b lv fv k → k < w.heap.size) := hid' (fun k hk => (h.rs k hk).2)
  have HB0 := hid' h.lb
  clear h
  go_enter Tryz.func18, Tryz.ntmps18
  go_wp2_with (refine wpl_alloc 49 rfl rfl _ zeroPc21 ?_)
  intro rb w1 hrb ha1 hl1
  have HB1 := hid' hl1
  have HA1 := hid' ha1
  have HRB : Hid (w.heap.size ≤ rb) := hid' (by omega)
  have HR1 := hid' (H.out.keep hl1)
  have HRL1 : Hid (rb < w1.heap.size) := hid' ha1.lt
  have HN0 : Hid (¬ RS b lv fv rb) := hid' (fun hk => by have := HLT.out rb hk; omega)
  clear ha1 hl1 hrb
  have k0 : w1.cell? ⟨b, 0, none⟩ = some (.int .i64 (s.L : Int)) := HR1.out.obj.cell 0 _ rfl
  go_wp2_with (go_at_call 27; refine (HRD.out _ HR1.out (HT.out.keep HB1.out)).mono ?_; rintro e w2 ⟨v, lv2, fv2, rfl, ⟨rv, tv, rfl, k1, k2, k3, k4⟩, hn2, hf2, hr2⟩; refine Hid.out ?_)
  refine hid' ?_
  obtain ⟨ro, rc, hrv⟩ := own_shape k1
  obtain ⟨tq, tc, htv⟩ := own_shape k2
  have HP4 : Hid (PcW w2 B (RS b lv2 fv2) (.agg (pcC p rv tv)) p) := hid' ⟨rv, tv, rfl, k1, k2, k3, k4⟩
  have HN2 := hid' hn2
  have HF2 := hid' hf2
  have HR2 := hid' hr2
  have HA2 := hid' (hf2.ar HA1.out HN0.out)
  subst hrv htv
  clear k1 k2 k3 k4 hn2 hf2 hr2
  go_wp2_with (refine wpl_store 49 _ _ rfl rfl rb (pcC p (.slice ro p.rq.fs.length rc) (.slice tq p.fs.length tc)) (by kernel_rfl) (by kernel_rfl) _ _ HA2.out sizePc21 rfl (by simp [Value.oneCell', pcC]) ?_)
  intro wf hwf huf
  go_wp2
  have hld := ldPc21 hwf
  exact bodyPost_ret (v := .tuple #[.int .i64 (qn : Int), .agg (pcC p (.slice ro p.rq.fs.length rc) (.slice tq p.fs.length tc))]) (by simp [results, Tryz.results18, asAddr, hld]) rfl (by rw [HE.out]; exact np_up21 (up_on21 HA2.out HB1.out HRB.out HRL1.out HF2.out HN2.out HR2.out HP4.out HLT.out huf))

set_option maxHeartbeats 4000000 in
set_option maxRecDepth 20000 in
theorem cfieldR21 (B b : Nat) (lv fv : Value) (s : Hr.St) (d : ByteArray) (w : World) (h : RN w B b (rnx b s.md) lv fv s) (hm : s.md = (.inl true)) (hT : TBr B w) (hc : Hr.cost s + d.size ≤ 1048576) (hr : s.room ≤ 9223372036854775807) (hl63 : s.L ≤ 9223372036854775807) :
    Calls Tryz.prog 37 #[.pointer (some ⟨b, 0, none⟩), .string d] w (NP w B b lv fv (Hr.nx s d.data.toList)) := by
  have HRD : Hid (∀ W, RN W B b (rnx b s.md) lv fv s → TBr B W → Calls Tryz.prog 27 #[.pointer (some ⟨b, 0, none⟩), .string d, .int .i64 ((s.L : Nat) : Int), .int .i64 431, .func (.func 45) #[.pointer (some ⟨b, 0, none⟩)] #[]] W (NP W B b lv fv (Hr.rl s d.data.toList))) := hid' (fun W h1 h2 => by
    have := creadL21 B b lv fv s d W h1 (by unfold Hr.lineM; rw [hm]) h2 hc hr hl63
    rw [show Hr.most s = (s.L : Nat) from by unfold Hr.most; rw [hm], show Hr.code s = 431 from by unfold Hr.code; rw [hm], show mV b (unum s.md) = .func (.func 45) #[.pointer (some ⟨b, 0, none⟩)] #[] from by rw [hm]; rfl] at this
    exact this)
  have HNX : Hid (Hr.nx s d.data.toList = Hr.rl s d.data.toList) := hid' (by unfold Hr.nx; rw [hm])
  obtain ⟨qn, p, s', hq⟩ : ∃ qn p s', Hr.rl s d.data.toList = (qn, p, s') := ⟨_, _, _, rfl⟩
  have HE : Hid (Hr.nx s d.data.toList = (qn, p, s')) := hid' (HNX.out.trans hq)
  rw [hq] at HRD
  have HT := hid' hT
  have hmf := hmf21
  clear hm hT hc hr hl63 hq HNX
  have H := hid' h
  have HLT : Hid (∀ k, RS b lv fv k → k < w.heap.size) := hid' (fun k hk => (h.rs k hk).2)
  have HB0 := hid' h.lb
  clear h
  go_enter Tryz.func37, Tryz.ntmps37
  go_wp2_with (refine wpl_alloc 49 rfl rfl _ zeroPc21 ?_)
  intro rb w1 hrb ha1 hl1
  have HB1 := hid' hl1
  have HA1 := hid' ha1
  have HRB : Hid (w.heap.size ≤ rb) := hid' (by omega)
  have HR1 := hid' (H.out.keep hl1)
  have HRL1 : Hid (rb < w1.heap.size) := hid' ha1.lt
  have HN0 : Hid (¬ RS b lv fv rb) := hid' (fun hk => by have := HLT.out rb hk; omega)
  clear ha1 hl1 hrb
  have k0 : w1.cell? ⟨b, 0, none⟩ = some (.int .i64 (s.L : Int)) := HR1.out.obj.cell 0 _ rfl
  go_wp2_with (go_at_call 27; refine (HRD.out _ HR1.out (HT.out.keep HB1.out)).mono ?_; rintro e w2 ⟨v, lv2, fv2, rfl, ⟨rv, tv, rfl, k1, k2, k3, k4⟩, hn2, hf2, hr2⟩; refine Hid.out ?_)
  refine hid' ?_
  obtain ⟨ro, rc, hrv⟩ := own_shape k1
  obtain ⟨tq, tc, htv⟩ := own_shape k2
  have HP4 : Hid (PcW w2 B (RS b lv2 fv2) (.agg (pcC p rv tv)) p) := hid' ⟨rv, tv, rfl, k1, k2, k3, k4⟩
  have HN2 := hid' hn2
  have HF2 := hid' hf2
  have HR2 := hid' hr2
  have HA2 := hid' (hf2.ar HA1.out HN0.out)
  subst hrv htv
  clear k1 k2 k3 k4 hn2 hf2 hr2
  go_wp2_with (refine wpl_store 49 _ _ rfl rfl rb (pcC p (.slice ro p.rq.fs.length rc) (.slice tq p.fs.length tc)) (by kernel_rfl) (by kernel_rfl) _ _ HA2.out sizePc21 rfl (by simp [Value.oneCell', pcC]) ?_)
  intro wf hwf huf
  go_wp2
  have hld := ldPc21 hwf
  exact bodyPost_ret (v := .tuple #[.int .i64 (qn : Int), .agg (pcC p (.slice ro p.rq.fs.length rc) (.slice tq p.fs.length tc))]) (by simp [results, Tryz.results37, asAddr, hld]) rfl (by rw [HE.out]; exact np_up21 (up_on21 HA2.out HB1.out HRB.out HRL1.out HF2.out HN2.out HR2.out HP4.out HLT.out huf))

set_option maxHeartbeats 4000000 in
set_option maxRecDepth 20000 in
theorem csizeR21 (B b : Nat) (lv fv : Value) (s : Hr.St) (d : ByteArray) (w : World) (h : RN w B b (rnx b s.md) lv fv s) (hm : s.md = (.inr .i8)) (hT : TBr B w) (hc : Hr.cost s + d.size ≤ 1048576) (hr : s.room ≤ 9223372036854775807) (hl63 : s.L ≤ 9223372036854775807) :
    Calls Tryz.prog 74 #[.pointer (some ⟨b, 0, none⟩), .string d] w (NP w B b lv fv (Hr.nx s d.data.toList)) := by
  have HRD : Hid (∀ W, RN W B b (rnx b s.md) lv fv s → TBr B W → Calls Tryz.prog 27 #[.pointer (some ⟨b, 0, none⟩), .string d, .int .i64 (256 : Int), .int .i64 400, .func (.func 99) #[.pointer (some ⟨b, 0, none⟩)] #[]] W (NP W B b lv fv (Hr.rl s d.data.toList))) := hid' (fun W h1 h2 => by
    have := creadL21 B b lv fv s d W h1 (by unfold Hr.lineM; rw [hm]) h2 hc hr hl63
    rw [show Hr.most s = 256 from by unfold Hr.most; rw [hm], show Hr.code s = 400 from by unfold Hr.code; rw [hm], show mV b (unum s.md) = .func (.func 99) #[.pointer (some ⟨b, 0, none⟩)] #[] from by rw [hm]; rfl] at this
    exact this)
  have HNX : Hid (Hr.nx s d.data.toList = Hr.rl s d.data.toList) := hid' (by unfold Hr.nx; rw [hm])
  obtain ⟨qn, p, s', hq⟩ : ∃ qn p s', Hr.rl s d.data.toList = (qn, p, s') := ⟨_, _, _, rfl⟩
  have HE : Hid (Hr.nx s d.data.toList = (qn, p, s')) := hid' (HNX.out.trans hq)
  rw [hq] at HRD
  have HT := hid' hT
  have hmf := hmf21
  clear hm hT hc hr hl63 hq HNX
  have H := hid' h
  have HLT : Hid (∀ k, RS b lv fv k → k < w.heap.size) := hid' (fun k hk => (h.rs k hk).2)
  have HB0 := hid' h.lb
  clear h
  go_enter Tryz.func74, Tryz.ntmps74
  go_wp2_with (refine wpl_alloc 49 rfl rfl _ zeroPc21 ?_)
  intro rb w1 hrb ha1 hl1
  have HB1 := hid' hl1
  have HA1 := hid' ha1
  have HRB : Hid (w.heap.size ≤ rb) := hid' (by omega)
  have HR1 := hid' (H.out.keep hl1)
  have HRL1 : Hid (rb < w1.heap.size) := hid' ha1.lt
  have HN0 : Hid (¬ RS b lv fv rb) := hid' (fun hk => by have := HLT.out rb hk; omega)
  clear ha1 hl1 hrb
  have k0 : w1.cell? ⟨b, 0, none⟩ = some (.int .i64 (s.L : Int)) := HR1.out.obj.cell 0 _ rfl
  go_wp2_with (go_at_call 27; refine (HRD.out _ HR1.out (HT.out.keep HB1.out)).mono ?_; rintro e w2 ⟨v, lv2, fv2, rfl, ⟨rv, tv, rfl, k1, k2, k3, k4⟩, hn2, hf2, hr2⟩; refine Hid.out ?_)
  refine hid' ?_
  obtain ⟨ro, rc, hrv⟩ := own_shape k1
  obtain ⟨tq, tc, htv⟩ := own_shape k2
  have HP4 : Hid (PcW w2 B (RS b lv2 fv2) (.agg (pcC p rv tv)) p) := hid' ⟨rv, tv, rfl, k1, k2, k3, k4⟩
  have HN2 := hid' hn2
  have HF2 := hid' hf2
  have HR2 := hid' hr2
  have HA2 := hid' (hf2.ar HA1.out HN0.out)
  subst hrv htv
  clear k1 k2 k3 k4 hn2 hf2 hr2
  go_wp2_with (refine wpl_store 49 _ _ rfl rfl rb (pcC p (.slice ro p.rq.fs.length rc) (.slice tq p.fs.length tc)) (by kernel_rfl) (by kernel_rfl) _ _ HA2.out sizePc21 rfl (by simp [Value.oneCell', pcC]) ?_)
  intro wf hwf huf
  go_wp2
  have hld := ldPc21 hwf
  exact bodyPost_ret (v := .tuple #[.int .i64 (qn : Int), .agg (pcC p (.slice ro p.rq.fs.length rc) (.slice tq p.fs.length tc))]) (by simp [results, Tryz.results74, asAddr, hld]) rfl (by rw [HE.out]; exact np_up21 (up_on21 HA2.out HB1.out HRB.out HRL1.out HF2.out HN2.out HR2.out HP4.out HLT.out huf))

set_option maxHeartbeats 4000000 in
set_option maxRecDepth 20000 in
theorem ctrailR21 (B b : Nat) (lv fv : Value) (s : Hr.St) (d : ByteArray) (w : World) (h : RN w B b (rnx b s.md) lv fv s) (hm : s.md = (.inr .i16)) (hT : TBr B w) (hc : Hr.cost s + d.size ≤ 1048576) (hr : s.room ≤ 9223372036854775807) (hl63 : s.L ≤ 9223372036854775807) :
    Calls Tryz.prog 118 #[.pointer (some ⟨b, 0, none⟩), .string d] w (NP w B b lv fv (Hr.nx s d.data.toList)) := by
  have HRD : Hid (∀ W, RN W B b (rnx b s.md) lv fv s → TBr B W → Calls Tryz.prog 27 #[.pointer (some ⟨b, 0, none⟩), .string d, .int .i64 ((s.L : Nat) : Int), .int .i64 431, .func (.func 124) #[.pointer (some ⟨b, 0, none⟩)] #[]] W (NP W B b lv fv (Hr.rl s d.data.toList))) := hid' (fun W h1 h2 => by
    have := creadL21 B b lv fv s d W h1 (by unfold Hr.lineM; rw [hm]) h2 hc hr hl63
    rw [show Hr.most s = (s.L : Nat) from by unfold Hr.most; rw [hm], show Hr.code s = 431 from by unfold Hr.code; rw [hm], show mV b (unum s.md) = .func (.func 124) #[.pointer (some ⟨b, 0, none⟩)] #[] from by rw [hm]; rfl] at this
    exact this)
  have HNX : Hid (Hr.nx s d.data.toList = Hr.rl s d.data.toList) := hid' (by unfold Hr.nx; rw [hm])
  obtain ⟨qn, p, s', hq⟩ : ∃ qn p s', Hr.rl s d.data.toList = (qn, p, s') := ⟨_, _, _, rfl⟩
  have HE : Hid (Hr.nx s d.data.toList = (qn, p, s')) := hid' (HNX.out.trans hq)
  rw [hq] at HRD
  have HT := hid' hT
  have hmf := hmf21
  clear hm hT hc hr hl63 hq HNX
  have H := hid' h
  have HLT : Hid (∀ k, RS b lv fv k → k < w.heap.size) := hid' (fun k hk => (h.rs k hk).2)
  have HB0 := hid' h.lb
  clear h
  go_enter Tryz.func118, Tryz.ntmps118
  go_wp2_with (refine wpl_alloc 49 rfl rfl _ zeroPc21 ?_)
  intro rb w1 hrb ha1 hl1
  have HB1 := hid' hl1
  have HA1 := hid' ha1
  have HRB : Hid (w.heap.size ≤ rb) := hid' (by omega)
  have HR1 := hid' (H.out.keep hl1)
  have HRL1 : Hid (rb < w1.heap.size) := hid' ha1.lt
  have HN0 : Hid (¬ RS b lv fv rb) := hid' (fun hk => by have := HLT.out rb hk; omega)
  clear ha1 hl1 hrb
  have k0 : w1.cell? ⟨b, 0, none⟩ = some (.int .i64 (s.L : Int)) := HR1.out.obj.cell 0 _ rfl
  go_wp2_with (go_at_call 27; refine (HRD.out _ HR1.out (HT.out.keep HB1.out)).mono ?_; rintro e w2 ⟨v, lv2, fv2, rfl, ⟨rv, tv, rfl, k1, k2, k3, k4⟩, hn2, hf2, hr2⟩; refine Hid.out ?_)
  refine hid' ?_
  obtain ⟨ro, rc, hrv⟩ := own_shape k1
  obtain ⟨tq, tc, htv⟩ := own_shape k2
  have HP4 : Hid (PcW w2 B (RS b lv2 fv2) (.agg (pcC p rv tv)) p) := hid' ⟨rv, tv, rfl, k1, k2, k3, k4⟩
  have HN2 := hid' hn2
  have HF2 := hid' hf2
  have HR2 := hid' hr2
  have HA2 := hid' (hf2.ar HA1.out HN0.out)
  subst hrv htv
  clear k1 k2 k3 k4 hn2 hf2 hr2
  go_wp2_with (refine wpl_store 49 _ _ rfl rfl rb (pcC p (.slice ro p.rq.fs.length rc) (.slice tq p.fs.length tc)) (by kernel_rfl) (by kernel_rfl) _ _ HA2.out sizePc21 rfl (by simp [Value.oneCell', pcC]) ?_)
  intro wf hwf huf
  go_wp2
  have hld := ldPc21 hwf
  exact bodyPost_ret (v := .tuple #[.int .i64 (qn : Int), .agg (pcC p (.slice ro p.rq.fs.length rc) (.slice tq p.fs.length tc))]) (by simp [results, Tryz.results118, asAddr, hld]) rfl (by rw [HE.out]; exact np_up21 (up_on21 HA2.out HB1.out HRB.out HRL1.out HF2.out HN2.out HR2.out HP4.out HLT.out huf))

set_option maxHeartbeats 4000000 in
set_option maxRecDepth 20000 in
theorem cendR21 (B b : Nat) (lv fv : Value) (s : Hr.St) (d : ByteArray) (w : World) (h : RN w B b (rnx b s.md) lv fv s) (hm : s.md = (.inr .u32)) :
    Calls Tryz.prog 101 #[.pointer (some ⟨b, 0, none⟩), .string d] w (NP w B b lv fv (Hr.nx s d.data.toList)) := by
  have HE : Hid (Hr.nx s d.data.toList = (0, Hr.allP [], Hr.fresh s)) := hid' (by unfold Hr.nx; rw [hm])
  clear hm
  have H := hid' h
  have HLT : Hid (∀ k, RS b lv fv k → k < w.heap.size) := hid' (fun k hk => (h.rs k hk).2)
  have HB0 := hid' h.lb
  clear h
  go_enter Tryz.func101, Tryz.ntmps101
  go_wp2_with (refine wpl_alloc 49 rfl rfl _ zeroPc21 ?_)
  intro rb w1 hrb ha1 hl1
  have HB1 := hid' hl1
  have HA1 := hid' ha1
  have HRB : Hid (w.heap.size ≤ rb) := hid' (by omega)
  have HR1 := hid' (H.out.keep hl1)
  have HRL1 : Hid (rb < w1.heap.size) := hid' ha1.lt
  have HN0 : Hid (¬ RS b lv fv rb) := hid' (fun hk => by have := HLT.out rb hk; omega)
  clear ha1 hl1 hrb
  go_wp2_with (go_at_call 76; refine (cfinish21 B b _ _ _ _ _ HR1.out).mono ?_; rintro e w2 ⟨rfl, h2, hf2⟩; refine Hid.out ?_)
  refine hid' ?_
  have H2 := hid' h2
  have HF2 := hid' hf2
  have HA2 := hid' (hf2.ar HA1.out HN0.out)
  clear h2 hf2
  go_wp2_with (refine wpl_store 49 _ _ rfl rfl rb (pcC (Hr.allP []) (.slice none 0 0) (.slice none 0 0)) (by kernel_rfl) (by kernel_rfl) _ _ HA2.out sizePc21 rfl (by simp [Value.oneCell', pcC]) ?_)
  intro wf hwf huf
  go_wp2
  have hld := ldPc21 hwf
  exact bodyPost_ret (v := .tuple #[.int .i64 0, pv0 (Hr.allP [])]) (by simp [results, Tryz.results101, asAddr, hld, pv0]) rfl (by rw [HE.out]; exact np_up21 (n := 0) (up_plain21 HB1.out HRB.out HRL1.out HF2.out H2.out (RW.none _ _ _) rfl rfl HLT.out huf))

set_option maxHeartbeats 4000000 in
set_option maxRecDepth 20000 in
theorem cdeadR21 (B b : Nat) (lv fv : Value) (s : Hr.St) (d : ByteArray) (w : World) (h : RN w B b (rnx b s.md) lv fv s) (hm : s.md = (.inr .u64)) :
    Calls Tryz.prog 41 #[.pointer (some ⟨b, 0, none⟩), .string d] w (NP w B b lv fv (Hr.nx s d.data.toList)) := by
  have HE : Hid (Hr.nx s d.data.toList = (0, Hr.brk s.st, s)) := hid' (by unfold Hr.nx; rw [hm])
  clear hm
  have H := hid' h
  have HLT : Hid (∀ k, RS b lv fv k → k < w.heap.size) := hid' (fun k hk => (h.rs k hk).2)
  have HB0 := hid' h.lb
  clear h
  go_enter Tryz.func41, Tryz.ntmps41
  go_wp2_with (refine wpl_alloc 49 rfl rfl _ zeroPc21 ?_)
  intro rb w1 hrb ha1 hl1
  have HB1 := hid' hl1
  have HA1 := hid' ha1
  have HRB : Hid (w.heap.size ≤ rb) := hid' (by omega)
  have HR1 := hid' (H.out.keep hl1)
  have HRL1 : Hid (rb < w1.heap.size) := hid' ha1.lt
  have HN0 : Hid (¬ RS b lv fv rb) := hid' (fun hk => by have := HLT.out rb hk; omega)
  clear ha1 hl1 hrb
  have k13 : w1.cell? ⟨b, 13, none⟩ = some (.int .i64 s.st) := HR1.out.obj.cell 13 _ rfl
  go_upto_region 1 with fail
  refine wp_region_held_drew (S := fun W => W.cell? ⟨b, 13, none⟩ = some (.int .i64 s.st)) (by kernel_rfl) (k13) (fun hHeld => ?_)
  refine take_d19 (i := 0) (d := some 6) (v := ?_) rfl rfl (by kernel_rfl) (by kernel_rfl) (by kernel_rfl) (fun _ _ _ h => h) (Or.inl ⟨by rfl, ?_⟩) (by assumption) ?_
  rotate_left
  · intro w hSw
    (try dsimp only at hSw)
    go_simp
    try with_reducible rfl
  try simp only [Act.put, List.setIfInBounds_toArray, List.set_cons_zero, List.set_cons_succ]
  refine take_d19 (i := 1) (d := some 7) (v := ?_) rfl rfl (by kernel_rfl) (by kernel_rfl) (by kernel_rfl) (fun _ _ _ h => h) (Or.inl ⟨by rfl, ?_⟩) (by assumption) ?_
  rotate_left
  · intro w hSw
    (try dsimp only at hSw)
    go_simp
    try with_reducible rfl
  try simp only [Act.put, List.setIfInBounds_toArray, List.set_cons_zero, List.set_cons_succ]
  refine take_d19 (i := 2) (d := some 8) (v := ?_) rfl rfl (by kernel_rfl) (by kernel_rfl) (by kernel_rfl) (fun _ _ _ h => h) (Or.inl ⟨by rfl, ?_⟩) (by assumption) ?_
  rotate_left
  · intro w hSw
    (try dsimp only at hSw)
    go_simp
    try with_reducible rfl
  try simp only [Act.put, List.setIfInBounds_toArray, List.set_cons_zero, List.set_cons_succ]
  refine take_d19 (i := 3) (d := some 9) (v := ?_) rfl rfl (by kernel_rfl) (by kernel_rfl) (by kernel_rfl) (fun _ _ _ h => h) (Or.inl ⟨by rfl, ?_⟩) (by assumption) ?_
  rotate_left
  · intro w hSw
    (try dsimp only at hSw)
    have k13 := hSw
    go_simp
    try with_reducible rfl
  try simp only [Act.put, List.setIfInBounds_toArray, List.set_cons_zero, List.set_cons_succ]
  refine take_d19 (i := 4) (d := some 10) (v := ?_) rfl rfl (by kernel_rfl) (by kernel_rfl) (by kernel_rfl) (fun _ _ _ h => h) (Or.inl ⟨by rfl, ?_⟩) (by assumption) ?_
  rotate_left
  · intro w hSw
    (try dsimp only at hSw)
    go_simp
    try with_reducible rfl
  try simp only [Act.put, List.setIfInBounds_toArray, List.set_cons_zero, List.set_cons_succ]
  refine take_d19 (i := 5) (d := some 4) (v := ?_) rfl rfl (by kernel_rfl) (by kernel_rfl) (by kernel_rfl) (fun _ _ _ h => h) (Or.inl ⟨by rfl, ?_⟩) (by assumption) ?_
  rotate_left
  · intro w hSw
    (try dsimp only at hSw)
    go_simp
    try with_reducible rfl
  try simp only [Act.put, List.setIfInBounds_toArray, List.set_cons_zero, List.set_cons_succ]
  refine wpAnyH_ready (rs := [6]) (by kernel_rfl) (by simp) ?_
  refine AllReadyH.cons rfl (fun K hK => ?_) AllReadyH.nil
  refine step_store19 rfl 49 _ _ rfl rb #[.int .u8 4, .string ⟨#[]⟩, .string ⟨#[]⟩, .string ⟨#[]⟩, .string ⟨#[]⟩, .slice none 0 0, .string ⟨#[]⟩, .slice none 0 0, .bool false, .bool false, .bool false, .bool false, .string ⟨#[]⟩, .slice none 0 0, .int .i64 s.st] rfl rfl 49 _ (HA1.out.drew) sizePc21 rfl (by simp [Value.oneCell']) ?_
  intro wf hawf huwf
  refine hK.out _ _ ((ar_upd (HR1.out.obj.keep (Below.refl _ _).drew) huwf (fun e => HN0.out (.inl e.symm))).cell 13 _ rfl) (fun _ => ?_)
  clear hK K
  try simp only [Act.put]
  refine wpAnyH_done (by kernel_rfl) ?_ _
  go_wp2
  have hld := ldPc21 (p := Hr.brk s.st) hawf
  exact bodyPost_ret (v := .tuple #[.int .i64 0, pv0 (Hr.brk s.st)]) (by simp [results, Tryz.results41, asAddr, hld, pv0]) rfl (by rw [HE.out]; exact np_up21 (n := 0) (up_plain21 HB1.out HRB.out HRL1.out (LF.of_below (Below.refl _ _).drew) (HR1.out.keep (Below.refl _ _).drew) (RW.refl _ _ _) rfl rfl HLT.out huwf))

set_option maxHeartbeats 4000000 in
set_option maxRecDepth 20000 in
theorem cpartR21 (B b kk : Nat) (md : Hr.Md) (hk : rnum md = kk) (lv fv : Value) (s : Hr.St) (d : ByteArray) (w : World) (h : RN w B b (rnx b s.md) lv fv s) (hl63 : s.left ≤ 9223372036854775807) :
    Calls Tryz.prog 100 #[.pointer (some ⟨b, 0, none⟩), .string d, mV b kk] w (NP w B b lv fv (Hr.part s md d.data.toList)) := by
  obtain ⟨Q, hQ⟩ : ∃ Q, Hr.part s md d.data.toList = Q := ⟨_, rfl⟩
  rw [hQ]
  have HQ := hid' hQ
  have HK := hid' hk
  obtain ⟨m, hm⟩ : ∃ m, min s.left d.size = m := ⟨_, rfl⟩
  have HM := hid' hm
  have hmin : min (s.left : Int) (d.size : Int) = (m : Int) := by omega
  have hmd : m ≤ d.size := by omega
  have hms : m ≤ s.left := by omega
  unfold mV
  clear hQ hk hm
  have H := hid' h
  have HLT : Hid (∀ k, RS b lv fv k → k < w.heap.size) := hid' (fun k hk => (h.rs k hk).2)
  have HB0 := hid' h.lb
  clear h
  go_enter Tryz.func100, Tryz.ntmps100
  go_wp2_with (refine wpl_alloc 49 rfl rfl _ zeroPc21 ?_)
  intro rb w1 hrb ha1 hl1
  have HB1 := hid' hl1
  have HA1 := hid' ha1
  have HRB : Hid (w.heap.size ≤ rb) := hid' (by omega)
  have HR1 := hid' (H.out.keep hl1)
  have HRL1 : Hid (rb < w1.heap.size) := hid' ha1.lt
  have HN0 : Hid (¬ RS b lv fv rb) := hid' (fun hk => by have := HLT.out rb hk; omega)
  clear ha1 hl1 hrb
  have k11 : w1.cell? ⟨b, 11, none⟩ = some (.int .i64 (s.left : Int)) := HR1.out.obj.cell 11 _ rfl
  have f11 := HR1.out.obj.free 11
  have k2 : w1.cell? ⟨b, 2, none⟩ = some (rnx b s.md) := HR1.out.obj.cell 2 _ rfl
  have f2 := HR1.out.obj.free 2
  unfold rnx mV at k2
  have HNE : Hid (rb ≠ b) := hid' (fun e => HN0.out (.inl e))
  have hdl : d.data.toList.length = d.size := (Lib.size_eq d).symm
  have HQ2 : Hid (Q = if m = 0 then (0, Hr.pc0, s) else (m, Hr.bodyP (d.extract 0 m), { s with left := s.left - m, md := if s.left - m = 0 then md else s.md })) := hid' (by
    rw [← HQ.out, ext_ba21]
    unfold Hr.part
    rw [hdl, HM.out])
  clear hdl
  by_cases h0 : m = 0
  · have hm0 : ((m : Int) == 0) = true := by rw [beq_iff_eq]; omega
    have HE : Hid (Q = (0, Hr.pc0, s)) := hid' (by rw [HQ2.out, if_pos h0])
    go_wp2_with (refine wpl_store 49 _ _ rfl rfl rb (pcC (Hr.pc0) (.slice none 0 0) (.slice none 0 0)) (by kernel_rfl) (by kernel_rfl) _ _ HA1.out sizePc21 rfl (by simp [Value.oneCell', pcC]) ?_)
    intro wf hwf huf
    go_wp2
    have hld := ldPc21 hwf
    exact bodyPost_ret (v := .tuple #[.int .i64 0, pv0 (Hr.pc0)]) (by simp [results, Tryz.results100, asAddr, hld, pv0]) rfl (by rw [HE.out]; exact np_up21 (n := 0) (up_plain21 HB1.out HRB.out HRL1.out (LF.refl _ _) HR1.out (RW.refl _ _ _) rfl rfl HLT.out huf))
  · have hm0 : ((m : Int) == 0) = false := by rw [beq_eq_false_iff_ne]; omega
    have HC11 : Hid ((rdC (rnx b s.md) lv fv s).setIfInBounds 11 (.int .i64 ((s.left : Int) - (m : Int))) = rdC (rnx b s.md) lv fv { s with left := s.left - m }) := hid' (by
      have e : ((s.left - m : Nat) : Int) = (s.left : Int) - (m : Int) := by omega
      simp only [rdC, e]
      rfl)
    by_cases hz : s.left - m = 0
    · have hz0 : (((s.left : Int) - (m : Int)) == 0) = true := by rw [beq_iff_eq]; omega
      have HE : Hid (Q = (m, Hr.bodyP (d.extract 0 m), { s with left := s.left - m, md := md })) := hid' (by rw [HQ2.out, if_neg h0, if_pos hz])
      have hv : rnx b md = .func (.func kk) #[.pointer (some ⟨b, 0, none⟩)] #[] := by unfold rnx mV; rw [HK.out]
      have H4 : Hid (RN ((w1.setCell ⟨b, 11, none⟩ (.int .i64 ((s.left : Int) - (m : Int)))).setCell ⟨b, 2, none⟩ (rnx b md)) B b (rnx b md) lv fv { s with left := s.left - m, md := md }) := hid' ((HR1.out.set (nv' := rnx b s.md) (s' := { s with left := s.left - m }) 11 _ HC11.out rfl rfl).next _ rfl rfl rfl)
      have HA4 : Hid (Ar ((w1.setCell ⟨b, 11, none⟩ (.int .i64 ((s.left : Int) - (m : Int)))).setCell ⟨b, 2, none⟩ (rnx b md)) rb 49 pcZ) := hid' ((HA1.out.other (Ne.symm HNE.out) 11 _).other (Ne.symm HNE.out) 2 _)
      have HF4 : Hid (LF (RS b lv fv) w1 ((w1.setCell ⟨b, 11, none⟩ (.int .i64 ((s.left : Int) - (m : Int)))).setCell ⟨b, 2, none⟩ (rnx b md))) := hid' ((RN.lf_set 11 _).trans (RN.lf_set 2 _) (fun _ _ => id))
      rw [hv] at H4 HA4 HF4
      have HV := hid' hv
      clear hv hz h0
      go_upto_region 7 with fail
      generalize (w1.setCell ⟨b, 11, none⟩ (.int .i64 ((s.left : Int) - (m : Int)))).setCell ⟨b, 2, none⟩ (.func (.func kk) #[.pointer (some ⟨b, 0, none⟩)] #[]) = w4 at *
      refine wp_region_held_drew (S := fun W => True) (by kernel_rfl) (trivial) (fun hHeld => ?_)
      refine take_d19 (i := 0) (d := some 36) (v := ?_) rfl rfl (by kernel_rfl) (by kernel_rfl) (by kernel_rfl) (fun _ _ _ h => h) (Or.inl ⟨by rfl, ?_⟩) (by assumption) ?_
      rotate_left
      · intro w hSw
        (try dsimp only at hSw)
        go_simp
        try with_reducible rfl
      try simp only [Act.put, List.setIfInBounds_toArray, List.set_cons_zero, List.set_cons_succ]
      refine take_d19 (i := 1) (d := some 37) (v := ?_) rfl rfl (by kernel_rfl) (by kernel_rfl) (by kernel_rfl) (fun _ _ _ h => h) (Or.inl ⟨by rfl, ?_⟩) (by assumption) ?_
      rotate_left
      · intro w hSw
        (try dsimp only at hSw)
        go_simp
        try with_reducible rfl
      try simp only [Act.put, List.setIfInBounds_toArray, List.set_cons_zero, List.set_cons_succ]
      refine take_d19 (i := 2) (d := some 38) (v := ?_) rfl rfl (by kernel_rfl) (by kernel_rfl) (by kernel_rfl) (fun _ _ _ h => h) (Or.inl ⟨by rfl, ?_⟩) (by assumption) ?_
      rotate_left
      · intro w hSw
        (try dsimp only at hSw)
        go_simp
        try with_reducible rfl
      try simp only [Act.put, List.setIfInBounds_toArray, List.set_cons_zero, List.set_cons_succ]
      refine take_d19 (i := 3) (d := some 39) (v := ?_) rfl rfl (by kernel_rfl) (by kernel_rfl) (by kernel_rfl) (fun _ _ _ h => h) (Or.inl ⟨by rfl, ?_⟩) (by assumption) ?_
      rotate_left
      · intro w hSw
        (try dsimp only at hSw)
        go_simp
        try with_reducible rfl
      try simp only [Act.put, List.setIfInBounds_toArray, List.set_cons_zero, List.set_cons_succ]
      refine take_d19 (i := 4) (d := some 40) (v := ?_) rfl rfl (by kernel_rfl) (by kernel_rfl) (by kernel_rfl) (fun _ _ _ h => h) (Or.inl ⟨by rfl, ?_⟩) (by assumption) ?_
      rotate_left
      · intro w hSw
        (try dsimp only at hSw)
        go_simp
        try with_reducible rfl
      try simp only [Act.put, List.setIfInBounds_toArray, List.set_cons_zero, List.set_cons_succ]
      refine take_d19 (i := 5) (d := some 6) (v := ?_) rfl rfl (by kernel_rfl) (by kernel_rfl) (by kernel_rfl) (fun _ _ _ h => h) (Or.inl ⟨by rfl, ?_⟩) (by assumption) ?_
      rotate_left
      · intro w hSw
        (try dsimp only at hSw)
        go_simp
        try with_reducible rfl
      try simp only [Act.put, List.setIfInBounds_toArray, List.set_cons_zero, List.set_cons_succ]
      refine wpAnyH_ready (rs := [6]) (by kernel_rfl) (by simp) ?_
      refine AllReadyH.cons rfl (fun K hK => ?_) AllReadyH.nil
      refine step_store19 rfl 49 _ _ rfl rb #[.int .u8 2, .string ⟨#[]⟩, .string ⟨#[]⟩, .string ⟨#[]⟩, .string ⟨#[]⟩, .slice none 0 0, .string ⟨#[]⟩, .slice none 0 0, .bool false, .bool false, .bool false, .bool false, .string (d.extract 0 m), .slice none 0 0, .int .i64 0] rfl rfl 49 _ (HA4.out.drew) sizePc21 rfl (by simp [Value.oneCell']) ?_
      intro wf hawf huwf
      refine hK.out _ _ (trivial) (fun _ => ?_)
      clear hK K
      try simp only [Act.put]
      refine wpAnyH_done (by kernel_rfl) ?_ _
      go_wp2
      have hld := ldPc21 (p := Hr.bodyP (d.extract 0 m)) hawf
      exact bodyPost_ret (v := .tuple #[.int .i64 (m : Int), pv0 (Hr.bodyP (d.extract 0 m))]) (by simp [results, Tryz.results100, asAddr, hld, pv0]) rfl (by rw [HE.out]; exact np_up21 (up_plain21 HB1.out HRB.out HRL1.out (HF4.out.trans (LF.of_below (Below.refl _ _).drew) (fun _ _ => id)) (by rw [HV.out]; exact H4.out.keep (Below.refl _ _).drew) (RW.refl _ _ _) rfl rfl HLT.out huwf))
    · have hz0 : (((s.left : Int) - (m : Int)) == 0) = false := by rw [beq_eq_false_iff_ne]; omega
      have HE : Hid (Q = (m, Hr.bodyP (d.extract 0 m), { s with left := s.left - m })) := hid' (by rw [HQ2.out, if_neg h0, if_neg hz])
      have H4 : Hid (RN (w1.setCell ⟨b, 11, none⟩ (.int .i64 ((s.left : Int) - (m : Int)))) B b (rnx b s.md) lv fv { s with left := s.left - m }) := hid' (HR1.out.set (nv' := rnx b s.md) (s' := { s with left := s.left - m }) 11 _ HC11.out rfl rfl)
      have HA4 : Hid (Ar (w1.setCell ⟨b, 11, none⟩ (.int .i64 ((s.left : Int) - (m : Int)))) rb 49 pcZ) := hid' (HA1.out.other (Ne.symm HNE.out) 11 _)
      have HF4 : Hid (LF (RS b lv fv) w1 (w1.setCell ⟨b, 11, none⟩ (.int .i64 ((s.left : Int) - (m : Int))))) := hid' (RN.lf_set 11 _)
      clear hz h0
      go_upto_region 7 with fail
      generalize w1.setCell ⟨b, 11, none⟩ (.int .i64 ((s.left : Int) - (m : Int))) = w4 at *
      refine wp_region_held_drew (S := fun W => True) (by kernel_rfl) (trivial) (fun hHeld => ?_)
      refine take_d19 (i := 0) (d := some 36) (v := ?_) rfl rfl (by kernel_rfl) (by kernel_rfl) (by kernel_rfl) (fun _ _ _ h => h) (Or.inl ⟨by rfl, ?_⟩) (by assumption) ?_
      rotate_left
      · intro w hSw
        (try dsimp only at hSw)
        go_simp
        try with_reducible rfl
      try simp only [Act.put, List.setIfInBounds_toArray, List.set_cons_zero, List.set_cons_succ]
      refine take_d19 (i := 1) (d := some 37) (v := ?_) rfl rfl (by kernel_rfl) (by kernel_rfl) (by kernel_rfl) (fun _ _ _ h => h) (Or.inl ⟨by rfl, ?_⟩) (by assumption) ?_
      rotate_left
      · intro w hSw
        (try dsimp only at hSw)
        go_simp
        try with_reducible rfl
      try simp only [Act.put, List.setIfInBounds_toArray, List.set_cons_zero, List.set_cons_succ]
      refine take_d19 (i := 2) (d := some 38) (v := ?_) rfl rfl (by kernel_rfl) (by kernel_rfl) (by kernel_rfl) (fun _ _ _ h => h) (Or.inl ⟨by rfl, ?_⟩) (by assumption) ?_
      rotate_left
      · intro w hSw
        (try dsimp only at hSw)
        go_simp
        try with_reducible rfl
      try simp only [Act.put, List.setIfInBounds_toArray, List.set_cons_zero, List.set_cons_succ]
      refine take_d19 (i := 3) (d := some 39) (v := ?_) rfl rfl (by kernel_rfl) (by kernel_rfl) (by kernel_rfl) (fun _ _ _ h => h) (Or.inl ⟨by rfl, ?_⟩) (by assumption) ?_
      rotate_left
      · intro w hSw
        (try dsimp only at hSw)
        go_simp
        try with_reducible rfl
      try simp only [Act.put, List.setIfInBounds_toArray, List.set_cons_zero, List.set_cons_succ]
      refine take_d19 (i := 4) (d := some 40) (v := ?_) rfl rfl (by kernel_rfl) (by kernel_rfl) (by kernel_rfl) (fun _ _ _ h => h) (Or.inl ⟨by rfl, ?_⟩) (by assumption) ?_
      rotate_left
      · intro w hSw
        (try dsimp only at hSw)
        go_simp
        try with_reducible rfl
      try simp only [Act.put, List.setIfInBounds_toArray, List.set_cons_zero, List.set_cons_succ]
      refine take_d19 (i := 5) (d := some 6) (v := ?_) rfl rfl (by kernel_rfl) (by kernel_rfl) (by kernel_rfl) (fun _ _ _ h => h) (Or.inl ⟨by rfl, ?_⟩) (by assumption) ?_
      rotate_left
      · intro w hSw
        (try dsimp only at hSw)
        go_simp
        try with_reducible rfl
      try simp only [Act.put, List.setIfInBounds_toArray, List.set_cons_zero, List.set_cons_succ]
      refine wpAnyH_ready (rs := [6]) (by kernel_rfl) (by simp) ?_
      refine AllReadyH.cons rfl (fun K hK => ?_) AllReadyH.nil
      refine step_store19 rfl 49 _ _ rfl rb #[.int .u8 2, .string ⟨#[]⟩, .string ⟨#[]⟩, .string ⟨#[]⟩, .string ⟨#[]⟩, .slice none 0 0, .string ⟨#[]⟩, .slice none 0 0, .bool false, .bool false, .bool false, .bool false, .string (d.extract 0 m), .slice none 0 0, .int .i64 0] rfl rfl 49 _ (HA4.out.drew) sizePc21 rfl (by simp [Value.oneCell']) ?_
      intro wf hawf huwf
      refine hK.out _ _ (trivial) (fun _ => ?_)
      clear hK K
      try simp only [Act.put]
      refine wpAnyH_done (by kernel_rfl) ?_ _
      go_wp2
      have hld := ldPc21 (p := Hr.bodyP (d.extract 0 m)) hawf
      exact bodyPost_ret (v := .tuple #[.int .i64 (m : Int), pv0 (Hr.bodyP (d.extract 0 m))]) (by simp [results, Tryz.results100, asAddr, hld, pv0]) rfl (by rw [HE.out]; exact np_up21 (up_plain21 HB1.out HRB.out HRL1.out (HF4.out.trans (LF.of_below (Below.refl _ _).drew) (fun _ _ => id)) (H4.out.keep (Below.refl _ _).drew) (RW.refl _ _ _) rfl rfl HLT.out huwf))

set_option maxHeartbeats 4000000 in
set_option maxRecDepth 20000 in
theorem coneR21 (B b k : Nat) (md : Hr.Md) (hk : rnum md = k) (lv fv : Value) (s : Hr.St) (c : UInt8) (d : ByteArray) (w : World) (h : RN w B b (rnx b s.md) lv fv s) :
    Calls Tryz.prog 129 #[.pointer (some ⟨b, 0, none⟩), .string d, .int .u8 (c.toNat : Int), mV b k] w (NP w B b lv fv (Hr.oneB s c md d.data.toList)) := by
  obtain ⟨Q, hQ⟩ : ∃ Q, Hr.oneB s c md d.data.toList = Q := ⟨_, rfl⟩
  rw [hQ]
  have HQ := hid' hQ
  have HK := hid' hk
  unfold mV
  clear hQ hk
  have H := hid' h
  have HLT : Hid (∀ k, RS b lv fv k → k < w.heap.size) := hid' (fun k hk => (h.rs k hk).2)
  have HB0 := hid' h.lb
  clear h
  go_enter Tryz.func129, Tryz.ntmps129
  go_wp2_with (refine wpl_alloc 49 rfl rfl _ zeroPc21 ?_)
  intro rb w1 hrb ha1 hl1
  have HB1 := hid' hl1
  have HA1 := hid' ha1
  have HRB : Hid (w.heap.size ≤ rb) := hid' (by omega)
  have HR1 := hid' (H.out.keep hl1)
  have HRL1 : Hid (rb < w1.heap.size) := hid' ha1.lt
  have HN0 : Hid (¬ RS b lv fv rb) := hid' (fun hk => by have := HLT.out rb hk; omega)
  clear ha1 hl1 hrb
  by_cases h0 : d.size = 0
  · have hd : d.data.toList = [] := List.eq_nil_of_length_eq_zero (by rw [← Lib.size_eq]; exact h0)
    have HE : Hid (Q = (0, Hr.pc0, s)) := hid' (by rw [← HQ.out, hd]; rfl)
    have c0 : (d.toList == []) = true := by rw [Lib.toList_data, hd]; rfl
    clear hd
    go_wp2_with (refine wpl_store 49 _ _ rfl rfl rb (pcC (Hr.pc0) (.slice none 0 0) (.slice none 0 0)) (by kernel_rfl) (by kernel_rfl) _ _ HA1.out sizePc21 rfl (by simp [Value.oneCell', pcC]) ?_)
    intro wf hwf huf
    go_wp2
    have hld := ldPc21 hwf
    exact bodyPost_ret (v := .tuple #[.int .i64 0, pv0 (Hr.pc0)]) (by simp [results, Tryz.results129, asAddr, hld, pv0]) rfl (by rw [HE.out]; exact np_up21 (n := 0) (up_plain21 HB1.out HRB.out HRL1.out (LF.refl _ _) HR1.out (RW.refl _ _ _) rfl rfl HLT.out huf))
  · have hz : 0 < d.size := by omega
    have hg : d.data.toList[0]? = some (d[0]'hz) := Lib.data_getElem? d 0 hz
    obtain ⟨r, hr⟩ : ∃ r, d.data.toList = (d[0]'hz) :: r := by
      cases hl : d.data.toList with
      | nil => rw [hl] at hg; simp at hg
      | cons a r => rw [hl] at hg; simp at hg; exact ⟨r, by rw [hg]⟩
    have c0 : (d.toList == []) = false := by rw [Lib.toList_data, hr]; rfl
    have HO : Hid (Q = if ((d[0]'hz).toNat : Int) == (c.toNat : Int) then (1, Hr.pc0, { s with md := md }) else (1, Hr.broke s 400)) := hid' (by
      rw [← HQ.out, hr]
      have e : ((d[0]'hz) == c) = (((d[0]'hz).toNat : Int) == (c.toNat : Int)) := by
        rw [Bool.eq_iff_iff, beq_iff_eq, beq_iff_eq]
        exact ⟨fun e => by rw [e], fun e => UInt8.toNat_inj.1 (by omega)⟩
      rw [show Hr.oneB s c md ((d[0]'hz) :: r) = if (d[0]'hz) == c then (1, Hr.pc0, { s with md := md }) else (1, Hr.broke s 400) from rfl, e])
    clear hg hr h0
    cases c1 : (((d[0]'hz).toNat : Int) == (c.toNat : Int))
    · have HE : Hid (Q = (1, Hr.broke s 400)) := hid' (by rw [HO.out, c1]; rfl)
      have c2 : (((d[0]'hz).toNat : Int) != (c.toNat : Int)) = true := by unfold bne; rw [c1]; rfl
      go_wp2_with (go_at_call 33; refine (cbreaks21 B b _ _ _ _ 400 _ HR1.out).mono ?_; rintro e w9 ⟨rfl, h9, hf9⟩; refine Hid.out ?_)
      refine hid' ?_
      have H9 := hid' h9
      have HF9 := hid' hf9
      have HA9 := hid' (hf9.ar HA1.out HN0.out)
      clear h9 hf9
      go_wp2_with (refine wpl_store 49 _ _ rfl rfl rb (pcC (Hr.brk 400) (.slice none 0 0) (.slice none 0 0)) (by kernel_rfl) (by kernel_rfl) _ _ HA9.out sizePc21 rfl (by simp [Value.oneCell', pcC]) ?_)
      intro wf hwf huf
      go_wp2
      have hld := ldPc21 hwf
      exact bodyPost_ret (v := .tuple #[.int .i64 1, pv0 (Hr.brk 400)]) (by simp [results, Tryz.results129, asAddr, hld, pv0]) rfl (by rw [HE.out]; exact np_up21 (n := 1) (up_plain21 HB1.out HRB.out HRL1.out HF9.out H9.out (RW.none _ _ _) rfl rfl HLT.out huf))
    · have HE : Hid (Q = (1, Hr.pc0, { s with md := md })) := hid' (by rw [HO.out, c1]; rfl)
      have c2 : (((d[0]'hz).toNat : Int) != (c.toNat : Int)) = false := by unfold bne; rw [c1]; rfl
      have HNE : Hid (rb ≠ b) := hid' (fun e => HN0.out (.inl e))
      have k2 : w1.cell? ⟨b, 2, none⟩ = some (rnx b s.md) := HR1.out.obj.cell 2 _ rfl
      have f2 := HR1.out.obj.free 2
      unfold rnx mV at k2
      have H4 : Hid (RN (w1.setCell ⟨b, 2, none⟩ (rnx b md)) B b (rnx b md) lv fv { s with md := md }) := hid' (HR1.out.next _ rfl rfl rfl)
      have HA4 : Hid (Ar (w1.setCell ⟨b, 2, none⟩ (rnx b md)) rb 49 pcZ) := hid' (HA1.out.other (Ne.symm HNE.out) 2 _)
      have HF4 : Hid (LF (RS b lv fv) w1 (w1.setCell ⟨b, 2, none⟩ (rnx b md))) := hid' (RN.lf_set 2 _)
      have hv : rnx b md = .func (.func k) #[.pointer (some ⟨b, 0, none⟩)] #[] := by unfold rnx mV; rw [HK.out]
      rw [hv] at H4 HA4 HF4
      have HV := hid' hv
      clear hv
      go_upto_region 6 with fail
      generalize w1.setCell ⟨b, 2, none⟩ (.func (.func k) #[.pointer (some ⟨b, 0, none⟩)] #[]) = w4 at *
      go_wp2_with (refine wpl_store 49 _ _ rfl rfl rb (pcC (Hr.pc0) (.slice none 0 0) (.slice none 0 0)) (by kernel_rfl) (by kernel_rfl) _ _ HA4.out sizePc21 rfl (by simp [Value.oneCell', pcC]) ?_)
      intro wf hwf huf
      go_wp2
      have hld := ldPc21 hwf
      exact bodyPost_ret (v := .tuple #[.int .i64 1, pv0 (Hr.pc0)]) (by simp [results, Tryz.results129, asAddr, hld, pv0]) rfl (by rw [HE.out]; exact np_up21 (n := 1) (up_plain21 HB1.out HRB.out HRL1.out HF4.out (by rw [HV.out]; exact H4.out) (RW.refl _ _ _) rfl rfl HLT.out huf))

set_option maxHeartbeats 4000000 in
set_option maxRecDepth 20000 in
theorem cbodyR21 (B b : Nat) (lv fv : Value) (s : Hr.St) (d : ByteArray) (w : World) (h : RN w B b (rnx b s.md) lv fv s) (hm : s.md = (.inr .i32)) (hl63 : s.left ≤ 9223372036854775807) :
    Calls Tryz.prog 75 #[.pointer (some ⟨b, 0, none⟩), .string d] w (NP w B b lv fv (Hr.nx s d.data.toList)) := by
  have HRD : Hid (∀ W, RN W B b (rnx b s.md) lv fv s → Calls Tryz.prog 100 #[.pointer (some ⟨b, 0, none⟩), .string d, .func (.func 101) #[.pointer (some ⟨b, 0, none⟩)] #[]] W (NP W B b lv fv (Hr.part s (.inr .u32) d.data.toList))) := hid' (fun W h1 => cpartR21 B b 101 (.inr .u32) rfl lv fv s d W h1 hl63)
  have HNX : Hid (Hr.nx s d.data.toList = Hr.part s (.inr .u32) d.data.toList) := hid' (by unfold Hr.nx; rw [hm])
  obtain ⟨qn, p, s', hq⟩ : ∃ qn p s', Hr.part s (.inr .u32) d.data.toList = (qn, p, s') := ⟨_, _, _, rfl⟩
  have HE : Hid (Hr.nx s d.data.toList = (qn, p, s')) := hid' (HNX.out.trans hq)
  rw [hq] at HRD
  have hmf := hmf21
  clear hm hq HNX hl63
  have H := hid' h
  have HLT : Hid (∀ k, RS b lv fv k → k < w.heap.size) := hid' (fun k hk => (h.rs k hk).2)
  have HB0 := hid' h.lb
  clear h
  go_enter Tryz.func75, Tryz.ntmps75
  go_wp2_with (refine wpl_alloc 49 rfl rfl _ zeroPc21 ?_)
  intro rb w1 hrb ha1 hl1
  have HB1 := hid' hl1
  have HA1 := hid' ha1
  have HRB : Hid (w.heap.size ≤ rb) := hid' (by omega)
  have HR1 := hid' (H.out.keep hl1)
  have HRL1 : Hid (rb < w1.heap.size) := hid' ha1.lt
  have HN0 : Hid (¬ RS b lv fv rb) := hid' (fun hk => by have := HLT.out rb hk; omega)
  clear ha1 hl1 hrb
  go_wp2_with (go_at_call 100; refine (HRD.out _ HR1.out).mono ?_; rintro e w2 ⟨v, lv2, fv2, rfl, ⟨rv, tv, rfl, k1, k2, k3, k4⟩, hn2, hf2, hr2⟩; refine Hid.out ?_)
  refine hid' ?_
  obtain ⟨ro, rc, hrv⟩ := own_shape k1
  obtain ⟨tq, tc, htv⟩ := own_shape k2
  have HP4 : Hid (PcW w2 B (RS b lv2 fv2) (.agg (pcC p rv tv)) p) := hid' ⟨rv, tv, rfl, k1, k2, k3, k4⟩
  have HN2 := hid' hn2
  have HF2 := hid' hf2
  have HR2 := hid' hr2
  have HA2 := hid' (hf2.ar HA1.out HN0.out)
  subst hrv htv
  clear k1 k2 k3 k4 hn2 hf2 hr2
  go_wp2_with (refine wpl_store 49 _ _ rfl rfl rb (pcC p (.slice ro p.rq.fs.length rc) (.slice tq p.fs.length tc)) (by kernel_rfl) (by kernel_rfl) _ _ HA2.out sizePc21 rfl (by simp [Value.oneCell', pcC]) ?_)
  intro wf hwf huf
  go_wp2
  have hld := ldPc21 hwf
  exact bodyPost_ret (v := .tuple #[.int .i64 (qn : Int), .agg (pcC p (.slice ro p.rq.fs.length rc) (.slice tq p.fs.length tc))]) (by simp [results, Tryz.results75, asAddr, hld]) rfl (by rw [HE.out]; exact np_up21 (up_on21 HA2.out HB1.out HRB.out HRL1.out HF2.out HN2.out HR2.out HP4.out HLT.out huf))

set_option maxHeartbeats 4000000 in
set_option maxRecDepth 20000 in
theorem cchunkR21 (B b : Nat) (lv fv : Value) (s : Hr.St) (d : ByteArray) (w : World) (h : RN w B b (rnx b s.md) lv fv s) (hm : s.md = (.inr .i64)) (hl63 : s.left ≤ 9223372036854775807) :
    Calls Tryz.prog 119 #[.pointer (some ⟨b, 0, none⟩), .string d] w (NP w B b lv fv (Hr.nx s d.data.toList)) := by
  have HRD : Hid (∀ W, RN W B b (rnx b s.md) lv fv s → Calls Tryz.prog 100 #[.pointer (some ⟨b, 0, none⟩), .string d, .func (.func 125) #[.pointer (some ⟨b, 0, none⟩)] #[]] W (NP W B b lv fv (Hr.part s (.inr .u8) d.data.toList))) := hid' (fun W h1 => cpartR21 B b 125 (.inr .u8) rfl lv fv s d W h1 hl63)
  have HNX : Hid (Hr.nx s d.data.toList = Hr.part s (.inr .u8) d.data.toList) := hid' (by unfold Hr.nx; rw [hm])
  obtain ⟨qn, p, s', hq⟩ : ∃ qn p s', Hr.part s (.inr .u8) d.data.toList = (qn, p, s') := ⟨_, _, _, rfl⟩
  have HE : Hid (Hr.nx s d.data.toList = (qn, p, s')) := hid' (HNX.out.trans hq)
  rw [hq] at HRD
  have hmf := hmf21
  clear hm hq HNX hl63
  have H := hid' h
  have HLT : Hid (∀ k, RS b lv fv k → k < w.heap.size) := hid' (fun k hk => (h.rs k hk).2)
  have HB0 := hid' h.lb
  clear h
  go_enter Tryz.func119, Tryz.ntmps119
  go_wp2_with (refine wpl_alloc 49 rfl rfl _ zeroPc21 ?_)
  intro rb w1 hrb ha1 hl1
  have HB1 := hid' hl1
  have HA1 := hid' ha1
  have HRB : Hid (w.heap.size ≤ rb) := hid' (by omega)
  have HR1 := hid' (H.out.keep hl1)
  have HRL1 : Hid (rb < w1.heap.size) := hid' ha1.lt
  have HN0 : Hid (¬ RS b lv fv rb) := hid' (fun hk => by have := HLT.out rb hk; omega)
  clear ha1 hl1 hrb
  go_wp2_with (go_at_call 100; refine (HRD.out _ HR1.out).mono ?_; rintro e w2 ⟨v, lv2, fv2, rfl, ⟨rv, tv, rfl, k1, k2, k3, k4⟩, hn2, hf2, hr2⟩; refine Hid.out ?_)
  refine hid' ?_
  obtain ⟨ro, rc, hrv⟩ := own_shape k1
  obtain ⟨tq, tc, htv⟩ := own_shape k2
  have HP4 : Hid (PcW w2 B (RS b lv2 fv2) (.agg (pcC p rv tv)) p) := hid' ⟨rv, tv, rfl, k1, k2, k3, k4⟩
  have HN2 := hid' hn2
  have HF2 := hid' hf2
  have HR2 := hid' hr2
  have HA2 := hid' (hf2.ar HA1.out HN0.out)
  subst hrv htv
  clear k1 k2 k3 k4 hn2 hf2 hr2
  go_wp2_with (refine wpl_store 49 _ _ rfl rfl rb (pcC p (.slice ro p.rq.fs.length rc) (.slice tq p.fs.length tc)) (by kernel_rfl) (by kernel_rfl) _ _ HA2.out sizePc21 rfl (by simp [Value.oneCell', pcC]) ?_)
  intro wf hwf huf
  go_wp2
  have hld := ldPc21 hwf
  exact bodyPost_ret (v := .tuple #[.int .i64 (qn : Int), .agg (pcC p (.slice ro p.rq.fs.length rc) (.slice tq p.fs.length tc))]) (by simp [results, Tryz.results119, asAddr, hld]) rfl (by rw [HE.out]; exact np_up21 (up_on21 HA2.out HB1.out HRB.out HRL1.out HF2.out HN2.out HR2.out HP4.out HLT.out huf))

set_option maxHeartbeats 4000000 in
set_option maxRecDepth 20000 in
theorem ccrR21 (B b : Nat) (lv fv : Value) (s : Hr.St) (d : ByteArray) (w : World) (h : RN w B b (rnx b s.md) lv fv s) (hm : s.md = (.inr .u8)) :
    Calls Tryz.prog 125 #[.pointer (some ⟨b, 0, none⟩), .string d] w (NP w B b lv fv (Hr.nx s d.data.toList)) := by
  have HRD : Hid (∀ W, RN W B b (rnx b s.md) lv fv s → Calls Tryz.prog 129 #[.pointer (some ⟨b, 0, none⟩), .string d, .int .u8 13, .func (.func 130) #[.pointer (some ⟨b, 0, none⟩)] #[]] W (NP W B b lv fv (Hr.oneB s 13 (.inr .u16) d.data.toList))) := hid' (fun W h1 => coneR21 B b 130 (.inr .u16) rfl lv fv s 13 d W h1)
  have HNX : Hid (Hr.nx s d.data.toList = Hr.oneB s 13 (.inr .u16) d.data.toList) := hid' (by unfold Hr.nx; rw [hm])
  obtain ⟨qn, p, s', hq⟩ : ∃ qn p s', Hr.oneB s 13 (.inr .u16) d.data.toList = (qn, p, s') := ⟨_, _, _, rfl⟩
  have HE : Hid (Hr.nx s d.data.toList = (qn, p, s')) := hid' (HNX.out.trans hq)
  rw [hq] at HRD
  have hmf := hmf21
  clear hm hq HNX
  have H := hid' h
  have HLT : Hid (∀ k, RS b lv fv k → k < w.heap.size) := hid' (fun k hk => (h.rs k hk).2)
  have HB0 := hid' h.lb
  clear h
  go_enter Tryz.func125, Tryz.ntmps125
  go_wp2_with (refine wpl_alloc 49 rfl rfl _ zeroPc21 ?_)
  intro rb w1 hrb ha1 hl1
  have HB1 := hid' hl1
  have HA1 := hid' ha1
  have HRB : Hid (w.heap.size ≤ rb) := hid' (by omega)
  have HR1 := hid' (H.out.keep hl1)
  have HRL1 : Hid (rb < w1.heap.size) := hid' ha1.lt
  have HN0 : Hid (¬ RS b lv fv rb) := hid' (fun hk => by have := HLT.out rb hk; omega)
  clear ha1 hl1 hrb
  go_wp2_with (go_at_call 129; refine (HRD.out _ HR1.out).mono ?_; rintro e w2 ⟨v, lv2, fv2, rfl, ⟨rv, tv, rfl, k1, k2, k3, k4⟩, hn2, hf2, hr2⟩; refine Hid.out ?_)
  refine hid' ?_
  obtain ⟨ro, rc, hrv⟩ := own_shape k1
  obtain ⟨tq, tc, htv⟩ := own_shape k2
  have HP4 : Hid (PcW w2 B (RS b lv2 fv2) (.agg (pcC p rv tv)) p) := hid' ⟨rv, tv, rfl, k1, k2, k3, k4⟩
  have HN2 := hid' hn2
  have HF2 := hid' hf2
  have HR2 := hid' hr2
  have HA2 := hid' (hf2.ar HA1.out HN0.out)
  subst hrv htv
  clear k1 k2 k3 k4 hn2 hf2 hr2
  go_wp2_with (refine wpl_store 49 _ _ rfl rfl rb (pcC p (.slice ro p.rq.fs.length rc) (.slice tq p.fs.length tc)) (by kernel_rfl) (by kernel_rfl) _ _ HA2.out sizePc21 rfl (by simp [Value.oneCell', pcC]) ?_)
  intro wf hwf huf
  go_wp2
  have hld := ldPc21 hwf
  exact bodyPost_ret (v := .tuple #[.int .i64 (qn : Int), .agg (pcC p (.slice ro p.rq.fs.length rc) (.slice tq p.fs.length tc))]) (by simp [results, Tryz.results125, asAddr, hld]) rfl (by rw [HE.out]; exact np_up21 (up_on21 HA2.out HB1.out HRB.out HRL1.out HF2.out HN2.out HR2.out HP4.out HLT.out huf))

set_option maxHeartbeats 4000000 in
set_option maxRecDepth 20000 in
theorem clfR21 (B b : Nat) (lv fv : Value) (s : Hr.St) (d : ByteArray) (w : World) (h : RN w B b (rnx b s.md) lv fv s) (hm : s.md = (.inr .u16)) :
    Calls Tryz.prog 130 #[.pointer (some ⟨b, 0, none⟩), .string d] w (NP w B b lv fv (Hr.nx s d.data.toList)) := by
  have HRD : Hid (∀ W, RN W B b (rnx b s.md) lv fv s → Calls Tryz.prog 129 #[.pointer (some ⟨b, 0, none⟩), .string d, .int .u8 10, .func (.func 74) #[.pointer (some ⟨b, 0, none⟩)] #[]] W (NP W B b lv fv (Hr.oneB s 10 (.inr .i8) d.data.toList))) := hid' (fun W h1 => coneR21 B b 74 (.inr .i8) rfl lv fv s 10 d W h1)
  have HNX : Hid (Hr.nx s d.data.toList = Hr.oneB s 10 (.inr .i8) d.data.toList) := hid' (by unfold Hr.nx; rw [hm])
  obtain ⟨qn, p, s', hq⟩ : ∃ qn p s', Hr.oneB s 10 (.inr .i8) d.data.toList = (qn, p, s') := ⟨_, _, _, rfl⟩
  have HE : Hid (Hr.nx s d.data.toList = (qn, p, s')) := hid' (HNX.out.trans hq)
  rw [hq] at HRD
  have hmf := hmf21
  clear hm hq HNX
  have H := hid' h
  have HLT : Hid (∀ k, RS b lv fv k → k < w.heap.size) := hid' (fun k hk => (h.rs k hk).2)
  have HB0 := hid' h.lb
  clear h
  go_enter Tryz.func130, Tryz.ntmps130
  go_wp2_with (refine wpl_alloc 49 rfl rfl _ zeroPc21 ?_)
  intro rb w1 hrb ha1 hl1
  have HB1 := hid' hl1
  have HA1 := hid' ha1
  have HRB : Hid (w.heap.size ≤ rb) := hid' (by omega)
  have HR1 := hid' (H.out.keep hl1)
  have HRL1 : Hid (rb < w1.heap.size) := hid' ha1.lt
  have HN0 : Hid (¬ RS b lv fv rb) := hid' (fun hk => by have := HLT.out rb hk; omega)
  clear ha1 hl1 hrb
  go_wp2_with (go_at_call 129; refine (HRD.out _ HR1.out).mono ?_; rintro e w2 ⟨v, lv2, fv2, rfl, ⟨rv, tv, rfl, k1, k2, k3, k4⟩, hn2, hf2, hr2⟩; refine Hid.out ?_)
  refine hid' ?_
  obtain ⟨ro, rc, hrv⟩ := own_shape k1
  obtain ⟨tq, tc, htv⟩ := own_shape k2
  have HP4 : Hid (PcW w2 B (RS b lv2 fv2) (.agg (pcC p rv tv)) p) := hid' ⟨rv, tv, rfl, k1, k2, k3, k4⟩
  have HN2 := hid' hn2
  have HF2 := hid' hf2
  have HR2 := hid' hr2
  have HA2 := hid' (hf2.ar HA1.out HN0.out)
  subst hrv htv
  clear k1 k2 k3 k4 hn2 hf2 hr2
  go_wp2_with (refine wpl_store 49 _ _ rfl rfl rb (pcC p (.slice ro p.rq.fs.length rc) (.slice tq p.fs.length tc)) (by kernel_rfl) (by kernel_rfl) _ _ HA2.out sizePc21 rfl (by simp [Value.oneCell', pcC]) ?_)
  intro wf hwf huf
  go_wp2
  have hld := ldPc21 hwf
  exact bodyPost_ret (v := .tuple #[.int .i64 (qn : Int), .agg (pcC p (.slice ro p.rq.fs.length rc) (.slice tq p.fs.length tc))]) (by simp [results, Tryz.results130, asAddr, hld]) rfl (by rw [HE.out]; exact np_up21 (up_on21 HA2.out HB1.out HRB.out HRL1.out HF2.out HN2.out HR2.out HP4.out HLT.out huf))

/-- What is next, whatever it is. -/
theorem cnext21 (B b : Nat) (lv fv : Value) (s : Hr.St) (d : ByteArray) (w : World) (h : RN w B b (rnx b s.md) lv fv s) (hT : TBr B w) (hc : Hr.cost s + d.size ≤ 1048576) (hr : s.room ≤ 9223372036854775807) (hl63 : s.L ≤ 9223372036854775807) (hle : s.left ≤ 9223372036854775807) :
    Calls Tryz.prog (rnum s.md) #[.pointer (some ⟨b, 0, none⟩), .string d] w (NP w B b lv fv (Hr.nx s d.data.toList)) := by
  rcases hm : s.md with ((_ | _) | (_ | _ | _ | _ | _ | _ | _ | _))
  · exact cstartR21 B b lv fv s d w h hm hT hc hr hl63
  · exact cfieldR21 B b lv fv s d w h hm hT hc hr hl63
  · exact csizeR21 B b lv fv s d w h hm hT hc hr hl63
  · exact ctrailR21 B b lv fv s d w h hm hT hc hr hl63
  · exact cbodyR21 B b lv fv s d w h hm hle
  · exact cchunkR21 B b lv fv s d w h hm hle
  · exact ccrR21 B b lv fv s d w h hm
  · exact clfR21 B b lv fv s d w h hm
  · exact cendR21 B b lv fv s d w h hm
  · exact cdeadR21 B b lv fv s d w h hm

end Go.Proofs.YtbpdhcfmdkmoiaaGreatDoor
