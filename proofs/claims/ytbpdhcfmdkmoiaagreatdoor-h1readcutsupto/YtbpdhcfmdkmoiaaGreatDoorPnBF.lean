/-
  The reader's lines, byte by byte: readLine by its contract, over what is done with a line.
-/
import Derived.Laws.IdiomStrings
import Derived.Test.YtbpdhcfmdkmoiaaGreatDoorPnBE
namespace Go.Proofs.YtbpdhcfmdkmoiaaGreatDoor
open Go.RowKit

theorem cv21 {w : World} {B : Nat} {v : Value} {l : List UInt8} (h : w.ownsRow B 5 1 v l.length (u8s l)) : (convert 58 9 v).run Tryz.prog w = .ok (.string ⟨l.toArray⟩) w := by
  rcases h.2 with ⟨rfl, h0⟩ | ⟨g, cap, cur, rfl, h4⟩
  · have hl : l = [] := List.eq_nil_of_length_eq_zero h0
    subst hl
    rw [run_convert_bytes_string w 58 9 5 none 0 0 Tryz.underlying58 Tryz.underlying5 Tryz.underlying9]
    rfl
  · refine run_convert_bytes_back w 58 9 5 ⟨g, 0, none⟩ cap l Tryz.underlying58 Tryz.underlying5 Tryz.underlying9 (fun j hj => ?_)
    exact h.cells (g := g) rfl j _ (by unfold u8s; rw [List.getElem?_map, List.getElem?_eq_getElem hj]; rfl)
theorem infoB21 : (Tryz.prog.info? 5).map (fun i => (i.zero, i.size, i.bytes)) = some (some (.int .u8 0), 1, 1) := by kernel_rfl
theorem u8s_app (l : List UInt8) (c : UInt8) : u8s (l ++ [c]) = u8s l ++ [.int .u8 (c.toNat : Int)] := by unfold u8s; rw [List.map_append]; rfl
theorem new_b21 (w : World) (x : Value) : ∀ j u, [x][j]? = some u → (w.alloc (.cells #[x] 5)).cell? ((⟨w.heap.size, 0, none⟩ : Addr).add j) = some u := cell_one_new w x _
/-- A line that grew by a byte. -/
theorem RN.grow21 {w w2 : World} {B b : Nat} {nv lv fv lv' : Value} {s : Hr.St} (h : RN w B b nv lv fv s) (c : UInt8) (hrow : w2.ownsRow B 5 1 lv' (s.ln.length + 1) (u8s s.ln ++ [.int .u8 (c.toNat : Int)])) (hg : w.grownBy w2 lv.ownBlock) :
    RN (w2.setCell ⟨b, 4, none⟩ lv') B b nv lv' fv { s with ln := s.ln ++ [c] } := by
  have hO := ar_grown h.obj hg h.lnb
  have hr : w2.ownsRow B 5 1 lv' (s.ln ++ [c]).length (u8s (s.ln ++ [c])) := by rw [u8s_app, List.length_append]; exact hrow
  refine ⟨h.lo, hO.set 4 lv', own_same hr (fun k hk => (upd_setCell w2 b 4 _).block k (own_apart hr hO (by decide) k hk)), ?_⟩
  exact own_same h.fl (fun k hk => ((upd_setCell w2 b 4 _).block k (h.flb k hk)).trans (hg.block k (own_lt h.fl k hk) (fun e => h.rows k e.symm hk.symm)))
/-- A line that is begun anew. -/
theorem RN.clear21 {w : World} {B b : Nat} {nv lv fv : Value} {s : Hr.St} (h : RN w B b nv lv fv s) :
    RN ((w.setCell ⟨b, 4, none⟩ (.slice none 0 0)).setCell ⟨b, 5, none⟩ (.bool false)) B b nv (.slice none 0 0) fv { s with ln := [], cr := false } :=
  ⟨h.lo, (h.obj.set 4 (.slice none 0 0)).set 5 (.bool false), World.ownsRow_nil _ _ _ _, own_same h.fl (fun k hk => ((upd_setCell _ b 5 _).block k (h.flb k hk)).trans ((upd_setCell w b 4 _).block k (h.flb k hk)))⟩
/-- How many bytes were taken, and a piece. -/
def NP (w : World) (B b : Nat) (lv fv : Value) (q : Nat × Hr.Pc × Hr.St) (e : Ending) (w' : World) : Prop :=
  ∃ v lv' fv', e = .returned (.tuple #[.int .i64 (q.1 : Int), v]) ∧ PcW w' B (RS b lv' fv') v q.2.1 ∧ RN w' B b (rnx b q.2.2.md) lv' fv' q.2.2 ∧ LF (RS b lv fv) w w' ∧ RW w.heap.size lv fv lv' fv'
theorem np_up21 {w w' : World} {B b n : Nat} {lv fv v : Value} {p : Hr.Pc} {s' : Hr.St} (h : UP w B b lv fv p s' (.returned v) w') : NP w B b lv fv (n, p, s') (.returned (.tuple #[.int .i64 (n : Int), v])) w' := by
  obtain ⟨v2, lv', fv', he, h1, h2, h3, h4⟩ := h
  injection he with he
  subst he
  exact ⟨_, lv', fv', rfl, h1, h2, h3, h4⟩
/-- What is done with a line. -/
def unum : Hr.Md → Nat
  | (.inl false) => 28
  | (.inl true) => 45
  | (.inr .i8) => 99
  | _ => 124
theorem unum_in (md : Hr.Md) : ∀ args w, (callFunc (unum md) args).run Tryz.prog w = .ok (.enter (unum md) args) w := by
  rcases md with ((_ | _) | (_ | _ | _ | _ | _ | _ | _ | _))
  · exact enters_of Tryz.func28 (by kernel_rfl) rfl
  · exact enters_of Tryz.func45 (by kernel_rfl) rfl
  · exact enters_of Tryz.func99 (by kernel_rfl) rfl
  all_goals exact enters_of Tryz.func124 (by kernel_rfl) rfl
theorem cuse21 (B b : Nat) (lv fv : Value) (s : Hr.St) (x : ByteArray) (w : World) (hL : Hr.lineM s = true) (h : RN w B b (rnx b s.md) lv fv s) (hT : TBr B w) (hc : Hr.cost s + x.size ≤ 1048576) (hr : s.room ≤ 9223372036854775807) :
    Calls Tryz.prog (unum s.md) #[.pointer (some ⟨b, 0, none⟩), .string x] w (UP w B b lv fv (Hr.useL s x.data.toList).1 (Hr.useL s x.data.toList).2) := by
  have hx : x.size ≤ 1048576 := by omega
  unfold Hr.lineM at hL
  unfold Hr.useL
  rcases hm : s.md with ((_ | _) | (_ | _ | _ | _ | _ | _ | _ | _)) <;> rw [hm] at hL <;> try (exact absurd hL (by decide))
  · have := cstart21 B b lv fv s x w h hT.tb hx; exact this
  · have := cfieldU21 B b lv fv s x w h hT hc; exact this
  · have := csizeU21 B b lv fv s x w h hT.tb hx hr; exact this
  · have := ctrailU21 B b lv fv s x w h hT.tb hc; exact this
/-- The loop over a line's bytes. -/
structure LI21 (w1 : World) (B b rb : Nat) (lv fv : Value) (s : Hr.St) (D : List UInt8) (i : Nat) (si : Hr.St) (lvi : Value) (wr : World) : Prop where
  rn : RN wr B b (rnx b s.md) lvi fv si
  md : si.md = s.md
  cost : Hr.cost si ≤ Hr.cost s + i
  room : si.room = s.room
  L : si.L = s.L
  rl : Hr.rl s D = ((Hr.rl si (D.drop i)).1 + i, (Hr.rl si (D.drop i)).2)
  lf : LF (RS b lv fv) w1 wr
  rw : RW w1.heap.size lv fv lvi fv
  box : Ar wr rb 49 pcZ
theorem Hr.most_eq {s si : Hr.St} (h1 : si.md = s.md) (h2 : si.L = s.L) : Hr.most si = Hr.most s ∧ Hr.code si = Hr.code s := by
  unfold Hr.most Hr.code
  rw [h1, h2]
  exact ⟨rfl, rfl⟩
theorem Hr.rl_ret {s si : Hr.St} {D : List UInt8} {i : Nat} {c : UInt8} (h : Hr.rl s D = ((Hr.rl si (D.drop i)).1 + i, (Hr.rl si (D.drop i)).2)) (hc : D[i]? = some c) (hr : (si.cr || !((Hr.takeB si c).1.mark == 0)) = true) : Hr.rl s D = (i + 1, (Hr.takeB si c).1, (Hr.takeB si c).2) := by
  obtain ⟨hl, rfl⟩ := List.getElem?_eq_some_iff.1 hc
  rw [h, List.drop_eq_getElem_cons hl, Hr.rl, if_pos hr, Nat.add_comm]
theorem Hr.rl_go {s si s2 : Hr.St} {D : List UInt8} {i : Nat} {c : UInt8} (h : Hr.rl s D = ((Hr.rl si (D.drop i)).1 + i, (Hr.rl si (D.drop i)).2)) (hc : D[i]? = some c) (hk : si.cr = false) (ht : Hr.takeB si c = (Hr.pc0, s2)) : Hr.rl s D = ((Hr.rl s2 (D.drop (i + 1))).1 + (i + 1), (Hr.rl s2 (D.drop (i + 1))).2) := by
  obtain ⟨hl, rfl⟩ := List.getElem?_eq_some_iff.1 hc
  rw [h, List.drop_eq_getElem_cons hl, Hr.rl, ht, hk, if_neg (by simp [Hr.pc0])]
  simp only [Prod.mk.injEq, and_true]
  omega
theorem Hr.u8_eq (c : UInt8) (n : Nat) (hn : n < 256) : (c == UInt8.ofNat n) = ((c.toNat : Int) == (n : Int)) := by
  rw [Bool.eq_iff_iff, beq_iff_eq, beq_iff_eq]
  constructor
  · intro e; rw [e, UInt8.toNat_ofNat', Nat.mod_eq_of_lt hn]
  · intro e; apply UInt8.toNat_inj.1; rw [UInt8.toNat_ofNat', Nat.mod_eq_of_lt hn]; omega
theorem Hr.cost_cr {s : Hr.St} (h : s.cr = false) : Hr.cost { s with cr := true } = Hr.cost s + 1 := by unfold Hr.cost Hr.lnH; rw [h]; simp only [Bool.false_eq_true, if_false, if_true]; omega
theorem Hr.cost_ln (s : Hr.St) (c : UInt8) : Hr.cost { s with ln := s.ln ++ [c] } = Hr.cost s + 1 := by unfold Hr.cost Hr.lnH; simp only [List.length_append, List.length_singleton]; omega
theorem Hr.cost_clear (s : Hr.St) : Hr.cost { s with ln := [], cr := false } + s.ln.length ≤ Hr.cost s := by unfold Hr.cost Hr.lnH; simp only [List.length_nil, Bool.false_eq_true, if_false]; omega
theorem ba_size21 (l : List UInt8) : (⟨l.toArray⟩ : ByteArray).size = l.length := by rw [Lib.size_eq]
theorem rw_clear21 (n : Nat) (lv fv : Value) : RW n lv fv (.slice none 0 0) fv := ⟨fun _ h => by simp [Value.ownBlock] at h, fun _ h => .inl h⟩

set_option maxHeartbeats 8000000 in
set_option maxRecDepth 20000 in
theorem creadL21 (B b : Nat) (lv fv : Value) (s : Hr.St) (d : ByteArray) (w : World) (h : RN w B b (rnx b s.md) lv fv s) (hL : Hr.lineM s = true) (hT : TBr B w) (hc : Hr.cost s + d.size ≤ 1048576) (hr : s.room ≤ 9223372036854775807) (hl63 : s.L ≤ 9223372036854775807) :
    Calls Tryz.prog 27 #[.pointer (some ⟨b, 0, none⟩), .string d, .int .i64 (Hr.most s : Int), .int .i64 (Hr.code s), mV b (unum s.md)] w (NP w B b lv fv (Hr.rl s d.data.toList)) := by
  obtain ⟨mo, hmo⟩ : ∃ mo, Hr.most s = mo := ⟨_, rfl⟩
  obtain ⟨cd, hcd⟩ : ∃ cd, Hr.code s = cd := ⟨_, rfl⟩
  obtain ⟨un, hun⟩ : ∃ un, unum s.md = un := ⟨_, rfl⟩
  obtain ⟨n, hn⟩ : ∃ n, d.size = n := ⟨_, rfl⟩
  obtain ⟨Q, hQ⟩ : ∃ Q, Hr.rl s d.data.toList = Q := ⟨_, rfl⟩
  have eU := unum_in s.md
  rw [hun] at eU
  rw [hmo, hcd, hun, hQ]
  rw [hn] at hc
  have HMO : Hid (∀ si, si.md = s.md → si.L = s.L → Hr.most si = mo ∧ Hr.code si = cd) := hid' (fun si h1 h2 => by have := Hr.most_eq h1 h2; rw [hmo, hcd] at this; exact this)
  have HUS : Hid (∀ (lv' fv' : Value) (si : Hr.St) (x : ByteArray) (W : World), si.md = s.md → RN W B b (rnx b s.md) lv' fv' si → TBr B W → Hr.cost si + x.size ≤ 1048576 → si.room = s.room → Calls Tryz.prog un #[.pointer (some ⟨b, 0, none⟩), .string x] W (UP W B b lv' fv' (Hr.useL si x.data.toList).1 (Hr.useL si x.data.toList).2)) := hid' (fun lv' fv' si x W h1 h2 h3 h4 h5 => by
    have := cuse21 B b lv' fv' si x W (by unfold Hr.lineM at hL ⊢; rw [h1]; exact hL) (by rw [h1]; exact h2) h3 h4 (by rw [h5]; exact hr)
    rwa [h1, hun] at this)
  have HQ := hid' hQ
  have HN := hid' hn
  have HC := hid' hc
  have HT := hid' hT
  have hn63 : n ≤ 1048576 := by omega
  have hmo63 : (mo : Int) ≤ 9223372036854775807 := by
    rw [← hmo]; unfold Hr.most; split <;> omega
  clear hmo hcd hun hn hQ hL hT hc hr hl63
  unfold mV
  have H := hid' h
  have HLT : Hid (∀ k, RS b lv fv k → k < w.heap.size) := hid' (fun k hk => (h.rs k hk).2)
  have HB0 := hid' h.lb
  clear h
  go_enter Tryz.func27, Tryz.ntmps27
  go_wp2_with (refine wpl_alloc 49 rfl rfl _ zeroPc21 ?_)
  intro rb w1 hrb ha1 hl1
  have HB1 := hid' hl1
  have HA1 := hid' ha1
  have HRB : Hid (w.heap.size ≤ rb) := hid' (by omega)
  have HR1 := hid' (H.out.keep hl1)
  have HRL1 : Hid (rb < w1.heap.size) := hid' ha1.lt
  have HN0 : Hid (¬ RS b lv fv rb) := hid' (fun hk => by have := HLT.out rb hk; omega)
  clear ha1 hl1 hrb
  have HNRW : Hid (∀ lv' fv' : Value, RW w1.heap.size lv fv lv' fv' → ¬ RS b lv' fv' rb) := hid' (fun lv' fv' hr hk => by
    rcases hk with hk | hk | hk
    · exact HN0.out (.inl hk)
    · rcases hr.1 _ hk with h | h
      · exact HN0.out (.inr (.inl h))
      · have := HRL1.out; omega
    · rcases hr.2 _ hk with h | h
      · exact HN0.out (.inr (.inr h))
      · have := HRL1.out; omega)
  have HT1 := hid' (HT.out.keep HB1.out)
  have HBK : Hid (∀ k, RS b lv fv k → B ≤ k) := hid' (fun k hk => (H.out.rs k hk).1)
  go_wp2
  go_loopw [17] (fun s17 wr => ∃ (i : Nat) (si : Hr.St) (lvi : Value), s17 = .int .i64 (i : Int) ∧ i ≤ n ∧ Hid (LI21 w1 B b rb lv fv s d.data.toList i si lvi wr)) (fun s17 _ => n - (intOf s17).toNat)
  case atStart => exact ⟨0, s, lv, rfl, Nat.zero_le _, hid' ⟨HR1.out, rfl, Nat.le_refl _, rfl, rfl, by simp, LF.refl _ _, RW.refl _ _ _, HA1.out⟩⟩
  case round =>
    obtain ⟨i, si, lvi, rfl, hi, HI⟩ := hrel
    by_cases hlt : i < n
    · have hlt2 : (i : Int) < (n : Int) := by omega
      have hid1 : i < d.size := by rw [HN.out]; exact hlt
      have HDI : Hid (d.data.toList[i]? = some (d[i]'hid1)) := hid' (Lib.data_getElem? d i hid1)
      have k5 : wr.cell? ⟨b, 5, none⟩ = some (.bool si.cr) := HI.out.rn.obj.cell 5 _ rfl
      have f5 := HI.out.rn.obj.free 5
      have f4 := HI.out.rn.obj.free 4
      obtain ⟨t10, h10⟩ : ∃ t, (((d[i]'hid1).toNat : Int) == 10) = t := ⟨_, rfl⟩
      obtain ⟨cr, hcr⟩ : ∃ cr, si.cr = cr := ⟨_, rfl⟩
      have HTB : Hid (Hr.takeB si (d[i]'hid1) = if !(cr == t10) then Hr.broke si 400 else if cr then Hr.useL { si with ln := [], cr := false } si.ln else if (((d[i]'hid1).toNat : Int) == 13) then (Hr.pc0, { si with cr := true }) else if si.ln.length == mo then Hr.broke si cd else (Hr.pc0, { si with ln := si.ln ++ [d[i]'hid1] })) := hid' (by
        unfold Hr.takeB
        rw [hcr, (HMO.out si HI.out.md HI.out.L).1, (HMO.out si HI.out.md HI.out.L).2, ← h10, show ((d[i]'hid1) == 10) = (((d[i]'hid1).toNat : Int) == 10) from Hr.u8_eq _ 10 (by decide), show ((d[i]'hid1) == 13) = (((d[i]'hid1).toNat : Int) == 13) from Hr.u8_eq _ 13 (by decide)])
      have HCR := hid' hcr
      rw [hcr] at k5
      have HRT : Hid (∀ P : Hr.Pc × Hr.St, Hr.takeB si (d[i]'hid1) = P → (si.cr || !(P.1.mark == 0)) = true → Q = (i + 1, P.1, P.2)) := hid' (fun P h1 h2 => by
        have := Hr.rl_ret HI.out.rl HDI.out (by rw [h1]; exact h2)
        rw [h1] at this
        exact HQ.out.symm.trans this)
      clear hcr
      cases cr
      · cases t10
        · have HNE : Hid (rb ≠ b) := hid' (fun e => HN0.out (.inl e))
          cases c13 : (((d[i]'hid1).toNat : Int) == 13)
          · by_cases hmo1 : si.ln.length = mo
            · have hq : ((si.ln.length : Int) == (mo : Int)) = true := by rw [beq_iff_eq]; omega
              have HE : Hid (Q = (i + 1, Hr.broke si cd)) := hid' (HRT.out _ (HTB.out.trans (by rw [c13, show (si.ln.length == mo) = true from by rw [beq_iff_eq]; exact hmo1]; try rfl)) (by rw [HCR.out]; rfl))
              obtain ⟨lo, lc, hlv⟩ := own_shape HI.out.rn.ln
              have k4 : wr.cell? ⟨b, 4, none⟩ = some (.slice lo si.ln.length lc) := by rw [← hlv]; exact HI.out.rn.obj.cell 4 _ rfl
              clear hmo1 hlv
              go_wp2_with (go_at_call 33; refine (cbreaks21 B b _ _ _ _ cd _ HI.out.rn).mono ?_; rintro e w9 ⟨rfl, h9, hf9⟩; refine Hid.out ?_)
              refine hid' ?_
              have H9 := hid' h9
              have HF9 := hid' hf9
              have HA9 := hid' (hf9.ar HI.out.box (fun hk => HNRW.out _ _ HI.out.rw hk))
              clear h9 hf9
              go_wp2_with (refine wpl_store 49 _ _ rfl rfl rb (pcC (Hr.brk cd) (.slice none 0 0) (.slice none 0 0)) (by kernel_rfl) (by kernel_rfl) _ _ HA9.out sizePc21 rfl (by simp [Value.oneCell', pcC]) ?_)
              intro wf hwf huf
              go_wp2
              have hld := ldPc21 hwf
              exact bodyPost_ret (v := .tuple #[.int .i64 ((i : Int) + 1), pv0 (Hr.brk cd)]) (by simp [results, Tryz.results27, asAddr, hld, pv0]) rfl (by
                rw [HE.out, show ((i : Int) + 1) = ((i + 1 : Nat) : Int) from rfl]
                exact np_up21 (up_plain21 HB1.out HRB.out HRL1.out (lf_rs HI.out.lf HI.out.rw HF9.out) H9.out (RW.none _ _ _) rfl rfl HLT.out huf))
            · have hq : ((si.ln.length : Int) == (mo : Int)) = false := by rw [beq_eq_false_iff_ne]; omega
              have HTK : Hid (Hr.takeB si (d[i]'hid1) = (Hr.pc0, { si with ln := si.ln ++ [d[i]'hid1] })) := hid' (HTB.out.trans (by rw [c13, show (si.ln.length == mo) = false from by rw [beq_eq_false_iff_ne]; exact hmo1]; rfl))
              obtain ⟨lo, lc, hlv⟩ := own_shape HI.out.rn.ln
              subst hlv
              have k4 : wr.cell? ⟨b, 4, none⟩ = some (.slice lo si.ln.length lc) := HI.out.rn.obj.cell 4 _ rfl
              obtain ⟨m, hm⟩ : ∃ m, si.ln.length = m := ⟨_, rfl⟩
              have HM := hid' hm
              have hmb : m ≤ 1048576 := by
                have h1 := HI.out.cost
                have h2 := HC.out
                unfold Hr.cost Hr.lnH at h1 h2
                omega
              obtain ⟨i0, hi0, hz0, hz1, hz2⟩ := minfo_parts infoB21
              have HII := hid' hi0
              have HZ0 := hid' hz0
              have HZ1 := hid' hz1
              have HZ2 := hid' hz2
              have hba := bl_alloc wr (.cells #[.int .u8 ((d[i]'hid1).toNat : Int)] 5)
              have HBA := hid' hba
              have HRN := hid' (HI.out.rn.keep hba)
              have HSZ := hid' (Nat.le_trans (HI.out.rn.lb) hba.size)
              have HOL : Hid ((wr.alloc (.cells #[.int .u8 ((d[i]'hid1).toNat : Int)] 5)).ownsRow B 5 1 (.slice lo m lc) m (u8s si.ln)) := hid' (by have := (HI.out.rn.keep hba).ln; rwa [hm] at this)
              rw [hm] at k4 hq
              clear hi0 hz0 hz1 hz2 hba hm hmo1
              go_wp2_with (at_builtin; refine wpl_appk21 rfl _ _ 58 rfl B 5 i0 (.int .u8 0) 1 1 Tryz.underlying58 HII.out HZ0.out HZ1.out HZ2.out rfl (by decide) (.slice lo m lc) m _ rfl HOL.out ⟨wr.heap.size, 0, none⟩ 1 1 [.int .u8 ((d[i]'hid1).toNat : Int)] rfl rfl (new_b21 _ _) (fun u hu => by rw [List.mem_singleton.1 hu]; rfl) (by unfold maxLen; omega) (by omega) HSZ.out ?_)
              intro v' w3 ho3 _ hg3 hrw3
              obtain ⟨lo3, lc3, hv3⟩ := own_shape ho3
              subst hv3
              have hO3 := ar_grown HRN.out.obj hg3 (fun k hk => HRN.out.lnb k (by rw [HM.out]; exact hk))
              have c4 := hO3.cell 4 _ rfl
              have e4 := hO3.free 4
              have HA3 := hid' (ar_grown (HI.out.box.keep HBA.out) hg3 (fun k hk e => HNRW.out _ _ HI.out.rw (.inr (.inl (by rw [← e, HM.out]; exact hk)))))
              have HG3 := hid' hg3
              have HR3 := hid' hrw3
              have HO3 := hid' ho3
              clear hg3 hrw3 ho3 hO3
              have HN2 : Hid (LI21 w1 B b rb lv fv s d.data.toList (i + 1) { si with ln := si.ln ++ [d[i]'hid1] } (.slice lo3 (m + 1) lc3) (w3.setCell ⟨b, 4, none⟩ (.slice lo3 (m + 1) lc3))) := hid' ⟨HRN.out.grow21 _ (by rw [HM.out]; exact HO3.out) (by rw [HM.out]; exact HG3.out), HI.out.md, by have h1 := HI.out.cost; rw [Hr.cost_ln]; omega, HI.out.room, HI.out.L, Hr.rl_go HI.out.rl HDI.out HCR.out HTK.out, lf_rs HI.out.lf HI.out.rw (((LF.of_below HBA.out).trans (lf_grown21 HG3.out) (fun k _ hk => .inr (.inl (by rw [HM.out]; exact hk)))).trans (RN.lf_set 4 _) (fun k _ hk => by
                rcases hk with hk | hk | hk
                · exact .inl hk
                · exact .inr (.inl hk)
                · exact .inr (.inr hk))), RW.trans HI.out.rw (⟨fun k hk => by rw [HM.out]; exact (HR3.out k hk).imp id (fun h => by simpa using h), fun k hk => .inl hk⟩ : RW (wr.alloc (.cells #[.int .u8 ((d[i]'hid1).toNat : Int)] 5)).heap.size (.slice lo si.ln.length lc) fv (.slice lo3 (m + 1) lc3) fv) (Nat.le_trans HI.out.lf.size HBA.out.size), HA3.out.other (Ne.symm HNE.out) 4 _⟩
              go_wp2_with fail
              go_roundw
              case rel => exact ⟨i + 1, _, _, by go_num, by have := hlt; omega, HN2⟩
              case measure => simp [intOf]; omega
          · have HTK : Hid (Hr.takeB si (d[i]'hid1) = (Hr.pc0, { si with cr := true })) := hid' (HTB.out.trans (by rw [c13]; rfl))
            have HN2 : Hid (LI21 w1 B b rb lv fv s d.data.toList (i + 1) ({ si with cr := true }) (lvi) (wr.setCell ⟨b, 5, none⟩ (.bool true))) := hid' ⟨HI.out.rn.set (nv' := rnx b s.md) 5 (.bool true) rfl rfl rfl, HI.out.md, by have h1 := HI.out.cost; rw [Hr.cost_cr HCR.out]; omega, HI.out.room, HI.out.L, Hr.rl_go HI.out.rl HDI.out HCR.out HTK.out, lf_rs HI.out.lf HI.out.rw (RN.lf_set 5 _), HI.out.rw, HI.out.box.other (Ne.symm HNE.out) 5 _⟩
            go_wp2_with fail
            go_roundw
            case rel => exact ⟨i + 1, _, lvi, by go_num, by have := hlt; omega, HN2⟩
            case measure => simp [intOf]; omega
        · have HE : Hid (Q = (i + 1, Hr.broke si 400)) := hid' (HRT.out _ HTB.out (by rw [HCR.out]; rfl))
          go_wp2_with (go_at_call 33; refine (cbreaks21 B b _ _ _ _ 400 _ HI.out.rn).mono ?_; rintro e w9 ⟨rfl, h9, hf9⟩; refine Hid.out ?_)
          refine hid' ?_
          have H9 := hid' h9
          have HF9 := hid' hf9
          have HA9 := hid' (hf9.ar HI.out.box (fun hk => HNRW.out _ _ HI.out.rw hk))
          clear h9 hf9
          go_wp2_with (refine wpl_store 49 _ _ rfl rfl rb (pcC (Hr.brk 400) (.slice none 0 0) (.slice none 0 0)) (by kernel_rfl) (by kernel_rfl) _ _ HA9.out sizePc21 rfl (by simp [Value.oneCell', pcC]) ?_)
          intro wf hwf huf
          go_wp2
          have hld := ldPc21 hwf
          exact bodyPost_ret (v := .tuple #[.int .i64 ((i : Int) + 1), pv0 (Hr.brk 400)]) (by simp [results, Tryz.results27, asAddr, hld, pv0]) rfl (by
            rw [HE.out, show ((i : Int) + 1) = ((i + 1 : Nat) : Int) from rfl]
            exact np_up21 (up_plain21 HB1.out HRB.out HRL1.out (lf_rs HI.out.lf HI.out.rw HF9.out) H9.out (RW.none _ _ _) rfl rfl HLT.out huf))
      · cases t10
        · have HE : Hid (Q = (i + 1, Hr.broke si 400)) := hid' (HRT.out _ HTB.out (by rw [HCR.out]; rfl))
          go_wp2_with (go_at_call 33; refine (cbreaks21 B b _ _ _ _ 400 _ HI.out.rn).mono ?_; rintro e w9 ⟨rfl, h9, hf9⟩; refine Hid.out ?_)
          refine hid' ?_
          have H9 := hid' h9
          have HF9 := hid' hf9
          have HA9 := hid' (hf9.ar HI.out.box (fun hk => HNRW.out _ _ HI.out.rw hk))
          clear h9 hf9
          go_wp2_with (refine wpl_store 49 _ _ rfl rfl rb (pcC (Hr.brk 400) (.slice none 0 0) (.slice none 0 0)) (by kernel_rfl) (by kernel_rfl) _ _ HA9.out sizePc21 rfl (by simp [Value.oneCell', pcC]) ?_)
          intro wf hwf huf
          go_wp2
          have hld := ldPc21 hwf
          exact bodyPost_ret (v := .tuple #[.int .i64 ((i : Int) + 1), pv0 (Hr.brk 400)]) (by simp [results, Tryz.results27, asAddr, hld, pv0]) rfl (by
            rw [HE.out, show ((i : Int) + 1) = ((i + 1 : Nat) : Int) from rfl]
            exact np_up21 (up_plain21 HB1.out HRB.out HRL1.out (lf_rs HI.out.lf HI.out.rw HF9.out) H9.out (RW.none _ _ _) rfl rfl HLT.out huf))
        · have hcv := cv21 HI.out.rn.ln
          have k4 : wr.cell? ⟨b, 4, none⟩ = some lvi := HI.out.rn.obj.cell 4 _ rfl
          obtain ⟨lo, lc, hlv⟩ := own_shape HI.out.rn.ln
          subst hlv
          go_wp2_with fail
          obtain ⟨p, s', hps⟩ : ∃ p s', Hr.useL { si with ln := [], cr := false } si.ln = (p, s') := ⟨_, _, rfl⟩
          have HE : Hid (Q = (i + 1, p, s')) := hid' (HRT.out _ (HTB.out.trans hps) (by rw [HCR.out]; rfl))
          have hlfW : LF (RS b lv fv) w1 ((wr.setCell ⟨b, 4, none⟩ (.slice none 0 0)).setCell ⟨b, 5, none⟩ (.bool false)) := lf_rs HI.out.lf HI.out.rw ((RN.lf_set 4 _).trans (RN.lf_set 5 _) (fun _ _ => id))
          have HLW := hid' hlfW
          have hbx : Ar ((wr.setCell ⟨b, 4, none⟩ (.slice none 0 0)).setCell ⟨b, 5, none⟩ (.bool false)) rb 49 pcZ := (HI.out.box.other (fun e => HN0.out (.inl e.symm)) 4 _).other (fun e => HN0.out (.inl e.symm)) 5 _
          have HBXX := hid' hbx
          have hu := HUS.out (.slice none 0 0) fv { si with ln := [], cr := false } ⟨si.ln.toArray⟩ _ HI.out.md HI.out.rn.clear21 (HT1.out.lf hlfW HBK.out) (by have h1 := HI.out.cost; have h2 := Hr.cost_clear si; have h3 := HC.out; rw [ba_size21]; omega) HI.out.room
          rw [show (⟨si.ln.toArray⟩ : ByteArray).data.toList = si.ln from rfl, hps] at hu
          clear hps hlfW hbx
          refine hu.mono ?_
          rintro e w2 ⟨v, lv2, fv2, rfl, ⟨rv, tv, rfl, k1, k2, k3, k4'⟩, hn2, hf2, hr2⟩
          obtain ⟨ro, rc, hrv⟩ := own_shape k1
          obtain ⟨tq, tc, htv⟩ := own_shape k2
          have HP4 : Hid (PcW w2 B (RS b lv2 fv2) (.agg (pcC p rv tv)) p) := hid' ⟨rv, tv, rfl, k1, k2, k3, k4'⟩
          have HN2 := hid' hn2
          have HF2 : Hid (LF (RS b lv fv) w1 w2) := hid' (lf_rs HLW.out (rw_clear21 _ _ _) hf2)
          have HR2 : Hid (RW w1.heap.size lv fv lv2 fv2) := hid' (RW.trans (rw_clear21 _ _ _) hr2 HLW.out.size)
          have HA2 := hid' (hf2.ar HBXX.out (fun hk => HNRW.out _ _ (rw_clear21 _ _ _) hk))
          subst hrv htv
          clear k1 k2 k3 k4' hn2 hf2 hr2 hu k4 hcv
          go_wp2_with (refine wpl_store 49 _ _ rfl rfl rb (pcC p (.slice ro p.rq.fs.length rc) (.slice tq p.fs.length tc)) (by kernel_rfl) (by kernel_rfl) _ _ HA2.out sizePc21 rfl (by simp [Value.oneCell', pcC]) ?_)
          intro wf hwf huf
          go_wp2
          have hld := ldPc21 hwf
          exact bodyPost_ret (v := .tuple #[.int .i64 ((i : Int) + 1), .agg (pcC p (.slice ro p.rq.fs.length rc) (.slice tq p.fs.length tc))]) (by simp [results, Tryz.results27, asAddr, hld]) rfl (by
            rw [HE.out, show ((i : Int) + 1) = ((i + 1 : Nat) : Int) from rfl]
            exact np_up21 (up_on21 HA2.out HB1.out HRB.out HRL1.out HF2.out HN2.out HR2.out HP4.out HLT.out huf))
    · obtain rfl : i = n := by omega
      have hlt2 : ¬ (i : Int) < (d.size : Int) := by rw [HN.out]; omega
      have HE : Hid (Q = (i, Hr.pc0, si)) := hid' (by
        rw [← HQ.out, HI.out.rl, List.drop_of_length_le (by rw [← Lib.size_eq, HN.out]; exact Nat.le_refl _)]
        simp [Hr.rl])
      clear hlt
      go_wp2_with (refine wpl_store 49 _ _ rfl rfl rb (pcC Hr.pc0 (.slice none 0 0) (.slice none 0 0)) (by kernel_rfl) (by kernel_rfl) _ _ HI.out.box sizePc21 rfl (by simp [Value.oneCell', pcC]) ?_)
      intro wf hwf huf
      go_wp2
      have hld := ldPc21 hwf
      exact bodyPost_ret (v := .tuple #[.int .i64 (i : Int), pv0 Hr.pc0]) (by simp [results, Tryz.results27, asAddr, hld, pv0, HN.out]) rfl (by
        rw [HE.out]
        exact np_up21 (up_plain21 HB1.out HRB.out HRL1.out HI.out.lf (by rw [HI.out.md]; exact HI.out.rn) HI.out.rw rfl rfl HLT.out huf))

end Go.Proofs.YtbpdhcfmdkmoiaaGreatDoor
