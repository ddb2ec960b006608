/-
  The reader's fieldOf, fields.add, addField: by their contracts.
  The reader's fields.add: by its contract.
-/
import Derived.Test.YtbpdhcfmdkmoiaaGreatDoorPnAR
import Derived.Test.YtbpdhcfmdkmoiaaGreatDoorPnAU
namespace Go.Proofs.YtbpdhcfmdkmoiaaGreatDoor
open Go.RowKit

theorem cclone21 (s : ByteArray) (hs : s.size ≤ 281474976710656) (w : World) : Calls Tryz.prog 87 #[.string s] w fun e w' => e = .returned (.string s) ∧ Below w.heap.size w w' := by
  go_enter Tryz.func87, Tryz.ntmps87
  go_wp2_with fail
  refine (Tryz.stringslite_Clone s _ hs).mono ?_
  rintro e w1 ⟨rfl, hb1⟩
  go_wp2
  go_ret
  exact ⟨rfl, hb1⟩
theorem zeroFd21 : (Tryz.prog.info? 52).map (fun i => i.zero) = some (some (.agg #[.string ⟨#[]⟩, .string ⟨#[]⟩])) := by kernel_rfl
theorem sizeFd21 : (Tryz.prog.info? 52).map (·.size) = some 2 := by kernel_rfl
theorem ldFd21 {w : World} {b : Nat} {x0 x1 : Value} (h : Ar w b 52 #[x0, x1]) : (loadVar 52 ⟨b, 0, none⟩).run Tryz.prog w = .ok (.agg #[x0, x1]) w :=
  run_loadVar_row (P := Tryz.prog) w b 52 52 _ (0, 0) _ h Tryz.underlying52 rfl sizeFd21
/-- What fieldOf answers. -/
def fldV21 (l : List UInt8) : Value := if Hr.fldB l then .agg #[.string (Hr.fld l).n, .string (Hr.fld l).v] else .agg #[.string ⟨#[]⟩, .string ⟨#[]⟩]

set_option maxHeartbeats 4000000 in
set_option maxRecDepth 20000 in
theorem cfield21 (s : ByteArray) (w : World) (hT : TB w) (hs : s.size ≤ 1048576) :
    Calls Tryz.prog 64 #[.string s] w fun e w' => e = .returned (.tuple #[fldV21 s.data.toList, .bool (Hr.fldB s.data.toList)]) ∧ Below w.heap.size w w' := by
  obtain ⟨x, hx⟩ : ∃ x : ByteArray, (⟨(Lib.cut s.data.toList (⟨#[58]⟩ : ByteArray).data.toList).1.toArray⟩ : ByteArray) = x := ⟨_, rfl⟩
  obtain ⟨y, hy⟩ : ∃ y : ByteArray, (⟨(Lib.cut s.data.toList (⟨#[58]⟩ : ByteArray).data.toList).2.1.toArray⟩ : ByteArray) = y := ⟨_, rfl⟩
  obtain ⟨is, his⟩ : ∃ is, (Lib.cut s.data.toList (⟨#[58]⟩ : ByteArray).data.toList).2.2 = is := ⟨_, rfl⟩
  obtain ⟨z, hz⟩ : ∃ z : ByteArray, (⟨(Tx.trim y.data.toList).toArray⟩ : ByteArray) = z := ⟨_, rfl⟩
  obtain ⟨lo, hlo⟩ : ∃ z : ByteArray, (⟨(Tx.lower x.data.toList).toArray⟩ : ByteArray) = z := ⟨_, rfl⟩
  obtain ⟨tk, htk⟩ : ∃ tk, Tx.isTok x.data.toList = tk := ⟨_, rfl⟩
  obtain ⟨vl, hvl⟩ : ∃ vl, Tx.isVal z.data.toList = vl := ⟨_, rfl⟩
  have hxl : x.data.toList = Hr.fldN s.data.toList := by rw [← hx]; rfl
  have hyl : y.data.toList = (Lib.cut s.data.toList [58]).2.1 := by rw [← hy]
  have hzl : z.data.toList = Hr.fldV s.data.toList := by rw [← hz, hyl]; rfl
  have HB : Hid (Hr.fldB s.data.toList = (is && tk && vl)) := hid' (by unfold Hr.fldB; rw [← hxl, ← hzl, htk, hvl, ← his])
  have HF : Hid (Hr.fld s.data.toList = ⟨lo, z⟩) := hid' (by unfold Hr.fld Hr.ba; rw [← hxl, ← hzl, hlo])
  have hlen := Hr.cut_len 58 s.data.toList
  rw [← Lib.size_eq] at hlen
  have hxs : x.size ≤ 1048576 := by rw [Lib.size_eq, hxl]; unfold Hr.fldN; omega
  have hys : y.size ≤ 1048576 := by rw [Lib.size_eq, hyl]; omega
  have hzs : z.size ≤ 1048576 := by have := Tx.trim_le y.data.toList; rw [← Lib.size_eq] at this; rw [← hz, Lib.size_eq]; exact Nat.le_trans this hys
  have hls : lo.size ≤ 1048576 := by rw [← hlo, Lib.size_eq]; show (Tx.lower x.data.toList).length ≤ _; unfold Tx.lower; rw [List.length_map, ← Lib.size_eq]; omega
  have HTR : Hid (∀ W, Calls Tryz.prog 85 #[.string y] W fun e w' => e = .returned (.string z) ∧ w' = W) := hid' (fun W => by have := trim_any y W (by unfold maxLen; omega); rwa [hz] at this)
  have HTK : Hid (∀ W, Calls Tryz.prog 35 #[.string x] W fun e w' => e = .returned (.bool tk) ∧ w' = W) := hid' (fun W => by have := token_any x W (by unfold maxLen; omega); rwa [htk] at this)
  have HVL : Hid (∀ W, Calls Tryz.prog 86 #[.string z] W fun e w' => e = .returned (.bool vl) ∧ w' = W) := hid' (fun W => by have := value_any z W (by unfold maxLen; omega); rwa [hvl] at this)
  have HLO : Hid (∀ W, Calls Tryz.prog 88 #[.string x] W fun e w' => e = .returned (.string lo) ∧ Below W.heap.size W w') := hid' (fun W => by have := lower_any x W (by unfold maxLen; omega); rwa [hlo] at this)
  have HCX : Hid (∀ W, Calls Tryz.prog 87 #[.string lo] W fun e w' => e = .returned (.string lo) ∧ Below W.heap.size W w') := hid' (fun W => cclone21 lo (by omega) W)
  have HCZ : Hid (∀ W, Calls Tryz.prog 87 #[.string z] W fun e w' => e = .returned (.string z) ∧ Below W.heap.size W w') := hid' (fun W => cclone21 z (by omega) W)
  have HTB := hid' hT
  clear hz hlo htk hvl hxl hyl hzl hlen hxs hys hzs hls hT
  go_enter Tryz.func64, Tryz.ntmps64
  go_wp2_with (refine wpl_alloc 52 rfl rfl _ zeroFd21 ?_)
  intro rb w0 hrb ha0 hl0
  have HA0 := hid' ha0
  have HB0 := hid' hl0
  have HRB : Hid (w.heap.size ≤ rb) := hid' (by omega)
  have HT0 := hid' (HTB.out.keep hl0)
  clear ha0 hl0 hrb
  obtain ⟨mm, hmm⟩ := HT0.out.2
  go_wp2_with fail
  refine (Tryz.strings_Cut s ⟨#[58]⟩ mm w0 (by omega) hmm).mono ?_
  clear hmm
  rw [hx, hy, his]
  rintro e w1 ⟨rfl, nq, hw1⟩
  have HB1 : Hid (Below w.heap.size w w1) := hid' (by rw [hw1]; exact below_two HB0.out (dnB w0 nq))
  have HA1 : Hid (Ar w1 rb 52 #[.string ⟨#[]⟩, .string ⟨#[]⟩]) := hid' (by rw [hw1]; exact HA0.out.keep (dnB w0 nq))
  clear hw1 hx hy his HB0 HA0 HT0
  go_wp2_with (go_at_call 85; refine (HTR.out _).mono ?_; rintro e w2 ⟨rfl, hw2⟩; subst w2; refine Hid.out ?_)
  refine hid' ?_
  have HNO : Hid ((is && tk && vl) = false → fldV21 s.data.toList = .agg #[.string ⟨#[]⟩, .string ⟨#[]⟩] ∧ Hr.fldB s.data.toList = false) := hid' (fun h => by
    have hb := HB.out.trans h
    exact ⟨by unfold fldV21; rw [hb]; rfl, hb⟩)
  cases is
  · obtain ⟨k1, k2⟩ := HNO.out rfl
    go_wp2_with (first | (refine wpl_store 52 _ _ rfl rfl rb #[.string ⟨#[]⟩, .string ⟨#[]⟩] (by kernel_rfl) (by kernel_rfl) _ _ HA1.out sizeFd21 rfl (by simp [Value.oneCell']) ?_))
    intro wf haf huf
    have hld := ldFd21 haf
    go_wp2
    exact bodyPost_ret (v := .tuple #[.agg #[.string ⟨#[]⟩, .string ⟨#[]⟩], .bool false]) (by simp [results, Tryz.results64, asAddr, hld]) rfl ⟨by rw [k1, k2], HB1.out.trans (huf.below HRB.out)⟩
  cases tk
  · obtain ⟨k1, k2⟩ := HNO.out rfl
    go_wp2_with (first | (go_at_call 35; refine (HTK.out _).mono ?_; rintro e w2 ⟨rfl, hw2⟩; subst w2) | (refine wpl_store 52 _ _ rfl rfl rb #[.string ⟨#[]⟩, .string ⟨#[]⟩] (by kernel_rfl) (by kernel_rfl) _ _ HA1.out sizeFd21 rfl (by simp [Value.oneCell']) ?_))
    intro wf haf huf
    have hld := ldFd21 haf
    go_wp2
    exact bodyPost_ret (v := .tuple #[.agg #[.string ⟨#[]⟩, .string ⟨#[]⟩], .bool false]) (by simp [results, Tryz.results64, asAddr, hld]) rfl ⟨by rw [k1, k2], HB1.out.trans (huf.below HRB.out)⟩
  cases vl
  · obtain ⟨k1, k2⟩ := HNO.out rfl
    go_wp2_with (first | (go_at_call 35; refine (HTK.out _).mono ?_; rintro e w2 ⟨rfl, hw2⟩; subst w2) | (go_at_call 86; refine (HVL.out _).mono ?_; rintro e w2 ⟨rfl, hw2⟩; subst w2) | (refine wpl_store 52 _ _ rfl rfl rb #[.string ⟨#[]⟩, .string ⟨#[]⟩] (by kernel_rfl) (by kernel_rfl) _ _ HA1.out sizeFd21 rfl (by simp [Value.oneCell']) ?_))
    intro wf haf huf
    have hld := ldFd21 haf
    go_wp2
    exact bodyPost_ret (v := .tuple #[.agg #[.string ⟨#[]⟩, .string ⟨#[]⟩], .bool false]) (by simp [results, Tryz.results64, asAddr, hld]) rfl ⟨by rw [k1, k2], HB1.out.trans (huf.below HRB.out)⟩
  have k2 : Hr.fldB s.data.toList = true := HB.out
  have k1 : fldV21 s.data.toList = .agg #[.string lo, .string z] := by unfold fldV21; rw [k2, HF.out]; rfl
  have K1 := hid' k1
  have K2 := hid' k2
  clear k1 k2 HNO
  go_wp2_with (first | (go_at_call 35; refine (HTK.out _).mono ?_; rintro e w2 ⟨rfl, hw2⟩; subst w2) | (go_at_call 86; refine (HVL.out _).mono ?_; rintro e w2 ⟨rfl, hw2⟩; subst w2) | (go_at_call 88; refine (HLO.out _).mono ?_; rintro e w2 ⟨rfl, hb2⟩; refine Hid.out ?_))
  refine hid' ?_
  have HA2 := hid' (HA1.out.keep hb2)
  have HB2 := hid' (below_two HB1.out hb2)
  clear hb2
  go_wp2_with (go_at_call 87; refine (HCX.out _).mono ?_; rintro e w3 ⟨rfl, hb3⟩; refine Hid.out ?_)
  refine hid' ?_
  have HA3 := hid' (HA2.out.keep hb3)
  have HB3 := hid' (below_two HB2.out hb3)
  clear hb3
  go_wp2_with (go_at_call 87; refine (HCZ.out _).mono ?_; rintro e w4 ⟨rfl, hb4⟩; refine Hid.out ?_)
  refine hid' ?_
  have HA4 := hid' (HA3.out.keep hb4)
  have HB4 := hid' (below_two HB3.out hb4)
  clear hb4
  go_wp2_with (refine wpl_store 52 _ _ rfl rfl rb #[.string lo, .string z] (by kernel_rfl) (by kernel_rfl) _ _ HA4.out sizeFd21 rfl (by simp [Value.oneCell']) ?_)
  intro wf haf huf
  have hld := ldFd21 haf
  go_wp2
  exact bodyPost_ret (v := .tuple #[.agg #[.string lo, .string z], .bool true]) (by simp [results, Tryz.results64, asAddr, hld]) rfl ⟨by rw [K1.out, K2.out], HB4.out.trans (huf.below HRB.out)⟩

end Go.Proofs.YtbpdhcfmdkmoiaaGreatDoor

namespace Go.Proofs.YtbpdhcfmdkmoiaaGreatDoor
open Go.RowKit

theorem Hr.size_app (l : List Fd) (f : Fd) : Ms.size (l ++ [f]) = Ms.size l + (32 + f.n.size + f.v.size) := by
  rw [Hr.size_fsH, Hr.size_fsH, Hr.fsH_app, List.length_append, List.length_singleton]; omega

set_option maxHeartbeats 4000000 in
set_option maxRecDepth 20000 in
theorem cadd21 (B b : Nat) (nv lv fv : Value) (s : Hr.St) (f : Fd) (w : World) (h : RN w B b nv lv fv s) (hl : s.fs.length ≤ 1048576) (hz : Ms.size s.fs ≤ 1125899906842624) (hn : f.n.size ≤ 1048576) (hv : f.v.size ≤ 1048576) :
    Calls Tryz.prog 65 #[.pointer (some ⟨b, 9, none⟩), .agg #[.string f.n, .string f.v]] w fun e w' => e = .returned (.tuple #[]) ∧ ∃ fv', RN w' B b nv lv fv' { s with fs := s.fs ++ [f] } ∧ LF (RS b lv fv) w w' ∧ RW w.heap.size lv fv lv fv' := by
  have HBX : Hid (b ≠ w.heap.size) := hid' (Nat.ne_of_lt h.obj.lt)
  have HBW : Hid (B ≤ w.heap.size) := hid' h.lb
  have hb1 := bl_alloc w (.cells #[.string f.n, .string f.v] 52)
  have hA := fd_new w f
  have H1 := hid' (h.keep hb1)
  have H0 := hid' h
  have HB1 := hid' hb1
  obtain ⟨z, hzd⟩ : ∃ z, Ms.size s.fs = z := ⟨_, rfl⟩
  rw [hzd] at hz
  have HZ := hid' hzd
  clear hzd
  obtain ⟨i0, hi0, hz0, hz1, hz2⟩ := minfo_parts infoF14
  have HI := hid' hi0
  have HZ0 := hid' hz0
  have HZ1 := hid' hz1
  have HZ2 := hid' hz2
  clear hi0 hz0 hz1 hz2 h hb1
  go_enter Tryz.func65, Tryz.ntmps65
  go_upto_region 1 with fail
  obtain ⟨xb, hxb⟩ : ∃ xb, w.heap.size = xb := ⟨_, rfl⟩
  rw [hxb] at hA ⊢
  have HXB := hid' hxb
  have HA1 := hid' hA
  have x0 := hA.cell 0 _ rfl
  have x1 := hA.cell 1 _ rfl
  clear hA hxb
  obtain ⟨w1, hw1⟩ : ∃ w1, w.alloc (.cells #[.string f.n, .string f.v] 52) = w1 := ⟨_, rfl⟩
  rw [hw1] at HB1 H1 HA1 x0 x1 ⊢
  clear hw1
  obtain ⟨ao, cap, hfv⟩ := own_shape H1.out.fl
  subst hfv
  obtain ⟨n, hnn⟩ : ∃ n, s.fs.length = n := ⟨_, rfl⟩
  have HN := hid' hnn
  rw [hnn] at hl
  have H1N : Hid (RN w1 B b nv lv (.slice ao n cap) s) := hid' (by have := H1.out; rwa [hnn] at this)
  obtain ⟨xs, hxs⟩ : ∃ xs, fC s.fs = xs := ⟨_, rfl⟩
  have HR : Hid (w1.ownsRow B 52 2 (.slice ao n cap) n xs) := hid' (by have := H1.out.fl; rwa [hnn, hxs] at this)
  have HO : Hid (Ar w1 b 66 (rdC nv lv (.slice ao n cap) s)) := hid' (by have := H1.out.obj; rwa [hnn] at this)
  have HXS := hid' hxs
  have g9 : w1.cell? ⟨b, 9, none⟩ = some (.slice ao n cap) := HO.out.cell 9 _ rfl
  have f9 := HO.out.free 9
  have hob : ∀ k, (Value.slice ao n cap).ownBlock = some k → k ≠ b := own_apart HR.out HO.out (by decide)
  clear hnn hxs
  obtain ⟨w00, hw00⟩ : ∃ w00, w00 = (w1.alloc (.cells #[.string f.n, .string f.v] 52)).drew := ⟨_, rfl⟩
  have hb00 : Below w1.heap.size w1 w00 := by rw [hw00]; exact ((Below.refl _ _).alloc (Nat.le_refl _) _).drew
  have hO00 := HO.out.keep hb00
  have hR00 : w00.ownsRow B 52 2 (.slice ao n cap) n xs := own_keep21 HR.out hb00
  have hnews : ∀ j u, [Value.string f.n, .string f.v][j]? = some u → w00.cell? ((⟨w1.heap.size, 0, none⟩ : Addr).add j) = some u := by
    intro j u hj
    have hA : Ar w00 w1.heap.size 52 #[.string f.n, .string f.v] := by rw [hw00]; exact heap_alloc_last w1 _
    rw [Addr.add_mid, Nat.zero_add]
    exact hA.cell j u (by simpa using hj)
  have hsz00 : B ≤ w00.heap.size := Nat.le_trans HBW.out (Nat.le_trans HB1.out.size hb00.size)
  have HB00 := hid' (below_two HB1.out hb00)
  have HA00 := hid' (HA1.out.keep hb00)
  have HL00 := hid' (own_keep21 H1.out.ln hb00)
  have HW00 := hid' hw00
  have HO00 := hid' hO00
  rw [hw00] at hR00 hnews hsz00
  have HR00 := hid' hR00
  have HNW := hid' hnews
  have HSZ := hid' hsz00
  have HOB := hid' hob
  have HXN : Hid (∀ k, (Value.slice ao n cap).ownBlock = some k → k ≠ xb) := hid' (fun k hk e => by have := own_lt H0.out.fl k (by rw [HN.out]; exact hk); rw [HXB.out] at this; omega)
  have g9' : (w1.alloc (.cells #[.string f.n, .string f.v] 52)).cell? ⟨b, 9, none⟩ = some (.slice ao n cap) := ((bl_alloc w1 _).cell (cell_lt g9)).trans g9
  clear hb00 hw00 hO00 hR00 hnews hsz00 hob
  go_region_law (refine step_appk21 (by rfl) _ (by rfl) _ _ 40 (by rfl) B 52 i0 (.agg #[.string ⟨#[]⟩, .string ⟨#[]⟩]) 2 32 Tryz.underlying40 HI.out HZ0.out HZ1.out HZ2.out (by rfl) (by decide) (.slice ao n cap) n xs (by rfl) HR00.out ⟨w1.heap.size, 0, none⟩ 1 1 [.string f.n, .string f.v] (by rfl) (by rfl) HNW.out (one_fd21 _ _) (by unfold maxLen; omega) (by omega) HSZ.out ?_; intro v2 w2 hrow _ hgrow hrw; obtain ⟨v2o, v2c, hv2⟩ := own_shape hrow; subst hv2; have hO2 := ar_grown (HW00.out ▸ HO00.out) hgrow HOB.out; have c9 := hO2.cell 9 _ rfl; have e9 := hO2.free 9)
  all_goals
    have HRW := hid' hrw
    have HV2 := hid' hrow
    have HO2 := hid' hO2
    have HG2 := hid' hgrow
    have HA2 := hid' (ar_grown (HW00.out ▸ HA00.out) hgrow HXN.out)
    have HL2 := hid' (own_same (HW00.out ▸ HL00.out) (fun k hk => hgrow.block k (own_lt (HW00.out ▸ HL00.out) k hk) (H1N.out.rows k hk)))
    have c10 : w2.cell? ⟨b, 10, none⟩ = some (.int .i64 (z : Int)) := hO2.cell 10 _ (by rw [← HZ.out]; rfl)
    have e10 := hO2.free 10
    have y0 : w2.cell? ⟨xb, 0, none⟩ = some (.string f.n) := HA2.out.cell 0 _ rfl
    have y1 : w2.cell? ⟨xb, 1, none⟩ = some (.string f.v) := HA2.out.cell 1 _ rfl
    have hne : xb ≠ b := fun e => HBX.out (e.symm.trans HXB.out.symm)
    have HBF := hid' (HW00.out ▸ HB00.out)
    clear hO2 hrow hgrow hrw x0 x1 g9 f9 g9'
    go_wp2
    go_region
    go_wp2
    go_end0
    go_wp2
    have hn9 := HN.out
    subst hn9
    have hzz : ((Ms.size (s.fs ++ [f]) : Nat) : Int) = (z : Int) + (32 + (f.n.size : Int) + (f.v.size : Int)) := by rw [Hr.size_app, HZ.out]; omega
    refine ⟨.slice v2o (s.fs.length + 1) v2c, ⟨H0.out.lo, ?_, ?_, ?_⟩, ?_, ⟨fun k hk => .inl hk, fun k hk => (HRW.out k hk).imp id (fun h => Nat.le_trans HBF.out.size h)⟩⟩
    · have h1 := (HO2.out.set 9 (.slice v2o (s.fs.length + 1) v2c)).set 10 (.int .i64 ((z : Int) + (32 + (f.n.size : Int) + (f.v.size : Int))))
      have e : ((rdC nv lv (.slice ao s.fs.length cap) s).setIfInBounds 9 (.slice v2o (s.fs.length + 1) v2c)).setIfInBounds 10 (.int .i64 ((z : Int) + (32 + (f.n.size : Int) + (f.v.size : Int)))) = rdC nv lv (.slice v2o (s.fs.length + 1) v2c) { s with fs := s.fs ++ [f] } := by simp [rdC, hzz]
      rw [e] at h1
      exact h1
    · exact own_same HL2.out (fun k hk => ((upd_setCell _ b 10 _).block k (H1N.out.lnb k hk)).trans ((upd_setCell w2 b 9 _).block k (H1N.out.lnb k hk)))
    · have h2 : w2.ownsRow B 52 2 (.slice v2o (s.fs.length + 1) v2c) (s.fs ++ [f]).length (fC (s.fs ++ [f])) := by
        rw [List.length_append, fC_one21, HXS.out]
        exact HV2.out
      have ha := own_apart h2 HO2.out (by decide)
      exact own_same h2 (fun k hk => ((upd_setCell _ b 10 _).block k (ha k hk)).trans ((upd_setCell w2 b 9 _).block k (ha k hk)))
    · exact ((((LF.of_below HBF.out).trans (lf_grown21 HG2.out) (fun k _ hk => .inr (.inr hk))).trans (RN.lf_set 9 _) (fun _ _ => id)).trans (RN.lf_set 10 _) (fun _ _ => id)).trans (LF.of_below ((Below.refl _ _).drew)) (fun _ _ => id)

end Go.Proofs.YtbpdhcfmdkmoiaaGreatDoor
