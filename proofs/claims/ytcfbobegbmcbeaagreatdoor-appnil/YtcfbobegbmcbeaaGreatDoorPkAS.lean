/-
  The code's stamps, heads; steps of a region that draws.
-/
import Derived.RegionTactic
import Derived.Deep.RegionHeld3
import Derived.ChangeAlike
import Derived.Test.YtcfbobegbmcbeaaGreatDoorPkAE
import Derived.Test.YtcfbobegbmcbeaaGreatDoorPkAN
import Derived.Test.YtcfbobegbmcbeaaGreatDoorPkAR
import Derived.Test.YtcfbobegbmcbeaaGreatDoorPkAJ
namespace Go.Proofs.YtcfbobegbmcbeaaGreatDoor
open Go.RowKit

section
variable {P : Program} {md : Region.Mode} {Q : Exit → Act → World → Prop} {S : World → Prop}
theorem take_d19 {ops : Array Oper} {i : Nat} {oi : Oper} {d : Option Tmp} {v : Value} {fuel : Nat} {listed : Array Bool} {a : Act} {w : World} (hi : ops[i]? = some oi) (hd : oi.dst = d)
  (hs : Region.noSelect ops = true) (hf : Region.free md ops listed i = true) (hr : (Region.ready md ops listed).contains i = true)
  (hQ : ∀ c a w, Q (.panic c) (a.put d v) w → Q (.panic c) a w) (hy : YieldsIf P ops S oi v a) (hS : S w)
  (h : wpAnyH P md ops Q S fuel (listed.setIfInBounds i true) (a.put d v) w) : wpAnyH P md ops Q S (fuel + 1) listed a w := by
 subst hd
 exact wpAnyH_take hi hs hf hr hQ hy hS h
theorem step_lit19 {w : World} {ops : Array Oper} {o : Oper} {a : Act} {K : Act → World → Prop} {E : Prop} (hgd : o.guard = none) (d : Option Tmp) (hd : o.dst = d) (e : TypeId) (n : Nat) (cs : Array Value)
  (hrun : (execOp a.eval o).run P w = .ok (.value (.slice (some ⟨w.heap.size, 0, none⟩) n n)) (w.alloc (.cells cs e)))
  (h : K (a.put d (.slice (some ⟨w.heap.size, 0, none⟩) n n)) (w.alloc (.cells cs e))) :
  if Region.wanted o (yielded ops a.tmps) = true then Oper.wp P o a w K Q else E := by
 have hw : Region.wanted o (yielded ops a.tmps) = true := by simp [Region.wanted, hgd]
 rw [if_pos hw]
 unfold Oper.wp
 rw [hrun]
 subst hd
 exact h
theorem step_app19 {w : World} {ops : Array Oper} {o : Oper} {a : Act} {K : Act → World → Prop} {E : Prop} (hgd : o.guard = none) (d : Option Tmp) (hd : o.dst = d) (s x : Operand) (t : TypeId)
  (ho : o.op = .call { callee := .builtin .append, args := #[s, x], argTypes := #[t, t] })
  (base : Nat) (e : TypeId) (i : TypeInfo) (z : Value) (size bytes : Nat) (ht : P.underlying t = some (.slice e)) (hi : P.info? e = some i) (hz : i.zero = some z)
  (hsize : i.size = size) (hby : i.bytes = bytes) (hzs : z.cells.size = size) (hsz : 0 < size)
  (v : Value) (n : Nat) (xs : List Value) (hs : a.eval s = v) (hown : w.ownsRow base e size v n xs)
  (ad : Addr) (m c : Nat) (news : List Value) (hx : a.eval x = .slice (some ad) m c) (hl : news.length = m * size) (hnews : ∀ j u, news[j]? = some u → w.cell? (ad.add j) = some u) (h1 : ∀ u ∈ news, u.oneCell' = true)
  (h63 : n + m ≤ maxLen) (hbytes : (n + m) * bytes ≤ 140737488355328) (hbase : base ≤ w.heap.size)
  (h : ∀ v' w', w'.ownsRow base e size v' (n + m) (xs ++ news) → w.grownBy w' v.ownBlock → K (a.put d v') w') :
  if Region.wanted o (yielded ops a.tmps) = true then Oper.wp P o a w K Q else E := by
 subst hd
 have hw : Region.wanted o (yielded ops a.tmps) = true := by simp [Region.wanted, hgd]
 rw [if_pos hw]
 obtain ⟨v', w', hr, h2, h3, _, _⟩ := run_append_own_at (P := P) w base t o.type e i z size bytes ht hi hz hsize hby hzs hsz v n xs hown ad m c news hl hnews h1 h63 hbytes hbase
 unfold Oper.wp execOp
 simp only [ho, resolve, invoke, builtin, Sem.run_bind, Sem.run_pure, Result.andThen_ok, List.map_toArray, List.map_cons, List.map_nil, hs, hx, hr]
 exact h v' w' h2 h3
theorem step_store19 {w : World} {ops : Array Oper} {o : Oper} {a : Act} {K : Act → World → Prop} {E : Prop} (hgd : o.guard = none) (ty : TypeId) (x y : Operand)
  (ho : o.op = .store ty x y) (b : Nat) (c : Array Value) (hx : a.eval x = .pointer (some ⟨b, 0, none⟩)) (hy : a.eval y = .agg c)
  (t : TypeId) (old : Array Value) (hg : Ar w b t old) (hi : (P.info? ty).map (·.size) = some c.size) (hold : old.size = c.size) (h1 : c.all (·.oneCell') = true)
  (h : ∀ w', Ar w' b t c → Upd b w w' → K (a.put o.dst undef) w') : if Region.wanted o (yielded ops a.tmps) = true then Oper.wp P o a w K Q else E := by
 have hw : Region.wanted o (yielded ops a.tmps) = true := by simp [Region.wanted, hgd]
 rw [if_pos hw]
 exact wp_store_row ty x y ho b c hx hy t old hg hi hold h1 (h _ (setRow_heap w b old c t (0, 0) hg) (upd_setRow w b c))
end
theorem fmt19 {t : Int} {l : Fs.T8} (hl : Dt.Dated t l) : Fs.fmt t = l := by
 unfold Fs.fmt
 exact Dt.fmtC_of hl

set_option maxHeartbeats 2000000 in
set_option maxRecDepth 20000 in
theorem cstamps19 (p y : ByteArray) (t q : Int) (he : EN19 ⟨p, y, t, q⟩) (w : World) (hT : TB19 w) :
  Calls Tryz.prog 118 #[.agg #[.string y, .int .i64 t, .int .i64 q]] w fun e w' => (∃ vo vc, e = .returned (.slice vo 2 vc) ∧ w'.ownsRow w.heap.size 39 2 (.slice vo 2 vc) 2 (fC [Fs.fd Fs.nET (Tg.mk q y.size), Fs.fd Fs.nLM (Fs.fmt t)])) ∧ Below w.heap.size w w' := by
 obtain ⟨hy, t0, t1, q0, q1⟩ := he
 simp only at hy t0 t1 q0 q1
 obtain ⟨l, hl⟩ := Dt.dated_ex t t0 t1
 rw [fmt19 hl]
 have HF := hid' (fun W (h : TB19 W) => format_any t l hl W h.1)
 have HM : Hid (∀ W, TB19 W → Calls Tryz.prog 154 #[.agg #[.string y, .int .i64 t, .int .i64 q]] W fun e w' => e = .returned (.string ⟨(Tg.mk q y.size).toArray⟩) ∧ Below W.heap.size W w') := hid' (fun W h => cmake15 y t q W (by omega) (by omega) q1 h.1)
 have HT := hid' hT
 generalize Tg.mk q y.size = m at *
 clear hy t0 t1 q0 q1 hl hT
 go_enter Tryz.func118, Tryz.ntmps118
 go_wp2_with (refine wpl_box 68 _ rfl rfl #[.string y, .int .i64 t, .int .i64 q] (by kernel_rfl) ?_)
 intro xb w1 hg1 ha1 hb1
 have HX1 := hid' ha1
 have HB1 := hid' hb1
 have x1 := HX1.out.cell 1 _ rfl
 clear hg1 ha1 hb1
 go_wp2_with fail
 refine (HF.out w1 (tb_below19 HT.out HB1.out)).mono ?_
 rintro e w2 ⟨rfl, hb2⟩
 have HX2 := hid' (HX1.out.keep hb2)
 have HB2 := hid' (below_two HB1.out hb2)
 have x0 := HX2.out.cell 0 _ rfl
 have x2 := HX2.out.cell 2 _ rfl
 have x1' := HX2.out.cell 1 _ rfl
 clear hb2 HX1 HB1 x1
 go_wp2_with fail
 refine (HM.out w2 (tb_below19 HT.out HB2.out)).mono ?_
 rintro e w3 ⟨rfl, hb3⟩
 have HB3 := hid' (below_two HB2.out hb3)
 clear hb3 HB2 HX2 x0 x1' x2
 have HL : Hid ((w3.alloc (.cells (fC [Fs.fd Fs.nET m, Fs.fd Fs.nLM l]).toArray 39)).ownsRow w.heap.size 39 2 (.slice (some ⟨w3.heap.size, 0, none⟩) 2 2) 2 (fC [Fs.fd Fs.nET m, Fs.fd Fs.nLM l])) := hid' (own_lit19 w3 _ _ 2 2 rfl (by decide) _ HB3.out.size)
 have HB4 := hid' (below_two HB3.out (bl_alloc19 w3 (.cells (fC [Fs.fd Fs.nET m, Fs.fd Fs.nLM l]).toArray 39)))
 go_wp2
 go_ret
 exact ⟨⟨_, _, rfl, HL.out⟩, HB4.out⟩

set_option maxHeartbeats 4000000 in
set_option maxRecDepth 20000 in
theorem cheads19 (p y : ByteArray) (t q : Int) (he : EN19 ⟨p, y, t, q⟩) (kd : ByteArray) (w : World) (hT : TB19 w) :
  Calls Tryz.prog 161 #[.agg #[.string p, .string y, .int .i64 t, .int .i64 q], .string kd] w fun e w' => (∃ vo vc, e = .returned (.slice vo 4 vc) ∧ w'.ownsRow w.heap.size 39 2 (.slice vo 4 vc) 4 (fC (Fs.head kd.data.toList ⟨p, y, t, q⟩))) ∧ Below w.heap.size w w' := by
 have HS := hid' (fun W (h : TB19 W) => cstamps19 p y t q he W h)
 have HT := hid' hT
 have hkd : Fs.fd Fs.nCT kd.data.toList = ⟨Fs.str Fs.nCT, kd⟩ := rfl
 unfold Fs.head
 rw [hkd]
 simp only
 generalize Tg.mk q y.size = m at *
 generalize Fs.fmt t = l at *
 clear hT he hkd
 go_enter Tryz.func161, Tryz.ntmps161
 go_wp2_with (refine wpl_box 70 _ rfl rfl #[.string p, .string y, .int .i64 t, .int .i64 q] (by kernel_rfl) ?_)
 intro xb w1 hg1 ha1 hb1
 have HX1 := hid' ha1
 have HB1 := hid' hb1
 have HO0 : Hid ((w1.alloc (.cells (fC [⟨Fs.str Fs.nCT, kd⟩]).toArray 39)).ownsRow w1.heap.size 39 2 (.slice (some ⟨w1.heap.size, 0, none⟩) 1 1) 1 (fC [⟨Fs.str Fs.nCT, kd⟩])) := hid' (own_lit19 w1 _ _ 1 2 rfl (by decide) _ (Nat.le_refl _))
 have HB2 := hid' (bl_alloc19 w1 (.cells (fC [⟨Fs.str Fs.nCT, kd⟩]).toArray 39))
 have HX2 := hid' (HX1.out.keep HB2.out)
 have HLB : Hid (w.heap.size ≤ w1.heap.size) := hid' HB1.out.size
 clear hg1 ha1 hb1
 go_upto_region 2 with fail
 obtain ⟨w2, hw2⟩ : ∃ w2, w1.alloc (.cells (fC [⟨Fs.str Fs.nCT, kd⟩]).toArray 39) = w2 := ⟨_, rfl⟩
 obtain ⟨fb, hfb⟩ : ∃ fb, w1.heap.size = fb := ⟨_, rfl⟩
 rw [hw2, hfb] at HO0
 rw [hw2] at HB2 HX2
 rw [show w1.alloc (.cells #[.string ⟨#[99, 111, 110, 116, 101, 110, 116, 45, 116, 121, 112, 101]⟩, .string kd] 39) = w2 from hw2, hfb]
 have HFB : Hid (w1.heap.size = fb) := hid' hfb
 clear hw2 hfb
 have x1 := HX2.out.cell 1 _ rfl
 have x2 := HX2.out.cell 2 _ rfl
 have x3 := HX2.out.cell 3 _ rfl
 go_wp2_with fail
 refine (HS.out w2 (tb_below19 (tb_below19 HT.out HB1.out) HB2.out)).mono ?_
 rintro e w3 ⟨⟨so, sc, rfl, hfs⟩, hb3⟩
 have HF3 := hid' (fw_own19 hfs rfl)
 have HO3 := hid' (own_same HO0.out (fun j hj => hb3.block j (own_lt HO0.out j hj)))
 have HB3 := hid' (below_two HB2.out hb3)
 have HBF : Hid (fb ≤ w3.heap.size) := hid' (by have := HB3.out.size; rw [← HFB.out]; exact this)
 clear hfs hb3 HO0 HB2 HX2 x1 x2 x3
 go_wp2_with (at_builtin; refine wpl_appL19 rfl _ _ rfl fb (.slice (some ⟨fb, 0, none⟩) 1 1) 1 (fC [⟨Fs.str Fs.nCT, kd⟩]) rfl HO3.out _ [Fs.fd Fs.nET m, Fs.fd Fs.nLM l] rfl HF3.out (by simp) HBF.out ?_; intro v4 w4 hown4 hgrow4; refine Hid.out ?_)
 refine hid' ?_
 have HB4 : Hid (Below w1.heap.size w1 w4) := hid' (below_grown19 HB3.out HB3.out.size (by rw [HFB.out]; exact HO3.out) hgrow4)
 rw [← fC_append] at hown4
 obtain ⟨v4o, v4c, hv4⟩ := own_shape hown4
 subst hv4
 have HO4 : Hid (w4.ownsRow fb 39 2 (.slice v4o 3 v4c) 3 (fC [⟨Fs.str Fs.nCT, kd⟩, Fs.fd Fs.nET m, Fs.fd Fs.nLM l])) := hid' hown4
 have HL : Hid (FW (w4.alloc (.cells (fC [Fs.fd Fs.nAR Fs.vBY]).toArray 39)) (.slice (some ⟨w4.heap.size, 0, none⟩) 1 1) [Fs.fd Fs.nAR Fs.vBY]) := hid' (fw_lit19 w4 _ 1 rfl (by decide))
 have HB5 := hid' (bl_alloc19 w4 (.cells (fC [Fs.fd Fs.nAR Fs.vBY]).toArray 39))
 have HO5 := hid' (own_same HO4.out (fun j hj => HB5.out.block j (own_lt HO4.out j hj)))
 have HBF5 : Hid (fb ≤ (w4.alloc (.cells (fC [Fs.fd Fs.nAR Fs.vBY]).toArray 39)).heap.size) := hid' (by have h1 := HB4.out.size; have h2 := HB5.out.size; have h3 := HFB.out; omega)
 clear hown4 hgrow4
 go_wp2_with (at_builtin; refine wpl_appL19 rfl _ _ rfl fb (.slice v4o 3 v4c) 3 (fC [⟨Fs.str Fs.nCT, kd⟩, Fs.fd Fs.nET m, Fs.fd Fs.nLM l]) rfl HO5.out _ [Fs.fd Fs.nAR Fs.vBY] rfl HL.out (by simp) HBF5.out ?_; intro v6 w6 hown6 hgrow6; refine Hid.out ?_)
 refine hid' ?_
 have HB6 : Hid (Below w1.heap.size w1 w6) := hid' (below_grown19 (below_two HB4.out HB5.out) (below_two HB4.out HB5.out).size (by rw [HFB.out]; exact HO5.out) hgrow6)
 rw [← fC_append] at hown6
 obtain ⟨v6o, v6c, hv6⟩ := own_shape hown6
 subst hv6
 have HO6 : Hid (w6.ownsRow fb 39 2 (.slice v6o 4 v6c) 4 (fC [⟨Fs.str Fs.nCT, kd⟩, Fs.fd Fs.nET m, Fs.fd Fs.nLM l, Fs.fd Fs.nAR Fs.vBY])) := hid' hown6
 clear hown6 hgrow6
 go_wp2
 go_ret
 exact ⟨⟨_, _, rfl, own_base19 HO6.out (by rw [← HFB.out]; exact HLB.out)⟩, below_two HB1.out HB6.out⟩

open Go.RowKit

theorem head_len19 (kd : Fs.T8) (e : Dk.En) : (Fs.head kd e).length = 4 := rfl

set_option maxHeartbeats 4000000 in
set_option maxRecDepth 20000 in
theorem cwhole19 (p y : ByteArray) (t q : Int) (he : EN19 ⟨p, y, t, q⟩) (hp : p.size ≤ 140737488355328) (w : World) (hT : TB19 w) :
  Calls Tryz.prog 121 #[.agg #[.string p, .string y, .int .i64 t, .int .i64 q]] w fun e w' => RP19 w w' e (Fs.whole (Fs.kind p.data.toList) ⟨p, y, t, q⟩) := by
 have HT := hid' hT
 have HK := hid' (fun W => ckind19 p _ rfl hp W)
 obtain ⟨kd, hkd⟩ : ∃ kd : ByteArray, ⟨(Fs.kind p.data.toList).toArray⟩ = kd := ⟨_, rfl⟩
 have hkl : Fs.kind p.data.toList = kd.data.toList := by rw [← hkd]
 rw [hkd] at HK
 have HH := hid' (fun W (h : TB19 W) => cheads19 p y t q he kd W h)
 unfold RP19 Fs.whole
 rw [hkl]
 have HL := hid' (head_len19 kd.data.toList ⟨p, y, t, q⟩)
 generalize Fs.head kd.data.toList ⟨p, y, t, q⟩ = fs at *
 simp only
 rw [show (⟨y.data.toList.toArray⟩ : ByteArray) = y from rfl]
 unfold rpC
 clear hT he hp hkd hkl
 go_enter Tryz.func121, Tryz.ntmps121
 go_wp2_with (refine wpl_box 70 _ rfl rfl #[.string p, .string y, .int .i64 t, .int .i64 q] (by kernel_rfl) ?_)
 intro xb w1 hg1 ha1 hb1
 have HX1 := hid' ha1
 have HB1 := hid' hb1
 clear hg1 ha1 hb1
 go_wp2_with (refine wpl_alloc 42 rfl rfl _ zeroRp19 ?_)
 intro rb w2 hrb ha2 hl2
 have HA2 := hid' ha2
 have HB2 := hid' hl2
 have HRB := hid' hrb
 have HRL := hid' ha2.lt
 clear hrb ha2 hl2
 go_upto_region 1 with fail
 refine wp_region_held_drew (S := fun W => Below w1.heap.size w1 W) (by kernel_rfl) (HB2.out.drew) (fun hHeld => ?_)
 refine take_d19 (i := 0) (d := some 3) (v := ?_) rfl rfl (by kernel_rfl) (by kernel_rfl) (by kernel_rfl) (fun _ _ _ h => h) (Or.inl ⟨by rfl, ?_⟩) (by assumption) ?_
 rotate_left
 ·intro w hSw
  (try dsimp only at hSw)
  have ha := HX1.out.keep hSw
  have c0 := ha.cell 0 _ rfl
  have c1 := ha.cell 1 _ rfl
  have c2 := ha.cell 2 _ rfl
  have c3 := ha.cell 3 _ rfl
  go_simp
  try with_reducible rfl
 try simp only [Act.put, List.setIfInBounds_toArray, List.set_cons_zero, List.set_cons_succ]
 refine take_d19 (i := 1) (d := some 4) (v := ?_) rfl rfl (by kernel_rfl) (by kernel_rfl) (by kernel_rfl) (fun _ _ _ h => h) (Or.inl ⟨by rfl, ?_⟩) (by assumption) ?_
 rotate_left
 ·intro w hSw
  (try dsimp only at hSw)
  have ha := HX1.out.keep hSw
  have c0 := ha.cell 0 _ rfl
  have c1 := ha.cell 1 _ rfl
  have c2 := ha.cell 2 _ rfl
  have c3 := ha.cell 3 _ rfl
  go_simp
  try with_reducible rfl
 try simp only [Act.put, List.setIfInBounds_toArray, List.set_cons_zero, List.set_cons_succ]
 refine take_d19 (i := 2) (d := some 5) (v := ?_) rfl rfl (by kernel_rfl) (by kernel_rfl) (by kernel_rfl) (fun _ _ _ h => h) (Or.inl ⟨by rfl, ?_⟩) (by assumption) ?_
 rotate_left
 ·intro w hSw
  (try dsimp only at hSw)
  have ha := HX1.out.keep hSw
  have c0 := ha.cell 0 _ rfl
  have c1 := ha.cell 1 _ rfl
  have c2 := ha.cell 2 _ rfl
  have c3 := ha.cell 3 _ rfl
  go_simp
  try with_reducible rfl
 try simp only [Act.put, List.setIfInBounds_toArray, List.set_cons_zero, List.set_cons_succ]
 refine take_d19 (i := 5) (d := some 8) (v := ?_) rfl rfl (by kernel_rfl) (by kernel_rfl) (by kernel_rfl) (fun _ _ _ h => h) (Or.inl ⟨by rfl, ?_⟩) (by assumption) ?_
 rotate_left
 ·intro w hSw
  (try dsimp only at hSw)
  have ha := HX1.out.keep hSw
  have c0 := ha.cell 0 _ rfl
  have c1 := ha.cell 1 _ rfl
  have c2 := ha.cell 2 _ rfl
  have c3 := ha.cell 3 _ rfl
  go_simp
  try with_reducible rfl
 try simp only [Act.put, List.setIfInBounds_toArray, List.set_cons_zero, List.set_cons_succ]
 refine take_d19 (i := 6) (d := some 9) (v := ?_) rfl rfl (by kernel_rfl) (by kernel_rfl) (by kernel_rfl) (fun _ _ _ h => h) (Or.inl ⟨by rfl, ?_⟩) (by assumption) ?_
 rotate_left
 ·intro w hSw
  (try dsimp only at hSw)
  have ha := HX1.out.keep hSw
  have c0 := ha.cell 0 _ rfl
  have c1 := ha.cell 1 _ rfl
  have c2 := ha.cell 2 _ rfl
  have c3 := ha.cell 3 _ rfl
  go_simp
  try with_reducible rfl
 try simp only [Act.put, List.setIfInBounds_toArray, List.set_cons_zero, List.set_cons_succ]
 refine take_d19 (i := 7) (d := some 10) (v := ?_) rfl rfl (by kernel_rfl) (by kernel_rfl) (by kernel_rfl) (fun _ _ _ h => h) (Or.inl ⟨by rfl, ?_⟩) (by assumption) ?_
 rotate_left
 ·intro w hSw
  (try dsimp only at hSw)
  have ha := HX1.out.keep hSw
  have c0 := ha.cell 0 _ rfl
  have c1 := ha.cell 1 _ rfl
  have c2 := ha.cell 2 _ rfl
  have c3 := ha.cell 3 _ rfl
  go_simp
  try with_reducible rfl
 try simp only [Act.put, List.setIfInBounds_toArray, List.set_cons_zero, List.set_cons_succ]
 refine wpAnyH_ready (rs := [3]) (by kernel_rfl) (by simp) ?_
 refine AllReadyH.cons rfl (fun K hK => ?_) AllReadyH.nil
 go_simp
 refine (HK.out _).mono ?_
 rintro e wA ⟨rfl, hbA⟩
 have HAA := hid' (Ar.keep (show Ar w2.drew rb _ _ from HA2.out) hbA)
 go_wp2_with fail
 refine hK.out _ _ (below_two hHeld hbA) (fun hHeld2 => ?_)
 clear hK K
 try simp only [Act.put, List.setIfInBounds_toArray, List.set_cons_zero, List.set_cons_succ]
 refine wpAnyH_ready (rs := [4]) (by kernel_rfl) (by simp) ?_
 refine AllReadyH.cons rfl (fun K hK => ?_) AllReadyH.nil
 go_simp
 refine (HH.out _ (tb_below19 (tb_below19 HT.out HB1.out) hHeld2)).mono ?_
 rintro e wC ⟨⟨vo, vc, rfl, hoC⟩, hbC⟩
 have HAC := hid' (HAA.out.keep hbC)
 have HOC := hid' hoC
 have HLA : Hid (rb < wA.heap.size) := hid' HAA.out.lt
 have HWA := hid' (below_two HB1.out hHeld2).size
 clear hoC
 go_wp2_with fail
 refine hK.out _ _ (below_two hHeld2 hbC) (fun hHeld3 => ?_)
 clear hK K
 try simp only [Act.put, List.setIfInBounds_toArray, List.set_cons_zero, List.set_cons_succ]
 refine take_d19 (i := 8) (d := some 11) (v := ?_) rfl rfl (by kernel_rfl) (by kernel_rfl) (by kernel_rfl) (fun _ _ _ h => h) (Or.inl ⟨by rfl, ?_⟩) (by assumption) ?_
 rotate_left
 ·intro w hSw
  (try dsimp only at hSw)
  go_simp
  try with_reducible rfl
 try simp only [Act.put, List.setIfInBounds_toArray, List.set_cons_zero, List.set_cons_succ]
 refine wpAnyH_ready (rs := [9]) (by kernel_rfl) (by simp) ?_
 refine AllReadyH.cons rfl (fun K hK => ?_) AllReadyH.nil
 refine step_store19 rfl 42 _ _ rfl rb #[.int .i64 200, .slice vo 4 vc, .string y, .slice none 0 0] rfl rfl 42 _ (HAC.out) sizeRp19 rfl (by simp [Value.oneCell']) ?_
 intro wf hawf huwf
 refine hK.out _ _ (hHeld3.trans (huwf.below HRB.out)) (fun _ => ?_)
 clear hK K
 try simp only [Act.put]
 refine wpAnyH_done (by kernel_rfl) ?_ _
 have HWF := hid' hawf
 have HUF := hid' huwf
 have HBF := hid' ((below_two HB1.out hHeld3).trans (huwf.below (Nat.le_trans HB1.out.size HRB.out)))
 clear hawf huwf hbA hbC hHeld hHeld2 hHeld3
 go_wp2_with fail
 have hld := ldRp19 HWF.out
 exact bodyPost_ret (v := .agg #[.int .i64 200, .slice vo 4 vc, .string y, .slice none 0 0]) (by simp [results, Tryz.results121, asAddr, hld]) rfl ⟨⟨vo, 4, vc, rfl, HL.out, own_upd19 HOC.out HUF.out HLA.out HWA.out⟩, HBF.out⟩

open Go.RowKit

theorem cut19 (y : ByteArray) (A D : Nat) : (⟨((y.data.toList.take D).drop A).toArray⟩ : ByteArray) = y.extract A D := by
 apply ByteArray.ext
 rw [ByteArray.data_extract]
 apply Array.toList_inj.1
 rw [Array.toList_extract, List.extract_eq_take_drop, List.drop_take]
theorem two19 (w : World) (T : TypeId) (x0 x1 : Value) : ∀ j v, [x0, x1][j]? = some v → (w.alloc (.cells #[x0, x1] T)).cell? ((⟨w.heap.size, 0, none⟩ : Addr).add j) = some v := two_new w T x0 x1

set_option maxHeartbeats 8000000 in
set_option maxRecDepth 20000 in
theorem csingle19 (p y : ByteArray) (t q : Int) (he : EN19 ⟨p, y, t, q⟩) (hp : p.size ≤ 140737488355328) (A C : Nat) (hac : A ≤ C) (hc : C < y.size) (w : World) (hT : TB19 w) :
  Calls Tryz.prog 159 #[.agg #[.string p, .string y, .int .i64 t, .int .i64 q], .agg #[.int .i64 (A : Int), .int .i64 (C : Int)]] w fun e w' => RP19 w w' e (Fs.one (Fs.kind p.data.toList) ⟨p, y, t, q⟩ ⟨(A : Int), (C : Int)⟩) := by
 have hy := he.b
 simp only at hy
 have HT := hid' hT
 have HK := hid' (fun W => ckind19 p _ rfl hp W)
 obtain ⟨kd, hkd⟩ : ∃ kd : ByteArray, ⟨(Fs.kind p.data.toList).toArray⟩ = kd := ⟨_, rfl⟩
 have hkl : Fs.kind p.data.toList = kd.data.toList := by rw [← hkd]
 rw [hkd] at HK
 have HH := hid' (fun W (h : TB19 W) => cheads19 p y t q he kd W h)
 have HTD := hid' (fun W (h : TB19 W) => ctold16 ⟨(A : Int), (C : Int)⟩ (y.size : Int) W (by simp only; omega) (by simp only; omega) (by simp only; omega) (by simp only; omega) (by omega) (by omega) h)
 unfold RP19 Fs.one
 rw [hkl]
 have HL := hid' (head_len19 kd.data.toList ⟨p, y, t, q⟩)
 generalize Fs.head kd.data.toList ⟨p, y, t, q⟩ = fs at *
 simp only at HTD ⊢
 obtain ⟨D, hD⟩ : ∃ D : Nat, C + 1 = D := ⟨_, rfl⟩
 have hcu : (⟨((y.data.toList.take ((C : Int) + 1).toNat).drop ((A : Int)).toNat).toArray⟩ : ByteArray) = y.extract A D := by
  rw [show ((C : Int) + 1).toNat = D by omega, show ((A : Int)).toNat = A by omega]
  exact cut19 y A D
 rw [hcu]
 obtain ⟨td, htd⟩ : ∃ td : ByteArray, ⟨(Rg.told ⟨(A : Int), (C : Int)⟩ (y.size : Int)).toArray⟩ = td := ⟨_, rfl⟩
 rw [show Fs.fd Fs.nCR (Rg.told ⟨(A : Int), (C : Int)⟩ (y.size : Int)) = ⟨Fs.str Fs.nCR, td⟩ by rw [← htd]; rfl]
 rw [htd] at HTD
 have hwr : IntKind.i64.wrap ((C : Int) + 1) = (D : Int) := by rw [wrp _ (by omega) (by omega)]; omega
 have had : A ≤ D := by omega
 have hdy : D ≤ y.size := by omega
 have had2 : (A : Int) ≤ (D : Int) := by omega
 have hdy2 : (D : Int) ≤ (y.size : Int) := by omega
 unfold rpC
 clear hT he hp hkd hkl hcu htd hac hc hD
 obtain ⟨i0, hi0, hz0, hz1, hz2⟩ := minfo_parts infoF14
 have HI := hid' hi0
 have HZ0 := hid' hz0
 have HZ1 := hid' hz1
 have HZ2 := hid' hz2
 have HY := hid' hy
 clear hi0 hz0 hz1 hz2 hy
 go_enter Tryz.func159, Tryz.ntmps159
 go_wp2_with (refine wpl_box 70 _ rfl rfl #[.string p, .string y, .int .i64 t, .int .i64 q] (by kernel_rfl) ?_)
 intro xb w1 hg1 ha1 hb1
 have HX1 := hid' ha1
 have HB1 := hid' hb1
 clear hg1 ha1 hb1
 go_wp2_with (refine wpl_box 228 _ rfl rfl #[.int .i64 (A : Int), .int .i64 (C : Int)] (by kernel_rfl) ?_)
 intro zb w2 hg2 ha2 hb2
 have HX2 := hid' (HX1.out.keep hb2)
 have HZ := hid' ha2
 have HB2 := hid' (below_two HB1.out hb2)
 clear hg2 ha2 hb2 HX1 HB1
 go_wp2_with (refine wpl_alloc 42 rfl rfl _ zeroRp19 ?_)
 intro rb w3 hrb ha3 hl3
 have HA3 := hid' ha3
 have HB3 := hid' hl3
 have HRB := hid' hrb
 have HRL := hid' ha3.lt
 have x1 := (HX2.out.keep hl3).cell 1 _ rfl
 clear hrb ha3 hl3
 go_upto_region 2 with fail
 clear x1
 refine wp_region_held_drew (S := fun W => Below w2.heap.size w2 W) (by kernel_rfl) (HB3.out.drew) (fun hHeld => ?_)
 refine take_d19 (i := 0) (d := some 10) (v := ?_) rfl rfl (by kernel_rfl) (by kernel_rfl) (by kernel_rfl) (fun _ _ _ h => h) (Or.inl ⟨by rfl, ?_⟩) (by assumption) ?_
 rotate_left
 ·intro w hSw
  (try dsimp only at hSw)
  have ha := HX2.out.keep hSw
  have c0 := ha.cell 0 _ rfl
  have c1 := ha.cell 1 _ rfl
  have c2 := ha.cell 2 _ rfl
  have c3 := ha.cell 3 _ rfl
  go_simp
  try with_reducible rfl
 try simp only [Act.put, List.setIfInBounds_toArray, List.set_cons_zero, List.set_cons_succ]
 refine take_d19 (i := 1) (d := some 11) (v := ?_) rfl rfl (by kernel_rfl) (by kernel_rfl) (by kernel_rfl) (fun _ _ _ h => h) (Or.inl ⟨by rfl, ?_⟩) (by assumption) ?_
 rotate_left
 ·intro w hSw
  (try dsimp only at hSw)
  have ha := HX2.out.keep hSw
  have c0 := ha.cell 0 _ rfl
  have c1 := ha.cell 1 _ rfl
  have c2 := ha.cell 2 _ rfl
  have c3 := ha.cell 3 _ rfl
  go_simp
  try with_reducible rfl
 try simp only [Act.put, List.setIfInBounds_toArray, List.set_cons_zero, List.set_cons_succ]
 refine take_d19 (i := 2) (d := some 12) (v := ?_) rfl rfl (by kernel_rfl) (by kernel_rfl) (by kernel_rfl) (fun _ _ _ h => h) (Or.inl ⟨by rfl, ?_⟩) (by assumption) ?_
 rotate_left
 ·intro w hSw
  (try dsimp only at hSw)
  have ha := HX2.out.keep hSw
  have c0 := ha.cell 0 _ rfl
  have c1 := ha.cell 1 _ rfl
  have c2 := ha.cell 2 _ rfl
  have c3 := ha.cell 3 _ rfl
  go_simp
  try with_reducible rfl
 try simp only [Act.put, List.setIfInBounds_toArray, List.set_cons_zero, List.set_cons_succ]
 refine wpAnyH_ready (rs := [3]) (by kernel_rfl) (by simp) ?_
 refine AllReadyH.cons rfl (fun K hK => ?_) AllReadyH.nil
 go_simp
 refine (HK.out _).mono ?_
 rintro e wA ⟨rfl, hbA⟩
 have HAA := hid' (Ar.keep (show Ar w3.drew rb _ _ from HA3.out) hbA)
 go_wp2_with fail
 refine hK.out _ _ (below_two hHeld hbA) (fun hHeld2 => ?_)
 clear hK K
 try simp only [Act.put, List.setIfInBounds_toArray, List.set_cons_zero, List.set_cons_succ]
 refine wpAnyH_ready (rs := [4]) (by kernel_rfl) (by simp) ?_
 refine AllReadyH.cons rfl (fun K hK => ?_) AllReadyH.nil
 go_simp
 refine (HH.out _ (tb_below19 (tb_below19 HT.out HB2.out) hHeld2)).mono ?_
 rintro e wC ⟨⟨vo, vc, rfl, hoC⟩, hbC⟩
 have HAC := hid' (HAA.out.keep hbC)
 have HOC := hid' hoC
 have HLA : Hid (rb < wA.heap.size) := hid' HAA.out.lt
 have HWA := hid' (below_two HB2.out hHeld2).size
 have HBC := hid' (below_two hHeld2 hbC)
 have HLC := hid' hbC.size
 have hHA := hid' hHeld2.size
 clear hoC
 go_wp2_with fail
 refine hK.out _ _ (below_two hHeld2 hbC) (fun hHeld3 => ?_)
 clear hK K
 try simp only [Act.put, List.setIfInBounds_toArray, List.set_cons_zero, List.set_cons_succ]
 refine take_d19 (i := 5) (d := some 6) (v := ?_) rfl rfl (by kernel_rfl) (by kernel_rfl) (by kernel_rfl) (fun _ _ _ h => h) (Or.inl ⟨by rfl, ?_⟩) (by assumption) ?_
 rotate_left
 ·intro w hSw
  (try dsimp only at hSw)
  go_simp
  try with_reducible rfl
 try simp only [Act.put, List.setIfInBounds_toArray, List.set_cons_zero, List.set_cons_succ]
 try simp only [Act.put]
 refine wpAnyH_done (by kernel_rfl) ?_ _
 clear hHeld hHeld2 hHeld3 hbA hbC
 go_upto_region 3 with fail
 refine wp_region_held_drew (S := fun W => Below w2.heap.size w2 W) (by kernel_rfl) (HBC.out.drew) (fun hG => ?_)
 refine take_d19 (i := 0) (d := some 15) (v := ?_) rfl rfl (by kernel_rfl) (by kernel_rfl) (by kernel_rfl) (fun _ _ _ h => h) (Or.inl ⟨by rfl, ?_⟩) (by assumption) ?_
 rotate_left
 ·intro w hSw
  (try dsimp only at hSw)
  go_simp
  try with_reducible rfl
 try simp only [Act.put, List.setIfInBounds_toArray, List.set_cons_zero, List.set_cons_succ]
 refine take_d19 (i := 1) (d := some 16) (v := ?_) rfl rfl (by kernel_rfl) (by kernel_rfl) (by kernel_rfl) (fun _ _ _ h => h) (Or.inl ⟨by rfl, ?_⟩) (by assumption) ?_
 rotate_left
 ·intro w hSw
  (try dsimp only at hSw)
  have ha := HZ.out.keep hSw
  have c0 := ha.cell 0 _ rfl
  have c1 := ha.cell 1 _ rfl
  go_simp
  try with_reducible rfl
 try simp only [Act.put, List.setIfInBounds_toArray, List.set_cons_zero, List.set_cons_succ]
 refine take_d19 (i := 2) (d := some 17) (v := ?_) rfl rfl (by kernel_rfl) (by kernel_rfl) (by kernel_rfl) (fun _ _ _ h => h) (Or.inl ⟨by rfl, ?_⟩) (by assumption) ?_
 rotate_left
 ·intro w hSw
  (try dsimp only at hSw)
  go_simp
  try with_reducible rfl
 try simp only [Act.put, List.setIfInBounds_toArray, List.set_cons_zero, List.set_cons_succ]
 refine take_d19 (i := 3) (d := some 18) (v := ?_) rfl rfl (by kernel_rfl) (by kernel_rfl) (by kernel_rfl) (fun _ _ _ h => h) (Or.inl ⟨by rfl, ?_⟩) (by assumption) ?_
 rotate_left
 ·intro w hSw
  (try dsimp only at hSw)
  go_simp
  try with_reducible rfl
 try simp only [Act.put, List.setIfInBounds_toArray, List.set_cons_zero, List.set_cons_succ]
 refine take_d19 (i := 8) (d := some 23) (v := ?_) rfl rfl (by kernel_rfl) (by kernel_rfl) (by kernel_rfl) (fun _ _ _ h => h) (Or.inl ⟨by rfl, ?_⟩) (by assumption) ?_
 rotate_left
 ·intro w hSw
  (try dsimp only at hSw)
  go_simp
  try with_reducible rfl
 try simp only [Act.put, List.setIfInBounds_toArray, List.set_cons_zero, List.set_cons_succ]
 refine take_d19 (i := 9) (d := some 24) (v := ?_) rfl rfl (by kernel_rfl) (by kernel_rfl) (by kernel_rfl) (fun _ _ _ h => h) (Or.inl ⟨by rfl, ?_⟩) (by assumption) ?_
 rotate_left
 ·intro w hSw
  (try dsimp only at hSw)
  go_simp
  try with_reducible rfl
 try simp only [Act.put, List.setIfInBounds_toArray, List.set_cons_zero, List.set_cons_succ]
 refine take_d19 (i := 10) (d := some 25) (v := ?_) rfl rfl (by kernel_rfl) (by kernel_rfl) (by kernel_rfl) (fun _ _ _ h => h) (Or.inl ⟨by rfl, ?_⟩) (by assumption) ?_
 rotate_left
 ·intro w hSw
  (try dsimp only at hSw)
  have ha := HZ.out.keep hSw
  have c0 := ha.cell 0 _ rfl
  have c1 := ha.cell 1 _ rfl
  go_simp
  try with_reducible rfl
 try simp only [Act.put, List.setIfInBounds_toArray, List.set_cons_zero, List.set_cons_succ]
 refine take_d19 (i := 11) (d := some 26) (v := ?_) rfl rfl (by kernel_rfl) (by kernel_rfl) (by kernel_rfl) (fun _ _ _ h => h) (Or.inl ⟨by rfl, ?_⟩) (by assumption) ?_
 rotate_left
 ·intro w hSw
  (try dsimp only at hSw)
  go_simp
  try with_reducible rfl
 try simp only [Act.put, List.setIfInBounds_toArray, List.set_cons_zero, List.set_cons_succ]
 refine take_d19 (i := 12) (d := some 27) (v := ?_) rfl rfl (by kernel_rfl) (by kernel_rfl) (by kernel_rfl) (fun _ _ _ h => h) (Or.inl ⟨by rfl, ?_⟩) (by assumption) ?_
 rotate_left
 ·intro w hSw
  (try dsimp only at hSw)
  have ha := HZ.out.keep hSw
  have c0 := ha.cell 0 _ rfl
  have c1 := ha.cell 1 _ rfl
  go_simp
  try with_reducible rfl
 try simp only [Act.put, List.setIfInBounds_toArray, List.set_cons_zero, List.set_cons_succ]
 refine take_d19 (i := 13) (d := some 28) (v := ?_) rfl rfl (by kernel_rfl) (by kernel_rfl) (by kernel_rfl) (fun _ _ _ h => h) (Or.inl ⟨by rfl, ?_⟩) (by assumption) ?_
 rotate_left
 ·intro w hSw
  (try dsimp only at hSw)
  go_simp
  try with_reducible rfl
 try simp only [Act.put, List.setIfInBounds_toArray, List.set_cons_zero, List.set_cons_succ]
 refine take_d19 (i := 14) (d := some 29) (v := ?_) rfl rfl (by kernel_rfl) (by kernel_rfl) (by kernel_rfl) (fun _ _ _ h => h) (Or.inl ⟨by rfl, ?_⟩) (by assumption) ?_
 rotate_left
 ·intro w hSw
  (try dsimp only at hSw)
  go_simp
  try with_reducible rfl
 try simp only [Act.put, List.setIfInBounds_toArray, List.set_cons_zero, List.set_cons_succ]
 refine wpAnyH_ready (rs := [4]) (by kernel_rfl) (by simp) ?_
 refine AllReadyH.cons rfl (fun K hK => ?_) AllReadyH.nil
 go_simp
 refine (HTD.out _ (tb_below19 (tb_below19 HT.out HB2.out) hG)).mono ?_
 rintro e wE ⟨rfl, hbE⟩
 have HAE := hid' (Ar.keep (show Ar wC.drew rb _ _ from HAC.out) hbE)
 have HOE := hid' (own_same (show wC.drew.ownsRow _ _ _ _ _ _ from HOC.out) (fun j hj => hbE.block j (own_lt HOC.out j hj)))
 go_wp2_with fail
 refine hK.out _ _ (below_two hG hbE) (fun hG2 => ?_)
 clear hK K
 try simp only [Act.put, List.setIfInBounds_toArray, List.set_cons_zero, List.set_cons_succ]
 refine wpAnyH_ready (rs := [5]) (by kernel_rfl) (by simp) ?_
 refine AllReadyH.cons rfl (fun K hK => ?_) AllReadyH.nil
 go_simp
 refine (ctoldF19 td _).mono ?_
 rintro e wF ⟨rfl, hbF⟩
 have HAF := hid' (HAE.out.keep hbF)
 have HOF := hid' (own_same HOE.out (fun j hj => hbF.block j (own_lt HOE.out j hj)))
 go_wp2_with fail
 refine hK.out _ _ (below_two hG2 hbF) (fun hG3 => ?_)
 clear hK K
 try simp only [Act.put, List.setIfInBounds_toArray, List.set_cons_zero, List.set_cons_succ]
 refine wpAnyH_ready (rs := [6]) (by kernel_rfl) (by simp) ?_
 refine AllReadyH.cons rfl (fun K hK => ?_) AllReadyH.nil
 refine step_lit19 rfl (some 21) rfl 39 1 #[.string ⟨#[99, 111, 110, 116, 101, 110, 116, 45, 114, 97, 110, 103, 101]⟩, .string td] (by go_simp) ?_
 have hbG := bl_alloc19 wF (.cells #[.string ⟨#[99, 111, 110, 116, 101, 110, 116, 45, 114, 97, 110, 103, 101]⟩, .string td] 39)
 have HAG := hid' (HAF.out.keep hbG)
 have HOG := hid' (own_same HOF.out (fun j hj => hbG.block j (own_lt HOF.out j hj)))
 have HN := hid' (two19 wF 39 (.string ⟨#[99, 111, 110, 116, 101, 110, 116, 45, 114, 97, 110, 103, 101]⟩) (.string td))
 refine hK.out _ _ (below_two hG3 hbG) (fun hG4 => ?_)
 clear hK K
 try simp only [Act.put, List.setIfInBounds_toArray, List.set_cons_zero, List.set_cons_succ]
 refine wpAnyH_ready (rs := [7]) (by kernel_rfl) (by simp) ?_
 refine AllReadyH.cons rfl (fun K hK => ?_) AllReadyH.nil
 refine step_app19 rfl (some 22) rfl _ _ 23 rfl wA.heap.size 39 i0 (.agg #[.string ⟨#[]⟩, .string ⟨#[]⟩]) 2 32 Tryz.underlying23 HI.out HZ0.out HZ1.out HZ2.out (by rfl) (by decide) (.slice vo 4 vc) 4 (fC fs) (by rfl) HOG.out ⟨wF.heap.size, 0, none⟩ 1 1 [.string ⟨#[99, 111, 110, 116, 101, 110, 116, 45, 114, 97, 110, 103, 101]⟩, .string td] (by rfl) rfl HN.out (by simp [Value.oneCell']) (by decide) (by decide) (Nat.le_trans HLC.out (Nat.le_trans hbE.size (Nat.le_trans hbF.size hbG.size))) ?_
 intro v6 w6 hown6 hgrow6
 have hbH : Below w2.heap.size w2 w6 := below_grown19 hG4 hG4.size (own_base19 HOG.out (Nat.le_trans hHA.out (Nat.le_refl _))) hgrow6
 obtain ⟨v6o, v6c, hv6⟩ := own_shape hown6
 subst hv6
 have HAH : Hid (Ar w6 rb 42 #[.int .i64 0, .slice none 0 0, .string ⟨#[]⟩, .slice none 0 0]) := hid' (ar_grown HAG.out hgrow6 (fun j hj => by have h1 := own_ge19 HOG.out j hj; have h2 := HLA.out; omega))
 have HOH : Hid (w6.ownsRow wA.heap.size 39 2 (.slice v6o 5 v6c) 5 (fC (fs ++ [⟨Fs.str Fs.nCR, td⟩]))) := hid' (by rw [fC_append]; exact hown6)
 refine hK.out _ _ hbH (fun hG5 => ?_)
 clear hK K hown6 hgrow6
 try simp only [Act.put, List.setIfInBounds_toArray, List.set_cons_zero, List.set_cons_succ]
 refine take_d19 (i := 15) (d := some 30) (v := ?_) rfl rfl (by kernel_rfl) (by kernel_rfl) (by kernel_rfl) (fun _ _ _ h => h) (Or.inl ⟨by rfl, ?_⟩) (by assumption) ?_
 rotate_left
 ·intro w hSw
  (try dsimp only at hSw)
  go_simp
  try with_reducible rfl
 try simp only [Act.put, List.setIfInBounds_toArray, List.set_cons_zero, List.set_cons_succ]
 refine wpAnyH_ready (rs := [16]) (by kernel_rfl) (by simp) ?_
 refine AllReadyH.cons rfl (fun K hK => ?_) AllReadyH.nil
 refine step_store19 rfl 42 _ _ rfl rb #[.int .i64 206, .slice v6o 5 v6c, .string (y.extract A D), .slice none 0 0] rfl rfl 42 _ (HAH.out) sizeRp19 rfl (by simp [Value.oneCell']) ?_
 intro wf hawf huwf
 refine hK.out _ _ (hG5.trans (huwf.below HRB.out)) (fun _ => ?_)
 clear hK K
 try simp only [Act.put]
 refine wpAnyH_done (by kernel_rfl) ?_ _
 have HWF := hid' hawf
 have HUF := hid' huwf
 have HBF := hid' ((below_two HB2.out hG5).trans (huwf.below (Nat.le_trans HB2.out.size HRB.out)))
 have HL5 : Hid ((fs ++ ([⟨Fs.str Fs.nCR, td⟩] : List Fd)).length = 5) := hid' (by rw [List.length_append, HL.out]; rfl)
 clear hawf huwf hbE hbF hbG hG hG2 hG3 hG4 hG5 hbH
 go_wp2_with fail
 have hld := ldRp19 HWF.out
 exact bodyPost_ret (v := .agg #[.int .i64 206, .slice v6o 5 v6c, .string (y.extract A D), .slice none 0 0]) (by simp [results, Tryz.results159, asAddr, hld]) rfl ⟨⟨v6o, 5, v6c, rfl, HL5.out, own_upd19 HOH.out HUF.out HLA.out HWA.out⟩, HBF.out⟩

end Go.Proofs.YtcfbobegbmcbeaaGreatDoor
