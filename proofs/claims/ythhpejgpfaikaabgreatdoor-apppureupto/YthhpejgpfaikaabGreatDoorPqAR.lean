/-
  What the row stands on.
-/
import Derived.RegionTactic
import Derived.Deep.RegionHeld3
import Derived.ChangeAlike
import Derived.Test.YthhpejgpfaikaabGreatDoorPqAE
import Derived.Test.YthhpejgpfaikaabGreatDoorPqAN
import Derived.Test.YthhpejgpfaikaabGreatDoorPqAQ
import Derived.Test.YthhpejgpfaikaabGreatDoorPqAC
import Derived.Test.YthhpejgpfaikaabGreatDoorPqAD
import Derived.Test.YthhpejgpfaikaabGreatDoorPqAO
import Derived.Test.YthhpejgpfaikaabGreatDoorPqAP
import Derived.Sort.Walk0
import Derived.Test.YthhpejgpfaikaabGreatDoorPqAM
import Derived.Test.YthhpejgpfaikaabGreatDoorPqAB
import Derived.Deep.CutRange
import Derived.Laws.Cover1
import Derived.Laws.OwnMore
import Derived.Great.BuildSlice
import Derived.Deep.QuietTactic
import Derived.BigQuiet
import Derived.Maps.AppendAt
import Derived.Test.YthhpejgpfaikaabGreatDoorPqAA
namespace Go.Proofs.YthhpejgpfaikaabGreatDoor
set_option maxHeartbeats 64000000
open Go.RowKit

section
variable {P : Program} {md : Region.Mode} {Q : Exit → Act → World → Prop} {S : World → Prop}
theorem take_d19 {ops : Array Oper} {i : Nat} {oi : Oper} {d : Option Tmp} {v : Value} {fuel : Nat} {listed : Array Bool} {a : Act} {w : World} (hi : ops[i]? = some oi) (hd : oi.dst = d)
  (hs : Region.noSelect ops = true) (hf : Region.free md ops listed i = true) (hr : (Region.ready md ops listed).contains i = true)
  (hQ : ∀ c a w, Q (.panic c) (a.put d v) w → Q (.panic c) a w) (hy : YieldsIf P ops S oi v a) (hS : S w)
  (h : wpAnyH P md ops Q S fuel (listed.setIfInBounds i true) (a.put d v) w) : wpAnyH P md ops Q S (fuel + 1) listed a w := by
 subst hd;exact wpAnyH_take hi hs hf hr hQ hy hS h
theorem step_lit19 {w : World} {ops : Array Oper} {o : Oper} {a : Act} {K : Act → World → Prop} {E : Prop} (hgd : o.guard = none) (d : Option Tmp) (hd : o.dst = d) (e : TypeId) (n : Nat) (cs : Array Value)
  (hrun : (execOp a.eval o).run P w = .ok (.value (.slice (some ⟨w.heap.size, 0, none⟩) n n)) (w.alloc (.cells cs e)))
  (h : K (a.put d (.slice (some ⟨w.heap.size, 0, none⟩) n n)) (w.alloc (.cells cs e))) :
  if Region.wanted o (yielded ops a.tmps) = true then Oper.wp P o a w K Q else E := by
 have hw : Region.wanted o (yielded ops a.tmps) = true := by simp [Region.wanted, hgd]
 rw [if_pos hw];unfold Oper.wp;rw [hrun];subst hd;exact h
theorem step_app19 {w : World} {ops : Array Oper} {o : Oper} {a : Act} {K : Act → World → Prop} {E : Prop} (hgd : o.guard = none) (d : Option Tmp) (hd : o.dst = d) (s x : Operand) (t : TypeId)
  (ho : o.op = .call { callee := .builtin .append, args := #[s, x], argTypes := #[t, t] })
  (base : Nat) (e : TypeId) (i : TypeInfo) (z : Value) (size bytes : Nat) (ht : P.underlying t = some (.slice e)) (hi : P.info? e = some i) (hz : i.zero = some z)
  (hsize : i.size = size) (hby : i.bytes = bytes) (hzs : z.cells.size = size) (hsz : 0 < size)
  (v : Value) (n : Nat) (xs : List Value) (hs : a.eval s = v) (hown : w.ownsRow base e size v n xs)
  (ad : Addr) (m c : Nat) (news : List Value) (hx : a.eval x = .slice (some ad) m c) (hl : news.length = m * size) (hnews : ∀ j u, news[j]? = some u → w.cell? (ad.add j) = some u) (h1 : ∀ u ∈ news, u.oneCell' = true)
  (h63 : n + m ≤ maxLen) (hbytes : (n + m) * bytes ≤ 140737488355328) (hbase : base ≤ w.heap.size)
  (h : ∀ v' w', w'.ownsRow base e size v' (n + m) (xs ++ news) → w.grownBy w' v.ownBlock → K (a.put d v') w') :
  if Region.wanted o (yielded ops a.tmps) = true then Oper.wp P o a w K Q else E := by
 subst hd;have hw : Region.wanted o (yielded ops a.tmps) = true := by simp [Region.wanted, hgd]
 rw [if_pos hw];obtain ⟨v', w', hr, h2, h3, _, _⟩ := run_append_own_at (P := P) w base t o.type e i z size bytes ht hi hz hsize hby hzs hsz v n xs hown ad m c news hl hnews h1 h63 hbytes hbase;unfold Oper.wp execOp;simp only [ho, resolve, invoke, builtin, Sem.run_bind, Sem.run_pure, Result.andThen_ok, List.map_toArray, List.map_cons, List.map_nil, hs, hx, hr];exact h v' w' h2 h3
theorem step_store19 {w : World} {ops : Array Oper} {o : Oper} {a : Act} {K : Act → World → Prop} {E : Prop} (hgd : o.guard = none) (ty : TypeId) (x y : Operand)
  (ho : o.op = .store ty x y) (b : Nat) (c : Array Value) (hx : a.eval x = .pointer (some ⟨b, 0, none⟩)) (hy : a.eval y = .agg c)
  (t : TypeId) (old : Array Value) (hg : Ar w b t old) (hi : (P.info? ty).map (·.size) = some c.size) (hold : old.size = c.size) (h1 : c.all (·.oneCell') = true)
  (h : ∀ w', Ar w' b t c → Upd b w w' → K (a.put o.dst undef) w') : if Region.wanted o (yielded ops a.tmps) = true then Oper.wp P o a w K Q else E := by
 have hw : Region.wanted o (yielded ops a.tmps) = true := by simp [Region.wanted, hgd]
 rw [if_pos hw];exact wp_store_row ty x y ho b c hx hy t old hg hi hold h1 (h _ (setRow_heap w b old c t (0, 0) hg) (upd_setRow w b c))
end
theorem fmt19 {t : Int} {l : Fs.T8} (hl : Dt.Dated t l) : Fs.fmt t = l := by
 unfold Fs.fmt;exact Dt.fmtC_of hl

set_option maxRecDepth 20000 in
theorem cstamps19 (p y : ByteArray) (t q : Int) (he : EN19 ⟨p, y, t, q⟩) (w : World) (hT : TB19 w) :
  Calls Tryz.prog 116 #[.agg #[.string y, .int .i64 t, .int .i64 q]] w fun e w' => (∃ vo vc, e = .returned (.slice vo 2 vc) ∧ w'.ownsRow w.heap.size 44 2 (.slice vo 2 vc) 2 (fC [Fs.fd Fs.nET (Tg.mk q y.size), Fs.fd Fs.nLM (Fs.fmt t)])) ∧ Below w.heap.size w w' := by
 obtain ⟨hy, t0, t1, q0, q1⟩ := he;simp only at hy t0 t1 q0 q1;obtain ⟨l, hl⟩ := Dt.dated_ex t t0 t1;rw [fmt19 hl];have HF := hid' (fun W (h : TB19 W) => format_any t l hl W h.1);have HM : Hid (∀ W, TB19 W → Calls Tryz.prog 152 #[.agg #[.string y, .int .i64 t, .int .i64 q]] W fun e w' => e = .returned (.string ⟨(Tg.mk q y.size).toArray⟩) ∧ Below W.heap.size W w') := hid' (fun W h => cmake15 y t q W (by omega) (by omega) q1 h.1);have HT := hid' hT;generalize Tg.mk q y.size = m at *;clear hy t0 t1 q0 q1 hl hT;go_enter Tryz.func116, Tryz.ntmps116;go_wp2_with (refine wpl_box 66 _ rfl rfl #[.string y, .int .i64 t, .int .i64 q] (by kernel_rfl) ?_);intro xb w1 hg1 ha1 hb1;have HX1 := hid' ha1;have HB1 := hid' hb1;have x1 := HX1.out.cell 1 _ rfl;clear hg1 ha1 hb1;go_wp2_with fail;refine (HF.out w1 (tb_below19 HT.out HB1.out)).mono ?_;rintro e w2 ⟨rfl, hb2⟩;have HX2 := hid' (HX1.out.keep hb2);have HB2 := hid' (below_two HB1.out hb2);have x0 := HX2.out.cell 0 _ rfl;have x2 := HX2.out.cell 2 _ rfl;have x1' := HX2.out.cell 1 _ rfl;clear hb2 HX1 HB1 x1;go_wp2_with fail;refine (HM.out w2 (tb_below19 HT.out HB2.out)).mono ?_;rintro e w3 ⟨rfl, hb3⟩;have HB3 := hid' (below_two HB2.out hb3);clear hb3 HB2 HX2 x0 x1' x2;have HL : Hid ((w3.alloc (.cells (fC [Fs.fd Fs.nET m, Fs.fd Fs.nLM l]).toArray 44)).ownsRow w.heap.size 44 2 (.slice (some ⟨w3.heap.size, 0, none⟩) 2 2) 2 (fC [Fs.fd Fs.nET m, Fs.fd Fs.nLM l])) := hid' (own_lit19 w3 _ _ 2 2 rfl (by decide) _ HB3.out.size);have HB4 := hid' (below_two HB3.out (bl_alloc19 w3 (.cells (fC [Fs.fd Fs.nET m, Fs.fd Fs.nLM l]).toArray 44)));go_wp2;go_ret;exact ⟨⟨_, _, rfl, HL.out⟩, HB4.out⟩

set_option maxRecDepth 20000 in
theorem cheads19 (p y : ByteArray) (t q : Int) (he : EN19 ⟨p, y, t, q⟩) (kd : ByteArray) (w : World) (hT : TB19 w) :
  Calls Tryz.prog 159 #[.agg #[.string p, .string y, .int .i64 t, .int .i64 q], .string kd] w fun e w' => (∃ vo vc, e = .returned (.slice vo 4 vc) ∧ w'.ownsRow w.heap.size 44 2 (.slice vo 4 vc) 4 (fC (Fs.head kd.data.toList ⟨p, y, t, q⟩))) ∧ Below w.heap.size w w' := by
 have HS := hid' (fun W (h : TB19 W) => cstamps19 p y t q he W h);have HT := hid' hT;have hkd : Fs.fd Fs.nCT kd.data.toList = ⟨Fs.str Fs.nCT, kd⟩ := rfl;unfold Fs.head;rw [hkd];simp only;generalize Tg.mk q y.size = m at *;generalize Fs.fmt t = l at *;clear hT he hkd;go_enter Tryz.func159, Tryz.ntmps159;go_wp2_with (refine wpl_box 68 _ rfl rfl #[.string p, .string y, .int .i64 t, .int .i64 q] (by kernel_rfl) ?_);intro xb w1 hg1 ha1 hb1;have HX1 := hid' ha1;have HB1 := hid' hb1;have HO0 : Hid ((w1.alloc (.cells (fC [⟨Fs.str Fs.nCT, kd⟩]).toArray 44)).ownsRow w1.heap.size 44 2 (.slice (some ⟨w1.heap.size, 0, none⟩) 1 1) 1 (fC [⟨Fs.str Fs.nCT, kd⟩])) := hid' (own_lit19 w1 _ _ 1 2 rfl (by decide) _ (Nat.le_refl _));have HB2 := hid' (bl_alloc19 w1 (.cells (fC [⟨Fs.str Fs.nCT, kd⟩]).toArray 44));have HX2 := hid' (HX1.out.keep HB2.out);have HLB : Hid (w.heap.size ≤ w1.heap.size) := hid' HB1.out.size;clear hg1 ha1 hb1;go_upto_region 2 with fail;obtain ⟨w2, hw2⟩ : ∃ w2, w1.alloc (.cells (fC [⟨Fs.str Fs.nCT, kd⟩]).toArray 44) = w2 := ⟨_, rfl⟩;obtain ⟨fb, hfb⟩ : ∃ fb, w1.heap.size = fb := ⟨_, rfl⟩;rw [hw2, hfb] at HO0;rw [hw2] at HB2 HX2;rw [show w1.alloc (.cells #[.string ⟨#[99, 111, 110, 116, 101, 110, 116, 45, 116, 121, 112, 101]⟩, .string kd] 44) = w2 from hw2, hfb];have HFB : Hid (w1.heap.size = fb) := hid' hfb;clear hw2 hfb;have x1 := HX2.out.cell 1 _ rfl;have x2 := HX2.out.cell 2 _ rfl;have x3 := HX2.out.cell 3 _ rfl;go_wp2_with fail;refine (HS.out w2 (tb_below19 (tb_below19 HT.out HB1.out) HB2.out)).mono ?_;rintro e w3 ⟨⟨so, sc, rfl, hfs⟩, hb3⟩;have HF3 := hid' (fw_own19 hfs rfl);have HO3 := hid' (own_same HO0.out (fun j hj => hb3.block j (own_lt HO0.out j hj)));have HB3 := hid' (below_two HB2.out hb3);have HBF : Hid (fb ≤ w3.heap.size) := hid' (by have := HB3.out.size; rw [← HFB.out]; exact this);clear hfs hb3 HO0 HB2 HX2 x1 x2 x3;go_wp2_with (at_builtin; refine wpl_appL19 rfl _ _ rfl fb (.slice (some ⟨fb, 0, none⟩) 1 1) 1 (fC [⟨Fs.str Fs.nCT, kd⟩]) rfl HO3.out _ [Fs.fd Fs.nET m, Fs.fd Fs.nLM l] rfl HF3.out (by simp) HBF.out ?_; intro v4 w4 hown4 hgrow4; refine Hid.out ?_);refine hid' ?_;have HB4 : Hid (Below w1.heap.size w1 w4) := hid' (below_grown19 HB3.out HB3.out.size (by rw [HFB.out]; exact HO3.out) hgrow4);rw [← fC_append] at hown4;obtain ⟨v4o, v4c, hv4⟩ := own_shape hown4;subst hv4;have HO4 : Hid (w4.ownsRow fb 44 2 (.slice v4o 3 v4c) 3 (fC [⟨Fs.str Fs.nCT, kd⟩, Fs.fd Fs.nET m, Fs.fd Fs.nLM l])) := hid' hown4;have HL : Hid (FW (w4.alloc (.cells (fC [Fs.fd Fs.nAR Fs.vBY]).toArray 44)) (.slice (some ⟨w4.heap.size, 0, none⟩) 1 1) [Fs.fd Fs.nAR Fs.vBY]) := hid' (fw_lit19 w4 _ 1 rfl (by decide));have HB5 := hid' (bl_alloc19 w4 (.cells (fC [Fs.fd Fs.nAR Fs.vBY]).toArray 44));have HO5 := hid' (own_same HO4.out (fun j hj => HB5.out.block j (own_lt HO4.out j hj)));have HBF5 : Hid (fb ≤ (w4.alloc (.cells (fC [Fs.fd Fs.nAR Fs.vBY]).toArray 44)).heap.size) := hid' (by have h1 := HB4.out.size; have h2 := HB5.out.size; have h3 := HFB.out; omega);clear hown4 hgrow4;go_wp2_with (at_builtin; refine wpl_appL19 rfl _ _ rfl fb (.slice v4o 3 v4c) 3 (fC [⟨Fs.str Fs.nCT, kd⟩, Fs.fd Fs.nET m, Fs.fd Fs.nLM l]) rfl HO5.out _ [Fs.fd Fs.nAR Fs.vBY] rfl HL.out (by simp) HBF5.out ?_; intro v6 w6 hown6 hgrow6; refine Hid.out ?_);refine hid' ?_;have HB6 : Hid (Below w1.heap.size w1 w6) := hid' (below_grown19 (below_two HB4.out HB5.out) (below_two HB4.out HB5.out).size (by rw [HFB.out]; exact HO5.out) hgrow6);rw [← fC_append] at hown6;obtain ⟨v6o, v6c, hv6⟩ := own_shape hown6;subst hv6;have HO6 : Hid (w6.ownsRow fb 44 2 (.slice v6o 4 v6c) 4 (fC [⟨Fs.str Fs.nCT, kd⟩, Fs.fd Fs.nET m, Fs.fd Fs.nLM l, Fs.fd Fs.nAR Fs.vBY])) := hid' hown6;clear hown6 hgrow6;go_wp2;go_ret;exact ⟨⟨_, _, rfl, own_base19 HO6.out (by rw [← HFB.out]; exact HLB.out)⟩, below_two HB1.out HB6.out⟩


theorem put_en19 {es es' : List Dk.En} {q q' t c : Int} {x y : ByteArray} (h : PutOf13 es q x y t c es' q') (hok : Dk.Ok es) (he : ∀ e ∈ es, EN19 e) (q0 : 0 ≤ q) (q1 : q ≤ 9223372036854775806) : (∀ e ∈ es', EN19 e) ∧ 0 ≤ q' ∧ q' ≤ q + 1 := by
 rcases h with ⟨_, _, rfl, rfl⟩ | ⟨_, _, rfl, rfl⟩ | ⟨_, _, rfl, rfl⟩ | ⟨_, _, rfl, rfl⟩ | ⟨_, ⟨_, h1, h2, _⟩, rfl, rfl⟩
 ·exact ⟨he, q0, by omega⟩
 ·exact ⟨he, q0, by omega⟩
 ·exact ⟨he, q0, by omega⟩
 ·exact ⟨he, q0, by omega⟩
 ·refine ⟨fun e hm => ?_, by omega, by omega⟩;rcases (Dk.mem_put hok _ e).1 hm with rfl | ⟨hm, _⟩
  ·exact ⟨h1, h2.1, h2.2, by simp only; omega, by simp only; omega⟩
  ·exact he e hm
theorem cd_low19 {w : World} {B B' b : Nat} {K : Nat → Prop} {q : Int} {es : List Dk.En} (h : CD w B b K q es) (hB : B' ≤ B) : CD w B' b K q es := by
 obtain ⟨m, E, clock, h, hk⟩ := h;exact ⟨m, E, clock, ⟨Nat.le_trans hB h.lo, Nat.le_trans hB h.lm, h.hd, h.mp, h.ok, h.le⟩, hk⟩
theorem CX.ty19 {T : TypeId} {w : World} {B b m : Nat} {q : Int} {es : List Dk.En} {E : Array MapEntry} {clock : Nat} (h : CX T w B b m q es E clock) : ∀ k T' cs, (k = b ∨ k = m) → w.heap[k]? = some (.cells cs T' (0, 0)) → T' = T := by
 rintro k T' cs (rfl | rfl) hk
 ·have := h.hd;unfold Ar at this;rw [hk] at this;injection this with this;injection this
 ·have := h.mp.hd;rw [hk] at this;cases this
theorem cd_apart19 {w : World} {B B' b bx : Nat} {K : Nat → Prop} {q q' : Int} {r : Value} {es es' : List Dk.En} (hc : CD w B b K q es) (hr : RD w B' bx r q' es') : ∀ k, K k → ¬ DS13 bx r k := by
 rintro k hk (rfl | e)
 ·obtain ⟨m, E, clock, h, hK⟩ := hc;exact absurd (h.ty19 k _ _ ((hK k).1 hk) hr.obj) (by decide)
 ·obtain ⟨_, cs, h1⟩ := own_ty hr.row k e;obtain ⟨m, E, clock, h, hK⟩ := hc;exact absurd (h.ty19 k _ _ ((hK k).1 hk) h1) (by decide)
structure PD19 (w : World) (B b bx : Nat) (K : Nat → Prop) (r : Value) (q : Int) (es : List Dk.En) : Prop where
 cd : CD w B b K q es
 rd : RD w B bx r q es
theorem PD19.keep {w w' : World} {B b bx : Nat} {K : Nat → Prop} {r : Value} {q : Int} {es : List Dk.En} (h : PD19 w B b bx K r q es) (hb : Below w.heap.size w w') : PD19 w' B b bx K r q es := ⟨h.cd.keep hb, h.rd.keep hb⟩
theorem PD19.rdOf {w w' : World} {B b bx : Nat} {K : Nat → Prop} {r : Value} {q : Int} {es : List Dk.En} (h : PD19 w B b bx K r q es) (hf : LF K w w') : RD w' B bx r q es := h.rd.other hf (fun k hk hK => cd_apart19 h.cd h.rd k hK hk)
theorem PD19.made {w wA wD : World} {B b bx : Nat} {K K' : Nat → Prop} {r r' : Value} {q q' : Int} {es es' : List Dk.En} (h : PD19 w B b bx K r q es) (hfa : LF K w wA) (hc : CD wA B b K' q' es') (hfd : LF (DS13 bx r) wA wD) (hr : RD wD B bx r' q' es') : PD19 wD B b bx K' r' q' es' :=
 ⟨hc.other hfd (fun k hk hds => cd_apart19 hc (h.rdOf hfa) k hk hds), hr⟩
theorem PD19.bl {w0 w wA wD : World} {B b bx : Nat} {K : Nat → Prop} {r : Value} {q : Int} {es : List Dk.En} (h : PD19 w B b bx K r q es) (hb : Below B w0 w) (hfa : LF K w wA) (hfd : LF (DS13 bx r) wA wD) : Below B w0 wD :=
 (h.cd.bl hb hfa).trans (hfd.below (h.rdOf hfa).lb (fun k hk => ((h.rdOf hfa).rs k hk).1))
theorem sizeDk19 : (Tryz.prog.info? 34).map (·.size) = some 2 := by kernel_rfl
theorem ldDk19 {w : World} {b : Nat} {x0 x1 : Value} (h : Ar w b 34 #[x0, x1]) : (loadVar 34 ⟨b, 0, none⟩).run Tryz.prog w = .ok (.agg #[x0, x1]) w :=
 run_loadVar_row (P := Tryz.prog) w b 34 34 _ (0, 0) _ h Tryz.underlying34 rfl sizeDk19
def BP19 (w w' : World) (e : Ending) : Prop :=
 ∃ (d : Nat) (K : Nat → Prop) (q : Int) (es : List Dk.En) (ro : Option Addr) (rn rc : Nat), e = .returned (.tuple #[.pointer (some ⟨d, 0, none⟩), .agg #[.slice ro rn rc, .int .i64 q]]) ∧ CD w' w.heap.size d K q es ∧ (∀ e ∈ es, EN19 e) ∧ 0 ≤ q ∧ q ≤ 1048576
theorem bp19 {w w' : World} {d : Nat} {K : Nat → Prop} {q : Int} {es : List Dk.En} {ro : Option Addr} {rn rc : Nat} (h : CD w' w.heap.size d K q es) (he : ∀ e ∈ es, EN19 e) (q0 : 0 ≤ q) (q1 : q ≤ 1048576) : BP19 w w' (.returned (.tuple #[.pointer (some ⟨d, 0, none⟩), .agg #[.slice ro rn rc, .int .i64 q]])) := ⟨d, K, q, es, ro, rn, rc, rfl, h, he, q0, q1⟩
def E319 (W : World) (p : Addr) (e : Dk.En) : Prop := W.cell? p = some (.string e.path) ∧ W.cell? ⟨p.block, p.off + 1, none⟩ = some (.string e.body) ∧ W.cell? ⟨p.block, p.off + 2, none⟩ = some (.int .i64 e.time)
theorem EW19.at2 {w w' : World} {ao : Option Addr} {n cap : Nat} {l : List Dk.En} (h : EW19 w (.slice ao n cap) l) (hb : Below w.heap.size w w') (i : Nat) (e : Dk.En) (he : l[i]? = some e) : ∃ a, ao = some a ∧ (a.add (i * 4)).block < w.heap.size ∧ E319 w' (a.add (i * 4)) e := by
 have h0 := h;rcases h with ⟨_, rfl⟩ | ⟨a, cap', hv, hcs⟩
 ·simp at he
 ·injection hv with h1 _ _;obtain ⟨hl, _⟩ := hcs i e he;obtain ⟨a2, h2, c0, c1, c2, _⟩ := h0.at hb i e he;obtain rfl : a = a2 := Option.some.inj (h1.symm.trans h2);exact ⟨a, h1, hl, c0, c1, c2⟩
theorem e3_keep19 {S : Nat → Prop} {W W' : World} {p : Addr} {e : Dk.En} (h : E319 W p e) (hf : LF S W W') (hs : ¬ S p.block) (hl : p.block < W.heap.size) : E319 W' p e :=
 ⟨(World.cell?_of_block (hf.block _ hl hs)).trans h.1, (World.cell?_of_block (a := ⟨p.block, p.off + 1, none⟩) (hf.block _ hl hs)).trans h.2.1, (World.cell?_of_block (a := ⟨p.block, p.off + 2, none⟩) (hf.block _ hl hs)).trans h.2.2⟩

namespace Rt
abbrev T8 := List UInt8
structure Prt where
 k : Nat
 t : T8
def isLow (c : UInt8) : Bool := decide (97 ≤ c.toNat) && decide (c.toNat ≤ 122)
def isDg (c : UInt8) : Bool := decide (48 ≤ c.toNat) && decide (c.toNat ≤ 57)
def nameB : T8 → Bool
 | [] => false
 | c :: r => isLow c && r.all (fun d => isLow d || isDg d)
def vis (c : UInt8) : Bool := !decide (c.toNat < 33) && !decide (126 < c.toNat) && !(c == 123) && !(c == 125)
def prt (s : T8) : Prt × Bool :=
  if decide (2 ≤ s.length) && (s.head? == some 123 && s.getLast? == some 125) then
    (if decide (5 ≤ s.length) && s.drop (s.length - 4) == [46, 46, 46, 125] then (⟨2, (s.drop 1).take (s.length - 5)⟩, nameB ((s.drop 1).take (s.length - 5)))
     else (⟨1, (s.drop 1).take (s.length - 2)⟩, nameB ((s.drop 1).take (s.length - 2))))
  else if s.all vis then (⟨0, s⟩, !s.isEmpty) else (⟨0, []⟩, false)
def dup (out : List Prt) (p : Prt) : Bool := out.any fun q => !(q.k == 0) && (!(p.k == 0) && q.t == p.t)
def pats : List Prt → List T8 → Option (List Prt)
 | out, [] => some out
 | out, x :: r => if !(prt x).2 || ((prt x).1.k == 2 && !r.isEmpty) then none else if dup out (prt x).1 then none else pats (out ++ [(prt x).1]) r
def pattern (s : T8) : Option (List Prt) := if s == [47] then some [] else if s.head? == some 47 then pats [] (Pt.cutS [] (s.drop 1)) else none
def alike (a b : Prt) : Bool := a.k == b.k && (!(a.k == 0) || a.t == b.t)
def shape : List Prt → List Prt → Bool
 | [], [] => true
 | a :: x, b :: y => alike a b && shape x y
 | _, _ => false
def fit1 (p : Prt) (l : T8) : Bool := !(p.k == 0) || p.t == l
def fits : List Prt → List T8 → Bool
 | [], [] => true
 | [], _ :: _ => false
 | p :: x, l => if p.k == 2 then x.isEmpty else match l with | [] => false | a :: y => fit1 p a && fits x y
def kinds (p : List Prt) : List Nat := p.map (·.k)
def lex : List Nat → List Nat → Bool
 | _, [] => false
 | [], _ :: _ => true
 | a :: x, b :: y => if a == b then lex x y else decide (a < b)
def finer (a b : List Prt) : Bool := lex (kinds a) (kinds b)
def caught : List Prt → List T8 → Bool → List (T8 × T8)
 | [], _, _ => []
 | p :: x, l, e => if p.k == 1 then (p.t, l.headD []) :: caught x l.tail e else if p.k == 2 then (p.t, Pt.join l ++ (if !l.isEmpty && e then [47] else [])) :: caught x l.tail e else caught x l.tail e
def lay : List T8 → T8 → List T8
 | [], s => [s]
 | a :: r, s => if a < s then a :: lay r s else if a == s then a :: r else s :: a :: r
structure Ro where
 m : T8
 p : T8
 h : Int
def pat (r : Ro) : List Prt := (pattern r.p).getD []
def sGET : T8 := [71, 69, 84]
def sHEAD : T8 := [72, 69, 65, 68]
def sOPT : T8 := [79, 80, 84, 73, 79, 78, 83]
def meth (l : List T8) (of : List Prt) (r : Ro) : List T8 := if shape (pat r) of then (if r.m == sGET then lay (lay l r.m) sHEAD else lay l r.m) else l
def meths (rs : List Ro) (of : List Prt) : List T8 := rs.foldl (fun l r => meth l of r) [sOPT]
def comma (s x : T8) : T8 := if s.isEmpty then s ++ x else s ++ [44, 32] ++ x
def allow (rs : List Ro) (of : List Prt) : T8 := (meths rs of).foldl comma []
def byM (rs : List Ro) (of : List Prt) (m : T8) : Option Nat := rs.findIdx? fun r => shape (pat r) of && r.m == m
def wins (b : Option (List Prt)) (p : List Prt) : Bool := match b with | none => true | some q => finer p q
def better (l : List T8) (b : Option (List Prt)) (r : Ro) : Option (List Prt) := if fits (pat r) l && wins b (pat r) then some (pat r) else b
def best (rs : List Ro) (l : List T8) : Option (List Prt) := rs.foldl (better l) none
structure Mt where
 st : Int
 ro : Int
 ps : List (T8 × T8)
 al : T8
def sel (rs : List Ro) (of : List Prt) (m : T8) : Option Nat := (byM rs of m).or ((if m == sHEAD then byM rs of sGET else none).or (byM rs of []))
def ends (path : T8) : Bool := path.getLast? == some 47
def find (rs : List Ro) (m path : T8) : Mt :=
 match best rs (Pt.parts path) with
 | none => ⟨404, -1, [], []⟩
 | some q => match sel rs q m with
  | some k => ⟨200, k, caught ((rs[k]?.map pat).getD []) (Pt.parts path) (ends path), []⟩
  | none => ⟨if m == sOPT then 200 else 405, -1, [], allow rs q⟩
def badRo (r : Ro) : Bool := (pattern r.p).isNone || ((!r.m.isEmpty && !Tx.isTok r.m) || (decide (r.h < 1) || decide (4 < r.h)))
def twice (ps : List Ro) (r : Ro) : Bool := ps.any fun q => q.m == r.m && shape (pat r) (pat q)
def chk : List Ro → List Ro → Int
 | _, [] => 0
 | ps, r :: rs => if badRo r then 180 else if twice ps r then 181 else chk (ps ++ [r]) rs
def check (rs : List Ro) : Int := if 256 < rs.length then 4 else chk [] rs

theorem fits_cons (p : Prt) (x : List Prt) (l : List T8) : fits (p :: x) l = if p.k == 2 then x.isEmpty else (match l with | [] => false | a :: y => fit1 p a && fits x y) := by
 cases l <;> rfl
theorem better_yes {l : List T8} {b : Option (List Prt)} {r : Ro} (h : (fits (pat r) l && wins b (pat r)) = true) : better l b r = some (pat r) := by unfold better; rw [h]; rfl
theorem better_no {l : List T8} {b : Option (List Prt)} {r : Ro} (h : (fits (pat r) l && wins b (pat r)) = false) : better l b r = b := by unfold better; rw [h]; rfl
theorem alike_refl (a : Prt) : alike a a = true := by unfold alike; simp
theorem alike_symm {a b : Prt} (h : alike a b = true) : alike b a = true := by
 unfold alike at *;simp only [Bool.and_eq_true, Bool.or_eq_true, beq_iff_eq, Bool.not_eq_true', beq_eq_false_iff_ne] at *;obtain ⟨h1, h2⟩ := h;exact ⟨h1.symm, h2.imp (fun h => by rw [← h1]; exact h) (fun h => h.symm)⟩
theorem alike_trans {a b c : Prt} (h : alike a b = true) (h' : alike b c = true) : alike a c = true := by
 unfold alike at *;simp only [Bool.and_eq_true, Bool.or_eq_true, beq_iff_eq, Bool.not_eq_true', beq_eq_false_iff_ne] at *;obtain ⟨h1, h2⟩ := h;obtain ⟨h3, h4⟩ := h';refine ⟨h1.trans h3, ?_⟩;rcases h2 with h2 | h2
 ·exact .inl h2
 ·rcases h4 with h4 | h4
  ·exact .inl (by rw [h1]; exact h4)
  ·exact .inr (h2.trans h4)
theorem shape_refl : ∀ (a : List Prt), shape a a = true := by
 intro a
 induction a with
 | nil => rfl
 | cons p x ih => rw [shape, alike_refl, ih]; rfl
theorem shape_symm : ∀ {a b : List Prt}, shape a b = true → shape b a = true := by
 intro a
 induction a with
 | nil => intro b h; cases b with | nil => rfl | cons q y => cases h
 | cons p x ih =>
  intro b h;cases b with
  | nil => cases h
  | cons q y =>
   rw [shape, Bool.and_eq_true] at h ⊢;exact ⟨alike_symm h.1, ih h.2⟩
theorem shape_trans : ∀ {a b c : List Prt}, shape a b = true → shape b c = true → shape a c = true := by
 intro a
 induction a with
 | nil =>
  intro b c h h';cases b with
  | nil => exact h'
  | cons q y => cases h
 | cons p x ih =>
  intro b c h h';cases b with
  | nil => cases h
  | cons q y =>
   cases c with
   | nil => cases h'
   | cons r z =>
    rw [shape, Bool.and_eq_true] at h h' ⊢;exact ⟨alike_trans h.1 h'.1, ih h.2 h'.2⟩
theorem shape_kinds : ∀ {a b : List Prt}, shape a b = true → kinds a = kinds b := by
 intro a
 induction a with
 | nil => intro b h; cases b with | nil => rfl | cons q y => cases h
 | cons p x ih =>
  intro b h;cases b with
  | nil => cases h
  | cons q y =>
   rw [shape, Bool.and_eq_true] at h;have h1 := h.1;unfold alike at h1;simp only [Bool.and_eq_true, beq_iff_eq] at h1;unfold kinds at *;rw [List.map_cons, List.map_cons, h1.1, ih h.2]
theorem shape_fits : ∀ {a b : List Prt} {l : List T8}, shape a b = true → fits a l = fits b l := by
 intro a
 induction a with
 | nil => intro b l h; cases b with | nil => rfl | cons q y => cases h
 | cons p x ih =>
  intro b l h;cases b with
  | nil => cases h
  | cons q y =>
   rw [shape, Bool.and_eq_true] at h;have h1 := h.1;unfold alike at h1;simp only [Bool.and_eq_true, Bool.or_eq_true, beq_iff_eq, Bool.not_eq_true', beq_eq_false_iff_ne] at h1;have hxy : x.isEmpty = y.isEmpty := by
    cases x with
    | nil => cases y with | nil => rfl | cons c d => cases h.2
    | cons c d => cases y with | nil => cases h.2 | cons e f => rfl
   rw [fits_cons, fits_cons, h1.1, hxy];split
   ·rfl
   ·cases l with
    | nil => rfl
    | cons c d =>
     simp only;rw [ih h.2];congr 1;unfold fit1;rw [h1.1];rcases h1.2 with h2 | h2
     ·rw [h1.1] at h2;rw [beq_false_of_ne h2]; rfl
     ·rw [h2]
theorem kinds_shape : ∀ {a b : List Prt} {l : List T8}, fits a l = true → fits b l = true → kinds a = kinds b → shape a b = true := by
 intro a
 induction a with
 | nil => intro b l _ _ h; cases b with | nil => rfl | cons q y => simp [kinds] at h
 | cons p x ih =>
  intro b l ha hb h;cases b with
  | nil => simp [kinds] at h
  | cons q y =>
   have hk : p.k = q.k ∧ kinds x = kinds y := by simpa [kinds] using h
   rw [shape, Bool.and_eq_true];rw [fits_cons] at ha hb;rw [← hk.1] at hb;cases h2 : (p.k == 2)
   ·rw [h2] at ha hb;simp only [Bool.false_eq_true, if_false] at ha hb;cases l with
    | nil => cases ha
    | cons c d =>
     simp only [Bool.and_eq_true] at ha hb;refine ⟨?_, ih ha.2 hb.2 hk.2⟩;have f1 := ha.1;have f2 := hb.1;unfold fit1 at f1 f2;rw [← hk.1] at f2;unfold alike;simp only [Bool.and_eq_true, Bool.or_eq_true, beq_iff_eq, Bool.not_eq_true', beq_eq_false_iff_ne] at *;refine ⟨hk.1, ?_⟩;rcases f1 with f1 | f1
     ·exact .inl f1
     ·rcases f2 with f2 | f2
      ·exact .inl f2
      ·exact .inr (f1.trans f2.symm)
   ·rw [h2] at ha hb;simp only [if_true] at ha hb;have hx : x = [] := by cases x with | nil => rfl | cons c d => cases ha
    have hy : y = [] := by cases y with | nil => rfl | cons c d => cases hb
    subst hx hy;refine ⟨?_, rfl⟩;unfold alike;have hp2 : p.k = 2 := eq_of_beq h2;rw [hk.1];rw [hk.1] at hp2;rw [hp2]; rfl
theorem lex_irrefl : ∀ (a : List Nat), lex a a = false := by
 intro a
 induction a with
 | nil => rfl
 | cons x r ih => rw [lex]; simp [ih]
theorem lex_tri : ∀ (a b : List Nat), lex a b = true ∨ a = b ∨ lex b a = true := by
 intro a
 induction a with
 | nil => intro b; cases b with | nil => exact .inr (.inl rfl) | cons y s => exact .inl rfl
 | cons x r ih =>
  intro b;cases b with
  | nil => exact .inr (.inr rfl)
  | cons y s =>
   rcases Nat.lt_trichotomy x y with h | h | h
   ·left; rw [lex, if_neg (by simp; omega)]; exact decide_eq_true h
   ·subst h;rcases ih s with h1 | h1 | h1
    ·left; rw [lex]; simpa using h1
    ·right; left; rw [h1]
    ·right; right; rw [lex]; simpa using h1
   ·right; right; rw [lex, if_neg (by simp; omega)]; exact decide_eq_true h
theorem lex_trans : ∀ {a b c : List Nat}, lex a b = true → lex b c = true → lex a c = true := by
 intro a
 induction a with
 | nil =>
  intro b c h h';cases b with
  | nil => cases h
  | cons y s => cases c with | nil => cases h' | cons z t => rfl
 | cons x r ih =>
  intro b c h h';cases b with
  | nil => cases h
  | cons y s =>
   cases c with
   | nil => cases h'
   | cons z t =>
    rw [lex] at h h' ⊢;by_cases hxy : x = y
    ·subst hxy;simp only [beq_self_eq_true, if_true] at h;by_cases hyz : x = z
     ·subst hyz;simp only [beq_self_eq_true, if_true] at h' ⊢;exact ih h h'
     ·rw [if_neg (by simpa using hyz)] at h' ⊢;exact h'
    ·rw [if_neg (by simpa using hxy)] at h;have h1 := of_decide_eq_true h;by_cases hyz : y = z
     ·subst hyz;rw [if_neg (by simpa using hxy)];exact h
     ·rw [if_neg (by simpa using hyz)] at h';have h2 := of_decide_eq_true h';rw [if_neg (by simp; omega)];exact decide_eq_true (by omega)
theorem best_none {rs : List Ro} {l : List T8} : best rs l = none ↔ ∀ r ∈ rs, fits (pat r) l = false := by
 have key : ∀ (rs : List Ro) (b : Option (List Prt)), rs.foldl (better l) b = none ↔ b = none ∧ ∀ r ∈ rs, fits (pat r) l = false := by
  intro rs
  induction rs with
  | nil => intro b; simp
  | cons r rs ih =>
   intro b;rw [List.foldl_cons, ih];constructor
   ·rintro ⟨h1, h2⟩;cases hb : (fits (pat r) l && wins b (pat r))
    ·rw [better_no hb] at h1;subst h1;refine ⟨rfl, fun q hq => ?_⟩;rcases List.mem_cons.1 hq with rfl | hq
     ·simpa [wins] using hb
     ·exact h2 q hq
    ·rw [better_yes hb] at h1; cases h1
   ·rintro ⟨rfl, h2⟩;refine ⟨?_, fun q hq => h2 q (List.mem_cons_of_mem _ hq)⟩;rw [better_no (by rw [h2 r (by simp)]; rfl)]
 have := key rs none;simpa [best] using this
theorem best_some {rs : List Ro} {l : List T8} {q : List Prt} (h : best rs l = some q) : (∃ r ∈ rs, pat r = q) ∧ fits q l = true ∧ ∀ r ∈ rs, fits (pat r) l = true → lex (kinds (pat r)) (kinds q) = false := by
 have key : ∀ (rs : List Ro) (b : Option (List Prt)) (q : List Prt), rs.foldl (better l) b = some q → (∀ c, b = some c → fits c l = true) → ((∃ r ∈ rs, pat r = q) ∨ b = some q) ∧ fits q l = true ∧ (∀ c, b = some c → lex (kinds c) (kinds q) = false) ∧ ∀ r ∈ rs, fits (pat r) l = true → lex (kinds (pat r)) (kinds q) = false := by
  intro rs
  induction rs with
  | nil =>
   intro b q h hb;simp only [List.foldl_nil] at h;subst h;exact ⟨.inr rfl, hb q rfl, fun c hc => by injection hc with hc; rw [hc]; exact lex_irrefl _, fun r hr => by simp at hr⟩
  | cons r rs ih =>
   intro b q h hb;rw [List.foldl_cons] at h;have hb' : ∀ c, better l b r = some c → fits c l = true := fun c hc => by
    cases h1 : (fits (pat r) l && wins b (pat r))
    ·rw [better_no h1] at hc;exact hb c hc
    ·rw [better_yes h1] at hc;injection hc with hc;rw [← hc];simp only [Bool.and_eq_true] at h1;exact h1.1
   obtain ⟨h1, h2, h3, h4⟩ := ih (better l b r) q h hb';have hr : fits (pat r) l = true → lex (kinds (pat r)) (kinds q) = false := fun hf => by
    cases hbb : b with
    | none =>
     exact h3 _ (better_yes (by rw [hf, hbb]; rfl))
    | some c =>
     cases hfi : finer (pat r) c
     ·have h5 := h3 c (by rw [better_no (by rw [hf, hbb]; exact hfi)]; exact hbb);unfold finer at hfi;cases hq : lex (kinds (pat r)) (kinds q)
      ·rfl
      ·exfalso;rcases lex_tri (kinds c) (kinds q) with h6 | h6 | h6
       ·rw [h6] at h5; cases h5
       ·rw [← h6, hfi] at hq; cases hq
       ·have := lex_trans hq h6;rw [hfi] at this; cases this
     ·exact h3 _ (better_yes (by rw [hf, hbb]; exact hfi))
   have hc : ∀ c, b = some c → lex (kinds c) (kinds q) = false := fun c hc => by
    cases hf : (fits (pat r) l && finer (pat r) c)
    ·exact h3 c (by rw [better_no (by rw [hc]; exact hf)]; exact hc)
    ·have hbt : better l b r = some (pat r) := better_yes (by rw [hc]; exact hf);have h5 := h3 _ hbt;simp only [Bool.and_eq_true] at hf;have h6 := hf.2;unfold finer at h6;cases hq : lex (kinds c) (kinds q)
     ·rfl
     ·have := lex_trans h6 hq;rw [h5] at this; cases this
   refine ⟨?_, h2, hc, fun x hx hf => ?_⟩
   ·rcases h1 with ⟨x, hx, h1⟩ | h1
    ·exact .inl ⟨x, List.mem_cons_of_mem _ hx, h1⟩
    ·cases hb1 : (fits (pat r) l && wins b (pat r))
     ·rw [better_no hb1] at h1; exact .inr h1
     ·rw [better_yes hb1] at h1;injection h1 with h1;exact .inl ⟨r, by simp, h1⟩
   ·rcases List.mem_cons.1 hx with rfl | hx
    ·exact hr hf
    ·exact h4 x hx hf
 obtain ⟨h1, h2, _, h4⟩ := key rs none q h (fun c hc => by cases hc);exact ⟨h1.resolve_right (by simp), h2, h4⟩
end Rt

namespace Ap
abbrev T8 := List UInt8
structure Rp where
 s : Int
 fs : List Fd
 b : T8
 ts : List Fd
structure Rq where
 m : ByteArray
 sc : ByteArray
 au : ByteArray
 p : ByteArray
 fs : List Fd
 b : ByteArray
 ts : List Fd
def of (r : Fs.Rp) : Rp := ⟨r.s, r.fs, r.b, []⟩
def nCL : T8 := [99, 111, 110, 116, 101, 110, 116, 45, 108, 101, 110, 103, 116, 104]
def fCL (b : T8) : Fd := Fs.fd nCL (Lib.itoa b.length)
def mid (a : Rp) : Rp := if a.s == 204 || a.s == 304 then ⟨a.s, a.fs, [], []⟩ else if a.ts.isEmpty then ⟨a.s, a.fs ++ [fCL a.b], a.b, []⟩ else a
def fin (head : Bool) (a : Rp) : Rp := if head then ⟨(mid a).s, (mid a).fs, [], []⟩ else mid a
def kindOf (fs : List Fd) : ByteArray := ((fs.find? (fun f => f.n.data.toList == Fs.nCT)).map (·.v)).getD (Fs.str Fs.vOC)
def echo (r : Rq) : Rp := ⟨200, [⟨Fs.str Fs.nCT, kindOf r.fs⟩], r.b.data.toList, r.ts⟩
def says (ps : List (T8 × T8)) : T8 := [104, 101, 108, 108, 111] ++ ps.flatMap (fun p => 32 :: (p.1 ++ 61 :: p.2)) ++ [10]
def hello (ps : List (T8 × T8)) : Rp := ⟨200, [Fs.fT], says ps, []⟩
def by' (x : Rt.Ro × ByteArray) (es : List Dk.En) (r : Rq) (cl : T8) (ps : List (T8 × T8)) : Rp :=
 if x.1.h == 1 then of (Fs.ans es x.2.data.toList r.m.data.toList cl ((ps.getLast?.map (·.2)).getD []) r.fs)
 else if x.1.h == 2 then echo r
 else if x.1.h == 3 then hello ps
 else of (Fs.plain 410 [])
def met (rs : List (Rt.Ro × ByteArray)) (q : Rt.Mt) (es : List Dk.En) (r : Rq) (cl : T8) : Rp :=
 if q.st == 404 then of (Fs.plain 404 [])
 else if q.st == 405 then of (Fs.plain 405 [Fs.fd Fs.nAL q.al])
 else if q.ro < 0 then ⟨204, [Fs.fd Fs.nAL q.al], [], []⟩
 else match rs[q.ro.toNat]? with
  | some x => by' x es r cl q.ps
  | none => of (Fs.plain 410 [])
def raw (rs : List (Rt.Ro × ByteArray)) (es : List Dk.En) (r : Rq) : Rp :=
 if r.p.data.toList == [42] then ⟨204, [], [], []⟩
 else if (Pt.clean r.p.data.toList).2.2 == 0 then met rs (Rt.find (rs.map (·.1)) r.m.data.toList (Pt.clean r.p.data.toList).1) es r (Pt.clean r.p.data.toList).1
 else of (Fs.plain 400 [])
def ans (rs : List (Rt.Ro × ByteArray)) (es : List Dk.En) (r : Rq) : Rp := fin (r.m.data.toList == Fs.mHEAD) (raw rs es r)
def check (rs : List (Rt.Ro × ByteArray)) : Int :=
 if Rt.check (rs.map (·.1)) == 0 then (if rs.any (fun x => x.1.h == 1 && (!x.2.data.toList.isEmpty && !Dk.path x.2.data.toList)) then 130 else 0) else Rt.check (rs.map (·.1))

end Ap


def byteCells (l : List UInt8) : List Value := l.map fun c => .int .u8 (c.toNat : Int)
theorem size_l' (l : List UInt8) : (⟨l.toArray⟩ : ByteArray).size = l.length := by simp [ByteArray.size]


theorem bl_alloc17 (w : World) (x : Obj) : Below w.heap.size w (w.alloc x) := (Below.refl _ _).alloc (Nat.le_refl _) _
theorem minfo17 {P : Program} {t : TypeId} {z : Option Value} {s b : Nat} (h : (P.info? t).map (fun i => (i.zero, i.size, i.bytes)) = some (z, s, b)) : ∃ i, P.info? t = some i ∧ i.zero = z ∧ i.size = s ∧ i.bytes = b := by
 cases hq : P.info? t with
 | none => simp [hq] at h
 | some i => simp [hq] at h; exact ⟨i, rfl, h.1, h.2.1, h.2.2⟩
theorem infoS17 : (Tryz.prog.info? 9).map (fun i => (i.zero, i.size, i.bytes)) = some (some (.string ⟨#[]⟩), 1, 16) := by kernel_rfl
theorem own_shape17 {w : World} {B : Nat} {e : TypeId} {s : Nat} {v : Value} {n : Nat} {xs : List Value} (h : w.ownsRow B e s v n xs) : ∃ ao cap, v = .slice ao n cap := by
 rcases h.2 with ⟨h1, rfl⟩ | ⟨g, cap, cur, h1, _⟩
 ·exact ⟨none, 0, h1⟩
 ·exact ⟨_, cap, h1⟩
theorem own_kp17 {w w' : World} {B : Nat} {e : TypeId} {s : Nat} {v : Value} {n : Nat} {xs : List Value} (h : w.ownsRow B e s v n xs) (hb : Below w.heap.size w w') : w'.ownsRow B e s v n xs := own_same h (fun j hj => hb.block j (own_lt h j hj))
theorem one_cell17 (w : World) (T : TypeId) (x0 : Value) : ∀ j v, [x0][j]? = some v → (w.alloc (.cells #[x0] T)).cell? ((⟨w.heap.size, 0, none⟩ : Addr).add j) = some v := by
 intro j v h;rw [Addr.add_mid, Nat.zero_add];have hA : Ar (w.alloc (.cells #[x0] T)) w.heap.size T #[x0] := heap_alloc_last w _;exact hA.cell j v (by simpa using h)
theorem ext_td17 (s : ByteArray) (a b : Nat) : s.extract a b = ⟨((s.data.toList.drop a).take (b - a)).toArray⟩ := by
 apply ByteArray.ext;rw [ByteArray.data_extract];apply Array.toList_inj.1;simp [Array.toList_extract, List.extract_eq_take_drop]

theorem bc_snoc17 (l : List UInt8) (c : UInt8) : byteCells l ++ [.int .u8 (c.toNat : Int)] = byteCells (l ++ [c]) := by
  unfold byteCells
  rw [List.map_append]; rfl

namespace Pt
theorem drop_c {l : T8} {k : Nat} {c : UInt8} (hc : l[k]? = some c) : l.drop k = c :: l.drop (k + 1) := by
 obtain ⟨h1, h2⟩ := List.getElem?_eq_some_iff.1 hc;rw [List.drop_eq_getElem_cons h1, h2]
theorem hx_bd (c : UInt8) : -1 ≤ hx c ∧ hx c ≤ 15 := by
 refine ⟨?_, hx_le c⟩;unfold hx Tx.dgr Tx.digC;simp only [Bool.and_eq_true, decide_eq_true_eq]
 repeat' split
 all_goals omega
end Pt

end Go.Proofs.YthhpejgpfaikaabGreatDoor
