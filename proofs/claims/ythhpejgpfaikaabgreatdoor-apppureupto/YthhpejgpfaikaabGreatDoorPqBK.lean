/-
  What the row stands on.
-/
import Derived.Deep.RegionHeld3
import Derived.Deep.CutRange
import Derived.Test.YthhpejgpfaikaabGreatDoorPqBI
import Derived.Test.YthhpejgpfaikaabGreatDoorPqBJ
namespace Go.Proofs.YthhpejgpfaikaabGreatDoor
set_option maxHeartbeats 64000000
open Go.RowKit

section
variable {P : Program} {md : Region.Mode} {ops : Array Oper} {Q : Exit → Act → World → Prop} {S : World → Prop}
theorem take_u18 {i : Nat} {oi : Oper} {d : Option Tmp} {v : Value} {fuel : Nat} {listed : Array Bool} {a : Act} {w : World} (hi : ops[i]? = some oi) (hd : oi.dst = d)
  (hs : Region.noSelect ops = true) (hf : Region.free md ops listed i = true) (hr : (Region.ready md ops listed).contains i = true)
  (hQ : ∀ c a w, Q (.panic c) (a.put d v) w → Q (.panic c) a w) (hy : YieldsIf P ops S oi v a) (hS : S w)
  (h : wpAnyH P md ops Q S fuel (listed.setIfInBounds i true) (a.put d v) w) : wpAnyH P md ops Q S (fuel + 1) listed a w := by
 subst hd;exact wpAnyH_take hi hs hf hr hQ hy hS h
theorem step_stu18 {w : World} {ops : Array Oper} {o : Oper} {a : Act} {K : Act → World → Prop} {Q : Exit → Act → World → Prop} {E : Prop} (hgd : o.guard = none) (ty : TypeId) (x y : Operand)
  (ho : o.op = .store ty x y) (b : Nat) (c : Array Value) (hx : a.eval x = .pointer (some ⟨b, 0, none⟩)) (hy : a.eval y = .agg c)
  (t : TypeId) (old : Array Value) (hg : Ar w b t old) (hi : (P.info? ty).map (·.size) = some c.size) (hold : old.size = c.size) (h1 : c.all (·.oneCell') = true)
  (h : ∀ w', Ar w' b t c → Upd b w w' → K (a.put o.dst undef) w') : if Region.wanted o (yielded ops a.tmps) = true then Oper.wp P o a w K Q else E := by
 have hw : Region.wanted o (yielded ops a.tmps) = true := by simp [Region.wanted, hgd]
 rw [if_pos hw];exact wp_store_row ty x y ho b c hx hy t old hg hi hold h1 (h _ (setRow_heap w b old c t (0, 0) hg) (upd_setRow w b c))
end

theorem own_cap18 {w : World} {B : Nat} {e : TypeId} {s : Nat} {ao : Option Addr} {n cap : Nat} {xs : List Value} (h : w.ownsRow B e s (.slice ao n cap) n xs) : n ≤ cap := by
 rcases h.2 with ⟨h1, h2⟩ | ⟨g, cap', cur, h1, _, _, h3, _⟩
 ·injection h1 with _ e2 e3; omega
 ·injection h1 with _ e2 e3; subst e3; exact h3

set_option maxRecDepth 20000 in
theorem cfind18 (B b : Nat) (rs : List Rt.Ro) (s : ByteArray) (ml : List UInt8) (hml : s.data.toList = ml) (t : ByteArray) (pl : List UInt8) (hpl : t.data.toList = pl) (ht : t.size ≤ 4194304) (w : World) (h : RT18 w B b rs) :
  Calls Tryz.prog 37 #[.pointer (some ⟨b, 0, none⟩), .string s, .string t] w fun e w' => mtR18 w (Rt.find rs ml pl) e w' ∧ Below w.heap.size w w' := by
 obtain ⟨so, sn, sc, l, hRN, hRep, hlen, hrb, hsn⟩ := h;have hps := Rt.parts_sum pl;have htl : pl.length ≤ 4194304 := by rw [← hpl, ← Lib.size_eq]; exact ht
 have HFR := hid' (Rt.find_rep hRep ml pl);have HTG := hid' (fun W => ctarget18 t pl hpl ht W);have HSU : Hid (((Pt.parts pl).map List.length).sum + (Pt.parts pl).length ≤ 16777216) := hid' (by omega);have HPL : Hid ((Pt.parts pl).length ≤ 4194305) := hid' (by omega);have hopt : (s.toList == [79, 80, 84, 73, 79, 78, 83]) = (ml == Rt.sOPT) := by rw [Lib.toList_data, hml]; rfl
 generalize Rt.ends pl = en at *;generalize Rt.find rs ml pl = F at *;generalize Pt.parts pl = ls at *;have HRN := hid' hRN;have HML := hid' hml;have HRP := hid' hrb;have HLN := hid' hlen;clear hRN hRep hlen hrb hps htl hpl ht hml;go_enter Tryz.func37, Tryz.ntmps37;go_wp2_with (refine wpl_alloc 104 rfl rfl _ zeroMt18 ?_);intro rb w1 hrb ha1 hl1;have HA1 := hid' ha1;have HB1 := hid' hl1;have HRB := hid' hrb;clear ha1 hl1 hrb;go_wp2_with fail;refine (HTG.out w1).mono ?_;rintro e w2 ⟨⟨lo, m, lc, rfl, hm, ho⟩, hb2⟩;have HM := hid' hm;have HB2 : Hid (Below w.heap.size w w2) := hid' (below_two HB1.out hb2);have HA2 := hid' (HA1.out.keep hb2);have HO2 := hid' ho;obtain ⟨w3, hw3⟩ : ∃ w3, w2.alloc (.cells #[.slice lo m lc, .bool en] 136) = w3 := ⟨_, rfl⟩;obtain ⟨tb, htb⟩ : ∃ tb, w2.heap.size = tb := ⟨_, rfl⟩;have hb3 : Below w2.heap.size w2 w3 := by rw [← hw3]; exact bl_alloc17 w2 _
 have HT3 : Hid (Ar w3 tb 136 #[.slice lo m lc, .bool en]) := hid' (by rw [← hw3, ← htb]; exact heap_alloc_last w2 _);have HA3 := hid' (HA2.out.keep hb3);have HB3 : Hid (Below w.heap.size w w3) := hid' (below_two HB2.out hb3);have HTS3 : Hid (TS18 w3 lo ls) := hid' (TS18.of (SR17.own (own_kp17 ho hb3)));have HMC : Hid (m ≤ lc) := hid' (own_cap18 ho);have HMB : Hid (m ≤ 4194305) := hid' (by rw [← hm]; exact HPL.out);have HTR : Hid (rb ≠ tb) := hid' (fun e => by have := HA2.out.lt; omega);have HFI := hid' (cfinest18 B b rs so sn sc l hsn HRP.out lo m lc ls en hm HMB.out HMC.out w3 (HRN.out.below HB3.out) HTS3.out);have t0 := HT3.out.cell 0 _ rfl;have t1 := HT3.out.cell 1 _ rfl;clear hm ho hb2 hb3;go_wp2_with fail;refine HFI.out.mono ?_;rintro e w4 ⟨⟨x0, x1, hbs, rfl⟩, hb4⟩;have HB4 : Hid (Below w.heap.size w w4) := hid' (below_two HB3.out hb4);have HA4 := hid' (HA3.out.keep hb4);have HT4 := hid' (HT3.out.keep hb4);have HTS4 := hid' (HTS3.out.below hb4);clear hb4 t0 t1 hw3 htb;rcases hbs with ⟨hq, rfl, rfl⟩ | ⟨sh, hs, hq, rfl, rfl⟩
 ·have HF4 : Hid (F = ⟨404, -1, [], []⟩) := hid' (by rw [HFR.out, hq]);rw [hq];have HA5 : Hid (Ar (w4.alloc (.cells #[.slice none 0 0, .map none] 92)) rb 104 #[.int .i64 0, .int .i64 0, .slice none 0 0, .string ⟨#[]⟩]) := hid' (HA4.out.keep (bl_alloc17 _ _));have HB5 : Hid (Below w.heap.size w (w4.alloc (.cells #[.slice none 0 0, .map none] 92))) := hid' (below_two HB4.out (bl_alloc17 _ _));clear hq;go_upto_region 6 with fail;go_wp2_with (refine wpl_store 104 _ _ rfl rfl rb #[.int .i64 404, .int .i64 (-1), .slice none 0 0, .string ⟨#[]⟩] (by kernel_rfl) (by kernel_rfl) _ _ HA5.out sizeMt18 rfl (by simp [Value.oneCell']) ?_);intro wf hwf huf;go_wp2;have hld := ldMt18 hwf;refine bodyPost_ret (v := .agg #[.int .i64 404, .int .i64 (-1), .slice none 0 0, .string ⟨#[]⟩]) (by simp [results, Tryz.results37, asAddr, hld]) rfl ⟨?_, HB5.out.trans (huf.below HRB.out)⟩;rw [HF4.out];exact ⟨0, none, 0, rfl, rfl, World.ownsRow_nil _ _ _ _⟩
 ·have HQ := hid' hq;have HSM := hid' hs;have HSP := hid' (HRN.out.shp sh hs);obtain ⟨f, k, es, clock, m1, m2, m3, m4⟩ := (HRN.out.shp sh hs).mp;have HM1 := hid' m1;have HM2 : Hid (k ≤ 256) := hid' (Nat.le_trans m2 HLN.out);have HM3 : Hid (∀ x : ByteArray, (f x).map (·.num) = Rt.byM rs (Rt.pat sh.rep) x.data.toList) := hid' (fun x => by have := m3 x; rw [List.take_length] at this; exact this);have HM4 := hid' m4;have HFIT : Hid (Rt.fits (Rt.pat sh.rep) ls = true) := hid' (Rt.best_some hq).2.1;rw [hq];obtain ⟨w5, hw5⟩ : ∃ w5, w4.alloc (.cells #[.slice sh.pa sh.n sh.pc, .map (some sh.mb)] 92) = w5 := ⟨_, rfl⟩;obtain ⟨sb, hsb⟩ : ∃ sb, w4.heap.size = sb := ⟨_, rfl⟩;have hb5 : Below w4.heap.size w4 w5 := by rw [← hw5]; exact bl_alloc17 w4 _
  have HS5 : Hid (Ar w5 sb 92 #[.slice sh.pa sh.n sh.pc, .map (some sh.mb)]) := hid' (by rw [← hw5, ← hsb]; exact heap_alloc_last w4 _);have HA5 := hid' (HA4.out.keep hb5);have HT5 := hid' (HT4.out.keep hb5);have HTS5 := hid' (HTS4.out.below hb5);have HB5 : Hid (Below w.heap.size w w5) := hid' (below_two HB4.out hb5);have HSR : Hid (rb ≠ sb) := hid' (fun e => by have := HA4.out.lt; omega);have HEN := hid' (centry18 sh.pa sh.n sh.pc sh.mb s f k es clock w5 (m1.other (HB5.out.block _ m1.lt)));have q0 := HS5.out.cell 0 _ rfl;have q1 := HS5.out.cell 1 _ rfl;have HSEL : Hid ((selF18 f s).map (·.num) = Rt.sel rs (Rt.pat sh.rep) ml) := hid' (by
   unfold selF18 Rt.sel;rw [← HML.out, ← HM3.out s, show Rt.sGET = (⟨#[71, 69, 84]⟩ : ByteArray).data.toList from rfl, ← HM3.out ⟨#[71, 69, 84]⟩, show ([] : List UInt8) = (⟨#[]⟩ : ByteArray).data.toList from rfl, ← HM3.out ⟨#[]⟩];cases f s <;> cases (s.data.toList == Rt.sHEAD) <;> cases f ⟨#[71, 69, 84]⟩ <;> cases f ⟨#[]⟩ <;> rfl)
  clear hq hs m1 m2 m3 m4 hb5;cases hsel : selF18 f s with
  | none =>
   rw [hsel] at HEN HSEL;have HFN : Hid (F = ⟨if ml == Rt.sOPT then 200 else 405, -1, [], Rt.allow rs (Rt.pat sh.rep)⟩) := hid' (by rw [HFR.out, HQ.out]; simp only; rw [← HSEL.out]; rfl);have HBN : Hid (∀ r ∈ rs, Rt.shape (Rt.pat r) (Rt.pat sh.rep) = true → r.m ≠ []) := hid' (by
    have h0 : Rt.sel rs (Rt.pat sh.rep) ml = none := HSEL.out.symm;have h1 : Rt.byM rs (Rt.pat sh.rep) [] = none := by
     unfold Rt.sel at h0;cases hb : Rt.byM rs (Rt.pat sh.rep) [] with
     | none => rfl
     | some j =>
      rw [hb] at h0;cases hc : Rt.byM rs (Rt.pat sh.rep) ml with
      | some j' => rw [hc] at h0; cases h0
      | none =>
       rw [hc] at h0;cases hd : (if ml == Rt.sHEAD then Rt.byM rs (Rt.pat sh.rep) Rt.sGET else none) with
       | some j' => rw [hd] at h0; cases h0
       | none => rw [hd] at h0; cases h0
    exact Rt.by_none h1)
   have HKE : Hid (∀ x : List UInt8, (∃ m : ByteArray, m.data.toList = x ∧ (f m).isSome = true) ↔ ∃ r ∈ rs, Rt.shape (Rt.pat r) (Rt.pat sh.rep) = true ∧ r.m = x) := hid' (fun x => by
    constructor
    ·rintro ⟨y, rfl, hf⟩;obtain ⟨e, he⟩ := Option.isSome_iff_exists.1 hf;have := HM3.out y;rw [he] at this;obtain ⟨r, h1, h2, h3⟩ := Rt.by_some this.symm;exact ⟨r, List.mem_of_getElem? h1, h2, h3⟩
    ·rintro ⟨r, hr, h1, rfl⟩;refine ⟨⟨r.m.toArray⟩, by simp, ?_⟩;have h2 := HM3.out ⟨r.m.toArray⟩;cases hf : f ⟨r.m.toArray⟩ with
     | some e => rfl
     | none =>
      rw [hf] at h2;exact absurd rfl (Rt.by_none h2.symm r hr h1))
   have HKS : Hid (∀ m e, f m = some e → m.size ≤ 4194304) := hid' (fun x e he => by
    have h2 := HM3.out x;rw [he] at h2;obtain ⟨r, h1, _, h3⟩ := Rt.by_some h2.symm;rw [Lib.size_eq, ← h3];exact (HRP.out r (List.mem_of_getElem? h1)).2)
   have HALL := hid' (fun W (hW : Below w.heap.size w W) => callow18 sh.pa sh.n sh.pc sh.mb f k es clock rs (Rt.pat sh.rep) W (HM1.out.other (hW.block _ HM1.out.lt)) HM2.out HKS.out HKE.out HBN.out);generalize Rt.allow rs (Rt.pat sh.rep) = AL at *;go_wp2_with fail;refine HEN.out.mono ?_;rintro e w6 ⟨rfl, hb6⟩;have HB6 : Hid (Below w.heap.size w w6) := hid' (below_two HB5.out hb6);have HS7 : Hid (Ar (w6.alloc (.cells #[.int .i64 0, .slice none 0 0] 94)) sb 92 #[.slice sh.pa sh.n sh.pc, .map (some sh.mb)]) := hid' ((HS5.out.keep hb6).keep (bl_alloc17 _ _));have HA7 : Hid (Ar (w6.alloc (.cells #[.int .i64 0, .slice none 0 0] 94)) rb 104 #[.int .i64 0, .int .i64 0, .slice none 0 0, .string ⟨#[]⟩]) := hid' ((HA5.out.keep hb6).keep (bl_alloc17 _ _));have HB7 : Hid (Below w.heap.size w (w6.alloc (.cells #[.int .i64 0, .slice none 0 0] 94))) := hid' (below_two HB6.out (bl_alloc17 _ _));have q70 : (w6.alloc (.cells #[.int .i64 0, .slice none 0 0] 94)).cell? ⟨sb, 0, none⟩ = some (.slice sh.pa sh.n sh.pc) := HS7.out.cell 0 _ rfl;have q71 : (w6.alloc (.cells #[.int .i64 0, .slice none 0 0] 94)).cell? ⟨sb, 1, none⟩ = some (.map (some sh.mb)) := HS7.out.cell 1 _ rfl;have HAL := hid' (HALL.out (w6.alloc (.cells #[.int .i64 0, .slice none 0 0] 94)) HB7.out);clear hb6 q0 q1 hw5 hsb hsel;unfold enR18;cases hop : (ml == Rt.sOPT)
   ·rw [hop] at hopt HFN;clear hop;go_wp2_with fail;refine HAL.out.mono ?_;rintro e w8 ⟨rfl, hb8⟩;have HB8 : Hid (Below w.heap.size w w8) := hid' (below_two HB7.out hb8);have HA8 := hid' (HA7.out.keep hb8);clear hb8;go_wp2_with (refine wpl_store 104 _ _ rfl rfl rb #[.int .i64 405, .int .i64 (-1), .slice none 0 0, .string ⟨AL.toArray⟩] (by kernel_rfl) (by kernel_rfl) _ _ HA8.out sizeMt18 rfl (by simp [Value.oneCell']) ?_);intro wf hwf huf;go_wp2;have hld := ldMt18 hwf;refine bodyPost_ret (v := .agg #[.int .i64 405, .int .i64 (-1), .slice none 0 0, .string ⟨AL.toArray⟩]) (by simp [results, Tryz.results37, asAddr, hld]) rfl ⟨?_, HB8.out.trans (huf.below HRB.out)⟩;rw [HFN.out];exact ⟨0, none, 0, rfl, rfl, World.ownsRow_nil _ _ _ _⟩
   ·rw [hop] at hopt HFN;clear hop;go_wp2_with fail;refine HAL.out.mono ?_;rintro e w8 ⟨rfl, hb8⟩;have HB8 : Hid (Below w.heap.size w w8) := hid' (below_two HB7.out hb8);have HA8 := hid' (HA7.out.keep hb8);clear hb8;go_wp2_with (refine wpl_store 104 _ _ rfl rfl rb #[.int .i64 200, .int .i64 (-1), .slice none 0 0, .string ⟨AL.toArray⟩] (by kernel_rfl) (by kernel_rfl) _ _ HA8.out sizeMt18 rfl (by simp [Value.oneCell']) ?_);intro wf hwf huf;go_wp2;have hld := ldMt18 hwf;refine bodyPost_ret (v := .agg #[.int .i64 200, .int .i64 (-1), .slice none 0 0, .string ⟨AL.toArray⟩]) (by simp [results, Tryz.results37, asAddr, hld]) rfl ⟨?_, HB8.out.trans (huf.below HRB.out)⟩;rw [HFN.out];exact ⟨0, none, 0, rfl, rfl, World.ownsRow_nil _ _ _ _⟩
  | some e =>
   rw [hsel] at HEN HSEL;obtain ⟨x, hx⟩ : ∃ x : ByteArray, f x = some e := by
    unfold selF18 at hsel;cases h1 : f s with
    | some e' => rw [h1] at hsel; exact ⟨s, by rw [h1]; simpa using hsel⟩
    | none =>
     rw [h1] at hsel;cases h2 : (s.data.toList == Rt.sHEAD)
     ·rw [h2] at hsel;exact ⟨_, by simpa using hsel⟩
     ·rw [h2] at hsel;cases h3 : f ⟨#[71, 69, 84]⟩ with
      | some e' => rw [h3] at hsel; exact ⟨_, by rw [h3]; simpa using hsel⟩
      | none => rw [h3] at hsel; exact ⟨_, by simpa using hsel⟩
   obtain ⟨r, hr1, hr2, hr3⟩ := HM4.out x e hx;have hsh : Rt.shape (Rt.pat r) (Rt.pat sh.rep) = true := by
    have h2 := HM3.out x;rw [hx] at h2;obtain ⟨r', h3, h4, _⟩ := Rt.by_some h2.symm;have h3 : rs[e.num]? = some r' := h3;rw [hr1] at h3;injection h3 with h3;rw [h3]; exact h4
   have HFS : Hid (F = ⟨200, e.num, (Rt.names (Rt.pat r)).zip (Rt.vals (Rt.pat sh.rep) ls en), []⟩) := hid' (by rw [HFR.out, HQ.out]; simp only; rw [← HSEL.out]; simp only [Option.map_some]; rw [hr1]; rfl);have HCV : Hid ((Rt.vals (Rt.pat sh.rep) ls en).length = e.c) := hid' (by
    rw [← hr2, ← Rt.vals_shape hsh, ← Rt.caught_fst (l := ls) (e := en) (fun p hp => (Rt.pat_gp p hp).k)];unfold Rt.vals;rw [List.length_map, List.length_map])
   have hpl2 := Rt.pat_len18 sh.rep;have hpl3 := (HRP.out sh.rep HSP.out.inr).1;have hnl := Rt.pat_len18 r;have hnl2 := (HRP.out r (List.mem_of_getElem? hr1)).1;have hnl3 := Rt.namesU_len (Rt.pat r);have HNR := hid' (SR17.own hr3);have HNL := hid' hr2;have HPA := hid' (fun W (hW : Below w.heap.size w W) (hT : TS18 W lo ls) => cparams18 sh.pa sh.n sh.pc sh.mb e.num e.no e.c e.nc lo m lc en (Rt.pat sh.rep) (Rt.names (Rt.pat r)) ls HSP.out.len (by rw [← HSP.out.len]; omega) Rt.pat_gp Rt.pat_wf HM.out HMB.out HMC.out HSU.out HFIT.out hr2 HCV.out (by rw [← hr2]; omega) W ((PU18.own HSP.out.row).below hW) hT (HNR.out.below hW));generalize (Rt.names (Rt.pat r)).zip (Rt.vals (Rt.pat sh.rep) ls en) = ZP at *;clear hx hr1 hr2 hr3 hsh hpl2 hpl3 hnl hnl2 hnl3 hsel;go_wp2_with fail;refine HEN.out.mono ?_;rintro e' w6 ⟨rfl, hb6⟩;unfold enR18;have HB6 : Hid (Below w.heap.size w w6) := hid' (below_two HB5.out hb6);obtain ⟨w7, hw7⟩ : ∃ w7, w6.alloc (.cells #[.int .i64 (e.num : Int), .slice e.no e.c e.nc] 94) = w7 := ⟨_, rfl⟩;obtain ⟨eb, heb⟩ : ∃ eb, w6.heap.size = eb := ⟨_, rfl⟩;have hb7 : Below w6.heap.size w6 w7 := by rw [← hw7]; exact bl_alloc17 w6 _
   have HE7 : Hid (Ar w7 eb 94 #[.int .i64 (e.num : Int), .slice e.no e.c e.nc]) := hid' (by rw [← hw7, ← heb]; exact heap_alloc_last w6 _);have HS7 := hid' ((HS5.out.keep hb6).keep hb7);have HT7 := hid' ((HT5.out.keep hb6).keep hb7);have HA7 := hid' ((HA5.out.keep hb6).keep hb7);have HTS7 := hid' ((HTS5.out.below hb6).below hb7);have HB7 : Hid (Below w.heap.size w w7) := hid' (below_two HB6.out hb7);have HRE : Hid (rb ≠ eb) := hid' (fun e => by have := (HA5.out.keep hb6).lt; omega);clear hb6 hb7 q0 q1 hw5 hsb;have e0 := HE7.out.cell 0 _ rfl;have e1 := HE7.out.cell 1 _ rfl;go_upto_region 9 with fail;clear hw7 heb;have hS : Below w.heap.size w w7 ∧ w7.cell? ⟨sb, 0, none⟩ = some (.slice sh.pa sh.n sh.pc) ∧ w7.cell? ⟨sb, 1, none⟩ = some (.map (some sh.mb)) ∧ w7.cell? ⟨eb, 0, none⟩ = some (.int .i64 (e.num : Int)) ∧ w7.cell? ⟨eb, 1, none⟩ = some (.slice e.no e.c e.nc) ∧ w7.cell? ⟨tb, 0, none⟩ = some (.slice lo m lc) ∧ w7.cell? ⟨tb, 1, none⟩ = some (.bool en) := ⟨HB7.out, HS7.out.cell 0 _ rfl, HS7.out.cell 1 _ rfl, HE7.out.cell 0 _ rfl, HE7.out.cell 1 _ rfl, HT7.out.cell 0 _ rfl, HT7.out.cell 1 _ rfl⟩;have hSd : Below w.heap.size w w7.drew ∧ w7.drew.cell? ⟨sb, 0, none⟩ = some (.slice sh.pa sh.n sh.pc) ∧ w7.drew.cell? ⟨sb, 1, none⟩ = some (.map (some sh.mb)) ∧ w7.drew.cell? ⟨eb, 0, none⟩ = some (.int .i64 (e.num : Int)) ∧ w7.drew.cell? ⟨eb, 1, none⟩ = some (.slice e.no e.c e.nc) ∧ w7.drew.cell? ⟨tb, 0, none⟩ = some (.slice lo m lc) ∧ w7.drew.cell? ⟨tb, 1, none⟩ = some (.bool en) := ⟨HB7.out.drew, (Ar.drew HS7.out).cell 0 _ rfl, (Ar.drew HS7.out).cell 1 _ rfl, (Ar.drew HE7.out).cell 0 _ rfl, (Ar.drew HE7.out).cell 1 _ rfl, (Ar.drew HT7.out).cell 0 _ rfl, (Ar.drew HT7.out).cell 1 _ rfl⟩;refine wp_region_held_drew (S := fun W => Below w.heap.size w W ∧ W.cell? ⟨sb, 0, none⟩ = some (.slice sh.pa sh.n sh.pc) ∧ W.cell? ⟨sb, 1, none⟩ = some (.map (some sh.mb)) ∧ W.cell? ⟨eb, 0, none⟩ = some (.int .i64 (e.num : Int)) ∧ W.cell? ⟨eb, 1, none⟩ = some (.slice e.no e.c e.nc) ∧ W.cell? ⟨tb, 0, none⟩ = some (.slice lo m lc) ∧ W.cell? ⟨tb, 1, none⟩ = some (.bool en)) (by kernel_rfl) hSd (fun hHeld => ?_);refine take_u18 (i := 0) (d := some 34) (v := ?_) rfl rfl (by kernel_rfl) (by kernel_rfl) (by kernel_rfl) (fun _ _ _ h => h) (Or.inl ⟨by rfl, ?_⟩) (by assumption) ?_;rotate_left
   ·intro w hSw
    (try dsimp only at hSw)
    obtain ⟨_, c0, c1, c2, c3, c4, c5⟩ := hSw;go_simp
    try with_reducible rfl
   refine take_u18 (i := 1) (d := some 35) (v := ?_) rfl rfl (by kernel_rfl) (by kernel_rfl) (by kernel_rfl) (fun _ _ _ h => h) (Or.inl ⟨by rfl, ?_⟩) (by assumption) ?_;rotate_left
   ·intro w hSw
    (try dsimp only at hSw)
    obtain ⟨_, c0, c1, c2, c3, c4, c5⟩ := hSw;go_simp
    try with_reducible rfl
   refine take_u18 (i := 2) (d := some 36) (v := ?_) rfl rfl (by kernel_rfl) (by kernel_rfl) (by kernel_rfl) (fun _ _ _ h => h) (Or.inl ⟨by rfl, ?_⟩) (by assumption) ?_;rotate_left
   ·intro w hSw
    (try dsimp only at hSw)
    obtain ⟨_, c0, c1, c2, c3, c4, c5⟩ := hSw;go_simp
    try with_reducible rfl
   refine take_u18 (i := 3) (d := some 37) (v := ?_) rfl rfl (by kernel_rfl) (by kernel_rfl) (by kernel_rfl) (fun _ _ _ h => h) (Or.inl ⟨by rfl, ?_⟩) (by assumption) ?_;rotate_left
   ·intro w hSw
    (try dsimp only at hSw)
    obtain ⟨_, c0, c1, c2, c3, c4, c5⟩ := hSw;go_simp
    try with_reducible rfl
   refine take_u18 (i := 4) (d := some 38) (v := ?_) rfl rfl (by kernel_rfl) (by kernel_rfl) (by kernel_rfl) (fun _ _ _ h => h) (Or.inl ⟨by rfl, ?_⟩) (by assumption) ?_;rotate_left
   ·intro w hSw
    (try dsimp only at hSw)
    obtain ⟨_, c0, c1, c2, c3, c4, c5⟩ := hSw;go_simp
    try with_reducible rfl
   try simp only [Act.put, List.setIfInBounds_toArray, List.set_cons_zero, List.set_cons_succ]
   refine wpAnyH_ready (rs := [5]) (by kernel_rfl) (by simp) ?_;refine AllReadyH.cons rfl (fun K hK => ?_) AllReadyH.nil;go_simp;refine (HPA.out _ hHeld.1 (HTS7.out.below ((Below.refl _ _).drew))).mono ?_;rintro e' wA ⟨⟨q, ro, rc, rfl, hql, hqo⟩, hbA⟩;have HSA : Hid (Ar wA sb 92 #[.slice sh.pa sh.n sh.pc, .map (some sh.mb)]) := hid' ((Ar.drew HS7.out).keep hbA);have HEA : Hid (Ar wA eb 94 #[.int .i64 (e.num : Int), .slice e.no e.c e.nc]) := hid' ((Ar.drew HE7.out).keep hbA);have HTA : Hid (Ar wA tb 136 #[.slice lo m lc, .bool en]) := hid' ((Ar.drew HT7.out).keep hbA);have HAA : Hid (Ar wA rb 104 #[.int .i64 0, .int .i64 0, .slice none 0 0, .string ⟨#[]⟩]) := hid' ((Ar.drew HA7.out).keep hbA);have HBA : Hid (Below w.heap.size w wA) := hid' (below_two HB7.out.drew hbA);go_wp2_with fail;refine hK.out _ _ ⟨HBA.out, HSA.out.cell 0 _ rfl, HSA.out.cell 1 _ rfl, HEA.out.cell 0 _ rfl, HEA.out.cell 1 _ rfl, HTA.out.cell 0 _ rfl, HTA.out.cell 1 _ rfl⟩ (fun hHeld2 => ?_);clear hK K;refine take_u18 (i := 6) (d := some 40) (v := ?_) rfl rfl (by kernel_rfl) (by kernel_rfl) (by kernel_rfl) (fun _ _ _ h => h) (Or.inl ⟨by rfl, ?_⟩) (by assumption) ?_;rotate_left
   ·intro w hSw
    (try dsimp only at hSw)
    obtain ⟨_, c0, c1, c2, c3, c4, c5⟩ := hSw;go_simp
    try with_reducible rfl
   try simp only [Act.put, List.setIfInBounds_toArray, List.set_cons_zero, List.set_cons_succ]
   refine wpAnyH_ready (rs := [7]) (by kernel_rfl) (by simp) ?_;refine AllReadyH.cons rfl (fun K hK => ?_) AllReadyH.nil;refine step_stu18 rfl 104 _ _ rfl rb #[.int .i64 200, .int .i64 (e.num : Int), .slice ro q rc, .string ⟨#[]⟩] rfl rfl 104 _ HAA.out sizeMt18 rfl (by simp [Value.oneCell']) ?_;intro wf haf huf;have HBf : Hid (Below w.heap.size w wf) := hid' (HBA.out.trans (huf.below HRB.out));have hSf := huf.keep HSA.out HSR.out.symm;have hEf := huf.keep HEA.out HRE.out.symm;have hTf := huf.keep HTA.out HTR.out.symm;have HOf : Hid (wf.ownsRow w.heap.size 165 2 (.slice ro q rc) q (qC18 ZP)) := hid' (by
    refine own_base17 (own_same hqo (fun j hj => huf.block j (fun ej => ?_))) HB7.out.size;have h5 := own_ge18 hqo j hj;have h6 := HA7.out.lt;have h7 : w7.drew.heap.size = w7.heap.size := rfl;omega)
   refine hK.out _ _ ⟨HBf.out, hSf.cell 0 _ rfl, hSf.cell 1 _ rfl, hEf.cell 0 _ rfl, hEf.cell 1 _ rfl, hTf.cell 0 _ rfl, hTf.cell 1 _ rfl⟩ (fun _ => ?_);have hld := ldMt18 haf;clear hK K huf hqo hbA hSf hEf hTf
   try simp only [Act.put]
   refine wpAnyH_done (by kernel_rfl) ?_ _;go_wp2;refine bodyPost_ret (v := .agg #[.int .i64 200, .int .i64 (e.num : Int), .slice ro q rc, .string ⟨#[]⟩]) (by simp [results, Tryz.results37, asAddr, hld]) rfl ⟨?_, HBf.out⟩;rw [HFS.out];exact ⟨q, ro, rc, rfl, hql, HOf.out⟩

end Go.Proofs.YthhpejgpfaikaabGreatDoor
