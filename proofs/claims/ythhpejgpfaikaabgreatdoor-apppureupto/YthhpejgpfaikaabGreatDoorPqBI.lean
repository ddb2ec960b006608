/-
  What the row stands on.
-/
import Derived.Test.YthhpejgpfaikaabGreatDoorPqBG
import Derived.Test.YthhpejgpfaikaabGreatDoorPqBH
import Derived.Test.YthhpejgpfaikaabGreatDoorShKeys
import Derived.Shelf.SlIter.Nil
import Derived.Test.YthhpejgpfaikaabGreatDoorPqBC
import Derived.Test.YthhpejgpfaikaabGreatDoorPqBE
namespace Go.Proofs.YthhpejgpfaikaabGreatDoor
set_option maxHeartbeats 64000000
open Go.RowKit

theorem zeroSh18 : (Tryz.prog.info? 92).map (fun i => i.zero) = some (some (.agg #[.slice none 0 0, .map none])) := by kernel_rfl
theorem sizeSh18 : (Tryz.prog.info? 92).map (·.size) = some 2 := by kernel_rfl
theorem ldSh18 {w : World} {b : Nat} {x0 x1 : Value} (h : Ar w b 92 #[x0, x1]) : (loadVar 92 ⟨b, 0, none⟩).run Tryz.prog w = .ok (.agg #[x0, x1]) w :=
 run_loadVar_row (P := Tryz.prog) w b 92 92 _ (0, 0) _ h Tryz.underlying92 rfl sizeSh18
theorem wins18 (p q : List Rt.Prt) : Rt.wins (some q) p = Rt.finer p q := rfl
def BS18 (l : List Sh18) (q : Option (List Rt.Prt)) (x0 x1 : Value) : Prop := (q = none ∧ x0 = .slice none 0 0 ∧ x1 = .map none) ∨ ∃ s ∈ l, q = some (Rt.pat s.rep) ∧ x0 = .slice s.pa s.n s.pc ∧ x1 = .map (some s.mb)
def fsR18 (l : List Sh18) (q : Option (List Rt.Prt)) (e : Ending) : Prop := ∃ x0 x1, BS18 l q x0 x1 ∧ e = .returned (.tuple #[.agg #[x0, x1], .bool q.isSome])

set_option maxRecDepth 20000 in
theorem cfinest18 (B b : Nat) (rs : List Rt.Ro) (so : Option Addr) (sn sc : Nat) (l : List Sh18) (hsn : sn ≤ 256) (hrb : ∀ r ∈ rs, r.p.length ≤ 4194304 ∧ r.m.length ≤ 4194304) (lo : Option Addr) (m lc : Nat) (k : List (List UInt8)) (en : Bool) (hm : k.length = m) (hmb : m ≤ 4194305) (hlc : m ≤ lc) (w : World) (h : RN18 w B b so sn sc l rs rs.length) (ht : TS18 w lo k) :
  Calls Tryz.prog 55 #[.pointer (some ⟨b, 0, none⟩), .agg #[.slice lo m lc, .bool en]] w fun e w' => fsR18 l (Rt.best (l.map (·.rep)) k) e ∧ Below w.heap.size w w' := by
 have H := hid' h;have HT := hid' ht;have HRB := hid' hrb;have HM := hid' hm;have HLC := hid' hlc;have HMB := hid' hmb;have HPN : Hid (∀ s ∈ l, s.n ≤ 4194305) := hid' (fun s hs => by
  have h1 := (h.shp s hs).len;have h2 := Rt.pat_len18 s.rep;have h3 := (hrb s.rep (h.shp s hs).inr).1;omega)
 clear h ht hrb hm hlc hmb;go_enter Tryz.func55, Tryz.ntmps55;go_wp2_with (refine wpl_box 136 _ rfl rfl #[.slice lo m lc, .bool en] (by kernel_rfl) ?_);intro tb w1 htb ha1 hl1;have HA1 := hid' ha1;have HB1 := hid' hl1;clear ha1 hl1;go_wp2_with (refine wpl_alloc 92 rfl rfl _ zeroSh18 ?_);intro rb w2 hrb2 ha2 hl2;have HA12 := hid' (HA1.out.keep hl2);have HA2 := hid' ha2;have HB2 : Hid (Below w.heap.size w w2) := hid' (below_two HB1.out hl2);have HRL : Hid (w.heap.size ≤ rb ∧ tb ≠ rb) := hid' ⟨Nat.le_trans HB1.out.size hrb2, fun e => by have := HA1.out.lt; omega⟩;clear ha2 hl2 hrb2 htb;go_wp2_with (refine wpl_alloc 92 rfl rfl _ zeroSh18 ?_);intro bb w3 hbb ha3 hl3;have HA13 := hid' (HA12.out.keep hl3);have HA23 := hid' (HA2.out.keep hl3);have HA3 := hid' ha3;have HB3 : Hid (Below w.heap.size w w3) := hid' (below_two HB2.out hl3);have HBL : Hid (w.heap.size ≤ bb ∧ tb ≠ bb ∧ rb ≠ bb) := hid' ⟨Nat.le_trans HB2.out.size hbb, fun e => by have := HA12.out.lt; omega, fun e => by have := HA2.out.lt; omega⟩;clear ha3 hl3 hbb;have o3 := (H.out.below HB3.out).ob.cell 0 _ rfl;go_wp2;go_loopw [7, 15] (fun s7 s15 wr => ∃ (i : Nat) (fd : Bool) (x0 x1 : Value), s15 = .int .i64 (i : Int) ∧ s7 = .bool fd ∧ i ≤ sn ∧ Hid ((Rt.best ((l.map (·.rep)).take i) k).isSome = fd) ∧ Hid (BS18 l (Rt.best ((l.map (·.rep)).take i) k) x0 x1) ∧ Hid (Ar wr bb 92 #[x0, x1]) ∧ Hid (Ar wr rb 92 #[.slice none 0 0, .map none]) ∧ Hid (Ar wr tb 136 #[.slice lo m lc, .bool en]) ∧ Hid (Below w.heap.size w wr)) (fun _ s15 _ => sn - (intOf s15).toNat)
 case atStart => exact ⟨0, false, .slice none 0 0, .map none, rfl, rfl, Nat.zero_le _, hid' rfl, hid' (.inl ⟨rfl, rfl, rfl⟩), HA3, HA23, HA13, HB3⟩
 case round =>
  obtain ⟨i, fd, x0, x1, rfl, rfl, hi, HFD, HBS, HAb, HAr, HAt, HB⟩ := hrel;by_cases hlt : i < sn
  ·have hlt2 : (i : Int) < (sn : Int) := by omega
   obtain ⟨s, hs⟩ : ∃ s, l[i]? = some s := ⟨_, List.getElem?_eq_getElem (by rw [H.out.len]; exact hlt)⟩;have HRr := hid' (H.out.below HB.out);obtain ⟨g, rfl, hgl, s0, s1⟩ := HRr.out.at i s hs;have HSM := hid' (List.mem_of_getElem? hs);have HST : Hid (Rt.best ((l.map (·.rep)).take (i + 1)) k = Rt.better k (Rt.best ((l.map (·.rep)).take i) k) s.rep) := hid' (Rt.best_step (by rw [List.getElem?_map, hs]; rfl) k);have HSP := hid' (H.out.shp s HSM.out);have HSN := hid' (HPN.out s HSM.out);generalize Rt.best ((l.map (·.rep)).take i) k = Q at *;obtain ⟨w4, hw4⟩ : ∃ w4, wr.alloc (.cells #[.slice s.pa s.n s.pc, .map (some s.mb)] 92) = w4 := ⟨_, rfl⟩;have HX4 : Hid (Ar w4 wr.heap.size 92 #[.slice s.pa s.n s.pc, .map (some s.mb)]) := hid' (by rw [← hw4]; exact heap_alloc_last wr _);have hb4 : Below wr.heap.size wr w4 := by rw [← hw4]; exact bl_alloc17 wr _
   have HB4 : Hid (Below w.heap.size w w4) := hid' (below_two HB.out hb4);have HAb4 := hid' (HAb.out.keep hb4);have HAr4 := hid' (HAr.out.keep hb4);have HAt4 := hid' (HAt.out.keep hb4);obtain ⟨xb, hxb⟩ : ∃ xb, wr.heap.size = xb := ⟨_, rfl⟩;rw [hxb] at HX4;have HXB : Hid (xb ≠ bb) := hid' (fun e => by have := HAb.out.lt; omega);have q0 := HX4.out.cell 0 _ rfl;have t0 := HAt4.out.cell 0 _ rfl;have HFI := hid' (cfits18 s.pa s.n s.pc (Rt.pat s.rep) HSP.out.len HSN.out Rt.pat_gp Rt.pat_wf lo m lc k HM.out HMB.out HLC.out w4 ((PU18.own HSP.out.row).below HB4.out) (HT.out.below HB4.out));clear hs hb4 hgl;go_wp2_with fail;refine HFI.out.mono ?_;rintro e w5 ⟨rfl, hb5⟩;have HB5 : Hid (Below w.heap.size w w5) := hid' (below_two HB4.out hb5);have HX5 := hid' (HX4.out.keep hb5);have HAb5 := hid' (HAb4.out.keep hb5);have HAr5 := hid' (HAr4.out.keep hb5);have HAt5 := hid' (HAt4.out.keep hb5);have q50 := HX5.out.cell 0 _ rfl;have q51 := HX5.out.cell 1 _ rfl;clear hb5 q0 t0 s0 s1 hw4;cases hfi : Rt.fits (Rt.pat s.rep) k
   ·have HNX : Hid (Rt.best ((l.map (·.rep)).take (i + 1)) k = Q) := hid' (by rw [HST.out]; exact Rt.better_no (by rw [hfi]; rfl));clear hfi;go_wp2;go_roundw
    case rel => exact ⟨i + 1, fd, x0, x1, by go_num, rfl, by omega, hid' (by rw [HNX.out]; exact HFD.out), hid' (by rw [HNX.out]; exact HBS.out), HAb5, HAr5, HAt5, HB5⟩
    case measure => simp [intOf]; omega
   ·have HFIT := hid' hfi;clear hfi;cases fd
    ·have HQN : Hid (Q = none) := hid' (by have := HFD.out; cases Q with | none => rfl | some q => cases this);have HNX : Hid (Rt.best ((l.map (·.rep)).take (i + 1)) k = some (Rt.pat s.rep)) := hid' (by rw [HST.out]; exact Rt.better_yes (by rw [HFIT.out, HQN.out]; rfl));go_upto_region 7 with fail;go_wp2_with (refine wpl_store 92 _ _ rfl rfl bb #[.slice s.pa s.n s.pc, .map (some s.mb)] (by kernel_rfl) (by kernel_rfl) _ _ HAb5.out sizeSh18 rfl (by simp [Value.oneCell']) ?_);intro wf hwf huf;have HAbf := hid' hwf;have HArf := hid' (huf.keep HAr5.out HBL.out.2.2);have HAtf := hid' (huf.keep HAt5.out HBL.out.2.1);have HBf : Hid (Below w.heap.size w wf) := hid' (HB5.out.trans (huf.below HBL.out.1));clear hwf huf;go_wp2;go_roundw
     case rel => exact ⟨i + 1, true, _, _, by go_num, rfl, by omega, hid' (by rw [HNX.out]; rfl), hid' (by rw [HNX.out]; exact .inr ⟨s, HSM.out, rfl, rfl, rfl⟩), HAbf, HArf, HAtf, HBf⟩
     case measure => simp [intOf]; omega
    ·obtain ⟨s', hs', hq', rfl, rfl⟩ : ∃ s' ∈ l, Q = some (Rt.pat s'.rep) ∧ x0 = .slice s'.pa s'.n s'.pc ∧ x1 = .map (some s'.mb) := by
      rcases HBS.out with ⟨h1, _⟩ | h1
      ·have := HFD.out; rw [h1] at this; cases this
      ·exact h1
     have HQS := hid' hq';have HSP' := hid' (H.out.shp s' hs');have HSM' := hid' hs';have b50 := HAb5.out.cell 0 _ rfl;have HFN := hid' (cfiner18 s.pa s.n s.pc (Rt.pat s.rep) s'.pa s'.n s'.pc (Rt.pat s'.rep) HSP.out.len HSN.out HSP'.out.len (HPN.out s' hs') Rt.pat_gp Rt.pat_gp w5 ((PU18.own HSP.out.row).below HB5.out) ((PU18.own HSP'.out.row).below HB5.out));clear hs' hq';go_wp2_with fail;refine HFN.out.mono ?_;rintro e w6 ⟨rfl, hb6⟩;have HB6 : Hid (Below w.heap.size w w6) := hid' (below_two HB5.out hb6);have HX6 := hid' (HX5.out.keep hb6);have HAb6 := hid' (HAb5.out.keep hb6);have HAr6 := hid' (HAr5.out.keep hb6);have HAt6 := hid' (HAt5.out.keep hb6);have q60 := HX6.out.cell 0 _ rfl;have q61 := HX6.out.cell 1 _ rfl;clear hb6 b50 q50 q51;cases hfn : Rt.finer (Rt.pat s.rep) (Rt.pat s'.rep)
     ·have HNX : Hid (Rt.best ((l.map (·.rep)).take (i + 1)) k = Q) := hid' (by rw [HST.out]; exact Rt.better_no (by rw [HQS.out, wins18, hfn, Bool.and_false]));clear hfn;go_wp2;go_roundw
      case rel => exact ⟨i + 1, true, _, _, by go_num, rfl, by omega, hid' (by rw [HNX.out]; exact HFD.out), hid' (by rw [HNX.out]; exact HBS.out), HAb6, HAr6, HAt6, HB6⟩
      case measure => simp [intOf]; omega
     ·have HNX : Hid (Rt.best ((l.map (·.rep)).take (i + 1)) k = some (Rt.pat s.rep)) := hid' (by rw [HST.out]; exact Rt.better_yes (by rw [HFIT.out, HQS.out, wins18, hfn]; rfl));clear hfn;go_upto_region 7 with fail;go_wp2_with (refine wpl_store 92 _ _ rfl rfl bb #[.slice s.pa s.n s.pc, .map (some s.mb)] (by kernel_rfl) (by kernel_rfl) _ _ HAb6.out sizeSh18 rfl (by simp [Value.oneCell']) ?_);intro wf hwf huf;have HAbf := hid' hwf;have HArf := hid' (huf.keep HAr6.out HBL.out.2.2);have HAtf := hid' (huf.keep HAt6.out HBL.out.2.1);have HBf : Hid (Below w.heap.size w wf) := hid' (HB6.out.trans (huf.below HBL.out.1));clear hwf huf;go_wp2;go_roundw
      case rel => exact ⟨i + 1, true, _, _, by go_num, rfl, by omega, hid' (by rw [HNX.out]; rfl), hid' (by rw [HNX.out]; exact .inr ⟨s, HSM.out, rfl, rfl, rfl⟩), HAbf, HArf, HAtf, HBf⟩
      case measure => simp [intOf]; omega
  ·have hlt2 : ¬ (i : Int) < (sn : Int) := by omega
   have HE : Hid ((l.map (·.rep)).take i = l.map (·.rep)) := hid' (List.take_of_length_le (by rw [List.length_map, H.out.len]; omega));rw [HE.out] at HFD HBS;rcases id HBS.out with ⟨_, rfl, rfl⟩ | ⟨s, _, _, rfl, rfl⟩
   ·have c0 := HAb.out.cell 0 _ rfl;have c1 := HAb.out.cell 1 _ rfl;go_upto_region 9 with fail;go_wp2_with (refine wpl_store 92 _ _ rfl rfl rb #[.slice none 0 0, .map none] (by kernel_rfl) (by kernel_rfl) _ _ HAr.out sizeSh18 rfl (by simp [Value.oneCell']) ?_);intro wf hwf huf;go_wp2;have hld := ldSh18 hwf;refine bodyPost_ret (v := .tuple #[.agg #[.slice none 0 0, .map none], .bool fd]) (by simp [results, Tryz.results55, asAddr, hld]) rfl ⟨⟨_, _, HBS.out, by rw [HFD.out]⟩, HB.out.trans (huf.below HRL.out.1)⟩
   ·have c0 := HAb.out.cell 0 _ rfl;have c1 := HAb.out.cell 1 _ rfl;go_upto_region 9 with fail;go_wp2_with (refine wpl_store 92 _ _ rfl rfl rb #[.slice s.pa s.n s.pc, .map (some s.mb)] (by kernel_rfl) (by kernel_rfl) _ _ HAr.out sizeSh18 rfl (by simp [Value.oneCell']) ?_);intro wf hwf huf;go_wp2;have hld := ldSh18 hwf;refine bodyPost_ret (v := .tuple #[.agg #[.slice s.pa s.n s.pc, .map (some s.mb)], .bool fd]) (by simp [results, Tryz.results55, asAddr, hld]) rfl ⟨⟨_, _, HBS.out, by rw [HFD.out]⟩, HB.out.trans (huf.below HRL.out.1)⟩

open Go.RowKit Go.Shelf Go.Sort

theorem infoStr18 : (Tryz.prog.info? 9).map (fun i => (i.zero, i.size, i.bytes)) = some (some (.string ⟨#[]⟩), 1, 16) := by kernel_rfl

theorem ckeys18 (mb k : Nat) (D : DataW Unit) (hsz : Maps.size D ≤ 256) (w : World) (hown : w.ownsMap Tryz.prog 9 (fun _ => some (.nil, [])) mb k D) :
  Calls Tryz.prog 85 #[.func (.func 108) #[] #[.pointer (some ⟨w.heap.size, 0, none⟩)]] (w.alloc (.cells #[.map (some mb)] 90)) fun e w' => (∃ ao cap ss, e = .returned (.slice ao ss.length cap) ∧ ss.Perm (strKeys D) ∧ w'.ownsRow w.heap.size 9 1 (.slice ao ss.length cap) ss.length (sC17 ss)) ∧ Below w.heap.size w w' := by
 have hbl := hown.lt;have hseq : SeqGives Fence.wide 4 Tryz.prog 108 #[.pointer (some ⟨w.heap.size, 0, none⟩)] encStr (fun ss => ss.Perm (strKeys D)) (Maps.size D) (w.alloc (.cells #[.map (some mb)] 90)) :=
  AnyZ.keys_gives (ρ := Tryz.lkeys_ren) { Tryz.lkeys with } Fence.wide 4 trivial rfl (by omega) w.heap.size mb k D _ (by simp) (by simp) (by
   obtain ⟨es, clock, hb, Ft, hs, hD⟩ := hown;exact ⟨es, clock, (Below.heap_alloc _ _ mb hbl).trans hb, Ft, hs, hD⟩)
 have cC := AnyZ.collect_in Tryz.lcoll Fence.wide 6 trivial trivial rfl (by omega) 108 #[.pointer (some ⟨w.heap.size, 0, none⟩)] trivial (enters_of Tryz.func108 (by kernel_rfl) rfl) _ (Maps.size D) (by unfold maxLen; omega) (by omega) _ hseq;refine ((callsIn_wide (n := 6)).1 cC).mono ?_;rintro e w' ⟨v, ss, rfl, hS, hrow, _, hb⟩;have hrow' : w'.ownsRow w.heap.size 9 1 v ss.length (sC17 ss) := own_base17 hrow (by simp);obtain ⟨ao, cap, rfl⟩ := own_shape17 hrow';exact ⟨⟨ao, cap, ss, rfl, hS, hrow'⟩, below_two (bl_alloc17 w _) hb⟩

theorem ckeysF18 (mb : Option Nat) (w : World) : Calls Tryz.prog 86 #[.map mb] w fun e w' => e = .returned (.func (.func 108) #[] #[.pointer (some ⟨w.heap.size, 0, none⟩)]) ∧ w' = w.alloc (.cells #[.map mb] 90) :=
 (callsIn_wide (n := 6)).1 (AnyZ.keys_in Tryz.lkeys Fence.wide 6 trivial rfl mb w)

theorem ccont18 {B : Nat} (ao : Option Addr) (cap : Nat) (zs : List (List UInt8)) (x : List UInt8) (hne : zs ≠ []) (hb : zs.length ≤ 4194306) (w : World) (h : w.ownsRow B 9 1 (.slice ao zs.length cap) zs.length (sC17 zs)) :
  Calls Tryz.prog 87 #[.slice ao zs.length cap, .string ⟨x.toArray⟩] w fun e w' => e = .returned (.bool (decide (x ∈ zs))) ∧ w' = w := by
 rcases h.2 with ⟨hv, hn⟩ | ⟨g, cap', cur, hv, _, h3, _⟩
 ·exact absurd (List.eq_nil_of_length_eq_zero hn) hne
 ·injection hv with h1 _ _;subst h1;have hc : ∀ j, j < (zs.map (fun z => (⟨z.toArray⟩ : ByteArray))).length → w.cell? ⟨g, 0 + j, none⟩ = some (.string ((zs.map (fun z => (⟨z.toArray⟩ : ByteArray))).getD j ByteArray.empty)) := fun j hj => by
   rw [List.length_map] at hj;have := h.cells (g := g) rfl j (.string ⟨(zs[j]).toArray⟩) (by unfold sC17; rw [List.getElem?_map, List.getElem?_eq_getElem hj]; rfl);rw [Addr.add_mid] at this;rw [this];simp [List.getD, hj]
  have c := Tryz.slices_Contains_string g 0 zs.length cap (zs.map (fun z => (⟨z.toArray⟩ : ByteArray))) ⟨x.toArray⟩ w (by rw [List.length_map]; exact Nat.le_refl _) (by omega) hc;have e : Lib.containsS ((zs.map (fun z => (⟨z.toArray⟩ : ByteArray))).take zs.length) ⟨x.toArray⟩ = decide (x ∈ zs) := by
   rw [Bool.eq_iff_iff, Lib.containsS_iff, decide_eq_true_eq, List.take_of_length_le (by simp), List.mem_map];constructor
   ·rintro ⟨z, hz, he⟩;injection he with he;have : z = x := by simpa using he
    rw [← this]; exact hz
   ·intro hx; exact ⟨x, hx, rfl⟩
  rw [e] at c;exact c

theorem csort18 {B : Nat} (ao : Option Addr) (cap : Nat) (zs : List (List UInt8)) (hne : zs ≠ []) (hb : zs.length ≤ 4194306) (w : World) (hB : B ≤ w.heap.size) (h : w.ownsRow B 9 1 (.slice ao zs.length cap) zs.length (sC17 zs)) :
  Calls Tryz.prog 88 #[.slice ao zs.length cap] w fun e w' => e = .returned (.tuple #[]) ∧ w'.ownsRow B 9 1 (.slice ao zs.length cap) zs.length (sC17 (zs.mergeSort (fun x y => decide (x ≤ y)))) ∧ Below B w w' := by
 rcases h.2 with ⟨hv, hn⟩ | ⟨g, cap', cur, hv, hbase, hgb, r1, r2, r3, r4⟩
 ·exact absurd (List.eq_nil_of_length_eq_zero hn) hne
 ·injection hv with h1 _ h2;subst h1 h2;have hH : Holds encStr w g 0 zs.toArray := holds_of_block hgb (by rw [Nat.mul_one] at r4; exact r4);have hgl : g < w.heap.size := (Array.getElem?_eq_some_iff.1 hgb).1;refine (Tryz.slices_Sort_string g 0 cap zs w hH hgl (by omega)).mono ?_;rintro e w' ⟨rfl, k, os, rfl⟩;exact ⟨rfl, ownsRow_sorted (by simp) hbase hgb r1 r2 r3, (Below.refl B w).grown (grownBy_sorted _) hB (fun j hj => by cases hj; exact hbase)⟩
theorem ccomp18 {B : Nat} (ao : Option Addr) (cap : Nat) (zs : List (List UInt8)) (hne : zs ≠ []) (hb : zs.length ≤ 4194306) (w : World) (hB : B ≤ w.heap.size) (h : w.ownsRow B 9 1 (.slice ao zs.length cap) zs.length (sC17 zs)) :
  Calls Tryz.prog 70 #[.slice ao zs.length cap] w fun e w' => ∃ n, e = .returned (.slice ao n cap) ∧ (Lib.compact zs).length = n ∧ n ≤ cap ∧ TS18 w' ao (Lib.compact zs) ∧ Below B w w' := by
 rcases h.2 with ⟨hv, hn⟩ | ⟨g, cap', cur, hv, hbase, hgb, r1, r2, r3, r4⟩
 ·exact absurd (List.eq_nil_of_length_eq_zero hn) hne
 ·injection hv with h1 _ h2;subst h1 h2;have hH : Holds encStr w g 0 zs.toArray := holds_of_block hgb (by rw [Nat.mul_one] at r4; exact r4);have hle := Lib.compact_length_le zs;refine (Tryz.slices_Compact_string g 0 cap zs w hH (by omega) r1).mono ?_;rintro e w' ⟨rfl, q, rfl⟩;have ho := ownsRow_sorted (w := w) (base := B) (g := g) (cap := cap) (n := q) (e := 9) (os := #[]) (cur := cur) (ss := zs) (ts := Lib.compact zs ++ List.replicate (zs.length - (Lib.compact zs).length) []) (by simp; omega) hbase hgb r1 r2 r3;have hg2 := grownBy_sorted (w := w) (g := g) (n := q) (os := #[]) (Lib.compact zs ++ List.replicate (zs.length - (Lib.compact zs).length) []).toArray;rw [grow_none18] at ho hg2;refine ⟨_, rfl, rfl, Nat.le_trans hle r1, fun i p hp => ⟨g, 0, rfl, ?_, ?_⟩, (Below.refl B w).grown hg2 hB (fun j hj => by cases hj; exact hbase)⟩
  ·exact Nat.lt_of_lt_of_le (Array.getElem?_eq_some_iff.1 hgb).1 hg2.size
  ·have := ho.cells (g := g) rfl i (encStr p) (by rw [List.map_append, List.getElem?_append_left (by rw [List.length_map]; exact (List.getElem?_eq_some_iff.1 hp).1), List.getElem?_map, hp]; rfl);rw [Addr.add_mid] at this;exact this
theorem cjoinC18 (ao : Option Addr) (n cap : Nat) (k : List (List UInt8)) (hn : k.length = n) (hc : n ≤ cap) (w : World) (h : TS18 w ao k) (hnb : n ≤ 4194306) (hsz : (Lib.join k [44, 32]).length ≤ 140737488355328) :
  Calls Tryz.prog 79 #[.slice ao n cap, .string ⟨#[44, 32]⟩] w fun e w' => e = .returned (.string ⟨(Lib.join k [44, 32]).toArray⟩) ∧ Below w.heap.size w w' := by
 cases k with
 | nil =>
  obtain rfl : 0 = n := hn;refine (Tryz.strings_Join_none ao cap ⟨#[44, 32]⟩ w).mono ?_;rintro e w' ⟨rfl, rfl⟩;exact ⟨rfl, Below.refl _ _⟩
 | cons p r =>
  obtain ⟨g, o, rfl, hg, _⟩ := h 0 p rfl;obtain ⟨xs, hxs⟩ : ∃ xs : List ByteArray, xs = (p :: r).map (fun x => (⟨x.toArray⟩ : ByteArray)) := ⟨_, rfl⟩;have e1 : xs.map (·.data.toList) = p :: r := by rw [hxs, List.map_map]; simp [Function.comp_def]
  have e2 : xs.length = n := by rw [hxs, List.length_map]; exact hn
  have c := Tryz.strings_Join g o cap xs ⟨#[44, 32]⟩ w (fun j x hx => by
   rw [hxs, List.getElem?_map] at hx;obtain ⟨q, hq, rfl⟩ := Option.map_eq_some_iff.1 hx;obtain ⟨g', o', hg', _, h2⟩ := h j q hq;injection hg' with hg';injection hg' with hg' ho';subst hg' ho';exact h2) hg (by omega) (by rw [e2]; exact hc) (by
    rw [e1, show (⟨#[44, 32]⟩ : ByteArray).data.toList = [44, 32] from rfl]; exact hsz)
  rw [e1, e2, show (⟨#[44, 32]⟩ : ByteArray).data.toList = [44, 32] from rfl] at c;exact c

set_option maxRecDepth 20000 in
theorem callow18 (pa : Option Addr) (n pc mb : Nat) (f : ByteArray → Option En18) (k : Nat) (es : Array MapEntry) (clock : Nat) (rs : List Rt.Ro) (q : List Rt.Prt) (w : World) (hm : Mp kU18 eU18 w mb f k es clock) (hk : k ≤ 256) (hs : ∀ m e, f m = some e → m.size ≤ 4194304) (hq : ∀ x : List UInt8, (∃ m : ByteArray, m.data.toList = x ∧ (f m).isSome = true) ↔ ∃ r ∈ rs, Rt.shape (Rt.pat r) q = true ∧ r.m = x) (hne : ∀ r ∈ rs, Rt.shape (Rt.pat r) q = true → r.m ≠ []) :
  Calls Tryz.prog 58 #[.agg #[.slice pa n pc, .map (some mb)]] w fun e w' => e = .returned (.string ⟨(Rt.allow rs q).toArray⟩) ∧ Below w.heap.size w w' := by
 obtain ⟨D, hD, hDs, hDk⟩ := mp_own18 (hm.other (w' := w.alloc (.cells #[.slice pa n pc, .map (some mb)] 92)) ((bl_alloc17 w _).block mb hm.lt)) hk hs;have HC := hid' (ckeys18 mb k D hDs _ hD);have HPL : Hid (∀ ss : List (List UInt8), ss.Perm (strKeys D) → ss.length ≤ 256 ∧ (∀ x ∈ ss, x.length ≤ 4194304) ∧ Lib.join (Lib.compact ((Rt.lst ss).mergeSort (fun x y => decide (x ≤ y)))) [44, 32] = Rt.allow rs q) := hid' (fun ss hp => by
  have hmem : ∀ x, x ∈ ss ↔ ∃ r ∈ rs, Rt.shape (Rt.pat r) q = true ∧ r.m = x := fun x => by rw [hp.mem_iff, hDk, hq]
  refine ⟨?_, fun x hx => ?_, Rt.allow_join hmem (fun x hx => ?_)⟩
  ·rw [hp.length_eq];obtain ⟨es', e, _⟩ := hD.keysOf;rw [e] at hDs ⊢;simpa [strKeys, Maps.size_eq] using hDs
  ·rw [hp.mem_iff, hDk] at hx;obtain ⟨m, rfl, hf⟩ := hx;obtain ⟨e, he⟩ := Option.isSome_iff_exists.1 hf;have := hs m e he;rw [Lib.size_eq] at this;exact this
  ·obtain ⟨r, hr, h1, rfl⟩ := (hmem x).1 hx;exact hne r hr h1)
 obtain ⟨i0, hi0, hz0, hz1, hz2⟩ := minfo17 infoStr18;have HI := hid' hi0;have HZ0 := hid' hz0;have HZ1 := hid' hz1;have HZ2 := hid' hz2;clear hi0 hz0 hz1 hz2 hD hDs hDk hm hk hs hq hne;obtain ⟨w1, hw1⟩ : ∃ w1, w.alloc (.cells #[.slice pa n pc, .map (some mb)] 92) = w1 := ⟨_, rfl⟩;have HA1 : Hid (Ar w1 w.heap.size 92 #[.slice pa n pc, .map (some mb)]) := hid' (by rw [← hw1]; exact heap_alloc_last w _);have HB1 : Hid (Below w.heap.size w w1) := hid' (by rw [← hw1]; exact bl_alloc17 w _);rw [hw1] at HC;have s1 := HA1.out.cell 1 _ rfl;go_enter Tryz.func58, Tryz.ntmps58;go_wp2_with fail;refine (ckeysF18 (some mb) w1).mono ?_;rintro e w2 ⟨rfl, hw2⟩;subst w2;go_wp2_with fail;refine HC.out.mono ?_;rintro e w2 ⟨⟨ao, cap, ss, rfl, hss, hown⟩, hb2⟩;obtain ⟨hl, hxl, hal⟩ := HPL.out ss hss;have HAL := hid' hal;have HXL := hid' hxl;have HO := hid' hown;have HB2 := hid' hb2;clear hss hown hb2 hxl hal HC HPL s1 hw1;have HA : Hid ((w2.alloc (.cells #[.string ⟨#[79, 80, 84, 73, 79, 78, 83]⟩] 9)).ownsRow w1.heap.size 9 1 (.slice ao ss.length cap) ss.length (sC17 ss)) := hid' (HO.out.alloc _);go_wp2_with (at_builtin; refine wpList_append_own_at _ rfl _ _ 76 rfl w1.heap.size 9 i0 (.string ⟨#[]⟩) 1 16 Tryz.underlying76 HI.out HZ0.out HZ1.out HZ2.out rfl (by decide) (.slice ao ss.length cap) ss.length (sC17 ss) rfl HA.out ⟨w2.heap.size, 0, none⟩ 1 1 [.string ⟨#[79, 80, 84, 73, 79, 78, 83]⟩] rfl rfl (one_cell17 _ _ _) (by simp [Value.oneCell']) (by unfold maxLen; omega) (by omega) (by simp; have := HB2.out.size; omega) ?_; intro v3 w3 hown3 hgrow3 _ _; refine Hid.out ?_);refine hid' ?_;have e3 : sC17 ss ++ [Value.string ⟨#[79, 80, 84, 73, 79, 78, 83]⟩] = sC17 (ss ++ [Rt.sOPT]) := by rw [sC17_app]; rfl
 rw [e3] at hown3;obtain ⟨v3o, v3c, hv3⟩ := own_shape17 hown3;subst hv3;obtain ⟨s3, hs3⟩ : ∃ s3, ss ++ [Rt.sOPT] = s3 := ⟨_, rfl⟩;have hl3 : s3.length = ss.length + 1 := by rw [← hs3]; simp
 rw [hs3, ← hl3] at hown3;have HO3 := hid' hown3;have HB3 : Hid (Below w1.heap.size w1 w3) := hid' ((HB2.out.alloc HB2.out.size _).grown hgrow3 (by simp; have := HB2.out.size; omega) (fun k hk => (HA.out.lt k hk).1));have HN3 : Hid (s3 ≠ []) := hid' (by rw [← hs3]; simp);have HLS : Hid (Rt.lst ss = if Rt.sGET ∈ s3 then s3 ++ [Rt.sHEAD] else s3) := hid' (by rw [← hs3]; rfl);have HX3 : Hid (∀ x ∈ s3, x.length ≤ 4194304) := hid' (fun x hx => by
  rw [← hs3] at hx;rcases List.mem_append.1 hx with h | h
  ·exact HXL.out x h
  ·simp at h; subst h; decide)
 have hl3b : s3.length ≤ 257 := by omega
 rw [← hl3];clear hown3 hgrow3 e3 hs3 hl3 hl;have HCT := hid' (ccont18 v3o v3c s3 Rt.sGET HN3.out (by omega) w3 HO3.out);go_wp2_with fail;refine HCT.out.mono ?_;rintro e w4 ⟨rfl, hw4⟩;subst w4;by_cases hg : Rt.sGET ∈ s3
 ·rw [decide_eq_true hg];have HL : Hid (Rt.lst ss = s3 ++ [Rt.sHEAD]) := hid' (by rw [HLS.out, if_pos hg]);clear hg;have HA4 : Hid ((w3.alloc (.cells #[.string ⟨#[72, 69, 65, 68]⟩] 9)).ownsRow w1.heap.size 9 1 (.slice v3o s3.length v3c) s3.length (sC17 s3)) := hid' (HO3.out.alloc _);go_wp2_with (at_builtin; refine wpList_append_own_at _ rfl _ _ 76 rfl w1.heap.size 9 i0 (.string ⟨#[]⟩) 1 16 Tryz.underlying76 HI.out HZ0.out HZ1.out HZ2.out rfl (by decide) (.slice v3o s3.length v3c) s3.length (sC17 s3) rfl HA4.out ⟨w3.heap.size, 0, none⟩ 1 1 [.string ⟨#[72, 69, 65, 68]⟩] rfl rfl (one_cell17 _ _ _) (by simp [Value.oneCell']) (by unfold maxLen; omega) (by omega) (by simp; have := HB3.out.size; omega) ?_; intro v5 w5 hown5 hgrow5 _ _; refine Hid.out ?_);refine hid' ?_;have e5 : sC17 s3 ++ [Value.string ⟨#[72, 69, 65, 68]⟩] = sC17 (s3 ++ [Rt.sHEAD]) := by rw [sC17_app]; rfl
  rw [e5] at hown5;obtain ⟨v5o, v5c, hv5⟩ := own_shape17 hown5;subst hv5;obtain ⟨s5, hs5⟩ : ∃ s5, s3 ++ [Rt.sHEAD] = s5 := ⟨_, rfl⟩;have hl5 : s5.length = s3.length + 1 := by rw [← hs5]; simp
  rw [hs5, ← hl5] at hown5;rw [hs5] at HL;have HO5 := hid' hown5;have HB5 : Hid (Below w1.heap.size w1 w5) := hid' ((HB3.out.alloc HB3.out.size _).grown hgrow5 (by simp; have := HB3.out.size; omega) (fun k hk => (HA4.out.lt k hk).1));have HN5 : Hid (s5 ≠ []) := hid' (by rw [← hs5]; simp);have HX5 : Hid (∀ x ∈ s5, x.length ≤ 4194304) := hid' (fun x hx => by
   rw [← hs5] at hx;rcases List.mem_append.1 hx with h | h
   ·exact HX3.out x h
   ·simp at h; subst h; decide)
  have hl5b : s5.length ≤ 258 := by omega
  rw [← hl5];clear hown5 hgrow5 e5 hs5 hl5 hl3b;have HSO := hid' (csort18 v5o v5c s5 HN5.out (by omega) w5 HB5.out.size HO5.out);have HLM : Hid ((s5.mergeSort (fun x y => decide (x ≤ y))).length = s5.length) := hid' (Rt.sort_perm s5).length_eq;have HXM : Hid (∀ x ∈ s5.mergeSort (fun x y => decide (x ≤ y)), x.length ≤ 4194304) := hid' (fun x hx => HX5.out x ((Rt.sort_perm s5).mem_iff.1 hx));have HNM : Hid (s5.mergeSort (fun x y => decide (x ≤ y)) ≠ []) := hid' (fun e => HN5.out (List.eq_nil_of_length_eq_zero (by rw [← HLM.out, e]; rfl)));rw [HL.out] at HAL;generalize s5.mergeSort (fun x y => decide (x ≤ y)) = sm at *;go_wp2_with fail;refine HSO.out.mono ?_;rintro e w6 ⟨rfl, ho6, hb6⟩;have HB6 : Hid (Below w1.heap.size w1 w6) := hid' (HB5.out.trans hb6);rw [← HLM.out] at ho6;have HCO := hid' (ccomp18 v5o v5c sm HNM.out (by rw [HLM.out]; omega) w6 HB6.out.size ho6);rw [HLM.out] at HCO;clear ho6 hb6;go_wp2_with fail;refine HCO.out.mono ?_;rintro e w7 ⟨cl, rfl, hcl, hcc, hts, hb7⟩;have HB7 : Hid (Below w1.heap.size w1 w7) := hid' (HB6.out.trans hb7);have hclb : cl ≤ 258 := by have := Lib.compact_length_le sm; rw [hcl, HLM.out] at this; omega
  have HJN := hid' (cjoinC18 v5o cl v5c (Lib.compact sm) hcl hcc w7 hts (by omega) (by
   have := Rt.join_len18 (Lib.compact sm) 4194304 (fun x hx => by
    have hx2 : x ∈ sm := by
     unfold Lib.compact Lib.compactUpTo at hx;obtain ⟨j, hj, rfl⟩ := List.mem_map.1 hx;have hjl : j < sm.length := List.mem_range.1 (List.mem_filter.1 hj).1;have : sm.toArray[j]! = sm[j] := by simp [hjl]
     rw [this];exact List.getElem_mem hjl
    exact HXM.out x hx2)
   rw [hcl] at this;have h2 : cl * (4194304 + 2) ≤ 258 * (4194304 + 2) := Nat.mul_le_mul_right _ hclb;omega))
  rw [HAL.out] at HJN;clear hcl hcc hts hb7 hclb;go_wp2_with fail;refine HJN.out.mono ?_;rintro e w8 ⟨rfl, hb8⟩;have HB8 : Hid (Below w1.heap.size w1 w8) := hid' (HB7.out.trans (hb8.mono HB7.out.size));clear hb8;go_wp2;go_ret;exact ⟨rfl, below_two HB1.out HB8.out⟩
 ·rw [decide_eq_false hg];have HL : Hid (Rt.lst ss = s3) := hid' (by rw [HLS.out, if_neg hg]);clear hg;have HSO := hid' (csort18 v3o v3c s3 HN3.out (by omega) w3 HB3.out.size HO3.out);have HLM : Hid ((s3.mergeSort (fun x y => decide (x ≤ y))).length = s3.length) := hid' (Rt.sort_perm s3).length_eq;have HXM : Hid (∀ x ∈ s3.mergeSort (fun x y => decide (x ≤ y)), x.length ≤ 4194304) := hid' (fun x hx => HX3.out x ((Rt.sort_perm s3).mem_iff.1 hx));have HNM : Hid (s3.mergeSort (fun x y => decide (x ≤ y)) ≠ []) := hid' (fun e => HN3.out (List.eq_nil_of_length_eq_zero (by rw [← HLM.out, e]; rfl)));rw [HL.out] at HAL;generalize s3.mergeSort (fun x y => decide (x ≤ y)) = sm at *;go_wp2_with fail;refine HSO.out.mono ?_;rintro e w6 ⟨rfl, ho6, hb6⟩;have HB6 : Hid (Below w1.heap.size w1 w6) := hid' (HB3.out.trans hb6);rw [← HLM.out] at ho6;have HCO := hid' (ccomp18 v3o v3c sm HNM.out (by rw [HLM.out]; omega) w6 HB6.out.size ho6);rw [HLM.out] at HCO;clear ho6 hb6;go_wp2_with fail;refine HCO.out.mono ?_;rintro e w7 ⟨cl, rfl, hcl, hcc, hts, hb7⟩;have HB7 : Hid (Below w1.heap.size w1 w7) := hid' (HB6.out.trans hb7);have hclb : cl ≤ 258 := by have := Lib.compact_length_le sm; rw [hcl, HLM.out] at this; omega
  have HJN := hid' (cjoinC18 v3o cl v3c (Lib.compact sm) hcl hcc w7 hts (by omega) (by
   have := Rt.join_len18 (Lib.compact sm) 4194304 (fun x hx => by
    have hx2 : x ∈ sm := by
     unfold Lib.compact Lib.compactUpTo at hx;obtain ⟨j, hj, rfl⟩ := List.mem_map.1 hx;have hjl : j < sm.length := List.mem_range.1 (List.mem_filter.1 hj).1;have : sm.toArray[j]! = sm[j] := by simp [hjl]
     rw [this];exact List.getElem_mem hjl
    exact HXM.out x hx2)
   rw [hcl] at this;have h2 : cl * (4194304 + 2) ≤ 258 * (4194304 + 2) := Nat.mul_le_mul_right _ hclb;omega))
  rw [HAL.out] at HJN;clear hcl hcc hts hb7 hclb;go_wp2_with fail;refine HJN.out.mono ?_;rintro e w8 ⟨rfl, hb8⟩;have HB8 : Hid (Below w1.heap.size w1 w8) := hid' (HB7.out.trans (hb8.mono HB7.out.size));clear hb8;go_wp2;go_ret;exact ⟨rfl, below_two HB1.out HB8.out⟩

end Go.Proofs.YthhpejgpfaikaabGreatDoor
