/-
  strings.Join of a slice of texts; the parts' catch: by their contracts.
-/
import Derived.Test.YtcfbobegbmcbeaaGreatDoorPkBA
import Derived.RangeFuncBox
import Derived.RangeFuncLeaves
import Derived.RangeFuncNested
import Derived.RangeFuncBound
import Derived.RangeFuncCalls
import Derived.Shelf.Abstract
import Derived.Shelf.AbstractIn
import Derived.Shelf.RegionOpen
import Derived.WalkKit
import Derived.OwnWalkIn
import Derived.TacticsInMore
import Derived.LoopNIn
import Derived.LoopIn
import Derived.Maps.AppendAt
import Derived.Sort.OwnSorted
import Derived.Sort.KeysCollected
import Derived.Lib.SlicesCompact
import Derived.Lib.RowBridge
import Derived.Test.YtcfbobegbmcbeaaGreatDoorPkAY
namespace Go.Proofs.YtcfbobegbmcbeaaGreatDoor
open Go.RowKit

theorem cjoin18 (ao : Option Addr) (n cap : Nat) (k : List (List UInt8)) (hn : k.length = n) (hc : n ≤ cap) (w : World) (h : TS18 w ao k) (hsz : (k.map List.length).sum + k.length ≤ 16777216) :
  Calls Tryz.prog 81 #[.slice ao n cap, .string ⟨#[47]⟩] w fun e w' => e = .returned (.string ⟨(Pt.join k).toArray⟩) ∧ Below w.heap.size w w' := by
 cases k with
 | nil =>
  obtain rfl : 0 = n := hn
  refine (Tryz.strings_Join_none ao cap ⟨#[47]⟩ w).mono ?_
  rintro e w' ⟨rfl, rfl⟩
  exact ⟨rfl, Below.refl _ _⟩
 | cons p r =>
  obtain ⟨g, o, rfl, hg, _⟩ := h 0 p rfl
  obtain ⟨xs, hxs⟩ : ∃ xs : List ByteArray, xs = (p :: r).map (fun x => (⟨x.toArray⟩ : ByteArray)) := ⟨_, rfl⟩
  have e1 : xs.map (·.data.toList) = p :: r := by rw [hxs, List.map_map]; simp [Function.comp_def]
  have e2 : xs.length = n := by rw [hxs, List.length_map]; exact hn
  have hj := Pt.join_len (p :: r)
  have c := Tryz.strings_Join g o cap xs ⟨#[47]⟩ w (fun j x hx => by
   rw [hxs, List.getElem?_map] at hx
   obtain ⟨q, hq, rfl⟩ := Option.map_eq_some_iff.1 hx
   obtain ⟨g', o', hg', _, h2⟩ := h j q hq
   injection hg' with hg'
   injection hg' with hg' ho'
   subst hg' ho'
   exact h2) hg (by rw [e2, ← hn]; omega) (by rw [e2]; exact hc) (by
    rw [e1, show (⟨#[47]⟩ : ByteArray).data.toList = [47] from rfl, Pt.join_lib]; omega)
  rw [e1, e2, show (⟨#[47]⟩ : ByteArray).data.toList = [47] from rfl, Pt.join_lib] at c
  exact c

set_option maxHeartbeats 1000000 in
theorem catchP18 (s : ByteArray) (ro : Option Addr) (c rc : Nat) (ao : Option Addr) (n cap : Nat) (f : Bool) (w : World) :
  Calls Tryz.prog 287 #[.string s, .slice ro c rc, .slice ao n cap, .bool f] w fun e w' => e = .returned (.slice ro c rc) ∧ Below w.heap.size w w' := by
 go_enter Tryz.func287, Tryz.ntmps287
 go_wp2
 go_ret
 exact ⟨rfl, Below.refl _ _⟩
def ctR18 (B : Nat) (c : Nat) (Z : List (List UInt8)) (x : List UInt8) (w : World) (e : Ending) (w' : World) : Prop := ∃ ro rc, e = .returned (.slice ro (c + 1) rc) ∧ w'.ownsRow B 9 1 (.slice ro (c + 1) rc) (c + 1) (sC17 (Z ++ [x])) ∧ Below B w w'

set_option maxHeartbeats 1000000 in
theorem catchC18 (B : Nat) (ro : Option Addr) (c rc : Nat) (Z : List (List UInt8)) (ao : Option Addr) (cap : Nat) (x : List UInt8) (f : Bool) (hcb : c ≤ 4194305) (w : World) (hB : B ≤ w.heap.size) (hO : w.ownsRow B 9 1 (.slice ro c rc) c (sC17 Z)) (h : TS18 w ao [x]) :
  Calls Tryz.prog 295 #[.agg #[], .slice ro c rc, .slice ao 1 cap, .bool f] w (ctR18 B c Z x w) := by
 obtain ⟨i0, hi0, hz0, hz1, hz2⟩ := minfo17 infoS17
 have HI := hid' hi0
 have HZ0 := hid' hz0
 have HZ1 := hid' hz1
 have HZ2 := hid' hz2
 clear hi0 hz0 hz1 hz2
 obtain ⟨g, o, rfl, hg, hc⟩ := h 0 x rfl
 have HA : Hid ((w.alloc (.cells #[] 150)).ownsRow B 9 1 (.slice ro c rc) c (sC17 Z)) := hid' (hO.alloc _)
 have HC : Hid (∀ j u, [Value.string ⟨x.toArray⟩][j]? = some u → (w.alloc (.cells #[] 150)).cell? ((⟨g, o, none⟩ : Addr).add j) = some u) := hid' (fun j u hj => by
  cases j with
  | zero =>
   simp at hj
   subst hj
   rw [Addr.add_mid]
   exact ((bl_alloc17 w _).cell (p := ⟨g, o + 0, none⟩) hg).trans hc
  | succ j => simp at hj)
 have HBW := hid' hB
 have HO := hid' hO
 clear h hg hc hO hB
 go_enter Tryz.func295, Tryz.ntmps295
 go_wp2_with (at_builtin; refine wpList_append_own_at _ rfl _ _ 78 rfl B 9 i0 (.string ⟨#[]⟩) 1 16 Tryz.underlying78 HI.out HZ0.out HZ1.out HZ2.out rfl (by decide) (.slice ro c rc) c (sC17 Z) rfl HA.out ⟨g, o, none⟩ 1 cap [.string ⟨x.toArray⟩] rfl rfl HC.out (by simp [Value.oneCell']) (by unfold maxLen; omega) (by omega) (by simp; have := HBW.out; omega) ?_; intro v3 w3 hown3 hgrow3 _ _; refine Hid.out ?_)
 refine hid' ?_
 have e : sC17 Z ++ [Value.string ⟨x.toArray⟩] = sC17 (Z ++ [x]) := by rw [sC17_app]; rfl
 rw [e] at hown3
 obtain ⟨v3o, v3c, hv3⟩ := own_shape17 hown3
 subst hv3
 have HO3 := hid' hown3
 have HB3 : Hid (Below B w w3) := hid' (((Below.refl B w).alloc HBW.out _).grown hgrow3 (by simp; have := HBW.out; omega) (fun k hk => (HA.out.lt k hk).1))
 clear hown3 hgrow3 e
 go_wp2
 go_ret
 exact ⟨v3o, v3c, rfl, HO3.out, HB3.out⟩

set_option maxHeartbeats 2000000 in
set_option maxRecDepth 20000 in
theorem catchR18 (B : Nat) (ro : Option Addr) (c rc : Nat) (Z : List (List UInt8)) (ao : Option Addr) (n cap : Nat) (k : List (List UInt8)) (f : Bool) (hn : k.length = n) (hcp : n ≤ cap) (hsz : (k.map List.length).sum + k.length ≤ 16777216) (hcb : c ≤ 4194305) (w : World) (hB : B ≤ w.heap.size) (hO : w.ownsRow B 9 1 (.slice ro c rc) c (sC17 Z)) (h : TS18 w ao k) :
  Calls Tryz.prog 291 #[.agg #[], .slice ro c rc, .slice ao n cap, .bool f] w (ctR18 B c Z (Pt.join k ++ (if !k.isEmpty && f then [47] else [])) w) := by
 obtain ⟨i0, hi0, hz0, hz1, hz2⟩ := minfo17 infoS17
 have HI := hid' hi0
 have HZ0 := hid' hz0
 have HZ1 := hid' hz1
 have HZ2 := hid' hz2
 clear hi0 hz0 hz1 hz2
 have hJL : (Pt.join k).length ≤ 16777216 := Nat.le_trans (Pt.join_len _) hsz
 have HJ := hid' (cjoin18 ao n cap k hn hcp (w.alloc (.cells #[] 149)) (h.below (bl_alloc17 w _)) hsz)
 obtain ⟨V, hV⟩ : ∃ V, Pt.join k ++ (if !k.isEmpty && f then [47] else []) = V := ⟨_, rfl⟩
 rw [hV]
 obtain ⟨J, hJ⟩ : ∃ J, Pt.join k = J := ⟨_, rfl⟩
 rw [hJ] at HJ hJL hV
 obtain ⟨jj, hjj⟩ : ∃ z : ByteArray, (⟨J.toArray⟩ : ByteArray) = z := ⟨_, rfl⟩
 have kk1 : ¬ 9223372036854775807 < jj.size + 1 := by rw [← hjj]; simp [ByteArray.size]; omega
 have HBW := hid' hB
 have HO := hid' hO
 rw [hjj] at HJ
 cases f
 ·rw [Bool.and_false] at hV
  simp only [Bool.false_eq_true, if_false] at hV
  have hzz : jj = jj := rfl
  have HVZ : Hid ((⟨V.toArray⟩ : ByteArray) = jj) := hid' (by rw [← hV, ← hjj]; simp)
  clear hV hJ hjj hn hsz hO h hB hJL hzz
  go_enter Tryz.func291, Tryz.ntmps291
  go_wp2_with fail
  refine HJ.out.mono ?_
  rintro e w1 ⟨rfl, hb1⟩
  have HB1 : Hid (Below w.heap.size w w1) := hid' (below_two (bl_alloc17 w _) hb1)
  clear hb1
  have HSZ1 : Hid (B ≤ w1.heap.size) := hid' (Nat.le_trans HBW.out HB1.out.size)
  have HA : Hid ((w1.alloc (.cells #[.string jj] 9)).ownsRow B 9 1 (.slice ro c rc) c (sC17 Z)) := hid' ((own_kp17 HO.out HB1.out).alloc _)
  go_wp2_with (at_builtin; refine wpList_append_own_at _ rfl _ _ 78 rfl B 9 i0 (.string ⟨#[]⟩) 1 16 Tryz.underlying78 HI.out HZ0.out HZ1.out HZ2.out rfl (by decide) (.slice ro c rc) c (sC17 Z) rfl HA.out ⟨w1.heap.size, 0, none⟩ 1 1 [.string jj] rfl rfl (one_cell17 _ _ _) (by simp [Value.oneCell']) (by unfold maxLen; omega) (by omega) (by simp; have := HSZ1.out; omega) ?_; intro v3 w3 hown3 hgrow3 _ _; refine Hid.out ?_)
  refine hid' ?_
  have e : sC17 Z ++ [Value.string jj] = sC17 (Z ++ [V]) := by rw [sC17_app, ← HVZ.out]; rfl
  rw [e] at hown3
  obtain ⟨v3o, v3c, hv3⟩ := own_shape17 hown3
  subst hv3
  have HO3 := hid' hown3
  have HB3 : Hid (Below B w w3) := hid' (((HB1.out.mono HBW.out).alloc HSZ1.out _).grown hgrow3 (by simp; have := HSZ1.out; omega) (fun k hk => (HA.out.lt k hk).1))
  clear hown3 hgrow3 e
  go_wp2
  go_ret
  exact ⟨v3o, v3c, rfl, HO3.out, HB3.out⟩
 ·by_cases hk : k = []
  ·obtain rfl : 0 = n := by rw [← hn, hk]; rfl
   rw [hk] at hV
   simp only [List.isEmpty_nil, Bool.not_true, Bool.false_and, Bool.false_eq_true, if_false] at hV
   clear hk
   have hzz : jj = jj := rfl
   have HVZ : Hid ((⟨V.toArray⟩ : ByteArray) = jj) := hid' (by rw [← hV, ← hjj]; simp)
   clear hV hJ hjj hsz hO h hB hJL hzz
   go_enter Tryz.func291, Tryz.ntmps291
   go_wp2_with fail
   refine HJ.out.mono ?_
   rintro e w1 ⟨rfl, hb1⟩
   have HB1 : Hid (Below w.heap.size w w1) := hid' (below_two (bl_alloc17 w _) hb1)
   clear hb1
   have HSZ1 : Hid (B ≤ w1.heap.size) := hid' (Nat.le_trans HBW.out HB1.out.size)
   have HA : Hid ((w1.alloc (.cells #[.string jj] 9)).ownsRow B 9 1 (.slice ro c rc) c (sC17 Z)) := hid' ((own_kp17 HO.out HB1.out).alloc _)
   go_wp2_with (at_builtin; refine wpList_append_own_at _ rfl _ _ 78 rfl B 9 i0 (.string ⟨#[]⟩) 1 16 Tryz.underlying78 HI.out HZ0.out HZ1.out HZ2.out rfl (by decide) (.slice ro c rc) c (sC17 Z) rfl HA.out ⟨w1.heap.size, 0, none⟩ 1 1 [.string jj] rfl rfl (one_cell17 _ _ _) (by simp [Value.oneCell']) (by unfold maxLen; omega) (by omega) (by simp; have := HSZ1.out; omega) ?_; intro v3 w3 hown3 hgrow3 _ _; refine Hid.out ?_)
   refine hid' ?_
   have e : sC17 Z ++ [Value.string jj] = sC17 (Z ++ [V]) := by rw [sC17_app, ← HVZ.out]; rfl
   rw [e] at hown3
   obtain ⟨v3o, v3c, hv3⟩ := own_shape17 hown3
   subst hv3
   have HO3 := hid' hown3
   have HB3 : Hid (Below B w w3) := hid' (((HB1.out.mono HBW.out).alloc HSZ1.out _).grown hgrow3 (by simp; have := HSZ1.out; omega) (fun k hk => (HA.out.lt k hk).1))
   clear hown3 hgrow3 e
   go_wp2
   go_ret
   exact ⟨v3o, v3c, rfl, HO3.out, HB3.out⟩
  ·have hn0 : (0 : Int) < (n : Int) := by have := List.length_pos_iff.2 hk; omega
   have hke : k.isEmpty = false := by rw [List.isEmpty_eq_false_iff]; exact hk
   rw [hke] at hV
   simp only [Bool.not_false, Bool.true_and, if_true] at hV
   clear hk hke
   obtain ⟨zz, hzz⟩ : ∃ z : ByteArray, jj ++ ⟨#[47]⟩ = z := ⟨_, rfl⟩
   have HVZ : Hid ((⟨V.toArray⟩ : ByteArray) = zz) := hid' (by rw [← hV, ← hzz, ← hjj]; apply ByteArray.ext; simp)
   clear hV hJ hjj hn hsz hO h hB hJL
   go_enter Tryz.func291, Tryz.ntmps291
   go_wp2_with fail
   refine HJ.out.mono ?_
   rintro e w1 ⟨rfl, hb1⟩
   have HB1 : Hid (Below w.heap.size w w1) := hid' (below_two (bl_alloc17 w _) hb1)
   clear hb1
   have HSZ1 : Hid (B ≤ w1.heap.size) := hid' (Nat.le_trans HBW.out HB1.out.size)
   have HA : Hid ((w1.alloc (.cells #[.string zz] 9)).ownsRow B 9 1 (.slice ro c rc) c (sC17 Z)) := hid' ((own_kp17 HO.out HB1.out).alloc _)
   go_wp2_with (at_builtin; refine wpList_append_own_at _ rfl _ _ 78 rfl B 9 i0 (.string ⟨#[]⟩) 1 16 Tryz.underlying78 HI.out HZ0.out HZ1.out HZ2.out rfl (by decide) (.slice ro c rc) c (sC17 Z) rfl HA.out ⟨w1.heap.size, 0, none⟩ 1 1 [.string zz] rfl rfl (one_cell17 _ _ _) (by simp [Value.oneCell']) (by unfold maxLen; omega) (by omega) (by simp; have := HSZ1.out; omega) ?_; intro v3 w3 hown3 hgrow3 _ _; refine Hid.out ?_)
   refine hid' ?_
   have e : sC17 Z ++ [Value.string zz] = sC17 (Z ++ [V]) := by rw [sC17_app, ← HVZ.out]; rfl
   rw [e] at hown3
   obtain ⟨v3o, v3c, hv3⟩ := own_shape17 hown3
   subst hv3
   have HO3 := hid' hown3
   have HB3 : Hid (Below B w w3) := hid' (((HB1.out.mono HBW.out).alloc HSZ1.out _).grown hgrow3 (by simp; have := HSZ1.out; omega) (fun k hk => (HA.out.lt k hk).1))
   clear hown3 hgrow3 e
   go_wp2
   go_ret
   exact ⟨v3o, v3c, rfl, HO3.out, HB3.out⟩

open Go.RowKit Go.Shelf Go.Sort

attribute [local go_sem] Oper.semAt_some

def Txs18 (n₀ : Nat) (W : World) (sv : Value) (zs : List (List UInt8)) : Prop :=
 (sv = .slice none 0 0 ∧ zs = []) ∨ ∃ b cap, sv = .slice (some ⟨b, 0, none⟩) zs.length cap ∧ b < n₀ ∧ ∀ (j : Nat) (z : List UInt8), zs[j]? = some z → W.cell? ⟨b, j, none⟩ = some (encStr z)
theorem Txs18.below {n₀ : Nat} {A B : World} (h : Below n₀ A B) {sv : Value} {zs : List (List UInt8)} (hx : Txs18 n₀ A sv zs) : Txs18 n₀ B sv zs := by
 rcases hx with e | ⟨b, cap, e, hb, hc⟩
 ·exact .inl e
 ·exact .inr ⟨b, cap, e, hb, fun j z hz => (h.cell (p := ⟨b, j, none⟩) hb).trans (hc j z hz)⟩

set_option maxRecDepth 100000 in
set_option maxHeartbeats 2000000 in
theorem valA18 (F : Fence) (n : Nat) (h7 : F.fn 99) (hro : F.round = none) (hn : 1 ≤ n) (l Bs n₀ b cap len : Nat) (zs : List (List UInt8)) (hlen : zs.length = len) (hreach : len ≤ 4194306) (hb : b < n₀) (J Jx : List (List UInt8) → World → Prop)
  (hY : ∀ pre x W, J pre W → pre.length < zs.length → YieldAt F (n - 1) Tryz.prog l #[encStr x] W fun e W' =>
   (e = .returned (.bool true) ∧ J (pre ++ [x]) W' ∧ Below n₀ W W') ∨ (e = .returned (.bool false) ∧ Jx (pre ++ [x]) W'))
  (W : World) (hBs : W.cell? ⟨Bs, 0, none⟩ = some (.slice (some ⟨b, 0, none⟩) len cap)) (hc : ∀ (j : Nat) (z : List UInt8), zs[j]? = some z → W.cell? ⟨b, j, none⟩ = some (encStr z)) (h0 : J [] W) :
  CallsIn F n Tryz.prog 99 #[.func (.yield l) #[] #[], .pointer (some ⟨Bs, 0, none⟩)] W fun e W' => (∃ v, e = .returned v) ∧ ((∃ ys, ys = zs ∧ J ys W') ∨ (∃ pre, pre <+: zs ∧ Jx pre W')) := by
 refine callsIn_of_wp Tryz.func99 rfl h7 ?_ hro
 simp only [Tryz.ntmps99, List.size_toArray, List.length_cons, List.length_nil, Nat.reduceAdd, Nat.reduceSub, Array.replicate_succ, Array.replicate_zero, List.push_toArray, List.append_toArray, List.nil_append, List.cons_append]
 gi_wp2
 gi_loopw [7] (fun i wr => ∃ k : Nat, k ≤ len ∧ i = .int .i64 k ∧ J (zs.take k) wr ∧ Below n₀ W wr)
  (fun i _ => len - (intOf i).toNat)
 case atStart => exact ⟨0, Nat.zero_le _, rfl, h0, Below.refl _ _⟩
 case round =>
  obtain ⟨k, hk, rfl, hJs, hnx⟩ := hrel
  by_cases hlt : k < len
  ·obtain ⟨z, hz⟩ : ∃ z, zs[k]? = some z := ⟨_, List.getElem?_eq_getElem (by rw [hlen]; exact hlt)⟩
   have hcx : wr.cell? ⟨b, k, none⟩ = some (encStr z) := (hnx.cell (p := ⟨b, k, none⟩) hb).trans (hc k z hz)
   have htk : zs.take (k + 1) = zs.take k ++ [z] := by rw [List.take_add_one, hz]; rfl
   obtain ⟨fn, tmps, assign, body, hy, hR⟩ := hY _ z wr hJs (by rw [List.length_take, hlen]; omega)
   unfold encStr at hcx hy
   gi_wp2
   refine hR.mono ?_
   rintro e W3 (⟨rfl, hJ3, hk3⟩ | ⟨rfl, hJx3⟩)
   ·gi_wp2
    go_roundw
    case rel => exact ⟨k + 1, by omega, by simp, by rw [htk]; exact hJ3, hnx.trans hk3⟩
    case measure => simp [intOf]; omega
   ·gi_wp2
    refine bodyPost_ret (results_none rfl _ _ _) rfl ?_
    exact ⟨⟨_, rfl⟩, .inr ⟨_, by rw [← htk]; exact List.take_prefix _ _, hJx3⟩⟩
  ·obtain rfl : k = len := by omega
   gi_wp2
   go_end0
   exact ⟨⟨_, rfl⟩, .inl ⟨_, List.take_of_length_le (by omega), hJs⟩⟩

set_option maxRecDepth 100000 in
set_option maxHeartbeats 1000000 in
theorem valN18 (F : Fence) (n : Nat) (h7 : F.fn 99) (hro : F.round = none) (l Bs : Nat) (J : List (List UInt8) → World → Prop) (W : World) (hBs : W.cell? ⟨Bs, 0, none⟩ = some (.slice none 0 0)) (h0 : J [] W) :
  CallsIn F n Tryz.prog 99 #[.func (.yield l) #[] #[], .pointer (some ⟨Bs, 0, none⟩)] W fun e W' => (∃ v, e = .returned v) ∧ J [] W' := by
 refine callsIn_of_wp Tryz.func99 rfl h7 ?_ hro
 simp only [Tryz.ntmps99, List.size_toArray, List.length_cons, List.length_nil, Nat.reduceAdd, Nat.reduceSub, Array.replicate_succ, Array.replicate_zero, List.push_toArray, List.append_toArray, List.nil_append, List.cons_append]
 gi_wp2
 gi_loopw [7] (fun i wr => i = .int .i64 0 ∧ J [] wr) (fun _ _ => 0)
 case atStart => exact ⟨rfl, h0⟩
 case round =>
  obtain ⟨rfl, hJs⟩ := hrel
  gi_wp2
  go_end0
  exact ⟨⟨_, rfl⟩, hJs⟩

set_option maxHeartbeats 1000000 in
theorem valF18 (F : Fence) (n : Nat) (h5 : F.fn 71) (hro : F.round = none) (a : Option Addr) (len cap : Nat) (w : World) :
  CallsIn F n Tryz.prog 71 #[.slice a len cap] w fun e w' => e = .returned (.func (.func 99) #[] #[.pointer (some ⟨w.heap.size, 0, none⟩)]) ∧ w' = w.alloc (.cells #[.slice a len cap] 78) := by
 refine callsIn_of_wp Tryz.func71 rfl h5 ?_ hro
 simp only [Tryz.ntmps71, List.size_toArray, List.length_cons, List.length_nil, Nat.reduceAdd, Nat.reduceSub, Array.replicate_succ, Array.replicate_zero, List.push_toArray, List.append_toArray, List.nil_append, List.cons_append]
 gi_wp2
 go_ret
 exact ⟨rfl, rfl⟩

theorem valS18 (F : Fence) (n : Nat) (h7 : F.fn 99) (hro : F.round = none) (hn : 1 ≤ n) (Bs n₀ : Nat) (sv : Value) (zs : List (List UInt8)) (hreach : zs.length ≤ 4194306) (w : World) (hBs : Bs < w.heap.size) (hn₀ : n₀ ≤ w.heap.size)
  (hc : w.cell? ⟨Bs, 0, none⟩ = some sv) (hI : Txs18 n₀ w sv zs) :
  SeqStopsK F n Tryz.prog 99 #[.pointer (some ⟨Bs, 0, none⟩)] (fun x : List UInt8 => #[encStr x]) (Below n₀) (fun ys => ys = zs) (fun pre => pre <+: zs) zs.length w := fun l J Jx W hW _ _ hY h0 => by
 have hc' := (hW.cell (p := ⟨Bs, 0, none⟩) hBs).trans hc
 rcases hI.below (hW.mono hn₀) with ⟨rfl, rfl⟩ | ⟨b, cap, rfl, hb, hcs⟩
 ·exact (valN18 F n h7 hro l Bs J W hc' h0).mono fun e W' ⟨he, hj⟩ => ⟨he, .inl ⟨_, rfl, hj⟩⟩
 ·exact valA18 F n h7 hro hn l Bs n₀ b cap zs.length zs rfl hreach hb J Jx hY W hc' hcs h0

open Go.RowKit Go.Shelf Go.Sort

attribute [local go_sem] Oper.semAt_some

set_option maxRecDepth 100000 in
set_option maxHeartbeats 2000000 in
theorem seqA18 (F : Fence) (n : Nat) (h3 : F.fn 109) (h5 : F.fn 99) (hro : F.round = none) (hn : 3 ≤ n) (Bs : Nat) (sv : Value) (zs : List (List UInt8)) (hlen : zs.length ≤ 4194306) (w : World) (hBs : Bs < w.heap.size) (hc0 : w.cell? ⟨Bs, 0, none⟩ = some sv) (hL : Txs18 w.heap.size w sv zs) :
  CallsIn F n Tryz.prog 109 #[.slice none 0 0, .func (.func 99) #[] #[.pointer (some ⟨Bs, 0, none⟩)]] w fun e W' => ∃ v, e = .returned v ∧ W'.ownsRow w.heap.size 9 1 v zs.length (zs.map encStr) ∧ (v = .slice none 0 0 ↔ zs = []) ∧ Below w.heap.size w W' := by
 have h1 : 1 ≤ n := by omega
 obtain ⟨i0, hi, hz0, hz1, hz2⟩ := info_parts infoS17
 refine callsIn_of_wp_marks Tryz.func109 rfl h3 ?_ hro
 simp only [Tryz.ntmps109, List.size_toArray, List.length_cons, List.length_nil, Nat.reduceAdd, Nat.reduceSub, Array.replicate_succ, Array.replicate_zero, List.push_toArray, List.append_toArray, List.nil_append, List.cons_append]
 gi_wp2
 have bO := Boxed.new w 78 (.slice none 0 0)
 have hB0 : Below w.heap.size w (w.alloc (.cells #[.slice none 0 0] 78)) := (Below.refl _ w).alloc (Nat.le_refl _) _
 refine wpIn_rangeFunc_ownG hro h1 (gf := 99) (lb := #[.pointer (some ⟨Bs, 0, none⟩)]) rfl h5 (enters_of Tryz.func99 (by kernel_rfl) rfl)
  (valS18 F (n - 1) h5 hro (by omega) Bs w.heap.size sv zs hlen _ (by simp; omega) (by simp) ((hB0.cell (p := ⟨Bs, 0, none⟩) hBs).trans hc0) (hL.below hB0)) belowK_t (belowK_b (by simp)) (Below.refl _ _) (fun _ => rfl)
  (fun pre W => (∃ v, Boxed W w.heap.size 78 v ∧ W.ownsRow w.heap.size 9 1 v pre.length (pre.map encStr) ∧ (v = .slice none 0 0 ↔ pre = [])) ∧ Below w.heap.size w W)
  (fun _ _ _ => False)
  (OwnFrom.and (Own.from (holdsRow_own w.heap.size w.heap.size 78 9 1 (fun pre => pre.length) (fun pre => pre.map encStr) (fun pre v => v = .slice none 0 0 ↔ pre = [])) _) (ownFrom_below (Nat.le_refl _) (by simp)))
  (fun _ _ _ _ _ hs _ _ => hs)
  ⟨⟨_, bO, World.ownsRow_nil _ _ _ _, by simp⟩, hB0⟩
  (fun x => { tmps := #[.slice none 0 0, .func (.func 99) #[] #[.pointer (some ⟨Bs, 0, none⟩)], .pointer (some ⟨w.heap.size, 0, none⟩), undef, .slice none 0 0, encStr x, .func (.func 99) #[] #[.pointer (some ⟨Bs, 0, none⟩)], encStr x, undef, undef, undef, undef, undef], defers := [] }) ?assign ?body ?done ?stop
 case assign =>
  intro l x W K hK
  gi_wp2
  exact hK
 case body =>
  rintro l pre x W ⟨⟨v, hv, hrow, hnil⟩, hB⟩ hlt
  have hc := hv.cell
  unfold encStr
  gi_wp2_with (gi_at_builtin; refine wpListIn_append_own _ rfl _ _ 78 rfl w.heap.size 9 i0 (.string ⟨#[]⟩) 1 16 Tryz.underlying78 hi hz0 hz1 hz2 rfl (by decide) _ _ _ rfl (hrow.alloc _) ⟨W.heap.size, 0, none⟩ 1 1 [.string ⟨x.toArray⟩] rfl rfl (cell_one_new _ _ _) (by simp [Value.oneCell']) (by unfold maxLen; omega) (by omega) (by have := hB.size; simp; omega) ?_; intro v' w1 hown' hgrow _; obtain ⟨g', cap', rfl⟩ := ownsRow_succ hown'; obtain ⟨hv1, hv2, hr2, hk2, hb2⟩ := hv.appended (by decide) hrow hB.size (Nat.le_refl _) hown' hgrow; have hc1 := hv1.cell; have hf1 := hv1.frozen)
  exact ⟨hk2.from _, hb2, ⟨_, hv2, by simpa [encStr] using hr2, by simp⟩, hB.trans hb2⟩
 case done =>
  rintro D ys W hD rfl ⟨⟨v, hv, hrow, hnil⟩, hB⟩ hK
  have hc := hv.cell
  gi_wp2
  refine ⟨by simp, .inl ⟨_, _, rfl, run_takeDeferred hK, ?_⟩⟩
  exact ⟨_, results_tmp rfl _ _ _, v, rfl, ownsRow_putObj hrow _ hK rfl, hnil, hB.trans (belowK_b (w := w) (Nat.le_refl _) W D _ _ (by simp at hD; omega) hK rfl rfl)⟩
 case stop =>
  rintro D c pre W _ _ h _
  exact h.elim

set_option maxHeartbeats 1000000 in
theorem collA18 (F : Fence) (n : Nat) (h3 : F.fn 109) (h4 : F.fn 87) (h5 : F.fn 99) (hro : F.round = none) (hn : 4 ≤ n) (Bs : Nat) (sv : Value) (zs : List (List UInt8)) (hlen : zs.length ≤ 4194306) (w : World) (hBs : Bs < w.heap.size) (hc0 : w.cell? ⟨Bs, 0, none⟩ = some sv) (hL : Txs18 w.heap.size w sv zs) :
  CallsIn F n Tryz.prog 87 #[.func (.func 99) #[] #[.pointer (some ⟨Bs, 0, none⟩)]] w fun e W' => ∃ v, e = .returned v ∧ W'.ownsRow w.heap.size 9 1 v zs.length (zs.map encStr) ∧ (v = .slice none 0 0 ↔ zs = []) ∧ Below w.heap.size w W' := by
 have h1 : 1 ≤ n := by omega
 have cA := seqA18 F (n - 1) h3 h5 hro (by omega) Bs sv zs hlen w hBs hc0 hL
 have hf : F.fn 109 := h3
 refine callsIn_of_wp Tryz.func87 rfl h4 ?_ hro
 simp only [Tryz.ntmps87, List.size_toArray, List.length_cons, List.length_nil, Nat.reduceAdd, Nat.reduceSub, Array.replicate_succ, Array.replicate_zero, List.push_toArray, List.append_toArray, List.nil_append, List.cons_append]
 gi_wp2_with (gi_at_call 109; refine cA.mono ?_; rintro e w' ⟨v, rfl, hrow, hnil, hb⟩)
 go_ret
 exact ⟨v, rfl, hrow, hnil, hb⟩

open Go.RowKit Go.Shelf Go.Sort

set_option maxHeartbeats 2000000 in
theorem csorted18 (Bs : Nat) (sv : Value) (zs : List (List UInt8)) (hlen : zs.length ≤ 4194306) (w : World) (hBs : Bs < w.heap.size) (hc0 : w.cell? ⟨Bs, 0, none⟩ = some sv) (hL : Txs18 w.heap.size w sv zs) :
  Calls Tryz.prog 70 #[.func (.func 99) #[] #[.pointer (some ⟨Bs, 0, none⟩)]] w fun e W' => ∃ v, e = .returned v ∧ W'.ownsRow w.heap.size 9 1 v zs.length ((zs.mergeSort (fun x y => decide (x ≤ y))).map encStr) ∧ Below w.heap.size w W' := by
 have HC := hid' ((callsIn_wide (n := 6)).1 (collA18 Fence.wide 6 trivial trivial trivial rfl (by omega) Bs sv zs hlen w hBs hc0 hL))
 clear hBs hc0 hL
 go_enter Tryz.func70, Tryz.ntmps70
 go_wp2_with fail
 refine HC.out.mono ?_
 rintro e w1 ⟨v, rfl, hrow, hnil, hb⟩
 rcases hrow.2 with ⟨rfl, hz⟩ | ⟨g, cap, cur, rfl, hbase, hgb, r1, r2, r3, r4⟩
 ·have hzs : zs = [] := List.eq_nil_of_length_eq_zero hz
  subst hzs
  have HR := hid' hrow
  have HB := hid' hb
  clear hrow hnil hb hz
  go_wp2_with fail
  refine (Tryz.slices_Sort_string_none none 0 w1).mono ?_
  rintro e w2 ⟨rfl, hw2⟩
  subst w2
  go_wp2
  go_ret
  exact ⟨_, rfl, by simpa using HR.out, HB.out⟩
 ·have hH : Holds encStr w1 g 0 zs.toArray := holds_of_block hgb (by simpa using r4)
  have hgl : g < w1.heap.size := (Array.getElem?_eq_some_iff.1 hgb).1
  have HS := hid' (Tryz.slices_Sort_string g 0 cap zs w1 hH hgl (by omega))
  have HO : Hid (∀ k os, (grow (putRow encStr (Sort.ahead w1 k) g 0 (zs.mergeSort (fun x y => decide (x ≤ y))).toArray) os).ownsRow w.heap.size 9 1 (.slice (some ⟨g, 0, none⟩) zs.length cap) zs.length ((zs.mergeSort (fun x y => decide (x ≤ y))).map encStr)) := hid' (fun k os => ownsRow_sorted (by simp) hbase hgb r1 r2 r3)
  have HB : Hid (∀ k os, Below w.heap.size w (grow (putRow encStr (Sort.ahead w1 k) g 0 (zs.mergeSort (fun x y => decide (x ≤ y))).toArray) os)) := hid' (fun k os => hb.grown (grownBy_sorted _) hb.size (fun j hj => by cases hj; exact hbase))
  clear hrow hnil hb hbase hgb r1 r2 r3 r4 hH hgl
  go_wp2_with fail
  refine HS.out.mono ?_
  rintro e w2 ⟨rfl, k, os, hw2⟩
  have HO2 := hid' (HO.out k os)
  have HB2 := hid' (HB.out k os)
  rw [← hw2] at HO2 HB2
  clear hw2
  go_wp2
  go_ret
  exact ⟨_, rfl, HO2.out, HB2.out⟩
theorem grow_none18 (w : World) : grow w #[] = w := by cases w; simp [grow]
theorem Txs18.own {w : World} {B : Nat} {v : Value} {zs : List (List UInt8)} (h : w.ownsRow B 9 1 v zs.length (sC17 zs)) : Txs18 w.heap.size w v zs := by
 rcases h.2 with ⟨hv, hn⟩ | ⟨g, cap, cur, hv, _, h3, _⟩
 ·exact .inl ⟨hv, List.eq_nil_of_length_eq_zero hn⟩
 ·refine .inr ⟨g, cap, hv, (Array.getElem?_eq_some_iff.1 h3).1, fun j z hz => ?_⟩
  have := h.cells (g := g) (by rw [hv]; rfl) j (encStr z) (by unfold sC17 encStr; rw [List.getElem?_map, hz]; rfl)
  rw [Addr.add_mid, Nat.zero_add] at this
  exact this

set_option maxHeartbeats 2000000 in
theorem crep18 (no : Option Addr) (c nc : Nat) (ns : List (List UInt8)) (hn : ns.length = c) (hcb : c ≤ 4194306) (B : Nat) (w : World) (h : w.ownsRow B 9 1 (.slice no c nc) c (sC17 ns)) :
  Calls Tryz.prog 46 #[.slice no c nc] w fun e w' => e = .returned (.bool (!decide ns.Nodup)) ∧ Below w.heap.size w w' := by
 subst hn
 have hb0 := bl_alloc17 w (.cells #[.slice no ns.length nc] 78)
 have hA0 : Ar (w.alloc (.cells #[.slice no ns.length nc] 78)) w.heap.size 78 #[.slice no ns.length nc] := heap_alloc_last w _
 have HS := hid' (csorted18 w.heap.size (.slice no ns.length nc) ns hcb (w.alloc (.cells #[.slice no ns.length nc] 78)) (by simp) (hA0.cell 0 _ rfl) ((Txs18.own (own_kp17 h hb0))))
 have HV := hid' (fun W => (callsIn_wide (n := 6)).1 (valF18 Fence.wide 6 trivial rfl no ns.length nc W))
 have HRN := hid' (Rt.rep_names ns)
 have HLN : Hid ((ns.mergeSort (fun x y => decide (x ≤ y))).length = ns.length) := hid' (Rt.sort_perm ns).length_eq
 generalize ns.mergeSort (fun x y => decide (x ≤ y)) = ss at *
 generalize (!decide ns.Nodup) = bb at *
 have HB0 := hid' hb0
 clear h hb0 hA0
 go_enter Tryz.func46, Tryz.ntmps46
 go_wp2_with fail
 refine (HV.out _).mono ?_
 rintro e w1 ⟨rfl, hw1⟩
 subst w1
 go_wp2_with fail
 refine HS.out.mono ?_
 rintro e w1 ⟨v, rfl, hrow, hb⟩
 have HB1 : Hid (Below w.heap.size w w1) := hid' (below_two HB0.out hb)
 rcases hrow.2 with ⟨rfl, hz⟩ | ⟨g, cap, cur, rfl, hbase, hgb, r1, r2, r3, r4⟩
 ·have HE : Hid (bb = false) := hid' (by rw [← HRN.out]; simp [hz])
  have h0 : ¬ (0 : Int) < (ns.length : Int) := by omega
  have h0n : ¬ 0 < ns.length := by omega
  clear hrow hb hz
  go_wp2_with fail
  refine (Tryz.slices_Compact_string_empty none 0 w1).mono ?_
  rintro e w2 ⟨rfl, hw2⟩
  subst w2
  go_wp2
  go_ret
  exact ⟨by rw [HE.out]; first | rfl | simp [h0n], HB1.out⟩
 ·have hH : Holds encStr w1 g 0 ss.toArray := holds_of_block hgb (by rw [HLN.out]; simpa using r4)
  have hbg := hbase
  have HC := hid' (Tryz.slices_Compact_string g 0 cap ss w1 hH (by rw [HLN.out]; omega) (by rw [HLN.out]; exact r1))
  rw [HLN.out] at HC
  generalize hcl : (Lib.compact ss).length = cl at *
  have HBC : Hid (∀ (q : Nat) (d : Array (List UInt8)), Below w.heap.size w (putRow encStr (Sort.ahead w1 q) g 0 d)) := hid' (fun q d => by
   have hg2 := (grownBy_sorted (w := w1) (g := g) (n := q) (os := #[]) d)
   rw [grow_none18] at hg2
   exact HB1.out.grown hg2 HB1.out.size (fun j hj => by cases hj; exact Nat.le_trans HB0.out.size hbg))
  have hck : decide (cl < ns.length) = bb := HRN.out
  clear hrow hb hbase hgb r1 r2 r3 r4 hH hbg hcl HRN
  cases bb
  ·have h0n : ¬ cl < ns.length := of_decide_eq_false hck
   have h0 : ¬ (cl : Int) < (ns.length : Int) := by omega
   clear hck
   go_wp2_with fail
   refine HC.out.mono ?_
   rintro e w2 ⟨rfl, q, hw2⟩
   have HB2 : Hid (RowKit.Below w.heap.size w w2) := hid' (by rw [hw2]; exact HBC.out q _)
   clear hw2
   go_wp2
   go_ret
   exact ⟨rfl, HB2.out⟩
  ·have h0n : cl < ns.length := of_decide_eq_true hck
   have h0 : (cl : Int) < (ns.length : Int) := by omega
   clear hck
   go_wp2_with fail
   refine HC.out.mono ?_
   rintro e w2 ⟨rfl, q, hw2⟩
   have HB2 : Hid (RowKit.Below w.heap.size w w2) := hid' (by rw [hw2]; exact HBC.out q _)
   clear hw2
   go_wp2
   go_ret
   exact ⟨rfl, HB2.out⟩

end Go.Proofs.YtcfbobegbmcbeaaGreatDoor
