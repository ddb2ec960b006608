/-
  strings.Cut at '?', strings.Split and strings.Join at '/', and the code's Parts: by their contracts.
-/
import Derived.Test.YtcfbobegbmcbeaaGreatDoorShelfS
import Derived.Shelf.Strings.Split
import Derived.Lib.Join
import Derived.Test.YtcfbobegbmcbeaaGreatDoorPkAQ
import Derived.Test.YtcfbobegbmcbeaaGreatDoorPkAZ
import Derived.Test.YtcfbobegbmcbeaaGreatDoorPkAH
namespace Go.Proofs.YtcfbobegbmcbeaaGreatDoor
open Go.RowKit

namespace Pt
theorem cutS_none (a : T8) (h : ∀ c ∈ a, c ≠ 47) : cutS [] a = [a] := by
 have := cutS_app a [] [] (fun e => h 47 e rfl)
 rw [List.append_nil] at this
 rw [this]; simp [cutS]
theorem splitK_cutS : ∀ (k : Nat) (s : T8), s.count 47 = k → Lib.splitK [47] 0 k s = cutS [] s
 | 0, s, h => by
  rw [Lib.splitK, cutS_none]
  intro c hc e
  subst e
  have := List.count_pos_iff.2 hc
  omega
 | k + 1, s, h => by
  rw [Lib.splitK, Lib.index_one]
  have hge := Lib.indexByte_ge s 47
  by_cases h1 : Lib.indexByte s 47 = -1
  ·exfalso
   have h2 := Lib.indexByte_none h1
   have h3 : 0 < s.count 47 := by omega
   obtain ⟨i, hi⟩ := List.getElem?_of_mem (List.count_pos_iff.1 h3)
   exact h2 i hi
  ·obtain ⟨o, ho⟩ : ∃ o : Nat, Lib.indexByte s 47 = (o : Int) := ⟨(Lib.indexByte s 47).toNat, by omega⟩
   obtain ⟨h2, h3⟩ := Lib.indexByte_some ho
   obtain ⟨hl, h4⟩ := List.getElem?_eq_some_iff.1 h2
   rw [if_neg (by simpa using h1), ho]
   have e : s = s.take o ++ 47 :: s.drop (o + 1) := by
    conv => lhs; rw [← List.take_append_drop o s, List.drop_eq_getElem_cons hl, h4]
   have h5 : 47 ∉ s.take o := by
    intro hc
    obtain ⟨i, hi⟩ := List.getElem?_of_mem hc
    have hio : i < o := by have := (List.getElem?_eq_some_iff.1 hi).1; rw [List.length_take] at this; omega
    rw [List.getElem?_take, if_pos hio] at hi
    exact h3 i hio hi
   have h6 : (s.drop (o + 1)).count 47 = k := by
    have h7 : (s.take o).count 47 = 0 := List.count_eq_zero.2 h5
    rw [e, List.count_append, h7, List.count_cons] at h
    simp at h
    omega
   have h8 : cutS [] s = s.take o :: cutS [] (s.drop (o + 1)) := by
    conv => lhs; rw [e]
    rw [cutS_app _ _ _ h5, cutS, if_pos (by decide)]
    simp
   rw [h8]
   simp only [Int.toNat_natCast, Nat.add_zero, List.length_cons, List.length_nil, Nat.zero_add]
   rw [splitK_cutS k _ h6]
theorem join_lib : ∀ k : List T8, Lib.join k [47] = join k
 | [] => rfl
 | [p] => by rw [Lib.join_one]; rfl
 | p :: q :: r => by
  rw [Lib.join_cons, join, ← join_lib (q :: r), Lib.join_cons]
  simp [Lib.joinTail]
theorem preI_none {l : T8} (h : Lib.indexByte l 63 = -1) : pre l = l ∧ qry l = [] := by
 have h1 : ∀ x ∈ l, (!(x == 63)) = true := by
  intro x hx
  obtain ⟨k, hk⟩ := List.getElem?_of_mem hx
  have := Lib.indexByte_none h k
  rw [hk] at this
  simp
  rintro rfl
  exact this rfl
 have h2 : pre l = l := by
  unfold pre
  have := List.takeWhile_append_of_pos (l₂ := []) h1
  simpa using this
 refine ⟨h2, ?_⟩
 unfold qry
 rw [h2]
 exact List.drop_eq_nil_of_le (by omega)
theorem preI_some {l : T8} {o : Nat} (h : Lib.indexByte l 63 = (o : Int)) : pre l = l.take o ∧ qry l = l.drop (o + 1) ∧ o < l.length := by
 obtain ⟨h1, h2⟩ := Lib.indexByte_some h
 obtain ⟨hl, h3⟩ := List.getElem?_eq_some_iff.1 h1
 have e : l = l.take o ++ 63 :: l.drop (o + 1) := by
  conv => lhs; rw [← List.take_append_drop o l, List.drop_eq_getElem_cons hl, h3]
 have h4 : ∀ x ∈ l.take o, (!(x == 63)) = true := by
  intro x hx
  obtain ⟨k, hk⟩ := List.getElem?_of_mem hx
  have hko : k < o := by have := (List.getElem?_eq_some_iff.1 hk).1; rw [List.length_take] at this; omega
  rw [List.getElem?_take, if_pos hko] at hk
  have := h2 k hko
  rw [hk] at this
  simp
  rintro rfl
  exact this rfl
 have h5 : pre l = l.take o := by
  unfold pre
  conv => lhs; rw [e]
  rw [List.takeWhile_append_of_pos h4, List.takeWhile_cons]
  simp
 refine ⟨h5, ?_, hl⟩
 unfold qry
 rw [h5, List.length_take, Nat.min_eq_left (by omega)]
end Pt

theorem info17s : (Tryz.prog.info? 9).map (fun i => (i.zero, i.size, i.bytes)) = some (some (.string ByteArray.empty), 1, 16) := by kernel_rfl
theorem indexB_slash17 (x : ByteArray) : Lib.indexB x ⟨#[47]⟩ = Lib.indexByte x.data.toList 47 := Lib.index_one _ _
theorem countB_slash17 (x : ByteArray) : Lib.countB x ⟨#[47]⟩ = x.data.toList.count 47 := Lib.count_one _ _

set_option maxHeartbeats 1000000 in
theorem split17 (s : ByteArray) (l : List UInt8) (hl : s.data.toList = l) (w : World) (hs : s.size ≤ 4194304) : Calls Tryz.prog 44 #[.string s, .string ⟨#[47]⟩] w fun e w' => (∃ n g, e = .returned (.slice (some ⟨g, 0, none⟩) n n) ∧ (Pt.cutS [] l).length = n ∧ SR17 w' (some ⟨g, 0, none⟩) (Pt.cutS [] l)) ∧ Below w.heap.size w w' := by
 have hle := Lib.countB_le ⟨#[47]⟩ (by decide) s.size s (Nat.le_refl _)
 have hlen := Lib.splitB_all ⟨#[47]⟩ (by decide) 0 _ s rfl
 have c := Any.strings_genSplit_core Tryz.lays221 info17s s ⟨#[47]⟩ 0 (-1) (Lib.countB s ⟨#[47]⟩ + 1) w (by omega) (by decide) (Nat.zero_le _)
  (fun x cs _ => by rw [indexB_slash17]; exact Tryz.strings_Index_one x 47 _)
  (by rw [countB_slash17]; exact Tryz.strings_Count_one s 47 w) (by decide) (by decide) (by rw [if_pos (by decide)]; omega)
 rw [Nat.add_sub_cancel, hlen] at c
 have e2 : Lib.cellsOf (Lib.splitB ⟨#[47]⟩ 0 (Lib.countB s ⟨#[47]⟩) s) (Lib.countB s ⟨#[47]⟩ + 1) = ((Lib.splitB ⟨#[47]⟩ 0 (Lib.countB s ⟨#[47]⟩) s).map Value.string).toArray := by rw [← hlen]; exact Lib.cellsOf_full _
 rw [e2] at c
 have hd := Lib.splitB_data ⟨#[47]⟩ 0 (Lib.countB s ⟨#[47]⟩) s
 rw [Pt.splitK_cutS _ _ (countB_slash17 s).symm, hl] at hd
 obtain ⟨ps, hps⟩ : ∃ ps, Lib.splitB ⟨#[47]⟩ 0 (Lib.countB s ⟨#[47]⟩) s = ps := ⟨_, rfl⟩
 rw [hps] at c hd hlen
 rw [← hlen] at c
 have HSR : Hid (SR17 (w.alloc (.cells (ps.map Value.string).toArray 9)) (some ⟨w.heap.size, 0, none⟩) (Pt.cutS [] l)) := hid' (fun i p hp => by
  refine ⟨w.heap.size, rfl, by simp, ?_⟩
  rw [← hd, List.getElem?_map] at hp
  obtain ⟨q, hq, rfl⟩ := Option.map_eq_some_iff.1 hp
  have hA : Ar (w.alloc (.cells (ps.map Value.string).toArray 9)) w.heap.size 9 (ps.map Value.string).toArray := heap_alloc_last w _
  exact hA.cell i _ (by simp [hq]))
 have HD : Hid ((Pt.cutS [] l).length = ps.length) := hid' (by rw [← hd, List.length_map])
 have C : Hid (Calls Tryz.prog 66 #[.string s, .string ⟨#[47]⟩, .int .i64 0, .int .i64 (-1)] w fun e w' => e = .returned (.slice (some ⟨w.heap.size, 0, none⟩) ps.length ps.length) ∧ w' = w.alloc (.cells (ps.map Value.string).toArray 9)) := hid' c
 clear c hd e2 hlen hps hle hl
 go_enter Tryz.func44, Tryz.ntmps44
 go_wp2_with fail
 refine C.out.mono ?_
 rintro e w1 ⟨rfl, hw⟩
 have HW := hid' hw
 clear hw
 go_wp2
 go_ret
 exact ⟨⟨ps.length, w.heap.size, rfl, HD.out, by rw [HW.out]; exact HSR.out⟩, by rw [HW.out]; exact bl_alloc17 w _⟩

theorem cjoin17 (ao : Option Addr) (n cap : Nat) (k : List (List UInt8)) (hn : k.length = n) (hc : n ≤ cap) (w : World) (h : SR17 w ao k) (hsz : (k.map List.length).sum + k.length ≤ 16777216) :
  Calls Tryz.prog 81 #[.slice ao n cap, .string ⟨#[47]⟩] w fun e w' => e = .returned (.string ⟨(Pt.join k).toArray⟩) ∧ Below w.heap.size w w' := by
 cases k with
 | nil =>
  obtain rfl : 0 = n := hn
  refine (Tryz.strings_Join_none ao cap ⟨#[47]⟩ w).mono ?_
  rintro e w' ⟨rfl, rfl⟩
  exact ⟨rfl, Below.refl _ _⟩
 | cons p r =>
  obtain ⟨g, rfl, hg, _⟩ := h 0 p rfl
  obtain ⟨xs, hxs⟩ : ∃ xs : List ByteArray, xs = (p :: r).map (fun x => (⟨x.toArray⟩ : ByteArray)) := ⟨_, rfl⟩
  have e1 : xs.map (·.data.toList) = p :: r := by rw [hxs, List.map_map]; simp [Function.comp_def]
  have e2 : xs.length = n := by rw [hxs, List.length_map]; exact hn
  have hj := Pt.join_len (p :: r)
  have c := Tryz.strings_Join g 0 cap xs ⟨#[47]⟩ w (fun j x hx => by
   rw [hxs, List.getElem?_map] at hx
   obtain ⟨q, hq, rfl⟩ := Option.map_eq_some_iff.1 hx
   obtain ⟨g', hg', _, h2⟩ := h j q hq
   injection hg' with hg'
   injection hg' with hg'
   subst hg'
   rw [Nat.zero_add]
   exact h2) hg (by rw [e2, ← hn]; omega) (by rw [e2]; exact hc) (by
    rw [e1, show (⟨#[47]⟩ : ByteArray).data.toList = [47] from rfl, Pt.join_lib]; omega)
  rw [e1, e2, show (⟨#[47]⟩ : ByteArray).data.toList = [47] from rfl, Pt.join_lib] at c
  exact c

set_option maxHeartbeats 1000000 in
theorem scut17 (s : ByteArray) (l : List UInt8) (hl : s.data.toList = l) (w : World) (hs : s.size ≤ 4194304) :
  Calls Tryz.prog 76 #[.string s, .string ⟨#[63]⟩] w fun e w' => (∃ y, e = .returned (.tuple #[.string ⟨(Pt.pre l).toArray⟩, .string ⟨(Pt.qry l).toArray⟩, .bool y])) ∧ Below w.heap.size w w' := by
 subst hl
 have hge := Lib.indexByte_ge s.data.toList 63
 by_cases h1 : Lib.indexByte s.data.toList 63 = -1
 ·have HE := hid' (Pt.preI_none h1)
  go_enter Tryz.func76, Tryz.ntmps76
  go_wp2_with fail
  refine (Tryz.stringslite_Index_one s 63 _).mono ?_
  rintro e w1 ⟨rfl, rfl⟩
  rw [h1]
  clear hge h1
  go_wp2
  go_ret3
  exact ⟨⟨false, by rw [HE.out.1, HE.out.2]; rfl⟩, Below.refl _ _⟩
 ·obtain ⟨o, ho⟩ : ∃ o : Nat, Lib.indexByte s.data.toList 63 = (o : Int) := ⟨(Lib.indexByte s.data.toList 63).toNat, by omega⟩
  obtain ⟨he, he2, hlt⟩ := Pt.preI_some ho
  have HE : Hid ((⟨(Pt.pre s.data.toList).toArray⟩ : ByteArray) = s.extract 0 o) := hid' (by rw [he, ext_td17]; simp)
  have HE2 : Hid ((⟨(Pt.qry s.data.toList).toArray⟩ : ByteArray) = s.extract (o + 1) s.size) := hid' (by
   rw [he2, ext_td17, List.take_of_length_le (by rw [List.length_drop, Lib.size_eq]; omega)])
  have hlt2 : o < s.size := by rw [Lib.size_eq]; exact hlt
  have hlt3 : (o : Int) < (s.size : Int) := by omega
  have hle : (o : Int) ≤ (s.size : Int) := by omega
  have hle1 : (o : Int) + 1 ≤ (s.size : Int) := by omega
  have ho0 : (0 : Int) ≤ (o : Int) := by omega
  have hle2 : o ≤ s.size := by omega
  have hle3 : o + 1 ≤ s.size := by omega
  clear hge h1 he he2 hlt
  go_enter Tryz.func76, Tryz.ntmps76
  go_wp2_with fail
  refine (Tryz.stringslite_Index_one s 63 _).mono ?_
  rintro e w1 ⟨rfl, rfl⟩
  rw [ho]
  clear ho
  go_wp2
  go_quiet (fail)
  go_wp2
  go_ret3
  exact ⟨⟨true, by rw [HE.out, HE2.out]; rfl⟩, below_drewN _ _⟩

set_option maxHeartbeats 1000000 in
theorem ccut17 (s : ByteArray) (l : List UInt8) (hl : s.data.toList = l) (w : World) (hs : s.size ≤ 4194304) :
  Calls Tryz.prog 52 #[.string s, .string ⟨#[63]⟩] w fun e w' => (∃ y, e = .returned (.tuple #[.string ⟨(Pt.pre l).toArray⟩, .string ⟨(Pt.qry l).toArray⟩, .bool y])) ∧ Below w.heap.size w w' := by
 have HC := hid' (scut17 s l hl w hs)
 clear hl
 go_enter Tryz.func52, Tryz.ntmps52
 go_wp2_with fail
 refine HC.out.mono ?_
 rintro e w1 ⟨⟨y, rfl⟩, hb⟩
 have HB := hid' hb
 clear hb
 go_wp2
 go_ret3
 exact ⟨⟨y, rfl⟩, HB.out⟩

set_option maxHeartbeats 1600000 in
set_option maxRecDepth 20000 in
theorem xparts17 (s : ByteArray) (l : List UInt8) (hl : s.data.toList = l) (w : World) (hs : s.size ≤ 4194304) :
  Calls Tryz.prog 82 #[.string s] w fun e w' => (∃ m ro rc, e = .returned (.slice ro m rc) ∧ (Pt.parts l).length = m ∧ w'.ownsRow w.heap.size 9 1 (.slice ro m rc) m (sC17 (Pt.parts l))) ∧ Below w.heap.size w w' := by
 obtain ⟨i0, hi0, hz0, hz1, hz2⟩ := minfo17 infoS17
 have HI := hid' hi0
 have HZ0 := hid' hz0
 have HZ1 := hid' hz1
 have HZ2 := hid' hz2
 clear hi0 hz0 hz1 hz2
 have HCU := hid' (split17 s l hl w hs)
 have HPD : Hid (Pt.parts l = (Pt.cutS [] l).filter (fun p => !p.isEmpty)) := hid' rfl
 have hpl : (Pt.cutS [] l).length ≤ 4194305 := by have := Pt.cutS_len l; rw [← hl, ← Lib.size_eq] at this; rw [← hl]; omega
 obtain ⟨ps, hps⟩ : ∃ ps, Pt.cutS [] l = ps := ⟨_, rfl⟩
 rw [hps] at HCU HPD hpl
 clear hl hps
 go_enter Tryz.func82, Tryz.ntmps82
 go_wp2_with fail
 refine HCU.out.mono ?_
 rintro e w1 ⟨⟨m, sg, rfl, hm, hsr⟩, hb1⟩
 have HM := hid' hm
 have HSR := hid' hsr
 have HB1 := hid' hb1
 rw [hm] at hpl
 clear hm hsr hb1 HCU
 go_wp2
 go_loopw [3, 9] (fun s3 s9 wr => ∃ (k c : Nat) (ro : Option Addr) (rc : Nat), s9 = .int .i64 (k : Int) ∧ s3 = .slice ro c rc ∧ k ≤ m ∧ c ≤ k ∧ Hid (((ps.take k).filter (fun p => !p.isEmpty)).length = c) ∧ Hid (wr.ownsRow w1.heap.size 9 1 (.slice ro c rc) c (sC17 ((ps.take k).filter (fun p => !p.isEmpty)))) ∧ Hid (Below w1.heap.size w1 wr)) (fun _ s9 _ => m - (intOf s9).toNat)
 case atStart => exact ⟨0, 0, none, 0, rfl, rfl, Nat.zero_le _, Nat.le_refl _, hid' rfl, hid' (World.ownsRow_nil _ _ _ _), hid' (Below.refl _ _)⟩
 case round =>
  obtain ⟨k, c, ro, rc, rfl, rfl, hk, hck, HCL, HO, HB⟩ := hrel
  by_cases hlt : k < m
  ·have hlt2 : (k : Int) < (m : Int) := by omega
   obtain ⟨p, hp⟩ : ∃ p, ps[k]? = some p := ⟨_, List.getElem?_eq_getElem (by rw [HM.out]; exact hlt)⟩
   obtain ⟨g, hgg, _, y0⟩ := (HSR.out.below HB.out) k p hp
   obtain rfl : sg = g := by injection hgg with h; injection h
   have HFT : Hid ((ps.take (k + 1)).filter (fun p => !p.isEmpty) = (ps.take k).filter (fun p => !p.isEmpty) ++ (if !p.isEmpty then [p] else [])) := hid' (by rw [List.take_add_one, hp, List.filter_append]; congr 1; simp [List.filter_cons])
   obtain ⟨y, hy⟩ : ∃ y : ByteArray, (⟨p.toArray⟩ : ByteArray) = y := ⟨_, rfl⟩
   have hye : y.toList.isEmpty = p.isEmpty := by rw [← hy, Lib.toList_data]
   have HYS : Hid (sC17 [p] = [.string y]) := hid' (by unfold sC17; rw [← hy]; rfl)
   rw [hy] at y0
   clear hp hy hgg
   cases pe : p.isEmpty
   ·rw [pe] at hye HFT
    have HF2 : Hid ((ps.take (k + 1)).filter (fun p => !p.isEmpty) = (ps.take k).filter (fun p => !p.isEmpty) ++ [p]) := hid' HFT.out
    have HA : Hid ((wr.alloc (.cells #[.string y] 9)).ownsRow w1.heap.size 9 1 (.slice ro c rc) c (sC17 ((ps.take k).filter (fun p => !p.isEmpty)))) := hid' (HO.out.alloc _)
    go_wp2_with (at_builtin; refine wpList_append_own_at _ rfl _ _ 78 rfl w1.heap.size 9 i0 (.string ⟨#[]⟩) 1 16 Tryz.underlying78 HI.out HZ0.out HZ1.out HZ2.out rfl (by decide) (.slice ro c rc) c (sC17 ((ps.take k).filter (fun p => !p.isEmpty))) rfl HA.out ⟨wr.heap.size, 0, none⟩ 1 1 [.string y] rfl rfl (one_cell17 _ _ _) (by simp [Value.oneCell']) (by unfold maxLen; omega) (by omega) (by simp; have := HB.out.size; omega) ?_; intro v3 w3 hown3 hgrow3 _ _; refine Hid.out ?_)
    refine hid' ?_
    have e : sC17 ((ps.take k).filter (fun p => !p.isEmpty)) ++ [Value.string y] = sC17 ((ps.take (k + 1)).filter (fun p => !p.isEmpty)) := by rw [HF2.out, sC17_app, HYS.out]
    rw [e] at hown3
    obtain ⟨v3o, v3c, hv3⟩ := own_shape17 hown3
    subst hv3
    have HO3 := hid' hown3
    have HB3 : Hid (Below w1.heap.size w1 w3) := hid' ((HB.out.alloc HB.out.size _).grown hgrow3 (by simp; have := HB.out.size; omega) (fun k hk => (HA.out.lt k hk).1))
    clear hown3 hgrow3 e
    go_wp2
    go_roundw
    case rel => exact ⟨k + 1, c + 1, v3o, v3c, by go_num, rfl, by omega, by omega, hid' (by rw [HF2.out, List.length_append, HCL.out]; rfl), HO3, HB3⟩
    case measure => simp [intOf]; omega
   ·rw [pe] at hye HFT
    have HF2 : Hid ((ps.take (k + 1)).filter (fun p => !p.isEmpty) = (ps.take k).filter (fun p => !p.isEmpty)) := hid' (by rw [HFT.out]; simp)
    go_wp2
    go_roundw
    case rel => exact ⟨k + 1, c, ro, rc, by go_num, rfl, by omega, by omega, hid' (by rw [HF2.out]; exact HCL.out), hid' (by rw [HF2.out]; exact HO.out), HB⟩
    case measure => simp [intOf]; omega
  ·have hlt2 : ¬ (k : Int) < (m : Int) := by omega
   have HTk : Hid (ps.take k = ps) := hid' (List.take_of_length_le (by rw [HM.out]; omega))
   rw [HTk.out, ← HPD.out] at HCL HO
   clear hlt
   go_wp2
   go_ret
   exact ⟨⟨c, ro, rc, rfl, HCL.out, own_base17 HO.out HB1.out.size⟩, below_two HB1.out HB.out⟩

open Go.RowKit

theorem mkindP18 (s : ByteArray) (w : World) : (method 430 147 (.string s) "ostler/route.kind").run Tryz.prog w = .ok (288, (.string s)) w := by kernel_rfl
theorem mkindC18 (w : World) : (method 430 150 (.agg #[]) "ostler/route.kind").run Tryz.prog w = .ok (296, (.agg #[])) w := by kernel_rfl
theorem mkindR18 (w : World) : (method 430 149 (.agg #[]) "ostler/route.kind").run Tryz.prog w = .ok (292, (.agg #[])) w := by kernel_rfl
theorem mshapeP18 (s : ByteArray) (w : World) : (method 430 147 (.string s) "ostler/route.shape").run Tryz.prog w = .ok (289, (.string s)) w := by kernel_rfl
theorem mshapeC18 (w : World) : (method 430 150 (.agg #[]) "ostler/route.shape").run Tryz.prog w = .ok (297, (.agg #[])) w := by kernel_rfl
theorem mshapeR18 (w : World) : (method 430 149 (.agg #[]) "ostler/route.shape").run Tryz.prog w = .ok (293, (.agg #[])) w := by kernel_rfl
theorem mtakeP18 (s : ByteArray) (w : World) : (method 430 147 (.string s) "ostler/route.take").run Tryz.prog w = .ok (290, (.string s)) w := by kernel_rfl
theorem mtakeC18 (w : World) : (method 430 150 (.agg #[]) "ostler/route.take").run Tryz.prog w = .ok (298, (.agg #[])) w := by kernel_rfl
theorem mtakeR18 (w : World) : (method 430 149 (.agg #[]) "ostler/route.take").run Tryz.prog w = .ok (294, (.agg #[])) w := by kernel_rfl
theorem mcatchP18 (s : ByteArray) (w : World) : (method 430 147 (.string s) "ostler/route.catch").run Tryz.prog w = .ok (287, (.string s)) w := by kernel_rfl
theorem mcatchC18 (w : World) : (method 430 150 (.agg #[]) "ostler/route.catch").run Tryz.prog w = .ok (295, (.agg #[])) w := by kernel_rfl
theorem mcatchR18 (w : World) : (method 430 149 (.agg #[]) "ostler/route.catch").run Tryz.prog w = .ok (291, (.agg #[])) w := by kernel_rfl

set_option maxHeartbeats 1000000 in
theorem kindP18 (s : ByteArray) (w : World) : Calls Tryz.prog 288 #[.string s] w fun e w' => e = .returned (.int .u8 0) ∧ Below w.heap.size w w' := by
 go_enter Tryz.func288, Tryz.ntmps288
 go_wp2
 go_ret
 exact ⟨rfl, Below.refl _ _⟩

set_option maxHeartbeats 1000000 in
theorem kindC18 (w : World) : Calls Tryz.prog 296 #[.agg #[]] w fun e w' => e = .returned (.int .u8 1) ∧ Below w.heap.size w w' := by
 go_enter Tryz.func296, Tryz.ntmps296
 go_wp2
 go_ret
 exact ⟨rfl, bl_alloc17 w _⟩

set_option maxHeartbeats 1000000 in
theorem kindR18 (w : World) : Calls Tryz.prog 292 #[.agg #[]] w fun e w' => e = .returned (.int .u8 2) ∧ Below w.heap.size w w' := by
 go_enter Tryz.func292, Tryz.ntmps292
 go_wp2
 go_ret
 exact ⟨rfl, bl_alloc17 w _⟩

set_option maxHeartbeats 1000000 in
theorem shapeP18 (s : ByteArray) (w : World) : Calls Tryz.prog 289 #[.string s] w fun e w' => e = .returned (.string s) ∧ Below w.heap.size w w' := by
 go_enter Tryz.func289, Tryz.ntmps289
 go_wp2
 go_ret
 exact ⟨rfl, Below.refl _ _⟩

set_option maxHeartbeats 1000000 in
theorem shapeC18 (w : World) : Calls Tryz.prog 297 #[.agg #[]] w fun e w' => e = .returned (.string ⟨#[123, 125]⟩) ∧ Below w.heap.size w w' := by
 go_enter Tryz.func297, Tryz.ntmps297
 go_wp2
 go_ret
 exact ⟨rfl, bl_alloc17 w _⟩

set_option maxHeartbeats 1000000 in
theorem shapeR18 (w : World) : Calls Tryz.prog 293 #[.agg #[]] w fun e w' => e = .returned (.string ⟨#[123, 46, 46, 46, 125]⟩) ∧ Below w.heap.size w w' := by
 go_enter Tryz.func293, Tryz.ntmps293
 go_wp2
 go_ret
 exact ⟨rfl, bl_alloc17 w _⟩

set_option maxHeartbeats 1000000 in
theorem takeR18 (ao : Option Addr) (n cap : Nat) (w : World) : Calls Tryz.prog 294 #[.agg #[], .slice ao n cap] w fun e w' => e = .returned (.tuple #[.int .i64 (n : Int), .bool true]) ∧ Below w.heap.size w w' := by
 go_enter Tryz.func294, Tryz.ntmps294
 go_wp2
 go_ret2
 exact ⟨rfl, bl_alloc17 w _⟩

set_option maxHeartbeats 1000000 in
theorem takeC0_18 (ao : Option Addr) (cap : Nat) (w : World) : Calls Tryz.prog 298 #[.agg #[], .slice ao 0 cap] w fun e w' => e = .returned (.tuple #[.int .i64 0, .bool false]) ∧ Below w.heap.size w w' := by
 go_enter Tryz.func298, Tryz.ntmps298
 go_wp2
 go_ret2
 exact ⟨rfl, bl_alloc17 w _⟩

set_option maxHeartbeats 1000000 in
theorem takeC18 (ao : Option Addr) (n cap : Nat) (hn : 0 < n) (w : World) : Calls Tryz.prog 298 #[.agg #[], .slice ao n cap] w fun e w' => e = .returned (.tuple #[.int .i64 1, .bool true]) ∧ Below w.heap.size w w' := by
 have h1 : ((n : Int) == 0) = false := beq_false_of_ne (by omega)
 clear hn
 go_enter Tryz.func298, Tryz.ntmps298
 go_wp2
 go_ret2
 exact ⟨rfl, bl_alloc17 w _⟩
def TS18 (w : World) (ao : Option Addr) (k : List (List UInt8)) : Prop := ∀ (i : Nat) (p : List UInt8), k[i]? = some p → ∃ g o, ao = some ⟨g, o, none⟩ ∧ g < w.heap.size ∧ w.cell? ⟨g, o + i, none⟩ = some (.string ⟨p.toArray⟩)
theorem TS18.below {w w' : World} {ao : Option Addr} {k : List (List UInt8)} (h : TS18 w ao k) (hb : Below w.heap.size w w') : TS18 w' ao k := fun i p hp => by
 obtain ⟨g, o, h1, h2, h3⟩ := h i p hp
 exact ⟨g, o, h1, Nat.lt_of_lt_of_le h2 hb.size, (hb.cell (p := ⟨g, o + i, none⟩) h2).trans h3⟩
theorem TS18.of {w : World} {ao : Option Addr} {k : List (List UInt8)} (h : SR17 w ao k) : TS18 w ao k := fun i p hp => by
 obtain ⟨g, h1, h2, h3⟩ := h i p hp
 exact ⟨g, 0, h1, h2, by rw [Nat.zero_add]; exact h3⟩
theorem TS18.nil (w : World) (ao : Option Addr) : TS18 w ao [] := fun i p hp => by simp at hp

set_option maxHeartbeats 1000000 in
theorem takeP0_18 (s : ByteArray) (ao : Option Addr) (cap : Nat) (w : World) : Calls Tryz.prog 290 #[.string s, .slice ao 0 cap] w fun e w' => e = .returned (.tuple #[.int .i64 0, .bool false]) ∧ Below w.heap.size w w' := by
 go_enter Tryz.func290, Tryz.ntmps290
 go_wp2
 go_ret2
 exact ⟨rfl, Below.refl _ _⟩

set_option maxHeartbeats 1000000 in
theorem takeP18 (s : ByteArray) (x : List UInt8) (hs : s.data.toList = x) (ao : Option Addr) (n cap : Nat) (r : List (List UInt8)) (hn : (x :: r).length = n) (w : World) (h : TS18 w ao (x :: r)) : Calls Tryz.prog 290 #[.string s, .slice ao n cap] w fun e w' => e = .returned (.tuple #[.int .i64 1, .bool true]) ∧ Below w.heap.size w w' := by
 obtain ⟨g, o, rfl, hg, hc⟩ := h 0 x rfl
 rw [Nat.add_zero] at hc
 have h1 : ((n : Int) == 0) = false := beq_false_of_ne (by simp at hn; omega)
 have h2 : (0 : Int) < (n : Int) := by simp at hn; omega
 obtain ⟨z, hz⟩ : ∃ z : ByteArray, (⟨x.toArray⟩ : ByteArray) = z := ⟨_, rfl⟩
 rw [hz] at hc
 have hzx : z.data.toList = x := by rw [← hz]
 have e1 : (z.toList == s.toList) = true := by rw [Lib.toList_data, Lib.toList_data, hs, hzx]; simp
 clear hn h hs hz hzx
 go_enter Tryz.func290, Tryz.ntmps290
 go_wp2
 go_ret2
 exact ⟨rfl, Below.refl _ _⟩

set_option maxHeartbeats 1000000 in
theorem takePn18 (s : ByteArray) (t x : List UInt8) (hs : s.data.toList = t) (hx : (x == t) = false) (ao : Option Addr) (n cap : Nat) (r : List (List UInt8)) (hn : (x :: r).length = n) (w : World) (h : TS18 w ao (x :: r)) : Calls Tryz.prog 290 #[.string s, .slice ao n cap] w fun e w' => e = .returned (.tuple #[.int .i64 0, .bool false]) ∧ Below w.heap.size w w' := by
 obtain ⟨g, o, rfl, hg, hc⟩ := h 0 x rfl
 rw [Nat.add_zero] at hc
 have h1 : ((n : Int) == 0) = false := beq_false_of_ne (by simp at hn; omega)
 have h2 : (0 : Int) < (n : Int) := by simp at hn; omega
 obtain ⟨z, hz⟩ : ∃ z : ByteArray, (⟨x.toArray⟩ : ByteArray) = z := ⟨_, rfl⟩
 rw [hz] at hc
 have hzx : z.data.toList = x := by rw [← hz]
 have e1 : (z.toList == s.toList) = false := by rw [Lib.toList_data, Lib.toList_data, hs, hzx]; exact hx
 clear hn h hs hz hzx hx
 go_enter Tryz.func290, Tryz.ntmps290
 go_wp2
 go_ret2
 exact ⟨rfl, Below.refl _ _⟩

open Go.RowKit

theorem size_l18 (l : List UInt8) : (⟨l.toArray⟩ : ByteArray).size = l.length := by simp [ByteArray.size]
set_option maxHeartbeats 2000000 in
set_option maxRecDepth 100000 in
theorem wstrC18 (B b : Nat) (bs : List Value) (s : ByteArray) (w : World) (h : Lib.IsBuilder 124 5 B b bs w) (hlen : bs.length + s.size ≤ 140737488355328) (hBw : B ≤ w.heap.size) :
  Calls Tryz.prog 48 #[.pointer (some ⟨b, 0, none⟩), .string s] w fun e w' => e = .returned (.tuple #[.int .i64 (s.size : Int), .nilIface]) ∧ (Lib.IsBuilder 124 5 B b (bs ++ Lib.strCells s) w' ∧ Below B w w') := by
 obtain ⟨i0, hi, hz0, hz1, hz2⟩ := info_parts infoByte
 have hcc : Calls Tryz.prog 74 #[.pointer (some ⟨b, 0, none⟩)] w fun e w' => e = .returned (.tuple #[]) ∧ (Lib.BuilderAt 124 5 B b (.pointer (some ⟨b, 0, none⟩)) bs w' ∧ Below B w w') := by
  rcases h with h | h
  ·refine (copyCheck_fresh b w h.cell0 h.shape h.frozen0).mono ?_
   rintro e w' ⟨rfl, rfl⟩
   exact ⟨rfl, h.used _, (Below.refl B w).setCell (p := ⟨b, 0, none⟩) h.1 _⟩
  ·refine (copyCheck_used b w h.cell0).mono ?_
   rintro e w' ⟨rfl, rfl⟩
   exact ⟨rfl, h, Below.refl B _⟩
 have HCC := hid' hcc
 clear hcc h
 go_enter Tryz.func48, Tryz.ntmps48
 go_wp2_with fail
 refine HCC.out.mono ?_
 rintro e w1 ⟨rfl, h1, hb1⟩
 clear HCC
 obtain ⟨hB, v, hbk, hown, hne⟩ := h1
 have c0 : w1.cell? ⟨b, 0, none⟩ = some (.pointer (some ⟨b, 0, none⟩)) := by rw [Lib.cell_of_heap hbk]; rfl
 have c1 : w1.cell? ⟨b, 1, none⟩ = some v := by rw [Lib.cell_of_heap hbk]; rfl
 go_wp2_with (at_builtin; refine Lib.wpList_append_own_string _ rfl _ _ 80 9 rfl B 5 i0 Tryz.underlying80 Tryz.underlying9 hi hz0 hz1 hz2 _ _ _ rfl hown s rfl ?c3 ?c4 ?c5 ?_)
 case c3 => unfold maxLen; omega
 case c4 => omega
 case c5 => have := hb1.size; omega
 intro v' w2 hown' hgrow _
 have hlt : b < w1.heap.size := (Array.getElem?_eq_some_iff.1 hbk).1
 have hb2 : w2.heap[b]? = some (.cells #[.pointer (some ⟨b, 0, none⟩), v] 124 (0, 0)) := by
  rw [hgrow.block b (by omega) (fun e => hne e.symm)]
  exact hbk
 have d1 : w2.cell? ⟨b, 1, none⟩ = some v := by rw [Lib.cell_of_heap hb2]; rfl
 have f1 : w2.frozen? ⟨b, 1, none⟩ = false := Lib.frozen_of_heap hb2 1
 obtain ⟨ao, n', cap, rfl⟩ : ∃ ao n' cap, v' = .slice ao n' cap := by
  rcases hown'.2 with ⟨h, _⟩ | ⟨g, cap, cur, hv, _⟩
  ·exact ⟨_, _, _, h⟩
  ·exact ⟨_, _, _, hv⟩
 go_wp2
 go_ret2
 refine ⟨rfl, ?_, ?_⟩
 ·exact .inr (Lib.BuilderAt.put (T := 124) (e := 5) hB hb2 (bs' := bs ++ Lib.strCells s) (by simpa [Lib.strCells_length] using hown') (by decide))
 ·exact (hb1.grown hgrow (by have := hb1.size; omega) (fun k hk => (hown.lt k hk).1)).setCell (p := ⟨b, 1, none⟩) hB _

theorem wstr18 (B b : Nat) (l s : List UInt8) (w : World) (h : Bld w B b l) (hlen : l.length + s.length ≤ 140737488355328) (hBw : B ≤ w.heap.size) :
  Calls Tryz.prog 48 #[.pointer (some ⟨b, 0, none⟩), .string ⟨s.toArray⟩] w fun e w' => e = .returned (.tuple #[.int .i64 (s.length : Int), .nilIface]) ∧ (Bld w' B b (l ++ s) ∧ Below B w w') := by
 refine (wstrC18 B b (Lib.byteCells l) ⟨s.toArray⟩ w h (by rw [Lib.byteCells_length, size_l18]; exact hlen) hBw).mono ?_
 rintro e w' ⟨rfl, h1, h2⟩
 refine ⟨by rw [size_l18], ?_, h2⟩
 have : Lib.byteCells (l ++ s) = Lib.byteCells l ++ Lib.strCells ⟨s.toArray⟩ := by simp [Lib.byteCells, Lib.strCells]
 unfold Bld
 rw [this]
 exact h1

theorem str18 (B b : Nat) (l : List UInt8) (w : World) (h : Bld w B b l) (hBw : B ≤ w.heap.size) :
  Calls Tryz.prog 49 #[.pointer (some ⟨b, 0, none⟩)] w fun e w' => e = .returned (.string ⟨l.toArray⟩) ∧ Below B w w' := by
 refine (Tryz.Builder_String_any_k B b l w (Lib.IsBuilderF.of h) hBw).mono ?_
 rintro e w' ⟨rfl, _, hb, ho⟩
 exact ⟨rfl, hb⟩
theorem zeroBd18 : (Tryz.prog.info? 124).map (fun i => i.zero) = some (some (.agg #[.pointer none, .slice none 0 0])) := by kernel_rfl
def PU18 (w : World) (ao : Option Addr) (ps : List Rt.Prt) : Prop := ∀ (i : Nat) (p : Rt.Prt), ps[i]? = some p → ∃ g, ao = some ⟨g, 0, none⟩ ∧ g < w.heap.size ∧ w.cell? ⟨g, i, none⟩ = some (pU18 p)
theorem PU18.below {w w' : World} {ao : Option Addr} {ps : List Rt.Prt} (h : PU18 w ao ps) (hb : Below w.heap.size w w') : PU18 w' ao ps := fun i p hp => by
 obtain ⟨g, h1, h2, h3⟩ := h i p hp
 exact ⟨g, h1, Nat.lt_of_lt_of_le h2 hb.size, (hb.cell (p := ⟨g, i, none⟩) h2).trans h3⟩

set_option maxHeartbeats 2000000 in
set_option maxRecDepth 20000 in
theorem cshape18 (ao : Option Addr) (n cap : Nat) (ps : List Rt.Prt) (hn : ps.length = n) (hnb : n ≤ 4194305) (hg : ∀ p ∈ ps, Rt.Gp p) (hsz : (Rt.txt ps).length ≤ 67108864) (w : World) (h : PU18 w ao ps) :
  Calls Tryz.prog 30 #[.slice ao n cap] w fun e w' => e = .returned (.string ⟨(Rt.txt ps).toArray⟩) ∧ Below w.heap.size w w' := by
 have H := hid' h
 have HN := hid' hn
 have HG := hid' hg
 have HSZ := hid' hsz
 clear h hn hg hsz
 go_enter Tryz.func30, Tryz.ntmps30
 go_wp2_with (refine wpl_alloc 124 rfl rfl _ zeroBd18 ?_)
 intro b w1 hb1 ha1 hl1
 have HS1 : Hid (Bld w1 w.heap.size b [] ∧ Below w.heap.size w w1) := hid' ⟨bld_new w b w1 hb1 ha1, hl1⟩
 clear hb1 ha1 hl1
 go_wp2
 go_loopw [8] (fun s8 wr => ∃ i : Nat, s8 = .int .i64 (i : Int) ∧ i ≤ n ∧ Hid (Bld wr w.heap.size b (Rt.txt (ps.take i))) ∧ Hid (Below w.heap.size w wr)) (fun s8 _ => n - (intOf s8).toNat)
 case atStart => exact ⟨0, rfl, Nat.zero_le _, hid' HS1.out.1, hid' HS1.out.2⟩
 case round =>
  obtain ⟨i, rfl, hi, HO, HB⟩ := hrel
  by_cases hlt : i < n
  ·have hlt2 : (i : Int) < (n : Int) := by omega
   obtain ⟨p, hp⟩ : ∃ p, ps[i]? = some p := ⟨_, List.getElem?_eq_getElem (by rw [HN.out]; exact hlt)⟩
   obtain ⟨g, rfl, hgl, y0⟩ := H.out i p hp
   have y1 := (HB.out.cell (p := ⟨g, i, none⟩) hgl).trans y0
   have HGP := hid' (HG.out p (List.mem_of_getElem? hp))
   have HTK : Hid (Rt.txt (ps.take (i + 1)) = Rt.txt (ps.take i) ++ [47] ++ Rt.shp p) := hid' (by rw [List.take_add_one, hp]; simp [Rt.txt])
   have HTL : Hid ((Rt.txt (ps.take (i + 1))).length ≤ (Rt.txt ps).length) := hid' (by
    conv => rhs; rw [← List.take_append_drop (i + 1) ps]
    unfold Rt.txt
    rw [List.flatMap_append, List.length_append]
    omega)
   have HW1 := hid' (wstr18 w.heap.size b (Rt.txt (ps.take i)) [47] wr HO.out (by have := HSZ.out; have := HTL.out; rw [HTK.out] at this; simp at this; simp; omega) HB.out.size)
   clear hp y0
   rcases Rt.k3 HGP.out with hk | hk | hk
   ·have e1 : pU18 p = .iface 147 (.string ⟨p.t.toArray⟩) := by unfold pU18; rw [hk]; rfl
    rw [e1] at y1
    have HSP : Hid (Rt.shp p = p.t) := hid' (by unfold Rt.shp; rw [hk]; rfl)
    have mm := mshapeP18 ⟨p.t.toArray⟩
    go_wp2_with fail
    refine HW1.out.mono ?_
    rintro e w2 ⟨rfl, h1, h2⟩
    have HO2 := hid' h1
    have HB2 := hid' (HB.out.trans h2)
    clear h1 h2
    go_wp2_with fail
    refine (shapeP18 ⟨p.t.toArray⟩ w2).mono ?_
    rintro e w3 ⟨rfl, h3⟩
    have HB3 := hid' (HB2.out.trans (h3.mono HB2.out.size))
    have HO3 := hid' (bld_keep HO2.out h3)
    have HW2 := hid' (wstr18 w.heap.size b _ (p.t) w3 HO3.out (by have := HSZ.out; have := HTL.out; rw [HTK.out, HSP.out, List.length_append] at this; omega) HB3.out.size)
    clear h3
    go_wp2_with fail
    refine HW2.out.mono ?_
    rintro e w4 ⟨rfl, h1, h2⟩
    have HO4 := hid' h1
    have HB4 := hid' (HB3.out.trans h2)
    clear h1 h2
    go_wp2
    go_roundw
    case rel => exact ⟨i + 1, by go_num, by omega, hid' (by rw [HTK.out, HSP.out]; exact HO4.out), HB4⟩
    case measure => simp [intOf]; omega
   ·have e1 : pU18 p = .iface 150 (.agg #[]) := by unfold pU18; rw [hk]; rfl
    rw [e1] at y1
    have HSP : Hid (Rt.shp p = [123, 125]) := hid' (by unfold Rt.shp; rw [hk]; rfl)
    have mm := mshapeC18
    go_wp2_with fail
    refine HW1.out.mono ?_
    rintro e w2 ⟨rfl, h1, h2⟩
    have HO2 := hid' h1
    have HB2 := hid' (HB.out.trans h2)
    clear h1 h2
    go_wp2_with fail
    refine (shapeC18 w2).mono ?_
    rintro e w3 ⟨rfl, h3⟩
    have HB3 := hid' (HB2.out.trans (h3.mono HB2.out.size))
    have HO3 := hid' (bld_keep HO2.out h3)
    have HW2 := hid' (wstr18 w.heap.size b _ ([123, 125]) w3 HO3.out (by have := HSZ.out; have := HTL.out; rw [HTK.out, HSP.out, List.length_append] at this; omega) HB3.out.size)
    clear h3
    go_wp2_with fail
    refine HW2.out.mono ?_
    rintro e w4 ⟨rfl, h1, h2⟩
    have HO4 := hid' h1
    have HB4 := hid' (HB3.out.trans h2)
    clear h1 h2
    go_wp2
    go_roundw
    case rel => exact ⟨i + 1, by go_num, by omega, hid' (by rw [HTK.out, HSP.out]; exact HO4.out), HB4⟩
    case measure => simp [intOf]; omega
   ·have e1 : pU18 p = .iface 149 (.agg #[]) := by unfold pU18; rw [hk]; rfl
    rw [e1] at y1
    have HSP : Hid (Rt.shp p = [123, 46, 46, 46, 125]) := hid' (by unfold Rt.shp; rw [hk]; rfl)
    have mm := mshapeR18
    go_wp2_with fail
    refine HW1.out.mono ?_
    rintro e w2 ⟨rfl, h1, h2⟩
    have HO2 := hid' h1
    have HB2 := hid' (HB.out.trans h2)
    clear h1 h2
    go_wp2_with fail
    refine (shapeR18 w2).mono ?_
    rintro e w3 ⟨rfl, h3⟩
    have HB3 := hid' (HB2.out.trans (h3.mono HB2.out.size))
    have HO3 := hid' (bld_keep HO2.out h3)
    have HW2 := hid' (wstr18 w.heap.size b _ ([123, 46, 46, 46, 125]) w3 HO3.out (by have := HSZ.out; have := HTL.out; rw [HTK.out, HSP.out, List.length_append] at this; omega) HB3.out.size)
    clear h3
    go_wp2_with fail
    refine HW2.out.mono ?_
    rintro e w4 ⟨rfl, h1, h2⟩
    have HO4 := hid' h1
    have HB4 := hid' (HB3.out.trans h2)
    clear h1 h2
    go_wp2
    go_roundw
    case rel => exact ⟨i + 1, by go_num, by omega, hid' (by rw [HTK.out, HSP.out]; exact HO4.out), HB4⟩
    case measure => simp [intOf]; omega
  ·have hlt2 : ¬ (i : Int) < (n : Int) := by omega
   have HT : Hid (Rt.txt (ps.take i) = Rt.txt ps) := hid' (by rw [List.take_of_length_le (by rw [HN.out]; omega)])
   rw [HT.out] at HO
   have HST := hid' (str18 w.heap.size b (Rt.txt ps) wr HO.out HB.out.size)
   go_wp2_with fail
   refine HST.out.mono ?_
   rintro e w2 ⟨rfl, h2⟩
   have HB2 := hid' (HB.out.trans h2)
   clear h2
   go_wp2
   go_ret
   exact ⟨rfl, HB2.out⟩

end Go.Proofs.YtcfbobegbmcbeaaGreatDoor
