/-
  strings.Cut at '?', strings.Split and strings.Join at '/', and the code's Parts: by their contracts.
-/
import Derived.Test.YtfdjimjiikeciaaGreatDoorPtAE18
import Derived.Test.YtfdjimjiikeciaaGreatDoorShelf
import Derived.Shelf.Strings.Split
import Derived.Lib.Join
namespace Go.Proofs.YtfdjimjiikeciaaGreatDoor
open Go.RowKit

namespace Pt
theorem cutS_none (a : T8) (h : ∀ c ∈ a, c ≠ 47) : cutS [] a = [a] := by
  have := cutS_app a [] [] (fun e => h 47 e rfl)
  rw [List.append_nil] at this
  rw [this]; simp [cutS]
theorem splitK_cutS : ∀ (k : Nat) (s : T8), s.count 47 = k → Lib.splitK [47] 0 k s = cutS [] s
  | 0, s, h => by
    rw [Lib.splitK, cutS_none]
    intro c hc e
    subst e
    have := List.count_pos_iff.2 hc
    omega
  | k + 1, s, h => by
    rw [Lib.splitK, Lib.index_one]
    have hge := Lib.indexByte_ge s 47
    by_cases h1 : Lib.indexByte s 47 = -1
    · exfalso
      have h2 := Lib.indexByte_none h1
      have h3 : 0 < s.count 47 := by omega
      obtain ⟨i, hi⟩ := List.getElem?_of_mem (List.count_pos_iff.1 h3)
      exact h2 i hi
    · obtain ⟨o, ho⟩ : ∃ o : Nat, Lib.indexByte s 47 = (o : Int) := ⟨(Lib.indexByte s 47).toNat, by omega⟩
      obtain ⟨h2, h3⟩ := Lib.indexByte_some ho
      obtain ⟨hl, h4⟩ := List.getElem?_eq_some_iff.1 h2
      rw [if_neg (by simpa using h1), ho]
      have e : s = s.take o ++ 47 :: s.drop (o + 1) := by
        conv => lhs; rw [← List.take_append_drop o s, List.drop_eq_getElem_cons hl, h4]
      have h5 : 47 ∉ s.take o := by
        intro hc
        obtain ⟨i, hi⟩ := List.getElem?_of_mem hc
        have hio : i < o := by have := (List.getElem?_eq_some_iff.1 hi).1; rw [List.length_take] at this; omega
        rw [List.getElem?_take, if_pos hio] at hi
        exact h3 i hio hi
      have h6 : (s.drop (o + 1)).count 47 = k := by
        have h7 : (s.take o).count 47 = 0 := List.count_eq_zero.2 h5
        rw [e, List.count_append, h7, List.count_cons] at h
        simp at h
        omega
      have h8 : cutS [] s = s.take o :: cutS [] (s.drop (o + 1)) := by
        conv => lhs; rw [e]
        rw [cutS_app _ _ _ h5, cutS, if_pos (by decide)]
        simp
      rw [h8]
      simp only [Int.toNat_natCast, Nat.add_zero, List.length_cons, List.length_nil, Nat.zero_add]
      rw [splitK_cutS k _ h6]
theorem join_lib : ∀ k : List T8, Lib.join k [47] = join k
  | [] => rfl
  | [p] => by rw [Lib.join_one]; rfl
  | p :: q :: r => by
    rw [Lib.join_cons, join, ← join_lib (q :: r), Lib.join_cons]
    simp [Lib.joinTail]
theorem preI_none {l : T8} (h : Lib.indexByte l 63 = -1) : pre l = l ∧ qry l = [] := by
  have h1 : ∀ x ∈ l, (!(x == 63)) = true := by
    intro x hx
    obtain ⟨k, hk⟩ := List.getElem?_of_mem hx
    have := Lib.indexByte_none h k
    rw [hk] at this
    simp
    rintro rfl
    exact this rfl
  have h2 : pre l = l := by
    unfold pre
    have := List.takeWhile_append_of_pos (l₂ := []) h1
    simpa using this
  refine ⟨h2, ?_⟩
  unfold qry
  rw [h2]
  exact List.drop_eq_nil_of_le (by omega)
theorem preI_some {l : T8} {o : Nat} (h : Lib.indexByte l 63 = (o : Int)) : pre l = l.take o ∧ qry l = l.drop (o + 1) ∧ o < l.length := by
  obtain ⟨h1, h2⟩ := Lib.indexByte_some h
  obtain ⟨hl, h3⟩ := List.getElem?_eq_some_iff.1 h1
  have e : l = l.take o ++ 63 :: l.drop (o + 1) := by
    conv => lhs; rw [← List.take_append_drop o l, List.drop_eq_getElem_cons hl, h3]
  have h4 : ∀ x ∈ l.take o, (!(x == 63)) = true := by
    intro x hx
    obtain ⟨k, hk⟩ := List.getElem?_of_mem hx
    have hko : k < o := by have := (List.getElem?_eq_some_iff.1 hk).1; rw [List.length_take] at this; omega
    rw [List.getElem?_take, if_pos hko] at hk
    have := h2 k hko
    rw [hk] at this
    simp
    rintro rfl
    exact this rfl
  have h5 : pre l = l.take o := by
    unfold pre
    conv => lhs; rw [e]
    rw [List.takeWhile_append_of_pos h4, List.takeWhile_cons]
    simp
  refine ⟨h5, ?_, hl⟩
  unfold qry
  rw [h5, List.length_take, Nat.min_eq_left (by omega)]
end Pt

theorem info17s : (Tryz.prog.info? 9).map (fun i => (i.zero, i.size, i.bytes)) = some (some (.string ByteArray.empty), 1, 16) := by kernel_rfl
theorem indexB_slash17 (x : ByteArray) : Lib.indexB x ⟨#[47]⟩ = Lib.indexByte x.data.toList 47 := Lib.index_one _ _
theorem countB_slash17 (x : ByteArray) : Lib.countB x ⟨#[47]⟩ = x.data.toList.count 47 := Lib.count_one _ _

set_option maxHeartbeats 1000000 in
theorem split17 (s : ByteArray) (l : List UInt8) (hl : s.data.toList = l) (w : World) (hs : s.size ≤ 4194304) : Calls Tryz.prog 37 #[.string s, .string ⟨#[47]⟩] w fun e w' => (∃ n g, e = .returned (.slice (some ⟨g, 0, none⟩) n n) ∧ (Pt.cutS [] l).length = n ∧ SR17 w' (some ⟨g, 0, none⟩) (Pt.cutS [] l)) ∧ Below w.heap.size w w' := by
  have hle := Lib.countB_le ⟨#[47]⟩ (by decide) s.size s (Nat.le_refl _)
  have hlen := Lib.splitB_all ⟨#[47]⟩ (by decide) 0 _ s rfl
  have c := Any.strings_genSplit_core Tryz.lays221 info17s s ⟨#[47]⟩ 0 (-1) (Lib.countB s ⟨#[47]⟩ + 1) w (by omega) (by decide) (Nat.zero_le _)
    (fun x cs _ => by rw [indexB_slash17]; exact Tryz.strings_Index_one x 47 _)
    (by rw [countB_slash17]; exact Tryz.strings_Count_one s 47 w) (by decide) (by decide) (by rw [if_pos (by decide)]; omega)
  rw [Nat.add_sub_cancel, hlen] at c
  have e2 : Lib.cellsOf (Lib.splitB ⟨#[47]⟩ 0 (Lib.countB s ⟨#[47]⟩) s) (Lib.countB s ⟨#[47]⟩ + 1) = ((Lib.splitB ⟨#[47]⟩ 0 (Lib.countB s ⟨#[47]⟩) s).map Value.string).toArray := by rw [← hlen]; exact Lib.cellsOf_full _
  rw [e2] at c
  have hd := Lib.splitB_data ⟨#[47]⟩ 0 (Lib.countB s ⟨#[47]⟩) s
  rw [Pt.splitK_cutS _ _ (countB_slash17 s).symm, hl] at hd
  obtain ⟨ps, hps⟩ : ∃ ps, Lib.splitB ⟨#[47]⟩ 0 (Lib.countB s ⟨#[47]⟩) s = ps := ⟨_, rfl⟩
  rw [hps] at c hd hlen
  rw [← hlen] at c
  have HSR : Hid (SR17 (w.alloc (.cells (ps.map Value.string).toArray 9)) (some ⟨w.heap.size, 0, none⟩) (Pt.cutS [] l)) := hid' (fun i p hp => by
    refine ⟨w.heap.size, rfl, by simp, ?_⟩
    rw [← hd, List.getElem?_map] at hp
    obtain ⟨q, hq, rfl⟩ := Option.map_eq_some_iff.1 hp
    have hA : Ar (w.alloc (.cells (ps.map Value.string).toArray 9)) w.heap.size 9 (ps.map Value.string).toArray := heap_alloc_last w _
    exact hA.cell i _ (by simp [hq]))
  have HD : Hid ((Pt.cutS [] l).length = ps.length) := hid' (by rw [← hd, List.length_map])
  have C : Hid (Calls Tryz.prog 59 #[.string s, .string ⟨#[47]⟩, .int .i64 0, .int .i64 (-1)] w fun e w' => e = .returned (.slice (some ⟨w.heap.size, 0, none⟩) ps.length ps.length) ∧ w' = w.alloc (.cells (ps.map Value.string).toArray 9)) := hid' c
  clear c hd e2 hlen hps hle hl
  go_enter Tryz.func37, Tryz.ntmps37
  go_wp2_with fail
  refine C.out.mono ?_
  rintro e w1 ⟨rfl, hw⟩
  have HW := hid' hw
  clear hw
  go_wp2
  go_ret
  exact ⟨⟨ps.length, w.heap.size, rfl, HD.out, by rw [HW.out]; exact HSR.out⟩, by rw [HW.out]; exact bl_alloc17 w _⟩

theorem cjoin17 (ao : Option Addr) (n cap : Nat) (k : List (List UInt8)) (hn : k.length = n) (hc : n ≤ cap) (w : World) (h : SR17 w ao k) (hsz : (k.map List.length).sum + k.length ≤ 16777216) :
    Calls Tryz.prog 54 #[.slice ao n cap, .string ⟨#[47]⟩] w fun e w' => e = .returned (.string ⟨(Pt.join k).toArray⟩) ∧ Below w.heap.size w w' := by
  cases k with
  | nil =>
    obtain rfl : 0 = n := hn
    refine (Tryz.strings_Join_none ao cap ⟨#[47]⟩ w).mono ?_
    rintro e w' ⟨rfl, rfl⟩
    exact ⟨rfl, Below.refl _ _⟩
  | cons p r =>
    obtain ⟨g, rfl, hg, _⟩ := h 0 p rfl
    obtain ⟨xs, hxs⟩ : ∃ xs : List ByteArray, xs = (p :: r).map (fun x => (⟨x.toArray⟩ : ByteArray)) := ⟨_, rfl⟩
    have e1 : xs.map (·.data.toList) = p :: r := by rw [hxs, List.map_map]; simp [Function.comp_def]
    have e2 : xs.length = n := by rw [hxs, List.length_map]; exact hn
    have hj := Pt.join_len (p :: r)
    have c := Tryz.strings_Join g 0 cap xs ⟨#[47]⟩ w (fun j x hx => by
      rw [hxs, List.getElem?_map] at hx
      obtain ⟨q, hq, rfl⟩ := Option.map_eq_some_iff.1 hx
      obtain ⟨g', hg', _, h2⟩ := h j q hq
      injection hg' with hg'
      injection hg' with hg'
      subst hg'
      rw [Nat.zero_add]
      exact h2) hg (by rw [e2, ← hn]; omega) (by rw [e2]; exact hc) (by
        rw [e1, show (⟨#[47]⟩ : ByteArray).data.toList = [47] from rfl, Pt.join_lib]; omega)
    rw [e1, e2, show (⟨#[47]⟩ : ByteArray).data.toList = [47] from rfl, Pt.join_lib] at c
    exact c

set_option maxHeartbeats 1600000 in
set_option maxRecDepth 20000 in
theorem xparts17 (s : ByteArray) (l : List UInt8) (hl : s.data.toList = l) (w : World) (hs : s.size ≤ 4194304) :
    Calls Tryz.prog 45 #[.string s] w fun e w' => (∃ m ro rc, e = .returned (.slice ro m rc) ∧ (Pt.parts l).length = m ∧ w'.ownsRow w.heap.size 9 1 (.slice ro m rc) m (sC17 (Pt.parts l))) ∧ Below w.heap.size w w' := by
  obtain ⟨i0, hi0, hz0, hz1, hz2⟩ := minfo17 infoS17
  have HI := hid' hi0
  have HZ0 := hid' hz0
  have HZ1 := hid' hz1
  have HZ2 := hid' hz2
  clear hi0 hz0 hz1 hz2
  have HCU := hid' (split17 s l hl w hs)
  have HPD : Hid (Pt.parts l = (Pt.cutS [] l).filter (fun p => !p.isEmpty)) := hid' rfl
  have hpl : (Pt.cutS [] l).length ≤ 4194305 := by have := Pt.cutS_len l; rw [← hl, ← Lib.size_eq] at this; rw [← hl]; omega
  obtain ⟨ps, hps⟩ : ∃ ps, Pt.cutS [] l = ps := ⟨_, rfl⟩
  rw [hps] at HCU HPD hpl
  clear hl hps
  go_enter Tryz.func45, Tryz.ntmps45
  go_wp2_with fail
  refine HCU.out.mono ?_
  rintro e w1 ⟨⟨m, sg, rfl, hm, hsr⟩, hb1⟩
  have HM := hid' hm
  have HSR := hid' hsr
  have HB1 := hid' hb1
  rw [hm] at hpl
  clear hm hsr hb1 HCU
  go_wp2
  go_loopw [3, 9] (fun s3 s9 wr => ∃ (k c : Nat) (ro : Option Addr) (rc : Nat), s9 = .int .i64 (k : Int) ∧ s3 = .slice ro c rc ∧ k ≤ m ∧ c ≤ k ∧ Hid (((ps.take k).filter (fun p => !p.isEmpty)).length = c) ∧ Hid (wr.ownsRow w1.heap.size 9 1 (.slice ro c rc) c (sC17 ((ps.take k).filter (fun p => !p.isEmpty)))) ∧ Hid (Below w1.heap.size w1 wr)) (fun _ s9 _ => m - (intOf s9).toNat)
  case atStart => exact ⟨0, 0, none, 0, rfl, rfl, Nat.zero_le _, Nat.le_refl _, hid' rfl, hid' (World.ownsRow_nil _ _ _ _), hid' (Below.refl _ _)⟩
  case round =>
    obtain ⟨k, c, ro, rc, rfl, rfl, hk, hck, HCL, HO, HB⟩ := hrel
    by_cases hlt : k < m
    · have hlt2 : (k : Int) < (m : Int) := by omega
      obtain ⟨p, hp⟩ : ∃ p, ps[k]? = some p := ⟨_, List.getElem?_eq_getElem (by rw [HM.out]; exact hlt)⟩
      obtain ⟨g, hgg, _, y0⟩ := (HSR.out.below HB.out) k p hp
      obtain rfl : sg = g := by injection hgg with h; injection h
      have HFT : Hid ((ps.take (k + 1)).filter (fun p => !p.isEmpty) = (ps.take k).filter (fun p => !p.isEmpty) ++ (if !p.isEmpty then [p] else [])) := hid' (by rw [List.take_add_one, hp, List.filter_append]; congr 1; simp [List.filter_cons])
      obtain ⟨y, hy⟩ : ∃ y : ByteArray, (⟨p.toArray⟩ : ByteArray) = y := ⟨_, rfl⟩
      have hye : y.toList.isEmpty = p.isEmpty := by rw [← hy, Lib.toList_data]
      have HYS : Hid (sC17 [p] = [.string y]) := hid' (by unfold sC17; rw [← hy]; rfl)
      rw [hy] at y0
      clear hp hy hgg
      cases pe : p.isEmpty
      · rw [pe] at hye HFT
        have HF2 : Hid ((ps.take (k + 1)).filter (fun p => !p.isEmpty) = (ps.take k).filter (fun p => !p.isEmpty) ++ [p]) := hid' HFT.out
        have HA : Hid ((wr.alloc (.cells #[.string y] 9)).ownsRow w1.heap.size 9 1 (.slice ro c rc) c (sC17 ((ps.take k).filter (fun p => !p.isEmpty)))) := hid' (HO.out.alloc _)
        go_wp2_with (at_builtin; refine wpList_append_own_at _ rfl _ _ 47 rfl w1.heap.size 9 i0 (.string ⟨#[]⟩) 1 16 Tryz.underlying47 HI.out HZ0.out HZ1.out HZ2.out rfl (by decide) (.slice ro c rc) c (sC17 ((ps.take k).filter (fun p => !p.isEmpty))) rfl HA.out ⟨wr.heap.size, 0, none⟩ 1 1 [.string y] rfl rfl (one_cell17 _ _ _) (by simp [Value.oneCell']) (by unfold maxLen; omega) (by omega) (by simp; have := HB.out.size; omega) ?_; intro v3 w3 hown3 hgrow3 _ _; refine Hid.out ?_)
        refine hid' ?_
        have e : sC17 ((ps.take k).filter (fun p => !p.isEmpty)) ++ [Value.string y] = sC17 ((ps.take (k + 1)).filter (fun p => !p.isEmpty)) := by rw [HF2.out, sC17_app, HYS.out]
        rw [e] at hown3
        obtain ⟨v3o, v3c, hv3⟩ := own_shape17 hown3
        subst hv3
        have HO3 := hid' hown3
        have HB3 : Hid (Below w1.heap.size w1 w3) := hid' ((HB.out.alloc HB.out.size _).grown hgrow3 (by simp; have := HB.out.size; omega) (fun k hk => (HA.out.lt k hk).1))
        clear hown3 hgrow3 e
        go_wp2
        go_roundw
        case rel => exact ⟨k + 1, c + 1, v3o, v3c, by go_num, rfl, by omega, by omega, hid' (by rw [HF2.out, List.length_append, HCL.out]; rfl), HO3, HB3⟩
        case measure => simp [intOf]; omega
      · rw [pe] at hye HFT
        have HF2 : Hid ((ps.take (k + 1)).filter (fun p => !p.isEmpty) = (ps.take k).filter (fun p => !p.isEmpty)) := hid' (by rw [HFT.out]; simp)
        go_wp2
        go_roundw
        case rel => exact ⟨k + 1, c, ro, rc, by go_num, rfl, by omega, by omega, hid' (by rw [HF2.out]; exact HCL.out), hid' (by rw [HF2.out]; exact HO.out), HB⟩
        case measure => simp [intOf]; omega
    · have hlt2 : ¬ (k : Int) < (m : Int) := by omega
      have HTk : Hid (ps.take k = ps) := hid' (List.take_of_length_le (by rw [HM.out]; omega))
      rw [HTk.out, ← HPD.out] at HCL HO
      clear hlt
      go_wp2
      go_ret
      exact ⟨⟨c, ro, rc, rfl, HCL.out, own_base17 HO.out HB1.out.size⟩, below_two HB1.out HB.out⟩

end Go.Proofs.YtfdjimjiikeciaaGreatDoor
