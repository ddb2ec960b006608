/-
  The code's Path: strings.Split at a slash, plain, Path: by their contracts.
-/
import Derived.Test.YtnggablpkgbpaaaDoorDkG
import Derived.Test.YtnggablpkgbpaaaDoorShelf
import Derived.Shelf.Strings.Split
namespace Go.Proofs.YtnggablpkgbpaaaDoor
open Go.RowKit

namespace Dk
/-- A text cut at its slashes. -/
def pcs : Tx8 → Tx8 → List Tx8
  | cur, [] => [cur]
  | cur, c :: r => if c = 47 then cur :: pcs [] r else pcs (cur ++ [c]) r
theorem pcs_app (r : Tx8) : ∀ (a cur : Tx8), (∀ c ∈ a, c ≠ 47) → pcs cur (a ++ r) = pcs (cur ++ a) r
  | [], cur, _ => by simp
  | c :: a, cur, h => by
    rw [List.cons_append, pcs, if_neg (h c (by simp)), pcs_app r a (cur ++ [c]) (fun d hd => h d (by simp [hd]))]
    simp
theorem pcs_none (a : Tx8) (h : ∀ c ∈ a, c ≠ 47) : pcs [] a = [a] := by
  have := pcs_app [] a [] h
  simpa [pcs] using this
theorem splitK_pcs : ∀ (k : Nat) (s : Tx8), s.count 47 = k → Lib.splitK [47] 0 k s = pcs [] s
  | 0, s, h => by
    rw [Lib.splitK, pcs_none]
    intro c hc e
    subst e
    have := List.count_pos_iff.2 hc
    omega
  | k + 1, s, h => by
    rw [Lib.splitK, Lib.index_one]
    have hge := Lib.indexByte_ge s 47
    by_cases h1 : Lib.indexByte s 47 = -1
    · exfalso
      have h2 := Lib.indexByte_none h1
      have h3 : 0 < s.count 47 := by omega
      obtain ⟨i, hi⟩ := List.getElem?_of_mem (List.count_pos_iff.1 h3)
      exact h2 i hi
    · obtain ⟨o, ho⟩ : ∃ o : Nat, Lib.indexByte s 47 = (o : Int) := ⟨(Lib.indexByte s 47).toNat, by omega⟩
      obtain ⟨h2, h3⟩ := Lib.indexByte_some ho
      obtain ⟨hl, h4⟩ := List.getElem?_eq_some_iff.1 h2
      rw [if_neg (by simpa using h1), ho]
      have e : s = s.take o ++ 47 :: s.drop (o + 1) := by
        conv => lhs; rw [← List.take_append_drop o s, List.drop_eq_getElem_cons hl, h4]
      have h5 : ∀ c ∈ s.take o, c ≠ 47 := by
        intro c hc e
        subst e
        obtain ⟨i, hi⟩ := List.getElem?_of_mem hc
        have hio : i < o := by have := (List.getElem?_eq_some_iff.1 hi).1; rw [List.length_take] at this; omega
        rw [List.getElem?_take, if_pos hio] at hi
        exact h3 i hio hi
      have h6 : (s.drop (o + 1)).count 47 = k := by
        have h7 : (s.take o).count 47 = 0 := List.count_eq_zero.2 (fun hc => h5 47 hc rfl)
        rw [e, List.count_append, h7, List.count_cons] at h
        simp at h
        omega
      have h8 : pcs [] s = s.take o :: pcs [] (s.drop (o + 1)) := by
        conv => lhs; rw [e]
        rw [pcs_app _ _ _ h5, pcs, if_pos rfl]
        simp
      rw [h8]
      simp only [Int.toNat_natCast, Nat.add_zero, List.length_cons, List.length_nil, Nat.zero_add]
      rw [splitK_pcs k _ h6]
def pln (c : UInt8) : Bool := decide (32 ≤ c.toNat) && decide (c.toNat ≤ 126)
theorem pOk_pcs : ∀ (l cur : Tx8), pOk cur l = (l.all pln && (pcs cur l).all good)
  | [], cur => by simp [pOk, pcs]
  | c :: r, cur => by
    rw [pOk, pcs]
    split
    · rename_i hc
      subst hc
      rw [pOk_pcs r []]
      simp only [List.all_cons]
      rw [show pln 47 = true from rfl]
      cases good cur <;> cases r.all pln <;> simp
    · rw [pOk_pcs r (cur ++ [c])]
      simp only [List.all_cons, pln, Bool.and_assoc]
/-- What Path asks, in the code's order. -/
theorem path_parts (l : Tx8) : path l = (Lib.hasPrefix l [47] && (decide (l.length ≤ 255) && (l.all pln && (pcs [] (Lib.trimPrefix l [47])).all good))) := by
  cases l with
  | nil => simp [path, Lib.hasPrefix]
  | cons c r =>
    rw [path, pOk_pcs]
    by_cases hc : c = 47
    · subst hc
      have e1 : Lib.hasPrefix (47 :: r) [47] = true := by simp [Lib.hasPrefix]
      rw [e1]
      unfold Lib.trimPrefix
      rw [e1]
      simp only [List.length_cons, List.all_cons, if_true, List.length_nil, Nat.zero_add, List.drop_succ_cons, List.drop_zero]
      rw [show pln 47 = true from rfl]
      simp
    · have e1 : Lib.hasPrefix (c :: r) [47] = false := by simp only [Lib.hasPrefix, List.isPrefixOf, Bool.and_true]; exact beq_false_of_ne (fun e => hc e.symm)
      rw [e1, show (c == 47) = false by simpa using hc]
      simp
end Dk

theorem info9 : (Tryd.prog.info? 9).map (fun i => (i.zero, i.size, i.bytes)) = some (some (.string ByteArray.empty), 1, 16) := by kernel_rfl
theorem indexB_slash (x : ByteArray) : Lib.indexB x ⟨#[47]⟩ = Lib.indexByte x.data.toList 47 := Lib.index_one _ _
theorem countB_slash (x : ByteArray) : Lib.countB x ⟨#[47]⟩ = x.data.toList.count 47 := Lib.count_one _ _
set_option maxHeartbeats 1000000 in
theorem split13 (s : ByteArray) (w : World) (hs : s.size ≤ 255) : Calls Tryd.prog 28 #[.string s, .string ⟨#[47]⟩] w fun e w' => ∃ ps : List ByteArray, e = .returned (.slice (some ⟨w.heap.size, 0, none⟩) ps.length ps.length) ∧ w' = w.alloc (.cells (ps.map Value.string).toArray 9) ∧ ps.map (·.data.toList) = Dk.pcs [] s.data.toList ∧ ps.length ≤ 256 := by
  have hle := Lib.countB_le ⟨#[47]⟩ (by decide) s.size s (Nat.le_refl _)
  have hlen := Lib.splitB_all ⟨#[47]⟩ (by decide) 0 _ s rfl
  have c := Any.strings_genSplit_core Tryd.lays221 info9 s ⟨#[47]⟩ 0 (-1) (Lib.countB s ⟨#[47]⟩ + 1) w (by omega) (by decide) (Nat.zero_le _)
    (fun x cs _ => by rw [indexB_slash]; exact Tryd.strings_Index_one x 47 _)
    (by rw [countB_slash]; exact Tryd.strings_Count_one s 47 w) (by decide) (by decide) (by rw [if_pos (by decide)]; omega)
  rw [Nat.add_sub_cancel, hlen] at c
  have e2 : Lib.cellsOf (Lib.splitB ⟨#[47]⟩ 0 (Lib.countB s ⟨#[47]⟩) s) (Lib.countB s ⟨#[47]⟩ + 1) = ((Lib.splitB ⟨#[47]⟩ 0 (Lib.countB s ⟨#[47]⟩) s).map Value.string).toArray := by rw [← hlen]; exact Lib.cellsOf_full _
  rw [e2] at c
  have hd := Lib.splitB_data ⟨#[47]⟩ 0 (Lib.countB s ⟨#[47]⟩) s
  rw [Dk.splitK_pcs _ _ (countB_slash s).symm] at hd
  obtain ⟨ps, hps⟩ : ∃ ps, Lib.splitB ⟨#[47]⟩ 0 (Lib.countB s ⟨#[47]⟩) s = ps := ⟨_, rfl⟩
  rw [hps] at c hd hlen
  rw [← hlen] at c
  have HD := hid' hd
  have HL : Hid (ps.length ≤ 256) := hid' (by omega)
  have C : Hid (Calls Tryd.prog 37 #[.string s, .string ⟨#[47]⟩, .int .i64 0, .int .i64 (-1)] w fun e w' => e = .returned (.slice (some ⟨w.heap.size, 0, none⟩) ps.length ps.length) ∧ w' = w.alloc (.cells (ps.map Value.string).toArray 9)) := hid' c
  clear c hd e2 hlen hps hle
  go_enter Tryd.func28, Tryd.ntmps28
  go_wp2_with fail
  refine C.out.mono ?_
  rintro e w1 ⟨rfl, hw⟩
  have HW := hid' hw
  clear hw
  go_wp2
  go_ret
  exact ⟨ps, rfl, HW.out, HD.out, HL.out⟩

set_option maxHeartbeats 1000000 in
theorem cplain13 (s : ByteArray) (r : Bool) (hr : s.data.toList.all Dk.pln = r) (w : World) (hs : s.size ≤ 140737488355328) : Calls Tryd.prog 27 #[.string s] w fun e w' => e = .returned (.bool r) ∧ w' = w := by
  obtain ⟨L, hL⟩ : ∃ L, s.data.toList = L := ⟨_, rfl⟩
  have HL := hid' hL
  have hsz : L.length = s.size := by rw [← hL, ← Lib.size_eq]
  have HSZ := hid' hsz
  rw [hL] at hr
  have HR := hid' hr
  clear hr hL hsz
  go_enter Tryd.func27, Tryd.ntmps27
  go_wp2
  go_loopw [6] (fun s6 wr => ∃ k : Nat, s6 = .int .i64 (k : Int) ∧ k ≤ s.size ∧ wr = w ∧ Hid (r = (L.drop k).all Dk.pln)) (fun s6 _ => s.size - (intOf s6).toNat)
  case atStart => exact ⟨0, rfl, Nat.zero_le _, rfl, hid' HR.out.symm⟩
  case round =>
    obtain ⟨k, rfl, hk, hwr, HK⟩ := hrel
    subst wr
    by_cases hlt : k < s.size
    · have hlt2 : (k : Int) < (s.size : Int) := by omega
      have hck : L[k]? = some s[k] := by rw [← HL.out, List.getElem?_eq_getElem (by rw [← Lib.size_eq]; exact hlt)]; rfl
      have hdr := drop_one L k _ hck
      have HB2 : Hid (r = (Dk.pln s[k] && (L.drop (k + 1)).all Dk.pln)) := hid' (by rw [HK.out, hdr, List.all_cons])
      clear hck hdr HK
      by_cases d1 : s[k].toNat < 32
      · have HF : Hid (r = false) := hid' (by rw [HB2.out]; unfold Dk.pln; rw [decide_eq_false (by omega)]; rfl)
        have d1' : (s[k].toNat : Int) < 32 := by omega
        go_wp2
        go_ret
        exact ⟨by rw [HF.out]; rfl, rfl⟩
      have d1' : ¬ (s[k].toNat : Int) < 32 := by omega
      by_cases d2 : 126 < s[k].toNat
      · have HF : Hid (r = false) := hid' (by rw [HB2.out]; unfold Dk.pln; rw [decide_eq_false (show ¬ s[k].toNat ≤ 126 by omega)]; simp)
        have d2' : (126 : Int) < (s[k].toNat : Int) := by omega
        clear d1
        go_wp2
        go_ret
        exact ⟨by rw [HF.out]; rfl, rfl⟩
      have d2' : ¬ (126 : Int) < (s[k].toNat : Int) := by omega
      have HN : Hid (r = (L.drop (k + 1)).all Dk.pln) := hid' (by rw [HB2.out]; unfold Dk.pln; rw [decide_eq_true (show 32 ≤ s[k].toNat by omega), decide_eq_true (show s[k].toNat ≤ 126 by omega)]; rfl)
      clear d1 d2
      go_wp2
      go_roundw
      case rel => exact ⟨k + 1, by go_num, by omega, by first | rfl | trivial, HN⟩
      case measure => simp [intOf]; omega
    · obtain rfl : k = s.size := by omega
      have hlt2 : ¬ (s.size : Int) < (s.size : Int) := by omega
      have HF : Hid (r = true) := hid' (by rw [HK.out, List.drop_of_length_le (by rw [HSZ.out]; exact Nat.le_refl _)]; rfl)
      go_wp2
      go_ret
      exact ⟨by rw [HF.out]; rfl, rfl⟩

set_option maxHeartbeats 2000000 in
set_option maxRecDepth 20000 in
theorem cpath13 (x : ByteArray) (b : Bool) (hb : Dk.path x.data.toList = b) (w : World) (hx : x.size ≤ 140737488355328) : Calls Tryd.prog 8 #[.string x] w fun e w' => e = .returned (.bool b) ∧ Below w.heap.size w w' := by
  rw [Dk.path_parts] at hb
  have HB := hid' hb
  have HC := hid' (Tryd.strings_CutPrefix x ⟨#[47]⟩ w)
  obtain ⟨hp, hhp⟩ : ∃ hp, Lib.hasPrefix x.data.toList [47] = hp := ⟨_, rfl⟩
  have HHP := hid' hhp
  obtain ⟨y, hy⟩ : ∃ y : ByteArray, (⟨(Lib.trimPrefix x.data.toList [47]).toArray⟩ : ByteArray) = y := ⟨_, rfl⟩
  have HY := hid' hy
  have HLX : Hid (x.data.toList.length = x.size) := hid' (by rw [← Lib.size_eq])
  clear hb hhp hy
  go_enter Tryd.func8, Tryd.ntmps8
  go_wp2_with fail
  refine HC.out.mono ?_
  rw [HHP.out, HY.out]
  rintro e w1 ⟨rfl, hw1⟩
  subst w1
  cases hp
  · have HF : Hid (b = false) := hid' (by rw [← HB.out, HHP.out]; rfl)
    go_wp2
    go_ret
    exact ⟨by rw [HF.out]; rfl, Below.refl _ _⟩
  by_cases h1 : 255 < x.size
  · have h1' : (255 : Int) < (x.size : Int) := by omega
    have HF : Hid (b = false) := hid' (by rw [← HB.out, HHP.out, decide_eq_false (show ¬ x.data.toList.length ≤ 255 by rw [HLX.out]; omega)]; rfl)
    go_wp2
    go_ret
    exact ⟨by rw [HF.out]; rfl, Below.refl _ _⟩
  have h1' : ¬ (255 : Int) < (x.size : Int) := by omega
  obtain ⟨r, hr⟩ : ∃ r, x.data.toList.all Dk.pln = r := ⟨_, rfl⟩
  have HR := hid' hr
  clear hr
  go_wp2_with fail
  refine (cplain13 x r HR.out w hx).mono ?_
  rintro e w1 ⟨rfl, hw1⟩
  subst w1
  cases r
  · have HF : Hid (b = false) := hid' (by rw [← HB.out, HR.out]; simp)
    go_wp2
    go_ret
    exact ⟨by rw [HF.out]; rfl, Below.refl _ _⟩
  have HYL : Hid (y.data.toList = Lib.trimPrefix x.data.toList [47]) := hid' (by rw [← HY.out])
  have HYS : Hid (y.size ≤ 255) := hid' (by
    rw [Lib.size_eq, HYL.out]
    unfold Lib.trimPrefix
    rw [HHP.out]
    simp only [if_true, List.length_drop]
    have := HLX.out
    omega)
  have HB2 : Hid (b = (Dk.pcs [] y.data.toList).all Dk.good) := hid' (by rw [← HB.out, HHP.out, HR.out, decide_eq_true (show x.data.toList.length ≤ 255 by rw [HLX.out]; omega), HYL.out]; rfl)
  go_wp2_with fail
  refine (split13 y w HYS.out).mono ?_
  rintro e w1 ⟨ps, rfl, hw1, hps, hlen⟩
  obtain ⟨n, hn⟩ : ∃ n, ps.length = n := ⟨_, rfl⟩
  have HBW : Hid (Below w.heap.size w w1) := hid' (by rw [hw1]; exact (Below.refl _ _).alloc (Nat.le_refl _) _)
  have HA : Hid (Ar w1 w.heap.size 9 (ps.map Value.string).toArray) := hid' (by rw [hw1]; exact heap_alloc_last w _)
  have HB3 : Hid (b = ps.all (fun p => Dk.good p.data.toList)) := hid' (by rw [HB2.out, ← hps, List.all_map]; rfl)
  obtain ⟨bl, hbl⟩ : ∃ bl, w.heap.size = bl := ⟨_, rfl⟩
  rw [hbl] at HA
  rw [hn] at hlen
  rw [hn, hbl]
  have HN := hid' hn
  clear hw1 hps hn hbl HB2 HB HC HHP HY HYL HYS HR HLX
  go_wp2
  go_loopw [27] (fun s27 wr => ∃ k : Nat, s27 = .int .i64 (k : Int) ∧ k ≤ n ∧ wr = w1 ∧ Hid (b = (ps.drop k).all (fun p => Dk.good p.data.toList))) (fun s27 _ => n - (intOf s27).toNat)
  case atStart => exact ⟨0, rfl, Nat.zero_le _, rfl, HB3⟩
  case round =>
    obtain ⟨k, rfl, hk, hwr, HK⟩ := hrel
    subst wr
    by_cases hlt : k < n
    · have hlt2 : (k : Int) < (n : Int) := by omega
      obtain ⟨p, hp⟩ : ∃ p, ps[k]? = some p := ⟨_, List.getElem?_eq_getElem (by rw [HN.out]; exact hlt)⟩
      have hcell : w1.cell? ⟨bl, k, none⟩ = some (.string p) := HA.out.cell k _ (by simp [hp])
      have HB4 : Hid (b = (Dk.good p.toList && (ps.drop (k + 1)).all (fun p => Dk.good p.data.toList))) := hid' (by
        obtain ⟨h1, h2⟩ := List.getElem?_eq_some_iff.1 hp
        rw [HK.out, List.drop_eq_getElem_cons h1, h2, List.all_cons, Lib.toList_data])
      clear hp HK
      by_cases g1 : (p.toList == []) = true
      · have HF : Hid (b = false) := hid' (by rw [HB4.out]; simp only [Dk.good, g1]; rfl)
        go_wp2
        go_ret
        exact ⟨by rw [HF.out]; rfl, HBW.out⟩
      have g1' : (p.toList == []) = false := by simpa using g1
      by_cases g2 : (p.toList == [46]) = true
      · have HF : Hid (b = false) := hid' (by rw [HB4.out]; simp only [Dk.good, g2]; simp)
        clear g1
        go_wp2
        go_ret
        exact ⟨by rw [HF.out]; rfl, HBW.out⟩
      have g2' : (p.toList == [46]) = false := by simpa using g2
      by_cases g3 : (p.toList == [46, 46]) = true
      · have HF : Hid (b = false) := hid' (by rw [HB4.out]; simp only [Dk.good, g3]; simp)
        clear g1 g2
        go_wp2
        go_ret
        exact ⟨by rw [HF.out]; rfl, HBW.out⟩
      have g3' : (p.toList == [46, 46]) = false := by simpa using g3
      have HN2 : Hid (b = (ps.drop (k + 1)).all (fun p => Dk.good p.data.toList)) := hid' (by
        rw [HB4.out]
        have : Dk.good p.toList = true := by unfold Dk.good; rw [g1', g2', g3']; rfl
        rw [this]; rfl)
      clear g1 g2 g3
      go_wp2
      go_roundw
      case rel => exact ⟨k + 1, by go_num, by omega, by first | rfl | trivial, HN2⟩
      case measure => simp [intOf]; omega
    · obtain rfl : k = n := by omega
      have hlt2 : ¬ (k : Int) < (k : Int) := by omega
      have HF : Hid (b = true) := hid' (by rw [HK.out, List.drop_of_length_le (by rw [HN.out]; exact Nat.le_refl _)]; rfl)
      clear hlt
      go_wp2
      go_ret
      exact ⟨by rw [HF.out]; rfl, HBW.out⟩

end Go.Proofs.YtnggablpkgbpaaaDoor
