/-
  The code's appendNumbers: by its contract.
  The code's taken: by its contract.
  slices.Sort of a row of numbers of one's own, and the code's leastFree: by their contracts.
-/
import Derived.Test.YtdbldompjhienaaDoorRgB
import Derived.Test.YtdbldompjhienaaDoorRgPl
import Derived.Test.YtdbldompjhienaaDoorShelf
import Derived.Test.YtdbldompjhienaaDoorShCut
import Derived.Test.YtdbldompjhienaaDoorLsts
import Derived.Test.YtdbldompjhienaaDoorShSortI
import Derived.Deep.QuietTactic
namespace Go.Proofs.YtdbldompjhienaaDoor
open Go.RowKit

def nC16 (l : List Nat) : List Value := l.map fun (n : Nat) => .int .i64 (n : Int)
theorem nC16_app (a b : List Nat) : nC16 (a ++ b) = nC16 a ++ nC16 b := by unfold nC16; rw [List.map_append]
theorem infoI16 : (Tryd.prog.info? 3).map (fun i => (i.zero, i.size, i.bytes)) = some (some (.int .i64 0), 1, 8) := by kernel_rfl

set_option maxHeartbeats 1600000 in
set_option maxRecDepth 20000 in
theorem capp16 (B n cap : Nat) (ao : Option Addr) (xs : List Nat) (hn : xs.length = n) (s : ByteArray) (l : List UInt8) (hl : s.data.toList = l) (M : Nat) (hM : M ≤ 1048576) (w : World) (ho : w.ownsRow B 3 1 (.slice ao n cap) n (nC16 xs)) (hB : B ≤ w.heap.size) (hs : s.size ≤ 1048576) (hnb : n ≤ 1048576) :
    Calls Tryd.prog 42 #[.slice ao n cap, .string s, .int .i64 (M : Int)] w fun e w' => (∃ m ro rc, e = .returned (.slice ro m rc) ∧ (xs ++ Rg.nums M 0 l).length = m ∧ w'.ownsRow B 3 1 (.slice ro m rc) m (nC16 (xs ++ Rg.nums M 0 l))) ∧ Below B w w' := by
  obtain ⟨i0, hi0, hz0, hz1, hz2⟩ := minfo16 infoI16
  have HI := hid' hi0
  have HZ0 := hid' hz0
  have HZ1 := hid' hz1
  have HZ2 := hid' hz2
  clear hi0 hz0 hz1 hz2
  have HSZ : Hid (s.size = l.length) := hid' (by rw [Lib.size_eq, hl])
  have HGB : Hid (∀ k (h : k < s.size), l[k]? = some s[k]) := hid' (fun k h => by rw [← hl]; exact Tx.get_byte s k h)
  have HO0 := hid' ho
  have HBW := hid' hB
  have HN := hid' hn
  clear hl ho hB hn
  go_enter Tryd.func42, Tryd.ntmps42
  go_wp2
  go_loopw [0, 7, 8] (fun s0 s7 s8 wr => ∃ (k m c : Nat) (ds : List Nat) (ro : Option Addr) (rc : Nat), s8 = .int .i64 (k : Int) ∧ s7 = .int .i64 (m : Int) ∧ s0 = .slice ro c rc ∧ k ≤ s.size ∧ m ≤ M ∧ c ≤ n + k ∧ Hid ((xs ++ ds).length = c) ∧ Hid (Rg.nums M 0 l = ds ++ Rg.nums M m (l.drop k)) ∧ Hid (wr.ownsRow B 3 1 (.slice ro c rc) c (nC16 (xs ++ ds))) ∧ Hid (Below B w wr)) (fun _ _ s8 _ => s.size - (intOf s8).toNat)
  case atStart => exact ⟨0, 0, n, [], ao, cap, rfl, rfl, rfl, Nat.zero_le _, Nat.zero_le _, Nat.le_refl _, hid' (by rw [List.append_nil]; exact HN.out), hid' (by simp), hid' (by rw [List.append_nil]; exact HO0.out), hid' (Below.refl _ _)⟩
  case round =>
    obtain ⟨k, m, c, ds, ro, rc, rfl, rfl, rfl, hk, hm, hc, HCL, HNU, HO, HB⟩ := hrel
    by_cases hlt : k < s.size
    · have hlt2 : (k : Int) < (s.size : Int) := by omega
      have HD := hid' (Rg.drop_c (HGB.out k hlt))
      rw [HD.out] at HNU
      have HX := hid' (show s[k].toNat < 256 from s[k].toNat_lt)
      by_cases d1 : (48 : Int) ≤ (s[k].toNat : Int)
      · by_cases d2 : (s[k].toNat : Int) ≤ 57
        · have HIS : Hid (Rg.isD s[k] = true) := hid' (by unfold Rg.isD; rw [decide_eq_true (show 48 ≤ s[k].toNat by omega), decide_eq_true (show s[k].toNat ≤ 57 by omega)]; rfl)
          obtain ⟨v, hv⟩ : ∃ v : Nat, m * 10 + (s[k].toNat - 48) = v := ⟨_, rfl⟩
          have HV : Hid (Rg.nums M m (s[k] :: l.drop (k + 1)) = if M < v then [] else v :: (if v = 0 then [] else Rg.nums M v (l.drop (k + 1)))) := hid' (by rw [Rg.nums, if_pos HIS.out, hv])
          have HVX : Hid ((m : Int) * 10 + ((s[k].toNat : Int) - 48) = (v : Int)) := hid' (by omega)
          clear hv
          by_cases hMv : (M : Int) < (m : Int) * 10 + ((s[k].toNat : Int) - 48)
          · rw [if_pos (by have := HVX.out; omega)] at HV
            rw [HV.out, List.append_nil] at HNU
            go_wp2
            go_ret
            exact ⟨⟨c, ro, rc, rfl, by rw [HNU.out]; simpa using HCL.out, by rw [HNU.out]; exact HO.out⟩, HB.out⟩
          · have hvM : v ≤ M := by have := HVX.out; omega
            rw [if_neg (by omega)] at HV
            have HA : Hid ((wr.alloc (.cells #[.int .i64 ((m : Int) * 10 + ((s[k].toNat : Int) - 48))] 3)).ownsRow B 3 1 (.slice ro c rc) c (nC16 (xs ++ ds))) := hid' (HO.out.alloc _)
            go_wp2_with (at_builtin; refine wpList_append_own_at _ rfl _ _ 53 rfl B 3 i0 (.int .i64 0) 1 8 Tryd.underlying53 HI.out HZ0.out HZ1.out HZ2.out rfl (by decide) (.slice ro c rc) c (nC16 (xs ++ ds)) rfl HA.out ⟨wr.heap.size, 0, none⟩ 1 1 [.int .i64 ((m : Int) * 10 + ((s[k].toNat : Int) - 48))] rfl rfl (one_cell16 _ _ _) (by simp [Value.oneCell']) (by unfold maxLen; omega) (by omega) (by simp; have := HB.out.size; have := HBW.out; omega) ?_; intro v3 w3 hown3 hgrow3 _ _; refine Hid.out ?_)
            refine hid' ?_
            have e : nC16 (xs ++ ds) ++ [.int .i64 ((m : Int) * 10 + ((s[k].toNat : Int) - 48))] = nC16 (xs ++ (ds ++ [v])) := by rw [HVX.out, ← List.append_assoc, nC16_app (xs ++ ds)]; rfl
            rw [e] at hown3
            obtain ⟨v3o, v3c, hv3⟩ := own_shape16 hown3
            subst hv3
            have HO3 := hid' hown3
            have HB3 : Hid (Below B w w3) := hid' ((HB.out.alloc (Nat.le_trans HBW.out HB.out.size) _).grown hgrow3 (by simp; have := HB.out.size; have := HBW.out; omega) (fun k hk => (HA.out.lt k hk).1))
            have HL3 : Hid ((xs ++ (ds ++ [v])).length = c + 1) := hid' (by rw [← List.append_assoc, List.length_append, HCL.out]; rfl)
            clear hown3 hgrow3 e
            by_cases hv0 : v = 0
            · have hvB : ((m : Int) * 10 + ((s[k].toNat : Int) - 48) == 0) = true := by rw [HVX.out, beq_iff_eq]; omega
              rw [if_pos hv0] at HV
              rw [HV.out] at HNU
              clear hv0
              go_wp2
              go_ret
              exact ⟨⟨c + 1, v3o, v3c, rfl, by rw [HNU.out]; simpa using HL3.out, by rw [HNU.out]; exact HO3.out⟩, HB3.out⟩
            · have hvB : ((m : Int) * 10 + ((s[k].toNat : Int) - 48) == 0) = false := by rw [HVX.out, beq_eq_false_iff_ne]; omega
              rw [if_neg hv0] at HV
              rw [HV.out] at HNU
              clear hv0
              go_wp2
              go_roundw
              case rel => exact ⟨k + 1, v, c + 1, ds ++ [v], v3o, v3c, by go_num, by rw [HVX.out], rfl, by omega, hvM, by omega, HL3, hid' (by rw [HNU.out, List.append_assoc]; rfl), HO3, HB3⟩
              case measure => simp [intOf]; omega
        · have HE : Hid (Rg.nums M m (s[k] :: l.drop (k + 1)) = []) := hid' (by rw [Rg.nums, if_neg]; unfold Rg.isD; rw [decide_eq_false (show ¬ s[k].toNat ≤ 57 by omega), Bool.and_false]; decide)
          rw [HE.out, List.append_nil] at HNU
          go_wp2
          go_ret
          exact ⟨⟨c, ro, rc, rfl, by rw [HNU.out]; simpa using HCL.out, by rw [HNU.out]; exact HO.out⟩, HB.out⟩
      · have HE : Hid (Rg.nums M m (s[k] :: l.drop (k + 1)) = []) := hid' (by rw [Rg.nums, if_neg]; unfold Rg.isD; rw [decide_eq_false (show ¬ 48 ≤ s[k].toNat by omega), Bool.false_and]; decide)
        rw [HE.out, List.append_nil] at HNU
        go_wp2
        go_ret
        exact ⟨⟨c, ro, rc, rfl, by rw [HNU.out]; simpa using HCL.out, by rw [HNU.out]; exact HO.out⟩, HB.out⟩
    · have hlt2 : ¬ (k : Int) < (s.size : Int) := by omega
      have HE : Hid (l.drop k = []) := hid' (List.drop_eq_nil_of_le (by have := HSZ.out; omega))
      rw [HE.out, show Rg.nums M m [] = [] by rw [Rg.nums], List.append_nil] at HNU
      clear hlt
      go_wp2
      go_ret
      exact ⟨⟨c, ro, rc, rfl, by rw [HNU.out]; simpa using HCL.out, by rw [HNU.out]; exact HO.out⟩, HB.out⟩

end Go.Proofs.YtdbldompjhienaaDoor

namespace Go.Proofs.YtdbldompjhienaaDoor
open Go.RowKit

theorem size_l16 (l : List UInt8) : (⟨l.toArray⟩ : ByteArray).size = l.length := by simp [ByteArray.size]
/-- What a world holds for the library: the table of powers, and MaxLen's cell. -/
def TB16 (w : World) : Prop := Lib.TabIs Tryd.prog w "internal/strconv.uint64pow10" .u64 Lib.pow10Tab ∧ ∃ m, w.cell? ⟨0, 0, none⟩ = some (.int .i64 m)
theorem cell_lt16 {w : World} {k : Nat} {v : Value} (h : w.cell? ⟨k, 0, none⟩ = some v) : k < w.heap.size := by
  rcases Nat.lt_or_ge k w.heap.size with h1 | h1
  · exact h1
  · simp [World.cell?, Array.getElem?_eq_none h1] at h
theorem TB16.keep {w w' : World} (h : TB16 w) (hb : Below w.heap.size w w') : TB16 w' := by
  obtain ⟨h1, m, h2⟩ := h
  exact ⟨tab_below h1 hb, m, (hb.cell (p := ⟨0, 0, none⟩) (cell_lt16 h2)).trans h2⟩
/-- strings.Cut at any text. -/
theorem scut16 (s p : ByteArray) (w : World) (hs : s.size ≤ 1048576) (hT : TB16 w) :
    Calls Tryd.prog 36 #[.string s, .string p] w fun e w' => e = .returned (.tuple #[.string ⟨(Lib.cut s.data.toList p.data.toList).1.toArray⟩, .string ⟨(Lib.cut s.data.toList p.data.toList).2.1.toArray⟩, .bool (Lib.cut s.data.toList p.data.toList).2.2]) ∧ Below w.heap.size w w' := by
  obtain ⟨_, m, hm⟩ := hT
  refine Calls.mono (show Calls Tryd.prog 36 _ _ _ from Any.strings_Cut Tryd.lcut s p m w (by omega) hm) ?_
  rintro e w' ⟨rfl, n, rfl⟩
  exact ⟨rfl, below_drewN w n⟩
namespace Rg
/-- What is left to gather of a text behind 'part'. -/
def left (most : Nat) (b : Bool) (t : T8) : List Nat := if b then nums most 0 t ++ taken most t else []
theorem cut_le (l p : T8) : (Lib.cut l p).2.1.length ≤ l.length := by
  unfold Lib.cut
  split
  · simp only [List.length_drop]; omega
  · simp
theorem taken_cut (most : Nat) (l : T8) : taken most l = left most (Lib.cut l sPart).2.2 (Lib.cut l sPart).2.1 ∧ ((Lib.cut l sPart).2.2 = true → (Lib.cut l sPart).2.1.length < l.length) := by
  unfold left
  rcases afters_cut l with ⟨h1, h2⟩ | ⟨h1, h2, h3⟩
  · rw [h1]; exact ⟨by unfold taken; rw [h2]; rfl, fun h => by cases h⟩
  · rw [h1, if_pos rfl]
    exact ⟨by conv => lhs; unfold taken; rw [h2]
              rfl, fun _ => h3⟩
end Rg

set_option maxHeartbeats 1600000 in
set_option maxRecDepth 20000 in
theorem ctaken16 (s : ByteArray) (l : List UInt8) (hl : s.data.toList = l) (w : World) (hs : s.size ≤ 1048576) (hT : TB16 w) :
    Calls Tryd.prog 31 #[.string s] w fun e w' => (∃ m ro rc, e = .returned (.slice ro m rc) ∧ (Rg.taken l.length l).length = m ∧ w'.ownsRow w.heap.size 3 1 (.slice ro m rc) m (nC16 (Rg.taken l.length l))) ∧ Below w.heap.size w w' := by
  have HSL : Hid (l.length = s.size) := hid' (by rw [Lib.size_eq, hl])
  have HLL : Hid (l.length ≤ 1048576) := hid' (by rw [HSL.out]; omega)
  have HC0 := hid' (scut16 s ⟨#[112, 97, 114, 116]⟩ w hs hT)
  have HT := hid' hT
  rw [hl] at HC0
  rw [HSL.out]
  obtain ⟨x0, hx0⟩ : ∃ x : ByteArray, (⟨(Lib.cut l (⟨#[112, 97, 114, 116]⟩ : ByteArray).data.toList).1.toArray⟩ : ByteArray) = x := ⟨_, rfl⟩
  obtain ⟨y0, hy0⟩ : ∃ y : ByteArray, (⟨(Lib.cut l (⟨#[112, 97, 114, 116]⟩ : ByteArray).data.toList).2.1.toArray⟩ : ByteArray) = y := ⟨_, rfl⟩
  obtain ⟨b0, hb0⟩ : ∃ b, (Lib.cut l (⟨#[112, 97, 114, 116]⟩ : ByteArray).data.toList).2.2 = b := ⟨_, rfl⟩
  rw [hx0, hy0, hb0] at HC0
  have HTK := hid' (Rg.taken_cut s.size l)
  have HYS0 : Hid (y0.size ≤ s.size) := hid' (by rw [← hy0, size_l16, ← HSL.out]; exact Rg.cut_le _ _)
  have HY0 : Hid (Rg.taken s.size l = Rg.left s.size b0 y0.data.toList ∧ (b0 = true → y0.data.toList.length < l.length)) := hid' (by
    rw [← hy0, ← hb0]; exact HTK.out)
  clear hT hl hx0 hy0 hb0 HTK
  go_enter Tryd.func31, Tryd.ntmps31
  go_wp2_with fail
  refine HC0.out.mono ?_
  rintro e w1 ⟨rfl, hb1⟩
  have HB1 := hid' hb1
  clear hb1 HC0
  go_wp2
  go_loopw [0, 3, 6] (fun s0 s3 s6 wr => ∃ (y : ByteArray) (c : Nat) (b : Bool) (ds : List Nat) (ro : Option Addr) (rc : Nat), s0 = .string y ∧ s6 = .bool b ∧ s3 = .slice ro c rc ∧ y.size ≤ s.size ∧ Hid (ds.length = c) ∧ Hid (Rg.taken s.size l = ds ++ Rg.left s.size b y.data.toList) ∧ Hid (wr.ownsRow w.heap.size 3 1 (.slice ro c rc) c (nC16 ds)) ∧ Hid (Below w.heap.size w wr) ) (fun s0 _ s6 _ => match s0, s6 with | .string y, .bool true => y.size + 1 | _, _ => 0)
  case atStart => exact ⟨y0, 0, b0, [], none, 0, rfl, rfl, rfl, HYS0.out, hid' rfl, hid' (by rw [List.nil_append]; exact HY0.out.1), hid' (World.ownsRow_nil _ _ _ _), HB1⟩
  case round =>
    obtain ⟨y, c, b, ds, ro, rc, rfl, rfl, rfl, hy, HCL, HTK, HO, HB⟩ := hrel
    cases b
    · have HE : Hid (Rg.taken s.size l = ds) := hid' (by rw [HTK.out]; unfold Rg.left; simp)
      go_wp2
      go_ret
      exact ⟨⟨c, ro, rc, rfl, by rw [HE.out]; exact HCL.out, by rw [HE.out]; exact HO.out⟩, HB.out⟩
    · have HE : Hid (Rg.taken s.size l = (ds ++ Rg.nums s.size 0 y.data.toList) ++ Rg.taken s.size y.data.toList) := hid' (by rw [HTK.out, List.append_assoc]; unfold Rg.left; simp)
      have hcb : c ≤ s.size := by
        have h1 := (Rg.taken_bound s.size l.length l (Nat.le_refl _)).1
        rw [HE.out, List.length_append, List.length_append, HCL.out, HSL.out] at h1
        omega
      have HAP := hid' (fun W (h : W.ownsRow w.heap.size 3 1 (.slice ro c rc) c (nC16 ds)) (hb : w.heap.size ≤ W.heap.size) => capp16 w.heap.size c rc ro ds HCL.out y y.data.toList rfl s.size (by omega) W h hb (by omega) (by omega))
      have HCT := hid' (fun W (h : TB16 W) => scut16 y ⟨#[112, 97, 114, 116]⟩ W (by omega) h)
      obtain ⟨x2, hx2⟩ : ∃ x : ByteArray, (⟨(Lib.cut y.data.toList (⟨#[112, 97, 114, 116]⟩ : ByteArray).data.toList).1.toArray⟩ : ByteArray) = x := ⟨_, rfl⟩
      obtain ⟨y2, hy2⟩ : ∃ y' : ByteArray, (⟨(Lib.cut y.data.toList (⟨#[112, 97, 114, 116]⟩ : ByteArray).data.toList).2.1.toArray⟩ : ByteArray) = y' := ⟨_, rfl⟩
      obtain ⟨b2, hb2⟩ : ∃ b, (Lib.cut y.data.toList (⟨#[112, 97, 114, 116]⟩ : ByteArray).data.toList).2.2 = b := ⟨_, rfl⟩
      rw [hx2, hy2, hb2] at HCT
      have HTK2 : Hid (Rg.taken s.size y.data.toList = Rg.left s.size b2 y2.data.toList ∧ (b2 = true → y2.size < y.size)) := hid' (by
        rw [← hy2, ← hb2, Lib.size_eq y, size_l16]; exact Rg.taken_cut s.size y.data.toList)
      have HYS : Hid (y2.size ≤ y.size) := hid' (by rw [← hy2, Lib.size_eq y, size_l16]; exact Rg.cut_le _ _)
      clear hx2 hy2 hb2
      go_wp2_with fail
      refine (HAP.out _ HO.out HB.out.size).mono ?_
      rintro e w2 ⟨⟨m, po, pc, rfl, hm, hown⟩, hbl⟩
      have HB2 := hid' (HB.out.trans hbl)
      have HO2 := hid' hown
      have HM2 := hid' hm
      have HT2 := hid' (HT.out.keep HB2.out)
      clear hbl hown hm
      go_wp2_with fail
      refine (HCT.out _ HT2.out).mono ?_
      rintro e w3 ⟨rfl, hb3⟩
      have HB3 := hid' (below_two HB2.out hb3)
      have HO3 := hid' (own_kp16 HO2.out hb3)
      clear hb3
      go_wp2
      go_roundw
      case rel => exact ⟨y2, m, b2, ds ++ Rg.nums s.size 0 y.data.toList, po, pc, rfl, rfl, rfl, by have := HYS.out; omega, HM2, hid' (by rw [HE.out, HTK2.out.1]), HO3, HB3⟩
      case measure =>
        cases b2
        · simp
        · have := HTK2.out.2 rfl
          simp; omega

end Go.Proofs.YtdbldompjhienaaDoor

namespace Go.Proofs.YtdbldompjhienaaDoor
open Go.RowKit Go.Sort

def zC16 (l : List Int) : List Value := l.map fun n => .int .i64 n
theorem nz16 (l : List Nat) : nC16 l = zC16 (l.map fun (n : Nat) => (n : Int)) := by unfold nC16 zC16; rw [List.map_map]; rfl
theorem map_block16 {w : World} {g : Nat} {cur : Array Value} {T : TypeId} (f : Array Value → Array Value) (hh : w.heap[g]? = some (.cells cur T (0, 0))) : (mapBlock w g f).heap[g]? = some (.cells (f cur) T (0, 0)) := by
  unfold mapBlock
  simp only [Array.getElem?_modify, if_true, hh, Option.map_some, onCells]
theorem map_other16 {w : World} {g k : Nat} (f : Array Value → Array Value) (hk : k ≠ g) : (mapBlock w g f).heap[k]? = w.heap[k]? := by
  unfold mapBlock
  simp only [Array.getElem?_modify]
  rw [if_neg (fun e => hk e.symm)]
theorem map_size16 {w : World} {g : Nat} (f : Array Value → Array Value) : (mapBlock w g f).heap.size = w.heap.size := by simp [mapBlock]
theorem holds_own16 {w : World} {g m : Nat} {cur : Array Value} {T : TypeId} {l : List Int} (hl : l.length = m) (hh : w.heap[g]? = some (.cells cur T (0, 0))) (hc : cur.toList.take m = zC16 l) : Holds (Value.int .i64) w g 0 l.toArray := by
  intro j hj
  have hj2 : j < m := by simp at hj; omega
  have hA : Ar w g T cur := hh
  rw [Nat.zero_add]
  refine ⟨hA.cell j _ ?_, hA.free j⟩
  have h1 : (zC16 l)[j]? = cur[j]? := by rw [← hc, List.getElem?_take, if_pos hj2, Array.getElem?_toList]
  rw [← h1, getElem!_pos l.toArray j hj]
  unfold zC16
  rw [List.getElem?_map, List.getElem?_eq_getElem (by simpa using hj)]
  rfl
theorem put_take16 (n : Nat) (l : List Int) (c : Array Value) (hl : l.length = n) (hc : n ≤ c.size) : (putCells (Value.int .i64) 0 l.toArray c).toList.take n = zC16 l := by
  apply List.ext_getElem?
  intro t
  rw [List.getElem?_take]
  by_cases ht : t < n
  · rw [if_pos ht]
    have hs : t < l.toArray.size := by simp; omega
    rw [Array.getElem?_toList]
    unfold putCells zC16
    rw [Array.getElem?_mapIdx, Array.getElem?_eq_getElem (by omega), Option.map_some, if_pos ⟨Nat.zero_le _, by omega⟩, Nat.sub_zero, getElem!_pos _ t hs, List.getElem?_map, List.getElem?_eq_getElem (by simpa using hs)]
    rfl
  · rw [if_neg ht, List.getElem?_eq_none (by simp [zC16]; omega)]
theorem sort_back16 (xs : List Nat) (s : List Int) (hs : s.Pairwise (· ≤ ·)) (hp : s.Perm (xs.map fun (n : Nat) => (n : Int))) : ∃ t : List Nat, s = t.map (fun (n : Nat) => (n : Int)) ∧ t.Pairwise (· ≤ ·) ∧ t.Perm xs := by
  have h0 : ∀ z ∈ s, 0 ≤ z := fun z hz => by
    obtain ⟨n, _, rfl⟩ := List.mem_map.1 (hp.mem_iff.1 hz)
    omega
  have e : s = (s.map Int.toNat).map (fun (n : Nat) => (n : Int)) := by
    rw [List.map_map]
    conv => lhs; rw [← List.map_id s]
    apply List.map_congr_left
    intro z hz
    simp only [id, Function.comp]
    have := h0 z hz
    omega
  refine ⟨s.map Int.toNat, e, ?_, ?_⟩
  · rw [List.pairwise_map]
    exact hs.imp (fun h => by omega)
  · have := hp.map Int.toNat
    rw [List.map_map] at this
    have e2 : xs.map (Int.toNat ∘ fun (n : Nat) => (n : Int)) = xs := by
      conv => rhs; rw [← List.map_id xs]
      apply List.map_congr_left
      intro z _
      simp
    rwa [e2] at this

theorem csort16 (B n cap : Nat) (ao : Option Addr) (xs : List Nat) (hn : xs.length = n) (w : World) (h : w.ownsRow B 3 1 (.slice ao n cap) n (nC16 xs)) (hnb : n ≤ 1048576) (hB : B ≤ w.heap.size) :
    Calls Tryd.prog 41 #[.slice ao n cap] w fun e w' => e = .returned (.tuple #[]) ∧ (∃ t : List Nat, t.Pairwise (· ≤ ·) ∧ t.Perm xs ∧ w'.ownsRow B 3 1 (.slice ao n cap) n (nC16 t)) ∧ Below B w w' := by
  rcases h.2 with ⟨h1, h0⟩ | ⟨g, cap', cur, h1, hB1, hh, h2, h3, h4, h5⟩
  · obtain rfl : xs = [] := List.eq_nil_of_length_eq_zero (hn.trans h0)
    obtain rfl : n = 0 := h0
    refine Calls.mono (show Calls Tryd.prog 41 _ _ _ from Any.slices_Sort_int_none Tryd.lsorti ao cap w) ?_
    rintro e w' ⟨he, rfl⟩
    exact ⟨he, ⟨[], List.Pairwise.nil, List.Perm.refl _, h⟩, Below.refl _ _⟩
  · injection h1 with h1 _ h6
    subst h1 h6
    rw [Nat.mul_one] at h4 h5
    have hg : g < w.heap.size := (Array.getElem?_eq_some_iff.1 hh).1
    have hzl : (xs.map fun (n : Nat) => (n : Int)).length = n := by rw [List.length_map, hn]
    rw [nz16] at h5
    have hcon := Any.slices_Sort_int Tryd.lsorti g 0 cap (xs.map fun (n : Nat) => (n : Int)) w (holds_own16 hzl hh h5) hg (by omega)
    rw [hzl] at hcon
    refine Calls.mono (show Calls Tryd.prog 41 _ _ _ from hcon) ?_
    rintro e w' ⟨he, k, os, hw⟩
    have hp := List.mergeSort_perm (xs.map fun (n : Nat) => (n : Int)) (fun x y => decide (x ≤ y))
    have hs := List.pairwise_mergeSort (le := fun (x y : Int) => decide (x ≤ y)) (fun a b c h1 h2 => by simp at *; omega) (fun a b => by simp; omega) (xs.map fun (n : Nat) => (n : Int))
    obtain ⟨sl, hsl⟩ : ∃ sl, (xs.map fun (n : Nat) => (n : Int)).mergeSort (fun x y => decide (x ≤ y)) = sl := ⟨_, rfl⟩
    rw [hsl] at hw hp hs
    obtain ⟨t, rfl, ht1, ht2⟩ := sort_back16 xs sl (hs.imp (fun h => of_decide_eq_true h)) hp
    have htl : t.length = n := ht2.length_eq.trans hn
    have hsz : (putRow (Value.int .i64) (Sort.ahead w k) g 0 (t.map fun (n : Nat) => (n : Int)).toArray).heap.size = w.heap.size := map_size16 _
    have hw2 : w'.heap[g]? = some (.cells (putCells (Value.int .i64) 0 (t.map fun (n : Nat) => (n : Int)).toArray cur) 3 (0, 0)) := by
      rw [hw, heap_grow_old _ _ (by rw [hsz]; exact hg)]
      exact map_block16 _ hh
    refine ⟨he, ⟨t, ht1, ht2, by rw [show (nC16 t).length = t.length by simp [nC16], htl, Nat.mul_one], .inr ⟨g, cap, _, rfl, hB1, hw2, h2, h3, ?_, ?_⟩⟩, ?_⟩
    · simp [putCells, h4]
    · rw [nz16, Nat.mul_one]
      exact put_take16 n _ cur (by rw [List.length_map]; exact htl) (by omega)
    · have hsw : w'.heap.size = w.heap.size + os.size := by rw [hw, size_grow, hsz]
      refine ⟨by rw [hw]; rfl, by rw [hw]; rfl, by rw [hw]; rfl, by omega, ?_⟩
      intro j hj
      have hjw : j < w.heap.size := by omega
      rw [hw, heap_grow_old _ _ (by rw [hsz]; exact hjw)]
      exact map_other16 _ (by omega)

theorem own_num16 {w : World} {B : Nat} {e : TypeId} {ao : Option Addr} {n m cap : Nat} {l : List Nat} (h : w.ownsRow B e 1 (.slice ao n cap) m (nC16 l)) (i p : Nat) (hp : l[i]? = some p) : ∃ g, ao = some ⟨g, 0, none⟩ ∧ w.cell? ⟨g, i, none⟩ = some (.int .i64 (p : Int)) := by
  have hx : (nC16 l)[i]? = some (.int .i64 (p : Int)) := by unfold nC16; rw [List.getElem?_map, hp]; rfl
  have hlt := (List.getElem?_eq_some_iff.1 hx).1
  rcases h.2 with ⟨_, h0⟩ | ⟨g, cap', cur, h1, h2⟩
  · rw [h.1, h0] at hlt; omega
  · injection h1 with h1 h3 h4
    subst h1
    have := h.cells (g := g) rfl i _ hx
    rw [Addr.add_mid, Nat.zero_add] at this
    exact ⟨g, rfl, this⟩

set_option maxHeartbeats 1600000 in
set_option maxRecDepth 20000 in
theorem cfree16 (B n cap : Nat) (ao : Option Addr) (xs : List Nat) (hn : xs.length = n) (w : World) (h : w.ownsRow B 3 1 (.slice ao n cap) n (nC16 xs)) (hnb : n ≤ 1048576) (hB : B ≤ w.heap.size) :
    Calls Tryd.prog 30 #[.slice ao n cap] w fun e w' => (∃ t : List Nat, t.Pairwise (· ≤ ·) ∧ t.Perm xs ∧ e = .returned (.int .i64 (Rg.lf t 0 : Int))) ∧ Below B w w' := by
  have HS := hid' (csort16 B n cap ao xs hn w h hnb hB)
  have HN := hid' hn
  clear h hB hn
  go_enter Tryd.func30, Tryd.ntmps30
  go_wp2_with fail
  refine HS.out.mono ?_
  rintro e w1 ⟨rfl, ⟨t, ht1, ht2, hown⟩, hb1⟩
  have HO := hid' hown
  have HB := hid' hb1
  have HT1 := hid' ht1
  have HT2 := hid' ht2
  have HTL : Hid (t.length = n) := hid' (ht2.length_eq.trans HN.out)
  clear HS ht1 ht2 hown hb1
  go_wp2
  go_loopw [3, 5, 10] (fun s3 s5 s10 wr => ∃ (f i : Nat), s3 = .int .i64 (f : Int) ∧ s10 = .int .i64 (i : Int) ∧ i ≤ n ∧ f ≤ i ∧ Hid (Rg.lf t 0 = Rg.lf (t.drop i) f) ∧ wr = w1) (fun _ _ s10 _ => n - (intOf s10).toNat)
  case atStart => exact ⟨0, 0, rfl, rfl, Nat.zero_le _, Nat.le_refl _, hid' (by rw [List.drop_zero]), rfl⟩
  case round =>
    obtain ⟨f, i, rfl, rfl, hi, hf, HL, hwr⟩ := hrel
    subst hwr
    by_cases hlt : i < n
    · have hlt2 : (i : Int) < (n : Int) := by omega
      obtain ⟨p, hp⟩ : ∃ p, t[i]? = some p := ⟨_, List.getElem?_eq_getElem (by rw [HTL.out]; exact hlt)⟩
      obtain ⟨g, rfl, y0⟩ := own_num16 HO.out i p hp
      have HD : Hid (t.drop i = p :: t.drop (i + 1)) := hid' (by
        obtain ⟨h1, h2⟩ := List.getElem?_eq_some_iff.1 hp
        rw [List.drop_eq_getElem_cons h1, h2])
      rw [HD.out, Rg.lf] at HL
      clear hp
      by_cases hpf : p = f
      · have hpB : ((p : Int) == (f : Int)) = true := by rw [beq_iff_eq]; omega
        rw [if_pos hpf] at HL
        clear hpf
        go_wp2
        go_roundw
        case rel => exact ⟨f + 1, i + 1, by go_num, by go_num, by omega, by omega, HL, by trivial⟩
        case measure => simp [intOf]; omega
      · have hpB : ((p : Int) == (f : Int)) = false := by rw [beq_eq_false_iff_ne]; omega
        rw [if_neg hpf] at HL
        clear hpf
        go_wp2
        go_roundw
        case rel => exact ⟨f, i + 1, by go_num, by go_num, by omega, by omega, HL, by trivial⟩
        case measure => simp [intOf]; omega
    · have hlt2 : ¬ (i : Int) < (n : Int) := by omega
      have HE : Hid (Rg.lf t 0 = f) := hid' (by rw [HL.out, List.drop_eq_nil_of_le (by have := HTL.out; omega)]; rfl)
      clear hlt
      go_wp2
      go_ret
      exact ⟨⟨t, HT1.out, HT2.out, by rw [HE.out]; rfl⟩, HB.out⟩

end Go.Proofs.YtdbldompjhienaaDoor
