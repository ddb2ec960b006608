/-
  The document's Number: by its contract.
  The document's Length: by its contract, out of Number's.
-/
import Derived.Test.YtbpdhcfmdkmoiaaDoorPwAZ
import Derived.Deep.CutRange
import Derived.Test.YtbpdhcfmdkmoiaaDoorPwAD
import Derived.Test.YtbpdhcfmdkmoiaaDoorPwAF
import Derived.Test.YtbpdhcfmdkmoiaaDoorPwAM
namespace Go.Proofs.YtbpdhcfmdkmoiaaDoor
open Go.RowKit

set_option maxHeartbeats 400000 in
theorem rNumber_any (s : ByteArray) (w : World) (hs : s.size ≤ maxLen) :
    Calls Tryd.prog 17 #[.string s] w fun e w' => e = .returned (.tuple #[.int .i64 (Tx.num 10 s.data.toList).1, .int .i64 (Tx.num 10 s.data.toList).2]) ∧ Below w.heap.size w w' := by
  go_enter Tryd.func17, Tryd.ntmps17
  go_wp2_with fail
  refine (rnumber_10 s _ hs).mono ?_
  rintro e w1 ⟨rfl, hb1⟩
  go_wp2
  go_ret2
  exact ⟨rfl, hb1⟩

end Go.Proofs.YtbpdhcfmdkmoiaaDoor

namespace Go.Proofs.YtbpdhcfmdkmoiaaDoor
open Go.RowKit

set_option maxHeartbeats 2000000 in
set_option maxRecDepth 20000 in
theorem rlen14 (NM : ∀ (s : ByteArray) (w : World), s.size ≤ maxLen → Calls Tryd.prog 17 #[.string s] w fun e w' => e = .returned (.tuple #[.int .i64 (Tx.num 10 s.data.toList).1, .int .i64 (Tx.num 10 s.data.toList).2]) ∧ Below w.heap.size w w')
    (v : Value) (l : List Fd) (o : Option (Option ByteArray)) (ho : Ms.lenGo none l = o) (w : World) (h : FW w v l) (hl : l.length ≤ 1048576) (hs : ∀ f ∈ l, f.n.size ≤ 140737488355328 ∧ f.v.size ≤ 140737488355328) :
    Calls Tryd.prog 21 #[v] w fun e w' => e = .returned (Ms.lenV o) ∧ Below w.heap.size w w' := by
  obtain ⟨ao, cap, hv⟩ := h.shape
  subst hv
  obtain ⟨n, hn⟩ : ∃ n, l.length = n := ⟨_, rfl⟩
  rw [hn] at h hl ⊢
  have H := hid' h
  have HN := hid' hn
  have HS := hid' hs
  have HO := hid' ho
  have HNM := hid' NM
  clear h hn hs ho NM
  go_enter Tryd.func21, Tryd.ntmps21
  go_wp2
  go_loopw [5, 6, 7] (fun s5 s6 s7 wr => ∃ (k : Nat) (has : Bool) (val : ByteArray), s7 = .int .i64 (k : Int) ∧ s5 = .bool has ∧ s6 = .string val ∧ k ≤ n ∧ Hid (Ms.lenGo (Ms.opt has val) (l.drop k) = o) ∧ Hid (val.size ≤ 140737488355328) ∧ Hid (Below w.heap.size w wr)) (fun _ _ s7 _ => n - (intOf s7).toNat)
  case atStart => exact ⟨0, false, ⟨#[]⟩, rfl, rfl, rfl, Nat.zero_le _, HO, hid' (by decide), hid' (Below.refl _ _)⟩
  case round =>
    obtain ⟨k, has, val, rfl, rfl, rfl, hk, HI, HVS, HB⟩ := hrel
    by_cases hlt : k < n
    · have hlt2 : (k : Int) < (n : Int) := by omega
      obtain ⟨p, hp⟩ : ∃ p, l[k]? = some p := ⟨_, List.getElem?_eq_getElem (by rw [HN.out]; exact hlt)⟩
      obtain ⟨a, hao, y0, y1⟩ := (H.out.keep HB.out).two k p hp
      subst hao
      have hd := Ms.len_drop hp (Ms.opt has val)
      rw [HI.out] at hd
      have HPP := hid' hp
      have HPS := hid' (HS.out p (List.mem_of_getElem? hp))
      obtain ⟨y, hy⟩ : ∃ y : ByteArray, (⟨(Tx.lower p.n.data.toList).toArray⟩ : ByteArray) = y := ⟨_, rfl⟩
      have hyl : (Ms.lo p.n == Ms.sLen) = (y.toList == [99, 111, 110, 116, 101, 110, 116, 45, 108, 101, 110, 103, 116, 104]) := by rw [← hy, ba_list]; rfl
      rw [hyl] at hd
      clear hp hyl
      go_wp2_with fail
      refine (rLower_any p.n wr (by have := HPS.out.1; unfold maxLen; omega)).mono ?_
      rintro e wq ⟨rfl, hbq⟩
      rw [hy]
      have HBq := hid' (below_two HB.out hbq)
      clear hbq y0 y1 HB hy
      obtain ⟨_, hao, y0, y1⟩ := (H.out.keep HBq.out).two k p HPP.out
      injection hao with hao
      subst hao
      cases c1 : (y.toList == [99, 111, 110, 116, 101, 110, 116, 45, 108, 101, 110, 103, 116, 104])
      · rw [c1] at hd
        simp only [Bool.false_eq_true, if_false] at hd
        have HD := hid' hd
        clear hd
        go_wp2
        go_roundw
        case rel => exact ⟨k + 1, has, val, by go_num, rfl, rfl, by omega, hid' HD.out.symm, HVS, HBq⟩
        case measure => simp [intOf]; omega
      · rw [c1] at hd
        simp only [if_true] at hd
        obtain ⟨d, hdc⟩ : ∃ d, Ms.dec p.v = d := ⟨_, rfl⟩
        have HDC := hid' hdc
        rw [hdc] at hd
        have HD := hid' hd
        clear hd hdc
        go_wp2_with fail
        refine (rdec14 p.v d HDC.out wq HPS.out.2).mono ?_
        rintro e wq' ⟨rfl, hwq⟩
        subst wq'
        cases d
        · have HE : Hid (o = none) := hid' (by rw [HD.out]; rfl)
          go_wp2
          go_ret3
          exact ⟨by rw [HE.out]; rfl, HBq.out⟩
        · cases has
          · have HE : Hid (Ms.lenGo (Ms.opt true p.v) (l.drop (k + 1)) = o) := hid' (by rw [HD.out]; rfl)
            go_wp2
            go_roundw
            case rel => exact ⟨k + 1, true, p.v, by go_num, rfl, rfl, by omega, HE, hid' HPS.out.2, HBq⟩
            case measure => simp [intOf]; omega
          · cases c2 : (p.v.toList == val.toList)
            · have HE : Hid (o = none) := hid' (by rw [HD.out]; simp only [Ms.opt, if_true, c2]; rfl)
              go_wp2
              go_ret3
              exact ⟨by rw [HE.out]; rfl, HBq.out⟩
            · have HE : Hid (Ms.lenGo (Ms.opt true p.v) (l.drop (k + 1)) = o) := hid' (by rw [HD.out]; simp only [Ms.opt, if_true, c2]; rfl)
              go_wp2
              go_roundw
              case rel => exact ⟨k + 1, true, p.v, by go_num, rfl, rfl, by omega, HE, hid' HPS.out.2, HBq⟩
              case measure => simp [intOf]; omega
    · obtain rfl : k = n := by omega
      have hlt2 : ¬ (k : Int) < (k : Int) := by omega
      have HE : Hid (o = some (Ms.opt has val)) := hid' (by rw [← HI.out, List.drop_of_length_le (by rw [HN.out]; exact Nat.le_refl _)]; rfl)
      clear hlt
      cases has
      · go_wp2
        go_ret3
        exact ⟨by rw [HE.out]; rfl, HB.out⟩
      · go_wp2_with fail
        refine (HNM.out val wr (by have := HVS.out; unfold maxLen; omega)).mono ?_
        rintro e wq ⟨rfl, hbq⟩
        have HBq := hid' (below_two HB.out hbq)
        clear hbq
        go_wp2
        go_ret3
        exact ⟨by rw [HE.out]; rfl, HBq.out⟩

end Go.Proofs.YtbpdhcfmdkmoiaaDoor
