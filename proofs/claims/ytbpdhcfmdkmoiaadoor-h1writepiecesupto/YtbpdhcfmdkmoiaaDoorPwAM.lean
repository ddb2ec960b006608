/-
  The document's decimal, plain: by their contracts.
  isSound of the code, may of the document: by their contracts.
-/
import Derived.Test.YtbpdhcfmdkmoiaaDoorPwAE
import Derived.Test.YtbpdhcfmdkmoiaaDoorPwAI
import Derived.Deep.CutRange
import Derived.Test.YtbpdhcfmdkmoiaaDoorPwAD
import Derived.Test.YtbpdhcfmdkmoiaaDoorPwAL
namespace Go.Proofs.YtbpdhcfmdkmoiaaDoor
open Go.RowKit

theorem dec_empty {x : ByteArray} (h : (x.toList == []) = true) : Ms.dec x = false := by
  unfold Ms.dec
  rw [show (Ms.tx x == []) = true by rw [Ms.tx, ← Lib.toList_data]; exact h]
  rfl

set_option maxHeartbeats 2000000 in
theorem rdec14 (p : ByteArray) (r : Bool) (hr : Ms.dec p = r) (w : World) (hp : p.size ≤ 140737488355328) :
    Calls Tryd.prog 41 #[.string p] w fun e w' => e = .returned (.bool r) ∧ w' = w := by
  cases s1 : (p.toList == [])
  · have h0 : 0 < p.size := by
      rcases Nat.eq_zero_or_pos p.size with h | h
      · have h9 : p.data.toList = [] := List.eq_nil_of_length_eq_zero (by rw [← Lib.size_eq]; omega)
        rw [Lib.toList_data, h9] at s1
        simp at s1
      · exact h
    unfold Ms.dec at hr
    rw [show (Ms.tx p == []) = false by rw [Ms.tx, ← Lib.toList_data]; exact s1, show (some 48 : Option UInt8) = some (UInt8.ofNat 48) from rfl, head_at h0 48 (by decide)] at hr
    by_cases h1 : 15 < p.size
    · have h1' : (15 : Int) < (p.size : Int) := by omega
      rw [decide_eq_false (show ¬ p.size ≤ 15 by omega)] at hr
      have HF : Hid (r = false) := hid' (by rw [← hr]; rfl)
      clear hr
      go_enter Tryd.func41, Tryd.ntmps41
      go_wp2
      go_ret
      exact ⟨by rw [HF.out]; rfl, rfl⟩
    have h1' : ¬ (15 : Int) < (p.size : Int) := by omega
    rw [decide_eq_true (show p.size ≤ 15 by omega)] at hr
    have hwalk : (((p[0].toNat : Int) == 48) && decide (1 < p.size)) = false → (p.data.toList.all fun c => decide (48 ≤ c.toNat) && decide (c.toNat ≤ 57)) = r := by
      intro h2
      have h3 : (((p[0].toNat : Int) == ((48 : Nat) : Int)) && decide (1 < p.size)) = false := h2
      rw [← hr, h3]
      rfl
    have HW := hid' hwalk
    clear hwalk
    by_cases h4 : (((p[0].toNat : Int) == 48) && decide (1 < p.size)) = true
    · have HF : Hid (r = false) := hid' (by
        have h3 : (((p[0].toNat : Int) == ((48 : Nat) : Int)) && decide (1 < p.size)) = true := h4
        rw [← hr, h3]; rfl)
      rw [Bool.and_eq_true] at h4
      obtain ⟨s2, h5⟩ := h4
      have h5' : (1 : Int) < (p.size : Int) := by have := of_decide_eq_true h5; omega
      clear hr h5
      go_enter Tryd.func41, Tryd.ntmps41
      go_wp2
      go_ret
      exact ⟨by rw [HF.out]; rfl, rfl⟩
    · have HR := hid' (HW.out (by simpa using h4))
      obtain ⟨L, hL⟩ : ∃ L, p.data.toList = L := ⟨_, rfl⟩
      have HL := hid' hL
      have HSZ : Hid (L.length = p.size) := hid' (by rw [← hL, ← Lib.size_eq])
      rw [hL] at HR
      have h6 : ((p[0].toNat : Int) == 48) = false ∨ (((p[0].toNat : Int) == 48) = true ∧ ¬ (1 : Int) < (p.size : Int)) := by
        cases s2 : ((p[0].toNat : Int) == 48)
        · exact .inl rfl
        · refine .inr ⟨rfl, fun h => h4 ?_⟩
          rw [s2, decide_eq_true (by omega)]
          rfl
      clear hr h4 hL HW
      have key : ∀ (W : World), Calls Tryd.prog 41 #[.string p] W fun e w' => e = .returned (.bool r) ∧ w' = W := by
        intro w
        rcases h6 with s2 | ⟨s2, s3⟩
        all_goals
          go_enter Tryd.func41, Tryd.ntmps41
          go_wp2
          go_loopw [3] (fun s5 wr => ∃ k : Nat, s5 = .int .i64 (k : Int) ∧ k ≤ p.size ∧ wr = w ∧ Hid (r = (L.drop k).all fun c => decide (48 ≤ c.toNat) && decide (c.toNat ≤ 57))) (fun s5 _ => p.size - (intOf s5).toNat)
          case atStart => exact ⟨0, rfl, Nat.zero_le _, rfl, hid' HR.out.symm⟩
          case round =>
            obtain ⟨k, rfl, hk, hwr, HK⟩ := hrel
            subst wr
            by_cases hlt : k < p.size
            · have hlt2 : (k : Int) < (p.size : Int) := by omega
              have hck : L[k]? = some p[k] := by rw [← HL.out, List.getElem?_eq_getElem (by rw [← Lib.size_eq]; exact hlt)]; rfl
              have HB2 : Hid (r = ((decide (48 ≤ p[k].toNat) && decide (p[k].toNat ≤ 57)) && (L.drop (k + 1)).all fun c => decide (48 ≤ c.toNat) && decide (c.toNat ≤ 57))) := hid' (by rw [HK.out, drop1 L k _ hck, List.all_cons])
              clear hck HK
              by_cases d1 : p[k].toNat < 48
              · have HF : Hid (r = false) := hid' (by rw [HB2.out, decide_eq_false (by omega)]; rfl)
                have d1' : (p[k].toNat : Int) < 48 := by omega
                go_wp2
                go_ret
                exact ⟨by rw [HF.out]; rfl, rfl⟩
              have d1' : ¬ (p[k].toNat : Int) < 48 := by omega
              by_cases d2 : 57 < p[k].toNat
              · have HF : Hid (r = false) := hid' (by rw [HB2.out, decide_eq_false (show ¬ p[k].toNat ≤ 57 by omega)]; simp)
                have d2' : (57 : Int) < (p[k].toNat : Int) := by omega
                clear d1
                go_wp2
                go_ret
                exact ⟨by rw [HF.out]; rfl, rfl⟩
              have d2' : ¬ (57 : Int) < (p[k].toNat : Int) := by omega
              have HN : Hid (r = (L.drop (k + 1)).all fun c => decide (48 ≤ c.toNat) && decide (c.toNat ≤ 57)) := hid' (by rw [HB2.out, decide_eq_true (show 48 ≤ p[k].toNat by omega), decide_eq_true (show p[k].toNat ≤ 57 by omega)]; rfl)
              clear d1 d2
              go_wp2
              go_roundw
              case rel => exact ⟨k + 1, by go_num, by omega, by first | rfl | trivial, HN⟩
              case measure => simp [intOf]; omega
            · obtain rfl : k = p.size := by omega
              have hlt2 : ¬ (p.size : Int) < (p.size : Int) := by omega
              have HF : Hid (r = true) := hid' (by rw [HK.out, List.drop_of_length_le (by rw [HSZ.out]; exact Nat.le_refl _)]; rfl)
              go_wp2
              go_ret
              exact ⟨by rw [HF.out]; rfl, rfl⟩
      exact key w
  · have HF : Hid (r = false) := hid' (by rw [← hr]; exact dec_empty s1)
    clear hr
    go_enter Tryd.func41, Tryd.ntmps41
    go_wp2
    go_ret
    exact ⟨by rw [HF.out]; rfl, rfl⟩

end Go.Proofs.YtbpdhcfmdkmoiaaDoor

namespace Go.Proofs.YtbpdhcfmdkmoiaaDoor
open Go.RowKit

theorem Hw.may_drop {l : List Fd} {i : Nat} {f : Fd} (h : l[i]? = some f) : Hw.may (l.drop i) = (Hw.mayF f && Hw.may (l.drop (i + 1))) := by
  have hi := (List.getElem?_eq_some_iff.1 h).1
  rw [List.drop_eq_getElem_cons hi, (List.getElem?_eq_some_iff.1 h).2]; rfl

set_option maxHeartbeats 2000000 in
theorem csnd22 (v : Value) (l : List Fd) (r : Bool) (hr : Hw.may l = r) (w : World) (h : FW w v l) (hl : l.length ≤ 1048576) (hs : ∀ f ∈ l, f.n.size ≤ 140737488355328 ∧ f.v.size ≤ 140737488355328) :
    Calls Tryd.prog 23 #[v] w fun e w' => e = .returned (.bool r) ∧ Below w.heap.size w w' := by
  obtain ⟨ao, cap, hv⟩ := h.shape
  subst hv
  obtain ⟨n, hn⟩ : ∃ n, l.length = n := ⟨_, rfl⟩
  rw [hn] at h hl ⊢
  have H := hid' h
  have HN := hid' hn
  have HS := hid' hs
  have HR := hid' hr
  clear h hn hs hr
  go_enter Tryd.func23, Tryd.ntmps23
  go_wp2
  go_loopw [7] (fun s7 wr => ∃ k : Nat, s7 = .int .i64 (k : Int) ∧ k ≤ n ∧ Hid (Hw.may (l.drop k) = r) ∧ Hid (Below w.heap.size w wr)) (fun s7 _ => n - (intOf s7).toNat)
  case atStart => exact ⟨0, rfl, Nat.zero_le _, HR, hid' (Below.refl _ _)⟩
  case round =>
    obtain ⟨k, rfl, hk, HI, HB⟩ := hrel
    by_cases hlt : k < n
    · have hlt2 : (k : Int) < (n : Int) := by omega
      obtain ⟨p, hp⟩ : ∃ p, l[k]? = some p := ⟨_, List.getElem?_eq_getElem (by rw [HN.out]; exact hlt)⟩
      obtain ⟨a, hao, y0, y1⟩ := (H.out.keep HB.out).two k p hp
      subst hao
      have hd := Hw.may_drop hp
      rw [HI.out] at hd
      have hps := HS.out p (List.mem_of_getElem? hp)
      obtain ⟨t1, h1⟩ : ∃ t1, Tx.isTok p.n.data.toList = t1 := ⟨_, rfl⟩
      obtain ⟨t2, h2⟩ : ∃ t2, Tx.isVal p.v.data.toList = t2 := ⟨_, rfl⟩
      have HT : Hid (∀ W, Calls Tryd.prog 43 #[.string p.n] W fun e w' => e = .returned (.bool t1) ∧ w' = W) := hid' (fun W => by have := token_any p.n W (by unfold maxLen; omega); rwa [h1] at this)
      have HV : Hid (∀ W, Calls Tryd.prog 44 #[.string p.v] W fun e w' => e = .returned (.bool t2) ∧ w' = W) := hid' (fun W => by have := value_any p.v W (by unfold maxLen; omega); rwa [h2] at this)
      unfold Hw.mayF at hd
      rw [h1, h2] at hd
      have HD := hid' hd
      have HB1 := hid' (below_two HB.out (bl_alloc wr (.cells #[.string p.n, .string p.v] 45)))
      clear hp hd h1 h2 hps
      cases t1
      · have HF : Hid (r = false) := hid' (by rw [HD.out]; rfl)
        go_wp2_with fail
        refine (HT.out _).mono ?_
        rintro e w2 ⟨rfl, hw2⟩
        subst hw2
        go_wp2
        go_ret
        exact ⟨by rw [HF.out]; rfl, HB1.out⟩
      · go_wp2_with fail
        refine (HT.out _).mono ?_
        rintro e w2 ⟨rfl, hw2⟩
        subst hw2
        go_wp2_with fail
        refine (HV.out _).mono ?_
        rintro e w2 ⟨rfl, hw2⟩
        subst hw2
        cases t2
        · have HF : Hid (r = false) := hid' (by rw [HD.out]; rfl)
          go_wp2
          go_ret
          exact ⟨by rw [HF.out]; rfl, HB1.out⟩
        · have HF : Hid (Hw.may (l.drop (k + 1)) = r) := hid' (by rw [HD.out]; rfl)
          go_wp2
          go_roundw
          case rel => exact ⟨k + 1, by go_num, by omega, HF, HB1⟩
          case measure => simp [intOf]; omega
    · obtain rfl : k = n := by omega
      have hlt2 : ¬ (k : Int) < (k : Int) := by omega
      have HF : Hid (r = true) := hid' (by rw [← HI.out, List.drop_of_length_le (by rw [HN.out]; exact Nat.le_refl _)]; rfl)
      clear hlt
      go_wp2
      go_ret
      exact ⟨by rw [HF.out]; rfl, HB.out⟩

set_option maxHeartbeats 2000000 in
theorem rmay22 (v : Value) (l : List Fd) (r : Bool) (hr : Hw.may l = r) (w : World) (h : FW w v l) (hl : l.length ≤ 1048576) (hs : ∀ f ∈ l, f.n.size ≤ 140737488355328 ∧ f.v.size ≤ 140737488355328) :
    Calls Tryd.prog 31 #[v] w fun e w' => e = .returned (.bool r) ∧ w' = w := by
  obtain ⟨ao, cap, hv⟩ := h.shape
  subst hv
  obtain ⟨n, hn⟩ : ∃ n, l.length = n := ⟨_, rfl⟩
  rw [hn] at h hl ⊢
  have H := hid' h
  have HN := hid' hn
  have HS := hid' hs
  have HR := hid' hr
  clear h hn hs hr
  go_enter Tryd.func31, Tryd.ntmps31
  go_wp2
  go_loopw [3] (fun s7 wr => ∃ k : Nat, s7 = .int .i64 (k : Int) ∧ k ≤ n ∧ Hid (Hw.may (l.drop k) = r) ∧ wr = w) (fun s7 _ => n - (intOf s7).toNat)
  case atStart => exact ⟨0, rfl, Nat.zero_le _, HR, rfl⟩
  case round =>
    obtain ⟨k, rfl, hk, HI, hwr⟩ := hrel
    subst hwr
    by_cases hlt : k < n
    · have hlt2 : (k : Int) < (n : Int) := by omega
      obtain ⟨p, hp⟩ : ∃ p, l[k]? = some p := ⟨_, List.getElem?_eq_getElem (by rw [HN.out]; exact hlt)⟩
      obtain ⟨a, hao, y0, y1⟩ := H.out.two k p hp
      subst hao
      have hd := Hw.may_drop hp
      rw [HI.out] at hd
      have hps := HS.out p (List.mem_of_getElem? hp)
      obtain ⟨t1, h1⟩ : ∃ t1, Tx.isTok p.n.data.toList = t1 := ⟨_, rfl⟩
      obtain ⟨t2, h2⟩ : ∃ t2, Tx.isVal p.v.data.toList = t2 := ⟨_, rfl⟩
      have HT : Hid (∀ W, Calls Tryd.prog 50 #[.string p.n] W fun e w' => e = .returned (.bool t1) ∧ w' = W) := hid' (fun W => by have := rToken_any p.n W (by unfold maxLen; omega); rwa [h1] at this)
      have HV : Hid (∀ W, Calls Tryd.prog 51 #[.string p.v] W fun e w' => e = .returned (.bool t2) ∧ w' = W) := hid' (fun W => by have := rValue_any p.v W (by unfold maxLen; omega); rwa [h2] at this)
      unfold Hw.mayF at hd
      rw [h1, h2] at hd
      have HD := hid' hd
      clear hp hd h1 h2 hps
      cases t1
      · have HF : Hid (r = false) := hid' (by rw [HD.out]; rfl)
        go_wp2_with fail
        refine (HT.out _).mono ?_
        rintro e w2 ⟨rfl, hw2⟩
        subst hw2
        go_wp2
        go_ret
        exact ⟨by rw [HF.out]; rfl, rfl⟩
      · go_wp2_with fail
        refine (HT.out _).mono ?_
        rintro e w2 ⟨rfl, hw2⟩
        subst hw2
        go_wp2_with fail
        refine (HV.out _).mono ?_
        rintro e w2 ⟨rfl, hw2⟩
        subst hw2
        cases t2
        · have HF : Hid (r = false) := hid' (by rw [HD.out]; rfl)
          go_wp2
          go_ret
          exact ⟨by rw [HF.out]; rfl, rfl⟩
        · have HF : Hid (Hw.may (l.drop (k + 1)) = r) := hid' (by rw [HD.out]; rfl)
          go_wp2
          go_roundw
          case rel => exact ⟨k + 1, by go_num, by omega, HF, by first | rfl | trivial⟩
          case measure => simp [intOf]; omega
    · obtain rfl : k = n := by omega
      have hlt2 : ¬ (k : Int) < (k : Int) := by omega
      have HF : Hid (r = true) := hid' (by rw [← HI.out, List.drop_of_length_le (by rw [HN.out]; exact Nat.le_refl _)]; rfl)
      clear hlt
      go_wp2
      go_ret
      exact ⟨by rw [HF.out]; rfl, rfl⟩

end Go.Proofs.YtbpdhcfmdkmoiaaDoor
