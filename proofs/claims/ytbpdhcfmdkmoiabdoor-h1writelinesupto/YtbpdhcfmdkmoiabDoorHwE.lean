/-
  isSound of the code, may of the document: by their contracts.
-/
import Derived.Test.YtbpdhcfmdkmoiabDoorHwC
import Derived.Test.YtbpdhcfmdkmoiabDoorMsE
namespace Go.Proofs.YtbpdhcfmdkmoiabDoor
open Go.RowKit

theorem Hw.may_drop {l : List Fd} {i : Nat} {f : Fd} (h : l[i]? = some f) : Hw.may (l.drop i) = (Hw.mayF f && Hw.may (l.drop (i + 1))) := by
  have hi := (List.getElem?_eq_some_iff.1 h).1
  rw [List.drop_eq_getElem_cons hi, (List.getElem?_eq_some_iff.1 h).2]; rfl

set_option maxHeartbeats 2000000 in
theorem csnd22 (v : Value) (l : List Fd) (r : Bool) (hr : Hw.may l = r) (w : World) (h : FW w v l) (hl : l.length ≤ 1048576) (hs : ∀ f ∈ l, f.n.size ≤ 140737488355328 ∧ f.v.size ≤ 140737488355328) :
    Calls Tryd.prog 7 #[v] w fun e w' => e = .returned (.bool r) ∧ Below w.heap.size w w' := by
  obtain ⟨ao, cap, hv⟩ := h.shape
  subst hv
  obtain ⟨n, hn⟩ : ∃ n, l.length = n := ⟨_, rfl⟩
  rw [hn] at h hl ⊢
  have H := hid' h
  have HN := hid' hn
  have HS := hid' hs
  have HR := hid' hr
  clear h hn hs hr
  go_enter Tryd.func7, Tryd.ntmps7
  go_wp2
  go_loopw [7] (fun s7 wr => ∃ k : Nat, s7 = .int .i64 (k : Int) ∧ k ≤ n ∧ Hid (Hw.may (l.drop k) = r) ∧ Hid (Below w.heap.size w wr)) (fun s7 _ => n - (intOf s7).toNat)
  case atStart => exact ⟨0, rfl, Nat.zero_le _, HR, hid' (Below.refl _ _)⟩
  case round =>
    obtain ⟨k, rfl, hk, HI, HB⟩ := hrel
    by_cases hlt : k < n
    · have hlt2 : (k : Int) < (n : Int) := by omega
      obtain ⟨p, hp⟩ : ∃ p, l[k]? = some p := ⟨_, List.getElem?_eq_getElem (by rw [HN.out]; exact hlt)⟩
      obtain ⟨a, hao, y0, y1⟩ := (H.out.keep HB.out).two k p hp
      subst hao
      have hd := Hw.may_drop hp
      rw [HI.out] at hd
      have hps := HS.out p (List.mem_of_getElem? hp)
      obtain ⟨t1, h1⟩ : ∃ t1, Tx.isTok p.n.data.toList = t1 := ⟨_, rfl⟩
      obtain ⟨t2, h2⟩ : ∃ t2, Tx.isVal p.v.data.toList = t2 := ⟨_, rfl⟩
      have HT : Hid (∀ W, Calls Tryd.prog 19 #[.string p.n] W fun e w' => e = .returned (.bool t1) ∧ w' = W) := hid' (fun W => by have := token_any p.n W (by unfold maxLen; omega); rwa [h1] at this)
      have HV : Hid (∀ W, Calls Tryd.prog 20 #[.string p.v] W fun e w' => e = .returned (.bool t2) ∧ w' = W) := hid' (fun W => by have := value_any p.v W (by unfold maxLen; omega); rwa [h2] at this)
      unfold Hw.mayF at hd
      rw [h1, h2] at hd
      have HD := hid' hd
      have HB1 := hid' (below_two HB.out (bl_alloc wr (.cells #[.string p.n, .string p.v] 45)))
      clear hp hd h1 h2 hps
      cases t1
      · have HF : Hid (r = false) := hid' (by rw [HD.out]; rfl)
        go_wp2_with fail
        refine (HT.out _).mono ?_
        rintro e w2 ⟨rfl, hw2⟩
        subst hw2
        go_wp2
        go_ret
        exact ⟨by rw [HF.out]; rfl, HB1.out⟩
      · go_wp2_with fail
        refine (HT.out _).mono ?_
        rintro e w2 ⟨rfl, hw2⟩
        subst hw2
        go_wp2_with fail
        refine (HV.out _).mono ?_
        rintro e w2 ⟨rfl, hw2⟩
        subst hw2
        cases t2
        · have HF : Hid (r = false) := hid' (by rw [HD.out]; rfl)
          go_wp2
          go_ret
          exact ⟨by rw [HF.out]; rfl, HB1.out⟩
        · have HF : Hid (Hw.may (l.drop (k + 1)) = r) := hid' (by rw [HD.out]; rfl)
          go_wp2
          go_roundw
          case rel => exact ⟨k + 1, by go_num, by omega, HF, HB1⟩
          case measure => simp [intOf]; omega
    · obtain rfl : k = n := by omega
      have hlt2 : ¬ (k : Int) < (k : Int) := by omega
      have HF : Hid (r = true) := hid' (by rw [← HI.out, List.drop_of_length_le (by rw [HN.out]; exact Nat.le_refl _)]; rfl)
      clear hlt
      go_wp2
      go_ret
      exact ⟨by rw [HF.out]; rfl, HB.out⟩

end Go.Proofs.YtbpdhcfmdkmoiabDoor
