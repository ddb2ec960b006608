/-
  The document's decimal, plain: by their contracts.
  The document's plain: by its contract.
  The document's Length: by its contract, out of Number's.
  The document's walk over a header list: by its contract.
  The document's Trailers, Same, SameRequest: by their contracts.
  The document's SameRequest, of requests that are the same: by its contract.
-/
import Derived.Test.YtcljepppdljnlaaGreatDoorMsAC
import Derived.Test.YtcljepppdljnlaaGreatDoorDkYZ
import Derived.Test.YtcljepppdljnlaaGreatDoorTrims
import Derived.Deep.CutRange
import Derived.Test.YtcljepppdljnlaaGreatDoorMsPl
import Derived.Test.YtcljepppdljnlaaGreatDoorPureNum
import Derived.Laws.StructEq
namespace Go.Proofs.YtcljepppdljnlaaGreatDoor
open Go.RowKit

theorem dec_empty {x : ByteArray} (h : (x.toList == []) = true) : Ms.dec x = false := by
  unfold Ms.dec
  rw [show (Ms.tx x == []) = true by rw [Ms.tx, ← Lib.toList_data]; exact h]
  rfl

set_option maxHeartbeats 2000000 in
theorem rdec14 (p : ByteArray) (r : Bool) (hr : Ms.dec p = r) (w : World) (hp : p.size ≤ 140737488355328) :
    Calls Tryz.prog 57 #[.string p] w fun e w' => e = .returned (.bool r) ∧ w' = w := by
  cases s1 : (p.toList == [])
  · have h0 : 0 < p.size := by
      rcases Nat.eq_zero_or_pos p.size with h | h
      · have h9 : p.data.toList = [] := List.eq_nil_of_length_eq_zero (by rw [← Lib.size_eq]; omega)
        rw [Lib.toList_data, h9] at s1
        simp at s1
      · exact h
    unfold Ms.dec at hr
    rw [show (Ms.tx p == []) = false by rw [Ms.tx, ← Lib.toList_data]; exact s1, show (some 48 : Option UInt8) = some (UInt8.ofNat 48) from rfl, head_at h0 48 (by decide)] at hr
    by_cases h1 : 15 < p.size
    · have h1' : (15 : Int) < (p.size : Int) := by omega
      rw [decide_eq_false (show ¬ p.size ≤ 15 by omega)] at hr
      have HF : Hid (r = false) := hid' (by rw [← hr]; rfl)
      clear hr
      go_enter Tryz.func57, Tryz.ntmps57
      go_wp2
      go_ret
      exact ⟨by rw [HF.out]; rfl, rfl⟩
    have h1' : ¬ (15 : Int) < (p.size : Int) := by omega
    rw [decide_eq_true (show p.size ≤ 15 by omega)] at hr
    have hwalk : (((p[0].toNat : Int) == 48) && decide (1 < p.size)) = false → (p.data.toList.all fun c => decide (48 ≤ c.toNat) && decide (c.toNat ≤ 57)) = r := by
      intro h2
      have h3 : (((p[0].toNat : Int) == ((48 : Nat) : Int)) && decide (1 < p.size)) = false := h2
      rw [← hr, h3]
      rfl
    have HW := hid' hwalk
    clear hwalk
    by_cases h4 : (((p[0].toNat : Int) == 48) && decide (1 < p.size)) = true
    · have HF : Hid (r = false) := hid' (by
        have h3 : (((p[0].toNat : Int) == ((48 : Nat) : Int)) && decide (1 < p.size)) = true := h4
        rw [← hr, h3]; rfl)
      rw [Bool.and_eq_true] at h4
      obtain ⟨s2, h5⟩ := h4
      have h5' : (1 : Int) < (p.size : Int) := by have := of_decide_eq_true h5; omega
      clear hr h5
      go_enter Tryz.func57, Tryz.ntmps57
      go_wp2
      go_ret
      exact ⟨by rw [HF.out]; rfl, rfl⟩
    · have HR := hid' (HW.out (by simpa using h4))
      obtain ⟨L, hL⟩ : ∃ L, p.data.toList = L := ⟨_, rfl⟩
      have HL := hid' hL
      have HSZ : Hid (L.length = p.size) := hid' (by rw [← hL, ← Lib.size_eq])
      rw [hL] at HR
      have h6 : ((p[0].toNat : Int) == 48) = false ∨ (((p[0].toNat : Int) == 48) = true ∧ ¬ (1 : Int) < (p.size : Int)) := by
        cases s2 : ((p[0].toNat : Int) == 48)
        · exact .inl rfl
        · refine .inr ⟨rfl, fun h => h4 ?_⟩
          rw [s2, decide_eq_true (by omega)]
          rfl
      clear hr h4 hL HW
      have key : ∀ (W : World), Calls Tryz.prog 57 #[.string p] W fun e w' => e = .returned (.bool r) ∧ w' = W := by
        intro w
        rcases h6 with s2 | ⟨s2, s3⟩
        all_goals
          go_enter Tryz.func57, Tryz.ntmps57
          go_wp2
          go_loopw [3] (fun s5 wr => ∃ k : Nat, s5 = .int .i64 (k : Int) ∧ k ≤ p.size ∧ wr = w ∧ Hid (r = (L.drop k).all fun c => decide (48 ≤ c.toNat) && decide (c.toNat ≤ 57))) (fun s5 _ => p.size - (intOf s5).toNat)
          case atStart => exact ⟨0, rfl, Nat.zero_le _, rfl, hid' HR.out.symm⟩
          case round =>
            obtain ⟨k, rfl, hk, hwr, HK⟩ := hrel
            subst wr
            by_cases hlt : k < p.size
            · have hlt2 : (k : Int) < (p.size : Int) := by omega
              have hck : L[k]? = some p[k] := by rw [← HL.out, List.getElem?_eq_getElem (by rw [← Lib.size_eq]; exact hlt)]; rfl
              have HB2 : Hid (r = ((decide (48 ≤ p[k].toNat) && decide (p[k].toNat ≤ 57)) && (L.drop (k + 1)).all fun c => decide (48 ≤ c.toNat) && decide (c.toNat ≤ 57))) := hid' (by rw [HK.out, drop1 L k _ hck, List.all_cons])
              clear hck HK
              by_cases d1 : p[k].toNat < 48
              · have HF : Hid (r = false) := hid' (by rw [HB2.out, decide_eq_false (by omega)]; rfl)
                have d1' : (p[k].toNat : Int) < 48 := by omega
                go_wp2
                go_ret
                exact ⟨by rw [HF.out]; rfl, rfl⟩
              have d1' : ¬ (p[k].toNat : Int) < 48 := by omega
              by_cases d2 : 57 < p[k].toNat
              · have HF : Hid (r = false) := hid' (by rw [HB2.out, decide_eq_false (show ¬ p[k].toNat ≤ 57 by omega)]; simp)
                have d2' : (57 : Int) < (p[k].toNat : Int) := by omega
                clear d1
                go_wp2
                go_ret
                exact ⟨by rw [HF.out]; rfl, rfl⟩
              have d2' : ¬ (57 : Int) < (p[k].toNat : Int) := by omega
              have HN : Hid (r = (L.drop (k + 1)).all fun c => decide (48 ≤ c.toNat) && decide (c.toNat ≤ 57)) := hid' (by rw [HB2.out, decide_eq_true (show 48 ≤ p[k].toNat by omega), decide_eq_true (show p[k].toNat ≤ 57 by omega)]; rfl)
              clear d1 d2
              go_wp2
              go_roundw
              case rel => exact ⟨k + 1, by go_num, by omega, by first | rfl | trivial, HN⟩
              case measure => simp [intOf]; omega
            · obtain rfl : k = p.size := by omega
              have hlt2 : ¬ (p.size : Int) < (p.size : Int) := by omega
              have HF : Hid (r = true) := hid' (by rw [HK.out, List.drop_of_length_le (by rw [HSZ.out]; exact Nat.le_refl _)]; rfl)
              go_wp2
              go_ret
              exact ⟨by rw [HF.out]; rfl, rfl⟩
      exact key w
  · have HF : Hid (r = false) := hid' (by rw [← hr]; exact dec_empty s1)
    clear hr
    go_enter Tryz.func57, Tryz.ntmps57
    go_wp2
    go_ret
    exact ⟨by rw [HF.out]; rfl, rfl⟩

end Go.Proofs.YtcljepppdljnlaaGreatDoor

namespace Go.Proofs.YtcljepppdljnlaaGreatDoor
open Go.RowKit

set_option maxHeartbeats 4000000 in
set_option maxRecDepth 20000 in
theorem rplain14 (f : Fd) (r : Bool) (hr : Ms.plain f = r) (w : World) (hn : f.n.size ≤ 140737488355328) (hv : f.v.size ≤ 140737488355328) :
    Calls Tryz.prog 63 #[.agg #[.string f.n, .string f.v]] w fun e w' => e = .returned (.bool r) ∧ Below w.heap.size w w' := by
  obtain ⟨y, hy⟩ : ∃ y : ByteArray, (⟨(Tx.lower f.n.data.toList).toArray⟩ : ByteArray) = y := ⟨_, rfl⟩
  obtain ⟨t1, h1⟩ : ∃ t1, Tx.isTok f.n.data.toList = t1 := ⟨_, rfl⟩
  obtain ⟨t2, h2⟩ : ∃ t2, (y.toList == f.n.toList) = t2 := ⟨_, rfl⟩
  obtain ⟨t3, h3⟩ : ∃ t3, Tx.isVal f.v.data.toList = t3 := ⟨_, rfl⟩
  obtain ⟨t4, h4⟩ : ∃ t4, Ms.bnd f.n = t4 := ⟨_, rfl⟩
  have HT : Hid (∀ W, Calls Tryz.prog 40 #[.string f.n] W fun e w' => e = .returned (.bool t1) ∧ w' = W) := hid' (fun W => by have := rToken_any f.n W (by unfold maxLen; omega); rwa [h1] at this)
  have HLo : Hid (∀ W, Calls Tryz.prog 51 #[.string f.n] W fun e w' => e = .returned (.string y) ∧ Below W.heap.size W w') := hid' (fun W => by have := rLower_any f.n W (by unfold maxLen; omega); rwa [hy] at this)
  have HV : Hid (∀ W, Calls Tryz.prog 50 #[.string f.v] W fun e w' => e = .returned (.bool t3) ∧ w' = W) := hid' (fun W => by have := rValue_any f.v W (by unfold maxLen; omega); rwa [h3] at this)
  have HBd : Hid (∀ W, Calls Tryz.prog 22 #[.string f.n] W fun e w' => e = .returned (.bool t4) ∧ Below W.heap.size W w') := hid' (fun W => rbnd14 f.n t4 h4 W hn)
  have HR : Hid ((t1 && t2 && t3 && !t4) = r) := hid' (by
    rw [← hr, ← h1, ← h2, ← h3, ← h4, ← hy, ba_list, Lib.toList_data]
    rfl)
  clear hr h1 h3 h4 hy
  cases t1
  · have HF : Hid (r = false) := hid' (by rw [← HR.out]; rfl)
    clear HR
    go_enter Tryz.func63, Tryz.ntmps63
    go_upto_region 1 with fail
    have HA1 : Hid (Ar (w.alloc (.cells #[.string f.n, .string f.v] 50)) w.heap.size 50 #[.string f.n, .string f.v]) := hid' (heap_alloc_last w _)
    have HB1 : Hid (Below w.heap.size w (w.alloc (.cells #[.string f.n, .string f.v] 50))) := hid' ((Below.refl _ _).alloc (Nat.le_refl _) _)
    obtain ⟨xb, hxb⟩ : ∃ xb, w.heap.size = xb := ⟨_, rfl⟩
    rw [hxb] at HA1 ⊢
    generalize w.alloc (.cells #[.string f.n, .string f.v] 50) = w1 at *
    have q0 : ∀ z : BW w1, z.W.cell? ⟨xb, 0, none⟩ = some (.string f.n) := fun z => (HA1.out.keep z.h).cell 0 _ rfl
    have q1 : ∀ z : BW w1, z.W.cell? ⟨xb, 1, none⟩ = some (.string f.v) := fun z => (HA1.out.keep z.h).cell 1 _ rfl
    have hne : Nonempty (BW w1) := ⟨⟨w1, Below.refl _ _⟩⟩
    refine wp_region_below_s (by kernel_rfl) (by kernel_rfl) ?_
    repeat (refine QS.step (fun K hK => ?_); go_simp; first | (refine hK _ ?_; clear hK K) | (apply Exists.intro; refine ⟨fun _ => ?_, hK _ ?_⟩; (first | (go_at_call 40; exact Calls.below_same (HT.out _)) | (go_at_call 51; exact Calls.below_of (HLo.out _)) | (go_at_call 50; exact Calls.below_same (HV.out _)) | (go_at_call 22; exact Calls.below_of (HBd.out _))); clear hK K))
    refine QS.nil ?_
    rintro _ ⟨⟨wq, hBq⟩, rfl⟩
    have HBq := hid' hBq
    clear hBq q0 q1
    go_wp2
    go_ret
    exact ⟨by rw [HF.out]; rfl, below_two HB1.out HBq.out⟩
  cases t2
  · have HF : Hid (r = false) := hid' (by rw [← HR.out]; rfl)
    clear HR
    go_enter Tryz.func63, Tryz.ntmps63
    go_upto_region 1 with fail
    have HA1 : Hid (Ar (w.alloc (.cells #[.string f.n, .string f.v] 50)) w.heap.size 50 #[.string f.n, .string f.v]) := hid' (heap_alloc_last w _)
    have HB1 : Hid (Below w.heap.size w (w.alloc (.cells #[.string f.n, .string f.v] 50))) := hid' ((Below.refl _ _).alloc (Nat.le_refl _) _)
    obtain ⟨xb, hxb⟩ : ∃ xb, w.heap.size = xb := ⟨_, rfl⟩
    rw [hxb] at HA1 ⊢
    generalize w.alloc (.cells #[.string f.n, .string f.v] 50) = w1 at *
    have q0 : ∀ z : BW w1, z.W.cell? ⟨xb, 0, none⟩ = some (.string f.n) := fun z => (HA1.out.keep z.h).cell 0 _ rfl
    have q1 : ∀ z : BW w1, z.W.cell? ⟨xb, 1, none⟩ = some (.string f.v) := fun z => (HA1.out.keep z.h).cell 1 _ rfl
    have hne : Nonempty (BW w1) := ⟨⟨w1, Below.refl _ _⟩⟩
    refine wp_region_below_s (by kernel_rfl) (by kernel_rfl) ?_
    repeat (refine QS.step (fun K hK => ?_); go_simp; first | (refine hK _ ?_; clear hK K) | (apply Exists.intro; refine ⟨fun _ => ?_, hK _ ?_⟩; (first | (go_at_call 40; exact Calls.below_same (HT.out _)) | (go_at_call 51; exact Calls.below_of (HLo.out _)) | (go_at_call 50; exact Calls.below_same (HV.out _)) | (go_at_call 22; exact Calls.below_of (HBd.out _))); clear hK K))
    refine QS.nil ?_
    rintro _ ⟨⟨wq, hBq⟩, rfl⟩
    have HBq := hid' hBq
    clear hBq q0 q1
    go_wp2
    go_ret
    exact ⟨by rw [HF.out]; rfl, below_two HB1.out HBq.out⟩
  cases t3
  · have HF : Hid (r = false) := hid' (by rw [← HR.out]; rfl)
    clear HR
    go_enter Tryz.func63, Tryz.ntmps63
    go_upto_region 1 with fail
    have HA1 : Hid (Ar (w.alloc (.cells #[.string f.n, .string f.v] 50)) w.heap.size 50 #[.string f.n, .string f.v]) := hid' (heap_alloc_last w _)
    have HB1 : Hid (Below w.heap.size w (w.alloc (.cells #[.string f.n, .string f.v] 50))) := hid' ((Below.refl _ _).alloc (Nat.le_refl _) _)
    obtain ⟨xb, hxb⟩ : ∃ xb, w.heap.size = xb := ⟨_, rfl⟩
    rw [hxb] at HA1 ⊢
    generalize w.alloc (.cells #[.string f.n, .string f.v] 50) = w1 at *
    have q0 : ∀ z : BW w1, z.W.cell? ⟨xb, 0, none⟩ = some (.string f.n) := fun z => (HA1.out.keep z.h).cell 0 _ rfl
    have q1 : ∀ z : BW w1, z.W.cell? ⟨xb, 1, none⟩ = some (.string f.v) := fun z => (HA1.out.keep z.h).cell 1 _ rfl
    have hne : Nonempty (BW w1) := ⟨⟨w1, Below.refl _ _⟩⟩
    refine wp_region_below_s (by kernel_rfl) (by kernel_rfl) ?_
    repeat (refine QS.step (fun K hK => ?_); go_simp; first | (refine hK _ ?_; clear hK K) | (apply Exists.intro; refine ⟨fun _ => ?_, hK _ ?_⟩; (first | (go_at_call 40; exact Calls.below_same (HT.out _)) | (go_at_call 51; exact Calls.below_of (HLo.out _)) | (go_at_call 50; exact Calls.below_same (HV.out _)) | (go_at_call 22; exact Calls.below_of (HBd.out _))); clear hK K))
    refine QS.nil ?_
    rintro _ ⟨⟨wq, hBq⟩, rfl⟩
    have HBq := hid' hBq
    clear hBq q0 q1
    go_wp2
    go_ret
    exact ⟨by rw [HF.out]; rfl, below_two HB1.out HBq.out⟩
  cases t4
  · have HF : Hid (r = true) := hid' (by rw [← HR.out]; rfl)
    clear HR
    go_enter Tryz.func63, Tryz.ntmps63
    go_upto_region 1 with fail
    have HA1 : Hid (Ar (w.alloc (.cells #[.string f.n, .string f.v] 50)) w.heap.size 50 #[.string f.n, .string f.v]) := hid' (heap_alloc_last w _)
    have HB1 : Hid (Below w.heap.size w (w.alloc (.cells #[.string f.n, .string f.v] 50))) := hid' ((Below.refl _ _).alloc (Nat.le_refl _) _)
    obtain ⟨xb, hxb⟩ : ∃ xb, w.heap.size = xb := ⟨_, rfl⟩
    rw [hxb] at HA1 ⊢
    generalize w.alloc (.cells #[.string f.n, .string f.v] 50) = w1 at *
    have q0 : ∀ z : BW w1, z.W.cell? ⟨xb, 0, none⟩ = some (.string f.n) := fun z => (HA1.out.keep z.h).cell 0 _ rfl
    have q1 : ∀ z : BW w1, z.W.cell? ⟨xb, 1, none⟩ = some (.string f.v) := fun z => (HA1.out.keep z.h).cell 1 _ rfl
    have hne : Nonempty (BW w1) := ⟨⟨w1, Below.refl _ _⟩⟩
    refine wp_region_below_s (by kernel_rfl) (by kernel_rfl) ?_
    repeat (refine QS.step (fun K hK => ?_); go_simp; first | (refine hK _ ?_; clear hK K) | (apply Exists.intro; refine ⟨fun _ => ?_, hK _ ?_⟩; (first | (go_at_call 40; exact Calls.below_same (HT.out _)) | (go_at_call 51; exact Calls.below_of (HLo.out _)) | (go_at_call 50; exact Calls.below_same (HV.out _)) | (go_at_call 22; exact Calls.below_of (HBd.out _))); clear hK K))
    refine QS.nil ?_
    rintro _ ⟨⟨wq, hBq⟩, rfl⟩
    have HBq := hid' hBq
    clear hBq q0 q1
    go_wp2
    go_ret
    exact ⟨by rw [HF.out]; rfl, below_two HB1.out HBq.out⟩
  · have HF : Hid (r = false) := hid' (by rw [← HR.out]; rfl)
    clear HR
    go_enter Tryz.func63, Tryz.ntmps63
    go_upto_region 1 with fail
    have HA1 : Hid (Ar (w.alloc (.cells #[.string f.n, .string f.v] 50)) w.heap.size 50 #[.string f.n, .string f.v]) := hid' (heap_alloc_last w _)
    have HB1 : Hid (Below w.heap.size w (w.alloc (.cells #[.string f.n, .string f.v] 50))) := hid' ((Below.refl _ _).alloc (Nat.le_refl _) _)
    obtain ⟨xb, hxb⟩ : ∃ xb, w.heap.size = xb := ⟨_, rfl⟩
    rw [hxb] at HA1 ⊢
    generalize w.alloc (.cells #[.string f.n, .string f.v] 50) = w1 at *
    have q0 : ∀ z : BW w1, z.W.cell? ⟨xb, 0, none⟩ = some (.string f.n) := fun z => (HA1.out.keep z.h).cell 0 _ rfl
    have q1 : ∀ z : BW w1, z.W.cell? ⟨xb, 1, none⟩ = some (.string f.v) := fun z => (HA1.out.keep z.h).cell 1 _ rfl
    have hne : Nonempty (BW w1) := ⟨⟨w1, Below.refl _ _⟩⟩
    refine wp_region_below_s (by kernel_rfl) (by kernel_rfl) ?_
    repeat (refine QS.step (fun K hK => ?_); go_simp; first | (refine hK _ ?_; clear hK K) | (apply Exists.intro; refine ⟨fun _ => ?_, hK _ ?_⟩; (first | (go_at_call 40; exact Calls.below_same (HT.out _)) | (go_at_call 51; exact Calls.below_of (HLo.out _)) | (go_at_call 50; exact Calls.below_same (HV.out _)) | (go_at_call 22; exact Calls.below_of (HBd.out _))); clear hK K))
    refine QS.nil ?_
    rintro _ ⟨⟨wq, hBq⟩, rfl⟩
    have HBq := hid' hBq
    clear hBq q0 q1
    go_wp2
    go_ret
    exact ⟨by rw [HF.out]; rfl, below_two HB1.out HBq.out⟩

end Go.Proofs.YtcljepppdljnlaaGreatDoor

namespace Go.Proofs.YtcljepppdljnlaaGreatDoor
open Go.RowKit


set_option maxHeartbeats 2000000 in
set_option maxRecDepth 20000 in
theorem rlen14 (NM : ∀ (s : ByteArray) (w : World), s.size ≤ maxLen → Calls Tryz.prog 58 #[.string s] w fun e w' => e = .returned (.tuple #[.int .i64 (Tx.num 10 s.data.toList).1, .int .i64 (Tx.num 10 s.data.toList).2]) ∧ Below w.heap.size w w')
    (v : Value) (l : List Fd) (o : Option (Option ByteArray)) (ho : Ms.lenGo none l = o) (w : World) (h : FW w v l) (hl : l.length ≤ 1048576) (hs : ∀ f ∈ l, f.n.size ≤ 140737488355328 ∧ f.v.size ≤ 140737488355328) :
    Calls Tryz.prog 18 #[v] w fun e w' => e = .returned (Ms.lenV o) ∧ Below w.heap.size w w' := by
  obtain ⟨ao, cap, hv⟩ := h.shape
  subst hv
  obtain ⟨n, hn⟩ : ∃ n, l.length = n := ⟨_, rfl⟩
  rw [hn] at h hl ⊢
  have H := hid' h
  have HN := hid' hn
  have HS := hid' hs
  have HO := hid' ho
  have HNM := hid' NM
  clear h hn hs ho NM
  go_enter Tryz.func18, Tryz.ntmps18
  go_wp2
  go_loopw [5, 6, 7] (fun s5 s6 s7 wr => ∃ (k : Nat) (has : Bool) (val : ByteArray), s7 = .int .i64 (k : Int) ∧ s5 = .bool has ∧ s6 = .string val ∧ k ≤ n ∧ Hid (Ms.lenGo (Ms.opt has val) (l.drop k) = o) ∧ Hid (val.size ≤ 140737488355328) ∧ Hid (Below w.heap.size w wr)) (fun _ _ s7 _ => n - (intOf s7).toNat)
  case atStart => exact ⟨0, false, ⟨#[]⟩, rfl, rfl, rfl, Nat.zero_le _, HO, hid' (by decide), hid' (Below.refl _ _)⟩
  case round =>
    obtain ⟨k, has, val, rfl, rfl, rfl, hk, HI, HVS, HB⟩ := hrel
    by_cases hlt : k < n
    · have hlt2 : (k : Int) < (n : Int) := by omega
      obtain ⟨p, hp⟩ : ∃ p, l[k]? = some p := ⟨_, List.getElem?_eq_getElem (by rw [HN.out]; exact hlt)⟩
      obtain ⟨a, hao, y0, y1⟩ := (H.out.keep HB.out).two k p hp
      subst hao
      have hd := Ms.len_drop hp (Ms.opt has val)
      rw [HI.out] at hd
      have HPP := hid' hp
      have HPS := hid' (HS.out p (List.mem_of_getElem? hp))
      obtain ⟨y, hy⟩ : ∃ y : ByteArray, (⟨(Tx.lower p.n.data.toList).toArray⟩ : ByteArray) = y := ⟨_, rfl⟩
      have hyl : (Ms.lo p.n == Ms.sLen) = (y.toList == [99, 111, 110, 116, 101, 110, 116, 45, 108, 101, 110, 103, 116, 104]) := by rw [← hy, ba_list]; rfl
      rw [hyl] at hd
      clear hp hyl
      go_wp2_with fail
      refine (rLower_any p.n wr (by have := HPS.out.1; unfold maxLen; omega)).mono ?_
      rintro e wq ⟨rfl, hbq⟩
      rw [hy]
      have HBq := hid' (below_two HB.out hbq)
      clear hbq y0 y1 HB hy
      obtain ⟨_, hao, y0, y1⟩ := (H.out.keep HBq.out).two k p HPP.out
      injection hao with hao
      subst hao
      cases c1 : (y.toList == [99, 111, 110, 116, 101, 110, 116, 45, 108, 101, 110, 103, 116, 104])
      · rw [c1] at hd
        simp only [Bool.false_eq_true, if_false] at hd
        have HD := hid' hd
        clear hd
        go_wp2
        go_roundw
        case rel => exact ⟨k + 1, has, val, by go_num, rfl, rfl, by omega, hid' HD.out.symm, HVS, HBq⟩
        case measure => simp [intOf]; omega
      · rw [c1] at hd
        simp only [if_true] at hd
        obtain ⟨d, hdc⟩ : ∃ d, Ms.dec p.v = d := ⟨_, rfl⟩
        have HDC := hid' hdc
        rw [hdc] at hd
        have HD := hid' hd
        clear hd hdc
        go_wp2_with fail
        refine (rdec14 p.v d HDC.out wq HPS.out.2).mono ?_
        rintro e wq' ⟨rfl, hwq⟩
        subst wq'
        cases d
        · have HE : Hid (o = none) := hid' (by rw [HD.out]; rfl)
          go_wp2
          go_ret3
          exact ⟨by rw [HE.out]; rfl, HBq.out⟩
        · cases has
          · have HE : Hid (Ms.lenGo (Ms.opt true p.v) (l.drop (k + 1)) = o) := hid' (by rw [HD.out]; rfl)
            go_wp2
            go_roundw
            case rel => exact ⟨k + 1, true, p.v, by go_num, rfl, rfl, by omega, HE, hid' HPS.out.2, HBq⟩
            case measure => simp [intOf]; omega
          · cases c2 : (p.v.toList == val.toList)
            · have HE : Hid (o = none) := hid' (by rw [HD.out]; simp only [Ms.opt, if_true, c2]; rfl)
              go_wp2
              go_ret3
              exact ⟨by rw [HE.out]; rfl, HBq.out⟩
            · have HE : Hid (Ms.lenGo (Ms.opt true p.v) (l.drop (k + 1)) = o) := hid' (by rw [HD.out]; simp only [Ms.opt, if_true, c2]; rfl)
              go_wp2
              go_roundw
              case rel => exact ⟨k + 1, true, p.v, by go_num, rfl, rfl, by omega, HE, hid' HPS.out.2, HBq⟩
              case measure => simp [intOf]; omega
    · obtain rfl : k = n := by omega
      have hlt2 : ¬ (k : Int) < (k : Int) := by omega
      have HE : Hid (o = some (Ms.opt has val)) := hid' (by rw [← HI.out, List.drop_of_length_le (by rw [HN.out]; exact Nat.le_refl _)]; rfl)
      clear hlt
      cases has
      · go_wp2
        go_ret3
        exact ⟨by rw [HE.out]; rfl, HB.out⟩
      · go_wp2_with fail
        refine (HNM.out val wr (by have := HVS.out; unfold maxLen; omega)).mono ?_
        rintro e wq ⟨rfl, hbq⟩
        have HBq := hid' (below_two HB.out hbq)
        clear hbq
        go_wp2
        go_ret3
        exact ⟨by rw [HE.out]; rfl, HBq.out⟩

end Go.Proofs.YtcljepppdljnlaaGreatDoor

namespace Go.Proofs.YtcljepppdljnlaaGreatDoor
open Go.RowKit


set_option maxHeartbeats 8000000 in
set_option maxRecDepth 20000 in
theorem rwalk14 (v : Value) (l : List Fd) (c : Int) (hc : Ms.walk [] false l = c) (w : World) (h : FW w v l) (hl : l.length ≤ 1048576) (hs : ∀ f ∈ l, f.n.size ≤ 140737488355328 ∧ f.v.size ≤ 140737488355328) :
    Calls Tryz.prog 38 #[v] w fun e w' => e = .returned (.int .i64 c) ∧ Below w.heap.size w w' := by
  obtain ⟨ao, cap, hv⟩ := h.shape
  subst hv
  obtain ⟨n, hn⟩ : ∃ n, l.length = n := ⟨_, rfl⟩
  rw [hn] at h hl ⊢
  have H := hid' h
  have HN := hid' hn
  have HS := hid' hs
  have HC := hid' hc
  clear h hn hs hc
  go_enter Tryz.func38, Tryz.ntmps38
  go_wp2
  go_loopw [3, 4] (fun s3 s4 wr => ∃ (k : Nat) (bh : Bool), s4 = .int .i64 (k : Int) ∧ s3 = .bool bh ∧ k ≤ n ∧ Hid (Ms.walk (l.take k) bh (l.drop k) = c) ∧ Hid (Below w.heap.size w wr)) (fun _ s4 _ => n - (intOf s4).toNat)
  case atStart => exact ⟨0, false, rfl, rfl, Nat.zero_le _, HC, hid' (Below.refl _ _)⟩
  case round =>
    obtain ⟨k, bh, rfl, rfl, hk, HI, HB⟩ := hrel
    by_cases hlt : k < n
    · have hlt2 : (k : Int) < (n : Int) := by omega
      obtain ⟨p, hp⟩ : ∃ p, l[k]? = some p := ⟨_, List.getElem?_eq_getElem (by rw [HN.out]; exact hlt)⟩
      obtain ⟨a, hao, y0, y1⟩ := (H.out.keep HB.out).two k p hp
      subst hao
      have hd := Ms.walk_drop hp bh
      rw [HI.out] at hd
      have HD := hid' hd
      have HPS := hid' (HS.out p (List.mem_of_getElem? hp))
      have hkc : (k : Int) ≤ (cap : Int) := by have := H.out.cap; have := HN.out; omega
      clear hp hd
      go_upto_region 6 with fail
      have HX : Hid (Ar (wr.alloc (.cells #[.string p.n, .string p.v] 50)) wr.heap.size 50 #[.string p.n, .string p.v]) := hid' (heap_alloc_last wr _)
      have hb1 : Below wr.heap.size wr (wr.alloc (.cells #[.string p.n, .string p.v] 50)) := (Below.refl _ _).alloc (Nat.le_refl _) _
      have HB1 := hid' (below_two HB.out hb1)
      obtain ⟨xb, hxb⟩ : ∃ xb, wr.heap.size = xb := ⟨_, rfl⟩
      rw [hxb] at HX ⊢
      clear hb1 hxb y0 y1
      generalize wr.alloc (.cells #[.string p.n, .string p.v] 50) = w1 at *
      have HT := hid' (((H.out.keep HB1.out).take (k := k) (by rw [HN.out]; omega)))
      obtain ⟨o, ho⟩ : ∃ o, Ms.fnd p.n.toList (l.take k) = o := ⟨_, rfl⟩
      have HFN : Hid (∀ z : BW w1, Calls Tryz.prog 39 #[.slice (some a) k cap, .string p.n] z.W fun e w' => e = .returned (fndV o) ∧ w' = z.W) := hid' (fun z => rfind14 _ (l.take k) p.n o ho z.W (HT.out.keep z.h) (by rw [List.length_take]; omega))
      have HO := hid' ho
      have q0 : ∀ z : BW w1, z.W.cell? ⟨xb, 0, none⟩ = some (.string p.n) := fun z => (HX.out.keep z.h).cell 0 _ rfl
      have hne : Nonempty (BW w1) := ⟨⟨w1, Below.refl _ _⟩⟩
      clear ho
      unfold fndV at HFN
      obtain ⟨ov, hov⟩ : ∃ ov, o.getD ⟨#[]⟩ = ov := ⟨_, rfl⟩
      obtain ⟨ob, hob⟩ : ∃ ob, o.isSome = ob := ⟨_, rfl⟩
      rw [hov, hob] at HFN
      have HOB := hid' hob
      clear hov hob
      refine wp_region_below_s (by kernel_rfl) (by kernel_rfl) ?_
      repeat (refine QS.step (fun K hK => ?_); go_simp; first | (refine hK _ ?_; clear hK K) | (apply Exists.intro; refine ⟨fun _ => ?_, hK _ ?_⟩; (go_at_call 39; exact Calls.below_same (HFN.out _)); clear hK K))
      refine QS.nil ?_
      rintro w2 ⟨⟨w2', hBq⟩, hw2⟩
      obtain rfl : w2 = w2' := hw2
      have HB2 := hid' (below_two HB1.out hBq)
      have HX2 := hid' (HX.out.keep hBq)
      have x0 := HX2.out.cell 0 _ rfl
      have x1 := HX2.out.cell 1 _ rfl
      clear hBq q0 hne HFN HT
      obtain ⟨pd, hpd⟩ : ∃ pd, Ms.psd p.n = pd := ⟨_, rfl⟩
      have HPD := hid' hpd
      go_wp2_with fail
      refine (rpsd14 p.n pd HPD.out w2 HPS.out.1).mono ?_
      rintro e w2' ⟨rfl, hw2⟩
      subst w2'
      cases pd
      · obtain ⟨pl, hpl⟩ : ∃ pl, Ms.plain p = pl := ⟨_, rfl⟩
        have HPL := hid' hpl
        clear hpl
        go_wp2_with fail
        refine (rplain14 p pl HPL.out w2 HPS.out.1 HPS.out.2).mono ?_
        rintro e w3 ⟨rfl, hb3⟩
        have HBZ := hid' (below_two HB2.out hb3)
        have HX3 := hid' (HX2.out.keep hb3)
        have z0 := HX3.out.cell 0 _ rfl
        have z1 := HX3.out.cell 1 _ rfl
        clear hb3 x0 x1
        cases pl
        · have HE : Hid (c = 141) := hid' (by rw [HD.out]; have a1 := HPL.out; have a2 := HO.out; have a3 := HOB.out; simp [*, Ms.bad2])
          go_wp2
          go_ret
          exact ⟨by rw [HE.out]; rfl, by first | exact HBZ.out | exact below_two HBZ.out ((Below.refl _ _).alloc (Nat.le_refl _) _)⟩
        cases tt : (p.n.toList == [116, 101])
        · cases hh : (p.n.toList == [104, 111, 115, 116])
          · have HE : Hid (Ms.walk (l.take (k + 1)) true (l.drop (k + 1)) = c) := hid' (by rw [HD.out]; have a1 := HPL.out; have a2 := HO.out; have a3 := HOB.out; simp [*, Ms.bad2])
            go_wp2
            go_roundw
            case rel => exact ⟨k + 1, true, by go_num, rfl, by omega, HE, hid' (by first | exact HBZ.out | exact below_two HBZ.out ((Below.refl _ _).alloc (Nat.le_refl _) _))⟩
            case measure => simp [intOf]; omega
          · cases ob
            · have HE : Hid (Ms.walk (l.take (k + 1)) true (l.drop (k + 1)) = c) := hid' (by rw [HD.out]; have a1 := HPL.out; have a2 := HO.out; have a3 := HOB.out; simp [*, Ms.bad2])
              go_wp2
              go_roundw
              case rel => exact ⟨k + 1, true, by go_num, rfl, by omega, HE, hid' (by first | exact HBZ.out | exact below_two HBZ.out ((Below.refl _ _).alloc (Nat.le_refl _) _))⟩
              case measure => simp [intOf]; omega
            · have HE : Hid (c = 141) := hid' (by rw [HD.out]; have a1 := HPL.out; have a2 := HO.out; have a3 := HOB.out; simp [*, Ms.bad2])
              go_wp2
              go_ret
              exact ⟨by rw [HE.out]; rfl, by first | exact HBZ.out | exact below_two HBZ.out ((Below.refl _ _).alloc (Nat.le_refl _) _)⟩
        cases tv : (p.v.toList == [116, 114, 97, 105, 108, 101, 114, 115])
        · have HE : Hid (c = 141) := hid' (by rw [HD.out]; have a1 := HPL.out; have a2 := HO.out; have a3 := HOB.out; simp [*, Ms.bad2])
          go_wp2
          go_ret
          exact ⟨by rw [HE.out]; rfl, by first | exact HBZ.out | exact below_two HBZ.out ((Below.refl _ _).alloc (Nat.le_refl _) _)⟩
        cases hh : (p.n.toList == [104, 111, 115, 116])
        · have HE : Hid (Ms.walk (l.take (k + 1)) true (l.drop (k + 1)) = c) := hid' (by rw [HD.out]; have a1 := HPL.out; have a2 := HO.out; have a3 := HOB.out; simp [*, Ms.bad2])
          go_wp2
          go_roundw
          case rel => exact ⟨k + 1, true, by go_num, rfl, by omega, HE, hid' (by first | exact HBZ.out | exact below_two HBZ.out ((Below.refl _ _).alloc (Nat.le_refl _) _))⟩
          case measure => simp [intOf]; omega
        · cases ob
          · have HE : Hid (Ms.walk (l.take (k + 1)) true (l.drop (k + 1)) = c) := hid' (by rw [HD.out]; have a1 := HPL.out; have a2 := HO.out; have a3 := HOB.out; simp [*, Ms.bad2])
            go_wp2
            go_roundw
            case rel => exact ⟨k + 1, true, by go_num, rfl, by omega, HE, hid' (by first | exact HBZ.out | exact below_two HBZ.out ((Below.refl _ _).alloc (Nat.le_refl _) _))⟩
            case measure => simp [intOf]; omega
          · have HE : Hid (c = 141) := hid' (by rw [HD.out]; have a1 := HPL.out; have a2 := HO.out; have a3 := HOB.out; simp [*, Ms.bad2])
            go_wp2
            go_ret
            exact ⟨by rw [HE.out]; rfl, by first | exact HBZ.out | exact below_two HBZ.out ((Below.refl _ _).alloc (Nat.le_refl _) _)⟩
      · have HBZ := HB2
        cases bh
        · cases ob
          · obtain ⟨g, hg⟩ : ∃ g, Ms.pss.contains p.n.toList = g := ⟨_, rfl⟩
            have HG := hid' hg
            clear hg HBZ
            have hxl : xb < w2.heap.size := HX2.out.lt
            have hx7 : (xb == w2.heap.size) = false := beq_false_of_ne (Nat.ne_of_lt hxl)
            go_wp2_with fail
            have HA : Hid (Ar (w2.alloc (.cells (sC Ms.pss).toArray 9)) w2.heap.size 9 (sC Ms.pss).toArray) := hid' (heap_alloc_last w2 _)
            have HBZ : Hid (Below w.heap.size w (w2.alloc (.cells (sC Ms.pss).toArray 9))) := hid' (below_two HB2.out ((Below.refl _ _).alloc (Nat.le_refl _) _))
            change Calls _ _ _ (w2.alloc (.cells (sC Ms.pss).toArray 9)) _
            generalize w2.alloc (.cells (sC Ms.pss).toArray 9) = w3 at *
            refine (rin14 w2.heap.size 4 Ms.pss rfl p.n g HG.out w3 HA.out (by omega)).mono ?_
            rintro e w3' ⟨rfl, hw3⟩
            subst w3'
            clear x0 x1
            cases g
            · have HE : Hid (c = 140) := hid' (by rw [HD.out]; rw [hpd, if_pos rfl]; unfold Ms.bad1; rw [HO.out, HOB.out, HG.out]; rfl)
              go_wp2
              go_ret
              exact ⟨by rw [HE.out]; rfl, by first | exact HBZ.out | exact below_two HBZ.out ((Below.refl _ _).alloc (Nat.le_refl _) _)⟩
            · have HE : Hid (Ms.walk (l.take (k + 1)) false (l.drop (k + 1)) = c) := hid' (by rw [HD.out]; rw [hpd, if_pos rfl]; unfold Ms.bad1; rw [HO.out, HOB.out, HG.out]; rfl)
              go_wp2
              go_roundw
              case rel => exact ⟨k + 1, false, by go_num, rfl, by omega, HE, hid' (by first | exact HBZ.out | exact below_two HBZ.out ((Below.refl _ _).alloc (Nat.le_refl _) _))⟩
              case measure => simp [intOf]; omega
          · have HE : Hid (c = 140) := hid' (by rw [HD.out]; have a2 := HO.out; have a3 := HOB.out; simp [*, Ms.bad1])
            go_wp2
            go_ret
            exact ⟨by rw [HE.out]; rfl, by first | exact HBZ.out | exact below_two HBZ.out ((Below.refl _ _).alloc (Nat.le_refl _) _)⟩
        · have HE : Hid (c = 140) := hid' (by rw [HD.out]; have a2 := HO.out; have a3 := HOB.out; simp [*, Ms.bad1])
          go_wp2
          go_ret
          exact ⟨by rw [HE.out]; rfl, by first | exact HBZ.out | exact below_two HBZ.out ((Below.refl _ _).alloc (Nat.le_refl _) _)⟩
    · obtain rfl : k = n := by omega
      have hlt2 : ¬ (k : Int) < (k : Int) := by omega
      have HE : Hid (c = 0) := hid' (by rw [← HI.out, List.drop_of_length_le (by rw [HN.out]; exact Nat.le_refl _)]; rfl)
      clear hlt
      go_wp2
      go_ret
      exact ⟨by rw [HE.out]; rfl, HB.out⟩

end Go.Proofs.YtcljepppdljnlaaGreatDoor

namespace Go.Proofs.YtcljepppdljnlaaGreatDoor
open Go.RowKit


set_option maxHeartbeats 4000000 in
set_option maxRecDepth 20000 in
theorem rtrail14 (v : Value) (l : List Fd) (c : Int) (hc : Ms.trail l = c) (w : World) (h : FW w v l) (hl : l.length ≤ 1048576) (hs : ∀ f ∈ l, f.n.size ≤ 140737488355328 ∧ f.v.size ≤ 140737488355328) :
    Calls Tryz.prog 26 #[v] w fun e w' => e = .returned (.int .i64 c) ∧ Below w.heap.size w w' := by
  obtain ⟨ao, cap, hv⟩ := h.shape
  subst hv
  obtain ⟨n, hn⟩ : ∃ n, l.length = n := ⟨_, rfl⟩
  rw [hn] at h hl ⊢
  have H := hid' h
  have HN := hid' hn
  have HS := hid' hs
  have HC := hid' hc
  clear h hn hs hc
  go_enter Tryz.func26, Tryz.ntmps26
  go_upto_region 3 with fail
  have HA : Hid (Ar (w.alloc (.cells (sC Ms.noTr).toArray 9)) w.heap.size 9 (sC Ms.noTr).toArray) := hid' (heap_alloc_last w _)
  have HB0 : Hid (Below w.heap.size w (w.alloc (.cells (sC Ms.noTr).toArray 9))) := hid' ((Below.refl _ _).alloc (Nat.le_refl _) _)
  change Code.wp _ _ _ _ (w.alloc (.cells (sC Ms.noTr).toArray 9))
  obtain ⟨bk, hbk⟩ : ∃ bk, w.heap.size = bk := ⟨_, rfl⟩
  rw [hbk] at HA ⊢
  generalize w.alloc (.cells (sC Ms.noTr).toArray 9) = w0 at *
  clear hbk
  go_loopw [4] (fun s4 wr => ∃ k : Nat, s4 = .int .i64 (k : Int) ∧ k ≤ n ∧ Hid (Ms.trail (l.drop k) = c) ∧ Hid (Below w0.heap.size w0 wr)) (fun s4 _ => n - (intOf s4).toNat)
  case atStart => exact ⟨0, rfl, Nat.zero_le _, HC, hid' (Below.refl _ _)⟩
  case round =>
    obtain ⟨k, rfl, hk, HI, HB⟩ := hrel
    have HBW := hid' (below_two HB0.out HB.out)
    by_cases hlt : k < n
    · have hlt2 : (k : Int) < (n : Int) := by omega
      obtain ⟨p, hp⟩ : ∃ p, l[k]? = some p := ⟨_, List.getElem?_eq_getElem (by rw [HN.out]; exact hlt)⟩
      obtain ⟨a, hao, y0, y1⟩ := (H.out.keep HBW.out).two k p hp
      subst hao
      have hd := Ms.trail_drop hp
      rw [HI.out] at hd
      have HD := hid' hd
      have HPS := hid' (HS.out p (List.mem_of_getElem? hp))
      have HPP := hid' hp
      obtain ⟨pd, hpd⟩ : ∃ pd, Ms.psd p.n = pd := ⟨_, rfl⟩
      have HPD := hid' hpd
      obtain ⟨pl, hpl⟩ : ∃ pl, Ms.plain p = pl := ⟨_, rfl⟩
      have HPL := hid' hpl
      obtain ⟨g, hg⟩ : ∃ g, Ms.noTr.contains p.n.toList = g := ⟨_, rfl⟩
      have HG := hid' hg
      clear hp hd hpd hpl hg
      go_wp2_with fail
      refine (rpsd14 p.n pd HPD.out wr HPS.out.1).mono ?_
      rintro e w1 ⟨rfl, hw1⟩
      subst w1
      cases pd
      · go_wp2_with fail
        refine (rplain14 p pl HPL.out wr HPS.out.1 HPS.out.2).mono ?_
        rintro e w2 ⟨rfl, hb2⟩
        have HB2 := hid' (below_two HB.out hb2)
        have HBW2 := hid' (below_two HBW.out hb2)
        clear hb2 y0 y1
        obtain ⟨_, hao, y0, y1⟩ := (H.out.keep HBW2.out).two k p HPP.out
        injection hao with hao
        subst hao
        cases pl
        · have HE : Hid (c = 143) := hid' (by rw [HD.out, HPD.out, HPL.out]; rfl)
          go_wp2
          go_ret
          exact ⟨by rw [HE.out]; rfl, HBW2.out⟩
        · go_wp2_with fail
          refine (rin14 bk 11 Ms.noTr rfl p.n g HG.out w2 (HA.out.keep HB2.out) (by omega)).mono ?_
          rintro e w3 ⟨rfl, hw3⟩
          subst w3
          cases g
          · have HE : Hid (Ms.trail (l.drop (k + 1)) = c) := hid' (by rw [HD.out, HPD.out, HPL.out, HG.out]; rfl)
            go_wp2
            go_roundw
            case rel => exact ⟨k + 1, by go_num, by omega, HE, HB2⟩
            case measure => simp [intOf]; omega
          · have HE : Hid (c = 143) := hid' (by rw [HD.out, HPD.out, HPL.out, HG.out]; rfl)
            go_wp2
            go_ret
            exact ⟨by rw [HE.out]; rfl, HBW2.out⟩
      · have HE : Hid (c = 140) := hid' (by rw [HD.out, HPD.out]; rfl)
        go_wp2
        go_ret
        exact ⟨by rw [HE.out]; rfl, HBW.out⟩
    · obtain rfl : k = n := by omega
      have hlt2 : ¬ (k : Int) < (k : Int) := by omega
      have HE : Hid (c = 0) := hid' (by rw [← HI.out, List.drop_of_length_le (by rw [HN.out]; exact Nat.le_refl _)]; rfl)
      clear hlt
      go_wp2
      go_ret
      exact ⟨by rw [HE.out]; rfl, HBW.out⟩

theorem noStandF14 : Tryz.prog.stoodInHeld 50 = false := by kernel_rfl
theorem noGuardF14 : Tryz.prog.eqGuardType Tryz.prog.depth 50 = false := by kernel_rfl
theorem fieldsOfF14 : Tryz.prog.underlying 50 = some (.struct (Tryz.prog.fieldsOf 50)) := by kernel_rfl
set_option maxRecDepth 20000 in
theorem neq_f14 (f : Fd) (w : World) : (binOp .neq 50 (.agg #[.string f.n, .string f.v]) (.agg #[.string f.n, .string f.v])).run Tryz.prog w = .ok (.bool false) w := by
  rw [run_neq_struct, show (10000 : Nat) = 9999 + 1 by rfl, run_equalIn_agg w 9999 50 _ _ fieldsOfF14 noStandF14]
  simp only [Program.fieldsOf, Tryz.underlying50]
  go_simp

set_option maxHeartbeats 2000000 in
set_option maxRecDepth 20000 in
theorem rsame14 (va vb : Value) (l : List Fd) (w : World) (h1 : FW w va l) (h2 : FW w vb l) (hl : l.length ≤ 140737488355328) :
    Calls Tryz.prog 23 #[va, vb] w fun e w' => e = .returned (.bool true) ∧ ∃ m, w' = w.drewN m := by
  obtain ⟨ao, ca, hv⟩ := h1.shape
  subst hv
  obtain ⟨bo, cb, hv⟩ := h2.shape
  subst hv
  obtain ⟨n, hn⟩ : ∃ n, l.length = n := ⟨_, rfl⟩
  rw [hn] at h1 h2 hl ⊢
  have H1 := hid' h1
  have H2 := hid' h2
  have HN := hid' hn
  have hee : ((n : Int) == (n : Int)) = true := beq_self_eq_true _
  have hgd := noGuardF14
  clear h1 h2 hn
  go_enter Tryz.func23, Tryz.ntmps23
  go_wp2
  go_loopw [5] (fun s5 wr => ∃ i q : Nat, s5 = .int .i64 (i : Int) ∧ i ≤ n ∧ wr = w.drewN q) (fun s5 _ => n - (intOf s5).toNat)
  case atStart => exact ⟨0, 0, rfl, Nat.zero_le _, rfl⟩
  case round =>
    obtain ⟨i, q, rfl, hi, hwr⟩ := hrel
    subst hwr
    by_cases hlt : i < n
    · have hlt2 : (i : Int) < (n : Int) := by omega
      obtain ⟨p, hp⟩ : ∃ p, l[i]? = some p := ⟨_, List.getElem?_eq_getElem (by rw [HN.out]; exact hlt)⟩
      obtain ⟨a, hao, x0, x1⟩ := H1.out.two i p hp
      obtain ⟨a2, hbo, y0, y1⟩ := H2.out.two i p hp
      subst hao hbo
      have hne : ∀ W, (binOp .neq 50 (.agg #[.string p.n, .string p.v]) (.agg #[.string p.n, .string p.v])).run Tryz.prog W = .ok (.bool false) W := fun W => neq_f14 p W
      have HLT := hid' hlt
      clear hp hlt
      go_wp2
      go_quiet (fail)
      go_wp2
      go_roundw
      case rel => exact ⟨i + 1, _, by go_num, by have := HLT.out; omega, by first | rfl | simp⟩
      case measure => have := HLT.out; simp [intOf]; omega
    · have hlt2 : ¬ (i : Int) < (n : Int) := by omega
      clear hlt
      go_wp2
      go_ret
      exact ⟨rfl, _, rfl⟩

end Go.Proofs.YtcljepppdljnlaaGreatDoor

namespace Go.Proofs.YtcljepppdljnlaaGreatDoor
open Go.RowKit

/-- A request's cells. -/
def rqC (m s a p : ByteArray) (fv : Value) (b : ByteArray) (tv : Value) : Array Value := #[.string m, .string s, .string a, .string p, fv, .string b, tv]
theorem below_dn (w : World) (n : Nat) : Below w.heap.size w (w.drewN n) := ⟨rfl, rfl, rfl, Nat.le_refl _, fun _ _ => rfl⟩

set_option maxHeartbeats 4000000 in
set_option maxRecDepth 20000 in
theorem rsameReq14 (m s a p b : ByteArray) (fv fv' tv tv' : Value) (l t : List Fd) (w : World) (h1 : FW w fv l) (h2 : FW w fv' l) (h3 : FW w tv t) (h4 : FW w tv' t) (hl : l.length ≤ 140737488355328) (ht : t.length ≤ 140737488355328) :
    Calls Tryz.prog 10 #[.agg (rqC m s a p fv b tv), .agg (rqC m s a p fv' b tv')] w fun e w' => e = .returned (.bool true) ∧ Below w.heap.size w w' := by
  have H1 := hid' h1
  have H2 := hid' h2
  have H3 := hid' h3
  have H4 := hid' h4
  have e1 : (m.toList == m.toList) = true := beq_self_eq_true _
  have e2 : (s.toList == s.toList) = true := beq_self_eq_true _
  have e3 : (a.toList == a.toList) = true := beq_self_eq_true _
  have e4 : (p.toList == p.toList) = true := beq_self_eq_true _
  have e5 : (b.toList == b.toList) = true := beq_self_eq_true _
  clear h1 h2 h3 h4
  unfold rqC
  go_enter Tryz.func10, Tryz.ntmps10
  go_wp2_with (refine wpl_box 25 _ rfl rfl (rqC m s a p fv b tv) (by kernel_rfl) ?_)
  intro xb w1 hg1 ha1 hb1
  have HX1 := hid' ha1
  have HB1 := hid' hb1
  clear hg1 ha1 hb1
  go_wp2_with (refine wpl_box 25 _ rfl rfl (rqC m s a p fv' b tv') (by kernel_rfl) ?_)
  intro yb w2 hg2 ha2 hb2
  have HX2 := hid' (HX1.out.keep hb2)
  have HY2 := hid' ha2
  have HB2 := hid' (below_two HB1.out hb2)
  clear hg2 ha2 hb2 HX1 HB1
  have x0 : w2.cell? ⟨xb, 0, none⟩ = some (.string m) := HX2.out.cell 0 _ rfl
  have x1 : w2.cell? ⟨xb, 1, none⟩ = some (.string s) := HX2.out.cell 1 _ rfl
  have x2 : w2.cell? ⟨xb, 2, none⟩ = some (.string a) := HX2.out.cell 2 _ rfl
  have x3 : w2.cell? ⟨xb, 3, none⟩ = some (.string p) := HX2.out.cell 3 _ rfl
  have x4 : w2.cell? ⟨xb, 4, none⟩ = some (fv) := HX2.out.cell 4 _ rfl
  have x5 : w2.cell? ⟨xb, 5, none⟩ = some (.string b) := HX2.out.cell 5 _ rfl
  have x6 : w2.cell? ⟨xb, 6, none⟩ = some (tv) := HX2.out.cell 6 _ rfl
  have y0 : w2.cell? ⟨yb, 0, none⟩ = some (.string m) := HY2.out.cell 0 _ rfl
  have y1 : w2.cell? ⟨yb, 1, none⟩ = some (.string s) := HY2.out.cell 1 _ rfl
  have y2 : w2.cell? ⟨yb, 2, none⟩ = some (.string a) := HY2.out.cell 2 _ rfl
  have y3 : w2.cell? ⟨yb, 3, none⟩ = some (.string p) := HY2.out.cell 3 _ rfl
  have y4 : w2.cell? ⟨yb, 4, none⟩ = some (fv') := HY2.out.cell 4 _ rfl
  have y5 : w2.cell? ⟨yb, 5, none⟩ = some (.string b) := HY2.out.cell 5 _ rfl
  have y6 : w2.cell? ⟨yb, 6, none⟩ = some (tv') := HY2.out.cell 6 _ rfl
  go_wp2_with fail
  refine (rsame14 fv fv' l w2 (H1.out.keep HB2.out) (H2.out.keep HB2.out) hl).mono ?_
  rintro e w3 ⟨rfl, n3, hn3⟩
  subst hn3
  go_wp2_with fail
  refine (rsame14 tv tv' t _ ((H3.out.keep HB2.out).keep (below_dn _ _)) ((H4.out.keep HB2.out).keep (below_dn _ _)) ht).mono ?_
  rintro e w4 ⟨rfl, n4, hn4⟩
  subst hn4
  go_wp2
  go_ret
  exact ⟨rfl, below_two HB2.out (below_dn _ _)⟩

end Go.Proofs.YtcljepppdljnlaaGreatDoor
