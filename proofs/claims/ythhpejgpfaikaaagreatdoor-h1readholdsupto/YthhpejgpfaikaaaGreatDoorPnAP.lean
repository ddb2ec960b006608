/-
  The document's decimal, plain: by their contracts.
  The document's plain: by its contract.
  The code's head.addField where a field is laid behind the others: by its contract.
-/
import Derived.Test.YthhpejgpfaikaaaGreatDoorPnAK
import Derived.Test.YthhpejgpfaikaaaGreatDoorPnAL
import Derived.Deep.CutRange
import Derived.Test.YthhpejgpfaikaaaGreatDoorPnAJ
import Derived.RegionTactic
import Derived.ChangeAlike
import Derived.Test.YthhpejgpfaikaaaGreatDoorPnAO
namespace Go.Proofs.YthhpejgpfaikaaaGreatDoor
open Go.RowKit

theorem dec_empty {x : ByteArray} (h : (x.toList == []) = true) : Ms.dec x = false := by
  unfold Ms.dec
  rw [show (Ms.tx x == []) = true by rw [Ms.tx, ← Lib.toList_data]; exact h]
  rfl

set_option maxHeartbeats 2000000 in
theorem rdec14 (p : ByteArray) (r : Bool) (hr : Ms.dec p = r) (w : World) (hp : p.size ≤ 140737488355328) :
    Calls Tryz.prog 89 #[.string p] w fun e w' => e = .returned (.bool r) ∧ w' = w := by
  cases s1 : (p.toList == [])
  · have h0 : 0 < p.size := by
      rcases Nat.eq_zero_or_pos p.size with h | h
      · have h9 : p.data.toList = [] := List.eq_nil_of_length_eq_zero (by rw [← Lib.size_eq]; omega)
        rw [Lib.toList_data, h9] at s1
        simp at s1
      · exact h
    unfold Ms.dec at hr
    rw [show (Ms.tx p == []) = false by rw [Ms.tx, ← Lib.toList_data]; exact s1, show (some 48 : Option UInt8) = some (UInt8.ofNat 48) from rfl, head_at h0 48 (by decide)] at hr
    by_cases h1 : 15 < p.size
    · have h1' : (15 : Int) < (p.size : Int) := by omega
      rw [decide_eq_false (show ¬ p.size ≤ 15 by omega)] at hr
      have HF : Hid (r = false) := hid' (by rw [← hr]; rfl)
      clear hr
      go_enter Tryz.func89, Tryz.ntmps89
      go_wp2
      go_ret
      exact ⟨by rw [HF.out]; rfl, rfl⟩
    have h1' : ¬ (15 : Int) < (p.size : Int) := by omega
    rw [decide_eq_true (show p.size ≤ 15 by omega)] at hr
    have hwalk : (((p[0].toNat : Int) == 48) && decide (1 < p.size)) = false → (p.data.toList.all fun c => decide (48 ≤ c.toNat) && decide (c.toNat ≤ 57)) = r := by
      intro h2
      have h3 : (((p[0].toNat : Int) == ((48 : Nat) : Int)) && decide (1 < p.size)) = false := h2
      rw [← hr, h3]
      rfl
    have HW := hid' hwalk
    clear hwalk
    by_cases h4 : (((p[0].toNat : Int) == 48) && decide (1 < p.size)) = true
    · have HF : Hid (r = false) := hid' (by
        have h3 : (((p[0].toNat : Int) == ((48 : Nat) : Int)) && decide (1 < p.size)) = true := h4
        rw [← hr, h3]; rfl)
      rw [Bool.and_eq_true] at h4
      obtain ⟨s2, h5⟩ := h4
      have h5' : (1 : Int) < (p.size : Int) := by have := of_decide_eq_true h5; omega
      clear hr h5
      go_enter Tryz.func89, Tryz.ntmps89
      go_wp2
      go_ret
      exact ⟨by rw [HF.out]; rfl, rfl⟩
    · have HR := hid' (HW.out (by simpa using h4))
      obtain ⟨L, hL⟩ : ∃ L, p.data.toList = L := ⟨_, rfl⟩
      have HL := hid' hL
      have HSZ : Hid (L.length = p.size) := hid' (by rw [← hL, ← Lib.size_eq])
      rw [hL] at HR
      have h6 : ((p[0].toNat : Int) == 48) = false ∨ (((p[0].toNat : Int) == 48) = true ∧ ¬ (1 : Int) < (p.size : Int)) := by
        cases s2 : ((p[0].toNat : Int) == 48)
        · exact .inl rfl
        · refine .inr ⟨rfl, fun h => h4 ?_⟩
          rw [s2, decide_eq_true (by omega)]
          rfl
      clear hr h4 hL HW
      have key : ∀ (W : World), Calls Tryz.prog 89 #[.string p] W fun e w' => e = .returned (.bool r) ∧ w' = W := by
        intro w
        rcases h6 with s2 | ⟨s2, s3⟩
        all_goals
          go_enter Tryz.func89, Tryz.ntmps89
          go_wp2
          go_loopw [3] (fun s5 wr => ∃ k : Nat, s5 = .int .i64 (k : Int) ∧ k ≤ p.size ∧ wr = w ∧ Hid (r = (L.drop k).all fun c => decide (48 ≤ c.toNat) && decide (c.toNat ≤ 57))) (fun s5 _ => p.size - (intOf s5).toNat)
          case atStart => exact ⟨0, rfl, Nat.zero_le _, rfl, hid' HR.out.symm⟩
          case round =>
            obtain ⟨k, rfl, hk, hwr, HK⟩ := hrel
            subst wr
            by_cases hlt : k < p.size
            · have hlt2 : (k : Int) < (p.size : Int) := by omega
              have hck : L[k]? = some p[k] := by rw [← HL.out, List.getElem?_eq_getElem (by rw [← Lib.size_eq]; exact hlt)]; rfl
              have HB2 : Hid (r = ((decide (48 ≤ p[k].toNat) && decide (p[k].toNat ≤ 57)) && (L.drop (k + 1)).all fun c => decide (48 ≤ c.toNat) && decide (c.toNat ≤ 57))) := hid' (by rw [HK.out, drop1 L k _ hck, List.all_cons])
              clear hck HK
              by_cases d1 : p[k].toNat < 48
              · have HF : Hid (r = false) := hid' (by rw [HB2.out, decide_eq_false (by omega)]; rfl)
                have d1' : (p[k].toNat : Int) < 48 := by omega
                go_wp2
                go_ret
                exact ⟨by rw [HF.out]; rfl, rfl⟩
              have d1' : ¬ (p[k].toNat : Int) < 48 := by omega
              by_cases d2 : 57 < p[k].toNat
              · have HF : Hid (r = false) := hid' (by rw [HB2.out, decide_eq_false (show ¬ p[k].toNat ≤ 57 by omega)]; simp)
                have d2' : (57 : Int) < (p[k].toNat : Int) := by omega
                clear d1
                go_wp2
                go_ret
                exact ⟨by rw [HF.out]; rfl, rfl⟩
              have d2' : ¬ (57 : Int) < (p[k].toNat : Int) := by omega
              have HN : Hid (r = (L.drop (k + 1)).all fun c => decide (48 ≤ c.toNat) && decide (c.toNat ≤ 57)) := hid' (by rw [HB2.out, decide_eq_true (show 48 ≤ p[k].toNat by omega), decide_eq_true (show p[k].toNat ≤ 57 by omega)]; rfl)
              clear d1 d2
              go_wp2
              go_roundw
              case rel => exact ⟨k + 1, by go_num, by omega, by first | rfl | trivial, HN⟩
              case measure => simp [intOf]; omega
            · obtain rfl : k = p.size := by omega
              have hlt2 : ¬ (p.size : Int) < (p.size : Int) := by omega
              have HF : Hid (r = true) := hid' (by rw [HK.out, List.drop_of_length_le (by rw [HSZ.out]; exact Nat.le_refl _)]; rfl)
              go_wp2
              go_ret
              exact ⟨by rw [HF.out]; rfl, rfl⟩
      exact key w
  · have HF : Hid (r = false) := hid' (by rw [← hr]; exact dec_empty s1)
    clear hr
    go_enter Tryz.func89, Tryz.ntmps89
    go_wp2
    go_ret
    exact ⟨by rw [HF.out]; rfl, rfl⟩

end Go.Proofs.YthhpejgpfaikaaaGreatDoor

namespace Go.Proofs.YthhpejgpfaikaaaGreatDoor
open Go.RowKit

set_option maxHeartbeats 4000000 in
set_option maxRecDepth 20000 in
theorem rplain14 (f : Fd) (r : Bool) (hr : Ms.plain f = r) (w : World) (hn : f.n.size ≤ 140737488355328) (hv : f.v.size ≤ 140737488355328) :
    Calls Tryz.prog 73 #[.agg #[.string f.n, .string f.v]] w fun e w' => e = .returned (.bool r) ∧ Below w.heap.size w w' := by
  obtain ⟨y, hy⟩ : ∃ y : ByteArray, (⟨(Tx.lower f.n.data.toList).toArray⟩ : ByteArray) = y := ⟨_, rfl⟩
  obtain ⟨t1, h1⟩ : ∃ t1, Tx.isTok f.n.data.toList = t1 := ⟨_, rfl⟩
  obtain ⟨t2, h2⟩ : ∃ t2, (y.toList == f.n.toList) = t2 := ⟨_, rfl⟩
  obtain ⟨t3, h3⟩ : ∃ t3, Tx.isVal f.v.data.toList = t3 := ⟨_, rfl⟩
  obtain ⟨t4, h4⟩ : ∃ t4, Ms.bnd f.n = t4 := ⟨_, rfl⟩
  have HT : Hid (∀ W, Calls Tryz.prog 34 #[.string f.n] W fun e w' => e = .returned (.bool t1) ∧ w' = W) := hid' (fun W => by have := rToken_any f.n W (by unfold maxLen; omega); rwa [h1] at this)
  have HLo : Hid (∀ W, Calls Tryz.prog 36 #[.string f.n] W fun e w' => e = .returned (.string y) ∧ Below W.heap.size W w') := hid' (fun W => by have := rLower_any f.n W (by unfold maxLen; omega); rwa [hy] at this)
  have HV : Hid (∀ W, Calls Tryz.prog 35 #[.string f.v] W fun e w' => e = .returned (.bool t3) ∧ w' = W) := hid' (fun W => by have := rValue_any f.v W (by unfold maxLen; omega); rwa [h3] at this)
  have HBd : Hid (∀ W, Calls Tryz.prog 93 #[.string f.n] W fun e w' => e = .returned (.bool t4) ∧ Below W.heap.size W w') := hid' (fun W => rbnd14 f.n t4 h4 W hn)
  have HR : Hid ((t1 && t2 && t3 && !t4) = r) := hid' (by
    rw [← hr, ← h1, ← h2, ← h3, ← h4, ← hy, ba_list, Lib.toList_data]
    rfl)
  clear hr h1 h3 h4 hy
  cases t1
  · have HF : Hid (r = false) := hid' (by rw [← HR.out]; rfl)
    clear HR
    go_enter Tryz.func73, Tryz.ntmps73
    go_upto_region 1 with fail
    have HA1 : Hid (Ar (w.alloc (.cells #[.string f.n, .string f.v] 47)) w.heap.size 47 #[.string f.n, .string f.v]) := hid' (heap_alloc_last w _)
    have HB1 : Hid (Below w.heap.size w (w.alloc (.cells #[.string f.n, .string f.v] 47))) := hid' ((Below.refl _ _).alloc (Nat.le_refl _) _)
    obtain ⟨xb, hxb⟩ : ∃ xb, w.heap.size = xb := ⟨_, rfl⟩
    rw [hxb] at HA1 ⊢
    generalize w.alloc (.cells #[.string f.n, .string f.v] 47) = w1 at *
    have q0 : ∀ z : BW w1, z.W.cell? ⟨xb, 0, none⟩ = some (.string f.n) := fun z => (HA1.out.keep z.h).cell 0 _ rfl
    have q1 : ∀ z : BW w1, z.W.cell? ⟨xb, 1, none⟩ = some (.string f.v) := fun z => (HA1.out.keep z.h).cell 1 _ rfl
    have hne : Nonempty (BW w1) := ⟨⟨w1, Below.refl _ _⟩⟩
    refine wp_region_below_s (by kernel_rfl) (by kernel_rfl) ?_
    repeat (refine QS.step (fun K hK => ?_); go_simp; first | (refine hK _ ?_; clear hK K) | (apply Exists.intro; refine ⟨fun _ => ?_, hK _ ?_⟩; (first | (go_at_call 34; exact Calls.below_same (HT.out _)) | (go_at_call 36; exact Calls.below_of (HLo.out _)) | (go_at_call 35; exact Calls.below_same (HV.out _)) | (go_at_call 93; exact Calls.below_of (HBd.out _))); clear hK K))
    refine QS.nil ?_
    rintro _ ⟨⟨wq, hBq⟩, rfl⟩
    have HBq := hid' hBq
    clear hBq q0 q1
    go_wp2
    go_ret
    exact ⟨by rw [HF.out]; rfl, below_two HB1.out HBq.out⟩
  cases t2
  · have HF : Hid (r = false) := hid' (by rw [← HR.out]; rfl)
    clear HR
    go_enter Tryz.func73, Tryz.ntmps73
    go_upto_region 1 with fail
    have HA1 : Hid (Ar (w.alloc (.cells #[.string f.n, .string f.v] 47)) w.heap.size 47 #[.string f.n, .string f.v]) := hid' (heap_alloc_last w _)
    have HB1 : Hid (Below w.heap.size w (w.alloc (.cells #[.string f.n, .string f.v] 47))) := hid' ((Below.refl _ _).alloc (Nat.le_refl _) _)
    obtain ⟨xb, hxb⟩ : ∃ xb, w.heap.size = xb := ⟨_, rfl⟩
    rw [hxb] at HA1 ⊢
    generalize w.alloc (.cells #[.string f.n, .string f.v] 47) = w1 at *
    have q0 : ∀ z : BW w1, z.W.cell? ⟨xb, 0, none⟩ = some (.string f.n) := fun z => (HA1.out.keep z.h).cell 0 _ rfl
    have q1 : ∀ z : BW w1, z.W.cell? ⟨xb, 1, none⟩ = some (.string f.v) := fun z => (HA1.out.keep z.h).cell 1 _ rfl
    have hne : Nonempty (BW w1) := ⟨⟨w1, Below.refl _ _⟩⟩
    refine wp_region_below_s (by kernel_rfl) (by kernel_rfl) ?_
    repeat (refine QS.step (fun K hK => ?_); go_simp; first | (refine hK _ ?_; clear hK K) | (apply Exists.intro; refine ⟨fun _ => ?_, hK _ ?_⟩; (first | (go_at_call 34; exact Calls.below_same (HT.out _)) | (go_at_call 36; exact Calls.below_of (HLo.out _)) | (go_at_call 35; exact Calls.below_same (HV.out _)) | (go_at_call 93; exact Calls.below_of (HBd.out _))); clear hK K))
    refine QS.nil ?_
    rintro _ ⟨⟨wq, hBq⟩, rfl⟩
    have HBq := hid' hBq
    clear hBq q0 q1
    go_wp2
    go_ret
    exact ⟨by rw [HF.out]; rfl, below_two HB1.out HBq.out⟩
  cases t3
  · have HF : Hid (r = false) := hid' (by rw [← HR.out]; rfl)
    clear HR
    go_enter Tryz.func73, Tryz.ntmps73
    go_upto_region 1 with fail
    have HA1 : Hid (Ar (w.alloc (.cells #[.string f.n, .string f.v] 47)) w.heap.size 47 #[.string f.n, .string f.v]) := hid' (heap_alloc_last w _)
    have HB1 : Hid (Below w.heap.size w (w.alloc (.cells #[.string f.n, .string f.v] 47))) := hid' ((Below.refl _ _).alloc (Nat.le_refl _) _)
    obtain ⟨xb, hxb⟩ : ∃ xb, w.heap.size = xb := ⟨_, rfl⟩
    rw [hxb] at HA1 ⊢
    generalize w.alloc (.cells #[.string f.n, .string f.v] 47) = w1 at *
    have q0 : ∀ z : BW w1, z.W.cell? ⟨xb, 0, none⟩ = some (.string f.n) := fun z => (HA1.out.keep z.h).cell 0 _ rfl
    have q1 : ∀ z : BW w1, z.W.cell? ⟨xb, 1, none⟩ = some (.string f.v) := fun z => (HA1.out.keep z.h).cell 1 _ rfl
    have hne : Nonempty (BW w1) := ⟨⟨w1, Below.refl _ _⟩⟩
    refine wp_region_below_s (by kernel_rfl) (by kernel_rfl) ?_
    repeat (refine QS.step (fun K hK => ?_); go_simp; first | (refine hK _ ?_; clear hK K) | (apply Exists.intro; refine ⟨fun _ => ?_, hK _ ?_⟩; (first | (go_at_call 34; exact Calls.below_same (HT.out _)) | (go_at_call 36; exact Calls.below_of (HLo.out _)) | (go_at_call 35; exact Calls.below_same (HV.out _)) | (go_at_call 93; exact Calls.below_of (HBd.out _))); clear hK K))
    refine QS.nil ?_
    rintro _ ⟨⟨wq, hBq⟩, rfl⟩
    have HBq := hid' hBq
    clear hBq q0 q1
    go_wp2
    go_ret
    exact ⟨by rw [HF.out]; rfl, below_two HB1.out HBq.out⟩
  cases t4
  · have HF : Hid (r = true) := hid' (by rw [← HR.out]; rfl)
    clear HR
    go_enter Tryz.func73, Tryz.ntmps73
    go_upto_region 1 with fail
    have HA1 : Hid (Ar (w.alloc (.cells #[.string f.n, .string f.v] 47)) w.heap.size 47 #[.string f.n, .string f.v]) := hid' (heap_alloc_last w _)
    have HB1 : Hid (Below w.heap.size w (w.alloc (.cells #[.string f.n, .string f.v] 47))) := hid' ((Below.refl _ _).alloc (Nat.le_refl _) _)
    obtain ⟨xb, hxb⟩ : ∃ xb, w.heap.size = xb := ⟨_, rfl⟩
    rw [hxb] at HA1 ⊢
    generalize w.alloc (.cells #[.string f.n, .string f.v] 47) = w1 at *
    have q0 : ∀ z : BW w1, z.W.cell? ⟨xb, 0, none⟩ = some (.string f.n) := fun z => (HA1.out.keep z.h).cell 0 _ rfl
    have q1 : ∀ z : BW w1, z.W.cell? ⟨xb, 1, none⟩ = some (.string f.v) := fun z => (HA1.out.keep z.h).cell 1 _ rfl
    have hne : Nonempty (BW w1) := ⟨⟨w1, Below.refl _ _⟩⟩
    refine wp_region_below_s (by kernel_rfl) (by kernel_rfl) ?_
    repeat (refine QS.step (fun K hK => ?_); go_simp; first | (refine hK _ ?_; clear hK K) | (apply Exists.intro; refine ⟨fun _ => ?_, hK _ ?_⟩; (first | (go_at_call 34; exact Calls.below_same (HT.out _)) | (go_at_call 36; exact Calls.below_of (HLo.out _)) | (go_at_call 35; exact Calls.below_same (HV.out _)) | (go_at_call 93; exact Calls.below_of (HBd.out _))); clear hK K))
    refine QS.nil ?_
    rintro _ ⟨⟨wq, hBq⟩, rfl⟩
    have HBq := hid' hBq
    clear hBq q0 q1
    go_wp2
    go_ret
    exact ⟨by rw [HF.out]; rfl, below_two HB1.out HBq.out⟩
  · have HF : Hid (r = false) := hid' (by rw [← HR.out]; rfl)
    clear HR
    go_enter Tryz.func73, Tryz.ntmps73
    go_upto_region 1 with fail
    have HA1 : Hid (Ar (w.alloc (.cells #[.string f.n, .string f.v] 47)) w.heap.size 47 #[.string f.n, .string f.v]) := hid' (heap_alloc_last w _)
    have HB1 : Hid (Below w.heap.size w (w.alloc (.cells #[.string f.n, .string f.v] 47))) := hid' ((Below.refl _ _).alloc (Nat.le_refl _) _)
    obtain ⟨xb, hxb⟩ : ∃ xb, w.heap.size = xb := ⟨_, rfl⟩
    rw [hxb] at HA1 ⊢
    generalize w.alloc (.cells #[.string f.n, .string f.v] 47) = w1 at *
    have q0 : ∀ z : BW w1, z.W.cell? ⟨xb, 0, none⟩ = some (.string f.n) := fun z => (HA1.out.keep z.h).cell 0 _ rfl
    have q1 : ∀ z : BW w1, z.W.cell? ⟨xb, 1, none⟩ = some (.string f.v) := fun z => (HA1.out.keep z.h).cell 1 _ rfl
    have hne : Nonempty (BW w1) := ⟨⟨w1, Below.refl _ _⟩⟩
    refine wp_region_below_s (by kernel_rfl) (by kernel_rfl) ?_
    repeat (refine QS.step (fun K hK => ?_); go_simp; first | (refine hK _ ?_; clear hK K) | (apply Exists.intro; refine ⟨fun _ => ?_, hK _ ?_⟩; (first | (go_at_call 34; exact Calls.below_same (HT.out _)) | (go_at_call 36; exact Calls.below_of (HLo.out _)) | (go_at_call 35; exact Calls.below_same (HV.out _)) | (go_at_call 93; exact Calls.below_of (HBd.out _))); clear hK K))
    refine QS.nil ?_
    rintro _ ⟨⟨wq, hBq⟩, rfl⟩
    have HBq := hid' hBq
    clear hBq q0 q1
    go_wp2
    go_ret
    exact ⟨by rw [HF.out]; rfl, below_two HB1.out HBq.out⟩

end Go.Proofs.YthhpejgpfaikaaaGreatDoor

namespace Go.Proofs.YthhpejgpfaikaaaGreatDoor
open Go.RowKit

section
variable {P : Program} {w : World}
/-- An append to a row of one's own in a region that draws, with where the new row lies. -/
theorem step_app14 {ops : Array Oper} {o : Oper} {a : Act} {K : Act → World → Prop} {Q : Exit → Act → World → Prop} {E : Prop} (hgd : o.guard = none) (s x : Operand) (t : TypeId)
    (ho : o.op = .call { callee := .builtin .append, args := #[s, x], argTypes := #[t, t] })
    (base : Nat) (e : TypeId) (i : TypeInfo) (z : Value) (size bytes : Nat) (ht : P.underlying t = some (.slice e)) (hi : P.info? e = some i) (hz : i.zero = some z)
    (hsize : i.size = size) (hby : i.bytes = bytes) (hzs : z.cells.size = size) (hsz : 0 < size)
    (v : Value) (n : Nat) (xs : List Value) (hs : a.eval s = v) (hown : w.ownsRow base e size v n xs)
    (ad : Addr) (m c : Nat) (news : List Value) (hx : a.eval x = .slice (some ad) m c) (hl : news.length = m * size) (hnews : ∀ j u, news[j]? = some u → w.cell? (ad.add j) = some u) (h1 : ∀ u ∈ news, u.oneCell' = true)
    (h63 : n + m ≤ maxLen) (hbytes : (n + m) * bytes ≤ 140737488355328) (hbase : base ≤ w.heap.size)
    (h : ∀ v' w', w'.ownsRow base e size v' (n + m) (xs ++ news) → w.grownBy w' v.ownBlock → (v'.ownBlock = v.ownBlock ∨ v'.ownBlock = some w.heap.size) → K (a.put o.dst v') w') :
    if Region.wanted o (yielded ops a.tmps) = true then Oper.wp P o a w K Q else E := by
  have hw : Region.wanted o (yielded ops a.tmps) = true := by simp [Region.wanted, hgd]
  rw [if_pos hw]
  obtain ⟨v', w', hr, h2, h3, _, h5⟩ := run_append_own_at (P := P) w base t o.type e i z size bytes ht hi hz hsize hby hzs hsz v n xs hown ad m c news hl hnews h1 h63 hbytes hbase
  unfold Oper.wp execOp
  simp only [ho, resolve, invoke, builtin, Sem.run_bind, Sem.run_pure, Result.andThen_ok, List.map_toArray, List.map_cons, List.map_nil, hs, hx, hr]
  exact h v' w' h2 h3 h5

end

end Go.Proofs.YthhpejgpfaikaaaGreatDoor
