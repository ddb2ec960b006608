/-
  The document's begins, split: by their contracts.
-/
import Derived.Test.YtkfekopenahmdaaGreatDoorMsDI
namespace Go.Proofs.YtkfekopenahmdaaGreatDoor
open Go.RowKit


set_option maxHeartbeats 1000000 in
theorem rbeg14 (x h : ByteArray) (r : Bool) (hr : Ms.beg x h = r) (w : World) :
    Calls Tryz.prog 56 #[.string x, .string h] w fun e w' => e = .returned (.bool r) ∧ w' = w := by
  unfold Ms.beg at hr
  by_cases h1 : h.size ≤ x.size
  · have h1' : (h.size : Int) ≤ (x.size : Int) := by omega
    rw [decide_eq_true h1, Bool.true_and] at hr
    obtain ⟨y, hy⟩ : ∃ y, x.extract 0 h.size = y := ⟨_, rfl⟩
    rw [hy] at hr
    cases r
    · go_enter Tryz.func56, Tryz.ntmps56
      go_wp2
      go_ret
      exact ⟨rfl, rfl⟩
    · go_enter Tryz.func56, Tryz.ntmps56
      go_wp2
      go_ret
      exact ⟨rfl, rfl⟩
  · have h1' : ¬ (h.size : Int) ≤ (x.size : Int) := by omega
    rw [decide_eq_false h1, Bool.false_and] at hr
    subst hr
    go_enter Tryz.func56, Tryz.ntmps56
    go_wp2
    go_ret
    exact ⟨rfl, rfl⟩

/-- What a target in absolute form is cut to. -/
def absV (m sch rest : ByteArray) : Value :=
  .tuple #[.string sch, .string (rest.extract 0 (Ms.stop rest.data.toList)), .string (Ms.head47 (rest.extract (Ms.stop rest.data.toList) rest.size)), .bool (decide (0 < Ms.stop rest.data.toList) && Ms.goes m (Ms.head47 (rest.extract (Ms.stop rest.data.toList) rest.size)))]
theorem head47_size (p : ByteArray) : (Ms.head47 p).size ≤ p.size + 1 := by
  unfold Ms.head47
  split
  · omega
  · have h1 : (⟨#[47]⟩ : ByteArray).size = 1 := rfl
    rw [ByteArray.size_append]
    omega
theorem ext_size (x : ByteArray) (i j : Nat) : (x.extract i j).size ≤ x.size := by rw [ByteArray.size_extract]; omega

set_option maxHeartbeats 4000000 in
set_option maxRecDepth 20000 in
theorem rsplit_none (m t : ByteArray) (h1 : Ms.beg t Ms.bHttp3 = false) (h2 : Ms.beg t Ms.bHttps3 = false) (r : Bool) (hr : Ms.goes m t = r) (w : World) (ht : t.size ≤ 140737488355328) :
    Calls Tryz.prog 31 #[.string m, .string t] w fun e w' => e = .returned (.tuple #[.string ⟨#[]⟩, .string ⟨#[]⟩, .string t, .bool r]) ∧ w' = w := by
  have H1 := hid' (rbeg14 t Ms.bHttp3 false h1 w)
  have H2 := hid' (rbeg14 t Ms.bHttps3 false h2 w)
  have H3 := hid' (rgoes14 m t r hr w ht)
  clear h1 h2 hr
  go_enter Tryz.func31, Tryz.ntmps31
  go_wp2_with fail
  refine H1.out.mono ?_
  rintro e w1 ⟨rfl, hw1⟩
  subst w1
  go_wp2_with fail
  refine H2.out.mono ?_
  rintro e w1 ⟨rfl, hw1⟩
  subst w1
  go_wp2_with fail
  refine H3.out.mono ?_
  rintro e w1 ⟨rfl, hw1⟩
  subst w1
  go_wp2
  exact bodyPost_ret (v := .tuple #[.string ⟨#[]⟩, .string ⟨#[]⟩, .string t, .bool r]) (by simp [results, Tryz.results31]) rfl ⟨rfl, rfl⟩

set_option maxHeartbeats 8000000 in
set_option maxRecDepth 20000 in
theorem rsplit_abs (m t sch : ByteArray) (hs : (sch = Ms.bHttps ∧ Ms.beg t Ms.bHttp3 = false ∧ Ms.beg t Ms.bHttps3 = true) ∨ (sch = Ms.bHttp ∧ Ms.beg t Ms.bHttp3 = true ∧ Ms.beg t Ms.bHttps3 = false)) (rest : ByteArray) (hrest : t.extract (sch.size + 3) t.size = rest) (w : World) (ht : t.size ≤ 140737488355326) :
    Calls Tryz.prog 31 #[.string m, .string t] w fun e w' => e = .returned (absV m sch rest) ∧ Below w.heap.size w w' := by
  have hlen : sch.size + 3 ≤ t.size := by
    rcases hs with ⟨rfl, _, h⟩ | ⟨rfl, h, _⟩
    · unfold Ms.beg at h
      rw [Bool.and_eq_true] at h
      have := of_decide_eq_true h.1
      exact this
    · unfold Ms.beg at h
      rw [Bool.and_eq_true] at h
      have := of_decide_eq_true h.1
      exact this
  have hrs : rest.size ≤ t.size := by rw [← hrest]; exact ext_size _ _ _
  obtain ⟨L, hL⟩ : ∃ L, rest.data.toList = L := ⟨_, rfl⟩
  have hLs : L.length = rest.size := by rw [← hL, ← Lib.size_eq]
  obtain ⟨K, hK⟩ : ∃ K, Ms.stop L = K := ⟨_, rfl⟩
  have hKl : K ≤ rest.size := by rw [← hK, ← hLs]; exact Ms.stop_le L
  obtain ⟨p0, hp0⟩ : ∃ p0, rest.extract K rest.size = p0 := ⟨_, rfl⟩
  obtain ⟨au, hau⟩ : ∃ au, rest.extract 0 K = au := ⟨_, rfl⟩
  obtain ⟨pa, hpa⟩ : ∃ pa, Ms.head47 p0 = pa := ⟨_, rfl⟩
  obtain ⟨g, hg⟩ : ∃ g, Ms.goes m pa = g := ⟨_, rfl⟩
  have HV : Hid (absV m sch rest = .tuple #[.string sch, .string au, .string pa, .bool (decide (0 < K) && g)]) := hid' (by unfold absV; rw [hL, hK, hp0, hau, hpa, hg])
  have hcs : p0.size ≤ 140737488355328 := by
    have h2 : p0.size ≤ rest.size := by rw [← hp0]; exact ext_size _ _ _
    omega
  have hcs2 : (1 : Int) + (p0.size : Int) ≤ 9223372036854775807 := by omega
  have hcs3 : 1 + p0.size ≤ 9223372036854775807 := by omega
  have hps : pa.size ≤ 140737488355328 := by
    have h1 := head47_size p0
    have h2 : p0.size ≤ rest.size := by rw [← hp0]; exact ext_size _ _ _
    rw [hpa] at h1
    omega
  have HG : Hid (∀ W, Calls Tryz.prog 57 #[.string m, .string pa] W fun e w' => e = .returned (.bool g) ∧ w' = W) := hid' (fun W => rgoes14 m pa g hg W hps)
  have HL := hid' hL
  have HLS := hid' hLs
  have HK := hid' hK
  have HPA := hid' hpa
  have h3 : ((sch.size : Int) + 3) ≤ (t.size : Int) := by omega
  clear hL hLs hK hpa hg
  rcases hs with ⟨hsch, hb1, hb2⟩ | ⟨hsch, hb1, hb2⟩
  · subst hsch
    have hr : t.extract 8 t.size = rest := hrest
    have hn : (8 : Int) ≤ (t.size : Int) := h3
    clear hrest hlen
    go_enter Tryz.func31, Tryz.ntmps31
    go_wp2_with fail
    refine (rbeg14 t Ms.bHttp3 false hb1 w).mono ?_
    rintro e w1 ⟨rfl, hw1⟩
    subst w1
    go_wp2_with fail
    refine (rbeg14 t Ms.bHttps3 true hb2 w).mono ?_
    rintro e w1 ⟨rfl, hw1⟩
    subst w1
    go_wp2
    go_loopw [10] (fun s10 wr => ∃ i : Nat, s10 = .int .i64 (i : Int) ∧ i ≤ K ∧ wr = w) (fun s10 _ => K - (intOf s10).toNat)
    case atStart => exact ⟨0, rfl, Nat.zero_le _, rfl⟩
    case round =>
      obtain ⟨i, rfl, hi, hwr⟩ := hrel
      subst wr
      by_cases hlt : i < K
      · have hir : i < rest.size := by omega
        have hir2 : (i : Int) < (rest.size : Int) := by omega
        have hck : L[i]? = some rest[i] := by rw [← HL.out, List.getElem?_eq_getElem (by rw [← Lib.size_eq]; exact hir)]; rfl
        have hgo := Ms.stop_lt (by rw [HK.out]; exact hlt) hck
        unfold Ms.goOn at hgo
        rw [show (rest[i] == 47) = ((rest[i].toNat : Int) == 47) from u8_is (n := 47) (by decide), show (rest[i] == 63) = ((rest[i].toNat : Int) == 63) from u8_is (n := 63) (by decide), Bool.and_eq_true, Bool.not_eq_true', Bool.not_eq_true'] at hgo
        obtain ⟨g1, g2⟩ := hgo
        have g3 : ((rest[i].toNat : Int) != 47) = true := by unfold bne; rw [g1]; rfl
        have g4 : ((rest[i].toNat : Int) != 63) = true := by unfold bne; rw [g2]; rfl
        have g5 : ¬ (rest[i].toNat : Int) = 47 := by simpa using g1
        have g6 : ¬ (rest[i].toNat : Int) = 63 := by simpa using g2
        clear hck
        go_wp2
        go_roundw
        case rel => exact ⟨i + 1, by go_num, by omega, by first | rfl | trivial⟩
        case measure => simp [intOf]; omega
      · obtain rfl : i = K := by omega
        have hiL : (i : Int) ≤ (rest.size : Int) := by omega
        clear hlt hi
        have hend : ∀ (Q : Prop), ((¬ (i : Int) < (rest.size : Int)) → Q) → (∀ (hir : i < rest.size), ((rest[i].toNat : Int) == 47) = true → Q) → (∀ (hir : i < rest.size), ((rest[i].toNat : Int) == 47) = false → ((rest[i].toNat : Int) == 63) = true → Q) → Q := by
          intro Q q1 q2 q3
          by_cases hir : i < rest.size
          · have hck : L[i]? = some rest[i] := by rw [← HL.out, List.getElem?_eq_getElem (by rw [← Lib.size_eq]; exact hir)]; rfl
            have hgo := Ms.stop_at (L := L) (c := rest[i]) (by rw [HK.out]; exact hck)
            unfold Ms.goOn at hgo
            rw [show (rest[i] == 47) = ((rest[i].toNat : Int) == 47) from u8_is (n := 47) (by decide), show (rest[i] == 63) = ((rest[i].toNat : Int) == 63) from u8_is (n := 63) (by decide)] at hgo
            cases g1 : ((rest[i].toNat : Int) == 47)
            · cases g2 : ((rest[i].toNat : Int) == 63)
              · rw [g1, g2] at hgo; cases hgo
              · exact q3 hir g1 g2
            · exact q2 hir g1
          · exact q1 (by omega)
        by_cases kz : i = 0
        · subst kz
          have hae : ByteArray.empty = au := by
            rw [← hau]
            apply ByteArray.ext
            rw [ByteArray.data_extract]
            simp
          apply hend
          · intro g0
            clear hend
            cases e1 : (p0.toList == [])
            · have hp1 : 0 < p0.size := by
                rcases Nat.eq_zero_or_pos p0.size with h | h
                · have h9 : p0.data.toList = [] := List.eq_nil_of_length_eq_zero (by rw [← Lib.size_eq]; omega)
                  rw [Lib.toList_data, h9] at e1
                  simp at e1
                · exact h
              have hq : (((Ms.tx p0).head? == some 47) = ((p0[0].toNat : Int) == ((47 : Nat) : Int))) := head_at hp1 47 (by decide)
              cases e2 : ((p0[0].toNat : Int) == 47)
              · have e3 : ((p0[0].toNat : Int) == ((47 : Nat) : Int)) = false := e2
                have hpa : ⟨#[47]⟩ ++ p0 = pa := by have := HPA.out; unfold Ms.head47 at this; rw [hq, e3, Bool.and_false] at this; exact this
                clear hq e3
                go_upto_region 15 with fail
                have hne : Nonempty (BW w) := ⟨⟨w, Below.refl _ _⟩⟩
                refine wp_region_below_s (by kernel_rfl) (by kernel_rfl) ?_
                repeat (refine QS.step (fun K hK => ?_); go_simp; first | (refine hK _ ?_; clear hK K) | (apply Exists.intro; refine ⟨fun _ => ?_, hK _ ?_⟩; (go_at_call 57; exact Calls.below_same (HG.out _)); clear hK K))
                refine QS.nil ?_
                rintro wq ⟨⟨wq', hBq⟩, hwq⟩
                obtain rfl : wq = wq' := hwq
                have HBq := hid' hBq
                clear hBq
                go_wp2
                exact bodyPost_ret (v := .tuple #[.string Ms.bHttps, .string au, .string pa, .bool (false)]) (by simp [results, Tryz.results31, Ms.bHttps]) rfl ⟨by rw [HV.out]; rfl, HBq.out⟩
              · have e3 : ((p0[0].toNat : Int) == ((47 : Nat) : Int)) = true := e2
                have hpa : p0 = pa := by have := HPA.out; unfold Ms.head47 at this; rw [hq, e3, decide_eq_true hp1] at this; exact this
                clear hq e3
                subst hpa
                go_upto_region 15 with fail
                have hne : Nonempty (BW w) := ⟨⟨w, Below.refl _ _⟩⟩
                refine wp_region_below_s (by kernel_rfl) (by kernel_rfl) ?_
                repeat (refine QS.step (fun K hK => ?_); go_simp; first | (refine hK _ ?_; clear hK K) | (apply Exists.intro; refine ⟨fun _ => ?_, hK _ ?_⟩; (go_at_call 57; exact Calls.below_same (HG.out _)); clear hK K))
                refine QS.nil ?_
                rintro wq ⟨⟨wq', hBq⟩, hwq⟩
                obtain rfl : wq = wq' := hwq
                have HBq := hid' hBq
                clear hBq
                go_wp2
                exact bodyPost_ret (v := .tuple #[.string Ms.bHttps, .string au, .string p0, .bool (false)]) (by simp [results, Tryz.results31, Ms.bHttps]) rfl ⟨by rw [HV.out]; rfl, HBq.out⟩
            · have hz : p0.size = 0 := by
                have h8 := beq_iff_eq.1 e1
                rw [Lib.toList_data] at h8
                rw [Lib.size_eq, h8]; rfl
              have hpa : ⟨#[47]⟩ ++ p0 = pa := by have := HPA.out; unfold Ms.head47 at this; rw [decide_eq_false (show ¬ 0 < p0.size by omega), Bool.false_and] at this; exact this
              clear hz
              go_upto_region 15 with fail
              have hne : Nonempty (BW w) := ⟨⟨w, Below.refl _ _⟩⟩
              refine wp_region_below_s (by kernel_rfl) (by kernel_rfl) ?_
              repeat (refine QS.step (fun K hK => ?_); go_simp; first | (refine hK _ ?_; clear hK K) | (apply Exists.intro; refine ⟨fun _ => ?_, hK _ ?_⟩; (go_at_call 57; exact Calls.below_same (HG.out _)); clear hK K))
              refine QS.nil ?_
              rintro wq ⟨⟨wq', hBq⟩, hwq⟩
              obtain rfl : wq = wq' := hwq
              have HBq := hid' hBq
              clear hBq
              go_wp2
              exact bodyPost_ret (v := .tuple #[.string Ms.bHttps, .string au, .string pa, .bool (false)]) (by simp [results, Tryz.results31, Ms.bHttps]) rfl ⟨by rw [HV.out]; rfl, HBq.out⟩
          · intro hir g1
            have g0 : (0 : Int) < (rest.size : Int) := by omega
            have g3 : ((rest[0].toNat : Int) != 47) = false := by unfold bne; rw [g1]; rfl
            have g5 : (rest[0].toNat : Int) = 47 := by simpa using g1
            clear hend
            cases e1 : (p0.toList == [])
            · have hp1 : 0 < p0.size := by
                rcases Nat.eq_zero_or_pos p0.size with h | h
                · have h9 : p0.data.toList = [] := List.eq_nil_of_length_eq_zero (by rw [← Lib.size_eq]; omega)
                  rw [Lib.toList_data, h9] at e1
                  simp at e1
                · exact h
              have hq : (((Ms.tx p0).head? == some 47) = ((p0[0].toNat : Int) == ((47 : Nat) : Int))) := head_at hp1 47 (by decide)
              cases e2 : ((p0[0].toNat : Int) == 47)
              · have e3 : ((p0[0].toNat : Int) == ((47 : Nat) : Int)) = false := e2
                have hpa : ⟨#[47]⟩ ++ p0 = pa := by have := HPA.out; unfold Ms.head47 at this; rw [hq, e3, Bool.and_false] at this; exact this
                clear hq e3
                go_upto_region 15 with fail
                have hne : Nonempty (BW w) := ⟨⟨w, Below.refl _ _⟩⟩
                refine wp_region_below_s (by kernel_rfl) (by kernel_rfl) ?_
                repeat (refine QS.step (fun K hK => ?_); go_simp; first | (refine hK _ ?_; clear hK K) | (apply Exists.intro; refine ⟨fun _ => ?_, hK _ ?_⟩; (go_at_call 57; exact Calls.below_same (HG.out _)); clear hK K))
                refine QS.nil ?_
                rintro wq ⟨⟨wq', hBq⟩, hwq⟩
                obtain rfl : wq = wq' := hwq
                have HBq := hid' hBq
                clear hBq
                go_wp2
                exact bodyPost_ret (v := .tuple #[.string Ms.bHttps, .string au, .string pa, .bool (false)]) (by simp [results, Tryz.results31, Ms.bHttps]) rfl ⟨by rw [HV.out]; rfl, HBq.out⟩
              · have e3 : ((p0[0].toNat : Int) == ((47 : Nat) : Int)) = true := e2
                have hpa : p0 = pa := by have := HPA.out; unfold Ms.head47 at this; rw [hq, e3, decide_eq_true hp1] at this; exact this
                clear hq e3
                subst hpa
                go_upto_region 15 with fail
                have hne : Nonempty (BW w) := ⟨⟨w, Below.refl _ _⟩⟩
                refine wp_region_below_s (by kernel_rfl) (by kernel_rfl) ?_
                repeat (refine QS.step (fun K hK => ?_); go_simp; first | (refine hK _ ?_; clear hK K) | (apply Exists.intro; refine ⟨fun _ => ?_, hK _ ?_⟩; (go_at_call 57; exact Calls.below_same (HG.out _)); clear hK K))
                refine QS.nil ?_
                rintro wq ⟨⟨wq', hBq⟩, hwq⟩
                obtain rfl : wq = wq' := hwq
                have HBq := hid' hBq
                clear hBq
                go_wp2
                exact bodyPost_ret (v := .tuple #[.string Ms.bHttps, .string au, .string p0, .bool (false)]) (by simp [results, Tryz.results31, Ms.bHttps]) rfl ⟨by rw [HV.out]; rfl, HBq.out⟩
            · have hz : p0.size = 0 := by
                have h8 := beq_iff_eq.1 e1
                rw [Lib.toList_data] at h8
                rw [Lib.size_eq, h8]; rfl
              have hpa : ⟨#[47]⟩ ++ p0 = pa := by have := HPA.out; unfold Ms.head47 at this; rw [decide_eq_false (show ¬ 0 < p0.size by omega), Bool.false_and] at this; exact this
              clear hz
              go_upto_region 15 with fail
              have hne : Nonempty (BW w) := ⟨⟨w, Below.refl _ _⟩⟩
              refine wp_region_below_s (by kernel_rfl) (by kernel_rfl) ?_
              repeat (refine QS.step (fun K hK => ?_); go_simp; first | (refine hK _ ?_; clear hK K) | (apply Exists.intro; refine ⟨fun _ => ?_, hK _ ?_⟩; (go_at_call 57; exact Calls.below_same (HG.out _)); clear hK K))
              refine QS.nil ?_
              rintro wq ⟨⟨wq', hBq⟩, hwq⟩
              obtain rfl : wq = wq' := hwq
              have HBq := hid' hBq
              clear hBq
              go_wp2
              exact bodyPost_ret (v := .tuple #[.string Ms.bHttps, .string au, .string pa, .bool (false)]) (by simp [results, Tryz.results31, Ms.bHttps]) rfl ⟨by rw [HV.out]; rfl, HBq.out⟩
          · intro hir g1 g2
            have g0 : (0 : Int) < (rest.size : Int) := by omega
            have g3 : ((rest[0].toNat : Int) != 47) = true := by unfold bne; rw [g1]; rfl
            have g4 : ((rest[0].toNat : Int) != 63) = false := by unfold bne; rw [g2]; rfl
            have g6 : (rest[0].toNat : Int) = 63 := by simpa using g2
            clear hend
            cases e1 : (p0.toList == [])
            · have hp1 : 0 < p0.size := by
                rcases Nat.eq_zero_or_pos p0.size with h | h
                · have h9 : p0.data.toList = [] := List.eq_nil_of_length_eq_zero (by rw [← Lib.size_eq]; omega)
                  rw [Lib.toList_data, h9] at e1
                  simp at e1
                · exact h
              have hq : (((Ms.tx p0).head? == some 47) = ((p0[0].toNat : Int) == ((47 : Nat) : Int))) := head_at hp1 47 (by decide)
              cases e2 : ((p0[0].toNat : Int) == 47)
              · have e3 : ((p0[0].toNat : Int) == ((47 : Nat) : Int)) = false := e2
                have hpa : ⟨#[47]⟩ ++ p0 = pa := by have := HPA.out; unfold Ms.head47 at this; rw [hq, e3, Bool.and_false] at this; exact this
                clear hq e3
                go_upto_region 15 with fail
                have hne : Nonempty (BW w) := ⟨⟨w, Below.refl _ _⟩⟩
                refine wp_region_below_s (by kernel_rfl) (by kernel_rfl) ?_
                repeat (refine QS.step (fun K hK => ?_); go_simp; first | (refine hK _ ?_; clear hK K) | (apply Exists.intro; refine ⟨fun _ => ?_, hK _ ?_⟩; (go_at_call 57; exact Calls.below_same (HG.out _)); clear hK K))
                refine QS.nil ?_
                rintro wq ⟨⟨wq', hBq⟩, hwq⟩
                obtain rfl : wq = wq' := hwq
                have HBq := hid' hBq
                clear hBq
                go_wp2
                exact bodyPost_ret (v := .tuple #[.string Ms.bHttps, .string au, .string pa, .bool (false)]) (by simp [results, Tryz.results31, Ms.bHttps]) rfl ⟨by rw [HV.out]; rfl, HBq.out⟩
              · have e3 : ((p0[0].toNat : Int) == ((47 : Nat) : Int)) = true := e2
                have hpa : p0 = pa := by have := HPA.out; unfold Ms.head47 at this; rw [hq, e3, decide_eq_true hp1] at this; exact this
                clear hq e3
                subst hpa
                go_upto_region 15 with fail
                have hne : Nonempty (BW w) := ⟨⟨w, Below.refl _ _⟩⟩
                refine wp_region_below_s (by kernel_rfl) (by kernel_rfl) ?_
                repeat (refine QS.step (fun K hK => ?_); go_simp; first | (refine hK _ ?_; clear hK K) | (apply Exists.intro; refine ⟨fun _ => ?_, hK _ ?_⟩; (go_at_call 57; exact Calls.below_same (HG.out _)); clear hK K))
                refine QS.nil ?_
                rintro wq ⟨⟨wq', hBq⟩, hwq⟩
                obtain rfl : wq = wq' := hwq
                have HBq := hid' hBq
                clear hBq
                go_wp2
                exact bodyPost_ret (v := .tuple #[.string Ms.bHttps, .string au, .string p0, .bool (false)]) (by simp [results, Tryz.results31, Ms.bHttps]) rfl ⟨by rw [HV.out]; rfl, HBq.out⟩
            · have hz : p0.size = 0 := by
                have h8 := beq_iff_eq.1 e1
                rw [Lib.toList_data] at h8
                rw [Lib.size_eq, h8]; rfl
              have hpa : ⟨#[47]⟩ ++ p0 = pa := by have := HPA.out; unfold Ms.head47 at this; rw [decide_eq_false (show ¬ 0 < p0.size by omega), Bool.false_and] at this; exact this
              clear hz
              go_upto_region 15 with fail
              have hne : Nonempty (BW w) := ⟨⟨w, Below.refl _ _⟩⟩
              refine wp_region_below_s (by kernel_rfl) (by kernel_rfl) ?_
              repeat (refine QS.step (fun K hK => ?_); go_simp; first | (refine hK _ ?_; clear hK K) | (apply Exists.intro; refine ⟨fun _ => ?_, hK _ ?_⟩; (go_at_call 57; exact Calls.below_same (HG.out _)); clear hK K))
              refine QS.nil ?_
              rintro wq ⟨⟨wq', hBq⟩, hwq⟩
              obtain rfl : wq = wq' := hwq
              have HBq := hid' hBq
              clear hBq
              go_wp2
              exact bodyPost_ret (v := .tuple #[.string Ms.bHttps, .string au, .string pa, .bool (false)]) (by simp [results, Tryz.results31, Ms.bHttps]) rfl ⟨by rw [HV.out]; rfl, HBq.out⟩
        · have kn : 0 < i := by omega
          have k1 : (0 : Int) < (i : Int) := by omega
          clear kz
          apply hend
          · intro g0
            clear hend
            cases e1 : (p0.toList == [])
            · have hp1 : 0 < p0.size := by
                rcases Nat.eq_zero_or_pos p0.size with h | h
                · have h9 : p0.data.toList = [] := List.eq_nil_of_length_eq_zero (by rw [← Lib.size_eq]; omega)
                  rw [Lib.toList_data, h9] at e1
                  simp at e1
                · exact h
              have hq : (((Ms.tx p0).head? == some 47) = ((p0[0].toNat : Int) == ((47 : Nat) : Int))) := head_at hp1 47 (by decide)
              cases e2 : ((p0[0].toNat : Int) == 47)
              · have e3 : ((p0[0].toNat : Int) == ((47 : Nat) : Int)) = false := e2
                have hpa : ⟨#[47]⟩ ++ p0 = pa := by have := HPA.out; unfold Ms.head47 at this; rw [hq, e3, Bool.and_false] at this; exact this
                clear hq e3
                go_upto_region 15 with fail
                have hne : Nonempty (BW w) := ⟨⟨w, Below.refl _ _⟩⟩
                refine wp_region_below_s (by kernel_rfl) (by kernel_rfl) ?_
                repeat (refine QS.step (fun K hK => ?_); go_simp; first | (refine hK _ ?_; clear hK K) | (apply Exists.intro; refine ⟨fun _ => ?_, hK _ ?_⟩; (go_at_call 57; exact Calls.below_same (HG.out _)); clear hK K))
                refine QS.nil ?_
                rintro wq ⟨⟨wq', hBq⟩, hwq⟩
                obtain rfl : wq = wq' := hwq
                have HBq := hid' hBq
                clear hBq
                go_wp2
                exact bodyPost_ret (v := .tuple #[.string Ms.bHttps, .string au, .string pa, .bool (g)]) (by simp [results, Tryz.results31, Ms.bHttps]) rfl ⟨by rw [HV.out]; rw [decide_eq_true kn, Bool.true_and], HBq.out⟩
              · have e3 : ((p0[0].toNat : Int) == ((47 : Nat) : Int)) = true := e2
                have hpa : p0 = pa := by have := HPA.out; unfold Ms.head47 at this; rw [hq, e3, decide_eq_true hp1] at this; exact this
                clear hq e3
                subst hpa
                go_upto_region 15 with fail
                have hne : Nonempty (BW w) := ⟨⟨w, Below.refl _ _⟩⟩
                refine wp_region_below_s (by kernel_rfl) (by kernel_rfl) ?_
                repeat (refine QS.step (fun K hK => ?_); go_simp; first | (refine hK _ ?_; clear hK K) | (apply Exists.intro; refine ⟨fun _ => ?_, hK _ ?_⟩; (go_at_call 57; exact Calls.below_same (HG.out _)); clear hK K))
                refine QS.nil ?_
                rintro wq ⟨⟨wq', hBq⟩, hwq⟩
                obtain rfl : wq = wq' := hwq
                have HBq := hid' hBq
                clear hBq
                go_wp2
                exact bodyPost_ret (v := .tuple #[.string Ms.bHttps, .string au, .string p0, .bool (g)]) (by simp [results, Tryz.results31, Ms.bHttps]) rfl ⟨by rw [HV.out]; rw [decide_eq_true kn, Bool.true_and], HBq.out⟩
            · have hz : p0.size = 0 := by
                have h8 := beq_iff_eq.1 e1
                rw [Lib.toList_data] at h8
                rw [Lib.size_eq, h8]; rfl
              have hpa : ⟨#[47]⟩ ++ p0 = pa := by have := HPA.out; unfold Ms.head47 at this; rw [decide_eq_false (show ¬ 0 < p0.size by omega), Bool.false_and] at this; exact this
              clear hz
              go_upto_region 15 with fail
              have hne : Nonempty (BW w) := ⟨⟨w, Below.refl _ _⟩⟩
              refine wp_region_below_s (by kernel_rfl) (by kernel_rfl) ?_
              repeat (refine QS.step (fun K hK => ?_); go_simp; first | (refine hK _ ?_; clear hK K) | (apply Exists.intro; refine ⟨fun _ => ?_, hK _ ?_⟩; (go_at_call 57; exact Calls.below_same (HG.out _)); clear hK K))
              refine QS.nil ?_
              rintro wq ⟨⟨wq', hBq⟩, hwq⟩
              obtain rfl : wq = wq' := hwq
              have HBq := hid' hBq
              clear hBq
              go_wp2
              exact bodyPost_ret (v := .tuple #[.string Ms.bHttps, .string au, .string pa, .bool (g)]) (by simp [results, Tryz.results31, Ms.bHttps]) rfl ⟨by rw [HV.out]; rw [decide_eq_true kn, Bool.true_and], HBq.out⟩
          · intro hir g1
            have g0 : (i : Int) < (rest.size : Int) := by omega
            have g3 : ((rest[i].toNat : Int) != 47) = false := by unfold bne; rw [g1]; rfl
            have g5 : (rest[i].toNat : Int) = 47 := by simpa using g1
            clear hend
            cases e1 : (p0.toList == [])
            · have hp1 : 0 < p0.size := by
                rcases Nat.eq_zero_or_pos p0.size with h | h
                · have h9 : p0.data.toList = [] := List.eq_nil_of_length_eq_zero (by rw [← Lib.size_eq]; omega)
                  rw [Lib.toList_data, h9] at e1
                  simp at e1
                · exact h
              have hq : (((Ms.tx p0).head? == some 47) = ((p0[0].toNat : Int) == ((47 : Nat) : Int))) := head_at hp1 47 (by decide)
              cases e2 : ((p0[0].toNat : Int) == 47)
              · have e3 : ((p0[0].toNat : Int) == ((47 : Nat) : Int)) = false := e2
                have hpa : ⟨#[47]⟩ ++ p0 = pa := by have := HPA.out; unfold Ms.head47 at this; rw [hq, e3, Bool.and_false] at this; exact this
                clear hq e3
                go_upto_region 15 with fail
                have hne : Nonempty (BW w) := ⟨⟨w, Below.refl _ _⟩⟩
                refine wp_region_below_s (by kernel_rfl) (by kernel_rfl) ?_
                repeat (refine QS.step (fun K hK => ?_); go_simp; first | (refine hK _ ?_; clear hK K) | (apply Exists.intro; refine ⟨fun _ => ?_, hK _ ?_⟩; (go_at_call 57; exact Calls.below_same (HG.out _)); clear hK K))
                refine QS.nil ?_
                rintro wq ⟨⟨wq', hBq⟩, hwq⟩
                obtain rfl : wq = wq' := hwq
                have HBq := hid' hBq
                clear hBq
                go_wp2
                exact bodyPost_ret (v := .tuple #[.string Ms.bHttps, .string au, .string pa, .bool (g)]) (by simp [results, Tryz.results31, Ms.bHttps]) rfl ⟨by rw [HV.out]; rw [decide_eq_true kn, Bool.true_and], HBq.out⟩
              · have e3 : ((p0[0].toNat : Int) == ((47 : Nat) : Int)) = true := e2
                have hpa : p0 = pa := by have := HPA.out; unfold Ms.head47 at this; rw [hq, e3, decide_eq_true hp1] at this; exact this
                clear hq e3
                subst hpa
                go_upto_region 15 with fail
                have hne : Nonempty (BW w) := ⟨⟨w, Below.refl _ _⟩⟩
                refine wp_region_below_s (by kernel_rfl) (by kernel_rfl) ?_
                repeat (refine QS.step (fun K hK => ?_); go_simp; first | (refine hK _ ?_; clear hK K) | (apply Exists.intro; refine ⟨fun _ => ?_, hK _ ?_⟩; (go_at_call 57; exact Calls.below_same (HG.out _)); clear hK K))
                refine QS.nil ?_
                rintro wq ⟨⟨wq', hBq⟩, hwq⟩
                obtain rfl : wq = wq' := hwq
                have HBq := hid' hBq
                clear hBq
                go_wp2
                exact bodyPost_ret (v := .tuple #[.string Ms.bHttps, .string au, .string p0, .bool (g)]) (by simp [results, Tryz.results31, Ms.bHttps]) rfl ⟨by rw [HV.out]; rw [decide_eq_true kn, Bool.true_and], HBq.out⟩
            · have hz : p0.size = 0 := by
                have h8 := beq_iff_eq.1 e1
                rw [Lib.toList_data] at h8
                rw [Lib.size_eq, h8]; rfl
              have hpa : ⟨#[47]⟩ ++ p0 = pa := by have := HPA.out; unfold Ms.head47 at this; rw [decide_eq_false (show ¬ 0 < p0.size by omega), Bool.false_and] at this; exact this
              clear hz
              go_upto_region 15 with fail
              have hne : Nonempty (BW w) := ⟨⟨w, Below.refl _ _⟩⟩
              refine wp_region_below_s (by kernel_rfl) (by kernel_rfl) ?_
              repeat (refine QS.step (fun K hK => ?_); go_simp; first | (refine hK _ ?_; clear hK K) | (apply Exists.intro; refine ⟨fun _ => ?_, hK _ ?_⟩; (go_at_call 57; exact Calls.below_same (HG.out _)); clear hK K))
              refine QS.nil ?_
              rintro wq ⟨⟨wq', hBq⟩, hwq⟩
              obtain rfl : wq = wq' := hwq
              have HBq := hid' hBq
              clear hBq
              go_wp2
              exact bodyPost_ret (v := .tuple #[.string Ms.bHttps, .string au, .string pa, .bool (g)]) (by simp [results, Tryz.results31, Ms.bHttps]) rfl ⟨by rw [HV.out]; rw [decide_eq_true kn, Bool.true_and], HBq.out⟩
          · intro hir g1 g2
            have g0 : (i : Int) < (rest.size : Int) := by omega
            have g3 : ((rest[i].toNat : Int) != 47) = true := by unfold bne; rw [g1]; rfl
            have g4 : ((rest[i].toNat : Int) != 63) = false := by unfold bne; rw [g2]; rfl
            have g6 : (rest[i].toNat : Int) = 63 := by simpa using g2
            clear hend
            cases e1 : (p0.toList == [])
            · have hp1 : 0 < p0.size := by
                rcases Nat.eq_zero_or_pos p0.size with h | h
                · have h9 : p0.data.toList = [] := List.eq_nil_of_length_eq_zero (by rw [← Lib.size_eq]; omega)
                  rw [Lib.toList_data, h9] at e1
                  simp at e1
                · exact h
              have hq : (((Ms.tx p0).head? == some 47) = ((p0[0].toNat : Int) == ((47 : Nat) : Int))) := head_at hp1 47 (by decide)
              cases e2 : ((p0[0].toNat : Int) == 47)
              · have e3 : ((p0[0].toNat : Int) == ((47 : Nat) : Int)) = false := e2
                have hpa : ⟨#[47]⟩ ++ p0 = pa := by have := HPA.out; unfold Ms.head47 at this; rw [hq, e3, Bool.and_false] at this; exact this
                clear hq e3
                go_upto_region 15 with fail
                have hne : Nonempty (BW w) := ⟨⟨w, Below.refl _ _⟩⟩
                refine wp_region_below_s (by kernel_rfl) (by kernel_rfl) ?_
                repeat (refine QS.step (fun K hK => ?_); go_simp; first | (refine hK _ ?_; clear hK K) | (apply Exists.intro; refine ⟨fun _ => ?_, hK _ ?_⟩; (go_at_call 57; exact Calls.below_same (HG.out _)); clear hK K))
                refine QS.nil ?_
                rintro wq ⟨⟨wq', hBq⟩, hwq⟩
                obtain rfl : wq = wq' := hwq
                have HBq := hid' hBq
                clear hBq
                go_wp2
                exact bodyPost_ret (v := .tuple #[.string Ms.bHttps, .string au, .string pa, .bool (g)]) (by simp [results, Tryz.results31, Ms.bHttps]) rfl ⟨by rw [HV.out]; rw [decide_eq_true kn, Bool.true_and], HBq.out⟩
              · have e3 : ((p0[0].toNat : Int) == ((47 : Nat) : Int)) = true := e2
                have hpa : p0 = pa := by have := HPA.out; unfold Ms.head47 at this; rw [hq, e3, decide_eq_true hp1] at this; exact this
                clear hq e3
                subst hpa
                go_upto_region 15 with fail
                have hne : Nonempty (BW w) := ⟨⟨w, Below.refl _ _⟩⟩
                refine wp_region_below_s (by kernel_rfl) (by kernel_rfl) ?_
                repeat (refine QS.step (fun K hK => ?_); go_simp; first | (refine hK _ ?_; clear hK K) | (apply Exists.intro; refine ⟨fun _ => ?_, hK _ ?_⟩; (go_at_call 57; exact Calls.below_same (HG.out _)); clear hK K))
                refine QS.nil ?_
                rintro wq ⟨⟨wq', hBq⟩, hwq⟩
                obtain rfl : wq = wq' := hwq
                have HBq := hid' hBq
                clear hBq
                go_wp2
                exact bodyPost_ret (v := .tuple #[.string Ms.bHttps, .string au, .string p0, .bool (g)]) (by simp [results, Tryz.results31, Ms.bHttps]) rfl ⟨by rw [HV.out]; rw [decide_eq_true kn, Bool.true_and], HBq.out⟩
            · have hz : p0.size = 0 := by
                have h8 := beq_iff_eq.1 e1
                rw [Lib.toList_data] at h8
                rw [Lib.size_eq, h8]; rfl
              have hpa : ⟨#[47]⟩ ++ p0 = pa := by have := HPA.out; unfold Ms.head47 at this; rw [decide_eq_false (show ¬ 0 < p0.size by omega), Bool.false_and] at this; exact this
              clear hz
              go_upto_region 15 with fail
              have hne : Nonempty (BW w) := ⟨⟨w, Below.refl _ _⟩⟩
              refine wp_region_below_s (by kernel_rfl) (by kernel_rfl) ?_
              repeat (refine QS.step (fun K hK => ?_); go_simp; first | (refine hK _ ?_; clear hK K) | (apply Exists.intro; refine ⟨fun _ => ?_, hK _ ?_⟩; (go_at_call 57; exact Calls.below_same (HG.out _)); clear hK K))
              refine QS.nil ?_
              rintro wq ⟨⟨wq', hBq⟩, hwq⟩
              obtain rfl : wq = wq' := hwq
              have HBq := hid' hBq
              clear hBq
              go_wp2
              exact bodyPost_ret (v := .tuple #[.string Ms.bHttps, .string au, .string pa, .bool (g)]) (by simp [results, Tryz.results31, Ms.bHttps]) rfl ⟨by rw [HV.out]; rw [decide_eq_true kn, Bool.true_and], HBq.out⟩
  · subst hsch
    have hr : t.extract 7 t.size = rest := hrest
    have hn : (7 : Int) ≤ (t.size : Int) := h3
    clear hrest hlen
    go_enter Tryz.func31, Tryz.ntmps31
    go_wp2_with fail
    refine (rbeg14 t Ms.bHttp3 true hb1 w).mono ?_
    rintro e w1 ⟨rfl, hw1⟩
    subst w1
    go_wp2_with fail
    refine (rbeg14 t Ms.bHttps3 false hb2 w).mono ?_
    rintro e w1 ⟨rfl, hw1⟩
    subst w1
    go_wp2
    go_loopw [10] (fun s10 wr => ∃ i : Nat, s10 = .int .i64 (i : Int) ∧ i ≤ K ∧ wr = w) (fun s10 _ => K - (intOf s10).toNat)
    case atStart => exact ⟨0, rfl, Nat.zero_le _, rfl⟩
    case round =>
      obtain ⟨i, rfl, hi, hwr⟩ := hrel
      subst wr
      by_cases hlt : i < K
      · have hir : i < rest.size := by omega
        have hir2 : (i : Int) < (rest.size : Int) := by omega
        have hck : L[i]? = some rest[i] := by rw [← HL.out, List.getElem?_eq_getElem (by rw [← Lib.size_eq]; exact hir)]; rfl
        have hgo := Ms.stop_lt (by rw [HK.out]; exact hlt) hck
        unfold Ms.goOn at hgo
        rw [show (rest[i] == 47) = ((rest[i].toNat : Int) == 47) from u8_is (n := 47) (by decide), show (rest[i] == 63) = ((rest[i].toNat : Int) == 63) from u8_is (n := 63) (by decide), Bool.and_eq_true, Bool.not_eq_true', Bool.not_eq_true'] at hgo
        obtain ⟨g1, g2⟩ := hgo
        have g3 : ((rest[i].toNat : Int) != 47) = true := by unfold bne; rw [g1]; rfl
        have g4 : ((rest[i].toNat : Int) != 63) = true := by unfold bne; rw [g2]; rfl
        have g5 : ¬ (rest[i].toNat : Int) = 47 := by simpa using g1
        have g6 : ¬ (rest[i].toNat : Int) = 63 := by simpa using g2
        clear hck
        go_wp2
        go_roundw
        case rel => exact ⟨i + 1, by go_num, by omega, by first | rfl | trivial⟩
        case measure => simp [intOf]; omega
      · obtain rfl : i = K := by omega
        have hiL : (i : Int) ≤ (rest.size : Int) := by omega
        clear hlt hi
        have hend : ∀ (Q : Prop), ((¬ (i : Int) < (rest.size : Int)) → Q) → (∀ (hir : i < rest.size), ((rest[i].toNat : Int) == 47) = true → Q) → (∀ (hir : i < rest.size), ((rest[i].toNat : Int) == 47) = false → ((rest[i].toNat : Int) == 63) = true → Q) → Q := by
          intro Q q1 q2 q3
          by_cases hir : i < rest.size
          · have hck : L[i]? = some rest[i] := by rw [← HL.out, List.getElem?_eq_getElem (by rw [← Lib.size_eq]; exact hir)]; rfl
            have hgo := Ms.stop_at (L := L) (c := rest[i]) (by rw [HK.out]; exact hck)
            unfold Ms.goOn at hgo
            rw [show (rest[i] == 47) = ((rest[i].toNat : Int) == 47) from u8_is (n := 47) (by decide), show (rest[i] == 63) = ((rest[i].toNat : Int) == 63) from u8_is (n := 63) (by decide)] at hgo
            cases g1 : ((rest[i].toNat : Int) == 47)
            · cases g2 : ((rest[i].toNat : Int) == 63)
              · rw [g1, g2] at hgo; cases hgo
              · exact q3 hir g1 g2
            · exact q2 hir g1
          · exact q1 (by omega)
        by_cases kz : i = 0
        · subst kz
          have hae : ByteArray.empty = au := by
            rw [← hau]
            apply ByteArray.ext
            rw [ByteArray.data_extract]
            simp
          apply hend
          · intro g0
            clear hend
            cases e1 : (p0.toList == [])
            · have hp1 : 0 < p0.size := by
                rcases Nat.eq_zero_or_pos p0.size with h | h
                · have h9 : p0.data.toList = [] := List.eq_nil_of_length_eq_zero (by rw [← Lib.size_eq]; omega)
                  rw [Lib.toList_data, h9] at e1
                  simp at e1
                · exact h
              have hq : (((Ms.tx p0).head? == some 47) = ((p0[0].toNat : Int) == ((47 : Nat) : Int))) := head_at hp1 47 (by decide)
              cases e2 : ((p0[0].toNat : Int) == 47)
              · have e3 : ((p0[0].toNat : Int) == ((47 : Nat) : Int)) = false := e2
                have hpa : ⟨#[47]⟩ ++ p0 = pa := by have := HPA.out; unfold Ms.head47 at this; rw [hq, e3, Bool.and_false] at this; exact this
                clear hq e3
                go_upto_region 15 with fail
                have hne : Nonempty (BW w) := ⟨⟨w, Below.refl _ _⟩⟩
                refine wp_region_below_s (by kernel_rfl) (by kernel_rfl) ?_
                repeat (refine QS.step (fun K hK => ?_); go_simp; first | (refine hK _ ?_; clear hK K) | (apply Exists.intro; refine ⟨fun _ => ?_, hK _ ?_⟩; (go_at_call 57; exact Calls.below_same (HG.out _)); clear hK K))
                refine QS.nil ?_
                rintro wq ⟨⟨wq', hBq⟩, hwq⟩
                obtain rfl : wq = wq' := hwq
                have HBq := hid' hBq
                clear hBq
                go_wp2
                exact bodyPost_ret (v := .tuple #[.string Ms.bHttp, .string au, .string pa, .bool (false)]) (by simp [results, Tryz.results31, Ms.bHttp]) rfl ⟨by rw [HV.out]; rfl, HBq.out⟩
              · have e3 : ((p0[0].toNat : Int) == ((47 : Nat) : Int)) = true := e2
                have hpa : p0 = pa := by have := HPA.out; unfold Ms.head47 at this; rw [hq, e3, decide_eq_true hp1] at this; exact this
                clear hq e3
                subst hpa
                go_upto_region 15 with fail
                have hne : Nonempty (BW w) := ⟨⟨w, Below.refl _ _⟩⟩
                refine wp_region_below_s (by kernel_rfl) (by kernel_rfl) ?_
                repeat (refine QS.step (fun K hK => ?_); go_simp; first | (refine hK _ ?_; clear hK K) | (apply Exists.intro; refine ⟨fun _ => ?_, hK _ ?_⟩; (go_at_call 57; exact Calls.below_same (HG.out _)); clear hK K))
                refine QS.nil ?_
                rintro wq ⟨⟨wq', hBq⟩, hwq⟩
                obtain rfl : wq = wq' := hwq
                have HBq := hid' hBq
                clear hBq
                go_wp2
                exact bodyPost_ret (v := .tuple #[.string Ms.bHttp, .string au, .string p0, .bool (false)]) (by simp [results, Tryz.results31, Ms.bHttp]) rfl ⟨by rw [HV.out]; rfl, HBq.out⟩
            · have hz : p0.size = 0 := by
                have h8 := beq_iff_eq.1 e1
                rw [Lib.toList_data] at h8
                rw [Lib.size_eq, h8]; rfl
              have hpa : ⟨#[47]⟩ ++ p0 = pa := by have := HPA.out; unfold Ms.head47 at this; rw [decide_eq_false (show ¬ 0 < p0.size by omega), Bool.false_and] at this; exact this
              clear hz
              go_upto_region 15 with fail
              have hne : Nonempty (BW w) := ⟨⟨w, Below.refl _ _⟩⟩
              refine wp_region_below_s (by kernel_rfl) (by kernel_rfl) ?_
              repeat (refine QS.step (fun K hK => ?_); go_simp; first | (refine hK _ ?_; clear hK K) | (apply Exists.intro; refine ⟨fun _ => ?_, hK _ ?_⟩; (go_at_call 57; exact Calls.below_same (HG.out _)); clear hK K))
              refine QS.nil ?_
              rintro wq ⟨⟨wq', hBq⟩, hwq⟩
              obtain rfl : wq = wq' := hwq
              have HBq := hid' hBq
              clear hBq
              go_wp2
              exact bodyPost_ret (v := .tuple #[.string Ms.bHttp, .string au, .string pa, .bool (false)]) (by simp [results, Tryz.results31, Ms.bHttp]) rfl ⟨by rw [HV.out]; rfl, HBq.out⟩
          · intro hir g1
            have g0 : (0 : Int) < (rest.size : Int) := by omega
            have g3 : ((rest[0].toNat : Int) != 47) = false := by unfold bne; rw [g1]; rfl
            have g5 : (rest[0].toNat : Int) = 47 := by simpa using g1
            clear hend
            cases e1 : (p0.toList == [])
            · have hp1 : 0 < p0.size := by
                rcases Nat.eq_zero_or_pos p0.size with h | h
                · have h9 : p0.data.toList = [] := List.eq_nil_of_length_eq_zero (by rw [← Lib.size_eq]; omega)
                  rw [Lib.toList_data, h9] at e1
                  simp at e1
                · exact h
              have hq : (((Ms.tx p0).head? == some 47) = ((p0[0].toNat : Int) == ((47 : Nat) : Int))) := head_at hp1 47 (by decide)
              cases e2 : ((p0[0].toNat : Int) == 47)
              · have e3 : ((p0[0].toNat : Int) == ((47 : Nat) : Int)) = false := e2
                have hpa : ⟨#[47]⟩ ++ p0 = pa := by have := HPA.out; unfold Ms.head47 at this; rw [hq, e3, Bool.and_false] at this; exact this
                clear hq e3
                go_upto_region 15 with fail
                have hne : Nonempty (BW w) := ⟨⟨w, Below.refl _ _⟩⟩
                refine wp_region_below_s (by kernel_rfl) (by kernel_rfl) ?_
                repeat (refine QS.step (fun K hK => ?_); go_simp; first | (refine hK _ ?_; clear hK K) | (apply Exists.intro; refine ⟨fun _ => ?_, hK _ ?_⟩; (go_at_call 57; exact Calls.below_same (HG.out _)); clear hK K))
                refine QS.nil ?_
                rintro wq ⟨⟨wq', hBq⟩, hwq⟩
                obtain rfl : wq = wq' := hwq
                have HBq := hid' hBq
                clear hBq
                go_wp2
                exact bodyPost_ret (v := .tuple #[.string Ms.bHttp, .string au, .string pa, .bool (false)]) (by simp [results, Tryz.results31, Ms.bHttp]) rfl ⟨by rw [HV.out]; rfl, HBq.out⟩
              · have e3 : ((p0[0].toNat : Int) == ((47 : Nat) : Int)) = true := e2
                have hpa : p0 = pa := by have := HPA.out; unfold Ms.head47 at this; rw [hq, e3, decide_eq_true hp1] at this; exact this
                clear hq e3
                subst hpa
                go_upto_region 15 with fail
                have hne : Nonempty (BW w) := ⟨⟨w, Below.refl _ _⟩⟩
                refine wp_region_below_s (by kernel_rfl) (by kernel_rfl) ?_
                repeat (refine QS.step (fun K hK => ?_); go_simp; first | (refine hK _ ?_; clear hK K) | (apply Exists.intro; refine ⟨fun _ => ?_, hK _ ?_⟩; (go_at_call 57; exact Calls.below_same (HG.out _)); clear hK K))
                refine QS.nil ?_
                rintro wq ⟨⟨wq', hBq⟩, hwq⟩
                obtain rfl : wq = wq' := hwq
                have HBq := hid' hBq
                clear hBq
                go_wp2
                exact bodyPost_ret (v := .tuple #[.string Ms.bHttp, .string au, .string p0, .bool (false)]) (by simp [results, Tryz.results31, Ms.bHttp]) rfl ⟨by rw [HV.out]; rfl, HBq.out⟩
            · have hz : p0.size = 0 := by
                have h8 := beq_iff_eq.1 e1
                rw [Lib.toList_data] at h8
                rw [Lib.size_eq, h8]; rfl
              have hpa : ⟨#[47]⟩ ++ p0 = pa := by have := HPA.out; unfold Ms.head47 at this; rw [decide_eq_false (show ¬ 0 < p0.size by omega), Bool.false_and] at this; exact this
              clear hz
              go_upto_region 15 with fail
              have hne : Nonempty (BW w) := ⟨⟨w, Below.refl _ _⟩⟩
              refine wp_region_below_s (by kernel_rfl) (by kernel_rfl) ?_
              repeat (refine QS.step (fun K hK => ?_); go_simp; first | (refine hK _ ?_; clear hK K) | (apply Exists.intro; refine ⟨fun _ => ?_, hK _ ?_⟩; (go_at_call 57; exact Calls.below_same (HG.out _)); clear hK K))
              refine QS.nil ?_
              rintro wq ⟨⟨wq', hBq⟩, hwq⟩
              obtain rfl : wq = wq' := hwq
              have HBq := hid' hBq
              clear hBq
              go_wp2
              exact bodyPost_ret (v := .tuple #[.string Ms.bHttp, .string au, .string pa, .bool (false)]) (by simp [results, Tryz.results31, Ms.bHttp]) rfl ⟨by rw [HV.out]; rfl, HBq.out⟩
          · intro hir g1 g2
            have g0 : (0 : Int) < (rest.size : Int) := by omega
            have g3 : ((rest[0].toNat : Int) != 47) = true := by unfold bne; rw [g1]; rfl
            have g4 : ((rest[0].toNat : Int) != 63) = false := by unfold bne; rw [g2]; rfl
            have g6 : (rest[0].toNat : Int) = 63 := by simpa using g2
            clear hend
            cases e1 : (p0.toList == [])
            · have hp1 : 0 < p0.size := by
                rcases Nat.eq_zero_or_pos p0.size with h | h
                · have h9 : p0.data.toList = [] := List.eq_nil_of_length_eq_zero (by rw [← Lib.size_eq]; omega)
                  rw [Lib.toList_data, h9] at e1
                  simp at e1
                · exact h
              have hq : (((Ms.tx p0).head? == some 47) = ((p0[0].toNat : Int) == ((47 : Nat) : Int))) := head_at hp1 47 (by decide)
              cases e2 : ((p0[0].toNat : Int) == 47)
              · have e3 : ((p0[0].toNat : Int) == ((47 : Nat) : Int)) = false := e2
                have hpa : ⟨#[47]⟩ ++ p0 = pa := by have := HPA.out; unfold Ms.head47 at this; rw [hq, e3, Bool.and_false] at this; exact this
                clear hq e3
                go_upto_region 15 with fail
                have hne : Nonempty (BW w) := ⟨⟨w, Below.refl _ _⟩⟩
                refine wp_region_below_s (by kernel_rfl) (by kernel_rfl) ?_
                repeat (refine QS.step (fun K hK => ?_); go_simp; first | (refine hK _ ?_; clear hK K) | (apply Exists.intro; refine ⟨fun _ => ?_, hK _ ?_⟩; (go_at_call 57; exact Calls.below_same (HG.out _)); clear hK K))
                refine QS.nil ?_
                rintro wq ⟨⟨wq', hBq⟩, hwq⟩
                obtain rfl : wq = wq' := hwq
                have HBq := hid' hBq
                clear hBq
                go_wp2
                exact bodyPost_ret (v := .tuple #[.string Ms.bHttp, .string au, .string pa, .bool (false)]) (by simp [results, Tryz.results31, Ms.bHttp]) rfl ⟨by rw [HV.out]; rfl, HBq.out⟩
              · have e3 : ((p0[0].toNat : Int) == ((47 : Nat) : Int)) = true := e2
                have hpa : p0 = pa := by have := HPA.out; unfold Ms.head47 at this; rw [hq, e3, decide_eq_true hp1] at this; exact this
                clear hq e3
                subst hpa
                go_upto_region 15 with fail
                have hne : Nonempty (BW w) := ⟨⟨w, Below.refl _ _⟩⟩
                refine wp_region_below_s (by kernel_rfl) (by kernel_rfl) ?_
                repeat (refine QS.step (fun K hK => ?_); go_simp; first | (refine hK _ ?_; clear hK K) | (apply Exists.intro; refine ⟨fun _ => ?_, hK _ ?_⟩; (go_at_call 57; exact Calls.below_same (HG.out _)); clear hK K))
                refine QS.nil ?_
                rintro wq ⟨⟨wq', hBq⟩, hwq⟩
                obtain rfl : wq = wq' := hwq
                have HBq := hid' hBq
                clear hBq
                go_wp2
                exact bodyPost_ret (v := .tuple #[.string Ms.bHttp, .string au, .string p0, .bool (false)]) (by simp [results, Tryz.results31, Ms.bHttp]) rfl ⟨by rw [HV.out]; rfl, HBq.out⟩
            · have hz : p0.size = 0 := by
                have h8 := beq_iff_eq.1 e1
                rw [Lib.toList_data] at h8
                rw [Lib.size_eq, h8]; rfl
              have hpa : ⟨#[47]⟩ ++ p0 = pa := by have := HPA.out; unfold Ms.head47 at this; rw [decide_eq_false (show ¬ 0 < p0.size by omega), Bool.false_and] at this; exact this
              clear hz
              go_upto_region 15 with fail
              have hne : Nonempty (BW w) := ⟨⟨w, Below.refl _ _⟩⟩
              refine wp_region_below_s (by kernel_rfl) (by kernel_rfl) ?_
              repeat (refine QS.step (fun K hK => ?_); go_simp; first | (refine hK _ ?_; clear hK K) | (apply Exists.intro; refine ⟨fun _ => ?_, hK _ ?_⟩; (go_at_call 57; exact Calls.below_same (HG.out _)); clear hK K))
              refine QS.nil ?_
              rintro wq ⟨⟨wq', hBq⟩, hwq⟩
              obtain rfl : wq = wq' := hwq
              have HBq := hid' hBq
              clear hBq
              go_wp2
              exact bodyPost_ret (v := .tuple #[.string Ms.bHttp, .string au, .string pa, .bool (false)]) (by simp [results, Tryz.results31, Ms.bHttp]) rfl ⟨by rw [HV.out]; rfl, HBq.out⟩
        · have kn : 0 < i := by omega
          have k1 : (0 : Int) < (i : Int) := by omega
          clear kz
          apply hend
          · intro g0
            clear hend
            cases e1 : (p0.toList == [])
            · have hp1 : 0 < p0.size := by
                rcases Nat.eq_zero_or_pos p0.size with h | h
                · have h9 : p0.data.toList = [] := List.eq_nil_of_length_eq_zero (by rw [← Lib.size_eq]; omega)
                  rw [Lib.toList_data, h9] at e1
                  simp at e1
                · exact h
              have hq : (((Ms.tx p0).head? == some 47) = ((p0[0].toNat : Int) == ((47 : Nat) : Int))) := head_at hp1 47 (by decide)
              cases e2 : ((p0[0].toNat : Int) == 47)
              · have e3 : ((p0[0].toNat : Int) == ((47 : Nat) : Int)) = false := e2
                have hpa : ⟨#[47]⟩ ++ p0 = pa := by have := HPA.out; unfold Ms.head47 at this; rw [hq, e3, Bool.and_false] at this; exact this
                clear hq e3
                go_upto_region 15 with fail
                have hne : Nonempty (BW w) := ⟨⟨w, Below.refl _ _⟩⟩
                refine wp_region_below_s (by kernel_rfl) (by kernel_rfl) ?_
                repeat (refine QS.step (fun K hK => ?_); go_simp; first | (refine hK _ ?_; clear hK K) | (apply Exists.intro; refine ⟨fun _ => ?_, hK _ ?_⟩; (go_at_call 57; exact Calls.below_same (HG.out _)); clear hK K))
                refine QS.nil ?_
                rintro wq ⟨⟨wq', hBq⟩, hwq⟩
                obtain rfl : wq = wq' := hwq
                have HBq := hid' hBq
                clear hBq
                go_wp2
                exact bodyPost_ret (v := .tuple #[.string Ms.bHttp, .string au, .string pa, .bool (g)]) (by simp [results, Tryz.results31, Ms.bHttp]) rfl ⟨by rw [HV.out]; rw [decide_eq_true kn, Bool.true_and], HBq.out⟩
              · have e3 : ((p0[0].toNat : Int) == ((47 : Nat) : Int)) = true := e2
                have hpa : p0 = pa := by have := HPA.out; unfold Ms.head47 at this; rw [hq, e3, decide_eq_true hp1] at this; exact this
                clear hq e3
                subst hpa
                go_upto_region 15 with fail
                have hne : Nonempty (BW w) := ⟨⟨w, Below.refl _ _⟩⟩
                refine wp_region_below_s (by kernel_rfl) (by kernel_rfl) ?_
                repeat (refine QS.step (fun K hK => ?_); go_simp; first | (refine hK _ ?_; clear hK K) | (apply Exists.intro; refine ⟨fun _ => ?_, hK _ ?_⟩; (go_at_call 57; exact Calls.below_same (HG.out _)); clear hK K))
                refine QS.nil ?_
                rintro wq ⟨⟨wq', hBq⟩, hwq⟩
                obtain rfl : wq = wq' := hwq
                have HBq := hid' hBq
                clear hBq
                go_wp2
                exact bodyPost_ret (v := .tuple #[.string Ms.bHttp, .string au, .string p0, .bool (g)]) (by simp [results, Tryz.results31, Ms.bHttp]) rfl ⟨by rw [HV.out]; rw [decide_eq_true kn, Bool.true_and], HBq.out⟩
            · have hz : p0.size = 0 := by
                have h8 := beq_iff_eq.1 e1
                rw [Lib.toList_data] at h8
                rw [Lib.size_eq, h8]; rfl
              have hpa : ⟨#[47]⟩ ++ p0 = pa := by have := HPA.out; unfold Ms.head47 at this; rw [decide_eq_false (show ¬ 0 < p0.size by omega), Bool.false_and] at this; exact this
              clear hz
              go_upto_region 15 with fail
              have hne : Nonempty (BW w) := ⟨⟨w, Below.refl _ _⟩⟩
              refine wp_region_below_s (by kernel_rfl) (by kernel_rfl) ?_
              repeat (refine QS.step (fun K hK => ?_); go_simp; first | (refine hK _ ?_; clear hK K) | (apply Exists.intro; refine ⟨fun _ => ?_, hK _ ?_⟩; (go_at_call 57; exact Calls.below_same (HG.out _)); clear hK K))
              refine QS.nil ?_
              rintro wq ⟨⟨wq', hBq⟩, hwq⟩
              obtain rfl : wq = wq' := hwq
              have HBq := hid' hBq
              clear hBq
              go_wp2
              exact bodyPost_ret (v := .tuple #[.string Ms.bHttp, .string au, .string pa, .bool (g)]) (by simp [results, Tryz.results31, Ms.bHttp]) rfl ⟨by rw [HV.out]; rw [decide_eq_true kn, Bool.true_and], HBq.out⟩
          · intro hir g1
            have g0 : (i : Int) < (rest.size : Int) := by omega
            have g3 : ((rest[i].toNat : Int) != 47) = false := by unfold bne; rw [g1]; rfl
            have g5 : (rest[i].toNat : Int) = 47 := by simpa using g1
            clear hend
            cases e1 : (p0.toList == [])
            · have hp1 : 0 < p0.size := by
                rcases Nat.eq_zero_or_pos p0.size with h | h
                · have h9 : p0.data.toList = [] := List.eq_nil_of_length_eq_zero (by rw [← Lib.size_eq]; omega)
                  rw [Lib.toList_data, h9] at e1
                  simp at e1
                · exact h
              have hq : (((Ms.tx p0).head? == some 47) = ((p0[0].toNat : Int) == ((47 : Nat) : Int))) := head_at hp1 47 (by decide)
              cases e2 : ((p0[0].toNat : Int) == 47)
              · have e3 : ((p0[0].toNat : Int) == ((47 : Nat) : Int)) = false := e2
                have hpa : ⟨#[47]⟩ ++ p0 = pa := by have := HPA.out; unfold Ms.head47 at this; rw [hq, e3, Bool.and_false] at this; exact this
                clear hq e3
                go_upto_region 15 with fail
                have hne : Nonempty (BW w) := ⟨⟨w, Below.refl _ _⟩⟩
                refine wp_region_below_s (by kernel_rfl) (by kernel_rfl) ?_
                repeat (refine QS.step (fun K hK => ?_); go_simp; first | (refine hK _ ?_; clear hK K) | (apply Exists.intro; refine ⟨fun _ => ?_, hK _ ?_⟩; (go_at_call 57; exact Calls.below_same (HG.out _)); clear hK K))
                refine QS.nil ?_
                rintro wq ⟨⟨wq', hBq⟩, hwq⟩
                obtain rfl : wq = wq' := hwq
                have HBq := hid' hBq
                clear hBq
                go_wp2
                exact bodyPost_ret (v := .tuple #[.string Ms.bHttp, .string au, .string pa, .bool (g)]) (by simp [results, Tryz.results31, Ms.bHttp]) rfl ⟨by rw [HV.out]; rw [decide_eq_true kn, Bool.true_and], HBq.out⟩
              · have e3 : ((p0[0].toNat : Int) == ((47 : Nat) : Int)) = true := e2
                have hpa : p0 = pa := by have := HPA.out; unfold Ms.head47 at this; rw [hq, e3, decide_eq_true hp1] at this; exact this
                clear hq e3
                subst hpa
                go_upto_region 15 with fail
                have hne : Nonempty (BW w) := ⟨⟨w, Below.refl _ _⟩⟩
                refine wp_region_below_s (by kernel_rfl) (by kernel_rfl) ?_
                repeat (refine QS.step (fun K hK => ?_); go_simp; first | (refine hK _ ?_; clear hK K) | (apply Exists.intro; refine ⟨fun _ => ?_, hK _ ?_⟩; (go_at_call 57; exact Calls.below_same (HG.out _)); clear hK K))
                refine QS.nil ?_
                rintro wq ⟨⟨wq', hBq⟩, hwq⟩
                obtain rfl : wq = wq' := hwq
                have HBq := hid' hBq
                clear hBq
                go_wp2
                exact bodyPost_ret (v := .tuple #[.string Ms.bHttp, .string au, .string p0, .bool (g)]) (by simp [results, Tryz.results31, Ms.bHttp]) rfl ⟨by rw [HV.out]; rw [decide_eq_true kn, Bool.true_and], HBq.out⟩
            · have hz : p0.size = 0 := by
                have h8 := beq_iff_eq.1 e1
                rw [Lib.toList_data] at h8
                rw [Lib.size_eq, h8]; rfl
              have hpa : ⟨#[47]⟩ ++ p0 = pa := by have := HPA.out; unfold Ms.head47 at this; rw [decide_eq_false (show ¬ 0 < p0.size by omega), Bool.false_and] at this; exact this
              clear hz
              go_upto_region 15 with fail
              have hne : Nonempty (BW w) := ⟨⟨w, Below.refl _ _⟩⟩
              refine wp_region_below_s (by kernel_rfl) (by kernel_rfl) ?_
              repeat (refine QS.step (fun K hK => ?_); go_simp; first | (refine hK _ ?_; clear hK K) | (apply Exists.intro; refine ⟨fun _ => ?_, hK _ ?_⟩; (go_at_call 57; exact Calls.below_same (HG.out _)); clear hK K))
              refine QS.nil ?_
              rintro wq ⟨⟨wq', hBq⟩, hwq⟩
              obtain rfl : wq = wq' := hwq
              have HBq := hid' hBq
              clear hBq
              go_wp2
              exact bodyPost_ret (v := .tuple #[.string Ms.bHttp, .string au, .string pa, .bool (g)]) (by simp [results, Tryz.results31, Ms.bHttp]) rfl ⟨by rw [HV.out]; rw [decide_eq_true kn, Bool.true_and], HBq.out⟩
          · intro hir g1 g2
            have g0 : (i : Int) < (rest.size : Int) := by omega
            have g3 : ((rest[i].toNat : Int) != 47) = true := by unfold bne; rw [g1]; rfl
            have g4 : ((rest[i].toNat : Int) != 63) = false := by unfold bne; rw [g2]; rfl
            have g6 : (rest[i].toNat : Int) = 63 := by simpa using g2
            clear hend
            cases e1 : (p0.toList == [])
            · have hp1 : 0 < p0.size := by
                rcases Nat.eq_zero_or_pos p0.size with h | h
                · have h9 : p0.data.toList = [] := List.eq_nil_of_length_eq_zero (by rw [← Lib.size_eq]; omega)
                  rw [Lib.toList_data, h9] at e1
                  simp at e1
                · exact h
              have hq : (((Ms.tx p0).head? == some 47) = ((p0[0].toNat : Int) == ((47 : Nat) : Int))) := head_at hp1 47 (by decide)
              cases e2 : ((p0[0].toNat : Int) == 47)
              · have e3 : ((p0[0].toNat : Int) == ((47 : Nat) : Int)) = false := e2
                have hpa : ⟨#[47]⟩ ++ p0 = pa := by have := HPA.out; unfold Ms.head47 at this; rw [hq, e3, Bool.and_false] at this; exact this
                clear hq e3
                go_upto_region 15 with fail
                have hne : Nonempty (BW w) := ⟨⟨w, Below.refl _ _⟩⟩
                refine wp_region_below_s (by kernel_rfl) (by kernel_rfl) ?_
                repeat (refine QS.step (fun K hK => ?_); go_simp; first | (refine hK _ ?_; clear hK K) | (apply Exists.intro; refine ⟨fun _ => ?_, hK _ ?_⟩; (go_at_call 57; exact Calls.below_same (HG.out _)); clear hK K))
                refine QS.nil ?_
                rintro wq ⟨⟨wq', hBq⟩, hwq⟩
                obtain rfl : wq = wq' := hwq
                have HBq := hid' hBq
                clear hBq
                go_wp2
                exact bodyPost_ret (v := .tuple #[.string Ms.bHttp, .string au, .string pa, .bool (g)]) (by simp [results, Tryz.results31, Ms.bHttp]) rfl ⟨by rw [HV.out]; rw [decide_eq_true kn, Bool.true_and], HBq.out⟩
              · have e3 : ((p0[0].toNat : Int) == ((47 : Nat) : Int)) = true := e2
                have hpa : p0 = pa := by have := HPA.out; unfold Ms.head47 at this; rw [hq, e3, decide_eq_true hp1] at this; exact this
                clear hq e3
                subst hpa
                go_upto_region 15 with fail
                have hne : Nonempty (BW w) := ⟨⟨w, Below.refl _ _⟩⟩
                refine wp_region_below_s (by kernel_rfl) (by kernel_rfl) ?_
                repeat (refine QS.step (fun K hK => ?_); go_simp; first | (refine hK _ ?_; clear hK K) | (apply Exists.intro; refine ⟨fun _ => ?_, hK _ ?_⟩; (go_at_call 57; exact Calls.below_same (HG.out _)); clear hK K))
                refine QS.nil ?_
                rintro wq ⟨⟨wq', hBq⟩, hwq⟩
                obtain rfl : wq = wq' := hwq
                have HBq := hid' hBq
                clear hBq
                go_wp2
                exact bodyPost_ret (v := .tuple #[.string Ms.bHttp, .string au, .string p0, .bool (g)]) (by simp [results, Tryz.results31, Ms.bHttp]) rfl ⟨by rw [HV.out]; rw [decide_eq_true kn, Bool.true_and], HBq.out⟩
            · have hz : p0.size = 0 := by
                have h8 := beq_iff_eq.1 e1
                rw [Lib.toList_data] at h8
                rw [Lib.size_eq, h8]; rfl
              have hpa : ⟨#[47]⟩ ++ p0 = pa := by have := HPA.out; unfold Ms.head47 at this; rw [decide_eq_false (show ¬ 0 < p0.size by omega), Bool.false_and] at this; exact this
              clear hz
              go_upto_region 15 with fail
              have hne : Nonempty (BW w) := ⟨⟨w, Below.refl _ _⟩⟩
              refine wp_region_below_s (by kernel_rfl) (by kernel_rfl) ?_
              repeat (refine QS.step (fun K hK => ?_); go_simp; first | (refine hK _ ?_; clear hK K) | (apply Exists.intro; refine ⟨fun _ => ?_, hK _ ?_⟩; (go_at_call 57; exact Calls.below_same (HG.out _)); clear hK K))
              refine QS.nil ?_
              rintro wq ⟨⟨wq', hBq⟩, hwq⟩
              obtain rfl : wq = wq' := hwq
              have HBq := hid' hBq
              clear hBq
              go_wp2
              exact bodyPost_ret (v := .tuple #[.string Ms.bHttp, .string au, .string pa, .bool (g)]) (by simp [results, Tryz.results31, Ms.bHttp]) rfl ⟨by rw [HV.out]; rw [decide_eq_true kn, Bool.true_and], HBq.out⟩

end Go.Proofs.YtkfekopenahmdaaGreatDoor
