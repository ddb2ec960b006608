/-
  The law TextKeeps, by its contract: it returns true for every text.
-/
import Derived.Test.YtpngddfehaonhabDoorAwake
namespace Go.Proofs.YtpngddfehaonhabDoor
open Go.RowKit

namespace Tx
theorem low_fin : ∀ n : Fin 256, (lowC (UInt8.ofNat n.val)).toNat < 256 ∧ tokC ((lowC (UInt8.ofNat n.val)).toNat : Int) = tokC (n.val : Int) ∧ lowC (lowC (UInt8.ofNat n.val)) = lowC (UInt8.ofNat n.val) ∧ (tokC (n.val : Int) = true → valC (n.val : Int) = true ∧ blkC (n.val : Int) = false) := by decide +kernel
theorem low_all (c : UInt8) : tokC ((lowC c).toNat : Int) = tokC (c.toNat : Int) ∧ lowC (lowC c) = lowC c ∧ (tokC (c.toNat : Int) = true → valC (c.toNat : Int) = true ∧ blkC (c.toNat : Int) = false) := by
  have h := low_fin ⟨c.toNat, c.toNat_lt⟩
  simp only [UInt8.ofNat_toNat] at h
  exact ⟨h.2.1, h.2.2.1, h.2.2.2⟩
theorem lower_lower (l : List UInt8) : lower (lower l) = lower l := by
  unfold lower; rw [List.map_map]; exact List.map_congr_left fun c _ => (low_all c).2.1
theorem isTok_lower (l : List UInt8) : isTok (lower l) = isTok l := by
  unfold isTok allC lower
  rw [List.all_map, List.isEmpty_map]
  congr 1
  exact congrArg (fun f => l.all f) (funext fun c => (low_all c).1)
theorem isTok_mem (l : List UInt8) (h : isTok l = true) : ∀ c ∈ l, tokC (c.toNat : Int) = true := by
  unfold isTok allC at h
  rw [Bool.and_eq_true, List.all_eq_true] at h
  exact h.1
theorem isTok_trim (l : List UInt8) (h : isTok l = true) : trim l = l := by
  have hm := isTok_mem l h
  unfold trim
  rw [trimL_stop l fun x hx => ((low_all x).2.2 (hm x (List.mem_of_mem_head? hx))).2, trimR_stop l fun x hx => ((low_all x).2.2 (hm x (List.mem_of_mem_getLast? hx))).2]
theorem isTok_val (l : List UInt8) (h : isTok l = true) : isVal l = true := by
  unfold isVal
  rw [isTok_trim l h, Bool.and_eq_true]
  refine ⟨?_, by simp⟩
  unfold allC
  rw [List.all_eq_true]
  exact fun c hc => ((low_all c).2.2 (isTok_mem l h c hc)).1
end Tx

theorem size_l (l : List UInt8) : (⟨l.toArray⟩ : ByteArray).size = l.length := by simp [ByteArray.size]
theorem token_l (l : List UInt8) (w : World) (h : l.length ≤ maxLen) : Calls Tryd.prog 5 #[.string ⟨l.toArray⟩] w fun e w' => e = .returned (.bool (Tx.isTok l)) ∧ w' = w :=
  token_any ⟨l.toArray⟩ w (by rw [size_l]; exact h)
theorem lower_l (l : List UInt8) (w : World) (h : l.length ≤ maxLen) : Calls Tryd.prog 9 #[.string ⟨l.toArray⟩] w fun e w' => e = .returned (.string ⟨(Tx.lower l).toArray⟩) ∧ Below w.heap.size w w' :=
  lower_any ⟨l.toArray⟩ w (by rw [size_l]; exact h)
theorem trim_l (l : List UInt8) (w : World) (h : l.length ≤ maxLen) : Calls Tryd.prog 10 #[.string ⟨l.toArray⟩] w fun e w' => e = .returned (.string ⟨(Tx.trim l).toArray⟩) ∧ w' = w :=
  trim_any ⟨l.toArray⟩ w (by rw [size_l]; exact h)
theorem same_l (s : ByteArray) (l : List UInt8) (w : World) (hs : s.size ≤ maxLen) (h : l.length ≤ maxLen) : Calls Tryd.prog 12 #[.string s, .string ⟨l.toArray⟩] w fun e w' => e = .returned (.bool (Tx.lower s.data.toList == Tx.lower l)) ∧ Below w.heap.size w w' :=
  same_any s ⟨l.toArray⟩ w hs (by rw [size_l]; exact h)

set_option maxHeartbeats 2000000 in
theorem textKeeps_any (s : ByteArray) (w : World) (hs : s.size ≤ maxLen) (htab : Lib.TabIs Tryd.prog w "internal/strconv.uint64pow10" .u64 Lib.pow10Tab) :
    Calls Tryd.prog 4 #[.string s] w fun e w' => e = .returned (.bool true) ∧ Below w.heap.size w w' := by
  have HT := hid htab
  clear htab
  have hls : (Tx.lower s.data.toList).length ≤ maxLen := by rw [Tx.lower_length, ← Lib.size_eq]; exact hs
  have hts : (Tx.trim s.data.toList).length ≤ maxLen := by have := Tx.trim_le s.data.toList; rw [← Lib.size_eq] at this; omega
  have HLEN : Hid ((Tx.lower s.data.toList).length = s.size) := hid (by rw [Tx.lower_length, ← Lib.size_eq])
  have HLL := hid (Tx.lower_lower s.data.toList)
  have HTT := hid (Tx.trim_trim s.data.toList)
  have HTL := hid (Tx.isTok_lower s.data.toList)
  have hleq : (Tx.lower s.data.toList == Tx.lower s.data.toList) = true := by simp
  have hll : (((Tx.lower s.data.toList).length : Int) == (s.size : Int)) = true := by rw [beq_iff_eq]; have := HLEN.out; omega
  obtain ⟨tk, htk⟩ : ∃ tk, tk = Tx.isTok s.data.toList := ⟨_, rfl⟩
  have HK := hid htk
  clear htk
  cases tk
  · have hteq : (Tx.trim s.data.toList == Tx.trim s.data.toList) = true := by simp
    go_enter Tryd.func4, Tryd.ntmps4
    go_wp2_with fail
    refine (lower_any s _ hs).mono ?_
    rintro e w1 ⟨rfl, hb1⟩
    have HB1 := hid hb1
    clear hb1
    go_wp2_with fail
    refine (trim_any s _ hs).mono ?_
    rintro e w2 ⟨rfl, rfl⟩
    go_wp2_with fail
    refine (token_any s _ hs).mono ?_
    rintro e w2 ⟨rfl, rfl⟩
    rw [← HK.out]
    go_wp2_with fail
    refine (awake_any _ (tab_below HT.out HB1.out)).mono ?_
    rintro e w3 ⟨rfl, hb3⟩
    have HB3 := hid (below_two HB1.out hb3)
    clear hb3 HB1
    go_wp2_with fail
    refine (lower_l _ _ hls).mono ?_
    rintro e w4 ⟨rfl, hb4⟩
    rw [HLL.out]
    have HB4 := hid (below_two HB3.out hb4)
    clear hb4 HB3
    go_wp2_with fail
    refine (same_l s _ _ hs hls).mono ?_
    rintro e w5 ⟨rfl, hb5⟩
    rw [HLL.out, hleq]
    have HB5 := hid (below_two HB4.out hb5)
    clear hb5 HB4
    go_wp2_with fail
    refine (trim_l _ _ hts).mono ?_
    rintro e w6 ⟨rfl, rfl⟩
    rw [HTT.out]
    go_wp2_with fail
    refine (token_any s _ hs).mono ?_
    rintro e w6 ⟨rfl, rfl⟩
    go_wp2_with fail
    refine (token_l _ _ hls).mono ?_
    rintro e w6 ⟨rfl, rfl⟩
    rw [HTL.out, ← HK.out]
    go_wp2
    go_ret
    exact ⟨rfl, HB5.out⟩
  · have HTS : Hid ((⟨(Tx.trim s.data.toList).toArray⟩ : ByteArray) = s) := hid (by rw [Tx.isTok_trim _ HK.out.symm])
    have HV := hid (Tx.isTok_val _ HK.out.symm)
    have hseq : (s.toList == s.toList) = true := by simp
    go_enter Tryd.func4, Tryd.ntmps4
    go_wp2_with fail
    refine (lower_any s _ hs).mono ?_
    rintro e w1 ⟨rfl, hb1⟩
    have HB1 := hid hb1
    clear hb1
    go_wp2_with fail
    refine (trim_any s _ hs).mono ?_
    rintro e w2 ⟨rfl, rfl⟩
    rw [HTS.out]
    go_wp2_with fail
    refine (token_any s _ hs).mono ?_
    rintro e w2 ⟨rfl, rfl⟩
    rw [← HK.out]
    go_wp2_with fail
    refine (value_any s _ hs).mono ?_
    rintro e w2 ⟨rfl, rfl⟩
    rw [HV.out]
    go_wp2_with fail
    refine (token_l _ _ hls).mono ?_
    rintro e w2 ⟨rfl, rfl⟩
    rw [HTL.out, ← HK.out]
    go_wp2_with fail
    refine (awake_any _ (tab_below HT.out HB1.out)).mono ?_
    rintro e w3 ⟨rfl, hb3⟩
    have HB3 := hid (below_two HB1.out hb3)
    clear hb3 HB1
    go_wp2_with fail
    refine (lower_l _ _ hls).mono ?_
    rintro e w4 ⟨rfl, hb4⟩
    rw [HLL.out]
    have HB4 := hid (below_two HB3.out hb4)
    clear hb4 HB3
    go_wp2_with fail
    refine (same_l s _ _ hs hls).mono ?_
    rintro e w5 ⟨rfl, hb5⟩
    rw [HLL.out, hleq]
    have HB5 := hid (below_two HB4.out hb5)
    clear hb5 HB4
    go_wp2_with fail
    refine (trim_any s _ hs).mono ?_
    rintro e w6 ⟨rfl, rfl⟩
    rw [HTS.out]
    go_wp2_with fail
    refine (token_any s _ hs).mono ?_
    rintro e w6 ⟨rfl, rfl⟩
    go_wp2_with fail
    refine (token_l _ _ hls).mono ?_
    rintro e w6 ⟨rfl, rfl⟩
    rw [HTL.out, ← HK.out]
    go_wp2
    go_ret
    exact ⟨rfl, HB5.out⟩

end Go.Proofs.YtpngddfehaonhabDoor
