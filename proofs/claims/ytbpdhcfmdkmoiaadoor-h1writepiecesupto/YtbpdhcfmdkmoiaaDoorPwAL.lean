/-
  The document's Decimal, by its contract.
  The status that counts, the status line, Bare and Continue, of the code and of the document: by their contracts.
-/
import Derived.Deep.RegionWith
import Derived.Deep.DeepFit
import Derived.Test.YtbpdhcfmdkmoiaaDoorPwAF
import Derived.Test.YtbpdhcfmdkmoiaaDoorPwAJ
import Derived.Test.YtbpdhcfmdkmoiaaDoorPwAH
import Derived.Test.YtbpdhcfmdkmoiaaDoorPwAK
namespace Go.Proofs.YtbpdhcfmdkmoiaaDoor
open Go.RowKit

theorem str_snoc (q : List UInt8) (c : UInt8) : (⟨q.toArray⟩ : ByteArray) ++ ⟨#[c]⟩ = ⟨(q ++ [c]).toArray⟩ := by
  apply ByteArray.ext; simp
theorem bcell {W w1 : World} (hb : Below W.heap.size W w1) : ∀ b o, b < W.heap.size → w1.cell? ⟨b, o, none⟩ = W.cell? ⟨b, o, none⟩ := fun b o h => hb.cell (p := ⟨b, o, none⟩) h
theorem one_back (x : Int) (h0 : 0 ≤ x) (h1 : x ≤ 255) (W : World) (b : Nat) (h : W.cell? ⟨b, 0, none⟩ = some (.int .u8 x)) :
    (convert 72 9 (.slice (some ⟨b, 0, none⟩) 1 1)).run Tryd.prog W = .ok (.string ⟨#[UInt8.ofNat x.toNat]⟩) W := by
  have hx : x = ((UInt8.ofNat x.toNat).toNat : Int) := by simp; omega
  refine run_convert_bytes_back W _ _ 5 ⟨b, 0, none⟩ 1 [UInt8.ofNat x.toNat] Tryd.underlying72 Tryd.underlying5 Tryd.underlying9 ?_
  intro j hj
  obtain rfl : j = 0 := by simpa using hj
  rw [show (⟨b, 0, none⟩ : Addr).add 0 = ⟨b, 0, none⟩ by simp [Addr.add], h]
  simp only [List.getElem_cons_zero]
  rw [← hx]
theorem one_new (x : Int) (h0 : 0 ≤ x) (h1 : x ≤ 255) (W : World) :
    (convert 72 9 (.slice (some ⟨W.heap.size, 0, none⟩) 1 1)).run Tryd.prog (W.alloc (.cells #[.int .u8 x] 5)) = .ok (.string ⟨#[UInt8.ofNat x.toNat]⟩) (W.alloc (.cells #[.int .u8 x] 5)) :=
  one_back x h0 h1 _ _ (by rw [World.cell?_alloc_mark]; rfl)

set_option maxHeartbeats 1000000 in
set_option maxRecDepth 20000 in
theorem rDecimal_lo (n : Int) (h0 : 0 ≤ n) (h : n < 10) (w : World) :
    Calls Tryd.prog 52 #[.int .i64 n] w fun e w' => e = .returned (.string ⟨(Lib.itoa n).toArray⟩) ∧ Below w.heap.size w w' := by
  have HF := hid (Tx.itoa_lo n h0 h)
  have hone := one_new (48 + n) (by omega) (by omega) w
  go_enter Tryd.func52, Tryd.ntmps52
  go_wp2
  go_ret
  exact ⟨ret_str (by rw [HF.out]), (Below.refl _ _).alloc (Nat.le_refl _) _⟩

set_option maxHeartbeats 1000000 in
set_option maxRecDepth 20000 in
theorem rDecimal_nlo (n : Int) (h0 : n < 0) (h : -10 < n) (w : World) :
    Calls Tryd.prog 52 #[.int .i64 n] w fun e w' => e = .returned (.string ⟨(Lib.itoa n).toArray⟩) ∧ Below w.heap.size w w' := by
  have HF := hid (Tx.itoa_nlo n h0 h)
  have HL := hid (Tx.itoa_lo (-n) (by omega) (by omega))
  go_enter Tryd.func52, Tryd.ntmps52
  go_wp2_with fail
  refine (rDecimal_lo (-n) (by omega) (by omega) _).mono ?_
  rintro e w1 ⟨rfl, hb1⟩
  rw [HL.out]
  go_wp2
  go_ret
  exact ⟨ret_str (by rw [HF.out, HL.out]; rfl), hb1⟩

set_option maxHeartbeats 1000000 in
set_option maxRecDepth 20000 in
theorem rDecimal_hi (n : Int) (h : 10 ≤ n) (hm : n ≤ 9223372036854775807) (w : World) (q : List UInt8) (hq : q.length ≤ 1000) (c : UInt8)
    (hc : (48 : Int) + n.tmod 10 = (c.toNat : Int)) (ih : Hid (∀ w, Calls Tryd.prog 52 #[.int .i64 (IntKind.i64.wrap (n.tdiv 10))] w fun e w' => e = .returned (.string ⟨q.toArray⟩) ∧ Below w.heap.size w w')) :
    Calls Tryd.prog 52 #[.int .i64 n] w fun e w' => e = .returned (.string ⟨(q ++ [c]).toArray⟩) ∧ Below w.heap.size w w' := by
  have hx : IntKind.u8.wrap (IntKind.i64.wrap (48 + n.tmod 10)) = (c.toNat : Int) := by
    have := c.toNat_lt
    rw [hc, IntKind.wrap_i64, IntKind.wrap_u8]; omega
  have hone : ∀ (W : World) (b : Nat), W.cell? ⟨b, 0, none⟩ = some (.int .u8 (c.toNat : Int)) → (convert 72 9 (.slice (some ⟨b, 0, none⟩) 1 1)).run Tryd.prog W = .ok (.string ⟨#[c]⟩) W := fun W b hb => by
    have := one_back (c.toNat : Int) (by omega) (by have := c.toNat_lt; omega) W b hb
    simpa using this
  clear hc
  go_enter Tryd.func52, Tryd.ntmps52
  go_wp2
  go_region_with (go_at_call 52; refine (ih.out _).mono ?_; rintro e w1 ⟨rfl, hb1⟩; have hcc := bcell hb1)
  all_goals go_wp2
  all_goals go_ret
  all_goals refine ⟨ret_str ?_, ?_⟩
  all_goals first
    | exact str_snoc q c
    | exact ((Below.refl _ _).drew.trans hb1).alloc hb1.size _
    | exact (((Below.refl _ w).alloc (Nat.le_refl _) _).drew).trans (hb1.mono (by simp))

set_option maxHeartbeats 1000000 in
set_option maxRecDepth 20000 in
theorem rDecimal_nhi (n : Int) (h : n ≤ -10) (hm : -9223372036854775808 ≤ n) (w : World) (q : List UInt8) (hq : q.length ≤ 1000) (c : UInt8)
    (hc : (48 : Int) - n.tmod 10 = (c.toNat : Int)) (ih : Hid (∀ w, Calls Tryd.prog 52 #[.int .i64 (IntKind.i64.wrap (n.tdiv 10))] w fun e w' => e = .returned (.string ⟨q.toArray⟩) ∧ Below w.heap.size w w')) :
    Calls Tryd.prog 52 #[.int .i64 n] w fun e w' => e = .returned (.string ⟨(q ++ [c]).toArray⟩) ∧ Below w.heap.size w w' := by
  have hx : IntKind.u8.wrap (IntKind.i64.wrap (48 - n.tmod 10)) = (c.toNat : Int) := by
    have := c.toNat_lt
    rw [hc, IntKind.wrap_i64, IntKind.wrap_u8]; omega
  have hone : ∀ (W : World) (b : Nat), W.cell? ⟨b, 0, none⟩ = some (.int .u8 (c.toNat : Int)) → (convert 72 9 (.slice (some ⟨b, 0, none⟩) 1 1)).run Tryd.prog W = .ok (.string ⟨#[c]⟩) W := fun W b hb => by
    have := one_back (c.toNat : Int) (by omega) (by have := c.toNat_lt; omega) W b hb
    simpa using this
  clear hc
  go_enter Tryd.func52, Tryd.ntmps52
  go_wp2
  go_region_with (go_at_call 52; refine (ih.out _).mono ?_; rintro e w1 ⟨rfl, hb1⟩; have hcc := bcell hb1)
  all_goals go_wp2
  all_goals go_ret
  all_goals refine ⟨ret_str ?_, ?_⟩
  all_goals first
    | exact str_snoc q c
    | exact ((Below.refl _ _).drew.trans hb1).alloc hb1.size _
    | exact (((Below.refl _ w).alloc (Nat.le_refl _) _).drew).trans (hb1.mono (by simp))

theorem wrap_id (x : Int) (h0 : -9223372036854775808 ≤ x) (h1 : x ≤ 9223372036854775807) : IntKind.i64.wrap x = x := by
  rw [IntKind.wrap_i64]; omega
theorem u8_of (x : Int) (h0 : 0 ≤ x) (h1 : x ≤ 255) : x = ((UInt8.ofNat x.toNat).toNat : Int) := by simp; omega
theorem rDecimal_all : ∀ (m : Nat) (n : Int), n.natAbs ≤ m → -9223372036854775808 ≤ n → n ≤ 9223372036854775807 → ∀ w : World,
    Calls Tryd.prog 52 #[.int .i64 n] w fun e w' => e = .returned (.string ⟨(Lib.itoa n).toArray⟩) ∧ Below w.heap.size w w' := by
  intro m
  induction m with
  | zero => intro n h _ _ w; exact rDecimal_lo n (by omega) (by omega) w
  | succ m ih =>
    intro n h h0 h1 w
    by_cases hn : n < 0
    · by_cases h10 : -10 < n
      · exact rDecimal_nlo n hn h10 w
      · have e1 : n.tdiv 10 = -((-n) / 10) := by rw [← Int.tdiv_eq_ediv_of_nonneg (by omega : 0 ≤ -n), Int.neg_tdiv, Int.neg_neg]
        have e2 : n.tmod 10 = -((-n) % 10) := by rw [← Int.tmod_eq_emod_of_nonneg (by omega : 0 ≤ -n), Int.neg_tmod, Int.neg_neg]
        rw [Tx.itoa_nhi n (by omega)]
        refine rDecimal_nhi n (by omega) h0 w (Lib.itoa (n.tdiv 10)) ?_ _ (u8_of _ (by omega) (by omega)) (hid ?_)
        · have := Tx.itoa_le (n.tdiv 10) 19 (by rw [e1]; omega); omega
        · rw [wrap_id _ (by omega) (by omega)]
          exact ih _ (by omega) (by omega) (by omega)
    · by_cases h10 : n < 10
      · exact rDecimal_lo n (by omega) h10 w
      · have e1 : n.tdiv 10 = n / 10 := Int.tdiv_eq_ediv_of_nonneg (by omega)
        have e2 : n.tmod 10 = n % 10 := Int.tmod_eq_emod_of_nonneg (by omega)
        rw [Tx.itoa_hi n (by omega), ← e1, ← e2]
        refine rDecimal_hi n (by omega) h1 w (Lib.itoa (n.tdiv 10)) ?_ _ (u8_of _ (by omega) (by omega)) (hid ?_)
        · have := Tx.itoa_le (n.tdiv 10) 19 (by rw [e1]; omega); omega
        · rw [wrap_id _ (by omega) (by omega)]
          exact ih _ (by omega) (by omega) (by omega)
theorem rDecimal_any (n : Int) (h0 : -9223372036854775808 ≤ n) (h1 : n ≤ 9223372036854775807) (w : World) :
    Calls Tryd.prog 52 #[.int .i64 n] w fun e w' => e = .returned (.string ⟨(Lib.itoa n).toArray⟩) ∧ Below w.heap.size w w' :=
  rDecimal_all n.natAbs n (Nat.le_refl _) h0 h1 w

end Go.Proofs.YtbpdhcfmdkmoiaaDoor

namespace Go.Proofs.YtbpdhcfmdkmoiaaDoor
open Go.RowKit

namespace Hw
theorem reason_len (s : Int) : (reason s).length ≤ 31 := by
  unfold reason
  split
  · rename_i p h
    have : ∀ p ∈ reasons, p.2.length ≤ 31 := by decide
    exact this p (List.mem_of_find?_eq_some h)
  · decide
theorem line1_len (s : Int) : (line1 s).length ≤ 64 := by
  have h1 := stat_bd s
  have h2 := reason_len (stat s)
  have h3 : (Lib.itoa (stat s)).length ≤ 21 := Tx.itoa_le _ 19 (by omega)
  unfold line1
  simp only [List.length_append, ver, crlf, List.length_cons, List.length_nil]
  omega
theorem sl_cat (a b : T8) : ((((⟨#[72, 84, 84, 80, 47, 49, 46, 49, 32]⟩ : ByteArray) ++ ⟨a.toArray⟩) ++ ⟨#[32]⟩) ++ ⟨b.toArray⟩) ++ ⟨#[13, 10]⟩ = ⟨(ver ++ a ++ [32] ++ b ++ crlf).toArray⟩ := by
  apply ByteArray.ext; simp [ByteArray.data_append, ver, crlf]
end Hw

set_option maxHeartbeats 1000000 in
theorem cstat22 (s : Int) (w : World) : Calls Tryd.prog 26 #[.int .i64 s] w fun e w' => e = .returned (.int .i64 (Hw.stat s)) ∧ w' = w := by
  by_cases d1 : s < 100
  · have HF : Hid (Hw.stat s = 500) := hid' (if_pos (.inl d1))
    go_enter Tryd.func26, Tryd.ntmps26
    go_wp2
    go_ret
    exact ⟨by rw [HF.out]; rfl, rfl⟩
  by_cases d2 : 999 < s
  · have HF : Hid (Hw.stat s = 500) := hid' (if_pos (.inr d2))
    go_enter Tryd.func26, Tryd.ntmps26
    go_wp2
    go_ret
    exact ⟨by rw [HF.out]; rfl, rfl⟩
  have HF : Hid (Hw.stat s = s) := hid' (if_neg (by omega))
  go_enter Tryd.func26, Tryd.ntmps26
  go_wp2
  go_ret
  exact ⟨by rw [HF.out]; rfl, rfl⟩

set_option maxHeartbeats 1000000 in
theorem rstat22 (s : Int) (w : World) : Calls Tryd.prog 32 #[.int .i64 s] w fun e w' => e = .returned (.int .i64 (Hw.stat s)) ∧ w' = w := by
  by_cases d1 : s < 100
  · have HF : Hid (Hw.stat s = 500) := hid' (if_pos (.inl d1))
    go_enter Tryd.func32, Tryd.ntmps32
    go_wp2
    go_ret
    exact ⟨by rw [HF.out]; rfl, rfl⟩
  by_cases d2 : 999 < s
  · have HF : Hid (Hw.stat s = 500) := hid' (if_pos (.inr d2))
    go_enter Tryd.func32, Tryd.ntmps32
    go_wp2
    go_ret
    exact ⟨by rw [HF.out]; rfl, rfl⟩
  have HF : Hid (Hw.stat s = s) := hid' (if_neg (by omega))
  go_enter Tryd.func32, Tryd.ntmps32
  go_wp2
  go_ret
  exact ⟨by rw [HF.out]; rfl, rfl⟩

set_option maxHeartbeats 1000000 in
/-- The status line, of a status that counts. -/
theorem cline22 (s : Int) (w : World) (h : Hw.stat s = s) (hT : TB w) : Calls Tryd.prog 37 #[.int .i64 s] w fun e w' => e = .returned (.string ⟨(Hw.line1 s).toArray⟩) ∧ Below w.heap.size w w' := by
  have hb := Hw.stat_bd s
  obtain ⟨a, ha⟩ : ∃ a, Lib.itoa s = a := ⟨_, rfl⟩
  obtain ⟨b, hbb⟩ : ∃ b, Hw.reason s = b := ⟨_, rfl⟩
  have la : a.length ≤ 21 := by rw [← ha]; exact Tx.itoa_le _ 19 (by omega)
  have lb : b.length ≤ 31 := by rw [← hbb]; exact Hw.reason_len s
  have HL : Hid (Hw.line1 s = Hw.ver ++ a ++ [32] ++ b ++ Hw.crlf) := hid' (by unfold Hw.line1; rw [h, ha, hbb])
  have HD := hid' (fun W (h : Below w.heap.size w W) => decimal_any s (by omega) (by omega) W (hT.keep h).1)
  have HR := hid' (fun W => creason22 s W)
  rw [ha] at HD
  rw [hbb] at HR
  have k1 : ¬ 9223372036854775807 < 9 + a.length := by omega
  have k2 : ¬ 9223372036854775807 < 9 + a.length + 1 := by omega
  have k3 : ¬ 9223372036854775807 < 9 + a.length + 1 + b.length := by omega
  have k4 : ¬ 9223372036854775807 < 9 + a.length + 1 + b.length + 2 := by omega
  clear ha hbb hT h hb la lb
  go_enter Tryd.func37, Tryd.ntmps37
  go_wp2_with fail
  refine (HD.out _ (Below.refl _ _)).mono ?_
  rintro e w1 ⟨rfl, hb1⟩
  have HB1 := hid' hb1
  clear hb1
  go_wp2_with fail
  refine (HR.out _).mono ?_
  rintro e w2 ⟨rfl, hw2⟩
  subst hw2
  go_wp2
  go_ret
  refine ⟨?_, HB1.out⟩
  rw [HL.out, ← Hw.sl_cat]
  rfl

set_option maxHeartbeats 1000000 in
theorem rline22 (s : Int) (w : World) : Calls Tryd.prog 33 #[.int .i64 s] w fun e w' => e = .returned (.string ⟨(Hw.line1 s).toArray⟩) ∧ Below w.heap.size w w' := by
  have hb := Hw.stat_bd s
  obtain ⟨t, ht⟩ : ∃ t, Hw.stat s = t := ⟨_, rfl⟩
  rw [ht] at hb
  obtain ⟨a, ha⟩ : ∃ a, Lib.itoa t = a := ⟨_, rfl⟩
  obtain ⟨b, hbb⟩ : ∃ b, Hw.reason t = b := ⟨_, rfl⟩
  have la : a.length ≤ 21 := by rw [← ha]; exact Tx.itoa_le _ 19 (by omega)
  have lb : b.length ≤ 31 := by rw [← hbb]; exact Hw.reason_len t
  have HL : Hid (Hw.line1 s = Hw.ver ++ a ++ [32] ++ b ++ Hw.crlf) := hid' (by unfold Hw.line1; rw [ht, ha, hbb])
  have HD := hid' (fun W => rDecimal_any t (by omega) (by omega) W)
  have HR := hid' (fun W => rreason22 t W)
  have HS := hid' (rstat22 s w)
  rw [ha] at HD
  rw [hbb] at HR
  rw [ht] at HS
  have k1 : ¬ 9223372036854775807 < 9 + a.length := by omega
  have k2 : ¬ 9223372036854775807 < 9 + a.length + 1 := by omega
  have k3 : ¬ 9223372036854775807 < 9 + a.length + 1 + b.length := by omega
  have k4 : ¬ 9223372036854775807 < 9 + a.length + 1 + b.length + 2 := by omega
  clear ha hbb ht hb la lb
  go_enter Tryd.func33, Tryd.ntmps33
  go_wp2_with fail
  refine HS.out.mono ?_
  rintro e w0 ⟨rfl, hw0⟩
  subst hw0
  go_wp2_with fail
  refine (HD.out _).mono ?_
  rintro e w1 ⟨rfl, hb1⟩
  have HB1 := hid' hb1
  clear hb1
  go_wp2_with fail
  refine (HR.out _).mono ?_
  rintro e w2 ⟨rfl, hw2⟩
  subst hw2
  go_wp2
  go_ret
  refine ⟨?_, HB1.out⟩
  rw [HL.out, ← Hw.sl_cat]
  rfl

namespace Hw
theorem stat_stat (s : Int) : stat (stat s) = stat s := by
  have := stat_bd s
  exact if_neg (by omega)
theorem line1_stat (s : Int) : line1 (stat s) = line1 s := by unfold line1; rw [stat_stat]
theorem cont_cat (a : T8) : ((⟨a.toArray⟩ : ByteArray) ++ ⟨#[13, 10]⟩) = ⟨(a ++ crlf).toArray⟩ := by
  apply ByteArray.ext; simp [ByteArray.data_append, crlf]
end Hw

set_option maxHeartbeats 1000000 in
theorem ccont22 (w : World) (hT : TB w) : Calls Tryd.prog 36 #[] w fun e w' => e = .returned (.string ⟨(Hw.line1 100 ++ Hw.crlf).toArray⟩) ∧ Below w.heap.size w w' := by
  obtain ⟨a, ha⟩ : ∃ a, Hw.line1 100 = a := ⟨_, rfl⟩
  have la : a.length ≤ 64 := by rw [← ha]; exact Hw.line1_len 100
  have HL := hid' (cline22 100 w rfl hT)
  rw [ha] at HL ⊢
  have k1 : ¬ 9223372036854775807 < a.length + 2 := by omega
  clear ha la hT
  go_enter Tryd.func36, Tryd.ntmps36
  go_wp2_with fail
  refine HL.out.mono ?_
  rintro e w1 ⟨rfl, hb1⟩
  have HB1 := hid' hb1
  clear hb1
  go_wp2
  go_ret
  refine ⟨?_, HB1.out⟩
  rw [← Hw.cont_cat]
  rfl

end Go.Proofs.YtbpdhcfmdkmoiaaDoor
