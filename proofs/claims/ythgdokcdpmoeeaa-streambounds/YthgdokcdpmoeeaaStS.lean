/-
  (*Book).Do of a stream that there can be: by its contract.
-/
import Derived.Test.YthgdokcdpmoeeaaStR
namespace Go.Proofs.Ythgdokcdpmoeeaa
open Go.RowKit


set_option maxHeartbeats 4000000 in
set_option maxRecDepth 20000 in
theorem sdo_first_any (B b : Nat) (k k' : Sm.Bk) (v u : Value) (n : Nat) (e0 : Bool) (r : Sm.Vd) (w : World) (h : BK w B b k v u) (hodd : n % 2 = 1) (hn : n ≤ 2147483647) (hl : k.last < n)
    (hcall : ∀ w, BK w B b k v u → Calls Try.prog 43 #[.pointer (some ⟨b, 0, none⟩), .int .i64 (n : Int), .bool e0] w fun e w' => e = .returned (.tuple #[.agg #[.bool r.is, .bool r.conn, .int .i64 r.code], .bool r.counts]) ∧ (∃ v' u', BK w' B b k' v' u') ∧ KF B w w') :
    Calls Try.prog 22 #[.pointer (some ⟨b, 0, none⟩), .int .u8 1, .int .i64 (n : Int), .bool e0] w fun e w' => e = .returned (doV r) ∧ (∃ v' u', BK w' B b k' v' u') ∧ KF B w w' := by
  have HC := hid' (sclient_any (n : Int) true (by rw [Bool.and_eq_true]; exact ⟨decide_eq_true (by omega), decide_eq_true (by omega)⟩))
  have hbig : ¬ (2147483647 : Int) < (n : Int) := by omega
  have HN := hid' hn
  have HODD := hid' hodd
  obtain ⟨la, hla⟩ : ∃ la, k.last = la := ⟨_, rfl⟩
  have HLA := hid' hla
  have H := hid' h
  have hlt : (la : Int) < (n : Int) := by omega
  have hlt2 : la < n := by omega
  have HCA := hid' hcall
  obtain ⟨r1, r2, r3, r4, r5⟩ := r
  clear hodd hn hla hl h hcall
  go_enter Try.func22, Try.ntmps22
  go_wp2_with (refine wpl_alloc 29 rfl rfl _ szeroW ?_)
  intro b8 w8 hg8 ha8 hb8
  have hk8 := H.out.keep hb8
  have c1 := hk8.cells.2.1
  rw [HLA.out] at c1
  have HK8 := hid' hk8
  have HA8 := hid' ha8
  have HB8 := hid' hb8
  have HG8 := hid' hg8
  clear hk8 ha8 hb8 hg8
  go_wp2_with fail
  refine (HC.out _).mono ?_
  rintro e w1 ⟨rfl, hw1⟩
  subst w1
  go_wp2_with fail
  refine (HCA.out _ HK8.out).mono ?_
  rintro e w1 ⟨rfl, ⟨v1, u1, hk1⟩, hf1⟩
  have HK1 := hid' hk1
  have HF1 := hid' ((KF.of_below HB8.out H.out.size).trans hf1)
  have HA1 := hid' (hf1.ar HA8.out (by decide) (by decide) (by decide))
  clear hk1 hf1
  go_wp2_with (refine wpl_store 29 _ _ rfl rfl b8 #[.bool r2, .bool r3, .int .i64 r4] (by kernel_rfl) (by kernel_rfl) _ _ HA1.out ssizeW rfl (by simp [Value.oneCell']) ?_)
  intro w2 ha2 hu2
  go_wp2
  have hld := sldW ha2
  have hlow : w.heap.size ≤ b8 := HG8.out
  refine bodyPost_ret (v := doV ⟨r1, r2, r3, r4, r5⟩) (by simp [results, Try.results22, asAddr, hld, doV]) rfl ⟨rfl, ⟨_, _, HK1.out.other hu2 HA1.out (by decide) (by decide) (by decide)⟩, HF1.out.new hu2 hlow H.out.size⟩

set_option maxHeartbeats 4000000 in
set_option maxRecDepth 20000 in
theorem sdo_passed (B b : Nat) (k : Sm.Bk) (v u : Value) (s n : Nat) (e0 : Bool) (w : World) (h : BK w B b k v u) (hodd : n % 2 = 1) (hn : n ≤ 2147483647) (hnf : ¬ (s = 1 ∧ k.last < n)) (hg : Sm.isGot s = true) (hp : k.last < n ∧ n ≤ k.pa) :
    Calls Try.prog 22 #[.pointer (some ⟨b, 0, none⟩), .int .u8 (s : Int), .int .i64 (n : Int), .bool e0] w fun e w' => e = .returned (doV ⟨0, false, false, 0, false⟩) ∧ BK w' B b k v u ∧ KF B w w' := by
  have HC := hid' (sclient_any (n : Int) true (by rw [Bool.and_eq_true]; exact ⟨decide_eq_true (by omega), decide_eq_true (by omega)⟩))
  have hbig : ¬ (2147483647 : Int) < (n : Int) := by omega
  have HN := hid' hn
  have HODD := hid' hodd
  obtain ⟨la, hla⟩ : ∃ la, k.last = la := ⟨_, rfl⟩
  have HLA := hid' hla
  have H := hid' h
  have HT : Hid (¬ (s = 1 ∧ la < n)) := hid' (by rw [← hla]; exact hnf)
  have HPB := hid' (spassedBy_any B b k v u n true (decide_eq_true hp))
  clear hodd hn hla h hnf hp
  by_cases hs1 : s = 1
  · subst hs1
    have hlt : ¬ (la : Int) < (n : Int) := by have := HT.out; omega
    have hlt2 : ¬ la < n := by have := HT.out; omega
    go_enter Try.func22, Try.ntmps22
    go_wp2_with (refine wpl_alloc 29 rfl rfl _ szeroW ?_)
    intro b8 w8 hg8 ha8 hb8
    have hk8 := H.out.keep hb8
    have c1 := hk8.cells.2.1
    rw [HLA.out] at c1
    have HK8 := hid' hk8
    have HA8 := hid' ha8
    have HB8 := hid' hb8
    have HG8 := hid' hg8
    clear hk8 ha8 hb8 hg8
    go_wp2_with fail
    refine (HC.out _).mono ?_
    rintro e w1 ⟨rfl, hw1⟩
    subst w1
    go_wp2_with fail
    refine (sgot_any _ _).mono ?_
    rintro e w1 ⟨rfl, hw1⟩
    subst w1
    simp only [hg]
    go_wp2_with fail
    refine (HPB.out _ HK8.out).mono ?_
    rintro e w1 ⟨rfl, hw1⟩
    subst w1
    go_wp2_with (refine wpl_store 29 _ _ rfl rfl b8 #[.bool false, .bool false, .int .i64 0] (by kernel_rfl) (by kernel_rfl) _ _ HA8.out ssizeW rfl (by simp [Value.oneCell']) ?_)
    intro w2 ha2 hu2
    go_wp2
    have hld := sldW ha2
    have hlow : w.heap.size ≤ b8 := HG8.out
    refine bodyPost_ret (v := doV ⟨0, false, false, 0, false⟩) (by simp [results, Try.results22, asAddr, hld, doV]) rfl ⟨rfl, HK8.out.other hu2 HA8.out (by decide) (by decide) (by decide), (KF.of_below HB8.out H.out.size).new hu2 hlow H.out.size⟩

  · have t1 : ((s : Int) == 1) = false := by simp; omega
    have t2 : (s == 1) = false := by simp; omega
    go_enter Try.func22, Try.ntmps22
    go_wp2_with (refine wpl_alloc 29 rfl rfl _ szeroW ?_)
    intro b8 w8 hg8 ha8 hb8
    have hk8 := H.out.keep hb8
    have c1 := hk8.cells.2.1
    rw [HLA.out] at c1
    have HK8 := hid' hk8
    have HA8 := hid' ha8
    have HB8 := hid' hb8
    have HG8 := hid' hg8
    clear hk8 ha8 hb8 hg8
    go_wp2_with fail
    refine (HC.out _).mono ?_
    rintro e w1 ⟨rfl, hw1⟩
    subst w1
    go_wp2_with fail
    refine (sgot_any _ _).mono ?_
    rintro e w1 ⟨rfl, hw1⟩
    subst w1
    simp only [hg]
    go_wp2_with fail
    refine (HPB.out _ HK8.out).mono ?_
    rintro e w1 ⟨rfl, hw1⟩
    subst w1
    go_wp2_with (refine wpl_store 29 _ _ rfl rfl b8 #[.bool false, .bool false, .int .i64 0] (by kernel_rfl) (by kernel_rfl) _ _ HA8.out ssizeW rfl (by simp [Value.oneCell']) ?_)
    intro w2 ha2 hu2
    go_wp2
    have hld := sldW ha2
    have hlow : w.heap.size ≤ b8 := HG8.out
    refine bodyPost_ret (v := doV ⟨0, false, false, 0, false⟩) (by simp [results, Try.results22, asAddr, hld, doV]) rfl ⟨rfl, HK8.out.other hu2 HA8.out (by decide) (by decide) (by decide), (KF.of_below HB8.out H.out.size).new hu2 hlow H.out.size⟩

set_option maxHeartbeats 4000000 in
set_option maxRecDepth 20000 in
theorem sdo_judge_f (B b : Nat) (k k' : Sm.Bk) (v u : Value) (s n : Nat) (e0 : Bool) (p : Nat) (r : Sm.Vd) (w : World) (h : BK w B b k v u) (hodd : n % 2 = 1) (hn : n ≤ 2147483647) (hnf : ¬ (s = 1 ∧ k.last < n)) (hg : Sm.isGot s = false)
    (hph : Sm.phase k n = p) (hr : Sm.judge s p e0 = r) (hmv : ∀ w, BK w B b k v u → Calls Try.prog 47 #[.pointer (some ⟨b, 0, none⟩), .int .i64 (n : Int), .int .u8 (p : Int), .int .u8 (r.to : Int)] w fun e w' => e = .returned (.tuple #[]) ∧ (∃ v' u', BK w' B b k' v' u') ∧ KF B w w') :
    Calls Try.prog 22 #[.pointer (some ⟨b, 0, none⟩), .int .u8 (s : Int), .int .i64 (n : Int), .bool e0] w fun e w' => e = .returned (doV r) ∧ (∃ v' u', BK w' B b k' v' u') ∧ KF B w w' := by
  have HC := hid' (sclient_any (n : Int) true (by rw [Bool.and_eq_true]; exact ⟨decide_eq_true (by omega), decide_eq_true (by omega)⟩))
  have hbig : ¬ (2147483647 : Int) < (n : Int) := by omega
  have HN := hid' hn
  have HODD := hid' hodd
  obtain ⟨la, hla⟩ : ∃ la, k.last = la := ⟨_, rfl⟩
  have HLA := hid' hla
  have H := hid' h
  have HT : Hid (¬ (s = 1 ∧ la < n)) := hid' (by rw [← hla]; exact hnf)
  have HPH : Hid (Sm.phaseI k (n : Int) = p) := hid' (by rw [phaseI_nat]; exact hph)
  have HJ := hid' (sjudge_any s p (by rw [← hph]; exact Sm.phase_le h.ok n) e0)
  rw [hr] at HJ
  obtain ⟨to, r2, r3, r4, r5⟩ := r
  simp only [vdC] at HJ
  have HMV := hid' hmv
  clear hodd hn hla h hnf hph hr hmv
  have hs1 : ¬ s = 1 := fun e => by rw [e] at hg; cases hg
  have t1 : ((s : Int) == 1) = false := by simp; omega
  have t2 : (s == 1) = false := by simp; omega
  clear HT
  go_enter Try.func22, Try.ntmps22
  go_wp2_with (refine wpl_alloc 29 rfl rfl _ szeroW ?_)
  intro b8 w8 hg8 ha8 hb8
  have hk8 := H.out.keep hb8
  have c1 := hk8.cells.2.1
  rw [HLA.out] at c1
  have HK8 := hid' hk8
  have HA8 := hid' ha8
  have HB8 := hid' hb8
  have HG8 := hid' hg8
  clear hk8 ha8 hb8 hg8
  go_wp2_with fail
  refine (HC.out _).mono ?_
  rintro e w1 ⟨rfl, hw1⟩
  subst w1
  go_wp2_with fail
  refine (sgot_any _ _).mono ?_
  rintro e w1 ⟨rfl, hw1⟩
  subst w1
  simp only [hg]
  go_wp2_with fail
  refine (sphase_any B b k v u (n : Int) p HPH.out _ HK8.out).mono ?_
  rintro e w1 ⟨rfl, hb1⟩
  have HK1 := hid' (HK8.out.keep hb1)
  have HA1 := hid' (HA8.out.keep hb1)
  have HB1 := hid' (below_two HB8.out hb1)
  clear hb1
  go_wp2_with fail
  refine (HJ.out _).mono ?_
  rintro e w2 ⟨rfl, hb2⟩
  have HK2 := hid' (HK1.out.keep hb2)
  have HA2 := hid' (HA1.out.keep hb2)
  have HB2 := hid' (below_two HB1.out hb2)
  clear hb2
  go_wp2_with (refine wpl_alloc 90 rfl rfl _ szeroV ?_)
  intro b11 w3 hg3 ha3 hb3
  have HK3 := hid' (HK2.out.keep hb3)
  have HA3 := hid' (HA2.out.keep hb3)
  have HB3 := hid' (below_two HB2.out hb3)
  have HV3 := hid' ha3
  have HG3 := hid' hg3
  clear ha3 hb3 hg3
  go_wp2_with (refine wpl_store 90 _ _ rfl rfl b11 #[.int .u8 (to : Int), .bool r2, .bool r3, .int .i64 r4, .bool r5] (by kernel_rfl) (by kernel_rfl) _ _ HV3.out ssizeV rfl (by simp [Value.oneCell']) ?_)
  intro w4 hv4 hu4
  have HK4 := hid' (HK3.out.other hu4 HV3.out (by decide) (by decide) (by decide))
  have HA4 := hid' (hu4.keep HA3.out (HA3.out.apart HV3.out (by decide)))
  have HF4 := hid' ((KF.of_below HB3.out H.out.size).new hu4 (by have := HB2.out.size; have := HG3.out; omega) H.out.size)
  have HV4 := hid' hv4
  have d0 := hv4.cell 0 _ rfl
  clear hv4 hu4
  go_wp2_with fail
  refine (HMV.out _ HK4.out).mono ?_
  rintro e w5 ⟨rfl, ⟨v5, u5, hk5⟩, hf5⟩
  have hv5 := hf5.ar HV4.out (by decide) (by decide) (by decide)
  have ha5 := hf5.ar HA4.out (by decide) (by decide) (by decide)
  have HK5 := hid' hk5
  have HF5 := hid' (HF4.out.trans hf5)
  have x1 := hv5.cell 1 _ rfl
  have x2 := hv5.cell 2 _ rfl
  have x3 := hv5.cell 3 _ rfl
  have x4 := hv5.cell 4 _ rfl
  have y0 := ha5.cell 0 _ rfl
  have y1 := ha5.cell 1 _ rfl
  have y2 := ha5.cell 2 _ rfl
  have g0 := ha5.free 0
  have g1 := ha5.free 1
  have g2 := ha5.free 2
  have HA5 := hid' ha5
  clear hk5 hf5 hv5 ha5 d0 c1
  go_wp2
  go_region
  all_goals
    go_wp2
    obtain ⟨ha6, hu6⟩ := sst3 HA5.out (.bool r2) (.bool r3) (.int .i64 r4)
    have hld := sldW ha6.drew
    have hlow : w.heap.size ≤ b8 := HG8.out
    have hk6 := (HK5.out.other hu6 HA5.out (by decide) (by decide) (by decide)).drew
    refine bodyPost_ret (v := doV ⟨to, r2, r3, r4, r5⟩) (by simp [results, Try.results22, asAddr, hld, doV]) rfl ⟨rfl, ⟨_, _, hk6⟩, (HF5.out.new hu6 hlow H.out.size).drew⟩

set_option maxHeartbeats 4000000 in
set_option maxRecDepth 20000 in
theorem sdo_judge_t (B b : Nat) (k k' : Sm.Bk) (v u : Value) (s n : Nat) (e0 : Bool) (p : Nat) (r : Sm.Vd) (w : World) (h : BK w B b k v u) (hodd : n % 2 = 1) (hn : n ≤ 2147483647) (hnf : ¬ (s = 1 ∧ k.last < n)) (hg : Sm.isGot s = true) (hp : ¬ (k.last < n ∧ n ≤ k.pa))
    (hph : Sm.phase k n = p) (hr : Sm.judge s p e0 = r) (hmv : ∀ w, BK w B b k v u → Calls Try.prog 47 #[.pointer (some ⟨b, 0, none⟩), .int .i64 (n : Int), .int .u8 (p : Int), .int .u8 (r.to : Int)] w fun e w' => e = .returned (.tuple #[]) ∧ (∃ v' u', BK w' B b k' v' u') ∧ KF B w w') :
    Calls Try.prog 22 #[.pointer (some ⟨b, 0, none⟩), .int .u8 (s : Int), .int .i64 (n : Int), .bool e0] w fun e w' => e = .returned (doV r) ∧ (∃ v' u', BK w' B b k' v' u') ∧ KF B w w' := by
  have HC := hid' (sclient_any (n : Int) true (by rw [Bool.and_eq_true]; exact ⟨decide_eq_true (by omega), decide_eq_true (by omega)⟩))
  have hbig : ¬ (2147483647 : Int) < (n : Int) := by omega
  have HN := hid' hn
  have HODD := hid' hodd
  obtain ⟨la, hla⟩ : ∃ la, k.last = la := ⟨_, rfl⟩
  have HLA := hid' hla
  have H := hid' h
  have HT : Hid (¬ (s = 1 ∧ la < n)) := hid' (by rw [← hla]; exact hnf)
  have HPB := hid' (spassedBy_any B b k v u n false (decide_eq_false hp))
  have HPH : Hid (Sm.phaseI k (n : Int) = p) := hid' (by rw [phaseI_nat]; exact hph)
  have HJ := hid' (sjudge_any s p (by rw [← hph]; exact Sm.phase_le h.ok n) e0)
  rw [hr] at HJ
  obtain ⟨to, r2, r3, r4, r5⟩ := r
  simp only [vdC] at HJ
  have HMV := hid' hmv
  clear hodd hn hla h hnf hph hr hmv hp
  by_cases hs1 : s = 1
  · subst hs1
    have hlt : ¬ (la : Int) < (n : Int) := by have := HT.out; omega
    have hlt2 : ¬ la < n := by have := HT.out; omega
    go_enter Try.func22, Try.ntmps22
    go_wp2_with (refine wpl_alloc 29 rfl rfl _ szeroW ?_)
    intro b8 w8 hg8 ha8 hb8
    have hk8 := H.out.keep hb8
    have c1 := hk8.cells.2.1
    rw [HLA.out] at c1
    have HK8 := hid' hk8
    have HA8 := hid' ha8
    have HB8 := hid' hb8
    have HG8 := hid' hg8
    clear hk8 ha8 hb8 hg8
    go_wp2_with fail
    refine (HC.out _).mono ?_
    rintro e w1 ⟨rfl, hw1⟩
    subst w1
    go_wp2_with fail
    refine (sgot_any _ _).mono ?_
    rintro e w1 ⟨rfl, hw1⟩
    subst w1
    simp only [hg]
    go_wp2_with fail
    refine (HPB.out _ HK8.out).mono ?_
    rintro e w1 ⟨rfl, hw1⟩
    subst w1
    go_wp2_with fail
    refine (sphase_any B b k v u (n : Int) p HPH.out _ HK8.out).mono ?_
    rintro e w1 ⟨rfl, hb1⟩
    have HK1 := hid' (HK8.out.keep hb1)
    have HA1 := hid' (HA8.out.keep hb1)
    have HB1 := hid' (below_two HB8.out hb1)
    clear hb1
    go_wp2_with fail
    refine (HJ.out _).mono ?_
    rintro e w2 ⟨rfl, hb2⟩
    have HK2 := hid' (HK1.out.keep hb2)
    have HA2 := hid' (HA1.out.keep hb2)
    have HB2 := hid' (below_two HB1.out hb2)
    clear hb2
    go_wp2_with (refine wpl_alloc 90 rfl rfl _ szeroV ?_)
    intro b11 w3 hg3 ha3 hb3
    have HK3 := hid' (HK2.out.keep hb3)
    have HA3 := hid' (HA2.out.keep hb3)
    have HB3 := hid' (below_two HB2.out hb3)
    have HV3 := hid' ha3
    have HG3 := hid' hg3
    clear ha3 hb3 hg3
    go_wp2_with (refine wpl_store 90 _ _ rfl rfl b11 #[.int .u8 (to : Int), .bool r2, .bool r3, .int .i64 r4, .bool r5] (by kernel_rfl) (by kernel_rfl) _ _ HV3.out ssizeV rfl (by simp [Value.oneCell']) ?_)
    intro w4 hv4 hu4
    have HK4 := hid' (HK3.out.other hu4 HV3.out (by decide) (by decide) (by decide))
    have HA4 := hid' (hu4.keep HA3.out (HA3.out.apart HV3.out (by decide)))
    have HF4 := hid' ((KF.of_below HB3.out H.out.size).new hu4 (by have := HB2.out.size; have := HG3.out; omega) H.out.size)
    have HV4 := hid' hv4
    have d0 := hv4.cell 0 _ rfl
    clear hv4 hu4
    go_wp2_with fail
    refine (HMV.out _ HK4.out).mono ?_
    rintro e w5 ⟨rfl, ⟨v5, u5, hk5⟩, hf5⟩
    have hv5 := hf5.ar HV4.out (by decide) (by decide) (by decide)
    have ha5 := hf5.ar HA4.out (by decide) (by decide) (by decide)
    have HK5 := hid' hk5
    have HF5 := hid' (HF4.out.trans hf5)
    have x1 := hv5.cell 1 _ rfl
    have x2 := hv5.cell 2 _ rfl
    have x3 := hv5.cell 3 _ rfl
    have x4 := hv5.cell 4 _ rfl
    have y0 := ha5.cell 0 _ rfl
    have y1 := ha5.cell 1 _ rfl
    have y2 := ha5.cell 2 _ rfl
    have g0 := ha5.free 0
    have g1 := ha5.free 1
    have g2 := ha5.free 2
    have HA5 := hid' ha5
    clear hk5 hf5 hv5 ha5 d0 c1
    go_wp2
    go_region
    all_goals
      go_wp2
      obtain ⟨ha6, hu6⟩ := sst3 HA5.out (.bool r2) (.bool r3) (.int .i64 r4)
      have hld := sldW ha6.drew
      have hlow : w.heap.size ≤ b8 := HG8.out
      have hk6 := (HK5.out.other hu6 HA5.out (by decide) (by decide) (by decide)).drew
      refine bodyPost_ret (v := doV ⟨to, r2, r3, r4, r5⟩) (by simp [results, Try.results22, asAddr, hld, doV]) rfl ⟨rfl, ⟨_, _, hk6⟩, (HF5.out.new hu6 hlow H.out.size).drew⟩

  · have t1 : ((s : Int) == 1) = false := by simp; omega
    have t2 : (s == 1) = false := by simp; omega
    go_enter Try.func22, Try.ntmps22
    go_wp2_with (refine wpl_alloc 29 rfl rfl _ szeroW ?_)
    intro b8 w8 hg8 ha8 hb8
    have hk8 := H.out.keep hb8
    have c1 := hk8.cells.2.1
    rw [HLA.out] at c1
    have HK8 := hid' hk8
    have HA8 := hid' ha8
    have HB8 := hid' hb8
    have HG8 := hid' hg8
    clear hk8 ha8 hb8 hg8
    go_wp2_with fail
    refine (HC.out _).mono ?_
    rintro e w1 ⟨rfl, hw1⟩
    subst w1
    go_wp2_with fail
    refine (sgot_any _ _).mono ?_
    rintro e w1 ⟨rfl, hw1⟩
    subst w1
    simp only [hg]
    go_wp2_with fail
    refine (HPB.out _ HK8.out).mono ?_
    rintro e w1 ⟨rfl, hw1⟩
    subst w1
    go_wp2_with fail
    refine (sphase_any B b k v u (n : Int) p HPH.out _ HK8.out).mono ?_
    rintro e w1 ⟨rfl, hb1⟩
    have HK1 := hid' (HK8.out.keep hb1)
    have HA1 := hid' (HA8.out.keep hb1)
    have HB1 := hid' (below_two HB8.out hb1)
    clear hb1
    go_wp2_with fail
    refine (HJ.out _).mono ?_
    rintro e w2 ⟨rfl, hb2⟩
    have HK2 := hid' (HK1.out.keep hb2)
    have HA2 := hid' (HA1.out.keep hb2)
    have HB2 := hid' (below_two HB1.out hb2)
    clear hb2
    go_wp2_with (refine wpl_alloc 90 rfl rfl _ szeroV ?_)
    intro b11 w3 hg3 ha3 hb3
    have HK3 := hid' (HK2.out.keep hb3)
    have HA3 := hid' (HA2.out.keep hb3)
    have HB3 := hid' (below_two HB2.out hb3)
    have HV3 := hid' ha3
    have HG3 := hid' hg3
    clear ha3 hb3 hg3
    go_wp2_with (refine wpl_store 90 _ _ rfl rfl b11 #[.int .u8 (to : Int), .bool r2, .bool r3, .int .i64 r4, .bool r5] (by kernel_rfl) (by kernel_rfl) _ _ HV3.out ssizeV rfl (by simp [Value.oneCell']) ?_)
    intro w4 hv4 hu4
    have HK4 := hid' (HK3.out.other hu4 HV3.out (by decide) (by decide) (by decide))
    have HA4 := hid' (hu4.keep HA3.out (HA3.out.apart HV3.out (by decide)))
    have HF4 := hid' ((KF.of_below HB3.out H.out.size).new hu4 (by have := HB2.out.size; have := HG3.out; omega) H.out.size)
    have HV4 := hid' hv4
    have d0 := hv4.cell 0 _ rfl
    clear hv4 hu4
    go_wp2_with fail
    refine (HMV.out _ HK4.out).mono ?_
    rintro e w5 ⟨rfl, ⟨v5, u5, hk5⟩, hf5⟩
    have hv5 := hf5.ar HV4.out (by decide) (by decide) (by decide)
    have ha5 := hf5.ar HA4.out (by decide) (by decide) (by decide)
    have HK5 := hid' hk5
    have HF5 := hid' (HF4.out.trans hf5)
    have x1 := hv5.cell 1 _ rfl
    have x2 := hv5.cell 2 _ rfl
    have x3 := hv5.cell 3 _ rfl
    have x4 := hv5.cell 4 _ rfl
    have y0 := ha5.cell 0 _ rfl
    have y1 := ha5.cell 1 _ rfl
    have y2 := ha5.cell 2 _ rfl
    have g0 := ha5.free 0
    have g1 := ha5.free 1
    have g2 := ha5.free 2
    have HA5 := hid' ha5
    clear hk5 hf5 hv5 ha5 d0 c1
    go_wp2
    go_region
    all_goals
      go_wp2
      obtain ⟨ha6, hu6⟩ := sst3 HA5.out (.bool r2) (.bool r3) (.int .i64 r4)
      have hld := sldW ha6.drew
      have hlow : w.heap.size ≤ b8 := HG8.out
      have hk6 := (HK5.out.other hu6 HA5.out (by decide) (by decide) (by decide)).drew
      refine bodyPost_ret (v := doV ⟨to, r2, r3, r4, r5⟩) (by simp [results, Try.results22, asAddr, hld, doV]) rfl ⟨rfl, ⟨_, _, hk6⟩, (HF5.out.new hu6 hlow H.out.size).drew⟩

end Go.Proofs.Ythgdokcdpmoeeaa
